import Derived.Test.YteggpecbeagohaaGreatDoorFrmDef
import Derived.Test.YteggpecbeagohaaGreatDoorCapDefM
import Derived.Test.YteggpecbeagohaaGreatDoorNaiMathM
import Derived.Test.YteggpecbeagohaaGreatDoorAstBM
import Derived.Test.YteggpecbeagohaaGreatDoorClassMM
namespace Go.Proofs.YteggpecbeagohaaGreatDoor.Stp
open Go.RowKit
open Frm (Fr Pl frC frL frI dpI putF zF Wf mayF idF I64 idF_some idF_none)
open Cap (Cp cpC zrC withZ agN agB)
open Ast (Nd kidsZ siz len)
open Nai (holdB setN)
structure Cf where
 f : Int
 p : Int
 c : Cp
def cfL (x : Cf) : List Value := .int .i64 x.f :: .int .i64 x.p :: (cpC x.c).toList
def cfA (x : Cf) : Array Value := (cfL x).toArray
theorem cfL_len (x : Cf) : (cfL x).length = 29 := rfl
structure Sq where
 k : Int
 h : Int
 a : Cf
 b : Cf
def sqL (x : Sq) : List Value := .int .i64 x.k :: .int .i64 x.h :: (cfL x.a ++ cfL x.b)
def sqA (x : Sq) : Array Value := (sqL x).toArray
theorem sqL_len (x : Sq) : (sqL x).length = 60 := rfl
def zCf : Cf := ⟨0, 0, zrC⟩
def failQ : Sq := ⟨0, 0, zCf, zCf⟩
def doneQ : Sq := ⟨1, 0, zCf, zCf⟩
def goQ (x : Cf) : Sq := ⟨2, 0, x, zCf⟩
def goIfQ (b : Bool) (x : Cf) : Sq := if b = true then goQ x else failQ
def choQ (x y : Cf) : Sq := ⟨3, 0, x, y⟩
def subQ (h : Int) (x y : Cf) : Sq := ⟨4, h, x, y⟩
def Cf.on (x : Cf) (i : Int) : Cf := ⟨i, x.p, x.c⟩
structure Mx where
 l : Nat → Nd
 n : Nat
 bk : Nat → Int
 s : ByteArray
 most : Int
def toDo (i : Int) : Fr := ⟨1, i, 0, 0, 0⟩
def putsF (most : Int) : List Pl → Int → List Fr → List Pl × Int × Int
 | M, x, [] => (M, x, 0)
 | M, x, f :: r => if (putF most M ⟨f.k, f.n, f.t, f.f, x⟩).2.2 = 0 then putsF most (putF most M ⟨f.k, f.n, f.t, f.f, x⟩).1 ((putF most M ⟨f.k, f.n, f.t, f.f, x⟩).2.1 : Int) r
   else ((putF most M ⟨f.k, f.n, f.t, f.f, x⟩).1, 0, (putF most M ⟨f.k, f.n, f.t, f.f, x⟩).2.2)
abbrev Ans := Sq × Int × List Pl
def goOnZ (C : Mx) (M : List Pl) (x : Cf) (fs : List Fr) : Ans :=
 if (putsF C.most M x.f fs).2.2 = 0 then (goQ (x.on (putsF C.most M x.f fs).2.1), 0, (putsF C.most M x.f fs).1) else (failQ, (putsF C.most M x.f fs).2.2, (putsF C.most M x.f fs).1)
def eitherZ (C : Mx) (M : List Pl) (nd : Nd) (x : Cf) : Ans :=
 if (putsF C.most M x.f [toDo nd.a]).2.2 = 0 then
  if (putsF C.most (putsF C.most M x.f [toDo nd.a]).1 x.f [toDo nd.b]).2.2 = 0 then
   (choQ (x.on (putsF C.most M x.f [toDo nd.a]).2.1) (x.on (putsF C.most (putsF C.most M x.f [toDo nd.a]).1 x.f [toDo nd.b]).2.1), 0, (putsF C.most (putsF C.most M x.f [toDo nd.a]).1 x.f [toDo nd.b]).1)
  else (failQ, (putsF C.most (putsF C.most M x.f [toDo nd.a]).1 x.f [toDo nd.b]).2.2, (putsF C.most (putsF C.most M x.f [toDo nd.a]).1 x.f [toDo nd.b]).1)
 else (failQ, (putsF C.most M x.f [toDo nd.a]).2.2, (putsF C.most M x.f [toDo nd.a]).1)
def withinZ (C : Mx) (M : List Pl) (h : Int) (f : Fr) (x y : Cf) : Ans :=
 if (putsF C.most M 0 [f]).2.2 = 0 then (subQ h (x.on (putsF C.most M 0 [f]).2.1) y, 0, (putsF C.most M 0 [f]).1) else (failQ, (putsF C.most M 0 [f]).2.2, (putsF C.most M 0 [f]).1)
def lookZ (C : Mx) (M : List Pl) (h : Int) (nd : Nd) (x : Cf) : Ans :=
 if x.p - C.bk nd.a.toNat < 0 then (goIfQ (h == 2) x, 0, M) else withinZ C M h (toDo nd.a) ⟨x.f, x.p - C.bk nd.a.toNat, x.c⟩ x
def singleZ (C : Mx) (nd : Nd) (x : Cf) : Sq :=
 if nd.k = 0 then goQ x
 else if nd.k = 1 then goIfQ (decide (x.p < C.s.size) && mem (setN nd) (Cap.byB C.s x.p.toNat)) ⟨x.f, x.p + 1, x.c⟩
 else if nd.k = 12 then goIfQ (agB x.c C.s nd.n x.p nd.f) ⟨x.f, x.p + agN x.c C.s nd.n x.p nd.f, x.c⟩
 else goIfQ (holdB C.s nd.k x.p.toNat) x
def turnOf (f : Fr) (p : Int) : Fr := ⟨2, f.n, 0, p, 0⟩
def shutOf (f : Fr) (p : Int) : Fr := ⟨3, f.n, 0, p, 0⟩
def doZ (C : Mx) (M : List Pl) (f : Fr) (x : Cf) : Ans :=
 if (C.l f.n.toNat).k = 8 then goOnZ C M (x.on f.x) [toDo (C.l f.n.toNat).b, toDo (C.l f.n.toNat).a]
 else if (C.l f.n.toNat).k = 9 then eitherZ C M (C.l f.n.toNat) (x.on f.x)
 else if (C.l f.n.toNat).k = 11 then goOnZ C M (x.on f.x) [shutOf f x.p, toDo (C.l f.n.toNat).a]
 else if (C.l f.n.toNat).k = 10 then
  if (C.l f.n.toNat).md = 2 then withinZ C M 0 (turnOf f x.p) x (x.on f.x) else goOnZ C M (x.on f.x) [turnOf f x.p]
 else if (C.l f.n.toNat).k = 17 then withinZ C M 0 (toDo (C.l f.n.toNat).a) x (x.on f.x)
 else if (C.l f.n.toNat).k = 13 ∨ (C.l f.n.toNat).k = 15 then lookZ C M 1 (C.l f.n.toNat) (x.on f.x)
 else if (C.l f.n.toNat).k = 14 ∨ (C.l f.n.toNat).k = 16 then lookZ C M 2 (C.l f.n.toNat) (x.on f.x)
 else (singleZ C (C.l f.n.toNat) (x.on f.x), 0, M)
def tK (nd : Nd) (t : Int) : Int := if nd.mx = -1 then min (t + 1) (nd.mn + 1) else t + 1
def turnZ (C : Mx) (M : List Pl) (f : Fr) (x : Cf) : Ans :=
 if (C.l f.n.toNat).mn < f.t ∧ x.p = f.f then (failQ, 0, M)
 else if f.t = (C.l f.n.toNat).mx then (goQ (x.on f.x), 0, M)
 else if (putsF C.most M f.x [⟨2, f.n, tK (C.l f.n.toNat) f.t, x.p, 0⟩, toDo (C.l f.n.toNat).a]).2.2 = 0 then
  (if f.t < (C.l f.n.toNat).mn then goQ (x.on (putsF C.most M f.x [⟨2, f.n, tK (C.l f.n.toNat) f.t, x.p, 0⟩, toDo (C.l f.n.toNat).a]).2.1)
   else if (C.l f.n.toNat).md = 1 then choQ (x.on f.x) (x.on (putsF C.most M f.x [⟨2, f.n, tK (C.l f.n.toNat) f.t, x.p, 0⟩, toDo (C.l f.n.toNat).a]).2.1)
   else choQ (x.on (putsF C.most M f.x [⟨2, f.n, tK (C.l f.n.toNat) f.t, x.p, 0⟩, toDo (C.l f.n.toNat).a]).2.1) (x.on f.x), 0,
    (putsF C.most M f.x [⟨2, f.n, tK (C.l f.n.toNat) f.t, x.p, 0⟩, toDo (C.l f.n.toNat).a]).1)
 else (failQ, (putsF C.most M f.x [⟨2, f.n, tK (C.l f.n.toNat) f.t, x.p, 0⟩, toDo (C.l f.n.toNat).a]).2.2, (putsF C.most M f.x [⟨2, f.n, tK (C.l f.n.toNat) f.t, x.p, 0⟩, toDo (C.l f.n.toNat).a]).1)
def shutZ (C : Mx) (f : Fr) (x : Cf) : Sq := goQ ⟨f.x, x.p, (withZ x.c (C.l f.n.toNat).n f.f x.p).1⟩
def mayC (C : Mx) (f : Fr) (p : Int) : Bool :=
 decide (0 ≤ p ∧ p ≤ C.s.size ∧ (f.k = 1 → f.n < C.n) ∧ (f.k = 2 → f.n < C.n ∧ (C.l f.n.toNat).k = 10 ∧ f.f ≤ p) ∧ (f.k = 3 → f.n < C.n ∧ (C.l f.n.toNat).k = 11 ∧ f.f ≤ p))
def nextZ (C : Mx) (M : List Pl) (x : Cf) : Ans :=
 if 0 ≤ x.f ∧ x.f < M.length ∧ mayC C (frI M x.f.toNat) x.p = true then
  if (frI M x.f.toNat).k = 0 then (doneQ, 0, M)
  else if (frI M x.f.toNat).k = 1 then doZ C M (frI M x.f.toNat) x
  else if (frI M x.f.toNat).k = 2 then turnZ C M (frI M x.f.toNat) x
  else (shutZ C (frI M x.f.toNat) x, 0, M)
 else (failQ, 1, M)
def beginZ (C : Mx) (M : List Pl) (z : Int) : Cf × Int × List Pl :=
 if 0 ≤ z ∧ z ≤ C.s.size then
  if (putsF C.most M 0 [toDo ((C.n : Int) - 1)]).2.2 = 0 then (⟨(putsF C.most M 0 [toDo ((C.n : Int) - 1)]).2.1, z, zrC⟩, 0, (putsF C.most M 0 [toDo ((C.n : Int) - 1)]).1)
  else (zCf, (putsF C.most M 0 [toDo ((C.n : Int) - 1)]).2.2, (putsF C.most M 0 [toDo ((C.n : Int) - 1)]).1)
 else (zCf, 1, M)
def joinZ (h : Int) (b x : Cf) (i : Bool) : Cf × Bool :=
 if h = 0 ∧ i = true then (x.on b.f, true) else if h = 1 ∧ i = true then (⟨b.f, b.p, x.c⟩, true) else if h = 2 ∧ i = false then (b, true) else (zCf, false)
end Go.Proofs.YteggpecbeagohaaGreatDoor.Stp
