import Derived.Test.YteggpecbeagohaaGreatDoorStpMath
namespace Go.Proofs.YteggpecbeagohaaGreatDoor.Stp
open Go.RowKit
open Frm (Fr Pl frC frL frI dpI putF zF Wf mayF idF I64 idF_some idF_none frI_push mayF_x)
open Cap (Cp cpC zrC withZ agN agB)
open Ast (Nd kidsZ siz len)
open Nai (holdB setN)
structure TOk (C : Mx) : Prop where
 n0 : 0 < C.n
 n1 : C.n ≤ 500
 one : ∀ i, i < C.n → kidsZ (C.l i).k = 1 → 0 ≤ (C.l i).a ∧ (C.l i).a < C.n
 two : ∀ i, i < C.n → kidsZ (C.l i).k = 2 → 0 ≤ (C.l i).a ∧ (C.l i).a < C.n ∧ 0 ≤ (C.l i).b ∧ (C.l i).b < C.n
 rep : ∀ i, i < C.n → (C.l i).k = 10 → 0 ≤ (C.l i).mn ∧ (C.l i).mn ≤ 100 ∧ (C.l i).mx ≤ 100 ∧ ((C.l i).mx = -1 ∨ (C.l i).mn ≤ (C.l i).mx)
 bk : ∀ i, i < C.n → 0 ≤ C.bk i ∧ C.bk i ≤ 1000000
 sz : C.s.size ≤ 10000
structure FOk (C : Mx) (f : Fr) : Prop where
 n : 0 ≤ f.n ∧ f.n < C.n
 k : f.k = 1 ∨ f.k = 2 ∧ (C.l f.n.toNat).k = 10 ∧ ((C.l f.n.toNat).mx = -1 → f.t ≤ (C.l f.n.toNat).mn + 1) ∧ ((C.l f.n.toNat).mx ≠ -1 → f.t ≤ (C.l f.n.toNat).mx) ∨ f.k = 3 ∧ (C.l f.n.toNat).k = 11
 t : 0 ≤ f.t ∧ f.t ≤ 1000
 f : 0 ≤ f.f ∧ f.f ≤ C.s.size
theorem FOk.ok {C : Mx} (hT : TOk C) {f : Fr} (h : FOk C f) : OkF f := by
 have := hT.n1; have := hT.sz; have h1 := h.n; have h2 := h.t; have h3 := h.f
 refine ⟨?_, by omega, by omega, by omega⟩
 rcases h.k with h | h | h
 ·exact .inl h
 ·exact .inr (.inl h.1)
 ·exact .inr (.inr h.1)
theorem FOk.next {C : Mx} {f : Fr} (h : FOk C f) (x : Int) : FOk C (withX f x) := ⟨h.n, h.k, h.t, h.f⟩
def FrsOk (C : Mx) (M : List Pl) : Prop := ∀ i, 1 ≤ i → i < M.length → FOk C (frI M i)
inductive Ch (M : List Pl) (p : Int) : Nat → Prop
 | zero : Ch M p 0
 | more {i : Nat} : 1 ≤ i → i < M.length → (frI M i).f ≤ p → Ch M p (frI M i).x.toNat → Ch M p i
theorem Ch.ext {M M1 : List Pl} {p : Int} (e : Ext M M1) {i : Nat} (h : Ch M p i) : Ch M1 p i := by
 induction h with
 | zero => exact .zero
 | more h1 h2 h3 _ ih =>
   refine .more h1 (Nat.lt_of_lt_of_le h2 e.len) ?_ ?_
   ·rw [e.get h2]; exact h3
   ·rw [e.get h2]; exact ih
theorem Lk.ch {M : List Pl} {p : Int} : ∀ {fs x i}, Lk M x fs i → Ch M p x.toNat → (∀ f, f ∈ fs → f.f ≤ p) → Ch M p i.toNat
 | [], _, _, h, k, _ => by rw [show _ = _ from h]; exact k
 | f :: r, x, i, ⟨j, k1, k2, k3, k4⟩, k, hf => by
   refine Lk.ch k4 ?_ (fun g hg => hf g (by simp [hg]))
   rw [Int.toNat_natCast]
   refine .more k1 k2 ?_ ?_
   ·rw [k3]; exact hf f (by simp)
   ·rw [k3]; exact k
structure CfOk (C : Mx) (M : List Pl) (x : Cf) : Prop where
 lo : 0 ≤ x.f
 hi : x.f < M.length
 p0 : 0 ≤ x.p
 p1 : x.p ≤ C.s.size
 ch : Ch M x.p x.f.toNat
theorem CfOk.ext {C : Mx} {M M1 : List Pl} {x : Cf} (h : CfOk C M x) (e : Ext M M1) : CfOk C M1 x := ⟨h.lo, by have := h.hi; have := e.len; omega, h.p0, h.p1, h.ch.ext e⟩
structure StepOk (C : Mx) (M : List Pl) (x : Cf) (q : Sq) : Prop where
 k : q.k = 0 ∨ q.k = 1 ∨ q.k = 2 ∨ q.k = 3 ∨ q.k = 4
 a : 2 ≤ q.k → CfOk C M q.a
 b : 3 ≤ q.k → CfOk C M q.b
 pa : 2 ≤ q.k → q.k ≠ 4 → x.p ≤ q.a.p
 pb : 3 ≤ q.k → q.b.p = x.p
theorem StepOk.fail (C : Mx) (M : List Pl) (x : Cf) : StepOk C M x failQ := ⟨.inl rfl, fun h => by simp [failQ] at h, fun h => by simp [failQ] at h, fun h => by simp [failQ] at h, fun h => by simp [failQ] at h⟩
structure Good (C : Mx) (M : List Pl) (x : Cf) (q : Sq) (M1 : List Pl) : Prop where
 ext : Ext M M1
 wf : Wf M1
 frs : FrsOk C M1
 len : M1.length ≤ M.length + 2
 st : StepOk C M1 x q
structure Fails (C : Mx) (M M1 : List Pl) : Prop where
 ext : Ext M M1
 wf : Wf M1
 frs : FrsOk C M1
 len : (M1.length : Int) - 1 = C.most
def Res (C : Mx) (M : List Pl) (x : Cf) (A : Ans) (R : Int → List Pl → Ans) : Prop :=
 (∃ q M1, A = (q, 0, M1) ∧ Good C M x q M1 ∧ ∀ m M2, Ext M1 M2 → Wf M2 → R m M2 = (q, 0, M2)) ∨ ∃ M1, A = (failQ, 4, M1) ∧ Fails C M M1
theorem frs_new {C : Mx} {M M1 : List Pl} {fs : List Fr} (h : FrsOk C M) (e : Ext M M1) (hf : ∀ f, f ∈ fs → FOk C f) (hn : ∀ j, M.length ≤ j → j < M1.length → ∃ f, f ∈ fs ∧ ∃ y, frI M1 j = withX f y) : FrsOk C M1 := fun i h1 h2 => by
 by_cases h3 : i < M.length
 ·rw [e.get h3]; exact h i h1 h3
 ·obtain ⟨f, h4, y, h5⟩ := hn i (by omega) h2
  rw [h5]; exact (hf f h4).next y
theorem puts_res {C : Mx} {M : List Pl} (hT : TOk C) (hW : Wf M) (hF : FrsOk C M) (hl : M.length ≤ 999000) (fs : List Fr) (y : Int) (hf : ∀ f, f ∈ fs → FOk C f) (hfs : fs.length ≤ 2) (h0 : 0 ≤ y) (h1 : y < M.length) :
  (∃ M1 i, putsF C.most M y fs = (M1, i, 0) ∧ PutsOk M M1 y fs i ∧ FrsOk C M1) ∨ ∃ M1, putsF C.most M y fs = (M1, 0, 4) ∧ Fails C M M1 := by
 rcases putsF_cases C.most fs M y hW (fun f h => (hf f h).ok hT) h0 h1 (by omega) with ⟨M1, i, e, k⟩ | ⟨M1, e, k⟩
 ·exact .inl ⟨M1, i, e, k, frs_new hF k.ext hf k.new⟩
 ·exact .inr ⟨M1, e, k.ext, k.wf, frs_new hF k.ext hf k.new, k.len⟩
section
variable {C : Mx} {M : List Pl} (hT : TOk C) (hW : Wf M) (hF : FrsOk C M) (hl : M.length ≤ 900000)
include hT hW hF hl
omit hT hW hF hl in
theorem do_ok {i : Int} (h : 0 ≤ i ∧ i < C.n) : FOk C (toDo i) := ⟨h, .inl rfl, ⟨Int.le_refl _, by show (0 : Int) ≤ 1000; omega⟩, ⟨Int.le_refl _, by show (0 : Int) ≤ _; omega⟩⟩
end
end Go.Proofs.YteggpecbeagohaaGreatDoor.Stp
