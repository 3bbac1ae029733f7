import Derived.Test.YteggpecbeagohaaGreatDoorStpKit
import Derived.Test.YteggpecbeagohaaGreatDoorStpOk
import Derived.Test.YteggpecbeagohaaGreatDoorAstAM
import Derived.LoopIn
import Derived.Test.YteggpecbeagohaaGreatDoorMz
import Derived.Test.YteggpecbeagohaaGreatDoorCapAgain
import Derived.Test.YteggpecbeagohaaGreatDoorClassMM
import Derived.Test.YteggpecbeagohaaGreatDoorNaiMathM
namespace Go.Proofs.YteggpecbeagohaaGreatDoor.Stp
open Go.RowKit
open Frm (Fr Pl frC frL frI dpI putF zF Wf mayF idF I64 BoxV ptr slc plL plC loadFr storeFr resFB getF sizeFr)
open Cap (Cp cpC zrC withZ agN agB)
open Ast (Nd At12 NodesAt)
structure Wh where
 p : Nat
 g : Nat
 cn : Nat
 h : Nat
 ch : Nat
def Wh.mq (H : Wh) (C : Mx) : Mq := ⟨.slice (some ⟨H.g, 0, none⟩) C.n H.cn, .slice (some ⟨H.h, 0, none⟩) C.n H.ch, C.s, C.most⟩
structure Rm (C : Mx) (H : Wh) (u : World) : Prop where
 c0 : u.cell? ⟨H.p, 0, none⟩ = some (.slice (some ⟨H.g, 0, none⟩) C.n H.cn)
 c1 : u.cell? ⟨H.p, 1, none⟩ = some (.slice (some ⟨H.h, 0, none⟩) C.n H.ch)
 c2 : u.cell? ⟨H.p, 2, none⟩ = some (.string C.s)
 nds : NodesAt u H.g 0 C.n C.l
 bks : H.h < u.heap.size ∧ ∀ i, i < C.n → u.cell? ⟨H.h, i, none⟩ = some (.int .i64 (C.bk i))
structure Mch (w : World) (H : Wh) (C : Mx) (b m : Nat) (o : Option Nat) (M : List Pl) : Prop where
 ms : Ms w H.p b m (H.mq C) o M
 nds : NodesAt w H.g 0 C.n C.l
 bks : H.h < w.heap.size ∧ ∀ i, i < C.n → w.cell? ⟨H.h, i, none⟩ = some (.int .i64 (C.bk i))
 ap : H.g ≠ H.p ∧ H.g ≠ b ∧ H.g ≠ m ∧ H.h ≠ H.p ∧ H.h ≠ b ∧ H.h ≠ m
theorem Mch.rm {w : World} {H : Wh} {C : Mx} {b m : Nat} {o : Option Nat} {M : List Pl} (h : Mch w H C b m o M) : Rm C H w := by
 obtain ⟨c, hb, -⟩ := h.ms.box
 exact ⟨hb.get 0 rfl, hb.get 1 rfl, hb.get 2 rfl, h.nds, h.bks⟩
theorem Mch.below {w u : World} {H : Wh} {C : Mx} {b m : Nat} {o : Option Nat} {M : List Pl} {B : Nat} (h : Mch w H C b m o M) (hb : Below B w u) (hB : w.heap.size ≤ B) : Mch u H C b m o M :=
 ⟨h.ms.below hb hB, h.nds.below hb hB, ⟨Nat.lt_of_lt_of_le h.bks.1 hb.size, fun i hi => (hb.cell (p := ⟨H.h, i, none⟩) (Nat.lt_of_lt_of_le h.bks.1 hB)).trans (h.bks.2 i hi)⟩, h.ap⟩
theorem cell_of_hp {u w : World} {b : Nat} (h : u.heap[b]? = w.heap[b]?) (o : Nat) : u.cell? ⟨b, o, none⟩ = w.cell? ⟨b, o, none⟩ := by
 unfold World.cell?
 simp only [h]
theorem nodes_to {u w : World} {g n : Nat} {l : Nat → Nd} (h : NodesAt w g 0 n l) (hk : u.heap[g]? = w.heap[g]?) (hs : w.heap.size ≤ u.heap.size) : NodesAt u g 0 n l :=
 ⟨Nat.lt_of_lt_of_le h.1 hs, fun i hi => (h.2 i hi).keep fun j => cell_of_hp hk j⟩
def Grows (w : World) (b m b' m' : Nat) : Prop := (b' = b ∨ w.heap.size ≤ b') ∧ (m' = m ∨ w.heap.size ≤ m')
theorem Mch.to {w u : World} {H : Wh} {C : Mx} {b m b' m' : Nat} {o o' : Option Nat} {M M' : List Pl} (h : Mch w H C b m o M) (k : Ms u H.p b' m' (H.mq C) o' M') (hg : Grows w b m b' m') (hs : ButS H.p b m w u) : Mch u H C b' m' o' M' := by
 obtain ⟨a1, a2, a3, a4, a5, a6⟩ := h.ap
 have hl := h.nds.1
 have hl2 := h.bks.1
 have k1 := hs.keep H.g hl a1 a2 a3
 have k2 := hs.keep H.h hl2 a4 a5 a6
 have hz := hs.size
 unfold Grows at hg
 exact ⟨k, nodes_to h.nds k1 hz, ⟨by omega, fun i hi => (cell_of_hp k2 i).trans (h.bks.2 i hi)⟩, by omega⟩
theorem Grows.refl (w : World) (b m : Nat) : Grows w b m b m := ⟨.inl rfl, .inl rfl⟩
theorem Grows.trans {w u : World} {b m b1 m1 b2 m2 : Nat} (h : Grows w b m b1 m1) (k : Grows u b1 m1 b2 m2) (hs : w.heap.size ≤ u.heap.size) : Grows w b m b2 m2 := by
 unfold Grows at *
 omega
theorem Grows.first {w u : World} {b m b1 m1 : Nat} (h : Grows u b m b1 m1) (hs : w.heap.size ≤ u.heap.size) : Grows w b m b1 m1 := by
 unfold Grows at *
 omega
theorem ButS.two {p b m b1 m1 : Nat} {w u v : World} (h : ButS p b m w u) (hg : Grows w b m b1 m1) (k : ButS p b1 m1 u v) : ButS p b m w v :=
 ⟨h.low.trans k.low, fun j hj h1 h2 h3 => (k.keep j (by have := h.size; omega) h1 (by unfold Grows at hg; omega) (by unfold Grows at hg; omega)).trans (h.keep j hj h1 h2 h3)⟩
def Goes (w : World) (H : Wh) (C : Mx) (b m : Nat) (M' : List Pl) (w' : World) : Prop :=
 ∃ b' m', Mch w' H C b' m' none M' ∧ Grows w b m b' m' ∧ ButS H.p b m w w'
theorem Goes.refl {w : World} {H : Wh} {C : Mx} {b m : Nat} {M : List Pl} (h : Mch w H C b m none M) : Goes w H C b m M w := ⟨b, m, h, .refl w b m, .of_below (Below.refl _ w)⟩
theorem Goes.next {w u v : World} {H : Wh} {C : Mx} {b m : Nat} {M : List Pl} (h : Goes w H C b m M u) (k : Below u.heap.size u v) : Goes w H C b m M v := by
 obtain ⟨b', m', h1, h2, h3⟩ := h
 exact ⟨b', m', h1.below k (Nat.le_refl _), h2, h3.next k⟩
theorem Goes.first {w u v : World} {H : Wh} {C : Mx} {b m : Nat} {M : List Pl} (k : Below w.heap.size w u) (h : Goes u H C b m M v) : Goes w H C b m M v := by
 obtain ⟨b', m', h1, h2, h3⟩ := h
 exact ⟨b', m', h1, h2.first k.size, .first k h3⟩
theorem Goes.keep {w u : World} {H : Wh} {C : Mx} {b m : Nat} {M : List Pl} (h : Goes w H C b m M u) {j : Nat} (hj : j < w.heap.size) (h1 : j ≠ H.p) (h2 : j ≠ b) (h3 : j ≠ m) : u.heap[j]? = w.heap[j]? := by
 obtain ⟨b', m', -, -, h4⟩ := h
 exact h4.keep j hj h1 h2 h3
theorem Goes.size {w u : World} {H : Wh} {C : Mx} {b m : Nat} {M : List Pl} (h : Goes w H C b m M u) : w.heap.size ≤ u.heap.size := by
 obtain ⟨b', m', -, -, h4⟩ := h
 exact h4.size
set_option maxHeartbeats 1000000 in
theorem isPlace_any (C : Mx) (H : Wh) (z : Int) (w : World) (h : Rm C H w) (hs : C.s.size ≤ 10000) :
  Calls Tryz.prog 25 #[ptr H.p, .int .i64 z] w fun e w' => e = .returned (.bool (decide (0 ≤ z ∧ z ≤ C.s.size))) ∧ w = w' := by
 have h2 := h.c2
 have s0 : (C.s.size : Int) ≤ 10000 := by omega
 by_cases k0 : 0 ≤ z
 ·by_cases k1 : z ≤ C.s.size
  ·rw [show decide (0 ≤ z ∧ z ≤ C.s.size) = true by simp [k0, k1]]
   clear h
   go_enter Tryz.func25, Tryz.ntmps25
   go_wp2_with fail
   go_ret
   exact ⟨rfl, rfl⟩
  ·rw [show decide (0 ≤ z ∧ z ≤ C.s.size) = false by simp [k1]]
   clear h
   have k2 : decide (z ≤ C.s.size) = false := by simpa using k1
   go_enter Tryz.func25, Tryz.ntmps25
   go_wp2_with fail
   go_ret
   exact ⟨rfl, rfl⟩
 ·rw [show decide (0 ≤ z ∧ z ≤ C.s.size) = false by simp [k0]]
  clear h
  go_enter Tryz.func25, Tryz.ntmps25
  go_wp2_with fail
  go_ret
  exact ⟨rfl, rfl⟩
def FrsAt (w : World) (g : Nat) (fs : List Fr) : Prop := g < w.heap.size ∧ ∀ i, (hi : i < fs.length) → w.rangeAt g (i * 5) (frL fs[i])
theorem FrsAt.to {w u : World} {g : Nat} {fs : List Fr} (h : FrsAt w g fs) (hk : u.heap[g]? = w.heap[g]?) (hs : w.heap.size ≤ u.heap.size) : FrsAt u g fs :=
 ⟨Nat.lt_of_lt_of_le h.1 hs, fun i hi j v hv => (cell_of_hp hk _).trans (h.2 i hi j v hv)⟩
theorem drop_cons {α : Type} {l : List α} {k : Nat} (h : k < l.length) : l.drop k = l[k] :: l.drop (k + 1) := List.drop_eq_getElem_cons h
section
variable {ops : Array Oper} {rest : List Oper} {o : Oper} {a : Act} {w : World} {Q : Exit → Act → World → Prop}
theorem newFr (ho : o.op = .alloc 90) (hw : Region.wanted o (yielded ops a.tmps) = true)
  (h : ∀ u, Hid (New 90 (frC zF) w u) → wpList Tryz.prog ops Q rest (a.put o.dst (.pointer (some ⟨w.heap.size, 0, none⟩))) u) : wpList Tryz.prog ops Q (o :: rest) a w :=
 lineW _ (w.alloc (.cells (frC zF) 90)) hw (by unfold execOp; simp only [ho]; kernel_rfl) (h _ (Lib.hid (New.of _ _ _)))
theorem putFr (hgd : o.guard = none) (x y : Operand) (ho : o.op = .store 90 x y) (g : Nat) (f0 f : Fr) (hx : a.eval x = .pointer (some ⟨g, 0, none⟩)) (hy : a.eval y = .agg (frC f)) (hg : BoxV 90 w g (frC f0))
  (h : ∀ u, Hid (Put 90 g (frC f) w u) → wpList Tryz.prog ops Q rest (a.put o.dst undef) u) : wpList Tryz.prog ops Q (o :: rest) a w := by
 refine wpList_store_row hgd 90 x y ho g _ hx hy _ _ hg sizeFr rfl (by simp [Value.oneCell']) ?_
 exact h _ (Lib.hid ⟨setRow_heap w g _ _ _ _ hg, fun B hB => (Below.refl _ w).trans ⟨rfl, rfl, rfl, by simp, fun k hk => setRow_other w g k _ (by omega)⟩, fun k hk => setRow_other w g k _ hk⟩)
end
end Go.Proofs.YteggpecbeagohaaGreatDoor.Stp
namespace Go.Proofs.YteggpecbeagohaaGreatDoor.Stp
open Go.RowKit
open Frm (Fr Pl frC frL frI dpI putF zF Wf mayF idF I64 BoxV ptr slc plL plC loadFr storeFr resFB getF sizeFr)
open Cap (Cp cpC zrC withZ agN agB)
open Ast (Nd At12 NodesAt)
structure MpI (w : World) (H : Wh) (C : Mx) (b m : Nat) (o : Option Nat) (M : List Pl) (x0 : Int) (gs : Nat) (fs : List Fr) (k : Nat) (y : Int) (wr : World) (b1 m1 : Nat) (o1 : Option Nat) (M1 : List Pl) : Prop where
 mch : Mch wr H C b1 m1 o1 M1
 old : o1 = none ∨ k = 0
 grows : Grows w b m b1 m1
 buts : ButS H.p b m w wr
 frs : FrsAt wr gs fs
 eq : putsF C.most M x0 fs = putsF C.most M1 y (fs.drop k)
 y0 : 0 ≤ y
 y1 : y < M1.length
 len : M1.length ≤ M.length + k
def MputRes (w : World) (H : Wh) (C : Mx) (b m : Nat) (r : List Pl × Int × Int) (e : Ending) (w' : World) : Prop := e = .returned (.tuple #[.int .i64 r.2.1, .int .i64 r.2.2]) ∧ Goes w H C b m r.1 w'
set_option maxRecDepth 100000 in
set_option maxHeartbeats 4000000 in
theorem mput_any (H : Wh) (C : Mx) (b m : Nat) (o : Option Nat) (M : List Pl) (x0 : Int) (gs cap : Nat) (fs : List Fr) (w : World) (h : Mch w H C b m o M) (hf : FrsAt w gs fs) (hg : gs ≠ H.p ∧ gs ≠ b ∧ gs ≠ m) (hcap : fs.length ≤ cap) (hok : ∀ f, f ∈ fs → OkF f) (hx0 : 0 ≤ x0) (hx1 : x0 < M.length) (hl : M.length + fs.length ≤ 990000) (hne : 0 < fs.length) :
  Calls Tryz.prog 26 #[ptr H.p, .int .i64 x0, .slice (some ⟨gs, 0, none⟩) fs.length cap] w (MputRes w H C b m (putsF C.most M x0 fs)) := by
 have ST := Lib.hid (show MpI w H C b m o M x0 gs fs 0 x0 w b m o M from ⟨h, .inr rfl, .refl w b m, .of_below (Below.refl _ w), hf, rfl, hx0, hx1, by omega⟩)
 have HG := Lib.hid hg
 have HO := Lib.hid hok
 have HL := Lib.hid (And.intro hl (And.intro hcap (And.intro hf.1 h.ms.apart)))
 have HNE := Lib.hid hne
 obtain ⟨N, hN⟩ : ∃ N, fs.length = N := ⟨_, rfl⟩
 have HN := Lib.hid hN
 have n0 : (0 : Int) ≤ N := by omega
 have n1 : (N : Int) ≤ 990000 := by omega
 rw [hN]
 clear h hf hg hok hx0 hx1 hl hN hcap hne
 go_enter Tryz.func26, Tryz.ntmps26
 go_wp2_with fail
 go_loopw [1, 14] (fun x i wr => ∃ (k : Nat) (y : Int) (b1 m1 : Nat) (o1 : Option Nat) (M1 : List Pl), i = .int .i64 (k : Int) ∧ x = .int .i64 y ∧ k ≤ N ∧ RowKit.Hid (MpI w H C b m o M x0 gs fs k y wr b1 m1 o1 M1)) (fun _ i _ => N - (intOf i).toNat)
 case atStart => exact ⟨0, x0, b, m, o, M, rfl, rfl, Nat.zero_le _, ST⟩
 case round =>
  obtain ⟨k, y, b1, m1, o1, M1, rfl, rfl, hkN, HI⟩ := hrel
  clear ST
  have k0 : (0 : Int) ≤ k := by omega
  by_cases hlt : k < N
  ·have k1 : (k : Int) < N := by omega
   have hkf : k < fs.length := by rw [HN.out]; exact hlt
   obtain ⟨f, ef⟩ : ∃ f, fs[k] = f := ⟨_, rfl⟩
   have HF := Lib.hid (show OkF f ∧ fs.drop k = f :: fs.drop (k + 1) from ⟨HO.out f (ef ▸ List.getElem_mem hkf), by rw [drop_cons hkf, ef]⟩)
   have HR := Lib.hid (show wr.rangeAt gs (k * 5) (frL f) from ef ▸ HI.out.frs.2 k hkf)
   have HK := Lib.hid hlt
   clear hlt hkN hkf ef
   go_wp2_with (first | refine loadFr rfl _ rfl gs (k * 5) f rfl HR.out ?_ | refine newFr rfl (by rfl) ?_)
   intro u1 X1
   go_wp2_with (refine putFr rfl _ _ rfl wr.heap.size zF f rfl rfl X1.out.box ?_)
   intro u2 X2
   go_wp2_with (refine putI 90 rfl _ _ rfl wr.heap.size 4 y f.x (frC f) rfl rfl X2.out.box rfl ?_)
   intro u3 X3
   go_wp2_with fail
   have HB3 := Lib.hid (X1.out.low.trans ((X2.out.low _ (Nat.le_refl _)).trans (X3.out.low _ (Nat.le_refl _))))
   have hB := HB3.out
   have M3 := Lib.hid (HI.out.mch.below hB (Nat.le_refl _))
   have X4 := Lib.hid (show BoxV 90 u3.drew wr.heap.size (frC (withX f y)) from X3.out.box)
   have hwf := HI.out.mch.ms.wf
   have hy0 := HI.out.y0
   have hy1 := HI.out.y1
   have hlen := HI.out.len
   have hNN := HN.out
   have hll := HL.out.1
   have hKK := HK.out
   have hap := HI.out.mch.ms.apart
   have MY := Lib.hid (HF.out.1.may hy0 hy1)
   have CP := Lib.hid (put_any H.p b1 m1 (H.mq C) o1 M1 (withX f y) u3.drew (M3.out.below (B := u3.heap.size) (Below.refl _ u3).drew (Nat.le_refl _)).ms (HF.out.1.i64 hy0 (by omega)) MY.out (by omega))
   have PC := Lib.hid (putF_cases hwf (HF.out.1.i64 hy0 (by omega)) MY.out C.most)
   have AP := Lib.hid hap
   clear hwf hy0 hy1 hlen hNN hll hKK hap hB X1 X2 X3
   have hS : BoxV 90 u3.drew wr.heap.size (frC (withX f y)) := X4.out
   refine wp_region_held_drew (S := fun u => BoxV 90 u wr.heap.size (frC (withX f y))) (by kernel_rfl) hS (fun _ => ?_)
   refine takeAt 0 21 (ptr H.p) rfl rfl (by kernel_rfl) (by kernel_rfl) (by kernel_rfl) i_ (yields (by rfl) (fun w => by kernel_rfl)) hS ?_
   simp only [Act.put, sA_, s0_, sS_]
   refine takeAt 1 22 (ptr H.p) rfl rfl (by kernel_rfl) (by kernel_rfl) (by kernel_rfl) i_ (yields (by rfl) (fun w => by kernel_rfl)) hS ?_
   simp only [Act.put, sA_, s0_, sS_]
   refine takeAt 2 23 (fp H.p) rfl rfl (by kernel_rfl) (by kernel_rfl) (by kernel_rfl) i_ (yields (by rfl) (fun w => by kernel_rfl)) hS ?_
   simp only [Act.put, sA_, s0_, sS_]
   refine takeAt 3 24 (.agg (frC (withX f y))) rfl rfl (by kernel_rfl) (by kernel_rfl) (by kernel_rfl) i_ (ldFr_y wr.heap.size (withX f y) (fun _ h => h) rfl rfl (by rfl)) hS ?_
   simp only [Act.put, sA_, s0_, sS_]
   refine callAt 4 25 rfl rfl (by kernel_rfl) (by rfl) (by kernel_rfl) CP.out ?_
   rintro e u4 ⟨rfl, b2, m2, hms, hgr1, hgr2, hbs⟩
   have hs4 : BoxV 90 u4 wr.heap.size (frC (withX f y)) := (hbs.keep _ (lt_of_block X4.out) (by have := AP.out; omega) (by have := AP.out; omega) (by have := AP.out; omega)).trans X4.out
   refine ⟨_, rfl, hs4, ?_⟩
   obtain ⟨r, hr⟩ : ∃ r, putF C.most M1 (withX f y) = r := ⟨_, rfl⟩
   rw [show (H.mq C).most = C.most from rfl, hr] at hms
   rw [show (H.mq C).most = C.most from rfl, hr]
   have hBB := HB3.out
   have hsz := hBB.size
   have G4 := Lib.hid (show Grows wr b1 m1 b2 m2 by have h1 : u3.drew.heap.size = u3.heap.size := rfl; unfold Grows; omega)
   have B4 := Lib.hid (show ButS H.p b1 m1 wr u4 from .first (hBB.trans ((Below.refl _ u3).drew.mono (by omega))) hbs)
   have M4 := Lib.hid (HI.out.mch.to hms G4.out B4.out)
   have F4 := Lib.hid (show FrsAt u4 gs fs by
    have e := HL.out.2.2.1
    have a := HL.out.2.2.2
    have g := HG.out
    have s := HI.out.buts.size
    have gr := HI.out.grows
    refine HI.out.frs.to (B4.out.keep gs (by omega) g.1 ?_ ?_) B4.out.size
    ·unfold Grows at gr; omega
    ·unfold Grows at gr; omega)
   rw [hr] at PC
   have RE := Lib.hid hr
   clear hms hgr1 hgr2 hbs hBB hsz CP M3 X4 HB3 hr hS
   simp only [Act.put, sA_, s0_, sS_]
   refine takeAt 5 20 (.tuple #[.int .i64 (r.2.1 : Int), .int .i64 r.2.2]) rfl rfl (by kernel_rfl) (by kernel_rfl) (by kernel_rfl) i_ (yields (by rfl) (fun w => by kernel_rfl)) hs4 ?_
   simp only [Act.put, sA_, s0_, sS_]
   refine takeAt 6 26 (.int .i64 (r.2.1 : Int)) rfl rfl (by kernel_rfl) (by kernel_rfl) (by kernel_rfl) i_ (yields (by rfl) (fun w => by kernel_rfl)) hs4 ?_
   simp only [Act.put, sA_, s0_, sS_]
   refine takeAt 7 27 (.int .i64 r.2.2) rfl rfl (by kernel_rfl) (by kernel_rfl) (by kernel_rfl) i_ (yields (by rfl) (fun w => by kernel_rfl)) hs4 ?_
   simp only [Act.put, sA_, s0_, sS_]
   refine takeAt 8 10 (.int .i64 (r.2.1 : Int)) rfl rfl (by kernel_rfl) (by kernel_rfl) (by kernel_rfl) i_ (yields (by rfl) (fun w => by kernel_rfl)) hs4 ?_
   simp only [Act.put, sA_, s0_, sS_]
   refine takeAt 9 11 (.int .i64 r.2.2) rfl rfl (by kernel_rfl) (by kernel_rfl) (by kernel_rfl) i_ (yields (by rfl) (fun w => by kernel_rfl)) hs4 ?_
   simp only [Act.put, sA_, s0_, sS_]
   refine wpAnyH_done (by kernel_rfl) ?_ _
   clear hs4
   rcases PC.out with ⟨M2, id, e, hk⟩ | ⟨e, hk⟩
   ·obtain rfl := e
    have PK := Lib.hid hk
    clear PC hk
    go_wp2_with fail
    go_roundw
    refine ⟨k + 1, id, b2, m2, none, M2, ?_, rfl, ?_, Lib.hid ⟨M4.out, .inl rfl, HI.out.grows.trans G4.out HI.out.buts.size, HI.out.buts.two HI.out.grows B4.out, F4.out, ?_, ?_, ?_, ?_⟩⟩
    ·rfl
    ·have := HK.out; omega
    ·rw [HI.out.eq, HF.out.2, putsF_cons, RE.out]; rfl
    ·omega
    ·have := PK.out.lt; omega
    ·have := PK.out.len; have := HI.out.len; omega
    ·have := HK.out; simp [intOf]; omega
   ·obtain rfl := e
    clear PC hk
    go_wp2_with fail
    go_ret2
    refine ⟨?_, ?_⟩
    ·rw [HI.out.eq, HF.out.2, putsF_cons, RE.out]; rfl
    ·rw [HI.out.eq, HF.out.2, putsF_cons, RE.out]
     exact ⟨b2, m2, M4.out, HI.out.grows.trans G4.out HI.out.buts.size, HI.out.buts.two HI.out.grows B4.out⟩
  ·have hk : k = N := by omega
   subst hk
   go_wp2_with fail
   go_ret2
   have he : putsF C.most M x0 fs = (M1, y, 0) := by
    rw [HI.out.eq, List.drop_eq_nil_of_le (by rw [HN.out]; exact Nat.le_refl _)]
    rfl
   rcases HI.out.old with e | e
   ·subst e
    refine ⟨?_, ?_⟩
    ·rw [he]; rfl
    ·rw [he]
     exact ⟨b1, m1, HI.out.mch, HI.out.grows, HI.out.buts⟩
   ·have := HNE.out; have := HN.out; omega
end Go.Proofs.YteggpecbeagohaaGreatDoor.Stp
namespace Go.Proofs.YteggpecbeagohaaGreatDoor.Stp
open Go.RowKit
open Frm (Fr Pl frC frL frI dpI putF zF Wf mayF idF I64 BoxV ptr slc plL plC loadFr storeFr resFB getF sizeFr owns_block)
open Cap (Cp cpC zrC withZ agN agB)
open Ast (Nd At12 NodesAt)
def StepRes (w : World) (H : Wh) (C : Mx) (b m : Nat) (A : Ans) (e : Ending) (w' : World) : Prop := e = .returned (.tuple #[.agg (sqA A.1), .int .i64 A.2.1]) ∧ Goes w H C b m A.2.2 w'
theorem Goes.box {T : TypeId} {w u : World} {H : Wh} {C : Mx} {b m : Nat} {M : List Pl} {g : Nat} {cs : Array Value} (h : Goes w H C b m M u) (hb : BoxV T w g cs) (h1 : g ≠ H.p) (h2 : g ≠ b) (h3 : g ≠ m) : BoxV T u g cs := (h.keep hb.lt h1 h2 h3).trans hb
theorem Put.size {T : TypeId} {g : Nat} {cs : Array Value} {w u : World} (h : Put T g cs w u) : w.heap.size ≤ u.heap.size := (h.low 0 (Nat.zero_le _)).size
theorem Goes.put {T : TypeId} {w u v : World} {H : Wh} {C : Mx} {b m : Nat} {M : List Pl} {g : Nat} {cs : Array Value} (h : Goes w H C b m M u) (hp : H.p < w.heap.size) (hg0 : H.g < w.heap.size) (hh0 : H.h < w.heap.size) (hg : w.heap.size ≤ g) (k : Put T g cs u v)
  (ho : ∀ b' m', Grows w b m b' m' → Mch u H C b' m' none M → g ≠ b' ∧ g ≠ m') : Goes w H C b m M v := by
 obtain ⟨b', m', h1, h2, h3⟩ := h
 obtain ⟨e1, e2⟩ := ho b' m' h2 h1
 have hb1 := (k.low 0 (Nat.zero_le _))
 have k1 := k.other H.g (by omega)
 have k2 := k.other H.h (by omega)
 refine ⟨b', m', ⟨h1.ms.keep fun j hj => k.other j ?_, nodes_to h1.nds k1 hb1.size, ⟨by have := h1.bks.1; have := hb1.size; omega, fun i hi => (cell_of_hp k2 i).trans (h1.bks.2 i hi)⟩, h1.ap⟩, h2, ⟨h3.low.trans hb1, fun j hj h4 h5 h6 => (k.other j (by omega)).trans (h3.keep j hj h4 h5 h6)⟩⟩
 rcases hj with rfl | rfl | rfl | e
 ·omega
 ·exact fun e => e1 e.symm
 ·exact fun e => e2 e.symm
 ·cases e
theorem Mch.not_box {T : TypeId} {u : World} {H : Wh} {C : Mx} {b m : Nat} {o : Option Nat} {M : List Pl} {g : Nat} {cs : Array Value} (h : Mch u H C b m o M) (hg : BoxV T u g cs) (hT : T ≠ 112) : g ≠ b ∧ g ≠ m := by
 obtain ⟨c, -, hb⟩ := h.ms.box
 obtain ⟨D, ⟨es, cl, hm, -⟩, -⟩ := h.ms.map
 obtain ⟨cur, hb⟩ := owns_block hb
 constructor
 ·rintro rfl
  unfold BoxV at hg
  rw [hb] at hg
  injection hg with hg; injection hg with _ hg
  exact hT hg.symm
 ·rintro rfl
  unfold BoxV at hg
  rw [hm] at hg
  injection hg with hg; cases hg
theorem Mch.low {u : World} {H : Wh} {C : Mx} {b m : Nat} {o : Option Nat} {M : List Pl} (h : Mch u H C b m o M) : H.p < u.heap.size ∧ b < u.heap.size ∧ m < u.heap.size ∧ H.g < u.heap.size ∧ H.h < u.heap.size := by
 have := h.ms.apart
 have := h.nds.1
 have := h.bks.1
 omega
theorem Goes.putSq {w u v : World} {H : Wh} {C : Mx} {b m : Nat} {o : Option Nat} {M M1 : List Pl} {g : Nat} {q0 q : Array Value} (h : Goes w H C b m M1 u) (hw : Mch w H C b m o M) (hg : w.heap.size ≤ g) (hb : BoxV 53 u g q0) (k : Put 53 g q u v) : Goes w H C b m M1 v := by
 obtain ⟨l1, -, -, l4, l5⟩ := hw.low
 exact h.put l1 l4 l5 hg k fun b' m' _ hm => hm.not_box hb (by decide)
set_option maxRecDepth 100000 in
set_option maxHeartbeats 4000000 in
theorem goOn_any (H : Wh) (C : Mx) (b m : Nat) (M : List Pl) (x : Cf) (gs cap : Nat) (fs : List Fr) (w : World) (h : Mch w H C b m none M) (hf : FrsAt w gs fs) (hg : gs ≠ H.p ∧ gs ≠ b ∧ gs ≠ m) (hcap : fs.length ≤ cap) (hok : ∀ f, f ∈ fs → OkF f) (hx0 : 0 ≤ x.f) (hx1 : x.f < M.length) (hl : M.length + fs.length ≤ 990000) (hne : 0 < fs.length) :
  Calls Tryz.prog 63 #[ptr H.p, .agg (cfA x), .slice (some ⟨gs, 0, none⟩) fs.length cap] w (StepRes w H C b m (goOnZ C M x fs)) := by
 have HM := Lib.hid h
 have HP := Lib.hid (fun u hu k1 k2 => mput_any H C b m none M x.f gs cap fs u hu k1 hg hcap hok hx0 hx1 hl k2)
 have HF := Lib.hid hf
 have HNE := Lib.hid hne
 have LO := Lib.hid h.low
 clear h hf hg hok hx0 hx1 hl hcap hne
 go_enter Tryz.func63, Tryz.ntmps63
 go_wp2_with (refine boxCf _ rfl x rfl (by rfl) ?_)
 intro u1 X1
 go_wp2_with (refine allocSq rfl (by rfl) ?_)
 intro u2 X2
 have s1 := X1.out.size
 have s2 := X2.out.size
 have L2 := Lib.hid (show Below w.heap.size w u2 from X1.out.low.trans (X2.out.low.mono (by omega)))
 have B2 := Lib.hid (X1.out.box.below X2.out.low (by omega))
 have S2 := Lib.hid X2.out.box
 have SZ := Lib.hid (And.intro s1 s2)
 have hx := B2.out.get 0 (cf_get0 x)
 clear s1 s2 X2
 go_wp2_with fail
 refine (HP.out u2 (HM.out.below L2.out (Nat.le_refl _)) (HF.out.to (L2.out.block gs HF.out.1) L2.out.size) HNE.out).mono ?_
 rintro e u3 ⟨rfl, hG⟩
 obtain ⟨r, hr⟩ : ∃ r, putsF C.most M x.f fs = r := ⟨_, rfl⟩
 rw [hr] at hG ⊢
 have RE := Lib.hid hr
 have hlo := LO.out
 have hsz := SZ.out
 have B3 := Lib.hid (hG.box B2.out (by omega) (by omega) (by omega))
 have S3 := Lib.hid (hG.box S2.out (by omega) (by omega) (by omega))
 have G3 := Lib.hid (Goes.first L2.out hG)
 have Z3 := Lib.hid hG.size
 clear hr hG hx hlo hsz B2 S2 HP HF
 obtain ⟨M1, id, z⟩ := r
 by_cases hz : z = 0
 ·subst hz
  go_wp2_with (refine loadCf rfl _ rfl w.heap.size x rfl B3.out ?_)
  refine (then_any x id _).mono ?_
  rintro e u4 ⟨rfl, hB4⟩
  have HB4 := Lib.hid hB4
  clear hB4
  go_wp2_with fail
  refine (goTo_any _ _).mono ?_
  rintro e u5 ⟨rfl, hB5⟩
  have S5 := Lib.hid ((S3.out.below HB4.out S3.out.lt).below hB5 (Nat.lt_of_lt_of_le S3.out.lt HB4.out.size))
  have G5 := Lib.hid ((G3.out.next HB4.out).next hB5)
  clear hB5
  go_wp2_with (refine putSq rfl _ _ rfl u1.heap.size (goQ (x.on id)) (sqA failQ) rfl rfl (sqA_size _) S5.out ?_)
  intro u6 X6
  go_wp2_with fail
  refine bodyPost_ret (resSE rfl _ (g := u1.heap.size) rfl rfl X6.out.box) rfl ⟨?_, ?_⟩
  ·rw [show goOnZ C M x fs = (goQ (x.on id), 0, M1) by unfold goOnZ; rw [RE.out]; rfl]; rfl
  ·rw [show goOnZ C M x fs = (goQ (x.on id), 0, M1) by unfold goOnZ; rw [RE.out]; rfl]
   exact G5.out.putSq HM.out (by have := SZ.out; omega) S5.out X6.out
 ·have hz1 : (z != 0) = true := by simpa using hz
  have hz2 : (z == 0) = false := by simpa using hz
  have HZ := Lib.hid hz
  clear hz
  go_wp2_with (first | refine lineW _ _ (by rfl) (bNo rfl) ?_ | refine putSq rfl _ _ rfl u1.heap.size failQ (sqA failQ) rfl rfl (sqA_size _) S3.out ?_)
  intro u6 X6
  go_wp2_with fail
  refine bodyPost_ret (resSE rfl _ (g := u1.heap.size) rfl rfl X6.out.box) rfl ⟨?_, ?_⟩
  ·rw [show goOnZ C M x fs = (failQ, z, M1) by unfold goOnZ; rw [RE.out, if_neg HZ.out]]; rfl
  ·rw [show goOnZ C M x fs = (failQ, z, M1) by unfold goOnZ; rw [RE.out, if_neg HZ.out]]
   exact G3.out.putSq HM.out (by have := SZ.out; omega) S3.out X6.out
end Go.Proofs.YteggpecbeagohaaGreatDoor.Stp
namespace Go.Proofs.YteggpecbeagohaaGreatDoor.Stp
open Go.RowKit
open Frm (Fr Pl frC frL frI dpI putF zF Wf mayF idF I64 BoxV ptr slc plL plC loadFr storeFr resFB getF sizeFr owns_block)
open Cap (Cp cpC zrC withZ agN agB)
open Ast (Nd At12 NodesAt)
def Has : List (TypeId × Nat × Array Value) → World → Prop
 | [], _ => True
 | e :: r, u => BoxV e.1 u e.2.1 e.2.2 ∧ Has r u
theorem Has.call : ∀ {L : List (TypeId × Nat × Array Value)} {u v : World}, Has L u → Below u.heap.size u v → Has L v
 | [], _, _, _, _ => trivial
 | _ :: _, _, _, h, k => ⟨h.1.below k h.1.lt, Has.call h.2 k⟩
theorem Rm.call {C : Mx} {H : Wh} {u v : World} (h : Rm C H u) (k : Below u.heap.size u v) : Rm C H v := by
 have hp : ∀ j y, u.cell? ⟨H.p, j, none⟩ = some y → v.cell? ⟨H.p, j, none⟩ = some y := fun j y e => by
  by_cases hlt : H.p < u.heap.size
  ·exact (k.cell (p := ⟨H.p, j, none⟩) hlt).trans e
  ·unfold World.cell? at e
   rw [Array.getElem?_eq_none (by simpa using hlt)] at e
   simp at e
 exact ⟨hp 0 _ h.c0, hp 1 _ h.c1, hp 2 _ h.c2, h.nds.below k (Nat.le_refl _), ⟨Nat.lt_of_lt_of_le h.bks.1 k.size, fun i hi => (k.cell (p := ⟨H.h, i, none⟩) h.bks.1).trans (h.bks.2 i hi)⟩⟩
theorem Rm.node {C : Mx} {H : Wh} {u : World} (h : Rm C H u) {i : Nat} (hi : i < C.n) : At12 u H.g (i * 12) (C.l i) := by
 have := h.nds.2 i hi
 rwa [Nat.zero_add] at this
def Sv (C : Mx) (H : Wh) (L : List (TypeId × Nat × Array Value)) (u : World) : Prop := Rm C H u ∧ Has L u
theorem Sv.call {C : Mx} {H : Wh} {L : List (TypeId × Nat × Array Value)} {u v : World} (h : Sv C H L u) (k : Below u.heap.size u v) : Sv C H L v := ⟨h.1.call k, h.2.call k⟩
theorem Mch.not_p {T : TypeId} {u : World} {H : Wh} {C : Mx} {b m : Nat} {o : Option Nat} {M : List Pl} {g : Nat} {cs : Array Value} (h : Mch u H C b m o M) (hg : BoxV T u g cs) (hT : T ≠ 85) : g ≠ H.p := by
 obtain ⟨c, hb, -⟩ := h.ms.box
 rintro rfl
 unfold BoxV at hg hb
 rw [hb] at hg
 injection hg with hg; injection hg with _ hg
 exact hT hg.symm
theorem Goes.rm {w u : World} {H : Wh} {C : Mx} {b m : Nat} {M : List Pl} (h : Goes w H C b m M u) : Rm C H u := by
 obtain ⟨b', m', h1, -, -⟩ := h
 exact h1.rm
def Own (L : List (TypeId × Nat × Array Value)) : Prop := ∀ e, e ∈ L → e.1 ≠ 112 ∧ e.1 ≠ 85
theorem Has.go {w u : World} {H : Wh} {C : Mx} {b m : Nat} {o : Option Nat} {M M1 : List Pl} (h : Goes w H C b m M1 u) (hw : Mch w H C b m o M) : ∀ {L : List (TypeId × Nat × Array Value)}, Own L → Has L w → Has L u
 | [], _, _ => trivial
 | e :: r, hT, k => ⟨h.box k.1 (hw.not_p k.1 (hT e (by simp)).2) (hw.not_box k.1 (hT e (by simp)).1).1 (hw.not_box k.1 (hT e (by simp)).1).2, Has.go h hw (fun x hx => hT x (by simp [hx])) k.2⟩
theorem Sv.go {w u : World} {H : Wh} {C : Mx} {b m : Nat} {o : Option Nat} {M M1 : List Pl} {L : List (TypeId × Nat × Array Value)} (h : Goes w H C b m M1 u) (hw : Mch w H C b m o M) (hT : Own L) (k : Sv C H L w) : Sv C H L u := ⟨h.rm, k.2.go h hw hT⟩
section
variable {ops : Array Oper} {rest : List Oper} {o : Oper} {a : Act} {w : World} {Q : Exit → Act → World → Prop}
theorem boxFr (x : Operand) (ho : o.op = .box 90 x) (f : Fr) (hx : a.eval x = .agg (frC f)) (hw : Region.wanted o (yielded ops a.tmps) = true)
  (h : ∀ u, Hid (New 90 (frC f) w u) → wpList Tryz.prog ops Q rest (a.put o.dst (.pointer (some ⟨w.heap.size, 0, none⟩))) u) : wpList Tryz.prog ops Q (o :: rest) a w :=
 lineW _ _ hw (by unfold execOp; simp only [ho, hx]; rfl) (h _ (Lib.hid (New.of _ _ _)))
theorem oneFr_run {x : Operand} (f : Fr) (ho : o.op = .buildSlice 109 1 #[(0, x)]) (hx : a.eval x = .agg (frC f)) : (execOp a.eval o).run Tryz.prog w = .ok (.value (.slice (some ⟨w.heap.size, 0, none⟩) 1 1)) (w.alloc (.cells (frC f) 90)) := by
 unfold execOp
 simp only [ho]
 rw [show (#[(0, x)] : Array (Nat × Operand)).map (fun (z : Nat × Operand) => match z with | (i, t) => (i, a.eval t)) = #[(0, .agg (frC f))] by simp [hx]]
 kernel_rfl
theorem oneFr {x : Operand} (f : Fr) (ho : o.op = .buildSlice 109 1 #[(0, x)]) (hx : a.eval x = .agg (frC f)) (hw : Region.wanted o (yielded ops a.tmps) = true)
  (h : ∀ u, Hid (New 90 (frC f) w u) → wpList Tryz.prog ops Q rest (a.put o.dst (.slice (some ⟨w.heap.size, 0, none⟩) 1 1)) u) : wpList Tryz.prog ops Q (o :: rest) a w :=
 lineW _ _ hw (oneFr_run f ho hx) (h _ (Lib.hid (New.of _ _ _)))
theorem twoFr_run {x y : Operand} (f g : Fr) (ho : o.op = .buildSlice 109 2 #[(0, x), (1, y)]) (hx : a.eval x = .agg (frC f)) (hy : a.eval y = .agg (frC g)) : (execOp a.eval o).run Tryz.prog w = .ok (.value (.slice (some ⟨w.heap.size, 0, none⟩) 2 2)) (w.alloc (.cells (frC f ++ frC g) 90)) := by
 unfold execOp
 simp only [ho]
 rw [show (#[(0, x), (1, y)] : Array (Nat × Operand)).map (fun (z : Nat × Operand) => match z with | (i, t) => (i, a.eval t)) = #[(0, .agg (frC f)), (1, .agg (frC g))] by simp [hx, hy]]
 kernel_rfl
end
theorem FrsAt.one {u : World} {g : Nat} {f : Fr} (h : BoxV 90 u g (frC f)) : FrsAt u g [f] := ⟨h.lt, fun i hi => by
 obtain rfl : i = 0 := by simp at hi; omega
 exact Frm.BoxV.fr h⟩
theorem FrsAt.two {u : World} {g : Nat} {f e : Fr} (h : BoxV 90 u g (frC f ++ frC e)) : FrsAt u g [f, e] := ⟨h.lt, fun i hi => by
 rcases (show i = 0 ∨ i = 1 by simp at hi; omega) with rfl | rfl
 ·intro j v hv
  rw [Nat.zero_mul, Nat.zero_add]
  refine h.get j ?_
  rw [Array.getElem?_append_left]
  ·simpa using hv
  ·rcases Nat.lt_or_ge j 5 with q | q
   ·exact q
   ·have hv' : (frL f)[j]? = some v := hv
    rw [List.getElem?_eq_none (by simpa using q)] at hv'; cases hv'
 ·intro j v hv
  rw [Nat.one_mul]
  refine h.get (5 + j) ?_
  rw [Array.getElem?_append_right (by simp)]
  simpa using hv⟩
theorem Has.put {T : TypeId} {g : Nat} {c0 c : Array Value} {u v : World} (hb : BoxV T u g c0) (k : Put T g c u v) : ∀ {L : List (TypeId × Nat × Array Value)}, (∀ e, e ∈ L → e.1 ≠ T ∨ e.2.1 ≠ g) → Has L u → Has L v
 | [], _, _ => trivial
 | e :: r, hT, h => by
   refine ⟨(k.other _ ?_).trans h.1, Has.put hb k (fun x hx => hT x (by simp [hx])) h.2⟩
   intro eg
   have h1 := h.1
   rw [eg] at h1
   unfold BoxV at h1 hb
   rw [hb] at h1
   injection h1 with h1; injection h1 with _ h1
   exact (hT e (by simp)).elim (fun q => q h1.symm) (fun q => q eg)
theorem Rm.put {C : Mx} {H : Wh} {T : TypeId} {g : Nat} {c : Array Value} {u v : World} (h : Rm C H u) (k : Put T g c u v) (h1 : H.p ≠ g) (h2 : H.g ≠ g) (h3 : H.h ≠ g) : Rm C H v :=
 ⟨(cell_of_hp (k.other _ h1) _).trans h.c0, (cell_of_hp (k.other _ h1) _).trans h.c1, (cell_of_hp (k.other _ h1) _).trans h.c2, nodes_to h.nds (k.other _ h2) k.size, ⟨Nat.lt_of_lt_of_le h.bks.1 k.size, fun i hi => (cell_of_hp (k.other _ h3) _).trans (h.bks.2 i hi)⟩⟩
theorem Sv.put {C : Mx} {H : Wh} {L : List (TypeId × Nat × Array Value)} {T : TypeId} {g : Nat} {c0 c : Array Value} {u v : World} (h : Sv C H L u) (hb : BoxV T u g c0) (k : Put T g c u v) (hT : ∀ e, e ∈ L → e.1 ≠ T ∨ e.2.1 ≠ g) (h1 : H.p ≠ g ∧ H.g ≠ g ∧ H.h ≠ g) : Sv C H L v :=
 ⟨h.1.put k h1.1 h1.2.1 h1.2.2, h.2.put hb k hT⟩
theorem putOf_row {T : TypeId} {u : World} {g : Nat} {c0 : Array Value} (h : BoxV T u g c0) (c : Array Value) : Put T g c u (u.setRow g c) :=
 ⟨setRow_heap u g _ _ _ _ h, fun B hB => (Below.refl _ u).trans ⟨rfl, rfl, rfl, by simp, fun k hk => setRow_other u g k _ (by omega)⟩, fun k hk => setRow_other u g k _ hk⟩
section
variable {ops : Array Oper} {R : World → Prop} {a : Act} {o : Oper} {x y z : Operand} {w : World}
theorem ldCf_y (g : Nat) (c : Cf) (hR : ∀ u, R u → BoxV 28 u g (cfA c)) (ho : o.op = .load 28 x) (hx : a.eval x = .pointer (some ⟨g, 0, none⟩)) (hw : Region.wanted o (yielded ops a.tmps) = true) : YieldsIf Tryz.prog ops R o (.agg (cfA c)) a := by
 refine Or.inl ⟨hw, fun u h => ?_⟩
 unfold execOp
 simp only [ho, hx, Instr.loadAt, Instr.sureAddr, Sem.run_bind, Sem.run_pure, Result.andThen_ok, run_loadVar_row u g _ _ _ _ _ (hR u h) Tryz.underlying28 rfl (by rw [cfA_size]; exact sizeCf)]
end
set_option maxRecDepth 100000 in
set_option maxHeartbeats 8000000 in
theorem within_any (H : Wh) (C : Mx) (b m : Nat) (M : List Pl) (h : Int) (f : Fr) (x y : Cf) (w : World) (hM : Mch w H C b m none M) (hok : OkF f) (hl : M.length ≤ 980000) :
  Calls Tryz.prog 65 #[ptr H.p, .int .i64 h, .agg (frC f), .agg (cfA x), .agg (cfA y)] w (StepRes w H C b m (withinZ C M h f x y)) := by
 have HM := Lib.hid hM
 have HW := Lib.hid hM.ms.wf.len
 have HP := Lib.hid (fun u gs hu k1 hg => mput_any H C b m none M 0 gs 1 [f] u hu k1 hg (Nat.le_refl _) (fun g hg => by simp at hg; rw [hg]; exact hok) (Int.le_refl _) (by have := hM.ms.wf.len; omega) (by simp; omega) (by simp))
 have LO := Lib.hid hM.low
 clear hM hok hl
 go_enter Tryz.func65, Tryz.ntmps65
 go_wp2_with (refine boxFr _ rfl f rfl (by rfl) ?_)
 intro u1 X1
 go_wp2_with (refine boxCf _ rfl x rfl (by rfl) ?_)
 intro u2 X2
 go_wp2_with (refine boxCf _ rfl y rfl (by rfl) ?_)
 intro u3 X3
 go_wp2_with (refine allocSq rfl (by rfl) ?_)
 intro u4 X4
 have s1 := X1.out.size
 have s2 := X2.out.size
 have s3 := X3.out.size
 have s4 := X4.out.size
 have L4 := Lib.hid (show Below w.heap.size w u4 from ((X1.out.low.trans (X2.out.low.mono (by omega))).trans (X3.out.low.mono (by omega))).trans (X4.out.low.mono (by omega)))
 have F4 := Lib.hid (((X1.out.box.below X2.out.low (by omega)).below X3.out.low (by omega)).below X4.out.low (by omega))
 have SZ := Lib.hid (And.intro s1 (And.intro s2 (And.intro s3 s4)))
 have V4 := Lib.hid (show Sv C H [(28, u1.heap.size, cfA x), (28, u2.heap.size, cfA y)] u4 from ⟨(HM.out.below L4.out (Nat.le_refl _)).rm, (X2.out.box.below X3.out.low (by omega)).below X4.out.low (by omega), X3.out.box.below X4.out.low (by omega), trivial⟩)
 have T4 := Lib.hid X4.out.box
 clear s1 s2 s3 s4 X1 X2 X3 X4
 go_wp2_with (first | refine loadFr rfl _ rfl w.heap.size 0 f rfl (Frm.BoxV.fr F4.out) ?_ | refine oneFr f rfl rfl (by rfl) ?_)
 intro u5 X5
 have s5 := X5.out.size
 have M5 := Lib.hid (HM.out.below (L4.out.trans (X5.out.low.mono L4.out.size)) (Nat.le_refl _))
 have hlo := LO.out
 have hsz := SZ.out
 have HC := Lib.hid (HP.out u5 u4.heap.size M5.out (by
  refine ⟨X5.out.box.lt, fun i hi => ?_⟩
  obtain rfl : i = 0 := by simp at hi; omega
  exact Frm.BoxV.fr X5.out.box) (by omega))
 have V5 := Lib.hid (V4.out.call X5.out.low)
 have T5 := Lib.hid (T4.out.below X5.out.low T4.out.lt)
 have L5 := Lib.hid (L4.out.trans (X5.out.low.mono L4.out.size))
 clear s5 hlo hsz HP V4 T4 X5 F4
 go_wp2_with fail
 refine HC.out.mono ?_
 rintro e u6 ⟨rfl, hG⟩
 obtain ⟨r, hr⟩ : ∃ r, putsF C.most M 0 [f] = r := ⟨_, rfl⟩
 rw [hr] at hG ⊢
 have RE := Lib.hid hr
 have V6 := Lib.hid (V5.out.go hG M5.out (by intro e he; simp at he; rcases he with rfl | rfl <;> exact ⟨by simp, by simp⟩))
 have T6 := Lib.hid (hG.box T5.out (M5.out.not_p T5.out (by decide)) (M5.out.not_box T5.out (by decide)).1 (M5.out.not_box T5.out (by decide)).2)
 have G6 := Lib.hid (Goes.first L5.out hG)
 clear hr hG V5 T5 HC
 obtain ⟨M1, id, z⟩ := r
 by_cases hz : z = 0
 ·subst hz
  go_wp2_with fail
  have hS : Sv C H [(28, u1.heap.size, cfA x), (28, u2.heap.size, cfA y)] u6.drew := V6.out.call (Below.refl _ u6).drew
  have G5 := Lib.hid (G6.out.next (Below.refl _ u6).drew)
  have T5 := Lib.hid (show BoxV 53 u6.drew u3.heap.size (sqA failQ) from T6.out)
  refine wp_region_held_drew (S := fun u => Sv C H [(28, u1.heap.size, cfA x), (28, u2.heap.size, cfA y)] u) (by kernel_rfl) hS (fun _ => ?_)
  refine takeAt 0 25 (.int .i64 h) rfl rfl (by kernel_rfl) (by kernel_rfl) (by kernel_rfl) i_ (yields (by rfl) (fun w => by kernel_rfl)) hS ?_
  simp only [Act.put, sA_, s0_, sS_]
  refine takeAt 1 26 (.agg (cfA x)) rfl rfl (by kernel_rfl) (by kernel_rfl) (by kernel_rfl) i_ (ldCf_y u1.heap.size x (fun _ h => h.2.1) rfl rfl (by rfl)) hS ?_
  simp only [Act.put, sA_, s0_, sS_]
  refine takeAt 2 27 (.int .i64 id) rfl rfl (by kernel_rfl) (by kernel_rfl) (by kernel_rfl) i_ (yields (by rfl) (fun w => by kernel_rfl)) hS ?_
  simp only [Act.put, sA_, s0_, sS_]
  refine takeAt 4 29 (.agg (cfA y)) rfl rfl (by kernel_rfl) (by kernel_rfl) (by kernel_rfl) i_ (ldCf_y u2.heap.size y (fun _ h => h.2.2.1) rfl rfl (by rfl)) hS ?_
  simp only [Act.put, sA_, s0_, sS_]
  refine callAt 3 28 rfl rfl (by kernel_rfl) (by rfl) (by kernel_rfl) (then_any x id _) ?_
  rintro e u6 ⟨rfl, hB⟩
  have hS6 := hS.call hB
  have G6 := Lib.hid (G5.out.next hB)
  have T6 := Lib.hid (T5.out.below hB T5.out.lt)
  clear hB
  refine ⟨_, rfl, hS6, ?_⟩
  simp only [Act.put, sA_, s0_, sS_]
  refine takeAt 5 30 (.agg (sqA (subQ h (x.on id) y))) rfl rfl (by kernel_rfl) (by kernel_rfl) (by kernel_rfl) i_ (Or.inl ⟨by rfl, fun u _ => bSub h (x.on id) y rfl rfl rfl rfl⟩) hS6 ?_
  simp only [Act.put, sA_, s0_, sS_]
  have P7 := putOf_row T6.out (sqA (subQ h (x.on id) y))
  have S7 : Sv C H [(28, u1.heap.size, cfA x), (28, u2.heap.size, cfA y)] _ := hS6.put T6.out P7 (by intro e he; simp at he; rcases he with rfl | rfl <;> simp) (by have := LO.out; have := SZ.out; omega)
  have PX := Lib.hid P7
  refine rowAt 6 53 u3.heap.size (sqA failQ) (sqA (subQ h (x.on id) y)) rfl rfl rfl (by kernel_rfl) (by rfl) rfl rfl T6.out (by rw [sqA_size]; exact sizeSq) (by rw [sqA_size, sqA_size]) (sqA_one _) S7 ?_
  refine takeAt 7 11 (.int .i64 0) rfl rfl (by kernel_rfl) (by kernel_rfl) (by kernel_rfl) i_ (yields (by rfl) (fun w => by kernel_rfl)) S7 ?_
  simp only [Act.put, sA_, s0_, sS_]
  refine wpAnyH_done (by kernel_rfl) ?_ _
  go_wp2_with fail
  have ez : withinZ C M h f x y = (subQ h (x.on id) y, 0, M1) := by unfold withinZ; rw [RE.out]; rfl
  refine bodyPost_ret (resSE rfl _ (g := u3.heap.size) rfl rfl PX.out.box) rfl ⟨?_, ?_⟩
  ·rw [ez]; rfl
  ·rw [ez]
   exact G6.out.putSq HM.out (by have := SZ.out; omega) T6.out PX.out
 ·have hz1 : (z != 0) = true := by simpa using hz
  have hz2 : (z == 0) = false := by simpa using hz
  have ez : withinZ C M h f x y = (failQ, z, M1) := by unfold withinZ; rw [RE.out, if_neg hz]
  have EZ := Lib.hid ez
  clear hz ez
  go_wp2_with (first | refine lineW _ _ (by rfl) (bNo rfl) ?_ | refine putSq rfl _ _ rfl u3.heap.size failQ (sqA failQ) rfl rfl (sqA_size _) T6.out ?_)
  intro u7 X7
  go_wp2_with fail
  refine bodyPost_ret (resSE rfl _ (g := u3.heap.size) rfl rfl X7.out.box) rfl ⟨?_, ?_⟩
  ·rw [EZ.out]; rfl
  ·rw [EZ.out]
   exact G6.out.putSq HM.out (by have := SZ.out; omega) T6.out X7.out
end Go.Proofs.YteggpecbeagohaaGreatDoor.Stp
namespace Go.Proofs.YteggpecbeagohaaGreatDoor.Stp
open Go.RowKit
open Frm (Fr Pl frC frL frI dpI putF zF Wf mayF idF I64 BoxV ptr slc plL plC loadFr storeFr resFB getF sizeFr owns_block)
open Cap (Cp cpC zrC withZ agN agB)
open Ast (Nd At12 NodesAt)
set_option maxRecDepth 100000 in
set_option maxHeartbeats 8000000 in
theorem either_any (H : Wh) (C : Mx) (b m : Nat) (M : List Pl) (i : Nat) (x : Cf) (w : World) (hM : Mch w H C b m none M) (hi : i < C.n) (ha : 0 ≤ (C.l i).a ∧ (C.l i).a ≤ 1000) (hb : 0 ≤ (C.l i).b ∧ (C.l i).b ≤ 1000) (hx0 : 0 ≤ x.f) (hx1 : x.f < M.length) (hl : M.length ≤ 980000) :
  Calls Tryz.prog 64 #[ptr H.p, .pointer (some ⟨H.g, i * 12, none⟩), .agg (cfA x)] w (StepRes w H C b m (eitherZ C M (C.l i) x)) := by
 have HM := Lib.hid hM
 have HP := Lib.hid (fun b m M' z u gs (hz : 0 ≤ z ∧ z ≤ 1000) (hu : Mch u H C b m none M') k1 hg (hl2 : M.length ≤ M'.length ∧ M'.length ≤ M.length + 1) => mput_any H C b m none M' x.f gs 1 [toDo z] u hu k1 hg (Nat.le_refl _) (fun g hg => by simp at hg; rw [hg]; exact ⟨.inl rfl, by show 0 ≤ z ∧ z ≤ 1000000; omega, by show (0 : Int) ≤ 0 ∧ (0 : Int) ≤ 1000000; omega, by show (0 : Int) ≤ 0 ∧ (0 : Int) ≤ 1000000; omega⟩) hx0 (by omega) (by simp; omega) (by simp))
 have LO := Lib.hid hM.low
 have HAB := Lib.hid (And.intro ha hb)
 have HI := Lib.hid hi
 clear hM hx0 hx1 hl ha hb
 go_enter Tryz.func64, Tryz.ntmps64
 go_wp2_with (refine boxCf _ rfl x rfl (by rfl) ?_)
 intro u1 X1
 go_wp2_with (refine allocSq rfl (by rfl) ?_)
 intro u2 X2
 have s1 := X1.out.size
 have s2 := X2.out.size
 have L2 := Lib.hid (show Below w.heap.size w u2 from X1.out.low.trans (X2.out.low.mono (by omega)))
 have SZ := Lib.hid (And.intro s1 s2)
 have V2 := Lib.hid (show Sv C H [(28, w.heap.size, cfA x)] u2 from ⟨(HM.out.below L2.out (Nat.le_refl _)).rm, X1.out.box.below X2.out.low (by omega), trivial⟩)
 have T2 := Lib.hid X2.out.box
 clear s1 s2 X1 X2
 go_wp2_with fail
 have hS : Sv C H [(28, w.heap.size, cfA x)] u2.drew := V2.out.call (Below.refl _ u2).drew
 have LW := Lib.hid (L2.out.trans ((Below.refl u2.heap.size u2).drew.mono L2.out.size))
 have TW := Lib.hid (show BoxV 53 u2.drew u1.heap.size (sqA failQ) from T2.out)
 clear V2 L2 T2
 refine wp_region_held_drew (S := fun u => Sv C H [(28, w.heap.size, cfA x)] u) (by kernel_rfl) hS (fun _ => ?_)
 refine takeAt 0 12 (.pointer (some ⟨H.p, 0, none⟩)) rfl rfl (by kernel_rfl) (by kernel_rfl) (by kernel_rfl) i_ (yields (by rfl) (fun w => by kernel_rfl)) hS ?_
 simp only [Act.put, sA_, s0_, sS_]
 refine takeAt 1 13 (.pointer (some ⟨w.heap.size, 0, none⟩)) rfl rfl (by kernel_rfl) (by kernel_rfl) (by kernel_rfl) i_ (yields (by rfl) (fun w => by kernel_rfl)) hS ?_
 simp only [Act.put, sA_, s0_, sS_]
 refine takeAt 2 14 (.int .i64 x.f) rfl rfl (by kernel_rfl) (by kernel_rfl) (by kernel_rfl) i_ (ldI_y w.heap.size 0 _ (fun _ h => h.2.1.get 0 (cf_get0 x)) rfl rfl (by rfl)) hS ?_
 simp only [Act.put, sA_, s0_, sS_]
 refine takeAt 3 15 (.pointer (some ⟨H.g, i * 12, none⟩)) rfl rfl (by kernel_rfl) (by kernel_rfl) (by kernel_rfl) i_ (yields (by rfl) (fun w => by kernel_rfl)) hS ?_
 simp only [Act.put, sA_, s0_, sS_]
 refine takeAt 4 16 (.pointer (some ⟨H.g, i * 12, none⟩)) rfl rfl (by kernel_rfl) (by kernel_rfl) (by kernel_rfl) i_ (yields (by rfl) (fun w => by kernel_rfl)) hS ?_
 simp only [Act.put, sA_, s0_, sS_]
 refine takeAt 5 17 (.pointer (some ⟨H.g, i * 12 + 1, none⟩)) rfl rfl (by kernel_rfl) (by kernel_rfl) (by kernel_rfl) i_ (yields (by rfl) (fun w => by kernel_rfl)) hS ?_
 simp only [Act.put, sA_, s0_, sS_]
 refine takeAt 6 18 (.int .i64 (C.l i).a) rfl rfl (by kernel_rfl) (by kernel_rfl) (by kernel_rfl) i_ (ldI_y H.g (i * 12 + 1) _ (fun _ h => (h.1.node hi).2.1) rfl rfl (by rfl)) hS ?_
 simp only [Act.put, sA_, s0_, sS_]
 refine callAt 7 19 rfl rfl (by kernel_rfl) (by rfl) (by kernel_rfl) (toDo_any (C.l i).a _) ?_
 rintro e u3 ⟨rfl, hB⟩
 have hS1 := hS.call hB
 have LU := Lib.hid (LW.out.trans (hB.mono LW.out.size))
 have TU := Lib.hid (TW.out.below hB TW.out.lt)
 clear hB LW TW
 refine ⟨_, rfl, hS1, ?_⟩
 simp only [Act.put, sA_, s0_, sS_]
 obtain ⟨u4, eu4⟩ : ∃ v, u3.alloc (.cells (frC (toDo (C.l i).a)) 90) = v := ⟨_, rfl⟩
 have Nu4 := Lib.hid (show New 90 (frC (toDo (C.l i).a)) u3 u4 from eu4 ▸ New.of _ _ _)
 have hS2 := hS1.call Nu4.out.low
 have LV := Lib.hid (LU.out.trans (Nu4.out.low.mono LU.out.size))
 have TV := Lib.hid (TU.out.below Nu4.out.low TU.out.lt)
 refine valAt 8 20 (.slice (some ⟨u3.heap.size, 0, none⟩) 1 1) u4 rfl rfl (by kernel_rfl) (by rfl) (by rw [← eu4]; exact oneFr_run _ rfl rfl) hS2 ?_
 clear LU TU
 simp only [Act.put, sA_, s0_, sS_]
 refine callAt 9 21 rfl rfl (by kernel_rfl) (by rfl) (by kernel_rfl) (HP.out b m M (C.l i).a u4 u3.heap.size HAB.out.1 (HM.out.below LV.out (Nat.le_refl _)) (.one Nu4.out.box) (by have h := (HM.out.below LV.out (Nat.le_refl _)).not_box Nu4.out.box (by decide); have h2 := (HM.out.below LV.out (Nat.le_refl _)).not_p Nu4.out.box (by decide); exact ⟨h2, h.1, h.2⟩) ⟨Nat.le_refl _, by omega⟩) ?_
 rintro e u5 ⟨rfl, hG⟩
 have hS3 := hS2.go hG (HM.out.below LV.out (Nat.le_refl _)) (by intro e he; simp at he; rcases he with rfl; exact ⟨by simp, by simp⟩)
 have TA := Lib.hid (hG.box TV.out ((HM.out.below LV.out (Nat.le_refl _)).not_p TV.out (by decide)) ((HM.out.below LV.out (Nat.le_refl _)).not_box TV.out (by decide)).1 ((HM.out.below LV.out (Nat.le_refl _)).not_box TV.out (by decide)).2)
 have GA := Lib.hid (show Goes w H C b m (putsF C.most M x.f [toDo (C.l i).a]).1 u5 from Goes.first LV.out hG)
 clear hG TV LV
 refine ⟨_, rfl, hS3, ?_⟩
 simp only [Act.put, sA_, s0_, sS_]
 refine takeAt 10 11 (.tuple #[.int .i64 (putsF C.most M x.f [toDo (C.l i).a]).2.1, .int .i64 (putsF C.most M x.f [toDo (C.l i).a]).2.2]) rfl rfl (by kernel_rfl) (by kernel_rfl) (by kernel_rfl) i_ (yields (by rfl) (fun w => by kernel_rfl)) hS3 ?_
 simp only [Act.put, sA_, s0_, sS_]
 refine takeAt 11 22 (.int .i64 (putsF C.most M x.f [toDo (C.l i).a]).2.1) rfl rfl (by kernel_rfl) (by kernel_rfl) (by kernel_rfl) i_ (yields (by rfl) (fun w => by kernel_rfl)) hS3 ?_
 simp only [Act.put, sA_, s0_, sS_]
 refine takeAt 12 23 (.int .i64 (putsF C.most M x.f [toDo (C.l i).a]).2.2) rfl rfl (by kernel_rfl) (by kernel_rfl) (by kernel_rfl) i_ (yields (by rfl) (fun w => by kernel_rfl)) hS3 ?_
 simp only [Act.put, sA_, s0_, sS_]
 refine takeAt 13 8 (.int .i64 (putsF C.most M x.f [toDo (C.l i).a]).2.1) rfl rfl (by kernel_rfl) (by kernel_rfl) (by kernel_rfl) i_ (yields (by rfl) (fun w => by kernel_rfl)) hS3 ?_
 simp only [Act.put, sA_, s0_, sS_]
 refine takeAt 14 9 (.int .i64 (putsF C.most M x.f [toDo (C.l i).a]).2.2) rfl rfl (by kernel_rfl) (by kernel_rfl) (by kernel_rfl) i_ (yields (by rfl) (fun w => by kernel_rfl)) hS3 ?_
 simp only [Act.put, sA_, s0_, sS_]
 refine wpAnyH_done (by kernel_rfl) ?_ _
 obtain ⟨r, hr⟩ : ∃ r, putsF C.most M x.f [toDo (C.l i).a] = r := ⟨_, rfl⟩
 have RE := Lib.hid hr
 rw [hr] at GA ⊢
 have V3 := Lib.hid hS3
 clear hr hS hS1 hS2 hS3
 obtain ⟨M1, id, z⟩ := r
 by_cases hz : z = 0
 ·subst hz
  have hlen := putsF_len C.most [toDo (C.l i).a] M x.f
  rw [RE.out] at hlen
  obtain ⟨b1, m1, hm1, hg1, hbs1⟩ := GA.out
  have HM1 := Lib.hid hm1
  have HL1 := Lib.hid (show M.length ≤ M1.length ∧ M1.length ≤ M.length + 1 from hlen)
  have HG1 := Lib.hid (And.intro hg1 hbs1)
  clear hlen hm1 hg1 hbs1
  go_wp2_with fail
  have hS : Sv C H [(28, w.heap.size, cfA x)] u5.drew := V3.out.call (Below.refl _ u5).drew
  have LW := Lib.hid ((Below.refl u5.heap.size u5).drew)
  have TW := Lib.hid (show BoxV 53 u5.drew u1.heap.size (sqA failQ) from TA.out)
  clear V3
  refine wp_region_held_drew (S := fun u => Sv C H [(28, w.heap.size, cfA x)] u) (by kernel_rfl) hS (fun _ => ?_)
  refine takeAt 0 29 (.pointer (some ⟨H.p, 0, none⟩)) rfl rfl (by kernel_rfl) (by kernel_rfl) (by kernel_rfl) i_ (yields (by rfl) (fun w => by kernel_rfl)) hS ?_
  simp only [Act.put, sA_, s0_, sS_]
  refine takeAt 1 30 (.pointer (some ⟨w.heap.size, 0, none⟩)) rfl rfl (by kernel_rfl) (by kernel_rfl) (by kernel_rfl) i_ (yields (by rfl) (fun w => by kernel_rfl)) hS ?_
  simp only [Act.put, sA_, s0_, sS_]
  refine takeAt 2 31 (.int .i64 x.f) rfl rfl (by kernel_rfl) (by kernel_rfl) (by kernel_rfl) i_ (ldI_y w.heap.size 0 _ (fun _ h => h.2.1.get 0 (cf_get0 x)) rfl rfl (by rfl)) hS ?_
  simp only [Act.put, sA_, s0_, sS_]
  refine takeAt 3 32 (.pointer (some ⟨H.g, i * 12, none⟩)) rfl rfl (by kernel_rfl) (by kernel_rfl) (by kernel_rfl) i_ (yields (by rfl) (fun w => by kernel_rfl)) hS ?_
  simp only [Act.put, sA_, s0_, sS_]
  refine takeAt 4 33 (.pointer (some ⟨H.g, i * 12, none⟩)) rfl rfl (by kernel_rfl) (by kernel_rfl) (by kernel_rfl) i_ (yields (by rfl) (fun w => by kernel_rfl)) hS ?_
  simp only [Act.put, sA_, s0_, sS_]
  refine takeAt 5 34 (.pointer (some ⟨H.g, i * 12 + 2, none⟩)) rfl rfl (by kernel_rfl) (by kernel_rfl) (by kernel_rfl) i_ (yields (by rfl) (fun w => by kernel_rfl)) hS ?_
  simp only [Act.put, sA_, s0_, sS_]
  refine takeAt 6 35 (.int .i64 (C.l i).b) rfl rfl (by kernel_rfl) (by kernel_rfl) (by kernel_rfl) i_ (ldI_y H.g (i * 12 + 2) _ (fun _ h => (h.1.node hi).2.2.1) rfl rfl (by rfl)) hS ?_
  simp only [Act.put, sA_, s0_, sS_]
  refine callAt 7 36 rfl rfl (by kernel_rfl) (by rfl) (by kernel_rfl) (toDo_any (C.l i).b _) ?_
  rintro e u6 ⟨rfl, hB⟩
  have hS1 := hS.call hB
  have LU := Lib.hid (LW.out.trans (hB.mono LW.out.size))
  have TU := Lib.hid (TW.out.below hB TW.out.lt)
  clear hB LW TW
  refine ⟨_, rfl, hS1, ?_⟩
  simp only [Act.put, sA_, s0_, sS_]
  obtain ⟨u7, eu7⟩ : ∃ v, u6.alloc (.cells (frC (toDo (C.l i).b)) 90) = v := ⟨_, rfl⟩
  have Nu7 := Lib.hid (show New 90 (frC (toDo (C.l i).b)) u6 u7 from eu7 ▸ New.of _ _ _)
  have hS2 := hS1.call Nu7.out.low
  have LV := Lib.hid (LU.out.trans (Nu7.out.low.mono LU.out.size))
  have TV := Lib.hid (TU.out.below Nu7.out.low TU.out.lt)
  refine valAt 8 37 (.slice (some ⟨u6.heap.size, 0, none⟩) 1 1) u7 rfl rfl (by kernel_rfl) (by rfl) (by rw [← eu7]; exact oneFr_run _ rfl rfl) hS2 ?_
  clear LU TU
  simp only [Act.put, sA_, s0_, sS_]
  refine callAt 9 38 rfl rfl (by kernel_rfl) (by rfl) (by kernel_rfl) (HP.out b1 m1 M1 (C.l i).b u7 u6.heap.size HAB.out.2 (HM1.out.below LV.out (Nat.le_refl _)) (.one Nu7.out.box) (by have h := (HM1.out.below LV.out (Nat.le_refl _)).not_box Nu7.out.box (by decide); have h2 := (HM1.out.below LV.out (Nat.le_refl _)).not_p Nu7.out.box (by decide); exact ⟨h2, h.1, h.2⟩) HL1.out) ?_
  rintro e u8 ⟨rfl, hG⟩
  have hS3 := hS2.go hG (HM1.out.below LV.out (Nat.le_refl _)) (by intro e he; simp at he; rcases he with rfl; exact ⟨by simp, by simp⟩)
  have TB := Lib.hid (hG.box TV.out ((HM1.out.below LV.out (Nat.le_refl _)).not_p TV.out (by decide)) ((HM1.out.below LV.out (Nat.le_refl _)).not_box TV.out (by decide)).1 ((HM1.out.below LV.out (Nat.le_refl _)).not_box TV.out (by decide)).2)
  have GB := Lib.hid (show Goes u5 H C b1 m1 (putsF C.most M1 x.f [toDo (C.l i).b]).1 u8 from Goes.first LV.out hG)
  clear hG TV LV
  refine ⟨_, rfl, hS3, ?_⟩
  simp only [Act.put, sA_, s0_, sS_]
  refine takeAt 10 28 (.tuple #[.int .i64 (putsF C.most M1 x.f [toDo (C.l i).b]).2.1, .int .i64 (putsF C.most M1 x.f [toDo (C.l i).b]).2.2]) rfl rfl (by kernel_rfl) (by kernel_rfl) (by kernel_rfl) i_ (yields (by rfl) (fun w => by kernel_rfl)) hS3 ?_
  simp only [Act.put, sA_, s0_, sS_]
  refine takeAt 11 39 (.int .i64 (putsF C.most M1 x.f [toDo (C.l i).b]).2.1) rfl rfl (by kernel_rfl) (by kernel_rfl) (by kernel_rfl) i_ (yields (by rfl) (fun w => by kernel_rfl)) hS3 ?_
  simp only [Act.put, sA_, s0_, sS_]
  refine takeAt 12 40 (.int .i64 (putsF C.most M1 x.f [toDo (C.l i).b]).2.2) rfl rfl (by kernel_rfl) (by kernel_rfl) (by kernel_rfl) i_ (yields (by rfl) (fun w => by kernel_rfl)) hS3 ?_
  simp only [Act.put, sA_, s0_, sS_]
  refine takeAt 13 10 (.int .i64 (putsF C.most M1 x.f [toDo (C.l i).b]).2.1) rfl rfl (by kernel_rfl) (by kernel_rfl) (by kernel_rfl) i_ (yields (by rfl) (fun w => by kernel_rfl)) hS3 ?_
  simp only [Act.put, sA_, s0_, sS_]
  refine takeAt 14 9 (.int .i64 (putsF C.most M1 x.f [toDo (C.l i).b]).2.2) rfl rfl (by kernel_rfl) (by kernel_rfl) (by kernel_rfl) i_ (yields (by rfl) (fun w => by kernel_rfl)) hS3 ?_
  simp only [Act.put, sA_, s0_, sS_]
  refine wpAnyH_done (by kernel_rfl) ?_ _
  obtain ⟨r, hr⟩ : ∃ r, putsF C.most M1 x.f [toDo (C.l i).b] = r := ⟨_, rfl⟩
  have RE2 := Lib.hid hr
  rw [hr] at GB ⊢
  have V3 := Lib.hid hS3
  clear hr hS hS1 hS2 hS3
  obtain ⟨M2, id2, z2⟩ := r
  have GT := Lib.hid (show Goes w H C b m M2 u8 from by
   have g := GB.out
   obtain ⟨b2, m2, k1, k2, k3⟩ := g
   exact ⟨b2, m2, k1, HG1.out.1.trans k2 HG1.out.2.size, HG1.out.2.two HG1.out.1 k3⟩)
  by_cases hz : z2 = 0
  ·subst hz
   go_wp2_with fail
   have hS : Sv C H [(28, w.heap.size, cfA x)] u8.drew := V3.out.call (Below.refl _ u8).drew
   have G5 := Lib.hid (GT.out.next (Below.refl _ u8).drew)
   have T5 := Lib.hid (show BoxV 53 u8.drew u1.heap.size (sqA failQ) from TB.out)
   refine wp_region_held_drew (S := fun u => Sv C H [(28, w.heap.size, cfA x)] u) (by kernel_rfl) hS (fun _ => ?_)
   refine takeAt 0 45 (.agg (cfA x)) rfl rfl (by kernel_rfl) (by kernel_rfl) (by kernel_rfl) i_ (ldCf_y w.heap.size x (fun _ h => h.2.1) rfl rfl (by rfl)) hS ?_
   simp only [Act.put, sA_, s0_, sS_]
   refine takeAt 1 46 (.int .i64 id) rfl rfl (by kernel_rfl) (by kernel_rfl) (by kernel_rfl) i_ (yields (by rfl) (fun w => by kernel_rfl)) hS ?_
   simp only [Act.put, sA_, s0_, sS_]
   refine takeAt 3 48 (.agg (cfA x)) rfl rfl (by kernel_rfl) (by kernel_rfl) (by kernel_rfl) i_ (ldCf_y w.heap.size x (fun _ h => h.2.1) rfl rfl (by rfl)) hS ?_
   simp only [Act.put, sA_, s0_, sS_]
   refine takeAt 4 49 (.int .i64 id2) rfl rfl (by kernel_rfl) (by kernel_rfl) (by kernel_rfl) i_ (yields (by rfl) (fun w => by kernel_rfl)) hS ?_
   simp only [Act.put, sA_, s0_, sS_]
   refine callAt 2 47 rfl rfl (by kernel_rfl) (by rfl) (by kernel_rfl) (then_any x id _) ?_
   rintro e u9 ⟨rfl, hB⟩
   have hS6 := hS.call hB
   have G6 := Lib.hid (G5.out.next hB)
   have T6 := Lib.hid (T5.out.below hB T5.out.lt)
   clear hB
   refine ⟨_, rfl, hS6, ?_⟩
   simp only [Act.put, sA_, s0_, sS_]
   refine callAt 5 50 rfl rfl (by kernel_rfl) (by rfl) (by kernel_rfl) (then_any x id2 _) ?_
   rintro e u10 ⟨rfl, hB⟩
   have hS7 := hS6.call hB
   have G7 := Lib.hid (G6.out.next hB)
   have T7 := Lib.hid (T6.out.below hB T6.out.lt)
   clear hB
   refine ⟨_, rfl, hS7, ?_⟩
   simp only [Act.put, sA_, s0_, sS_]
   refine takeAt 6 51 (.agg (sqA (choQ (x.on id) (x.on id2)))) rfl rfl (by kernel_rfl) (by kernel_rfl) (by kernel_rfl) i_ (Or.inl ⟨by rfl, fun u _ => bCho (x.on id) (x.on id2) rfl rfl rfl⟩) hS7 ?_
   simp only [Act.put, sA_, s0_, sS_]
   have P8 := putOf_row T7.out (sqA (choQ (x.on id) (x.on id2)))
   have S8 : Sv C H [(28, w.heap.size, cfA x)] _ := hS7.put T7.out P8 (by intro e he; simp at he; rcases he with rfl; simp) (by have := LO.out; have := SZ.out; omega)
   have PX := Lib.hid P8
   refine rowAt 7 53 u1.heap.size (sqA failQ) (sqA (choQ (x.on id) (x.on id2))) rfl rfl rfl (by kernel_rfl) (by rfl) rfl rfl T7.out (by rw [sqA_size]; exact sizeSq) (by rw [sqA_size, sqA_size]) (sqA_one _) S8 ?_
   refine takeAt 8 7 (.int .i64 0) rfl rfl (by kernel_rfl) (by kernel_rfl) (by kernel_rfl) i_ (yields (by rfl) (fun w => by kernel_rfl)) S8 ?_
   simp only [Act.put, sA_, s0_, sS_]
   refine wpAnyH_done (by kernel_rfl) ?_ _
   go_wp2_with fail
   have ez : eitherZ C M (C.l i) x = (choQ (x.on id) (x.on id2), 0, M2) := by unfold eitherZ; simp only [RE.out, RE2.out, if_true]
   refine bodyPost_ret (resSE rfl _ (g := u1.heap.size) rfl rfl PX.out.box) rfl ⟨?_, ?_⟩
   ·rw [ez]; rfl
   ·rw [ez]
    exact G7.out.putSq HM.out (by have := SZ.out; omega) T7.out PX.out
  ·have hz1 : (z2 != 0) = true := by simpa using hz
   have hz2 : (z2 == 0) = false := by simpa using hz
   have ez : eitherZ C M (C.l i) x = (failQ, z2, M2) := by unfold eitherZ; simp only [RE.out, RE2.out, if_true, if_neg hz]
   have EZ := Lib.hid ez
   clear hz ez
   go_wp2_with (first | refine lineW _ _ (by rfl) (bNo rfl) ?_ | refine putSq rfl _ _ rfl u1.heap.size failQ (sqA failQ) rfl rfl (sqA_size _) TB.out ?_)
   intro u9 X9
   go_wp2_with fail
   refine bodyPost_ret (resSE rfl _ (g := u1.heap.size) rfl rfl X9.out.box) rfl ⟨?_, ?_⟩
   ·rw [EZ.out]; rfl
   ·rw [EZ.out]
    exact GT.out.putSq HM.out (by have := SZ.out; omega) TB.out X9.out
 ·have hz1 : (z != 0) = true := by simpa using hz
  have hz2 : (z == 0) = false := by simpa using hz
  have ez : eitherZ C M (C.l i) x = (failQ, z, M1) := by unfold eitherZ; simp only [RE.out, if_neg hz]
  have EZ := Lib.hid ez
  clear hz ez
  go_wp2_with (first | refine lineW _ _ (by rfl) (bNo rfl) ?_ | refine putSq rfl _ _ rfl u1.heap.size failQ (sqA failQ) rfl rfl (sqA_size _) TA.out ?_)
  intro u9 X9
  go_wp2_with fail
  refine bodyPost_ret (resSE rfl _ (g := u1.heap.size) rfl rfl X9.out.box) rfl ⟨?_, ?_⟩
  ·rw [EZ.out]; rfl
  ·rw [EZ.out]
   exact GA.out.putSq HM.out (by have := SZ.out; omega) TA.out X9.out
end Go.Proofs.YteggpecbeagohaaGreatDoor.Stp
namespace Go.Proofs.YteggpecbeagohaaGreatDoor.Stp
open Go.RowKit
open Frm (Fr Pl frC frL frI dpI putF zF Wf mayF idF I64 BoxV ptr slc plL plC loadFr storeFr resFB getF sizeFr owns_block)
open Cap (Cp cpC zrC withZ agN agB byB byB_eq)
open Ast (Nd At12 NodesAt)
open Nai (setN hasN holdB)
def WdsN (x : Nd) : Prop := x.s0 = W (setN x) 0 ∧ x.s1 = W (setN x) 1 ∧ x.s2 = W (setN x) 2 ∧ x.s3 = W (setN x) 3
section
variable {ops : Array Oper} {R : World → Prop} {a : Act} {o : Oper} {x y z : Operand} {w : World}
theorem ldSN_y (b j : Nat) (A : Option Addr) (n c : Nat) (hR : ∀ u, R u → u.cell? ⟨b, j, none⟩ = some (.slice A n c)) (ho : o.op = .load 41 x) (hx : a.eval x = .pointer (some ⟨b, j, none⟩)) (hw : Region.wanted o (yielded ops a.tmps) = true) : YieldsIf Tryz.prog ops R o (.slice A n c) a := by
 refine Or.inl ⟨hw, fun u h => ?_⟩
 have hc := hR u h
 unfold execOp
 simp only [ho, hx]
 go_simp
theorem ldSI_y (b j : Nat) (A : Option Addr) (n c : Nat) (hR : ∀ u, R u → u.cell? ⟨b, j, none⟩ = some (.slice A n c)) (ho : o.op = .load 77 x) (hx : a.eval x = .pointer (some ⟨b, j, none⟩)) (hw : Region.wanted o (yielded ops a.tmps) = true) : YieldsIf Tryz.prog ops R o (.slice A n c) a := by
 refine Or.inl ⟨hw, fun u h => ?_⟩
 have hc := hR u h
 unfold execOp
 simp only [ho, hx]
 go_simp
theorem ldB_y (b j : Nat) (b2 : Bool) (hR : ∀ u, R u → u.cell? ⟨b, j, none⟩ = some (.bool b2)) (ho : o.op = .load 4 x) (hx : a.eval x = .pointer (some ⟨b, j, none⟩)) (hw : Region.wanted o (yielded ops a.tmps) = true) : YieldsIf Tryz.prog ops R o (.bool b2) a := by
 refine Or.inl ⟨hw, fun u h => ?_⟩
 have hc := hR u h
 unfold execOp
 simp only [ho, hx]
 go_simp
theorem ldT_y (b j : Nat) (s : ByteArray) (hR : ∀ u, R u → u.cell? ⟨b, j, none⟩ = some (.string s)) (ho : o.op = .load 9 x) (hx : a.eval x = .pointer (some ⟨b, j, none⟩)) (hw : Region.wanted o (yielded ops a.tmps) = true) : YieldsIf Tryz.prog ops R o (.string s) a := by
 refine Or.inl ⟨hw, fun u h => ?_⟩
 have hc := hR u h
 unfold execOp
 simp only [ho, hx]
 go_simp
theorem ixN_y (b n c o2 : Nat) (i : Nat) (hi : i < n) (ho : o.op = .indexAddr 41 x y) (hx : a.eval x = .slice (some ⟨b, o2, none⟩) n c) (hy : a.eval y = .int .i64 (i : Int)) (hw : Region.wanted o (yielded ops a.tmps) = true) : YieldsIf Tryz.prog ops R o (.pointer (some ⟨b, o2 + i * 12, none⟩)) a := by
 refine Or.inl ⟨hw, fun u _ => ?_⟩
 have i0 : (0 : Int) ≤ i := by omega
 have i1 : (i : Int) < n := by omega
 unfold execOp
 simp only [ho, hx, hy]
 go_simp
theorem ldW_y (b j : Nat) (n : Nd) (hn : WdsN n) (hR : ∀ u, R u → At12 u b j n) (ho : o.op = .load 74 x) (hx : a.eval x = .pointer (some ⟨b, j + 3, none⟩)) (hw : Region.wanted o (yielded ops a.tmps) = true) : YieldsIf Tryz.prog ops R o (setV (setN n)) a := by
 refine Or.inl ⟨hw, fun u h => ?_⟩
 obtain ⟨h0, h1, h2, c0, c1, c2, c3, -⟩ := hR u h
 obtain ⟨e0, e1, e2, e3⟩ := hn
 rw [e0] at c0
 rw [e1] at c1
 rw [e2] at c2
 rw [e3] at c3
 unfold execOp
 simp only [ho, hx]
 go_simp
theorem ixS_y (s : ByteArray) (p : Nat) (hp : p < s.size) (ho : o.op = .index 9 x y) (hx : a.eval x = .string s) (hy : a.eval y = .int .i64 (p : Int)) (hw : Region.wanted o (yielded ops a.tmps) = true) : YieldsIf Tryz.prog ops R o (.int .u8 (byB s p : Nat)) a := by
 refine Or.inl ⟨hw, fun u _ => ?_⟩
 have i0 : (0 : Int) ≤ p := by omega
 have i1 : (p : Int) < s.size := by omega
 rw [byB_eq hp]
 unfold execOp
 simp only [ho, hx, hy]
 go_simp
theorem len_y (s : ByteArray) (ho : o.op = .call { callee := .builtin .len, args := #[x], argTypes := #[9] }) (hx : a.eval x = .string s) (hw : Region.wanted o (yielded ops a.tmps) = true) : YieldsIf Tryz.prog ops R o (.int .i64 (s.size : Int)) a := by
 refine Or.inl ⟨hw, fun u _ => ?_⟩
 unfold execOp
 simp only [ho, resolve, invoke, builtin, Sem.run_bind, Sem.run_pure, Result.andThen_ok, List.map_toArray, List.map_cons, List.map_nil, hx]
 go_simp
theorem lt_y (m n : Int) (b : Bool) (hb : decide (m < n) = b) (ho : o.op = .binOp .lss 3 x y 3) (hx : a.eval x = .int .i64 m) (hy : a.eval y = .int .i64 n) (hw : Region.wanted o (yielded ops a.tmps) = true) : YieldsIf Tryz.prog ops R o (.bool b) a := by
 refine Or.inl ⟨hw, fun u _ => ?_⟩
 subst hb
 unfold execOp
 simp only [ho, hx, hy]
 go_simp
theorem sub_y (p q : Int) (hp : 0 ≤ p ∧ p ≤ 1000000) (hq : 0 ≤ q ∧ q ≤ 1000000) (ho : o.op = .binOp .sub 3 x y 3) (hx : a.eval x = .int .i64 p) (hy : a.eval y = .int .i64 q) (hw : Region.wanted o (yielded ops a.tmps) = true) : YieldsIf Tryz.prog ops R o (.int .i64 (p - q)) a := by
 refine Or.inl ⟨hw, fun u _ => ?_⟩
 unfold execOp
 simp only [ho, hx, hy]
 go_simp
 rw [IntKind.wrap_i64] <;> omega
theorem addK_y (p q : Int) (hp : 0 ≤ p ∧ p ≤ 1000000) (hq : 0 ≤ q ∧ q ≤ 1000000) (ho : o.op = .binOp .add 3 x y 3) (hx : a.eval x = .int .i64 p) (hy : a.eval y = .int .i64 q) (hw : Region.wanted o (yielded ops a.tmps) = true) : YieldsIf Tryz.prog ops R o (.int .i64 (p + q)) a := by
 refine Or.inl ⟨hw, fun u _ => ?_⟩
 unfold execOp
 simp only [ho, hx, hy]
 go_simp
 rw [IntKind.wrap_i64] <;> omega
theorem ixI_y (b n c : Nat) (i : Nat) (hi : i < n) (ho : o.op = .indexAddr 77 x y) (hx : a.eval x = .slice (some ⟨b, 0, none⟩) n c) (hy : a.eval y = .int .i64 (i : Int)) (hw : Region.wanted o (yielded ops a.tmps) = true) : YieldsIf Tryz.prog ops R o (.pointer (some ⟨b, i, none⟩)) a := by
 refine Or.inl ⟨hw, fun u _ => ?_⟩
 have i0 : (0 : Int) ≤ i := by omega
 have i1 : (i : Int) < n := by omega
 unfold execOp
 simp only [ho, hx, hy]
 go_simp
theorem ldCp_y (g : Nat) (c : Cf) (hR : ∀ u, R u → BoxV 28 u g (cfA c)) (ho : o.op = .load 26 x) (hx : a.eval x = .pointer (some ⟨g, 2, none⟩)) (hw : Region.wanted o (yielded ops a.tmps) = true) : YieldsIf Tryz.prog ops R o (.agg (cpC c.c)) a := by
 refine yieldsIf_load_mid hw 26 x ho g 2 hx (cpC c.c).toList _ (fun u h j v hv => ?_) Tryz.underlying26 rfl Cap.sizeCaps
 exact (hR u h).get (2 + j) (by rw [cfA, List.getElem?_toArray]; rw [Nat.add_comm]; exact hv)
theorem stI_run (T : TypeId) (g j : Nat) (n n0 : Int) (cs : Array Value) (hg : BoxV T w g cs) (h0 : cs[j]? = some (.int .i64 n0)) (ho : o.op = .store 3 x y) (hx : a.eval x = .pointer (some ⟨g, j, none⟩)) (hy : a.eval y = .int .i64 n) : (execOp a.eval o).run Tryz.prog w = .ok .skip (w.setCell ⟨g, j, none⟩ (.int .i64 n)) := by
 have hf := hg.free j
 have hc := hg.get j h0
 unfold execOp
 simp only [ho, hx, hy]
 simp [go_sem, hf, hc]
end
theorem putOf_cell {T : TypeId} {u : World} {g : Nat} {cs : Array Value} (h : BoxV T u g cs) (j : Nat) (v : Value) : Put T g (cs.setIfInBounds j v) u (u.setCell ⟨g, j, none⟩ v) :=
 ⟨h.put j v, fun B hB => (Below.refl B u).setCell hB _, fun _ hk => heap_setCell_other _ _ _ _ (fun e => hk e)⟩
end Go.Proofs.YteggpecbeagohaaGreatDoor.Stp
namespace Go.Proofs.YteggpecbeagohaaGreatDoor.Stp
open Go.RowKit
open Frm (Fr Pl frC frL frI dpI putF zF Wf mayF idF I64 BoxV ptr slc plL plC loadFr storeFr resFB getF sizeFr owns_block)
open Cap (Cp cpC zrC withZ agN agB byB)
open Ast (Nd At12 NodesAt)
open Nai (setN hasN holdB hold_any ag_le)
set_option maxRecDepth 100000 in
set_option maxHeartbeats 8000000 in
theorem look_any (H : Wh) (C : Mx) (b m : Nat) (M : List Pl) (h : Int) (i ja : Nat) (x : Cf) (w : World) (hM : Mch w H C b m none M) (hi : i < C.n) (haj : (C.l i).a = (ja : Int)) (hja : ja < C.n) (hbk : 0 ≤ C.bk ja ∧ C.bk ja ≤ 1000000) (hxp : 0 ≤ x.p ∧ x.p ≤ 1000000) (hn : C.n ≤ 1000) (hl : M.length ≤ 980000) :
  Calls Tryz.prog 66 #[ptr H.p, .int .i64 h, .pointer (some ⟨H.g, i * 12, none⟩), .agg (cfA x)] w (StepRes w H C b m (lookZ C M h (C.l i) x)) := by
 have HM := Lib.hid hM
 have LO := Lib.hid hM.low
 have HWI := Lib.hid (fun u hu => within_any H C b m M h (toDo (C.l i).a) ⟨x.f, x.p - C.bk ja, x.c⟩ x u hu ⟨.inl rfl, by show 0 ≤ (C.l i).a ∧ (C.l i).a ≤ 1000000; omega, by show (0 : Int) ≤ 0 ∧ (0 : Int) ≤ 1000000; omega, by show (0 : Int) ≤ 0 ∧ (0 : Int) ≤ 1000000; omega⟩ hl)
 have HC := Lib.hid (And.intro hbk (And.intro hxp (And.intro haj hja)))
 have GT := Lib.hid (fun (u v : World) (M' : List Pl) (hu : Below w.heap.size w u) (hg : Goes u H C b m M' v) => Goes.first hu hg)
 clear hM hl hbk hxp hn
 go_enter Tryz.func66, Tryz.ntmps66
 go_wp2_with (refine boxCf _ rfl x rfl (by rfl) ?_)
 intro u1 X1
 go_wp2_with (refine allocSq rfl (by rfl) ?_)
 intro u2 X2
 have s1 := Lib.hid X1.out.size
 have s2 := Lib.hid X2.out.size
 have B2 := Lib.hid (X1.out.box.below X2.out.low (by have := s1.out; omega))
 go_wp2_with (first | refine loadCf rfl _ rfl w.heap.size x rfl B2.out ?_ | refine allocCf rfl (by rfl) ?_)
 intro u3 X3
 have s3 := Lib.hid X3.out.size
 go_wp2_with (refine putCf rfl _ _ rfl u2.heap.size x (cfA zCf) rfl rfl (cfA_size _) X3.out.box ?_)
 intro u4 X4
 have SZ := Lib.hid (And.intro s1.out (And.intro s2.out (And.intro s3.out X4.out.size)))
 have hsz := SZ.out
 have L3 := Lib.hid (show Below w.heap.size w u3 from (X1.out.low.trans (X2.out.low.mono (by omega))).trans (X3.out.low.mono (by omega)))
 have L4 := Lib.hid (show Below w.heap.size w u4 from L3.out.trans (X4.out.low _ (by omega)))
 have V4 := Lib.hid (show Sv C H [(28, w.heap.size, cfA x)] u4 from ⟨(HM.out.below L4.out (Nat.le_refl _)).rm, (X4.out.other w.heap.size (by omega)).trans (B2.out.below X3.out.low (by omega)), trivial⟩)
 have T4 := Lib.hid (show BoxV 53 u4 u1.heap.size (sqA failQ) from (X4.out.other _ (by omega)).trans (X2.out.box.below X3.out.low (by omega)))
 have Y4 := Lib.hid (show BoxV 28 u4.drew u2.heap.size (cfA x) from X4.out.box)
 clear s1 s2 s3 hsz X1 X2 X3 X4 B2 L3
 go_wp2_with fail
 have hS : Sv C H [(28, w.heap.size, cfA x)] u4.drew := V4.out.call (Below.refl _ u4).drew
 obtain ⟨hbk, hxp, -⟩ := HC.out
 have hno : ∀ e, e ∈ [((28 : TypeId), w.heap.size, cfA x)] → e.1 ≠ 28 ∨ e.2.1 ≠ u2.heap.size := by
  intro e he
  simp at he
  rw [he]
  exact .inr (by have := SZ.out; show w.heap.size ≠ _; omega)
 have hap : H.p ≠ u2.heap.size ∧ H.g ≠ u2.heap.size ∧ H.h ≠ u2.heap.size := by have := LO.out; have := SZ.out; omega
 refine wp_region_held_drew (S := fun u => Sv C H [(28, w.heap.size, cfA x)] u) (by kernel_rfl) hS (fun _ => ?_)
 refine takeAt 0 12 (.pointer (some ⟨u2.heap.size, 1, none⟩)) rfl rfl (by kernel_rfl) (by kernel_rfl) (by kernel_rfl) i_ (yields (by rfl) (fun w => by kernel_rfl)) hS ?_
 simp only [Act.put, sA_, s0_, sS_]
 refine takeAt 2 14 (.pointer (some ⟨H.p, 0, none⟩)) rfl rfl (by kernel_rfl) (by kernel_rfl) (by kernel_rfl) i_ (yields (by rfl) (fun w => by kernel_rfl)) hS ?_
 simp only [Act.put, sA_, s0_, sS_]
 refine takeAt 3 15 (.pointer (some ⟨H.p, 0, none⟩)) rfl rfl (by kernel_rfl) (by kernel_rfl) (by kernel_rfl) i_ (yields (by rfl) (fun w => by kernel_rfl)) hS ?_
 simp only [Act.put, sA_, s0_, sS_]
 refine takeAt 4 16 (.pointer (some ⟨H.p, 1, none⟩)) rfl rfl (by kernel_rfl) (by kernel_rfl) (by kernel_rfl) i_ (yields (by rfl) (fun w => by kernel_rfl)) hS ?_
 simp only [Act.put, sA_, s0_, sS_]
 refine takeAt 5 17 (.slice (some ⟨H.h, 0, none⟩) C.n H.ch) rfl rfl (by kernel_rfl) (by kernel_rfl) (by kernel_rfl) i_ (ldSI_y H.p 1 _ _ _ (fun _ h => h.1.c1) rfl rfl (by rfl)) hS ?_
 simp only [Act.put, sA_, s0_, sS_]
 refine takeAt 6 18 (.pointer (some ⟨H.g, i * 12, none⟩)) rfl rfl (by kernel_rfl) (by kernel_rfl) (by kernel_rfl) i_ (yields (by rfl) (fun w => by kernel_rfl)) hS ?_
 simp only [Act.put, sA_, s0_, sS_]
 refine takeAt 7 19 (.pointer (some ⟨H.g, i * 12, none⟩)) rfl rfl (by kernel_rfl) (by kernel_rfl) (by kernel_rfl) i_ (yields (by rfl) (fun w => by kernel_rfl)) hS ?_
 simp only [Act.put, sA_, s0_, sS_]
 refine takeAt 8 20 (.pointer (some ⟨H.g, i * 12 + 1, none⟩)) rfl rfl (by kernel_rfl) (by kernel_rfl) (by kernel_rfl) i_ (yields (by rfl) (fun w => by kernel_rfl)) hS ?_
 simp only [Act.put, sA_, s0_, sS_]
 refine takeAt 9 21 (.int .i64 (ja : Int)) rfl rfl (by kernel_rfl) (by kernel_rfl) (by kernel_rfl) i_ (ldI_y H.g (i * 12 + 1) _ (fun _ h => (h.1.node hi).2.1.trans (by rw [haj])) rfl rfl (by rfl)) hS ?_
 simp only [Act.put, sA_, s0_, sS_]
 refine takeAt 10 22 (.pointer (some ⟨H.h, ja, none⟩)) rfl rfl (by kernel_rfl) (by kernel_rfl) (by kernel_rfl) i_ (ixI_y H.h C.n H.ch ja hja rfl rfl rfl (by rfl)) hS ?_
 simp only [Act.put, sA_, s0_, sS_]
 refine takeAt 11 23 (.int .i64 (C.bk ja)) rfl rfl (by kernel_rfl) (by kernel_rfl) (by kernel_rfl) i_ (ldI_y H.h ja _ (fun _ h => h.1.bks.2 ja hja) rfl rfl (by rfl)) hS ?_
 simp only [Act.put, sA_, s0_, sS_]
 refine valAt 1 13 (.int .i64 x.p) u4.drew rfl rfl (by kernel_rfl) (by rfl) (ldI_run u2.heap.size 1 _ (Y4.out.get 1 (cf_get1 x)) rfl rfl) hS ?_
 simp only [Act.put, sA_, s0_, sS_]
 refine takeAt 12 24 (.int .i64 (x.p - C.bk ja)) rfl rfl (by kernel_rfl) (by kernel_rfl) (by kernel_rfl) i_ (sub_y x.p (C.bk ja) hxp hbk rfl rfl rfl (by rfl)) hS ?_
 simp only [Act.put, sA_, s0_, sS_]
 refine takeAt 13 25 (.pointer (some ⟨u2.heap.size, 1, none⟩)) rfl rfl (by kernel_rfl) (by kernel_rfl) (by kernel_rfl) i_ (yields (by rfl) (fun w => by kernel_rfl)) hS ?_
 simp only [Act.put, sA_, s0_, sS_]
 obtain ⟨u5, e5⟩ : ∃ v, u4.drew.setCell ⟨u2.heap.size, 1, none⟩ (.int .i64 (x.p - C.bk ja)) = v := ⟨_, rfl⟩
 have P5 : Put 28 u2.heap.size (cfA ⟨x.f, x.p - C.bk ja, x.c⟩) u4.drew u5 := e5 ▸ putOf_cell Y4.out 1 _
 have hS5 : Sv C H [(28, w.heap.size, cfA x)] u5 := hS.put (L := [(28, w.heap.size, cfA x)]) Y4.out P5 hno hap
 refine skipAt 14 u5 rfl rfl (by kernel_rfl) (by rfl) (by rw [← e5]; exact stI_run 28 _ _ _ x.p (cfA x) Y4.out (cf_get1 x) rfl rfl rfl) hS5 ?_
 refine wpAnyH_done (by kernel_rfl) ?_ _
 have L5 := Lib.hid (show Below w.heap.size w u5 from (L4.out.trans ((Below.refl _ u4).drew.mono L4.out.size)).trans (P5.low _ (by have := SZ.out; omega)))
 have V5 := Lib.hid (show Sv C H [(28, w.heap.size, cfA x), (28, u2.heap.size, cfA ⟨x.f, x.p - C.bk ja, x.c⟩)] u5 from ⟨hS5.1, hS5.2.1, P5.box, trivial⟩)
 have T5 := Lib.hid (show BoxV 53 u5 u1.heap.size (sqA failQ) from (P5.other _ (by have := SZ.out; omega)).trans T4.out)
 have hx1 := P5.box.get 1 (cf_get1 _)
 have ej : (C.l i).a.toNat = ja := by rw [haj]; rfl
 have EJ := Lib.hid ej
 clear hS hS5 P5 e5 V4 T4 L4 Y4 hbk hxp hno hap ej
 by_cases hneg : x.p - C.bk ja < 0
 ·have EZ := Lib.hid (show lookZ C M h (C.l i) x = (goIfQ (h == 2) x, 0, M) by unfold lookZ; rw [EJ.out, if_pos hneg])
  dsimp only at hx1
  have hB := V5.out.2.1
  go_wp2_with (refine loadCf rfl _ rfl w.heap.size x rfl hB ?_)
  refine (goIf_any (h == 2) x _).mono ?_
  rintro e u6 ⟨rfl, hB6⟩
  have T6 := Lib.hid (T5.out.below hB6 T5.out.lt)
  have L6 := Lib.hid (L5.out.trans (hB6.mono L5.out.size))
  clear hB6 hB hx1 hneg
  go_wp2_with (refine putSq rfl _ _ rfl u1.heap.size (goIfQ (h == 2) x) (sqA failQ) rfl rfl (sqA_size _) T6.out ?_)
  intro u7 X7
  go_wp2_with fail
  refine bodyPost_ret (resSE rfl _ (g := u1.heap.size) rfl rfl X7.out.box) rfl ⟨?_, ?_⟩
  ·rw [EZ.out]; rfl
  ·rw [EZ.out]
   exact ((Goes.refl HM.out).next L6.out).putSq HM.out (by have := SZ.out; omega) T6.out X7.out
 ·have EZ := Lib.hid (show lookZ C M h (C.l i) x = withinZ C M h (toDo (C.l i).a) ⟨x.f, x.p - C.bk ja, x.c⟩ x by unfold lookZ; rw [EJ.out, if_neg hneg])
  dsimp only at hx1
  have M5 := Lib.hid (HM.out.below L5.out (Nat.le_refl _))
  go_wp2_with fail
  have hS : Sv C H [(28, w.heap.size, cfA x), (28, u2.heap.size, cfA ⟨x.f, x.p - C.bk ja, x.c⟩)] u5.drew := V5.out.call (Below.refl _ u5).drew
  have L5 := Lib.hid (L5.out.trans ((Below.refl _ u5).drew.mono L5.out.size))
  have M5 := Lib.hid (M5.out.below (B := u5.heap.size) (Below.refl _ u5).drew (Nat.le_refl _))
  have T5 := Lib.hid (show BoxV 53 u5.drew u1.heap.size (sqA failQ) from T5.out)
  refine wp_region_held_drew (S := fun u => Sv C H [(28, w.heap.size, cfA x), (28, u2.heap.size, cfA ⟨x.f, x.p - C.bk ja, x.c⟩)] u) (by kernel_rfl) hS (fun _ => ?_)
  refine takeAt 0 33 (.pointer (some ⟨H.p, 0, none⟩)) rfl rfl (by kernel_rfl) (by kernel_rfl) (by kernel_rfl) i_ (yields (by rfl) (fun w => by kernel_rfl)) hS ?_
  simp only [Act.put, sA_, s0_, sS_]
  refine takeAt 1 34 (.int .i64 h) rfl rfl (by kernel_rfl) (by kernel_rfl) (by kernel_rfl) i_ (yields (by rfl) (fun w => by kernel_rfl)) hS ?_
  simp only [Act.put, sA_, s0_, sS_]
  refine takeAt 2 35 (.pointer (some ⟨H.g, i * 12, none⟩)) rfl rfl (by kernel_rfl) (by kernel_rfl) (by kernel_rfl) i_ (yields (by rfl) (fun w => by kernel_rfl)) hS ?_
  simp only [Act.put, sA_, s0_, sS_]
  refine takeAt 3 36 (.pointer (some ⟨H.g, i * 12, none⟩)) rfl rfl (by kernel_rfl) (by kernel_rfl) (by kernel_rfl) i_ (yields (by rfl) (fun w => by kernel_rfl)) hS ?_
  simp only [Act.put, sA_, s0_, sS_]
  refine takeAt 4 37 (.pointer (some ⟨H.g, i * 12 + 1, none⟩)) rfl rfl (by kernel_rfl) (by kernel_rfl) (by kernel_rfl) i_ (yields (by rfl) (fun w => by kernel_rfl)) hS ?_
  simp only [Act.put, sA_, s0_, sS_]
  refine takeAt 5 38 (.int .i64 (C.l i).a) rfl rfl (by kernel_rfl) (by kernel_rfl) (by kernel_rfl) i_ (ldI_y H.g (i * 12 + 1) _ (fun _ h => (h.1.node hi).2.1) rfl rfl (by rfl)) hS ?_
  simp only [Act.put, sA_, s0_, sS_]
  refine takeAt 7 40 (.agg (cfA ⟨x.f, x.p - C.bk ja, x.c⟩)) rfl rfl (by kernel_rfl) (by kernel_rfl) (by kernel_rfl) i_ (ldCf_y u2.heap.size _ (fun _ h => h.2.2.1) rfl rfl (by rfl)) hS ?_
  simp only [Act.put, sA_, s0_, sS_]
  refine takeAt 8 41 (.agg (cfA x)) rfl rfl (by kernel_rfl) (by kernel_rfl) (by kernel_rfl) i_ (ldCf_y w.heap.size x (fun _ h => h.2.1) rfl rfl (by rfl)) hS ?_
  simp only [Act.put, sA_, s0_, sS_]
  refine callAt 6 39 rfl rfl (by kernel_rfl) (by rfl) (by kernel_rfl) (toDo_any (C.l i).a _) ?_
  rintro e u6 ⟨rfl, hB⟩
  have hS6 := hS.call hB
  have L6 := Lib.hid (L5.out.trans (hB.mono L5.out.size))
  have T6 := Lib.hid (T5.out.below hB T5.out.lt)
  have M6 := Lib.hid (M5.out.below hB (Nat.le_refl _))
  clear hB
  refine ⟨_, rfl, hS6, ?_⟩
  simp only [Act.put, sA_, s0_, sS_]
  refine callAt 9 42 rfl rfl (by kernel_rfl) (by rfl) (by kernel_rfl) (HWI.out u6 M6.out) ?_
  rintro e u7 ⟨rfl, hG⟩
  have hS7 := hS6.go hG M6.out (by intro e he; simp at he; rcases he with rfl | rfl <;> exact ⟨by simp, by simp⟩)
  have T7 := Lib.hid (hG.box T6.out (M6.out.not_p T6.out (by decide)) (M6.out.not_box T6.out (by decide)).1 (M6.out.not_box T6.out (by decide)).2)
  have G7 := Lib.hid (GT.out u6 u7 _ L6.out hG)
  clear hG
  refine ⟨_, rfl, hS7, ?_⟩
  simp only [Act.put, sA_, s0_, sS_]
  refine takeAt 10 43 (.agg (sqA (withinZ C M h (toDo (C.l i).a) ⟨x.f, x.p - C.bk ja, x.c⟩ x).1)) rfl rfl (by kernel_rfl) (by kernel_rfl) (by kernel_rfl) i_ (yields (by rfl) (fun w => by kernel_rfl)) hS7 ?_
  simp only [Act.put, sA_, s0_, sS_]
  refine takeAt 11 44 (.int .i64 (withinZ C M h (toDo (C.l i).a) ⟨x.f, x.p - C.bk ja, x.c⟩ x).2.1) rfl rfl (by kernel_rfl) (by kernel_rfl) (by kernel_rfl) i_ (yields (by rfl) (fun w => by kernel_rfl)) hS7 ?_
  simp only [Act.put, sA_, s0_, sS_]
  have P8 := putOf_row T7.out (sqA (withinZ C M h (toDo (C.l i).a) ⟨x.f, x.p - C.bk ja, x.c⟩ x).1)
  have S8 : Sv C H [(28, w.heap.size, cfA x), (28, u2.heap.size, cfA ⟨x.f, x.p - C.bk ja, x.c⟩)] _ := hS7.put T7.out P8 (by intro e he; simp at he; rcases he with rfl | rfl <;> simp) (by have := LO.out; have := SZ.out; omega)
  have PX := Lib.hid P8
  refine rowAt 12 53 u1.heap.size (sqA failQ) (sqA (withinZ C M h (toDo (C.l i).a) ⟨x.f, x.p - C.bk ja, x.c⟩ x).1) rfl rfl rfl (by kernel_rfl) (by rfl) rfl rfl T7.out (by rw [sqA_size]; exact sizeSq) (by rw [sqA_size, sqA_size]) (sqA_one _) S8 ?_
  refine takeAt 13 9 (.int .i64 (withinZ C M h (toDo (C.l i).a) ⟨x.f, x.p - C.bk ja, x.c⟩ x).2.1) rfl rfl (by kernel_rfl) (by kernel_rfl) (by kernel_rfl) i_ (yields (by rfl) (fun w => by kernel_rfl)) S8 ?_
  simp only [Act.put, sA_, s0_, sS_]
  refine wpAnyH_done (by kernel_rfl) ?_ _
  go_wp2_with fail
  refine bodyPost_ret (resSE rfl _ (g := u1.heap.size) rfl rfl PX.out.box) rfl ⟨?_, ?_⟩
  ·rw [EZ.out]; rfl
  ·rw [EZ.out]
   exact G7.out.putSq HM.out (by have := SZ.out; omega) T7.out PX.out
end Go.Proofs.YteggpecbeagohaaGreatDoor.Stp
