import Derived.Test.YteggpecbeagohaaGreatDoorStpDef
import Derived.Test.YteggpecbeagohaaGreatDoorFrmGet
namespace Go.Proofs.YteggpecbeagohaaGreatDoor.Stp
open Go.RowKit
open Go.Maps (Keyed IsMap Tidy)
open Frm (Fr Pl frC frL frI dpI putF zF Wf mayF idF I64 BoxV ptr slc plL plC MapOf owns_block owns_cell flat_get addr_add loadFr storeFr resFB getF sizeFr lawF zeroI keyF)
abbrev fp (b : Nat) : Value := .pointer (some ⟨b, 3, none⟩)
structure Mq where
 nd : Value
 bk : Value
 s : ByteArray
 most : Int
abbrev mcC (K : Mq) (b m n c : Nat) (ow : Value) : Array Value := #[K.nd, K.bk, .string K.s, .int .i64 K.most, slc b n c, .map (some m), ow]
abbrev owV (p : Nat) : Option Nat → Value
 | none => fp p
 | some q => ptr q
structure Ms (w : World) (p b m : Nat) (K : Mq) (o : Option Nat) (M : List Pl) : Prop where
 box : ∃ c, BoxV 85 w p (mcC K b m M.length c (owV p o)) ∧ w.ownsRow 0 112 6 (slc b M.length c) M.length (M.flatMap plL)
 map : ∃ D : DataW Unit, w.ownsMap Tryz.prog 90 (plainElem Tryz.prog 3) m M.length D ∧ MapOf D M
 old : ∀ q, o = some q → q ≠ p ∧ (∃ cs T, w.heap[q]? = some (.cells cs T (0, 0))) ∧ M = [(zF, 0)]
 wf : Wf M
 len : M.length ≤ 1000000
 most : 0 ≤ K.most ∧ K.most ≤ 1048576
section
variable {w w' : World} {p b m : Nat} {K : Mq} {o : Option Nat} {M : List Pl}
theorem Ms.cell (h : Ms w p b m K o M) {i j : Nat} (hi : i < M.length) (hj : j < 6) : w.cell? ⟨b, i * 6 + j, none⟩ = (plL (M.getD i (zF, 0)))[j]? := by
 obtain ⟨c, -, h2⟩ := h.box
 exact owns_cell h2 hi hj
theorem Ms.apart (h : Ms w p b m K o M) : p < w.heap.size ∧ b < w.heap.size ∧ m < w.heap.size ∧ p ≠ b ∧ p ≠ m ∧ b ≠ m := by
 obtain ⟨c, h1, h2⟩ := h.box
 obtain ⟨D, ⟨es, cl, h3, -⟩, -⟩ := h.map
 obtain ⟨cur, h4⟩ := owns_block h2
 refine ⟨h1.lt, lt_of_block h4, lt_of_block h3, ?_, ?_, ?_⟩
 ·rintro rfl
  rw [h1] at h4
  injection h4 with h4; injection h4 with _ h4
  exact absurd h4 (by decide)
 ·rintro rfl
  rw [h1] at h3
  injection h3 with h3; cases h3
 ·rintro rfl
  rw [h4] at h3
  injection h3 with h3; cases h3
theorem Ms.keep (h : Ms w p b m K o M) (hk : ∀ j, j = p ∨ j = b ∨ j = m ∨ o = some j → w'.heap[j]? = w.heap[j]?) : Ms w' p b m K o M := by
 obtain ⟨c, h1, h2⟩ := h.box
 obtain ⟨D, ⟨es, cl, h3, h4⟩, h5⟩ := h.map
 refine ⟨⟨c, (hk p (.inl rfl)).trans h1, h2.1, ?_⟩, ⟨D, ⟨es, cl, (hk m (.inr (.inr (.inl rfl)))).trans h3, h4⟩, h5⟩, fun q hq => ?_, h.wf, h.len, h.most⟩
 ·rcases h2.2 with ⟨e, -⟩ | ⟨g, cap, cur, e, h0, h6, h7⟩
  ·cases e
  ·have e1 : g = b := by injection e with e1; injection e1 with e1; injection e1 with e1; exact e1.symm
   exact .inr ⟨g, cap, cur, e, h0, (hk g (.inr (.inl e1))).trans h6, h7⟩
 ·obtain ⟨k1, ⟨cs, T, k2⟩, k3⟩ := h.old q hq
  exact ⟨k1, ⟨cs, T, (hk q (.inr (.inr (.inr hq)))).trans k2⟩, k3⟩
theorem Ms.below {B : Nat} (h : Ms w p b m K o M) (hb : Below B w w') (hB : w.heap.size ≤ B) : Ms w' p b m K o M :=
 h.keep fun j hj => hb.block j (by
  have := h.apart
  rcases hj with rfl | rfl | rfl | e
  ·omega
  ·omega
  ·omega
  ·obtain ⟨-, ⟨cs, T, k⟩, -⟩ := h.old j e
   have := lt_of_block k
   omega)
end
set_option maxHeartbeats 1000000 in
theorem len_any (p b m : Nat) (K : Mq) (o : Option Nat) (M : List Pl) (w : World) (h : Ms w p b m K o M) :
  Calls Tryz.prog 31 #[fp p] w fun e w' => e = .returned (.int .i64 ((M.length : Int) - 1)) ∧ Below w.heap.size w w' := by
 obtain ⟨c, hb, -⟩ := h.box
 have h1 := hb.get 4 rfl
 have hl := h.len
 have hl1 := h.wf.len
 obtain ⟨n, hn⟩ : ∃ n, M.length = n := ⟨_, rfl⟩
 rw [hn] at h1 hl hl1 ⊢
 have n0 : (1 : Int) ≤ n := by omega
 have n1 : (n : Int) ≤ 1000000 := by omega
 clear h hb hn hl hl1
 go_enter Tryz.func31, Tryz.ntmps31
 go_wp2_with fail
 go_ret
 exact ⟨by first | rfl | (congr 2; go_num), by go_grown⟩
set_option maxHeartbeats 1000000 in
theorem has_any (p b m : Nat) (K : Mq) (o : Option Nat) (M : List Pl) (z : Int) (w : World) (h : Ms w p b m K o M) :
  Calls Tryz.prog 42 #[fp p, .int .i64 z] w fun e w' => e = .returned (.bool (decide (0 ≤ z ∧ z < M.length))) ∧ Below w.heap.size w w' := by
 obtain ⟨c, hb, -⟩ := h.box
 have h1 := hb.get 4 rfl
 have hl := h.len
 obtain ⟨n, hn⟩ : ∃ n, M.length = n := ⟨_, rfl⟩
 rw [hn] at h1 hl ⊢
 have n1 : (n : Int) ≤ 1000000 := by omega
 clear h hb hn hl
 by_cases k0 : 0 ≤ z
 ·by_cases k1 : z < n
  ·have e : decide (0 ≤ z ∧ z < n) = true := by simp [k0, k1]
   rw [e]
   clear e
   go_enter Tryz.func42, Tryz.ntmps42
   go_wp2_with fail
   go_ret
   exact ⟨rfl, by go_grown⟩
  ·have e : decide (0 ≤ z ∧ z < n) = false := by simp [k1]
   rw [e]
   clear e
   go_enter Tryz.func42, Tryz.ntmps42
   go_wp2_with fail
   go_ret
   exact ⟨rfl, by go_grown⟩
 ·have e : decide (0 ≤ z ∧ z < n) = false := by simp [k0]
  rw [e]
  clear e
  go_enter Tryz.func42, Tryz.ntmps42
  go_wp2_with fail
  go_ret
  exact ⟨rfl, by go_grown⟩
theorem Ms.frame {w : World} {p b m : Nat} {K : Mq} {o : Option Nat} {M : List Pl} (h : Ms w p b m K o M) {i : Nat} (hi : i < M.length) : w.rangeAt b (i * 6) (frL (frI M i)) := fun j v hv => by
 have hj : j < 5 := by
  rcases Nat.lt_or_ge j 5 with q | q
  ·exact q
  ·rw [List.getElem?_eq_none (by simpa using q)] at hv; cases hv
 rw [h.cell hi (by omega), ← hv]
 rcases (show j = 0 ∨ j = 1 ∨ j = 2 ∨ j = 3 ∨ j = 4 by omega) with rfl | rfl | rfl | rfl | rfl <;> rfl
theorem Ms.dp {w : World} {p b m : Nat} {K : Mq} {o : Option Nat} {M : List Pl} (h : Ms w p b m K o M) {i : Nat} (hi : i < M.length) : w.cell? ⟨b, i * 6 + 5, none⟩ = some (.int .i64 (dpI M i : Int)) := by
 rw [h.cell hi (by omega)]
 rfl
set_option maxHeartbeats 1000000 in
theorem get_any (p b m : Nat) (K : Mq) (o : Option Nat) (M : List Pl) (z : Int) (w : World) (h : Ms w p b m K o M) :
  Calls Tryz.prog 28 #[fp p, .int .i64 z] w fun e w' => e = .returned (.tuple #[.agg (frC (getF M z)), .bool (decide (0 ≤ z ∧ z < M.length))]) ∧ Below w.heap.size w w' := by
 obtain ⟨wa, hwa⟩ : ∃ wa, w.alloc (.cells #[.int .i64 0, .int .i64 0, .int .i64 0, .int .i64 0, .int .i64 0] 90) = wa := ⟨_, rfl⟩
 have hB0 : Below w.heap.size w wa := hwa ▸ (Below.refl _ w).alloc (Nat.le_refl _) _
 have hz0 : BoxV 90 wa w.heap.size (frC zF) := hwa ▸ BoxV.new w _
 have H := Lib.hid (h.below hB0 (Nat.le_refl _))
 have B0 := Lib.hid hB0
 have Z0 := Lib.hid hz0
 have HS := Lib.hid (show wa.heap.size = w.heap.size + 1 by rw [← hwa]; simp)
 clear h hB0 hz0
 by_cases k : 0 ≤ z ∧ z < M.length
 ·obtain ⟨i, rfl⟩ : ∃ i : Nat, z = i := ⟨z.toNat, by omega⟩
  have hi : i < M.length := by omega
  have ev : getF M (i : Int) = frI M i := by unfold getF; rw [if_pos k]; rfl
  have dk : decide (0 ≤ (i : Int) ∧ (i : Int) < M.length) = true := decide_eq_true k
  rw [ev, dk]
  have hc := has_any p b m K o M (i : Int) wa H.out
  rw [dk] at hc
  have HC := Lib.hid hc
  clear hc dk ev k
  go_enter Tryz.func28, Tryz.ntmps28
  go_wp2_with fail
  try rw [hwa]
  refine HC.out.mono ?_
  rintro e w1 ⟨rfl, hB⟩
  have H1 := Lib.hid (H.out.below hB (Nat.le_refl _))
  have BB := Lib.hid (thenB B0.out hB (by have := HS.out; omega))
  have Z1 := Lib.hid (Z0.out.below hB (by have := HS.out; omega))
  have FR := Lib.hid (H1.out.frame hi)
  obtain ⟨c1, hb1, -⟩ := H1.out.box
  have h1 := hb1.get 4 rfl
  clear hb1 hB hwa
  have i0 : (0 : Int) ≤ i := by omega
  have i1 : (i : Int) < M.length := by omega
  go_wp2_with (first | (refine loadFr rfl _ rfl b _ (frI M i) rfl FR.out ?_) | (refine storeFr rfl _ _ rfl w.heap.size zF (frI M i) rfl rfl Z1.out ?_; intro u HZ HB))
  refine bodyPost_ret (resFB (b := true) (f := frI M i) rfl _ (g := w.heap.size) rfl rfl HZ.out) rfl ?_
  exact ⟨rfl, BB.out.trans (HB.out _ (Nat.le_refl _))⟩
 ·have ev : getF M z = zF := by unfold getF; rw [if_neg k]
  have dk : decide (0 ≤ z ∧ z < M.length) = false := decide_eq_false k
  rw [ev, dk]
  have hc := has_any p b m K o M z wa H.out
  rw [dk] at hc
  have HC := Lib.hid hc
  clear hc dk ev k
  go_enter Tryz.func28, Tryz.ntmps28
  go_wp2_with fail
  try rw [hwa]
  refine HC.out.mono ?_
  rintro e w1 ⟨rfl, hB⟩
  have BB := Lib.hid (thenB B0.out hB (by have := HS.out; omega))
  have Z1 := Lib.hid (Z0.out.below hB (by have := HS.out; omega))
  clear hB hwa
  go_wp2_with (refine storeFr rfl _ _ rfl w.heap.size zF zF rfl rfl Z1.out ?_; intro u HZ HB)
  refine bodyPost_ret (resFB (b := false) (f := zF) rfl _ (g := w.heap.size) rfl rfl HZ.out) rfl ?_
  exact ⟨rfl, BB.out.trans (HB.out _ (Nat.le_refl _))⟩
set_option maxHeartbeats 2000000 in
theorem mayBe_any (p b m : Nat) (K : Mq) (o : Option Nat) (M : List Pl) (f : Fr) (w : World) (h : Ms w p b m K o M) :
  Calls Tryz.prog 60 #[fp p, .agg (frC f)] w fun e w' => e = .returned (.bool (mayF M.length f)) ∧ Below w.heap.size w w' := by
 obtain ⟨k, n, t, fr, x⟩ := f
 obtain ⟨r, hr⟩ : ∃ r, r = mayF M.length ⟨k, n, t, fr, x⟩ := ⟨_, rfl⟩
 obtain ⟨wa, hwa⟩ : ∃ wa, w.alloc (.cells #[.int .i64 k, .int .i64 n, .int .i64 t, .int .i64 fr, .int .i64 x] 90) = wa := ⟨_, rfl⟩
 have hB0 : Below w.heap.size w wa := hwa ▸ (Below.refl _ w).alloc (Nat.le_refl _) _
 have H := Lib.hid (h.below hB0 (Nat.le_refl _))
 have HC := Lib.hid (has_any p b m K o M x wa H.out)
 have B0 := Lib.hid hB0
 have HS := Lib.hid (show wa.heap.size = w.heap.size + 1 by rw [← hwa]; simp)
 have HR := Lib.hid hr
 have BN := Lib.hid (show Below w.heap.size w (w.alloc (.cells #[.int .i64 k, .int .i64 n, .int .i64 t, .int .i64 fr, .int .i64 x] 90)) from (Below.refl _ w).alloc (Nat.le_refl _) _)
 have RF : RowKit.Hid (¬ ((k = 1 ∨ k = 2 ∨ k = 3) ∧ 0 ≤ n ∧ 0 ≤ t ∧ 0 ≤ fr) → r = false) := Lib.hid fun q => by
  rw [hr]; unfold mayF; exact decide_eq_false fun q2 => q ⟨q2.1, q2.2.1, q2.2.2.1, q2.2.2.2.1⟩
 have RT : RowKit.Hid ((k = 1 ∨ k = 2 ∨ k = 3) ∧ 0 ≤ n ∧ 0 ≤ t ∧ 0 ≤ fr → r = decide (0 ≤ x ∧ x < M.length)) := Lib.hid fun q => by
  rw [hr]; unfold mayF; exact decide_eq_decide.2 ⟨fun q2 => q2.2.2.2.2, fun q2 => ⟨q.1, q.2.1, q.2.2.1, q.2.2.2, q2⟩⟩
 have HWA := Lib.hid hwa
 rw [← hr]
 clear h hB0 hr hwa
 by_cases hk : k = 1 ∨ k = 2 ∨ k = 3
 ·have HK := Lib.hid hk
  by_cases h1 : 0 ≤ n
  ·by_cases h2 : 0 ≤ t
   ·by_cases h3 : 0 ≤ fr
    ·have RV := Lib.hid (RT.out ⟨hk, h1, h2, h3⟩)
     rcases hk with rfl | rfl | rfl
     all_goals
      go_enter Tryz.func60, Tryz.ntmps60
      go_wp2_with fail
      rw [HWA.out]
      refine HC.out.mono ?_
      rintro e w1 ⟨rfl, hB⟩
      rw [← RV.out]
      have BB := Lib.hid (thenB B0.out hB (by have := HS.out; omega))
      clear hB
      clear RV RT RF HR H HC
      cases r
      all_goals
       go_wp2_with fail
       go_ret
       exact ⟨rfl, BB.out⟩
    ·have RV := Lib.hid (RF.out (fun q => h3 q.2.2.2))
     rcases hk with rfl | rfl | rfl
     all_goals
      rw [RV.out]
      go_enter Tryz.func60, Tryz.ntmps60
      go_wp2_with fail
      go_ret
      exact ⟨rfl, BN.out⟩
   ·have RV := Lib.hid (RF.out (fun q => h2 q.2.2.1))
    rcases hk with rfl | rfl | rfl
    all_goals
     rw [RV.out]
     go_enter Tryz.func60, Tryz.ntmps60
     go_wp2_with fail
     go_ret
     exact ⟨rfl, BN.out⟩
  ·have RV := Lib.hid (RF.out (fun q => h1 q.2.1))
   rcases hk with rfl | rfl | rfl
   all_goals
    rw [RV.out]
    go_enter Tryz.func60, Tryz.ntmps60
    go_wp2_with fail
    go_ret
    exact ⟨rfl, BN.out⟩
 ·have RV := Lib.hid (RF.out (fun q => hk q.1))
  rw [RV.out]
  have k1 : (k != 1) = true := by simp; omega
  have k2 : (k != 2) = true := by simp; omega
  have k3 : (k != 3) = true := by simp; omega
  clear hk RV RT RF HR H HC
  go_enter Tryz.func60, Tryz.ntmps60
  go_wp2_with fail
  go_ret
  exact ⟨rfl, BN.out⟩
end Go.Proofs.YteggpecbeagohaaGreatDoor.Stp
