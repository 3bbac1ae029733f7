/-
  Layer 10: the document's With, Get, Text; the statements' Ref.
-/
import Derived.Test.YtnapbmdbeihngaaDoorCapWith
namespace Go.Proofs.YtnapbmdbeihngaaDoor
open Go.RowKit

section
variable {ops : Array Oper} {rest : List Oper} {o : Oper} {a : Act} {w : World} {Q : Exit → Act → World → Prop} {x y : Operand}
theorem storeIs (T : TypeId) (hgd : o.guard = none) (hd : o.dst = none) (g k : Nat) (c : Cp) (hk : k < 9) (ho : o.op = .store 4 x y) (hx : a.eval x = .pointer (some ⟨g, k, none⟩)) (hy : a.eval y = .bool true) (hg : BoxV T w g (cpC c))
    (h : ∀ u : World, Hid (BoxV T u g ((cpC c).setIfInBounds k (.bool true))) → Hid (∀ B, B ≤ g → Below B w u) → Hid (∀ j, j ≠ g → u.heap[j]? = w.heap[j]?) → wpList Tryd.prog ops Q rest a u) : wpList Tryd.prog ops Q (o :: rest) a w := by
  have hr := exec_is T g k (cpC c) hk c rfl ho hx hy hg
  have hu := h _ (Lib.hid (hg.put k (.bool true))) (Lib.hid fun B hB => (Below.refl B w).setCell hB _) (Lib.hid fun j hj => Below.heap_setCell w ⟨g, k, none⟩ _ j hj)
  refine wpList_plain hgd fun K hK => ?_
  unfold Oper.wp
  rw [hr]
  unfold Oper.upon
  have hK2 := hK _ _ hu
  rw [hd]
  exact hK2
theorem storePair (T : TypeId) (hgd : o.guard = none) (hd : o.dst = none) (g j : Nat) (p q p0 q0 : Int) (cs : Array Value) (ho : o.op = .store 23 x y) (hx : a.eval x = .pointer (some ⟨g, j, none⟩)) (hy : a.eval y = .agg #[.int .i64 p, .int .i64 q]) (hg : BoxV T w g cs) (h0 : cs[j]? = some (.int .i64 p0)) (h1 : cs[j + 1]? = some (.int .i64 q0))
    (h : ∀ u : World, Hid (BoxV T u g ((cs.setIfInBounds j (.int .i64 p)).setIfInBounds (j + 1) (.int .i64 q))) → Hid (∀ B, B ≤ g → Below B w u) → Hid (∀ i, i ≠ g → u.heap[i]? = w.heap[i]?) → wpList Tryd.prog ops Q rest a u) : wpList Tryd.prog ops Q (o :: rest) a w := by
  have hr := exec_pair T g j p q p0 q0 cs ho hx hy hg h0 h1
  have hu := h _ (Lib.hid ((hg.put j _).put (j + 1) _)) (Lib.hid fun B hB => ((Below.refl B w).setCell hB _).setCell hB _) (Lib.hid fun i hi => (Below.heap_setCell _ ⟨g, j + 1, none⟩ _ i hi).trans (Below.heap_setCell w ⟨g, j, none⟩ _ i hi))
  refine wpList_plain hgd fun K hK => ?_
  unfold Oper.wp
  rw [hr]
  unfold Oper.upon
  have hK2 := hK _ _ hu
  rw [hd]
  exact hK2
end
/-- The boxes of the document's With: what it is called on, its result. -/
def RSt (c : Cp) (w0 w : World) : Prop := Below w0.heap.size w0 w ∧ BoxV 28 w w0.heap.size (cpC c) ∧ BoxV 28 w (w0.heap.size + 1) (cpC zrC)
theorem RSt.start (c : Cp) (w : World) : RSt c w ((w.alloc (.cells (cpC c) 28)).alloc (.cells (cpC zrC) 28)) := by
  refine ⟨by go_grown, (BoxV.new w _).alloc _, ?_⟩
  have h := BoxV.new (T := 28) (w.alloc (.cells (cpC c) 28)) (cpC zrC)
  simpa using h
set_option maxRecDepth 20000 in
theorem rwith_bad (c : Cp) (g x y : Int) (h : ¬ grpP g) (w : World) : Calls Tryd.prog 10 #[.agg (cpC c), .int .i64 g, .int .i64 x, .int .i64 y] w fun e w' => e = .returned (capE zrC 1) ∧ Below w.heap.size w w' := by
  have HS := Lib.hid (RSt.start c w)
  have hh : g < 1 ∨ 9 < g ∧ decide (g < 1) = false := by
    unfold grpP at h
    by_cases h1 : g < 1
    · exact .inl h1
    · exact .inr ⟨by omega, decide_eq_false h1⟩
  clear h
  rcases hh with h | ⟨h, h1⟩
  all_goals
    go_enter Tryd.func10, Tryd.ntmps10
    go_wp2_with (refine storeR rfl _ _ rfl (w.heap.size + 1) zrC (cpC zrC) rfl rfl (by rfl) HS.out.2.2 ?_; intro u hu hb ho)
    exact bodyPost_ret (resRE (p := 8) (q := 9) rfl _ (g := w.heap.size + 1) rfl rfl hu.out) rfl ⟨rfl, HS.out.1.trans (hb.out _ (by omega))⟩
set_option maxRecDepth 20000 in
theorem rwith_off (c : Cp) (g x y : Int) (h : grpP g) (h2 : ¬ mayP x y) (w : World) : Calls Tryd.prog 10 #[.agg (cpC c), .int .i64 g, .int .i64 x, .int .i64 y] w fun e w' => e = .returned (capE zrC 1) ∧ Below w.heap.size w w' := by
  have HS := Lib.hid (RSt.start c w)
  have HM := Lib.hid (fun w => may_no x y h2 w)
  have h1 : decide (g < 1) = false := decide_eq_false (by have := h.1; omega)
  have h3 : decide (9 < g) = false := decide_eq_false (by have := h.2; omega)
  clear h h2
  go_enter Tryd.func10, Tryd.ntmps10
  go_wp2_with fail
  refine (HM.out _).mono ?_
  rintro e w' ⟨rfl, rfl⟩
  go_wp2_with (refine storeR rfl _ _ rfl (w.heap.size + 1) zrC (cpC zrC) rfl rfl (by rfl) HS.out.2.2 ?_; intro u hu hb ho)
  exact bodyPost_ret (resRE (p := 8) (q := 9) rfl _ (g := w.heap.size + 1) rfl rfl hu.out) rfl ⟨rfl, HS.out.1.trans (hb.out _ (by omega))⟩
set_option maxRecDepth 20000 in
theorem rwith_ok (c : Cp) (k : Nat) (h : k < 9) (x y : Int) (h2 : mayP x y) (w : World) : Calls Tryd.prog 10 #[.agg (cpC c), .int .i64 ((k : Int) + 1), .int .i64 x, .int .i64 y] w fun e w' => e = .returned (capE (c.set k x y) 0) ∧ Below w.heap.size w w' := by
  have HS := Lib.hid (RSt.start c w)
  have HM := Lib.hid (fun w => may_yes x y h2 w)
  clear h2
  have e0 := fun c => cpC_set c k h x y
  rw [Nat.mul_comm 2 k] at e0
  have HE := Lib.hid e0
  clear e0
  have S1 := set1_fr c k h (.bool true)
  have S2 := set1_to c k h (.bool true)
  have HS1 := Lib.hid S1
  have HS2 := Lib.hid S2
  clear S1 S2
  go_enter Tryd.func10, Tryd.ntmps10
  go_wp2_with fail
  refine (HM.out _).mono ?_
  rintro e w' ⟨rfl, rfl⟩
  go_wp2_with (refine storeIs 28 rfl rfl w.heap.size k c h rfl rfl rfl HS.out.2.1 ?_; intro u hu hb ho; refine StopS.out ?_)
  have HB1 := Lib.hid (HS.out.1.trans (hb.out _ (Nat.le_refl _)))
  have HR1 := Lib.hid (show BoxV 28 u (w.heap.size + 1) (cpC zrC) from (ho.out _ (by omega)).trans HS.out.2.2)
  clear hb ho HS
  refine ⟨?_⟩
  go_wp2_with (refine storePair 28 rfl rfl w.heap.size (9 + k * 2) x y (c.fr k) (c.to k) _ rfl rfl rfl hu.out HS1.out HS2.out ?_; intro v hv hb ho; refine StopS.out ?_)
  have HB2 := Lib.hid (HB1.out.trans (hb.out _ (Nat.le_refl _)))
  have HR2 := Lib.hid (show BoxV 28 v (w.heap.size + 1) (cpC zrC) from (ho.out _ (by omega)).trans HR1.out)
  have hv2 := hv.out
  rw [HE.out c] at hv2
  have HV := Lib.hid hv2
  clear hb ho hv hv2 hu HB1 HR1
  refine ⟨?_⟩
  go_wp2_with (first | (refine loadR rfl _ rfl w.heap.size (c.set k x y) rfl HV.out ?_) | (refine storeR rfl _ _ rfl (w.heap.size + 1) (c.set k x y) (cpC zrC) rfl rfl (by rfl) HR2.out ?_; intro u2 hu2 hb2 ho2))
  exact bodyPost_ret (resRE (p := 8) (q := 9) rfl _ (g := w.heap.size + 1) rfl rfl hu2.out) rfl ⟨rfl, HB2.out.trans (hb2.out _ (by omega))⟩
theorem rwith_any (c : Cp) (g x y : Int) (w : World) : Calls Tryd.prog 10 #[.agg (cpC c), .int .i64 g, .int .i64 x, .int .i64 y] w fun e w' => e = .returned (capE (withZ c g x y).1 (withZ c g x y).2) ∧ Below w.heap.size w w' := by
  unfold withZ
  by_cases h : grpP g
  · by_cases h2 : mayP x y
    · rw [if_pos ⟨h, h2⟩]
      obtain ⟨k, rfl⟩ : ∃ k : Nat, g = (k : Int) + 1 := ⟨(g - 1).toNat, by have := h.1; omega⟩
      have e : ((k : Int) + 1 - 1).toNat = k := by omega
      rw [e]
      exact rwith_ok c k (by have := h.2; omega) x y h2 w
    · rw [if_neg (fun e => h2 e.2)]
      exact rwith_off c g x y h h2 w
  · rw [if_neg (fun e => h e.1)]
    exact rwith_bad c g x y h w
end Go.Proofs.YtnapbmdbeihngaaDoor
