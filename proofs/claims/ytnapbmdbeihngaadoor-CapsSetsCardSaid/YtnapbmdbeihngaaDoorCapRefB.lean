/-
  Layer 10: the statements' Ref; the document's Get and Text.
-/
import Derived.Test.YtnapbmdbeihngaaDoorCapRef
import Derived.Deep.MidRow
namespace Go.Proofs.YtnapbmdbeihngaaDoor
open Go.RowKit

abbrev isL (c : Cp) : List Value := [.bool (c.is 0), .bool (c.is 1), .bool (c.is 2), .bool (c.is 3), .bool (c.is 4), .bool (c.is 5), .bool (c.is 6), .bool (c.is 7), .bool (c.is 8)]
abbrev atL (c : Cp) : List Value := [.int .i64 (c.fr 0), .int .i64 (c.to 0), .int .i64 (c.fr 1), .int .i64 (c.to 1), .int .i64 (c.fr 2), .int .i64 (c.to 2), .int .i64 (c.fr 3), .int .i64 (c.to 3), .int .i64 (c.fr 4), .int .i64 (c.to 4), .int .i64 (c.fr 5), .int .i64 (c.to 5), .int .i64 (c.fr 6), .int .i64 (c.to 6), .int .i64 (c.fr 7), .int .i64 (c.to 7), .int .i64 (c.fr 8), .int .i64 (c.to 8)]
theorem range_is {T : TypeId} {w : World} {g : Nat} {c : Cp} (h : BoxV T w g (cpC c)) : w.rangeAt g 0 (isL c) := fun j v hj => by
  rw [Nat.zero_add]
  have hl : j < 9 := (List.getElem?_eq_some_iff.1 hj).1
  rw [h.get j (cpC_is c j hl), ← hj]
  rcases lt9 hl with rfl | rfl | rfl | rfl | rfl | rfl | rfl | rfl | rfl <;> rfl
theorem range_at {T : TypeId} {w : World} {g : Nat} {c : Cp} (h : BoxV T w g (cpC c)) : w.rangeAt g 9 (atL c) := fun j v hj => by
  have hl : j < 18 := (List.getElem?_eq_some_iff.1 hj).1
  refine h.get (9 + j) ?_
  rw [← hj]
  obtain ⟨k, hk, e⟩ : ∃ k, k < 9 ∧ (j = 2 * k ∨ j = 2 * k + 1) := ⟨j / 2, by omega, by omega⟩
  rcases e with rfl | rfl <;> rcases lt9 hk with rfl | rfl | rfl | rfl | rfl | rfl | rfl | rfl | rfl <;> rfl
theorem sizeIs : (Tryd.prog.info? 22).map (·.size) = some 9 := by kernel_rfl
theorem sizeAt : (Tryd.prog.info? 24).map (·.size) = some 18 := by kernel_rfl
set_option maxRecDepth 20000 in
theorem ref_any (c : Cp) (w : World) : Calls Tryd.prog 8 #[.agg (cpC c)] w fun e w' => e = .returned (.agg (cpC c)) ∧ Below w.heap.size w w' := by
  have HS0 : BoxV 26 ((w.alloc (.cells (cpC c) 26)).alloc (.cells (cpC zrC) 28)) w.heap.size (cpC c) := (BoxV.new w _).alloc _
  have HR0 : BoxV 28 ((w.alloc (.cells (cpC c) 26)).alloc (.cells (cpC zrC) 28)) (w.heap.size + 1) (cpC zrC) := by
    have h := BoxV.new (T := 28) (w.alloc (.cells (cpC c) 26)) (cpC zrC)
    simpa using h
  have HS := Lib.hid HS0
  have HR := Lib.hid HR0
  clear HS0 HR0
  go_enter Tryd.func8, Tryd.ntmps8
  go_wp2_with (first | (refine wpList_load_mid rfl 22 _ rfl w.heap.size 0 rfl (isL c) _ (range_is HS.out) Tryd.underlying22 rfl sizeIs ?_) | (refine wpList_load_mid rfl 24 _ rfl w.heap.size 9 rfl (atL c) _ (range_at HS.out) Tryd.underlying24 rfl sizeAt ?_) | (refine storeR rfl _ _ rfl (w.heap.size + 1) c (cpC zrC) rfl rfl (by rfl) HR.out ?_; intro u hu hb ho))
  exact bodyPost_ret (results_cell_row (p := 2) (ty := 28) rfl _ u (w.heap.size + 1) _ _ _ _ rfl hu.out Tryd.underlying28 rfl sizeRef) rfl ⟨rfl, (show Below w.heap.size w ((w.alloc (.cells (cpC c) 26)).alloc (.cells (cpC zrC) 28)) by go_grown).trans (hb.out _ (by omega))⟩
theorem bx_is (c : Cp) (T : TypeId) (k : Nat) (h : k < 9) (w : World) : (w.alloc (.cells (cpC c) T)).cell? ⟨w.heap.size, k, none⟩ = some (.bool (c.is k)) :=
  (BoxV.new (T := T) w (cpC c)).get k (cpC_is c k h)
theorem bx_fr (c : Cp) (T : TypeId) (k : Nat) (h : k < 9) (w : World) : (w.alloc (.cells (cpC c) T)).cell? ⟨w.heap.size, 9 + k * 2, none⟩ = some (.int .i64 (c.fr k)) := by
  rw [Nat.mul_comm]; exact (BoxV.new (T := T) w (cpC c)).get _ (cpC_fr c k h)
theorem bx_to (c : Cp) (T : TypeId) (k : Nat) (h : k < 9) (w : World) : (w.alloc (.cells (cpC c) T)).cell? ⟨w.heap.size, 9 + k * 2 + 1, none⟩ = some (.int .i64 (c.to k)) := by
  rw [Nat.mul_comm]; exact (BoxV.new (T := T) w (cpC c)).get _ (cpC_to c k h)
abbrev getV (x y : Int) (b : Bool) : Value := .tuple #[.int .i64 x, .int .i64 y, .bool b]
set_option maxRecDepth 20000 in
theorem rget_any (c : Cp) (g : Int) (w : World) : Calls Tryd.prog 12 #[.agg (cpC c), .int .i64 g] w fun e w' => e = .returned (getV (plX c g) (plY c g) (plB c g)) ∧ Below w.heap.size w w' := by
  unfold plX plY plB
  cases h : getZ c g with
  | none =>
    rcases getZ_none h with hg | ⟨k, hk, rfl, hi⟩
    · have hh : g < 1 ∨ 9 < g ∧ decide (g < 1) = false := by
        unfold grpP at hg
        by_cases h1 : g < 1
        · exact .inl h1
        · exact .inr ⟨by omega, decide_eq_false h1⟩
      clear hg h
      rcases hh with h | ⟨h, h1⟩
      all_goals
        go_enter Tryd.func12, Tryd.ntmps12
        go_wp2_with fail
        go_ret3
        exact ⟨rfl, by go_grown⟩
    · have hc := bx_is c 28 k hk w
      rw [hi] at hc
      clear hi h
      go_enter Tryd.func12, Tryd.ntmps12
      go_wp2_with fail
      go_ret3
      exact ⟨rfl, by go_grown⟩
  | some p =>
    obtain ⟨x, y⟩ := p
    obtain ⟨k, hk, rfl, hi, rfl, rfl⟩ := getZ_some h
    have hc := bx_is c 28 k hk w
    have hf := bx_fr c 28 k hk w
    have ht := bx_to c 28 k hk w
    rw [hi] at hc
    clear hi h
    go_enter Tryd.func12, Tryd.ntmps12
    go_wp2_with fail
    go_quiet (fail)
    go_wp2_with fail
    go_ret3
    exact ⟨rfl, below_drewN (by go_grown) _⟩
end Go.Proofs.YtnapbmdbeihngaaDoor
