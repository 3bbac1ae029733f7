/-
  Layer 10, the landed code: isGroup, fits, place, Get; the document's may.
-/
import Derived.Test.YtnapbmdbeihngaaDoorCapEq
import Derived.RegionTactic
import Derived.BigQuiet
import Derived.Deep.QuietTactic
namespace Go.Proofs.YtnapbmdbeihngaaDoor
open Go.RowKit

theorem group_yes (g : Int) (h : grpP g) (w : World) : Calls Tryd.prog 20 #[.int .i64 g] w fun e w' => e = .returned (.bool true) ∧ w = w' := by
  obtain ⟨h1, h2⟩ := h
  go_enter Tryd.func20, Tryd.ntmps20
  go_wp2
  go_ret
  exact ⟨rfl, rfl⟩
theorem group_no (g : Int) (h : ¬ grpP g) (w : World) : Calls Tryd.prog 20 #[.int .i64 g] w fun e w' => e = .returned (.bool false) ∧ w = w' := by
  by_cases h1 : 1 ≤ g
  · have h2 : 9 < g := by unfold grpP at h; omega
    have h3 : decide (g ≤ 9) = false := decide_eq_false (by omega)
    go_enter Tryd.func20, Tryd.ntmps20
    go_wp2
    go_ret
    exact ⟨rfl, rfl⟩
  · have h3 : decide (1 ≤ g) = false := decide_eq_false (by omega)
    go_enter Tryd.func20, Tryd.ntmps20
    go_wp2
    go_ret
    exact ⟨rfl, rfl⟩
theorem fits_yes (x y m : Int) (h0 : 0 ≤ x) (h1 : x ≤ y) (h2 : y ≤ m) (w : World) : Calls Tryd.prog 21 #[.agg #[.int .i64 x, .int .i64 y], .int .i64 m] w fun e w' => e = .returned (.bool true) ∧ Below w.heap.size w w' := by
  go_enter Tryd.func21, Tryd.ntmps21
  go_wp2
  go_ret
  exact ⟨rfl, by go_grown⟩
theorem fits_no (x y m : Int) (h : ¬ (0 ≤ x ∧ x ≤ y ∧ y ≤ m)) (w : World) : Calls Tryd.prog 21 #[.agg #[.int .i64 x, .int .i64 y], .int .i64 m] w fun e w' => e = .returned (.bool false) ∧ Below w.heap.size w w' := by
  by_cases h0 : 0 ≤ x
  · by_cases h2 : y ≤ m
    · have h3 : decide (x ≤ y) = false := decide_eq_false (by omega)
      clear h
      go_enter Tryd.func21, Tryd.ntmps21
      go_wp2
      go_ret
      exact ⟨rfl, by go_grown⟩
    · have h3 : (y == m) = false := beq_eq_false_iff_ne.2 (by omega)
      have h4 : m < y := by omega
      clear h
      go_enter Tryd.func21, Tryd.ntmps21
      go_wp2
      go_ret
      exact ⟨rfl, by go_grown⟩
  · have h3 : (x == 0) = false := beq_eq_false_iff_ne.2 (by omega)
    have h4 : x < 0 := by omega
    clear h
    go_enter Tryd.func21, Tryd.ntmps21
    go_wp2
    all_goals
      go_ret
      exact ⟨rfl, by go_grown⟩
theorem may_yes (x y : Int) (h : mayP x y) (w : World) : Calls Tryd.prog 22 #[.int .i64 x, .int .i64 y] w fun e w' => e = .returned (.bool true) ∧ w = w' := by
  obtain ⟨h1, h2, h3⟩ := h
  go_enter Tryd.func22, Tryd.ntmps22
  go_wp2
  go_ret
  exact ⟨rfl, rfl⟩
theorem may_no (x y : Int) (h : ¬ mayP x y) (w : World) : Calls Tryd.prog 22 #[.int .i64 x, .int .i64 y] w fun e w' => e = .returned (.bool false) ∧ w = w' := by
  unfold mayP at h
  by_cases h0 : 0 ≤ x
  · by_cases h1 : x ≤ y
    · have h3 : decide (y ≤ 10000) = false := decide_eq_false (by omega)
      clear h
      go_enter Tryd.func22, Tryd.ntmps22
      go_wp2
      go_ret
      exact ⟨rfl, rfl⟩
    · have h3 : decide (x ≤ y) = false := decide_eq_false (by omega)
      clear h
      go_enter Tryd.func22, Tryd.ntmps22
      go_wp2
      go_ret
      exact ⟨rfl, rfl⟩
  · have h3 : decide (0 ≤ x) = false := decide_eq_false (by omega)
    clear h
    go_enter Tryd.func22, Tryd.ntmps22
    go_wp2
    go_ret
    exact ⟨rfl, rfl⟩
end Go.Proofs.YtnapbmdbeihngaaDoor
