/-
  Layer 5: may a node be, but for its children (the document's own answer, fits).
-/
import Derived.Test.YtkpijnodhlonfaaGreatDoorAstA
namespace Go.Proofs.YtkpijnodhlonfaaGreatDoor.Ast
open Go.RowKit


/-- May a node be, but for its children? -/
def fitsB (x : Nd) : Bool := decide (0 ≤ x.k ∧ x.k ≤ 17 ∧ (x.k = 1 ∨ x.s0 = 0 ∧ x.s1 = 0 ∧ x.s2 = 0 ∧ x.s3 = 0) ∧ (x.k = 10 ∨ x.mn = 0 ∧ x.mx = 0 ∧ x.md = 0) ∧ (x.k = 11 ∨ x.k = 12 ∨ x.n = 0) ∧ (x.k = 12 ∨ x.f = false) ∧
  (x.k ≠ 10 ∨ 0 ≤ x.mn ∧ x.mn ≤ 100 ∧ x.mx ≤ 100 ∧ (x.mx = -1 ∨ x.mn ≤ x.mx) ∧ 0 ≤ x.md ∧ x.md ≤ 2))

set_option maxRecDepth 100000 in
set_option maxHeartbeats 4000000 in
theorem fits_set (x : Nd) (w : World) (h : x.k = 1) : Calls Tryz.prog 99 #[ndV x] w fun e w' => e = .returned (.bool (fitsB x)) ∧ Below w.heap.size w w' := by
  obtain ⟨k, a, b, s0, s1, s2, s3, mn, mx, md, n, f⟩ := x
  dsimp only at h
  subst h
  cases f
  all_goals
    go_enter Tryz.func99, Tryz.ntmps99
    go_wp2
    all_goals
      go_ret
      exact ⟨ret_b (by unfold fitsB; simp_all <;> omega), by go_grown⟩

set_option maxRecDepth 100000 in
set_option maxHeartbeats 4000000 in
theorem fits_rep (x : Nd) (w : World) (h : x.k = 10) : Calls Tryz.prog 99 #[ndV x] w fun e w' => e = .returned (.bool (fitsB x)) ∧ Below w.heap.size w w' := by
  obtain ⟨k, a, b, s0, s1, s2, s3, mn, mx, md, n, f⟩ := x
  dsimp only at h
  subst h
  cases f
  all_goals
    go_enter Tryz.func99, Tryz.ntmps99
    go_wp2
    all_goals
      go_ret
      exact ⟨ret_b (by unfold fitsB; simp_all <;> omega), by go_grown⟩

set_option maxRecDepth 100000 in
set_option maxHeartbeats 4000000 in
theorem fits_grp (x : Nd) (w : World) (h : x.k = 11) : Calls Tryz.prog 99 #[ndV x] w fun e w' => e = .returned (.bool (fitsB x)) ∧ Below w.heap.size w w' := by
  obtain ⟨k, a, b, s0, s1, s2, s3, mn, mx, md, n, f⟩ := x
  dsimp only at h
  subst h
  cases f
  all_goals
    go_enter Tryz.func99, Tryz.ntmps99
    go_wp2
    all_goals
      go_ret
      exact ⟨ret_b (by unfold fitsB; simp_all <;> omega), by go_grown⟩

set_option maxRecDepth 100000 in
set_option maxHeartbeats 4000000 in
theorem fits_back (x : Nd) (w : World) (h : x.k = 12) : Calls Tryz.prog 99 #[ndV x] w fun e w' => e = .returned (.bool (fitsB x)) ∧ Below w.heap.size w w' := by
  obtain ⟨k, a, b, s0, s1, s2, s3, mn, mx, md, n, f⟩ := x
  dsimp only at h
  subst h
  cases f
  all_goals
    go_enter Tryz.func99, Tryz.ntmps99
    go_wp2
    all_goals
      go_ret
      exact ⟨ret_b (by unfold fitsB; simp_all <;> omega), by go_grown⟩

set_option maxRecDepth 100000 in
set_option maxHeartbeats 4000000 in
theorem fits_out (x : Nd) (w : World) (h : x.k < 0 ∨ 17 < x.k) : Calls Tryz.prog 99 #[ndV x] w fun e w' => e = .returned (.bool (fitsB x)) ∧ Below w.heap.size w w' := by
  have hf : fitsB x = false := by unfold fitsB; simp; omega
  rw [hf]
  clear hf
  rcases h with h | h
  · go_enter Tryz.func99, Tryz.ntmps99
    go_wp2
    go_ret
    exact ⟨rfl, by go_grown⟩
  · have h' : ¬ x.k < 0 := by omega
    go_enter Tryz.func99, Tryz.ntmps99
    go_wp2
    go_ret
    exact ⟨rfl, by go_grown⟩
set_option maxRecDepth 100000 in
set_option maxHeartbeats 4000000 in
theorem fits_other (x : Nd) (w : World) (h0 : 0 ≤ x.k) (h17 : x.k ≤ 17) (h1 : x.k ≠ 1) (h10 : x.k ≠ 10) (h11 : x.k ≠ 11) (h12 : x.k ≠ 12) : Calls Tryz.prog 99 #[ndV x] w fun e w' => e = .returned (.bool (fitsB x)) ∧ Below w.heap.size w w' := by
  obtain ⟨k, a, b, s0, s1, s2, s3, mn, mx, md, n, f⟩ := x
  dsimp only at h0 h17 h1 h10 h11 h12
  have q1 : (k == 1) = false := by simpa using h1
  have q10 : (k == 10) = false := by simpa using h10
  have q11 : (k == 11) = false := by simpa using h11
  have q12 : (k == 12) = false := by simpa using h12
  clear h1 h10 h11 h12
  cases f
  all_goals
    go_enter Tryz.func99, Tryz.ntmps99
    go_wp2
    all_goals
      go_ret
      exact ⟨ret_b (by unfold fitsB; simp_all <;> omega), by go_grown⟩

theorem fits_any (x : Nd) (w : World) : Calls Tryz.prog 99 #[ndV x] w fun e w' => e = .returned (.bool (fitsB x)) ∧ Below w.heap.size w w' := by
  by_cases h1 : x.k = 1
  · exact fits_set x w h1
  · by_cases h10 : x.k = 10
    · exact fits_rep x w h10
    · by_cases h11 : x.k = 11
      · exact fits_grp x w h11
      · by_cases h12 : x.k = 12
        · exact fits_back x w h12
        · by_cases h : 0 ≤ x.k ∧ x.k ≤ 17
          · exact fits_other x w h.1 h.2 h1 h10 h11 h12
          · exact fits_out x w (by omega)
end Go.Proofs.YtkpijnodhlonfaaGreatDoor.Ast
