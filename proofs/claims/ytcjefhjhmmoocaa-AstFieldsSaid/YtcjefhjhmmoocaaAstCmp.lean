/-
  Layer 5: the order of the groups: what the closure of groupsAsTheyBegin does.
-/
import Derived.Test.YtcjefhjhmmoocaaAstSpanKit
import Derived.Sort.Grow
import Derived.Sort.Row
namespace Go.Proofs.Ytcjefhjhmmoocaa
open Go.RowKit

/-- Which of two numbers is the lesser. -/
def cmpZ (x y : Int) : Int := if x < y then -1 else if y < x then 1 else 0
/-- The first one that is not 0. -/
def orZ (a b : Int) : Int := if a = 0 then b else a
/-- Which of two groups begins ahead of the other. -/
def grpZ (l : Nat → Nd) (i j : Nat) : Int := orZ (cmpZ (beg l i : Nat) (beg l j : Nat)) (cmpZ (j : Int) (i : Int))

theorem compare_any (x y : Int) (w : World) : Calls Try.prog 55 #[.int .i64 x, .int .i64 y] w fun e w' => e = .returned (.int .i64 (cmpZ x y)) ∧ w = w' := by
  go_enter Try.func55, Try.ntmps55
  go_wp2
  all_goals
    go_ret
    exact ⟨ret_i (by unfold cmpZ; simp_all <;> omega), rfl⟩

theorem or_any (g cap : Nat) (a b : Int) (w : World) (h0 : w.cell? ⟨g, 0, none⟩ = some (.int .i64 a)) (h1 : w.cell? ⟨g, 1, none⟩ = some (.int .i64 b)) :
    Calls Try.prog 54 #[.slice (some ⟨g, 0, none⟩) 2 cap] w fun e w' => e = .returned (.int .i64 (orZ a b)) ∧ w = w' := by
  by_cases ha : a = 0
  · subst ha
    by_cases hb : b = 0
    · subst hb
      go_enter Try.func54, Try.ntmps54
      go_wp2_with fail
      refine Go.wp_loop_rounds 3 ?_
      rw [Go.rounds_succ]
      go_wp2_with fail
      rw [Go.rounds_succ]
      go_wp2_with fail
      rw [Go.rounds_succ]
      go_wp2_with fail
      go_ret
      exact ⟨rfl, rfl⟩
    · have q : (b != 0) = true := by simpa using hb
      have q1 : (b == 0) = false := by simpa using hb
      have q2 : decide (b = 0) = false := by simpa using hb
      go_enter Try.func54, Try.ntmps54
      go_wp2_with fail
      refine Go.wp_loop_rounds 2 ?_
      rw [Go.rounds_succ]
      go_wp2_with fail
      rw [Go.rounds_succ]
      go_wp2_with fail
      go_ret
      exact ⟨ret_i (by unfold orZ; rfl), rfl⟩
  · have q : (a != 0) = true := by simpa using ha
    have q1 : (a == 0) = false := by simpa using ha
    have q2 : decide (a = 0) = false := by simpa using ha
    go_enter Try.func54, Try.ntmps54
    go_wp2_with fail
    refine Go.wp_loop_rounds 1 ?_
    rw [Go.rounds_succ]
    go_wp2_with fail
    go_ret
    exact ⟨ret_i (by unfold orZ; rw [if_neg ha]), rfl⟩

section
variable {ops : Array Oper} {a : Act} {o : Oper} {x y : Operand} {R : World → Prop}
theorem idxI0_y (g n m : Nat) (hm : m < n) (ho : o.op = .indexAddr 62 x y) (hx : a.eval x = .slice (some ⟨g, 0, none⟩) n n) (hy : a.eval y = .int .i64 (m : Int)) (hw : Region.wanted o (yielded ops a.tmps) = true) : YieldsIf Try.prog ops R o (.pointer (some ⟨g, m, none⟩)) a := by
  refine Or.inl ⟨hw, fun w _ => ?_⟩
  have k0 : (0 : Int) ≤ m := by omega
  have k1 : (m : Int) < n := by omega
  unfold execOp
  simp only [ho, hx, hy]
  go_simp
theorem loadS_y (g : Nat) (v : Value) (hR : ∀ u, R u → u.cell? ⟨g, 0, none⟩ = some v) (ho : o.op = .load 62 x) (hx : a.eval x = .pointer (some ⟨g, 0, none⟩)) (hw : Region.wanted o (yielded ops a.tmps) = true) : YieldsIf Try.prog ops R o v a := by
  refine Or.inl ⟨hw, fun u h => ?_⟩
  have hc := hR u h
  unfold execOp
  simp only [ho, hx]
  go_simp
end

set_option maxHeartbeats 1000000 in
theorem closure_any (L g n i j : Nat) (l : Nat → Nd) (w : World) (hi : i < n) (hj : j < n) (hL : L < w.heap.size) (hg : g < w.heap.size) (cL : w.cell? ⟨L, 0, none⟩ = some (.slice (some ⟨g, 0, none⟩) n n))
    (ci : w.cell? ⟨g, i, none⟩ = some (.int .i64 (beg l i : Nat))) (cj : w.cell? ⟨g, j, none⟩ = some (.int .i64 (beg l j : Nat))) :
    Calls Try.prog 53 #[.int .i64 (i : Int), .int .i64 (j : Int), .pointer (some ⟨L, 0, none⟩)] w fun e w' => e = .returned (.int .i64 (grpZ l i j)) ∧ ∃ q os, w' = Go.Sort.grow (w.drewN q) os := by
  go_enter Try.func53, Try.ntmps53
  go_wp2_with fail
  have hS : Below w.heap.size w w.drew := (Below.refl _ w).drew
  have hS2 : Below w.heap.size w (w.drew.alloc (.cells #[.int .i64 (cmpZ (beg l i : Nat) (beg l j : Nat)), .int .i64 (cmpZ (j : Int) (i : Int))] 3)) := hS.alloc (Nat.le_refl _) _
  have h20 : (w.drew.alloc (.cells #[.int .i64 (cmpZ (beg l i : Nat) (beg l j : Nat)), .int .i64 (cmpZ (j : Int) (i : Int))] 3)).cell? ⟨w.heap.size, 0, none⟩ = some (.int .i64 (cmpZ (beg l i : Nat) (beg l j : Nat))) := by
    unfold World.cell?; rw [show w.heap.size = w.drew.heap.size from rfl, heap_alloc_new]; rfl
  have h21 : (w.drew.alloc (.cells #[.int .i64 (cmpZ (beg l i : Nat) (beg l j : Nat)), .int .i64 (cmpZ (j : Int) (i : Int))] 3)).cell? ⟨w.heap.size, 1, none⟩ = some (.int .i64 (cmpZ (j : Int) (i : Int))) := by
    unfold World.cell?; rw [show w.heap.size = w.drew.heap.size from rfl, heap_alloc_new]; rfl
  refine wp_region_held_drew (S := Below w.heap.size w) (by kernel_rfl) hS (fun _ => ?_)
  refine takeAt 0 6 (.slice (some ⟨g, 0, none⟩) n n) rfl rfl (by kernel_rfl) (by kernel_rfl) (by kernel_rfl) (fun _ _ _ h => h) (loadS_y L _ (fun u h => (h.cell (p := ⟨L, 0, none⟩) hL).trans cL) rfl rfl (by rfl)) hS ?_
  simp only [Act.put, List.setIfInBounds_toArray, List.set_cons_zero, List.set_cons_succ]
  refine takeAt 1 7 (.int .i64 (i : Int)) rfl rfl (by kernel_rfl) (by kernel_rfl) (by kernel_rfl) (fun _ _ _ h => h) (yields (by rfl) (fun w => by kernel_rfl)) hS ?_
  simp only [Act.put, List.setIfInBounds_toArray, List.set_cons_zero, List.set_cons_succ]
  refine takeAt 2 8 (.pointer (some ⟨g, i, none⟩)) rfl rfl (by kernel_rfl) (by kernel_rfl) (by kernel_rfl) (fun _ _ _ h => h) (idxI0_y g n i hi rfl rfl rfl (by rfl)) hS ?_
  simp only [Act.put, List.setIfInBounds_toArray, List.set_cons_zero, List.set_cons_succ]
  refine takeAt 3 9 (.int .i64 (beg l i : Nat)) rfl rfl (by kernel_rfl) (by kernel_rfl) (by kernel_rfl) (fun _ _ _ h => h) (loadI_y g i _ (fun u h => (h.cell (p := ⟨g, i, none⟩) hg).trans ci) rfl rfl (by rfl)) hS ?_
  simp only [Act.put, List.setIfInBounds_toArray, List.set_cons_zero, List.set_cons_succ]
  refine takeAt 4 10 (.slice (some ⟨g, 0, none⟩) n n) rfl rfl (by kernel_rfl) (by kernel_rfl) (by kernel_rfl) (fun _ _ _ h => h) (loadS_y L _ (fun u h => (h.cell (p := ⟨L, 0, none⟩) hL).trans cL) rfl rfl (by rfl)) hS ?_
  simp only [Act.put, List.setIfInBounds_toArray, List.set_cons_zero, List.set_cons_succ]
  refine takeAt 5 11 (.int .i64 (j : Int)) rfl rfl (by kernel_rfl) (by kernel_rfl) (by kernel_rfl) (fun _ _ _ h => h) (yields (by rfl) (fun w => by kernel_rfl)) hS ?_
  simp only [Act.put, List.setIfInBounds_toArray, List.set_cons_zero, List.set_cons_succ]
  refine takeAt 6 12 (.pointer (some ⟨g, j, none⟩)) rfl rfl (by kernel_rfl) (by kernel_rfl) (by kernel_rfl) (fun _ _ _ h => h) (idxI0_y g n j hj rfl rfl rfl (by rfl)) hS ?_
  simp only [Act.put, List.setIfInBounds_toArray, List.set_cons_zero, List.set_cons_succ]
  refine takeAt 7 13 (.int .i64 (beg l j : Nat)) rfl rfl (by kernel_rfl) (by kernel_rfl) (by kernel_rfl) (fun _ _ _ h => h) (loadI_y g j _ (fun u h => (h.cell (p := ⟨g, j, none⟩) hg).trans cj) rfl rfl (by rfl)) hS ?_
  simp only [Act.put, List.setIfInBounds_toArray, List.set_cons_zero, List.set_cons_succ]
  refine takeAt 9 15 (.int .i64 (j : Int)) rfl rfl (by kernel_rfl) (by kernel_rfl) (by kernel_rfl) (fun _ _ _ h => h) (yields (by rfl) (fun w => by kernel_rfl)) hS ?_
  simp only [Act.put, List.setIfInBounds_toArray, List.set_cons_zero, List.set_cons_succ]
  refine takeAt 10 16 (.int .i64 (i : Int)) rfl rfl (by kernel_rfl) (by kernel_rfl) (by kernel_rfl) (fun _ _ _ h => h) (yields (by rfl) (fun w => by kernel_rfl)) hS ?_
  simp only [Act.put, List.setIfInBounds_toArray, List.set_cons_zero, List.set_cons_succ]
  refine callAt 8 14 rfl rfl (by kernel_rfl) (by rfl) (by kernel_rfl) (compare_any (beg l i : Nat) (beg l j : Nat) _) ?_
  rintro e w' ⟨rfl, rfl⟩
  refine ⟨_, rfl, hS, ?_⟩
  simp only [Act.put, List.setIfInBounds_toArray, List.set_cons_zero, List.set_cons_succ]
  refine callAt 11 17 rfl rfl (by kernel_rfl) (by rfl) (by kernel_rfl) (compare_any (j : Int) (i : Int) _) ?_
  rintro e w' ⟨rfl, rfl⟩
  refine ⟨_, rfl, hS, ?_⟩
  simp only [Act.put, List.setIfInBounds_toArray, List.set_cons_zero, List.set_cons_succ]
  refine valAt 12 18 (.slice (some ⟨w.heap.size, 0, none⟩) 2 2) (w.drew.alloc (.cells #[.int .i64 (cmpZ (beg l i : Nat) (beg l j : Nat)), .int .i64 (cmpZ (j : Int) (i : Int))] 3)) rfl rfl (by kernel_rfl) (by rfl) (by kernel_rfl) hS2 ?_
  simp only [Act.put, List.setIfInBounds_toArray, List.set_cons_zero, List.set_cons_succ]
  refine callAt 13 19 rfl rfl (by kernel_rfl) (by rfl) (by kernel_rfl) (or_any w.heap.size 2 _ _ _ h20 h21) ?_
  rintro e w' ⟨rfl, rfl⟩
  refine ⟨_, rfl, hS2, ?_⟩
  simp only [Act.put, List.setIfInBounds_toArray, List.set_cons_zero, List.set_cons_succ]
  refine takeAt 14 5 (.int .i64 (orZ (cmpZ (beg l i : Nat) (beg l j : Nat)) (cmpZ (j : Int) (i : Int)))) rfl rfl (by kernel_rfl) (by kernel_rfl) (by kernel_rfl) (fun _ _ _ h => h) (yields (by rfl) (fun w => by kernel_rfl)) hS2 ?_
  simp only [Act.put, List.setIfInBounds_toArray, List.set_cons_zero, List.set_cons_succ]
  refine wpAnyH_done (by kernel_rfl) ?_ _
  clear hS hS2 h20 h21
  go_wp2_with fail
  go_ret
  refine ⟨rfl, 1, #[.cells #[.int .i64 (cmpZ (beg l i : Nat) (beg l j : Nat)), .int .i64 (cmpZ (j : Int) (i : Int))] 3 (0, 0)], ?_⟩
  unfold Go.Sort.grow World.alloc
  simp [World.drewN]
end Go.Proofs.Ytcjefhjhmmoocaa
