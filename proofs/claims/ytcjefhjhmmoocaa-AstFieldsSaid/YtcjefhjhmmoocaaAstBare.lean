/-
  Layer 5: what a node's kind has of it (ast.bare).
-/
import Derived.Test.YtcjefhjhmmoocaaAstNode
namespace Go.Proofs.Ytcjefhjhmmoocaa
open Go.RowKit
/-- What a node's kind has of it. -/
def bareN (x : Nd) : Nd :=
  if x.k = 1 then ⟨x.k, 0, 0, x.s0, x.s1, x.s2, x.s3, 0, 0, 0, 0, false⟩
  else if x.k = 10 then ⟨x.k, 0, 0, 0, 0, 0, 0, x.mn, x.mx, x.md, 0, false⟩
  else if x.k = 11 then ⟨x.k, 0, 0, 0, 0, 0, 0, 0, 0, 0, x.n, false⟩
  else if x.k = 12 then ⟨x.k, 0, 0, 0, 0, 0, 0, 0, 0, 0, x.n, x.f⟩
  else ⟨x.k, 0, 0, 0, 0, 0, 0, 0, 0, 0, 0, false⟩

theorem bare_set (x : Nd) (w : World) (h : x.k = 1) : Calls Try.prog 56 #[ndV x] w fun e w' => e = .returned (ndV ⟨1, 0, 0, x.s0, x.s1, x.s2, x.s3, 0, 0, 0, 0, false⟩) ∧ Below w.heap.size w w' := by
  obtain ⟨k, a, b, s0, s1, s2, s3, mn, mx, md, n, f⟩ := x
  dsimp only at h
  subst h
  go_enter Try.func56, Try.ntmps56
  go_wp2_with fail
  exact bodyPost_ret (v := ndV _) (by simp [results, Try.results56, go_sem]) rfl ⟨rfl, by go_grown⟩

theorem bare_rep (x : Nd) (w : World) (h : x.k = 10) : Calls Try.prog 56 #[ndV x] w fun e w' => e = .returned (ndV ⟨10, 0, 0, 0, 0, 0, 0, x.mn, x.mx, x.md, 0, false⟩) ∧ Below w.heap.size w w' := by
  obtain ⟨k, a, b, s0, s1, s2, s3, mn, mx, md, n, f⟩ := x
  dsimp only at h
  subst h
  go_enter Try.func56, Try.ntmps56
  go_wp2_with fail
  go_region
  go_wp2_with fail
  exact bodyPost_ret (v := ndV _) (by simp [results, Try.results56, go_sem]) rfl ⟨rfl, by go_grown⟩

theorem bare_grp (x : Nd) (w : World) (h : x.k = 11) : Calls Try.prog 56 #[ndV x] w fun e w' => e = .returned (ndV ⟨11, 0, 0, 0, 0, 0, 0, 0, 0, 0, x.n, false⟩) ∧ Below w.heap.size w w' := by
  obtain ⟨k, a, b, s0, s1, s2, s3, mn, mx, md, n, f⟩ := x
  dsimp only at h
  subst h
  go_enter Try.func56, Try.ntmps56
  go_wp2_with fail
  exact bodyPost_ret (v := ndV _) (by simp [results, Try.results56, go_sem]) rfl ⟨rfl, by go_grown⟩

theorem bare_back (x : Nd) (w : World) (h : x.k = 12) : Calls Try.prog 56 #[ndV x] w fun e w' => e = .returned (ndV ⟨12, 0, 0, 0, 0, 0, 0, 0, 0, 0, x.n, x.f⟩) ∧ Below w.heap.size w w' := by
  obtain ⟨k, a, b, s0, s1, s2, s3, mn, mx, md, n, f⟩ := x
  dsimp only at h
  subst h
  go_enter Try.func56, Try.ntmps56
  go_wp2_with fail
  go_region
  go_wp2_with fail
  exact bodyPost_ret (v := ndV _) (by simp [results, Try.results56, go_sem]) rfl ⟨rfl, by go_grown⟩

theorem bare_other (x : Nd) (w : World) (h1 : x.k ≠ 1) (h10 : x.k ≠ 10) (h11 : x.k ≠ 11) (h12 : x.k ≠ 12) : Calls Try.prog 56 #[ndV x] w fun e w' => e = .returned (ndV ⟨x.k, 0, 0, 0, 0, 0, 0, 0, 0, 0, 0, false⟩) ∧ Below w.heap.size w w' := by
  obtain ⟨k, a, b, s0, s1, s2, s3, mn, mx, md, n, f⟩ := x
  dsimp only at h1 h10 h11 h12
  have q1 : (k == 1) = false := by simpa using h1
  have q10 : (k == 10) = false := by simpa using h10
  have q11 : (k == 11) = false := by simpa using h11
  have q12 : (k == 12) = false := by simpa using h12
  clear h1 h10 h11 h12
  go_enter Try.func56, Try.ntmps56
  go_wp2_with fail
  exact bodyPost_ret (v := ndV _) (by simp [results, Try.results56, go_sem]) rfl ⟨rfl, by go_grown⟩
theorem bare_any (x : Nd) (w : World) : Calls Try.prog 56 #[ndV x] w fun e w' => e = .returned (ndV (bareN x)) ∧ Below w.heap.size w w' := by
  unfold bareN
  by_cases h1 : x.k = 1
  · rw [if_pos h1, h1]; exact bare_set x w h1
  · rw [if_neg h1]
    by_cases h10 : x.k = 10
    · rw [if_pos h10, h10]; exact bare_rep x w h10
    · rw [if_neg h10]
      by_cases h11 : x.k = 11
      · rw [if_pos h11, h11]; exact bare_grp x w h11
      · rw [if_neg h11]
        by_cases h12 : x.k = 12
        · rw [if_pos h12, h12]; exact bare_back x w h12
        · rw [if_neg h12]; exact bare_other x w h1 h10 h11 h12

end Go.Proofs.Ytcjefhjhmmoocaa
