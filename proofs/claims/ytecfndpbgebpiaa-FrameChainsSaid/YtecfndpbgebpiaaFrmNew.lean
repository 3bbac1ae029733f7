/-
  Layer 12: New, the landed code.
-/
import Derived.Test.YtecfndpbgebpiaaFrmPut
namespace Go.Proofs.Ytecfndpbgebpiaa
open Go.RowKit
open Go.Maps (Keyed IsMap Tidy)

theorem makePl (w : World) : (Instr.makeSlice 54 (.int .i64 1) (.int .i64 1)).run Try.prog w = .ok (slc w.heap.size 1 1) (w.alloc (.cells (plC (zF, 0)) 61)) := by kernel_rfl
set_option maxHeartbeats 2000000 in
theorem new_any (most : Int) (w : World) :
    Calls Try.prog 8 #[.int .i64 most] w fun e w' => Below w.heap.size w w' ∧ ((0 ≤ most ∧ most ≤ 1048576 ∧ ∃ p b m, e = .returned (.tuple #[ptr p, .int .i64 0]) ∧ w.heap.size ≤ p ∧ w.heap.size ≤ b ∧ w.heap.size ≤ m ∧ St w' p b m most [(zF, 0)]) ∨
      (¬ (0 ≤ most ∧ most ≤ 1048576) ∧ e = .returned (.tuple #[.pointer none, .int .i64 1]))) := by
  by_cases h0 : 0 ≤ most
  · by_cases h1 : most ≤ 1048576
    · have hmm := @run_makeMap Try.prog
      go_enter Try.func8, Try.ntmps8
      go_wp2_with fail
      rw [makePl]
      go_wp2_with fail
      go_ret2
      obtain ⟨W, hW⟩ : ∃ W, (((w.alloc (.cells (plC (zF, 0)) 61)).alloc (.map #[] 0)).alloc (.cells (stC (w.heap.size + 1 + 1) w.heap.size (w.heap.size + 1) 1 1 most) 57)) = W := ⟨_, rfl⟩
      have hB : Below w.heap.size w W := hW ▸ (((Below.refl _ w).alloc (Nat.le_refl _) _).alloc (by simp) _).alloc (by simp; omega) _
      have h1b : BoxV 61 W w.heap.size (plC (zF, 0)) := hW ▸ ((BoxV.new w _).alloc _).alloc _
      have h2b : W.heap[w.heap.size + 1]? = some (.map #[] 0) := by
        rw [← hW, Below.heap_alloc _ _ _ (by simp)]
        have := heap_alloc_new (w.alloc (.cells (plC (zF, 0)) 61)) (.map #[] 0)
        rwa [World.size_alloc] at this
      have h3b : BoxV 57 W (w.heap.size + 1 + 1) (stC (w.heap.size + 1 + 1) w.heap.size (w.heap.size + 1) 1 1 most) := by
        have := BoxV.new (T := 57) ((w.alloc (.cells (plC (zF, 0)) 61)).alloc (.map #[] 0)) (stC (w.heap.size + 1 + 1) w.heap.size (w.heap.size + 1) 1 1 most)
        rw [World.size_alloc, World.size_alloc] at this
        exact hW ▸ this
      rw [hW]
      refine ⟨hB, .inl ⟨h0, h1, _, w.heap.size, w.heap.size + 1, rfl, by omega, Nat.le_refl _, by omega, ⟨1, h3b, rfl, .inr ⟨w.heap.size, 1, _, rfl, Nat.zero_le _, h1b, Nat.le_refl _, by decide, rfl, rfl⟩⟩, ⟨.map [], ⟨#[], 0, h2b, ⟨by simp, MapKept.stamped_empty 0, by simp⟩, Nat.zero_le _, rfl⟩, .made⟩, .made, by simp, h0, h1⟩⟩
    · have H1 := Lib.hid h1
      have h2 : 1048576 < most := by omega
      clear h1
      go_enter Try.func8, Try.ntmps8
      go_wp2_with fail
      go_ret2
      exact ⟨by go_grown, .inr (by first | rfl | exact ⟨by omega, rfl⟩)⟩
  · have H0 := Lib.hid h0
    go_enter Try.func8, Try.ntmps8
    go_wp2_with fail
    go_ret2
    exact ⟨by go_grown, .inr (by first | rfl | exact ⟨by omega, rfl⟩)⟩
end Go.Proofs.Ytecfndpbgebpiaa
