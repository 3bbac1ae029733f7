/-
  Layer 5: the sets of one character that clewlaw05.fixed asks for.
-/
import Derived.Test.YtfejdengpnikeaaDoorAstA
namespace Go.Proofs.YtfejdengpnikeaaDoor.Ast
open Go.RowKit

set_option maxHeartbeats 1000000 in
theorem with_97 (w : World) : Calls Tryd.prog 29 #[.agg #[.int .u64 0, .int .u64 0, .int .u64 0, .int .u64 0], .int .u8 97] w fun e w' => e = .returned (.agg #[.int .u64 0, .int .u64 8589934592, .int .u64 0, .int .u64 0]) ∧ Below w.heap.size w w' := by
  have hb : bits BinOp.or IntKind.u64 0 8589934592 = 8589934592 := by decide
  go_enter Tryd.func29, Tryd.ntmps29
  go_wp2_with fail
  refine bodyPost_ret (v := .agg #[.int .u64 0, .int .u64 8589934592, .int .u64 0, .int .u64 0]) (by simp [results, Tryd.results29, go_sem]) rfl ⟨rfl, by go_grown⟩

set_option maxHeartbeats 1000000 in
theorem one_97 (w : World) : Calls Tryd.prog 21 #[.int .u8 97] w fun e w' => e = .returned (.agg #[.int .u64 0, .int .u64 8589934592, .int .u64 0, .int .u64 0]) ∧ Below w.heap.size w w' := by
  go_enter Tryd.func21, Tryd.ntmps21
  go_wp2_with fail
  refine (with_97 _).mono ?_
  rintro e w1 ⟨rfl, hb⟩
  have hB : Below w.heap.size w w1 := thenB ((Below.refl _ w).alloc (Nat.le_refl _) _) hb (by simp)
  have hC := (hb.block w.heap.size (by simp)).trans (heap_alloc_new w _)
  clear hb
  have c0 : w1.cell? ⟨w.heap.size, 0, none⟩ = some (.int .u64 0) := by unfold World.cell?; rw [hC]; rfl
  have c1 : w1.cell? ⟨w.heap.size, 1, none⟩ = some (.int .u64 0) := by unfold World.cell?; rw [hC]; rfl
  have c2 : w1.cell? ⟨w.heap.size, 2, none⟩ = some (.int .u64 0) := by unfold World.cell?; rw [hC]; rfl
  have c3 : w1.cell? ⟨w.heap.size, 3, none⟩ = some (.int .u64 0) := by unfold World.cell?; rw [hC]; rfl
  have f0 := frozen_of_row w1 w.heap.size 0 _ _ hC
  have f1 := frozen_of_row w1 w.heap.size 1 _ _ hC
  have f2 := frozen_of_row w1 w.heap.size 2 _ _ hC
  have f3 := frozen_of_row w1 w.heap.size 3 _ _ hC
  have HB := Lib.hid hB
  clear hB hC
  go_wp2_with fail
  refine bodyPost_ret (v := .agg #[.int .u64 0, .int .u64 8589934592, .int .u64 0, .int .u64 0]) (by simp [results, Tryd.results21, go_sem, c0, c1, c2, c3]) rfl ⟨rfl, ?_⟩
  have hB := HB.out
  go_grown

set_option maxHeartbeats 1000000 in
theorem with_98 (w : World) : Calls Tryd.prog 29 #[.agg #[.int .u64 0, .int .u64 0, .int .u64 0, .int .u64 0], .int .u8 98] w fun e w' => e = .returned (.agg #[.int .u64 0, .int .u64 17179869184, .int .u64 0, .int .u64 0]) ∧ Below w.heap.size w w' := by
  have hb : bits BinOp.or IntKind.u64 0 17179869184 = 17179869184 := by decide
  go_enter Tryd.func29, Tryd.ntmps29
  go_wp2_with fail
  refine bodyPost_ret (v := .agg #[.int .u64 0, .int .u64 17179869184, .int .u64 0, .int .u64 0]) (by simp [results, Tryd.results29, go_sem]) rfl ⟨rfl, by go_grown⟩

set_option maxHeartbeats 1000000 in
theorem one_98 (w : World) : Calls Tryd.prog 21 #[.int .u8 98] w fun e w' => e = .returned (.agg #[.int .u64 0, .int .u64 17179869184, .int .u64 0, .int .u64 0]) ∧ Below w.heap.size w w' := by
  go_enter Tryd.func21, Tryd.ntmps21
  go_wp2_with fail
  refine (with_98 _).mono ?_
  rintro e w1 ⟨rfl, hb⟩
  have hB : Below w.heap.size w w1 := thenB ((Below.refl _ w).alloc (Nat.le_refl _) _) hb (by simp)
  have hC := (hb.block w.heap.size (by simp)).trans (heap_alloc_new w _)
  clear hb
  have c0 : w1.cell? ⟨w.heap.size, 0, none⟩ = some (.int .u64 0) := by unfold World.cell?; rw [hC]; rfl
  have c1 : w1.cell? ⟨w.heap.size, 1, none⟩ = some (.int .u64 0) := by unfold World.cell?; rw [hC]; rfl
  have c2 : w1.cell? ⟨w.heap.size, 2, none⟩ = some (.int .u64 0) := by unfold World.cell?; rw [hC]; rfl
  have c3 : w1.cell? ⟨w.heap.size, 3, none⟩ = some (.int .u64 0) := by unfold World.cell?; rw [hC]; rfl
  have f0 := frozen_of_row w1 w.heap.size 0 _ _ hC
  have f1 := frozen_of_row w1 w.heap.size 1 _ _ hC
  have f2 := frozen_of_row w1 w.heap.size 2 _ _ hC
  have f3 := frozen_of_row w1 w.heap.size 3 _ _ hC
  have HB := Lib.hid hB
  clear hB hC
  go_wp2_with fail
  refine bodyPost_ret (v := .agg #[.int .u64 0, .int .u64 17179869184, .int .u64 0, .int .u64 0]) (by simp [results, Tryd.results21, go_sem, c0, c1, c2, c3]) rfl ⟨rfl, ?_⟩
  have hB := HB.out
  go_grown
end Go.Proofs.YtfejdengpnikeaaDoor.Ast
