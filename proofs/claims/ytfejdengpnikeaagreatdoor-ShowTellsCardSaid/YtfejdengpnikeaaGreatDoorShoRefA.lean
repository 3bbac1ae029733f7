/-
  Layer 8, the document's answer: bytes, numbers, how often.
-/
import Derived.Test.YtfejdengpnikeaaGreatDoorShoA
namespace Go.Proofs.YtfejdengpnikeaaGreatDoor
open Go.RowKit
open Ast (Nd ndV ndC)

set_option maxRecDepth 20000 in
theorem strOf (w : World) (cs : List UInt8) : (convert 71 9 (.slice (some ⟨w.heap.size, 0, none⟩) cs.length cs.length)).run Tryz.prog (w.alloc (.cells (cs.map fun c => Value.int .u8 ((c.toNat : Nat) : Int)).toArray 5)) = .ok (.string ⟨cs.toArray⟩) (w.alloc (.cells (cs.map fun c => Value.int .u8 ((c.toNat : Nat) : Int)).toArray 5)) := by
  have h := run_convert_bytes_back (P := Tryz.prog) (w.alloc (.cells (cs.map fun c => Value.int .u8 ((c.toNat : Nat) : Int)).toArray 5)) 71 9 5 ⟨w.heap.size, 0, none⟩ cs.length cs Tryz.underlying71 Tryz.underlying5 Tryz.underlying9 (fun j hj => by
    rw [Addr.add_lit]
    unfold World.cell?
    rw [heap_alloc_new]
    simp [hj])
  exact h
section
variable {ops : Array Oper} {R : World → Prop} {a : Act} {o : Oper} {x y : Operand}
theorem convI_y {c : Nat} (hc : c < 256) (ho : o.op = .convert 5 3 x) (hx : a.eval x = .int .u8 (c : Int)) (hw : Region.wanted o (yielded ops a.tmps) = true) : YieldsIf Tryz.prog ops R o (.int .i64 (c : Int)) a := by
  refine Or.inl ⟨hw, fun w _ => ?_⟩
  have hq : IntKind.i64.wrap (c : Int) = (c : Int) := by rw [IntKind.wrap_i64]; omega
  unfold execOp
  simp only [ho, hx]
  simp [go_sem, hq]
theorem quoI_y {c : Nat} (hc : c < 256) (ho : o.op = .binOp .quo 3 x (.const (.int .i64 16)) 3) (hx : a.eval x = .int .i64 (c : Int)) (hw : Region.wanted o (yielded ops a.tmps) = true) : YieldsIf Tryz.prog ops R o (.int .i64 ((c / 16 : Nat) : Int)) a := by
  refine Or.inl ⟨hw, fun w _ => ?_⟩
  unfold execOp
  simp only [ho, hx]
  go_simp
  rw [IntKind.wrap_i64]
  omega
theorem remI_y {c : Nat} (hc : c < 256) (ho : o.op = .binOp .rem 3 x (.const (.int .i64 16)) 3) (hx : a.eval x = .int .i64 (c : Int)) (hw : Region.wanted o (yielded ops a.tmps) = true) : YieldsIf Tryz.prog ops R o (.int .i64 ((c % 16 : Nat) : Int)) a := by
  refine Or.inl ⟨hw, fun w _ => ?_⟩
  have h : (c : Int).tmod 16 = ((c % 16 : Nat) : Int) := by rw [Int.tmod_eq_emod_of_nonneg (by omega)]; omega
  unfold execOp
  simp only [ho, hx]
  simp [go_sem, h]
theorem hexI_y {c : Nat} (hc : c < 16) (ho : o.op = .index 9 x y) (hx : a.eval x = .string digsC) (hy : a.eval y = .int .i64 (c : Int)) (hw : Region.wanted o (yielded ops a.tmps) = true) : YieldsIf Tryz.prog ops R o (.int .u8 (((hexD c).toNat : Nat) : Int)) a := by
  refine Or.inl ⟨hw, fun w _ => ?_⟩
  unfold execOp
  simp only [ho, hx, hy]
  rcases (show c = 0 ∨ c = 1 ∨ c = 2 ∨ c = 3 ∨ c = 4 ∨ c = 5 ∨ c = 6 ∨ c = 7 ∨ c = 8 ∨ c = 9 ∨ c = 10 ∨ c = 11 ∨ c = 12 ∨ c = 13 ∨ c = 14 ∨ c = 15 by omega) with rfl | rfl | rfl | rfl | rfl | rfl | rfl | rfl | rfl | rfl | rfl | rfl | rfl | rfl | rfl | rfl
  all_goals kernel_rfl
theorem conv_run {w w' : World} {S T : TypeId} {v z : Value} (ho : o.op = .convert S T x) (hx : a.eval x = v) (h : (convert S T v).run Tryz.prog w = .ok z w') : (execOp a.eval o).run Tryz.prog w = .ok (.value z) w' := by
  unfold execOp
  simp only [ho, hx]
  simp [go_sem, h]
end
set_option maxRecDepth 20000 in
set_option maxHeartbeats 8000000 in
theorem text8_any (c : Nat) (hc : c < 256) (w : World) : Calls Tryz.prog 31 #[.int .u8 (c : Int)] w fun e w' => e = .returned (.string (textB c)) ∧ Below w.heap.size w w' := by
  by_cases hp : plainB c = true
  · rw [show textB c = ⟨#[UInt8.ofNat c]⟩ by unfold textB; rw [if_pos hp]]
    have hs : (convert 71 9 (.slice (some ⟨w.heap.size, 0, none⟩) 1 1)).run Tryz.prog (w.alloc (.cells #[.int .u8 (c : Int)] 5)) = .ok (.string ⟨#[UInt8.ofNat c]⟩) (w.alloc (.cells #[.int .u8 (c : Int)] 5)) := by
      have h := strOf w [UInt8.ofNat c]
      have e : (UInt8.ofNat c).toNat = c := by simp; omega
      simp only [List.map_cons, List.map_nil, List.length_cons, List.length_nil, e] at h
      exact h
    have hk : 97 ≤ c ∧ c ≤ 122 ∨ 65 ≤ c ∧ c ≤ 90 ∨ 48 ≤ c ∧ c ≤ 57 ∨ c = 95 ∨ c = 32 := by unfold plainB at hp; simpa using hp
    clear hp
    rcases hk with ⟨q1, q2⟩ | ⟨q1, q2⟩ | ⟨q1, q2⟩ | q1 | q1
    · have a1 : (97 : Int) ≤ (c : Int) := by omega
      have a2 : (c : Int) ≤ 122 := by omega
      clear q1 q2
      go_enter Tryz.func31, Tryz.ntmps31
      go_wp2_with fail
      go_ret
      exact ⟨rfl, by go_grown⟩
    · have a1 : ¬ (97 : Int) ≤ (c : Int) := by omega
      have a2 : (65 : Int) ≤ (c : Int) := by omega
      have a3 : (c : Int) ≤ 90 := by omega
      clear q1 q2
      go_enter Tryz.func31, Tryz.ntmps31
      go_wp2_with fail
      go_ret
      exact ⟨rfl, by go_grown⟩
    · have a1 : ¬ (97 : Int) ≤ (c : Int) := by omega
      have a2 : ¬ (65 : Int) ≤ (c : Int) := by omega
      have a3 : (48 : Int) ≤ (c : Int) := by omega
      have a4 : (c : Int) ≤ 57 := by omega
      clear q1 q2
      go_enter Tryz.func31, Tryz.ntmps31
      go_wp2_with fail
      go_ret
      exact ⟨rfl, by go_grown⟩
    · have a1 : ¬ (97 : Int) ≤ (c : Int) := by omega
      have a2 : (65 : Int) ≤ (c : Int) := by omega
      have a3 : ¬ (c : Int) ≤ 90 := by omega
      have a4 : (48 : Int) ≤ (c : Int) := by omega
      have a5 : ¬ (c : Int) ≤ 57 := by omega
      have a6 : ((c : Int) == 95) = true := by simp; omega
      clear q1
      go_enter Tryz.func31, Tryz.ntmps31
      go_wp2_with fail
      go_ret
      exact ⟨rfl, by go_grown⟩
    · have a1 : ¬ (97 : Int) ≤ (c : Int) := by omega
      have a2 : ¬ (65 : Int) ≤ (c : Int) := by omega
      have a4 : ¬ (48 : Int) ≤ (c : Int) := by omega
      have a6 : ((c : Int) == 95) = false := beq_eq_false_iff_ne.2 (by omega)
      have a7 : ((c : Int) == 32) = true := by simp; omega
      clear q1
      go_enter Tryz.func31, Tryz.ntmps31
      go_wp2_with fail
      go_ret
      exact ⟨rfl, by go_grown⟩
  · have h95 : c ≠ 95 := fun e => hp (by subst e; rfl)
    have h32 : c ≠ 32 := fun e => hp (by subst e; rfl)
    have hn : c < 48 ∨ 57 < c ∧ c < 65 ∨ 90 < c ∧ c < 97 ∨ 122 < c := by
      unfold plainB at hp
      simp only [decide_eq_true_eq] at hp
      omega
    rw [show textB c = ⟨#[92, 120, hexD (c / 16), hexD (c % 16)]⟩ by unfold textB; rw [if_neg hp]]
    clear hp
    have e1 : ((c : Int) == 95) = false := beq_eq_false_iff_ne.2 (by omega)
    have e2 : ((c : Int) == 32) = false := beq_eq_false_iff_ne.2 (by omega)
    clear h95 h32
    rcases hn with hn | hn | hn | hn
    · have a0 : ¬ (97 : Int) ≤ (c : Int) := by omega
      have a1 : ¬ (65 : Int) ≤ (c : Int) := by omega
      have a2 : ¬ (48 : Int) ≤ (c : Int) := by omega
      clear hn
      go_enter Tryz.func31, Tryz.ntmps31
      go_wp2_with fail
      refine wp_region_held_drew (S := fun u => Below w.heap.size w u) (by kernel_rfl) (show _ from (Below.refl _ w).drew) (fun hS => ?_)
      generalize World.drew w = u0 at hS ⊢
      refine takeAt 0 37 (.string digsC) rfl rfl (by kernel_rfl) (by kernel_rfl) (by kernel_rfl) (fun _ _ _ h => h) (yields (by rfl) (fun w => by kernel_rfl)) hS ?_
      simp only [Act.put, List.setIfInBounds_toArray, List.set_cons_zero, List.set_cons_succ]
      refine takeAt 1 38 (.int .u8 (c : Int)) rfl rfl (by kernel_rfl) (by kernel_rfl) (by kernel_rfl) (fun _ _ _ h => h) (yields (by rfl) (fun w => by kernel_rfl)) hS ?_
      simp only [Act.put, List.setIfInBounds_toArray, List.set_cons_zero, List.set_cons_succ]
      refine takeAt 2 39 (.int .i64 (c : Int)) rfl rfl (by kernel_rfl) (by kernel_rfl) (by kernel_rfl) (fun _ _ _ h => h) (convI_y hc rfl rfl (by rfl)) hS ?_
      simp only [Act.put, List.setIfInBounds_toArray, List.set_cons_zero, List.set_cons_succ]
      refine takeAt 3 40 (.int .i64 ((c / 16 : Nat) : Int)) rfl rfl (by kernel_rfl) (by kernel_rfl) (by kernel_rfl) (fun _ _ _ h => h) (quoI_y hc rfl rfl (by rfl)) hS ?_
      simp only [Act.put, List.setIfInBounds_toArray, List.set_cons_zero, List.set_cons_succ]
      refine takeAt 4 41 (.int .u8 (((hexD (c / 16)).toNat : Nat) : Int)) rfl rfl (by kernel_rfl) (by kernel_rfl) (by kernel_rfl) (fun _ _ _ h => h) (hexI_y (by omega) rfl rfl rfl (by rfl)) hS ?_
      simp only [Act.put, List.setIfInBounds_toArray, List.set_cons_zero, List.set_cons_succ]
      refine takeAt 5 42 (.string digsC) rfl rfl (by kernel_rfl) (by kernel_rfl) (by kernel_rfl) (fun _ _ _ h => h) (yields (by rfl) (fun w => by kernel_rfl)) hS ?_
      simp only [Act.put, List.setIfInBounds_toArray, List.set_cons_zero, List.set_cons_succ]
      refine takeAt 6 43 (.int .u8 (c : Int)) rfl rfl (by kernel_rfl) (by kernel_rfl) (by kernel_rfl) (fun _ _ _ h => h) (yields (by rfl) (fun w => by kernel_rfl)) hS ?_
      simp only [Act.put, List.setIfInBounds_toArray, List.set_cons_zero, List.set_cons_succ]
      refine takeAt 7 44 (.int .i64 (c : Int)) rfl rfl (by kernel_rfl) (by kernel_rfl) (by kernel_rfl) (fun _ _ _ h => h) (convI_y hc rfl rfl (by rfl)) hS ?_
      simp only [Act.put, List.setIfInBounds_toArray, List.set_cons_zero, List.set_cons_succ]
      refine takeAt 8 45 (.int .i64 ((c % 16 : Nat) : Int)) rfl rfl (by kernel_rfl) (by kernel_rfl) (by kernel_rfl) (fun _ _ _ h => h) (remI_y hc rfl rfl (by rfl)) hS ?_
      simp only [Act.put, List.setIfInBounds_toArray, List.set_cons_zero, List.set_cons_succ]
      refine takeAt 9 46 (.int .u8 (((hexD (c % 16)).toNat : Nat) : Int)) rfl rfl (by kernel_rfl) (by kernel_rfl) (by kernel_rfl) (fun _ _ _ h => h) (hexI_y (by omega) rfl rfl rfl (by rfl)) hS ?_
      simp only [Act.put, List.setIfInBounds_toArray, List.set_cons_zero, List.set_cons_succ]
      have hS2 : Below w.heap.size w (u0.alloc (.cells #[.int .u8 92, .int .u8 120, .int .u8 (((hexD (c / 16)).toNat : Nat) : Int), .int .u8 (((hexD (c % 16)).toNat : Nat) : Int)] 5)) := hS.alloc hS.size _
      refine valAt 10 47 (.slice (some ⟨u0.heap.size, 0, none⟩) 4 4) (u0.alloc (.cells #[.int .u8 92, .int .u8 120, .int .u8 (((hexD (c / 16)).toNat : Nat) : Int), .int .u8 (((hexD (c % 16)).toNat : Nat) : Int)] 5)) rfl rfl (by kernel_rfl) (by rfl) (by kernel_rfl) hS2 ?_
      simp only [Act.put, List.setIfInBounds_toArray, List.set_cons_zero, List.set_cons_succ]
      refine valAt 11 48 (.string ⟨#[92, 120, hexD (c / 16), hexD (c % 16)]⟩) (u0.alloc (.cells #[.int .u8 92, .int .u8 120, .int .u8 (((hexD (c / 16)).toNat : Nat) : Int), .int .u8 (((hexD (c % 16)).toNat : Nat) : Int)] 5)) rfl rfl (by kernel_rfl) (by rfl) (conv_run rfl rfl (strOf u0 [92, 120, hexD (c / 16), hexD (c % 16)])) hS2 ?_
      simp only [Act.put, List.setIfInBounds_toArray, List.set_cons_zero, List.set_cons_succ]
      refine takeAt 12 2 (.string ⟨#[92, 120, hexD (c / 16), hexD (c % 16)]⟩) rfl rfl (by kernel_rfl) (by kernel_rfl) (by kernel_rfl) (fun _ _ _ h => h) (yields (by rfl) (fun w => by kernel_rfl)) hS2 ?_
      simp only [Act.put, List.setIfInBounds_toArray, List.set_cons_zero, List.set_cons_succ]
      refine wpAnyH_done (by kernel_rfl) ?_ _
      go_wp2
      go_ret
      exact ⟨rfl, hS2⟩
    · have a0 : ¬ (97 : Int) ≤ (c : Int) := by omega
      have a1 : ¬ (65 : Int) ≤ (c : Int) := by omega
      have a2 : (48 : Int) ≤ (c : Int) := by omega
      have a3 : ¬ (c : Int) ≤ 57 := by omega
      clear hn
      go_enter Tryz.func31, Tryz.ntmps31
      go_wp2_with fail
      refine wp_region_held_drew (S := fun u => Below w.heap.size w u) (by kernel_rfl) (show _ from (Below.refl _ w).drew) (fun hS => ?_)
      generalize World.drew w = u0 at hS ⊢
      refine takeAt 0 37 (.string digsC) rfl rfl (by kernel_rfl) (by kernel_rfl) (by kernel_rfl) (fun _ _ _ h => h) (yields (by rfl) (fun w => by kernel_rfl)) hS ?_
      simp only [Act.put, List.setIfInBounds_toArray, List.set_cons_zero, List.set_cons_succ]
      refine takeAt 1 38 (.int .u8 (c : Int)) rfl rfl (by kernel_rfl) (by kernel_rfl) (by kernel_rfl) (fun _ _ _ h => h) (yields (by rfl) (fun w => by kernel_rfl)) hS ?_
      simp only [Act.put, List.setIfInBounds_toArray, List.set_cons_zero, List.set_cons_succ]
      refine takeAt 2 39 (.int .i64 (c : Int)) rfl rfl (by kernel_rfl) (by kernel_rfl) (by kernel_rfl) (fun _ _ _ h => h) (convI_y hc rfl rfl (by rfl)) hS ?_
      simp only [Act.put, List.setIfInBounds_toArray, List.set_cons_zero, List.set_cons_succ]
      refine takeAt 3 40 (.int .i64 ((c / 16 : Nat) : Int)) rfl rfl (by kernel_rfl) (by kernel_rfl) (by kernel_rfl) (fun _ _ _ h => h) (quoI_y hc rfl rfl (by rfl)) hS ?_
      simp only [Act.put, List.setIfInBounds_toArray, List.set_cons_zero, List.set_cons_succ]
      refine takeAt 4 41 (.int .u8 (((hexD (c / 16)).toNat : Nat) : Int)) rfl rfl (by kernel_rfl) (by kernel_rfl) (by kernel_rfl) (fun _ _ _ h => h) (hexI_y (by omega) rfl rfl rfl (by rfl)) hS ?_
      simp only [Act.put, List.setIfInBounds_toArray, List.set_cons_zero, List.set_cons_succ]
      refine takeAt 5 42 (.string digsC) rfl rfl (by kernel_rfl) (by kernel_rfl) (by kernel_rfl) (fun _ _ _ h => h) (yields (by rfl) (fun w => by kernel_rfl)) hS ?_
      simp only [Act.put, List.setIfInBounds_toArray, List.set_cons_zero, List.set_cons_succ]
      refine takeAt 6 43 (.int .u8 (c : Int)) rfl rfl (by kernel_rfl) (by kernel_rfl) (by kernel_rfl) (fun _ _ _ h => h) (yields (by rfl) (fun w => by kernel_rfl)) hS ?_
      simp only [Act.put, List.setIfInBounds_toArray, List.set_cons_zero, List.set_cons_succ]
      refine takeAt 7 44 (.int .i64 (c : Int)) rfl rfl (by kernel_rfl) (by kernel_rfl) (by kernel_rfl) (fun _ _ _ h => h) (convI_y hc rfl rfl (by rfl)) hS ?_
      simp only [Act.put, List.setIfInBounds_toArray, List.set_cons_zero, List.set_cons_succ]
      refine takeAt 8 45 (.int .i64 ((c % 16 : Nat) : Int)) rfl rfl (by kernel_rfl) (by kernel_rfl) (by kernel_rfl) (fun _ _ _ h => h) (remI_y hc rfl rfl (by rfl)) hS ?_
      simp only [Act.put, List.setIfInBounds_toArray, List.set_cons_zero, List.set_cons_succ]
      refine takeAt 9 46 (.int .u8 (((hexD (c % 16)).toNat : Nat) : Int)) rfl rfl (by kernel_rfl) (by kernel_rfl) (by kernel_rfl) (fun _ _ _ h => h) (hexI_y (by omega) rfl rfl rfl (by rfl)) hS ?_
      simp only [Act.put, List.setIfInBounds_toArray, List.set_cons_zero, List.set_cons_succ]
      have hS2 : Below w.heap.size w (u0.alloc (.cells #[.int .u8 92, .int .u8 120, .int .u8 (((hexD (c / 16)).toNat : Nat) : Int), .int .u8 (((hexD (c % 16)).toNat : Nat) : Int)] 5)) := hS.alloc hS.size _
      refine valAt 10 47 (.slice (some ⟨u0.heap.size, 0, none⟩) 4 4) (u0.alloc (.cells #[.int .u8 92, .int .u8 120, .int .u8 (((hexD (c / 16)).toNat : Nat) : Int), .int .u8 (((hexD (c % 16)).toNat : Nat) : Int)] 5)) rfl rfl (by kernel_rfl) (by rfl) (by kernel_rfl) hS2 ?_
      simp only [Act.put, List.setIfInBounds_toArray, List.set_cons_zero, List.set_cons_succ]
      refine valAt 11 48 (.string ⟨#[92, 120, hexD (c / 16), hexD (c % 16)]⟩) (u0.alloc (.cells #[.int .u8 92, .int .u8 120, .int .u8 (((hexD (c / 16)).toNat : Nat) : Int), .int .u8 (((hexD (c % 16)).toNat : Nat) : Int)] 5)) rfl rfl (by kernel_rfl) (by rfl) (conv_run rfl rfl (strOf u0 [92, 120, hexD (c / 16), hexD (c % 16)])) hS2 ?_
      simp only [Act.put, List.setIfInBounds_toArray, List.set_cons_zero, List.set_cons_succ]
      refine takeAt 12 2 (.string ⟨#[92, 120, hexD (c / 16), hexD (c % 16)]⟩) rfl rfl (by kernel_rfl) (by kernel_rfl) (by kernel_rfl) (fun _ _ _ h => h) (yields (by rfl) (fun w => by kernel_rfl)) hS2 ?_
      simp only [Act.put, List.setIfInBounds_toArray, List.set_cons_zero, List.set_cons_succ]
      refine wpAnyH_done (by kernel_rfl) ?_ _
      go_wp2
      go_ret
      exact ⟨rfl, hS2⟩
    · have a0 : ¬ (97 : Int) ≤ (c : Int) := by omega
      have a1 : (65 : Int) ≤ (c : Int) := by omega
      have a2 : ¬ (c : Int) ≤ 90 := by omega
      have a3 : (48 : Int) ≤ (c : Int) := by omega
      have a4 : ¬ (c : Int) ≤ 57 := by omega
      clear hn
      go_enter Tryz.func31, Tryz.ntmps31
      go_wp2_with fail
      refine wp_region_held_drew (S := fun u => Below w.heap.size w u) (by kernel_rfl) (show _ from (Below.refl _ w).drew) (fun hS => ?_)
      generalize World.drew w = u0 at hS ⊢
      refine takeAt 0 37 (.string digsC) rfl rfl (by kernel_rfl) (by kernel_rfl) (by kernel_rfl) (fun _ _ _ h => h) (yields (by rfl) (fun w => by kernel_rfl)) hS ?_
      simp only [Act.put, List.setIfInBounds_toArray, List.set_cons_zero, List.set_cons_succ]
      refine takeAt 1 38 (.int .u8 (c : Int)) rfl rfl (by kernel_rfl) (by kernel_rfl) (by kernel_rfl) (fun _ _ _ h => h) (yields (by rfl) (fun w => by kernel_rfl)) hS ?_
      simp only [Act.put, List.setIfInBounds_toArray, List.set_cons_zero, List.set_cons_succ]
      refine takeAt 2 39 (.int .i64 (c : Int)) rfl rfl (by kernel_rfl) (by kernel_rfl) (by kernel_rfl) (fun _ _ _ h => h) (convI_y hc rfl rfl (by rfl)) hS ?_
      simp only [Act.put, List.setIfInBounds_toArray, List.set_cons_zero, List.set_cons_succ]
      refine takeAt 3 40 (.int .i64 ((c / 16 : Nat) : Int)) rfl rfl (by kernel_rfl) (by kernel_rfl) (by kernel_rfl) (fun _ _ _ h => h) (quoI_y hc rfl rfl (by rfl)) hS ?_
      simp only [Act.put, List.setIfInBounds_toArray, List.set_cons_zero, List.set_cons_succ]
      refine takeAt 4 41 (.int .u8 (((hexD (c / 16)).toNat : Nat) : Int)) rfl rfl (by kernel_rfl) (by kernel_rfl) (by kernel_rfl) (fun _ _ _ h => h) (hexI_y (by omega) rfl rfl rfl (by rfl)) hS ?_
      simp only [Act.put, List.setIfInBounds_toArray, List.set_cons_zero, List.set_cons_succ]
      refine takeAt 5 42 (.string digsC) rfl rfl (by kernel_rfl) (by kernel_rfl) (by kernel_rfl) (fun _ _ _ h => h) (yields (by rfl) (fun w => by kernel_rfl)) hS ?_
      simp only [Act.put, List.setIfInBounds_toArray, List.set_cons_zero, List.set_cons_succ]
      refine takeAt 6 43 (.int .u8 (c : Int)) rfl rfl (by kernel_rfl) (by kernel_rfl) (by kernel_rfl) (fun _ _ _ h => h) (yields (by rfl) (fun w => by kernel_rfl)) hS ?_
      simp only [Act.put, List.setIfInBounds_toArray, List.set_cons_zero, List.set_cons_succ]
      refine takeAt 7 44 (.int .i64 (c : Int)) rfl rfl (by kernel_rfl) (by kernel_rfl) (by kernel_rfl) (fun _ _ _ h => h) (convI_y hc rfl rfl (by rfl)) hS ?_
      simp only [Act.put, List.setIfInBounds_toArray, List.set_cons_zero, List.set_cons_succ]
      refine takeAt 8 45 (.int .i64 ((c % 16 : Nat) : Int)) rfl rfl (by kernel_rfl) (by kernel_rfl) (by kernel_rfl) (fun _ _ _ h => h) (remI_y hc rfl rfl (by rfl)) hS ?_
      simp only [Act.put, List.setIfInBounds_toArray, List.set_cons_zero, List.set_cons_succ]
      refine takeAt 9 46 (.int .u8 (((hexD (c % 16)).toNat : Nat) : Int)) rfl rfl (by kernel_rfl) (by kernel_rfl) (by kernel_rfl) (fun _ _ _ h => h) (hexI_y (by omega) rfl rfl rfl (by rfl)) hS ?_
      simp only [Act.put, List.setIfInBounds_toArray, List.set_cons_zero, List.set_cons_succ]
      have hS2 : Below w.heap.size w (u0.alloc (.cells #[.int .u8 92, .int .u8 120, .int .u8 (((hexD (c / 16)).toNat : Nat) : Int), .int .u8 (((hexD (c % 16)).toNat : Nat) : Int)] 5)) := hS.alloc hS.size _
      refine valAt 10 47 (.slice (some ⟨u0.heap.size, 0, none⟩) 4 4) (u0.alloc (.cells #[.int .u8 92, .int .u8 120, .int .u8 (((hexD (c / 16)).toNat : Nat) : Int), .int .u8 (((hexD (c % 16)).toNat : Nat) : Int)] 5)) rfl rfl (by kernel_rfl) (by rfl) (by kernel_rfl) hS2 ?_
      simp only [Act.put, List.setIfInBounds_toArray, List.set_cons_zero, List.set_cons_succ]
      refine valAt 11 48 (.string ⟨#[92, 120, hexD (c / 16), hexD (c % 16)]⟩) (u0.alloc (.cells #[.int .u8 92, .int .u8 120, .int .u8 (((hexD (c / 16)).toNat : Nat) : Int), .int .u8 (((hexD (c % 16)).toNat : Nat) : Int)] 5)) rfl rfl (by kernel_rfl) (by rfl) (conv_run rfl rfl (strOf u0 [92, 120, hexD (c / 16), hexD (c % 16)])) hS2 ?_
      simp only [Act.put, List.setIfInBounds_toArray, List.set_cons_zero, List.set_cons_succ]
      refine takeAt 12 2 (.string ⟨#[92, 120, hexD (c / 16), hexD (c % 16)]⟩) rfl rfl (by kernel_rfl) (by kernel_rfl) (by kernel_rfl) (fun _ _ _ h => h) (yields (by rfl) (fun w => by kernel_rfl)) hS2 ?_
      simp only [Act.put, List.setIfInBounds_toArray, List.set_cons_zero, List.set_cons_succ]
      refine wpAnyH_done (by kernel_rfl) ?_ _
      go_wp2
      go_ret
      exact ⟨rfl, hS2⟩
    · have a0 : (97 : Int) ≤ (c : Int) := by omega
      have a1 : ¬ (c : Int) ≤ 122 := by omega
      have a2 : (65 : Int) ≤ (c : Int) := by omega
      have a3 : ¬ (c : Int) ≤ 90 := by omega
      have a4 : (48 : Int) ≤ (c : Int) := by omega
      have a5 : ¬ (c : Int) ≤ 57 := by omega
      clear hn
      go_enter Tryz.func31, Tryz.ntmps31
      go_wp2_with fail
      refine wp_region_held_drew (S := fun u => Below w.heap.size w u) (by kernel_rfl) (show _ from (Below.refl _ w).drew) (fun hS => ?_)
      generalize World.drew w = u0 at hS ⊢
      refine takeAt 0 37 (.string digsC) rfl rfl (by kernel_rfl) (by kernel_rfl) (by kernel_rfl) (fun _ _ _ h => h) (yields (by rfl) (fun w => by kernel_rfl)) hS ?_
      simp only [Act.put, List.setIfInBounds_toArray, List.set_cons_zero, List.set_cons_succ]
      refine takeAt 1 38 (.int .u8 (c : Int)) rfl rfl (by kernel_rfl) (by kernel_rfl) (by kernel_rfl) (fun _ _ _ h => h) (yields (by rfl) (fun w => by kernel_rfl)) hS ?_
      simp only [Act.put, List.setIfInBounds_toArray, List.set_cons_zero, List.set_cons_succ]
      refine takeAt 2 39 (.int .i64 (c : Int)) rfl rfl (by kernel_rfl) (by kernel_rfl) (by kernel_rfl) (fun _ _ _ h => h) (convI_y hc rfl rfl (by rfl)) hS ?_
      simp only [Act.put, List.setIfInBounds_toArray, List.set_cons_zero, List.set_cons_succ]
      refine takeAt 3 40 (.int .i64 ((c / 16 : Nat) : Int)) rfl rfl (by kernel_rfl) (by kernel_rfl) (by kernel_rfl) (fun _ _ _ h => h) (quoI_y hc rfl rfl (by rfl)) hS ?_
      simp only [Act.put, List.setIfInBounds_toArray, List.set_cons_zero, List.set_cons_succ]
      refine takeAt 4 41 (.int .u8 (((hexD (c / 16)).toNat : Nat) : Int)) rfl rfl (by kernel_rfl) (by kernel_rfl) (by kernel_rfl) (fun _ _ _ h => h) (hexI_y (by omega) rfl rfl rfl (by rfl)) hS ?_
      simp only [Act.put, List.setIfInBounds_toArray, List.set_cons_zero, List.set_cons_succ]
      refine takeAt 5 42 (.string digsC) rfl rfl (by kernel_rfl) (by kernel_rfl) (by kernel_rfl) (fun _ _ _ h => h) (yields (by rfl) (fun w => by kernel_rfl)) hS ?_
      simp only [Act.put, List.setIfInBounds_toArray, List.set_cons_zero, List.set_cons_succ]
      refine takeAt 6 43 (.int .u8 (c : Int)) rfl rfl (by kernel_rfl) (by kernel_rfl) (by kernel_rfl) (fun _ _ _ h => h) (yields (by rfl) (fun w => by kernel_rfl)) hS ?_
      simp only [Act.put, List.setIfInBounds_toArray, List.set_cons_zero, List.set_cons_succ]
      refine takeAt 7 44 (.int .i64 (c : Int)) rfl rfl (by kernel_rfl) (by kernel_rfl) (by kernel_rfl) (fun _ _ _ h => h) (convI_y hc rfl rfl (by rfl)) hS ?_
      simp only [Act.put, List.setIfInBounds_toArray, List.set_cons_zero, List.set_cons_succ]
      refine takeAt 8 45 (.int .i64 ((c % 16 : Nat) : Int)) rfl rfl (by kernel_rfl) (by kernel_rfl) (by kernel_rfl) (fun _ _ _ h => h) (remI_y hc rfl rfl (by rfl)) hS ?_
      simp only [Act.put, List.setIfInBounds_toArray, List.set_cons_zero, List.set_cons_succ]
      refine takeAt 9 46 (.int .u8 (((hexD (c % 16)).toNat : Nat) : Int)) rfl rfl (by kernel_rfl) (by kernel_rfl) (by kernel_rfl) (fun _ _ _ h => h) (hexI_y (by omega) rfl rfl rfl (by rfl)) hS ?_
      simp only [Act.put, List.setIfInBounds_toArray, List.set_cons_zero, List.set_cons_succ]
      have hS2 : Below w.heap.size w (u0.alloc (.cells #[.int .u8 92, .int .u8 120, .int .u8 (((hexD (c / 16)).toNat : Nat) : Int), .int .u8 (((hexD (c % 16)).toNat : Nat) : Int)] 5)) := hS.alloc hS.size _
      refine valAt 10 47 (.slice (some ⟨u0.heap.size, 0, none⟩) 4 4) (u0.alloc (.cells #[.int .u8 92, .int .u8 120, .int .u8 (((hexD (c / 16)).toNat : Nat) : Int), .int .u8 (((hexD (c % 16)).toNat : Nat) : Int)] 5)) rfl rfl (by kernel_rfl) (by rfl) (by kernel_rfl) hS2 ?_
      simp only [Act.put, List.setIfInBounds_toArray, List.set_cons_zero, List.set_cons_succ]
      refine valAt 11 48 (.string ⟨#[92, 120, hexD (c / 16), hexD (c % 16)]⟩) (u0.alloc (.cells #[.int .u8 92, .int .u8 120, .int .u8 (((hexD (c / 16)).toNat : Nat) : Int), .int .u8 (((hexD (c % 16)).toNat : Nat) : Int)] 5)) rfl rfl (by kernel_rfl) (by rfl) (conv_run rfl rfl (strOf u0 [92, 120, hexD (c / 16), hexD (c % 16)])) hS2 ?_
      simp only [Act.put, List.setIfInBounds_toArray, List.set_cons_zero, List.set_cons_succ]
      refine takeAt 12 2 (.string ⟨#[92, 120, hexD (c / 16), hexD (c % 16)]⟩) rfl rfl (by kernel_rfl) (by kernel_rfl) (by kernel_rfl) (fun _ _ _ h => h) (yields (by rfl) (fun w => by kernel_rfl)) hS2 ?_
      simp only [Act.put, List.setIfInBounds_toArray, List.set_cons_zero, List.set_cons_succ]
      refine wpAnyH_done (by kernel_rfl) ?_ _
      go_wp2
      go_ret
      exact ⟨rfl, hS2⟩
theorem numT_rec {n : Nat} (h : n < 1000) (h1 : 10 ≤ n) : numT n = numT (n / 10) ++ ⟨#[digB (n % 10)]⟩ := by
  unfold numT
  by_cases h2 : n < 100
  · rw [if_neg (by omega), if_pos h2, if_pos (by omega)]
    rfl
  · rw [if_neg (by omega), if_neg h2, if_neg (by omega), if_pos (by omega), show n / 10 / 10 = n / 100 by omega]
    rfl
set_option maxHeartbeats 4000000 in
theorem num8_step (n : Nat) (hn : n < 1000) (IH : 10 ≤ n → ∀ w, Calls Tryz.prog 96 #[.int .i64 ((n / 10 : Nat) : Int)] w fun e w' => e = .returned (.string (numT (n / 10))) ∧ Below w.heap.size w w') (w : World) : Calls Tryz.prog 96 #[.int .i64 (n : Int)] w fun e w' => e = .returned (.string (numT n)) ∧ Below w.heap.size w w' := by
  have hs : (convert 71 9 (.slice (some ⟨w.heap.size, 0, none⟩) 1 1)).run Tryz.prog (w.alloc (.cells #[.int .u8 (48 + (n : Int) % 10)] 5)) = .ok (.string ⟨#[digB (n % 10)]⟩) (w.alloc (.cells #[.int .u8 (48 + (n : Int) % 10)] 5)) := by
    have h := strOf w [digB (n % 10)]
    have e : (((digB (n % 10)).toNat : Nat) : Int) = 48 + (n : Int) % 10 := by unfold digB; simp; omega
    simp only [List.map_cons, List.map_nil, List.length_cons, List.length_nil, e] at h
    exact h
  have h1 : (n : Int).tmod 10 = (n : Int) % 10 := Int.tmod_eq_emod_of_nonneg (by omega)
  have h2 : IntKind.u8.wrap (48 + (n : Int) % 10) = 48 + (n : Int) % 10 := by rw [IntKind.wrap_u8]; omega
  have h4 : IntKind.i64.wrap (48 + (n : Int) % 10) = 48 + (n : Int) % 10 := by rw [IntKind.wrap_i64]; omega
  by_cases h : n < 10
  · have q : ¬ (10 : Int) ≤ (n : Int) := by omega
    have HE := Lib.hid (show ⟨#[digB (n % 10)]⟩ = numT n by unfold numT; rw [if_pos h, Nat.mod_eq_of_lt h])
    clear IH h
    go_enter Tryz.func96, Tryz.ntmps96
    go_wp2_with fail
    go_ret
    exact ⟨ret_str HE.out, by go_grown⟩
  · have q : (10 : Int) ≤ (n : Int) := by omega
    have h3 : (n : Int).tdiv 10 = ((n / 10 : Nat) : Int) := by rw [Int.tdiv_eq_ediv_of_nonneg (by omega)]; omega
    have h5 : IntKind.i64.wrap ((n / 10 : Nat) : Int) = ((n / 10 : Nat) : Int) := by rw [IntKind.wrap_i64]; omega
    have HI := Lib.hid (IH (by omega))
    have sz := num_size (n / 10)
    have HE := Lib.hid (numT_rec hn (by omega))
    generalize numT (n / 10) = X at HI HE sz
    have s1 : ¬ X.size + 1 > 9223372036854775807 := by omega
    clear IH h
    go_enter Tryz.func96, Tryz.ntmps96
    go_wp2_with fail
    refine (HI.out _).mono ?_
    rintro e w1 ⟨rfl, hb⟩
    have HB := Lib.hid (show Below w.heap.size w w1 from (show Below w.heap.size w (w.alloc (.cells #[.int .u8 (48 + (n : Int) % 10)] 5)) by go_grown).trans (hb.mono (by simp)))
    clear hb
    go_wp2_with fail
    go_ret
    exact ⟨ret_str HE.out.symm, HB.out⟩
theorem num8_any (n : Nat) (hn : n < 1000) (w : World) : Calls Tryz.prog 96 #[.int .i64 (n : Int)] w fun e w' => e = .returned (.string (numT n)) ∧ Below w.heap.size w w' :=
  num8_step n hn (fun _ w => num8_step (n / 10) (by omega) (fun _ w => num8_step (n / 10 / 10) (by omega) (fun h => by omega) w) w) w
end Go.Proofs.YtfejdengpnikeaaGreatDoor
