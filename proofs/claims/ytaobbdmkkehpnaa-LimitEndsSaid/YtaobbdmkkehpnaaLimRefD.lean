/-
  What the document's own meter does: New, Step, Hold.
-/
import Derived.Test.YtaobbdmkkehpnaaLimRefC
namespace Go.Proofs.Ytaobbdmkkehpnaa
open Go.RowKit

/-- Steps more; more or less that is held; both at most 2^62. -/
def stepN (a : Nat) (n : Int) : Nat := if 0 < n then min (a + n.toNat) 4611686018427387904 else a
def holdN (a : Nat) (n : Int) : Nat := if 0 ≤ n then min (a + n.toNat) 4611686018427387904 else a - (-n).toNat
/-- Is a number of steps allowed? -/
def allowB (n b : Nat) : Bool := FloatKind.f64.format.order (fl n) b == some .lt || FloatKind.f64.format.order (fl n) b == some .eq

/-- A meter lies in block p. -/
def Met (u : World) (p s r st h pk : Nat) : Prop := u.heap[p]? = some (.cells #[.float .f64 s, .float .f64 r, .int .u64 (st : Int), .int .u64 (h : Int), .int .u64 (pk : Int)] 53 (0, 0))
/-- Nothing but block p has turned. -/
structure But (p : Nat) (w w' : World) : Prop where
  os : w'.os = w.os
  tape : w'.tape = w.tape
  output : w'.output = w.output
  size : w.heap.size ≤ w'.heap.size
  block : ∀ k, k < w.heap.size → k ≠ p → w'.heap[k]? = w.heap[k]?
theorem But.refl (p : Nat) (w : World) : But p w w := ⟨rfl, rfl, rfl, Nat.le_refl _, fun _ _ _ => rfl⟩
theorem But.trans {p : Nat} {a b c : World} (h : But p a b) (k : But p b c) : But p a c :=
  ⟨k.os.trans h.os, k.tape.trans h.tape, k.output.trans h.output, Nat.le_trans h.size k.size, fun i hi hp => (k.block i (Nat.lt_of_lt_of_le hi h.size) hp).trans (h.block i hi hp)⟩
theorem But.setCell (p i : Nat) (w : World) (v : Value) : But p w (w.setCell ⟨p, i, none⟩ v) := ⟨rfl, rfl, rfl, by simp [World.setCell], fun k _ hk => Below.heap_setCell _ _ _ _ hk⟩
theorem But.drew (p : Nat) (w : World) : But p w w.drew := ⟨rfl, rfl, rfl, Nat.le_refl _, fun _ _ _ => rfl⟩
theorem Met.cells {u : World} {p s r st h pk : Nat} (m : Met u p s r st h pk) : u.cell? ⟨p, 0, none⟩ = some (.float .f64 s) ∧ u.cell? ⟨p, 1, none⟩ = some (.float .f64 r) ∧ u.cell? ⟨p, 2, none⟩ = some (.int .u64 (st : Int)) ∧ u.cell? ⟨p, 3, none⟩ = some (.int .u64 (h : Int)) ∧ u.cell? ⟨p, 4, none⟩ = some (.int .u64 (pk : Int)) := by
  unfold Met at m
  unfold World.cell?
  simp [m]
theorem Met.free {u : World} {p s r st h pk : Nat} (m : Met u p s r st h pk) (j : Nat) : u.frozen? ⟨p, j, none⟩ = false := frozen_of_row u p j _ _ m
theorem Met.setStep {u : World} {p s r st h pk : Nat} (m : Met u p s r st h pk) (n : Nat) : Met (u.setCell ⟨p, 2, none⟩ (.int .u64 (n : Int))) p s r n h pk := by
  unfold Met at m ⊢
  rw [heap_setCell_same u p 2 _ _ _ m]
  rfl
theorem Met.setHeld {u : World} {p s r st h pk : Nat} (m : Met u p s r st h pk) (n : Nat) : Met (u.setCell ⟨p, 3, none⟩ (.int .u64 (n : Int))) p s r st n pk := by
  unfold Met at m ⊢
  rw [heap_setCell_same u p 3 _ _ _ m]
  rfl
theorem Met.setPeak {u : World} {p s r st h pk : Nat} (m : Met u p s r st h pk) (n : Nat) : Met (u.setCell ⟨p, 4, none⟩ (.int .u64 (n : Int))) p s r st h n := by
  unfold Met at m ⊢
  rw [heap_setCell_same u p 4 _ _ _ m]
  rfl

theorem rmore_any (a n r : Nat) (w : World) (ha : a ≤ 4611686018427387904) (hn : n < 9223372036854775808) (hr : r = min (a + n) 4611686018427387904) :
    Calls Try.prog 39 #[.int .u64 (a : Int), .int .i64 (n : Int)] w fun e w' => e = .returned (.int .u64 (r : Int)) ∧ w = w' := by
  have hw : IntKind.u64.wrap ((a : Int) + (n : Int)) = ((a + n : Nat) : Int) := by rw [IntKind.wrap_u64]; omega
  have hc : IntKind.u64.wrap (n : Int) = (n : Int) := by rw [IntKind.wrap_u64]; omega
  by_cases h : 4611686018427387904 < a + n
  · have hb : decide ((4611686018427387904 : Int) < ((a + n : Nat) : Int)) = true := by simp only [decide_eq_true_eq]; omega
    obtain rfl : r = 4611686018427387904 := by omega
    generalize a + n = q at hw hb
    clear h hr ha hn
    go_enter Try.func39, Try.ntmps39
    go_wp2_with fail
    go_ret
    exact ⟨rfl, rfl⟩
  · have hb : decide ((4611686018427387904 : Int) < ((a + n : Nat) : Int)) = false := by simp only [decide_eq_false_iff_not]; omega
    obtain rfl : r = a + n := by omega
    generalize a + n = q at hw hb
    clear h ha hn
    go_enter Try.func39, Try.ntmps39
    go_wp2_with fail
    go_ret
    exact ⟨rfl, rfl⟩

section
variable {ops : Array Oper} {a : Act} {o : Oper} {x y : Operand} {R : World → Prop}
theorem loadN_y (g k : Nat) (n : Int) (hR : ∀ u, R u → u.cell? ⟨g, k, none⟩ = some (.int .u64 n)) (ho : o.op = .load 49 x) (hx : a.eval x = .pointer (some ⟨g, k, none⟩)) (hw : Region.wanted o (yielded ops a.tmps) = true) : YieldsIf Try.prog ops R o (.int .u64 n) a := by
  refine Or.inl ⟨hw, fun u h => ?_⟩
  have hc := hR u h
  unfold execOp
  simp only [ho, hx]
  go_simp
theorem loadX_y (g k n : Nat) (hR : ∀ u, R u → u.cell? ⟨g, k, none⟩ = some (.float .f64 n)) (ho : o.op = .load 22 x) (hx : a.eval x = .pointer (some ⟨g, k, none⟩)) (hw : Region.wanted o (yielded ops a.tmps) = true) : YieldsIf Try.prog ops R o (.float .f64 n) a := by
  refine Or.inl ⟨hw, fun u h => ?_⟩
  have hc := hR u h
  unfold execOp
  simp only [ho, hx]
  go_simp
theorem fl_of (n : Nat) : floatOfInt .f64 (n : Int) = fl n := by
  unfold floatOfInt fl
  have h : decide ((n : Int) < 0) = false := by simp
  show Ieee.double.write (.number (decide ((n : Int) < 0)) (n : Int).natAbs 0) = _
  rw [h, Int.natAbs_natCast]
  rfl
theorem conv64_y (n : Nat) (ho : o.op = .convert 49 22 x) (hx : a.eval x = .int .u64 (n : Int)) (hw : Region.wanted o (yielded ops a.tmps) = true) : YieldsIf Try.prog ops R o (.float .f64 (fl n)) a := by
  refine Or.inl ⟨hw, fun u _ => ?_⟩
  have hc := run_convert_int_float (P := Try.prog) u 49 22 .u64 .f64 (n : Int) (by kernel_rfl) Try.underlying22
  rw [fl_of] at hc
  unfold execOp
  simp only [ho, hx]
  simp [hc]
theorem leqF_y (m n : Nat) (ho : o.op = .binOp .leq 22 x y 22) (hx : a.eval x = .float .f64 (fl m)) (hy : a.eval y = .float .f64 n) (hw : Region.wanted o (yielded ops a.tmps) = true) : YieldsIf Try.prog ops R o (.bool (allowB m n)) a := by
  refine Or.inl ⟨hw, fun w _ => ?_⟩
  unfold execOp allowB
  simp only [ho, hx, hy]
  go_simp
end

set_option maxHeartbeats 1000000 in
theorem rstep_any (p s r st h pk : Nat) (n : Int) (w : World) (m : Met w p s r st h pk) (hst : st ≤ 4611686018427387904) (n1 : n < 9223372036854775808) :
    Calls Try.prog 23 #[.pointer (some ⟨p, 0, none⟩), .int .i64 n] w fun e w' => e = .returned (.bool (allowB (stepN st n) s)) ∧ Met w' p s r (stepN st n) h pk ∧ But p w w' := by
  obtain ⟨c0, c1, c2, c3, c4⟩ := m.cells
  have f := m.free
  have M := Lib.hid m
  clear m
  by_cases hn : 0 < n
  · obtain ⟨k, rfl⟩ : ∃ k : Nat, n = k := ⟨n.toNat, by omega⟩
    have hb : 0 < k := by omega
    obtain ⟨q, hq⟩ : ∃ q, q = min (st + k) 4611686018427387904 := ⟨_, rfl⟩
    have hs : stepN st k = q := by unfold stepN; rw [if_pos hn, hq]; rfl
    rw [hs]
    have HQ := Lib.hid hq
    have HST := Lib.hid hst
    have HK := Lib.hid (show k < 9223372036854775808 by omega)
    clear hn n1 hst hq hs
    go_enter Try.func23, Try.ntmps23
    go_wp2_with fail
    refine (rmore_any st k q _ HST.out HK.out HQ.out).mono ?_
    rintro e w1 ⟨rfl, rfl⟩
    have M2 := Lib.hid (M.out.setStep q)
    go_wp2_with fail
    have hS : Met (w.setCell ⟨p, 2, none⟩ (.int .u64 (q : Int))).drew p s r q h pk := M2.out
    refine wp_region_held_drew (S := fun u => Met u p s r q h pk) (by kernel_rfl) hS (fun _ => ?_)
    refine takeAt 0 16 (.pointer (some ⟨p, 0, none⟩)) rfl rfl (by kernel_rfl) (by kernel_rfl) (by kernel_rfl) (fun _ _ _ h => h) (yields (by rfl) (fun w => by kernel_rfl)) hS ?_
    simp only [Act.put, List.setIfInBounds_toArray, List.set_cons_zero, List.set_cons_succ]
    refine takeAt 1 17 (.pointer (some ⟨p, 0, none⟩)) rfl rfl (by kernel_rfl) (by kernel_rfl) (by kernel_rfl) (fun _ _ _ h => h) (yields (by rfl) (fun w => by kernel_rfl)) hS ?_
    simp only [Act.put, List.setIfInBounds_toArray, List.set_cons_zero, List.set_cons_succ]
    refine takeAt 2 18 (.pointer (some ⟨p, 2, none⟩)) rfl rfl (by kernel_rfl) (by kernel_rfl) (by kernel_rfl) (fun _ _ _ h => h) (yields (by rfl) (fun w => by kernel_rfl)) hS ?_
    simp only [Act.put, List.setIfInBounds_toArray, List.set_cons_zero, List.set_cons_succ]
    refine takeAt 3 19 (.int .u64 (q : Int)) rfl rfl (by kernel_rfl) (by kernel_rfl) (by kernel_rfl) (fun _ _ _ h => h) (loadN_y p 2 _ (fun _ h => h.cells.2.2.1) rfl rfl (by rfl)) hS ?_
    simp only [Act.put, List.setIfInBounds_toArray, List.set_cons_zero, List.set_cons_succ]
    refine takeAt 4 20 (.float .f64 (fl q)) rfl rfl (by kernel_rfl) (by kernel_rfl) (by kernel_rfl) (fun _ _ _ h => h) (conv64_y q rfl rfl (by rfl)) hS ?_
    simp only [Act.put, List.setIfInBounds_toArray, List.set_cons_zero, List.set_cons_succ]
    refine takeAt 5 21 (.pointer (some ⟨p, 0, none⟩)) rfl rfl (by kernel_rfl) (by kernel_rfl) (by kernel_rfl) (fun _ _ _ h => h) (yields (by rfl) (fun w => by kernel_rfl)) hS ?_
    simp only [Act.put, List.setIfInBounds_toArray, List.set_cons_zero, List.set_cons_succ]
    refine takeAt 6 22 (.pointer (some ⟨p, 0, none⟩)) rfl rfl (by kernel_rfl) (by kernel_rfl) (by kernel_rfl) (fun _ _ _ h => h) (yields (by rfl) (fun w => by kernel_rfl)) hS ?_
    simp only [Act.put, List.setIfInBounds_toArray, List.set_cons_zero, List.set_cons_succ]
    refine takeAt 7 23 (.pointer (some ⟨p, 0, none⟩)) rfl rfl (by kernel_rfl) (by kernel_rfl) (by kernel_rfl) (fun _ _ _ h => h) (yields (by rfl) (fun w => by kernel_rfl)) hS ?_
    simp only [Act.put, List.setIfInBounds_toArray, List.set_cons_zero, List.set_cons_succ]
    refine takeAt 8 24 (.pointer (some ⟨p, 0, none⟩)) rfl rfl (by kernel_rfl) (by kernel_rfl) (by kernel_rfl) (fun _ _ _ h => h) (yields (by rfl) (fun w => by kernel_rfl)) hS ?_
    simp only [Act.put, List.setIfInBounds_toArray, List.set_cons_zero, List.set_cons_succ]
    refine takeAt 9 25 (.float .f64 s) rfl rfl (by kernel_rfl) (by kernel_rfl) (by kernel_rfl) (fun _ _ _ h => h) (loadX_y p 0 _ (fun _ h => h.cells.1) rfl rfl (by rfl)) hS ?_
    simp only [Act.put, List.setIfInBounds_toArray, List.set_cons_zero, List.set_cons_succ]
    refine takeAt 10 26 (.bool (allowB q s)) rfl rfl (by kernel_rfl) (by kernel_rfl) (by kernel_rfl) (fun _ _ _ h => h) (leqF_y _ _ rfl rfl rfl (by rfl)) hS ?_
    simp only [Act.put, List.setIfInBounds_toArray, List.set_cons_zero, List.set_cons_succ]
    refine takeAt 11 4 (.bool (allowB q s)) rfl rfl (by kernel_rfl) (by kernel_rfl) (by kernel_rfl) (fun _ _ _ h => h) (yields (by rfl) (fun w => by kernel_rfl)) hS ?_
    simp only [Act.put, List.setIfInBounds_toArray, List.set_cons_zero, List.set_cons_succ]
    refine wpAnyH_done (by kernel_rfl) ?_ _
    clear hS c0 c1 c2 c3 c4
    go_wp2_with fail
    go_ret
    exact ⟨rfl, M2.out, (But.setCell p 2 w _).trans (But.drew p _)⟩
  · have hs : stepN st n = st := by unfold stepN; rw [if_neg hn]
    rw [hs]
    have hb : decide ((0 : Int) < n) = false := by simp only [decide_eq_false_iff_not]; exact hn
    clear hn n1 hst hs
    go_enter Try.func23, Try.ntmps23
    go_wp2_with fail
    have hS : Met w.drew p s r st h pk := M.out
    refine wp_region_held_drew (S := fun u => Met u p s r st h pk) (by kernel_rfl) hS (fun _ => ?_)
    refine takeAt 0 16 (.pointer (some ⟨p, 0, none⟩)) rfl rfl (by kernel_rfl) (by kernel_rfl) (by kernel_rfl) (fun _ _ _ h => h) (yields (by rfl) (fun w => by kernel_rfl)) hS ?_
    simp only [Act.put, List.setIfInBounds_toArray, List.set_cons_zero, List.set_cons_succ]
    refine takeAt 1 17 (.pointer (some ⟨p, 0, none⟩)) rfl rfl (by kernel_rfl) (by kernel_rfl) (by kernel_rfl) (fun _ _ _ h => h) (yields (by rfl) (fun w => by kernel_rfl)) hS ?_
    simp only [Act.put, List.setIfInBounds_toArray, List.set_cons_zero, List.set_cons_succ]
    refine takeAt 2 18 (.pointer (some ⟨p, 2, none⟩)) rfl rfl (by kernel_rfl) (by kernel_rfl) (by kernel_rfl) (fun _ _ _ h => h) (yields (by rfl) (fun w => by kernel_rfl)) hS ?_
    simp only [Act.put, List.setIfInBounds_toArray, List.set_cons_zero, List.set_cons_succ]
    refine takeAt 3 19 (.int .u64 (st : Int)) rfl rfl (by kernel_rfl) (by kernel_rfl) (by kernel_rfl) (fun _ _ _ h => h) (loadN_y p 2 _ (fun _ h => h.cells.2.2.1) rfl rfl (by rfl)) hS ?_
    simp only [Act.put, List.setIfInBounds_toArray, List.set_cons_zero, List.set_cons_succ]
    refine takeAt 4 20 (.float .f64 (fl st)) rfl rfl (by kernel_rfl) (by kernel_rfl) (by kernel_rfl) (fun _ _ _ h => h) (conv64_y st rfl rfl (by rfl)) hS ?_
    simp only [Act.put, List.setIfInBounds_toArray, List.set_cons_zero, List.set_cons_succ]
    refine takeAt 5 21 (.pointer (some ⟨p, 0, none⟩)) rfl rfl (by kernel_rfl) (by kernel_rfl) (by kernel_rfl) (fun _ _ _ h => h) (yields (by rfl) (fun w => by kernel_rfl)) hS ?_
    simp only [Act.put, List.setIfInBounds_toArray, List.set_cons_zero, List.set_cons_succ]
    refine takeAt 6 22 (.pointer (some ⟨p, 0, none⟩)) rfl rfl (by kernel_rfl) (by kernel_rfl) (by kernel_rfl) (fun _ _ _ h => h) (yields (by rfl) (fun w => by kernel_rfl)) hS ?_
    simp only [Act.put, List.setIfInBounds_toArray, List.set_cons_zero, List.set_cons_succ]
    refine takeAt 7 23 (.pointer (some ⟨p, 0, none⟩)) rfl rfl (by kernel_rfl) (by kernel_rfl) (by kernel_rfl) (fun _ _ _ h => h) (yields (by rfl) (fun w => by kernel_rfl)) hS ?_
    simp only [Act.put, List.setIfInBounds_toArray, List.set_cons_zero, List.set_cons_succ]
    refine takeAt 8 24 (.pointer (some ⟨p, 0, none⟩)) rfl rfl (by kernel_rfl) (by kernel_rfl) (by kernel_rfl) (fun _ _ _ h => h) (yields (by rfl) (fun w => by kernel_rfl)) hS ?_
    simp only [Act.put, List.setIfInBounds_toArray, List.set_cons_zero, List.set_cons_succ]
    refine takeAt 9 25 (.float .f64 s) rfl rfl (by kernel_rfl) (by kernel_rfl) (by kernel_rfl) (fun _ _ _ h => h) (loadX_y p 0 _ (fun _ h => h.cells.1) rfl rfl (by rfl)) hS ?_
    simp only [Act.put, List.setIfInBounds_toArray, List.set_cons_zero, List.set_cons_succ]
    refine takeAt 10 26 (.bool (allowB st s)) rfl rfl (by kernel_rfl) (by kernel_rfl) (by kernel_rfl) (fun _ _ _ h => h) (leqF_y _ _ rfl rfl rfl (by rfl)) hS ?_
    simp only [Act.put, List.setIfInBounds_toArray, List.set_cons_zero, List.set_cons_succ]
    refine takeAt 11 4 (.bool (allowB st s)) rfl rfl (by kernel_rfl) (by kernel_rfl) (by kernel_rfl) (fun _ _ _ h => h) (yields (by rfl) (fun w => by kernel_rfl)) hS ?_
    simp only [Act.put, List.setIfInBounds_toArray, List.set_cons_zero, List.set_cons_succ]
    refine wpAnyH_done (by kernel_rfl) ?_ _
    clear hS c0 c1 c2 c3 c4
    go_wp2_with fail
    go_ret
    exact ⟨rfl, M.out, But.drew p _⟩
end Go.Proofs.Ytaobbdmkkehpnaa
