/-
  Layer 10: when two groups' cells are equal.
-/
import Derived.Test.YtnapbmdbeihngaaDoorCapDef
namespace Go.Proofs.YtnapbmdbeihngaaDoor
open Go.RowKit

theorem cells1 : Tryd.prog.cellsOf 4 = 1 := by kernel_rfl
theorem cells2 : Tryd.prog.cellsOf 3 = 1 := by kernel_rfl
theorem cells3 : Tryd.prog.cellsOf 23 = 2 := by kernel_rfl
@[go_sem] theorem eqTwo (m : Nat) (a b a' b' : Int) (w : World) : (Op.equalIn (m + 2) 23 (.agg #[.int .i64 a, .int .i64 b]) (.agg #[.int .i64 a', .int .i64 b'])).run Tryd.prog w = .ok (a == a' && b == b') w := by
  obtain ⟨i, hi⟩ : ∃ i, Tryd.prog.info? 3 = some i := Option.isSome_iff_exists.1 (by kernel_rfl)
  rw [show m + 2 = (m + 1) + 1 from rfl, run_equalIn_array w (m + 1) _ _ Tryd.underlying23 hi, cells2]
  show (Op.eqItems (m + 1) 3 1 _ _ [0, 1]).run Tryd.prog w = _
  simp [go_sem, Op.eqItems]
  by_cases h1 : a = a' <;> by_cases h2 : b = b' <;> simp [h1, h2]
theorem ite_ok {p : Prop} [Decidable p] {x : Bool} {w : World} : (if p then Result.ok x w else Result.ok false w) = Result.ok (decide p && x) w := by
  by_cases h : p <;> simp [h]
theorem ite_no {p : Prop} [Decidable p] {x : Bool} {w : World} : (if p then Result.ok false w else Result.ok x w) = Result.ok (!decide p && x) w := by
  by_cases h : p <;> simp [h]
theorem beq_eq_decide' {α : Type} [DecidableEq α] (a b : α) : (a == b) = decide (a = b) := rfl
theorem eqIs (m : Nat) (a b : Nat → Bool) (w : World) : (Op.equalIn (m + 2) 22 (.agg #[.bool (a 0), .bool (a 1), .bool (a 2), .bool (a 3), .bool (a 4), .bool (a 5), .bool (a 6), .bool (a 7), .bool (a 8)]) (.agg #[.bool (b 0), .bool (b 1), .bool (b 2), .bool (b 3), .bool (b 4), .bool (b 5), .bool (b 6), .bool (b 7), .bool (b 8)])).run Tryd.prog w = .ok ((List.range 9).all fun j => a j == b j) w := by
  obtain ⟨i, hi⟩ : ∃ i, Tryd.prog.info? 4 = some i := Option.isSome_iff_exists.1 (by kernel_rfl)
  rw [show m + 2 = (m + 1) + 1 from rfl, run_equalIn_array w (m + 1) _ _ Tryd.underlying22 hi, cells1]
  show (Op.eqItems (m + 1) 4 1 _ _ [0, 1, 2, 3, 4, 5, 6, 7, 8]).run Tryd.prog w = .ok ([0, 1, 2, 3, 4, 5, 6, 7, 8].all _) w
  simp [go_sem, Op.eqItems]
  simp only [ite_ok]
  simp [beq_eq_decide']
theorem eqAt (m : Nat) (a b c d : Nat → Int) (w : World) : (Op.equalIn (m + 3) 24 (.agg #[.int .i64 (a 0), .int .i64 (b 0), .int .i64 (a 1), .int .i64 (b 1), .int .i64 (a 2), .int .i64 (b 2), .int .i64 (a 3), .int .i64 (b 3), .int .i64 (a 4), .int .i64 (b 4), .int .i64 (a 5), .int .i64 (b 5), .int .i64 (a 6), .int .i64 (b 6), .int .i64 (a 7), .int .i64 (b 7), .int .i64 (a 8), .int .i64 (b 8)]) (.agg #[.int .i64 (c 0), .int .i64 (d 0), .int .i64 (c 1), .int .i64 (d 1), .int .i64 (c 2), .int .i64 (d 2), .int .i64 (c 3), .int .i64 (d 3), .int .i64 (c 4), .int .i64 (d 4), .int .i64 (c 5), .int .i64 (d 5), .int .i64 (c 6), .int .i64 (d 6), .int .i64 (c 7), .int .i64 (d 7), .int .i64 (c 8), .int .i64 (d 8)])).run Tryd.prog w = .ok ((List.range 9).all fun j => a j == c j && b j == d j) w := by
  obtain ⟨i, hi⟩ : ∃ i, Tryd.prog.info? 23 = some i := Option.isSome_iff_exists.1 (by kernel_rfl)
  rw [show m + 3 = (m + 2) + 1 from rfl, run_equalIn_array w (m + 2) _ _ Tryd.underlying24 hi, cells3]
  show (Op.eqItems (m + 2) 23 2 _ _ [0, 1, 2, 3, 4, 5, 6, 7, 8]).run Tryd.prog w = .ok ([0, 1, 2, 3, 4, 5, 6, 7, 8].all _) w
  simp [go_sem, Op.eqItems]
  simp only [ite_no]
  simp [beq_eq_decide']
/-- Are two the same? -/
def eqC (c d : Cp) : Bool := ((List.range 9).all fun j => c.is j == d.is j) && ((List.range 9).all fun j => c.fr j == d.fr j && c.to j == d.to j)
theorem eqC_iff (c d : Cp) : eqC c d = true ↔ ∀ k, k < 9 → c.is k = d.is k ∧ c.fr k = d.fr k ∧ c.to k = d.to k := by
  unfold eqC
  rw [Bool.and_eq_true, List.all_eq_true, List.all_eq_true]
  simp only [List.mem_range, Bool.and_eq_true, beq_iff_eq]
  exact ⟨fun h k hk => ⟨h.1 k hk, h.2 k hk⟩, fun h => ⟨fun k hk => (h k hk).1, fun k hk => (h k hk).2⟩⟩
theorem eqC_refl (c : Cp) : eqC c c = true := (eqC_iff c c).2 fun _ _ => ⟨rfl, rfl, rfl⟩
theorem eqCaps (c d : Cp) (w : World) : (Op.equalIn 10000 26 (.agg (cpC c)) (.agg (cpC d))).run Tryd.prog w = .ok (eqC c d) w := by
  have h1 := eqIs 9997 c.is d.is w
  have h2 := eqAt 9996 c.fr c.to d.fr d.to w
  simp only [Nat.reduceAdd] at h1 h2
  unfold eqC
  generalize ((List.range 9).all fun j => c.is j == d.is j) = x at h1 ⊢
  generalize ((List.range 9).all fun j => c.fr j == d.fr j && c.to j == d.to j) = y at h2 ⊢
  simp [go_sem]
  simp only [h1, h2, Result.andThen_ok]
  cases x <;> cases y <;> rfl
theorem eqRef (c d : Cp) (w : World) : (Op.equalIn 10000 28 (.agg (cpC c)) (.agg (cpC d))).run Tryd.prog w = .ok (eqC c d) w := by
  have h1 := eqIs 9997 c.is d.is w
  have h2 := eqAt 9996 c.fr c.to d.fr d.to w
  simp only [Nat.reduceAdd] at h1 h2
  unfold eqC
  generalize ((List.range 9).all fun j => c.is j == d.is j) = x at h1 ⊢
  generalize ((List.range 9).all fun j => c.fr j == d.fr j && c.to j == d.to j) = y at h2 ⊢
  simp [go_sem]
  simp only [h1, h2, Result.andThen_ok]
  cases x <;> cases y <;> rfl
@[go_sem high] theorem eqlCaps (c d : Cp) (w : World) : (binOp .eql 26 (.agg (cpC c)) (.agg (cpC d))).run Tryd.prog w = .ok (.bool (eqC c d)) w := by
  rw [run_eql_struct, eqCaps]
  rfl
@[go_sem high] theorem neqCaps (c d : Cp) (w : World) : (binOp .neq 26 (.agg (cpC c)) (.agg (cpC d))).run Tryd.prog w = .ok (.bool (!eqC c d)) w := by
  rw [run_neq_struct, eqCaps]
  rfl
@[go_sem high] theorem neqRef (c d : Cp) (w : World) : (binOp .neq 28 (.agg (cpC c)) (.agg (cpC d))).run Tryd.prog w = .ok (.bool (!eqC c d)) w := by
  rw [run_neq_struct, eqRef]
  rfl
end Go.Proofs.YtnapbmdbeihngaaDoor
