import Derived.Test.YteiboobdhjdjkaaGreatDoorAstD
namespace Go.Proofs.YteiboobdhjdjkaaGreatDoor.Ast
open Go.RowKit
theorem eqNode53 (x y : Nd) (w : World) : (Op.equalIn 10000 98 (ndV x) (ndV y)).run Tryz.prog w = .ok (decide (x = y)) w := by
 have hs : decide (x = y) = decide (x.k = y.k ∧ x.a = y.a ∧ x.b = y.b ∧ (x.s0 = y.s0 ∧ x.s1 = y.s1 ∧ x.s2 = y.s2 ∧ x.s3 = y.s3) ∧ x.mn = y.mn ∧ x.mx = y.mx ∧ x.md = y.md ∧ x.n = y.n ∧ x.f = y.f) := by simp only [Nd.ext_iff' x y]
 rw [hs]
 simp [go_sem]
 rcases Decidable.em (x.k = y.k) with h1 | h1
 ·rcases Decidable.em (x.a = y.a) with h2 | h2
  ·rcases Decidable.em (x.b = y.b) with h3 | h3
   ·rcases Decidable.em (x.s0 = y.s0 ∧ x.s1 = y.s1 ∧ x.s2 = y.s2 ∧ x.s3 = y.s3) with h4 | h4
    ·simp [h1, h2, h3, h4]
     by_cases h5 : x.mn = y.mn <;> by_cases h6 : x.mx = y.mx <;> by_cases h7 : x.md = y.md <;> by_cases h8 : x.n = y.n <;> by_cases h9 : x.f = y.f <;> simp [h5, h6, h7, h8, h9]
    ·have h5 : decide (x.s0 = y.s0 ∧ x.s1 = y.s1 ∧ x.s2 = y.s2 ∧ x.s3 = y.s3) = false := decide_eq_false h4
     have h6 : x.s0 = y.s0 → x.s1 = y.s1 → x.s2 = y.s2 → ¬x.s3 = y.s3 := fun a b c d => h4 ⟨a, b, c, d⟩
     rw [if_pos h1, if_pos h2, if_pos h3, if_pos h6]
     simp only [Bool.decide_and] at h5
     rw [h5]
     simp
   ·simp [h1, h2, h3]
  ·simp [h1, h2]
 ·simp [h1]
@[go_sem 10000] theorem neqNode53 (k a b s0 s1 s2 s3 mn mx md n k' a' b' s0' s1' s2' s3' mn' mx' md' n' : Int) (f f' : Bool) (w : World) :
  (binOp .neq 98 (.agg #[.int .i64 k, .int .i64 a, .int .i64 b, .int .u64 s0, .int .u64 s1, .int .u64 s2, .int .u64 s3, .int .i64 mn, .int .i64 mx, .int .i64 md, .int .i64 n, .bool f]) (.agg #[.int .i64 k', .int .i64 a', .int .i64 b', .int .u64 s0', .int .u64 s1', .int .u64 s2', .int .u64 s3', .int .i64 mn', .int .i64 mx', .int .i64 md', .int .i64 n', .bool f'])).run Tryz.prog w =
   .ok (.bool (!eqN ⟨k, a, b, s0, s1, s2, s3, mn, mx, md, n, f⟩ ⟨k', a', b', s0', s1', s2', s3', mn', mx', md', n', f'⟩)) w := by
  rw [run_neq_struct]
  have h := eqNode53 ⟨k, a, b, s0, s1, s2, s3, mn, mx, md, n, f⟩ ⟨k', a', b', s0', s1', s2', s3', mn', mx', md', n', f'⟩ w
  rw [h]
  rfl
end Go.Proofs.YteiboobdhjdjkaaGreatDoor.Ast
