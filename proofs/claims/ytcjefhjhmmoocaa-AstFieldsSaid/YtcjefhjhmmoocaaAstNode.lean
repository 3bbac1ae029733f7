/-
  Layer 5: a node as data, a node in memory, and what the smallest functions over nodes do.
-/
import Derived.Test.YtcjefhjhmmoocaaProg
import Derived.WalkSpells
import Derived.WalkLawsBesides
import Derived.Handy
import Derived.Lib.Hide
import Derived.Laws.StructEq
import Derived.ChangeKeysEq
namespace Go.Proofs.Ytcjefhjhmmoocaa
open Go.RowKit

theorem thenB {B : Nat} {w u v : World} (h : Below B w u) (hb : Below u.heap.size u v) (hB : B ≤ u.heap.size) : Below B w v := h.trans (hb.mono hB)

/-- A node. -/
structure Nd where
  k : Int
  a : Int
  b : Int
  s0 : Int
  s1 : Int
  s2 : Int
  s3 : Int
  mn : Int
  mx : Int
  md : Int
  n : Int
  f : Bool
deriving DecidableEq
/-- A node as a value. -/
abbrev ndV (x : Nd) : Value := .agg #[.int .i64 x.k, .int .i64 x.a, .int .i64 x.b, .int .u64 x.s0, .int .u64 x.s1, .int .u64 x.s2, .int .u64 x.s3, .int .i64 x.mn, .int .i64 x.mx, .int .i64 x.md, .int .i64 x.n, .bool x.f]

/-- How many children a kind has. -/
def kidsZ (k : Int) : Int := if k = 8 ∨ k = 9 then 2 else if k = 10 ∨ k = 11 ∨ 13 ≤ k ∧ k ≤ 17 then 1 else 0


theorem ret_i {a b : Int} (h : a = b) : Ending.returned (.int .i64 a) = .returned (.int .i64 b) := by rw [h]
theorem ret_b {a b : Bool} (h : a = b) : Ending.returned (.bool a) = .returned (.bool b) := by rw [h]

theorem rkids_any (k : Int) (w : World) : Calls Try.prog 47 #[.int .i64 k] w fun e w' => e = .returned (.int .i64 (kidsZ k)) ∧ w = w' := by
  go_enter Try.func47, Try.ntmps47
  go_wp2
  all_goals
    go_ret
    exact ⟨ret_i (by unfold kidsZ; simp_all <;> omega), rfl⟩

theorem children_any (k : Int) (w : World) : Calls Try.prog 49 #[.int .i64 k] w fun e w' => e = .returned (.int .i64 (kidsZ k)) ∧ w = w' := by
  go_enter Try.func49, Try.ntmps49
  go_wp2
  all_goals
    go_ret
    exact ⟨ret_i (by unfold kidsZ; simp_all <;> omega), rfl⟩

theorem one_any (x : Nd) (w : World) : Calls Try.prog 26 #[ndV x] w fun e w' => e = .returned (ndV x) ∧ Below w.heap.size w w' := by
  go_enter Try.func26, Try.ntmps26
  go_wp2_with fail
  exact bodyPost_ret (v := ndV x) (by simp [results, Try.results26, go_sem]) rfl ⟨rfl, by go_grown⟩

/-- A node moved on. -/
def mvN (x : Nd) (n : Int) : Nd := if kidsZ x.k = 2 then { x with a := wrap64 (x.a + n), b := wrap64 (x.b + n) } else if kidsZ x.k = 1 then { x with a := wrap64 (x.a + n) } else x
theorem moved_any (x : Nd) (n : Int) (w : World) : Calls Try.prog 39 #[ndV x, .int .i64 n] w fun e w' => e = .returned (ndV (mvN x n)) ∧ Below w.heap.size w w' := by
  unfold mvN
  obtain ⟨k, hk⟩ : ∃ k, k = kidsZ x.k := ⟨_, rfl⟩
  rw [← hk]
  have HK := Lib.hid hk
  clear hk
  by_cases h2 : k = 2
  · subst h2
    rw [if_pos rfl]
    go_enter Try.func39, Try.ntmps39
    go_wp2_with fail
    refine (children_any _ _).mono ?_
    rintro e w' ⟨rfl, rfl⟩
    rw [← HK.out]
    go_wp2_with fail
    exact bodyPost_ret (v := ndV _) (by simp [results, Try.results39, go_sem]) rfl ⟨rfl, by go_grown⟩
  · rw [if_neg h2]
    by_cases h1 : k = 1
    · subst h1
      rw [if_pos rfl]
      clear h2
      go_enter Try.func39, Try.ntmps39
      go_wp2_with fail
      refine (children_any _ _).mono ?_
      rintro e w' ⟨rfl, rfl⟩
      rw [← HK.out]
      go_wp2_with fail
      exact bodyPost_ret (v := ndV _) (by simp [results, Try.results39, go_sem]) rfl ⟨rfl, by go_grown⟩
    · rw [if_neg h1]
      have q2 : (k == 2) = false := by simpa using h2
      have q1 : (k == 1) = false := by simpa using h1
      clear h1 h2
      go_enter Try.func39, Try.ntmps39
      go_wp2_with fail
      refine (children_any _ _).mono ?_
      rintro e w' ⟨rfl, rfl⟩
      rw [← HK.out]
      go_wp2_with fail
      exact bodyPost_ret (v := ndV _) (by simp [results, Try.results39, go_sem]) rfl ⟨rfl, by go_grown⟩
theorem cellsW : Try.prog.cellsOf 40 = 1 := by kernel_rfl
@[go_sem] theorem eqArr (m : Nat) (a b c d a' b' c' d' : Int) (w : World) : (Op.equalIn (m + 2) 41 (.agg #[.int .u64 a, .int .u64 b, .int .u64 c, .int .u64 d]) (.agg #[.int .u64 a', .int .u64 b', .int .u64 c', .int .u64 d'])).run Try.prog w = .ok (decide (a = a' ∧ b = b' ∧ c = c' ∧ d = d')) w := by
  obtain ⟨i, hi⟩ : ∃ i, Try.prog.info? 40 = some i := Option.isSome_iff_exists.1 (by kernel_rfl)
  rw [show m + 2 = (m + 1) + 1 from rfl, run_equalIn_array w (m + 1) _ _ Try.underlying41 hi, cellsW]
  show (Op.eqItems (m + 1) 40 1 _ _ [0, 1, 2, 3]).run Try.prog w = _
  simp [go_sem, Op.eqItems]
  by_cases h1 : a = a' <;> by_cases h2 : b = b' <;> by_cases h3 : c = c' <;> by_cases h4 : d = d' <;> simp [h1, h2, h3, h4]
@[go_sem high] theorem neqArr (a b c d : Int) (w : World) : (binOp .neq 41 (.agg #[.int .u64 a, .int .u64 b, .int .u64 c, .int .u64 d]) (.agg #[.int .u64 0, .int .u64 0, .int .u64 0, .int .u64 0])).run Try.prog w = .ok (.bool (!decide (a = 0 ∧ b = 0 ∧ c = 0 ∧ d = 0))) w := by
  rw [run_neq_struct, eqArr 9998]
  rfl
theorem Nd.ext_iff' (x y : Nd) : x = y ↔ x.k = y.k ∧ x.a = y.a ∧ x.b = y.b ∧ (x.s0 = y.s0 ∧ x.s1 = y.s1 ∧ x.s2 = y.s2 ∧ x.s3 = y.s3) ∧ x.mn = y.mn ∧ x.mx = y.mx ∧ x.md = y.md ∧ x.n = y.n ∧ x.f = y.f := by
  cases x; cases y; simp [and_assoc]
theorem eqNode (x y : Nd) (w : World) : (Op.equalIn 10000 45 (ndV x) (ndV y)).run Try.prog w = .ok (decide (x = y)) w := by
  have hs : decide (x = y) = decide (x.k = y.k ∧ x.a = y.a ∧ x.b = y.b ∧ (x.s0 = y.s0 ∧ x.s1 = y.s1 ∧ x.s2 = y.s2 ∧ x.s3 = y.s3) ∧ x.mn = y.mn ∧ x.mx = y.mx ∧ x.md = y.md ∧ x.n = y.n ∧ x.f = y.f) := by simp only [Nd.ext_iff' x y]
  rw [hs]
  simp [go_sem]
  rcases Decidable.em (x.k = y.k) with h1 | h1
  · rcases Decidable.em (x.a = y.a) with h2 | h2
    · rcases Decidable.em (x.b = y.b) with h3 | h3
      · rcases Decidable.em (x.s0 = y.s0 ∧ x.s1 = y.s1 ∧ x.s2 = y.s2 ∧ x.s3 = y.s3) with h4 | h4
        · simp [h1, h2, h3, h4]
          by_cases h5 : x.mn = y.mn <;> by_cases h6 : x.mx = y.mx <;> by_cases h7 : x.md = y.md <;> by_cases h8 : x.n = y.n <;> by_cases h9 : x.f = y.f <;> simp [h5, h6, h7, h8, h9]
        · have h5 : decide (x.s0 = y.s0 ∧ x.s1 = y.s1 ∧ x.s2 = y.s2 ∧ x.s3 = y.s3) = false := decide_eq_false h4
          have h6 : x.s0 = y.s0 → x.s1 = y.s1 → x.s2 = y.s2 → ¬x.s3 = y.s3 := fun a b c d => h4 ⟨a, b, c, d⟩
          rw [if_pos h1, if_pos h2, if_pos h3, if_pos h6]
          simp only [Bool.decide_and] at h5
          rw [h5]
          simp
      · simp [h1, h2, h3]
    · simp [h1, h2]
  · simp [h1]
@[go_sem high] theorem neqNode (x y : Nd) (w : World) : (binOp .neq 45 (ndV x) (ndV y)).run Try.prog w = .ok (.bool (!decide (x = y))) w := by
  rw [run_neq_struct, eqNode]
  rfl
@[go_sem high] theorem eqlNode (x y : Nd) (w : World) : (binOp .eql 45 (ndV x) (ndV y)).run Try.prog w = .ok (.bool (decide (x = y))) w := by
  rw [run_eql_struct, eqNode]
  rfl
/-- May a node's kind and numbers be? -/
def mayB (x : Nd) : Bool := if x.k = 10 then decide ((x.mx = -1 ∨ x.mn ≤ x.mx ∧ x.mx ≤ 100) ∧ 0 ≤ x.mn ∧ x.mn ≤ 100 ∧ 0 ≤ x.md ∧ x.md ≤ 2) else decide (0 ≤ x.k ∧ x.k < 18)
theorem may_any (x : Nd) (w : World) : Calls Try.prog 57 #[ndV x] w fun e w' => e = .returned (.bool (mayB x)) ∧ Below w.heap.size w w' := by
  go_enter Try.func57, Try.ntmps57
  go_wp2
  all_goals
    go_ret
    exact ⟨ret_b (by unfold mayB; simp_all <;> omega), by go_grown⟩

end Go.Proofs.Ytcjefhjhmmoocaa
