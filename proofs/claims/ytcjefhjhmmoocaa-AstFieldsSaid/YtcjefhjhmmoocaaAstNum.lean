/-
  Layer 5: numbers of bytes, cut.
-/
import Derived.Test.YtcjefhjhmmoocaaAstNode
namespace Go.Proofs.Ytcjefhjhmmoocaa
open Go.RowKit


/-- A sum, cut; -1 is without end. -/
def plusZ (a b : Int) : Int := if a < 0 ∨ b < 0 then -1 else min (a + b) 1048576
/-- As often. -/
def timesZ (a k : Int) : Int := if a = 0 ∨ k = 0 then 0 else if a < 0 ∨ k < 0 then -1 else min (a * k) 1048576
theorem rplus_any (a b : Int) (w : World) (ha : a ≤ 1048576) (hb : b ≤ 1048576) : Calls Try.prog 22 #[.int .i64 a, .int .i64 b] w fun e w' => e = .returned (.int .i64 (plusZ a b)) ∧ w = w' := by
  by_cases h1 : a < 0
  · go_enter Try.func22, Try.ntmps22
    go_wp2
    go_ret
    exact ⟨ret_i (by unfold plusZ; simp_all), rfl⟩
  · by_cases h2 : b < 0
    · go_enter Try.func22, Try.ntmps22
      go_wp2
      go_ret
      exact ⟨ret_i (by unfold plusZ; simp_all), rfl⟩
    · have a0 : 0 ≤ a := by omega
      have b0 : 0 ≤ b := by omega
      go_enter Try.func22, Try.ntmps22
      go_wp2
      all_goals
        go_ret
        exact ⟨ret_i (by unfold plusZ; simp_all <;> omega), rfl⟩


theorem sum_any (a b : Int) (w : World) (ha : -1 ≤ a ∧ a ≤ 1048576) (hb : -1 ≤ b ∧ b ≤ 1048576) : Calls Try.prog 42 #[.int .i64 a, .int .i64 b] w fun e w' => e = .returned (.int .i64 (plusZ a b)) ∧ w = w' := by
  obtain ⟨ha, ha'⟩ := ha
  obtain ⟨hb, hb'⟩ := hb
  by_cases h1 : a = -1
  · subst h1
    go_enter Try.func42, Try.ntmps42
    go_wp2
    go_ret
    exact ⟨ret_i (by unfold plusZ; simp), rfl⟩
  · by_cases h2 : b = -1
    · subst h2
      have q1 : (a == -1) = false := by simpa using h1
      go_enter Try.func42, Try.ntmps42
      go_wp2
      go_ret
      exact ⟨ret_i (by unfold plusZ; simp), rfl⟩
    · have q1 : (a == -1) = false := by simpa using h1
      have q2 : (b == -1) = false := by simpa using h2
      have a0 : 0 ≤ a := by omega
      have b0 : 0 ≤ b := by omega
      clear h1 h2 ha hb
      go_enter Try.func42, Try.ntmps42
      go_wp2
      all_goals
        go_ret
        exact ⟨ret_i (by unfold plusZ; rw [if_neg (by omega)]; omega), rfl⟩
/-- The greater one; -1 is without end. -/
def moreZ (a b : Int) : Int := if a < 0 ∨ b < 0 then -1 else max a b
theorem greater_any (a b : Int) (w : World) (ha : -1 ≤ a ∧ a ≤ 1048576) (hb : -1 ≤ b ∧ b ≤ 1048576) : Calls Try.prog 43 #[.int .i64 a, .int .i64 b] w fun e w' => e = .returned (.int .i64 (moreZ a b)) ∧ w = w' := by
  obtain ⟨ha, ha'⟩ := ha
  obtain ⟨hb, hb'⟩ := hb
  by_cases h1 : a = -1
  · subst h1
    go_enter Try.func43, Try.ntmps43
    go_wp2
    go_ret
    exact ⟨ret_i (by unfold moreZ; simp), rfl⟩
  · by_cases h2 : b = -1
    · subst h2
      have q1 : (a == -1) = false := by simpa using h1
      go_enter Try.func43, Try.ntmps43
      go_wp2
      go_ret
      exact ⟨ret_i (by unfold moreZ; simp), rfl⟩
    · have q1 : (a == -1) = false := by simpa using h1
      have q2 : (b == -1) = false := by simpa using h2
      have a0 : 0 ≤ a := by omega
      have b0 : 0 ≤ b := by omega
      clear h1 h2 ha hb
      go_enter Try.func43, Try.ntmps43
      go_wp2
      all_goals
        go_ret
        exact ⟨ret_i (by unfold moreZ; rw [if_neg (by omega)]; omega), rfl⟩
theorem times_any (a k : Int) (w : World) (ha : -1 ≤ a ∧ a ≤ 1048576) (hk : -1 ≤ k ∧ k ≤ 100) : Calls Try.prog 44 #[.int .i64 a, .int .i64 k] w fun e w' => e = .returned (.int .i64 (timesZ a k)) ∧ w = w' := by
  obtain ⟨ha, ha'⟩ := ha
  obtain ⟨hk, hk'⟩ := hk
  by_cases h1 : a = 0
  · subst h1
    go_enter Try.func44, Try.ntmps44
    go_wp2
    go_ret
    exact ⟨ret_i (by unfold timesZ; simp), rfl⟩
  · by_cases h2 : k = 0
    · subst h2
      have q1 : (a == 0) = false := by simpa using h1
      clear h1
      go_enter Try.func44, Try.ntmps44
      go_wp2
      go_ret
      exact ⟨ret_i (by unfold timesZ; simp), rfl⟩
    · have q1 : (a == 0) = false := by simpa using h1
      have q2 : (k == 0) = false := by simpa using h2
      by_cases h3 : a = -1
      · subst h3
        clear h1 h2
        go_enter Try.func44, Try.ntmps44
        go_wp2
        go_ret
        exact ⟨ret_i (by unfold timesZ; simp_all), rfl⟩
      · by_cases h4 : k = -1
        · subst h4
          have q3 : (a == -1) = false := by simpa using h3
          clear h1 h2 h3
          go_enter Try.func44, Try.ntmps44
          go_wp2
          go_ret
          exact ⟨ret_i (by unfold timesZ; simp_all), rfl⟩
        · have q3 : (a == -1) = false := by simpa using h3
          have q4 : (k == -1) = false := by simpa using h4
          have a0 : 0 < a := by omega
          have k0 : 0 < k := by omega
          obtain ⟨m, hm⟩ : ∃ m, m = a * k := ⟨_, rfl⟩
          have m0 : 0 ≤ m := by rw [hm]; exact Int.mul_nonneg (by omega) (by omega)
          have m1 : m ≤ 104857600 := by
            rw [hm]
            exact Int.le_trans (Int.mul_le_mul_of_nonneg_right ha' (by omega)) (by omega)
          have wm : wrap64 (a * k) = m := by rw [← hm, wrap64]; omega
          have HV := Lib.hid (show timesZ a k = min m 1048576 by unfold timesZ; rw [if_neg (by omega), if_neg (by omega), ← hm])
          clear h1 h2 h3 h4 ha hk hm
          go_enter Try.func44, Try.ntmps44
          go_wp2
          all_goals
            go_ret
            exact ⟨ret_i (by rw [HV.out]; omega), rfl⟩
theorem rtimes_any (a k : Int) (w : World) (ha : -1 ≤ a ∧ a ≤ 1048576) (hk : -1 ≤ k ∧ k ≤ 100) : Calls Try.prog 45 #[.int .i64 a, .int .i64 k] w fun e w' => e = .returned (.int .i64 (timesZ a k)) ∧ w = w' := by
  obtain ⟨ha, ha'⟩ := ha
  obtain ⟨hk, hk'⟩ := hk
  by_cases h1 : a = 0
  · subst h1
    go_enter Try.func45, Try.ntmps45
    go_wp2
    go_ret
    exact ⟨ret_i (by unfold timesZ; simp), rfl⟩
  · by_cases h2 : k = 0
    · subst h2
      have q1 : (a == 0) = false := by simpa using h1
      clear h1
      go_enter Try.func45, Try.ntmps45
      go_wp2
      go_ret
      exact ⟨ret_i (by unfold timesZ; simp), rfl⟩
    · have q1 : (a == 0) = false := by simpa using h1
      have q2 : (k == 0) = false := by simpa using h2
      by_cases h3 : a < 0
      · clear h1 h2
        go_enter Try.func45, Try.ntmps45
        go_wp2
        go_ret
        exact ⟨ret_i (by unfold timesZ; simp_all), rfl⟩
      · by_cases h4 : k < 0
        · clear h1 h2
          go_enter Try.func45, Try.ntmps45
          go_wp2
          go_ret
          exact ⟨ret_i (by unfold timesZ; simp_all), rfl⟩
        · have a0 : 0 < a := by omega
          have k0 : 0 < k := by omega
          obtain ⟨m, hm⟩ : ∃ m, m = a * k := ⟨_, rfl⟩
          have m0 : 0 ≤ m := by rw [hm]; exact Int.mul_nonneg (by omega) (by omega)
          have m1 : m ≤ 104857600 := by
            rw [hm]
            exact Int.le_trans (Int.mul_le_mul_of_nonneg_right ha' (by omega)) (by omega)
          have wm : wrap64 (a * k) = m := by rw [← hm, wrap64]; omega
          have HV := Lib.hid (show timesZ a k = min m 1048576 by unfold timesZ; rw [if_neg (by omega), if_neg (by omega), ← hm])
          clear h1 h2 ha hk hm
          go_enter Try.func45, Try.ntmps45
          go_wp2
          all_goals
            go_ret
            exact ⟨ret_i (by rw [HV.out]; omega), rfl⟩
end Go.Proofs.Ytcjefhjhmmoocaa
