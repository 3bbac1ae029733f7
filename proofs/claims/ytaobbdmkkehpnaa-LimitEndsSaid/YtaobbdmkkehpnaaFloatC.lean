/-
  Whole numbers as words: the greater one never the lesser word; below 2^53 each its own; twice and half.
-/
import Derived.Test.YtaobbdmkkehpnaaFloatB
namespace Go.Proofs.Ytaobbdmkkehpnaa
open Ieee

/-- The word of a whole number. -/
def fl (n : Nat) : Nat := double.nearest false n 0
theorem fl_zero : fl 0 = 0 := by decide
/-- What is kept of its digits. -/
def keptN (n : Nat) : Nat := Toward.even.cut false (n * 2 ^ (52 - n.log2)) (n.log2 - 52)
theorem fl_eq (n : Nat) (h : n ≠ 0) : fl n = min ((n.log2 + 1022) * 2 ^ 52 + keptN n) (2047 * 2 ^ 52) := by
  unfold fl Format.nearest
  rw [d_bin, d_inf, d_least, if_neg h]
  have hfb : ((double.fractionBits : Nat) : Int) = 52 := rfl
  simp only [hfb]
  have hlast : max ((0 : Int) + (n.log2 : Nat) - 52) (-1074) = (n.log2 : Int) - 52 := by omega
  rw [hlast, show ((0 : Int) - ((n.log2 : Int) - 52)).toNat = 52 - n.log2 by omega, show ((n.log2 : Int) - 52 - 0).toNat = n.log2 - 52 by omega, show ((n.log2 : Int) - 52 - -1074).toNat = n.log2 + 1022 by omega, Nat.shiftLeft_eq]
  unfold Format.word keptN
  rw [if_neg (by decide)]
theorem kept_ge (n : Nat) (h : n ≠ 0) : 2 ^ 52 ≤ keptN n := by
  unfold keptN
  have h1 := Nat.log2_self_le h
  by_cases hl : n.log2 ≤ 52
  · have e : n.log2 - 52 = 0 := by omega
    have h2 : 2 ^ 52 ≤ n * 2 ^ (52 - n.log2) := by
      have := Nat.mul_le_mul_right (2 ^ (52 - n.log2)) h1
      rwa [← Nat.pow_add, show n.log2 + (52 - n.log2) = 52 by omega] at this
    rw [e, cut_eq _ _ _ (by rw [Nat.pow_zero]; omega), Nat.pow_zero, Nat.div_one]
    omega
  · have e : 52 - n.log2 = 0 := by omega
    rw [e, Nat.pow_zero, Nat.mul_one, cut_eq _ _ _ (Nat.le_trans (Nat.pow_le_pow_right (by decide) (by omega)) h1)]
    have h2 : 2 ^ 52 ≤ n / 2 ^ (n.log2 - 52) := by
      rw [Nat.le_div_iff_mul_le (Nat.two_pow_pos _), ← Nat.pow_add, show 52 + (n.log2 - 52) = n.log2 by omega]
      exact h1
    omega
theorem kept_le (n : Nat) (h : n ≠ 0) : keptN n ≤ 2 ^ 53 := by
  unfold keptN
  have h1 := Nat.log2_self_le h
  have h0 := Nat.lt_log2_self (n := n)
  by_cases hl : n.log2 ≤ 52
  · have e : n.log2 - 52 = 0 := by omega
    have h2 : n * 2 ^ (52 - n.log2) < 2 ^ 53 := by
      have := Nat.mul_lt_mul_of_pos_right h0 (Nat.two_pow_pos (52 - n.log2))
      rwa [← Nat.pow_add, show n.log2 + 1 + (52 - n.log2) = 53 by omega] at this
    have hc := cut_exact false (n * 2 ^ (52 - n.log2)) 0 (Nat.mul_pos (by omega) (Nat.two_pow_pos _))
    rw [Nat.pow_zero, Nat.mul_one] at hc
    rw [e, hc]
    omega
  · have e : 52 - n.log2 = 0 := by omega
    rw [e, Nat.pow_zero, Nat.mul_one, cut_eq _ _ _ (Nat.le_trans (Nat.pow_le_pow_right (by decide) (by omega)) h1)]
    have h2 : n / 2 ^ (n.log2 - 52) < 2 ^ 53 := by
      rw [Nat.div_lt_iff_lt_mul (Nat.two_pow_pos _), ← Nat.pow_add, show 53 + (n.log2 - 52) = n.log2 + 1 by omega]
      exact h0
    have h3 := Bool.toNat_le (decide (2 ^ (n.log2 - 52) < 2 * (n % 2 ^ (n.log2 - 52))) || (2 ^ (n.log2 - 52) == 2 * (n % 2 ^ (n.log2 - 52)) && n / 2 ^ (n.log2 - 52) % 2 == 1))
    omega
theorem cut_mono (n m d : Nat) (hn : 2 ^ d ≤ n) (h : n ≤ m) : Toward.even.cut false n d ≤ Toward.even.cut false m d := by
  rw [cut_eq _ n d hn, cut_eq _ m d (Nat.le_trans hn h)]
  have hq : n / 2 ^ d ≤ m / 2 ^ d := Nat.div_le_div_right h
  have b1 := Bool.toNat_le (decide (2 ^ d < 2 * (n % 2 ^ d)) || (2 ^ d == 2 * (n % 2 ^ d) && n / 2 ^ d % 2 == 1))
  by_cases e : n / 2 ^ d = m / 2 ^ d
  · have hn2 := Nat.div_add_mod n (2 ^ d)
    have hm2 := Nat.div_add_mod m (2 ^ d)
    rw [e] at hn2 ⊢
    have hr : n % 2 ^ d ≤ m % 2 ^ d := by omega
    apply Nat.add_le_add_left
    generalize n % 2 ^ d = r at hr
    generalize m % 2 ^ d = s at hr
    generalize 2 ^ d = g
    generalize m / 2 ^ d % 2 = o
    by_cases c1 : g < 2 * r
    · have c2 : g < 2 * s := by omega
      simp [c1, c2]
    · by_cases c3 : g < 2 * s
      · simp only [c3, decide_true, Bool.true_or, Bool.toNat_true]
        exact Bool.toNat_le _
      · by_cases c4 : g = 2 * r
        · have c5 : r = s := by omega
          rw [c5]
          exact Nat.le_refl _
        · have c6 : (g == 2 * r) = false := by rw [beq_eq_false_iff_ne]; exact c4
          simp [c1, c6]
  · omega
theorem kept_mono (n m : Nat) (h0 : n ≠ 0) (h : n ≤ m) (hl : n.log2 = m.log2) : keptN n ≤ keptN m := by
  unfold keptN
  rw [hl]
  refine cut_mono _ _ _ ?_ (Nat.mul_le_mul_right _ h)
  have h1 := Nat.log2_self_le h0
  rw [hl] at h1
  by_cases c : m.log2 ≤ 52
  · rw [show m.log2 - 52 = 0 by omega, Nat.pow_zero]
    exact Nat.mul_pos (by omega) (Nat.two_pow_pos _)
  · rw [show 52 - m.log2 = 0 by omega, Nat.pow_zero, Nat.mul_one]
    exact Nat.le_trans (Nat.pow_le_pow_right (by decide) (by omega)) h1
/-- A greater number never has a lesser word. -/
theorem fl_mono (n m : Nat) (h : n ≤ m) : fl n ≤ fl m := by
  by_cases h0 : n = 0
  · subst h0
    rw [fl_zero]
    exact Nat.zero_le _
  have hm : m ≠ 0 := by omega
  rw [fl_eq n h0, fl_eq m hm]
  have hl : n.log2 ≤ m.log2 := by
    rw [Nat.le_log2 hm]
    exact Nat.le_trans (Nat.log2_self_le h0) h
  have key : (n.log2 + 1022) * 2 ^ 52 + keptN n ≤ (m.log2 + 1022) * 2 ^ 52 + keptN m := by
    by_cases e : n.log2 = m.log2
    · have := kept_mono n m h0 h e
      rw [e]; omega
    · have := kept_le n h0
      have := kept_ge m hm
      omega
  omega
theorem fl_le (n : Nat) : fl n ≤ 2047 * 2 ^ 52 := by
  by_cases h0 : n = 0
  · subst h0; rw [fl_zero]; exact Nat.zero_le _
  · rw [fl_eq n h0]; exact Nat.min_le_right _ _
/-- A word of a rung alone. -/
theorem pos_word (r : Nat) (h : r ≤ 2047 * 2 ^ 52) : negW r = false ∧ rungW r = r ∧ nanW r = false ∧ sv r = (val r : Int) := by
  have e1 : negW r = false := by unfold negW; rw [beq_eq_false_iff_ne]; omega
  have e2 : rungW r = r := by unfold rungW; omega
  refine ⟨e1, e2, by unfold nanW; rw [e2]; simp; omega, ?_⟩
  unfold sv
  rw [e1, e2]
  simp
theorem fl_sv (n : Nat) : nanW (fl n) = false ∧ sv (fl n) = (val (fl n) : Int) := ⟨(pos_word _ (fl_le n)).2.2.1, (pos_word _ (fl_le n)).2.2.2⟩
theorem fl_sv_mono (n m : Nat) (h : n ≤ m) : sv (fl n) ≤ sv (fl m) := by
  rw [(fl_sv n).2, (fl_sv m).2]
  have := val_le (fl_mono n m h)
  omega
/-- Below 2^53 each number has its own word. -/
theorem fl_exact (n : Nat) (h0 : n ≠ 0) (h : n < 2 ^ 53) : fl n = (n.log2 + 1022) * 2 ^ 52 + n * 2 ^ (52 - n.log2) ∧ 2 ^ 52 ≤ n * 2 ^ (52 - n.log2) ∧ n * 2 ^ (52 - n.log2) < 2 ^ 53 ∧ n.log2 ≤ 52 := by
  have hl : n.log2 ≤ 52 := by have := (Nat.log2_lt h0).2 h; omega
  have h1 := Nat.log2_self_le h0
  have h2 := Nat.lt_log2_self (n := n)
  have a1 : 2 ^ 52 ≤ n * 2 ^ (52 - n.log2) := by
    have := Nat.mul_le_mul_right (2 ^ (52 - n.log2)) h1
    rwa [← Nat.pow_add, show n.log2 + (52 - n.log2) = 52 by omega] at this
  have a2 : n * 2 ^ (52 - n.log2) < 2 ^ 53 := by
    have := Nat.mul_lt_mul_of_pos_right h2 (Nat.two_pow_pos (52 - n.log2))
    rwa [← Nat.pow_add, show n.log2 + 1 + (52 - n.log2) = 53 by omega] at this
  have hk : keptN n = n * 2 ^ (52 - n.log2) := by
    unfold keptN
    have hc := cut_exact false (n * 2 ^ (52 - n.log2)) 0 (by omega)
    rw [Nat.pow_zero, Nat.mul_one] at hc
    rw [show n.log2 - 52 = 0 by omega, hc]
  refine ⟨?_, a1, a2, hl⟩
  rw [fl_eq n h0, hk, Nat.min_eq_left (by omega)]
/-- How many least units 1 is. -/
def pw (k : Nat) : Nat := 2 ^ k
theorem pw_pos (k : Nat) : 0 < pw k := Nat.two_pow_pos k
theorem pw_eq (k : Nat) : 2 ^ k = pw k := rfl
def oneU : Nat := pw 1074
theorem oneU_pos : 0 < oneU := pw_pos _
theorem fl_val (n : Nat) (h : n < 2 ^ 53) : val (fl n) = n * oneU := by
  by_cases h0 : n = 0
  · subst h0; rw [fl_zero, Nat.zero_mul]; rfl
  obtain ⟨e, a1, a2, hl⟩ := fl_exact n h0 h
  rw [e]
  generalize hq : n * 2 ^ (52 - n.log2) = q at a1 a2
  unfold val
  rw [if_neg (by omega), show ((n.log2 + 1022) * 2 ^ 52 + q) / 2 ^ 52 - 1 = n.log2 + 1022 by omega, show 2 ^ 52 + ((n.log2 + 1022) * 2 ^ 52 + q) % 2 ^ 52 = q by omega, ← hq, Nat.mul_assoc, ← Nat.pow_add, pw_eq, show 52 - n.log2 + (n.log2 + 1022) = 1074 by omega, oneU]
theorem fl_lt_iff (n m : Nat) (hn : n < 2 ^ 53) (hm : m < 2 ^ 53) : sv (fl n) < sv (fl m) ↔ n < m := by
  rw [(fl_sv n).2, (fl_sv m).2, fl_val n hn, fl_val m hm]
  have hp := oneU_pos
  rw [Int.ofNat_lt]
  exact Nat.mul_lt_mul_right hp
theorem fl_le_iff (n m : Nat) (hn : n < 2 ^ 53) (hm : m < 2 ^ 53) : sv (fl n) ≤ sv (fl m) ↔ n ≤ m := by
  rw [← Int.not_lt, fl_lt_iff m n hm hn, Nat.not_lt]

/-- A word in the midst is read so. -/
theorem read_mid (r : Nat) (h1 : 2 ^ 52 ≤ r) (h2 : r < 2047 * 2 ^ 52) : double.read r = .number false (2 ^ 52 + r % 2 ^ 52) (-1074 + ((r / 2 ^ 52 - 1 : Nat) : Int)) := by
  have e1 := (pos_word r (by omega)).1
  unfold Format.read
  simp only [d_sign, d_bin, d_inf, d_least]
  have e2 : r % 2 ^ 63 = r := by omega
  rw [e2, if_neg (by omega), if_pos h2]
  unfold negW at e1
  rw [e1]
theorem val_twice (r : Nat) (h : 2 ^ 52 ≤ r) : val (r + 2 ^ 52) = val r * 2 := by
  unfold val
  rw [if_neg (by omega), if_neg (by omega), show (r + 2 ^ 52) % 2 ^ 52 = r % 2 ^ 52 by omega, show (r + 2 ^ 52) / 2 ^ 52 - 1 = (r / 2 ^ 52 - 1) + 1 by omega, Nat.pow_succ (n := 2) (m := r / 2 ^ 52 - 1), Nat.mul_assoc]
theorem mul_two (r : Nat) (h1 : 100 * 2 ^ 52 ≤ r) (h2 : r + 2 ^ 52 < 2047 * 2 ^ 52) : double.mul r 4611686018427387904 = some (r + 2 ^ 52) := by
  unfold Format.mul
  rw [read_mid r (by omega) (by omega), show double.read 4611686018427387904 = .number false (2 ^ 52) (-51) by decide +kernel]
  simp only [Datum.product, Option.map_some, Format.write, Bool.xor_false, Option.some.injEq]
  have h := nearest_exact false ((2 ^ 52 + r % 2 ^ 52) * 2 ^ 52) (-1074 + ((r / 2 ^ 52 - 1 : Nat) : Int) + -51) (r + 2 ^ 52) (by omega) h2 (by
    rw [val_twice r (by omega)]
    unfold val
    rw [if_neg (by omega), Nat.mul_assoc, Nat.mul_assoc, ← Nat.pow_add, ← Nat.pow_succ]
    congr 2
    omega)
  rw [h]
  rfl
theorem mul_half (r : Nat) (h1 : 100 * 2 ^ 52 ≤ r) (h2 : r + 2 ^ 52 < 2047 * 2 ^ 52) : double.mul (r + 2 ^ 52) 4602678819172646912 = some r := by
  unfold Format.mul
  rw [read_mid (r + 2 ^ 52) (by omega) (by omega), show double.read 4602678819172646912 = .number false (2 ^ 52) (-53) by decide +kernel]
  simp only [Datum.product, Option.map_some, Format.write, Bool.xor_false, Option.some.injEq]
  have h := nearest_exact false ((2 ^ 52 + (r + 2 ^ 52) % 2 ^ 52) * 2 ^ 52) (-1074 + (((r + 2 ^ 52) / 2 ^ 52 - 1 : Nat) : Int) + -53) r (by omega) (by omega) (by
    unfold val
    rw [if_neg (by omega), show (r + 2 ^ 52) % 2 ^ 52 = r % 2 ^ 52 by omega, Nat.mul_assoc, ← Nat.pow_add]
    congr 2
    omega)
  rw [h]
  rfl
end Go.Proofs.Ytaobbdmkkehpnaa
