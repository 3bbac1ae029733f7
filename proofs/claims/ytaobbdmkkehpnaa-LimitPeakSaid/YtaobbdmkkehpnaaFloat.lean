/-
  Plain facts on binary floating point words of 64 digits: how they stand to each other, as whole numbers; which word a whole number becomes. No program stands here.
-/
import GoSem.Core.Float
import Derived.Laws.FloatBits
namespace Go.Proofs.Ytaobbdmkkehpnaa
open Ieee

/-- How many of the least unit a rung is. -/
def val (r : Nat) : Nat := if r < 2 ^ 52 then r else (2 ^ 52 + r % 2 ^ 52) * 2 ^ (r / 2 ^ 52 - 1)

theorem val_succ (r : Nat) : val r < val (r + 1) := by
  unfold val
  by_cases h : r + 1 < 2 ^ 52
  · rw [if_pos (by omega), if_pos h]; omega
  · rw [if_neg h]
    by_cases h2 : r < 2 ^ 52
    · have e : r + 1 = 2 ^ 52 := by omega
      rw [if_pos h2, e]
      have e1 : (2 : Nat) ^ 52 % 2 ^ 52 = 0 := by decide
      have e2 : (2 : Nat) ^ 52 / 2 ^ 52 - 1 = 0 := by decide
      rw [e1, e2, Nat.pow_zero]
      omega
    · rw [if_neg h2]
      by_cases h3 : r % 2 ^ 52 + 1 < 2 ^ 52
      · have e1 : (r + 1) % 2 ^ 52 = r % 2 ^ 52 + 1 := by omega
        have e2 : (r + 1) / 2 ^ 52 = r / 2 ^ 52 := by omega
        rw [e1, e2]
        exact Nat.mul_lt_mul_of_pos_right (by omega) (Nat.two_pow_pos _)
      · have e1 : (r + 1) % 2 ^ 52 = 0 := by omega
        have e2 : (r + 1) / 2 ^ 52 - 1 = (r / 2 ^ 52 - 1) + 1 := by omega
        rw [e1, e2, Nat.pow_succ (n := 2) (m := r / 2 ^ 52 - 1), Nat.add_zero, ← Nat.mul_assoc, Nat.mul_right_comm]
        exact Nat.mul_lt_mul_of_pos_right (by omega) (Nat.two_pow_pos _)
theorem val_lt {r s : Nat} (h : r < s) : val r < val s := by
  induction s with
  | zero => omega
  | succ s ih =>
    by_cases e : r = s
    · subst e; exact val_succ r
    · exact Nat.lt_trans (ih (by omega)) (val_succ s)
theorem val_le {r s : Nat} (h : r ≤ s) : val r ≤ val s := by
  by_cases e : r = s
  · subst e; exact Nat.le_refl _
  · exact Nat.le_of_lt (val_lt (by omega))
theorem val_lt_iff {r s : Nat} : val r < val s ↔ r < s := by
  constructor
  · intro h
    by_cases e : r < s
    · exact e
    · have := val_le (show s ≤ r by omega); omega
  · exact val_lt

/-- The sign and the rung of a word; is it no number? -/
def negW (x : Nat) : Bool := x / 2 ^ 63 % 2 == 1
def rungW (x : Nat) : Nat := x % 2 ^ 63
def nanW (x : Nat) : Bool := decide (2047 * 2 ^ 52 < rungW x)
/-- The word as a whole number of least units. -/
def sv (x : Nat) : Int := if negW x then -(val (rungW x) : Int) else (val (rungW x) : Int)

theorem d_sign : double.signWeight = 2 ^ 63 := by decide
theorem d_bin : double.binade = 2 ^ 52 := by decide
theorem d_inf : double.infRung = 2047 * 2 ^ 52 := by decide
theorem d_least : double.leastPlace = -1074 := by decide

/-- What a word is read as. -/
theorem read_num (x : Nat) (h : rungW x < 2047 * 2 ^ 52) : ∃ m, ∃ p : Int, double.read x = .number (negW x) m p ∧ -1074 ≤ p ∧ m * 2 ^ (p + 1074).toNat = val (rungW x) := by
  unfold Format.read
  simp only [d_sign, d_bin, d_inf, d_least]
  by_cases h1 : rungW x < 2 ^ 52
  · refine ⟨rungW x, -1074, ?_, by omega, ?_⟩
    · rw [if_pos (show x % 2 ^ 63 < 2 ^ 52 from h1)]
      rfl
    · unfold val
      rw [if_pos h1]
      simp
  · refine ⟨2 ^ 52 + rungW x % 2 ^ 52, -1074 + ((rungW x / 2 ^ 52 - 1 : Nat) : Int), ?_, by omega, ?_⟩
    · rw [if_neg (show ¬ x % 2 ^ 63 < 2 ^ 52 from h1), if_pos (show x % 2 ^ 63 < 2047 * 2 ^ 52 from h)]
      rfl
    · unfold val
      rw [if_neg h1, show (-1074 + ((rungW x / 2 ^ 52 - 1 : Nat) : Int) + 1074).toNat = rungW x / 2 ^ 52 - 1 by omega]
theorem read_inf (x : Nat) (h : rungW x = 2047 * 2 ^ 52) : double.read x = .infinity (negW x) := by
  unfold Format.read
  simp only [d_sign, d_bin, d_inf, d_least]
  rw [if_neg (show ¬ x % 2 ^ 63 < 2 ^ 52 from by unfold rungW at h; omega), if_neg (show ¬ x % 2 ^ 63 < 2047 * 2 ^ 52 from by unfold rungW at h; omega), if_pos (show x % 2 ^ 63 = 2047 * 2 ^ 52 from h)]
  rfl
theorem read_nan (x : Nat) (h : nanW x = true) : ∃ t, double.read x = .nan (negW x) t := by
  have h : 2047 * 2 ^ 52 < rungW x := by simpa [nanW] using h
  unfold Format.read
  simp only [d_sign, d_bin, d_inf, d_least]
  rw [if_neg (show ¬ x % 2 ^ 63 < 2 ^ 52 from by unfold rungW at h; omega), if_neg (show ¬ x % 2 ^ 63 < 2047 * 2 ^ 52 from by unfold rungW at h; omega), if_neg (show ¬ x % 2 ^ 63 = 2047 * 2 ^ 52 from by unfold rungW at h; omega)]
  exact ⟨_, rfl⟩

theorem compare_scale (a b : Int) (c : Nat) (hc : 0 < c) : compare (a * c) (b * c) = compare a b := by
  rw [Int.compare_eq_ite_lt, Int.compare_eq_ite_lt]
  have hc' : (0 : Int) < c := by omega
  simp only [Int.mul_lt_mul_right hc']
theorem signed_scale (s : Bool) (m k e : Nat) : signed s m k * ((2 ^ e : Nat) : Int) = if s then -((m * 2 ^ (k + e) : Nat) : Int) else ((m * 2 ^ (k + e) : Nat) : Int) := by
  unfold signed
  rw [Nat.shiftLeft_eq]
  cases s
  · simp only [Bool.false_eq_true, if_false]
    rw [← Int.natCast_mul, Nat.mul_assoc, ← Nat.pow_add]
  · simp only [if_true]
    rw [Int.neg_mul, ← Int.natCast_mul, Nat.mul_assoc, ← Nat.pow_add]

theorem val_inf_pos : 0 < val (2047 * 2 ^ 52) := by
  have := val_lt (show 0 < 2047 * 2 ^ 52 by decide)
  omega

/-- How two words that are numbers stand to each other. -/
theorem order_sv (x y : Nat) (hx : nanW x = false) (hy : nanW y = false) : double.order x y = some (compare (sv x) (sv y)) := by
  have hx : rungW x ≤ 2047 * 2 ^ 52 := by simpa [nanW] using hx
  have hy : rungW y ≤ 2047 * 2 ^ 52 := by simpa [nanW] using hy
  unfold Format.order
  by_cases ix : rungW x = 2047 * 2 ^ 52
  · rw [read_inf x ix]
    by_cases iy : rungW y = 2047 * 2 ^ 52
    · rw [read_inf y iy]
      have hp := val_inf_pos
      unfold Datum.order sv
      rw [ix, iy]
      generalize val (2047 * 2 ^ 52) = V at hp
      cases negW x <;> cases negW y <;> simp only [Bool.false_eq_true, if_false, if_true, Option.some.injEq]
      · rw [Int.compare_eq_eq.2 rfl]; decide
      · rw [Int.compare_eq_gt.2 (by omega)]; decide
      · rw [Int.compare_eq_lt.2 (by omega)]; decide
      · rw [Int.compare_eq_eq.2 rfl]; decide
    · obtain ⟨n, j, e, hj, hv⟩ := read_num y (by omega)
      rw [e]
      have hlt := val_lt (show rungW y < 2047 * 2 ^ 52 by omega)
      unfold Datum.order sv
      rw [ix]
      generalize val (2047 * 2 ^ 52) = V at hlt
      generalize val (rungW y) = U at hlt
      clear hv
      cases negW x <;> cases negW y <;> simp only [Bool.false_eq_true, if_false, if_true, Option.some.injEq]
      · rw [Int.compare_eq_gt.2 (by omega)]
      · rw [Int.compare_eq_gt.2 (by omega)]
      · rw [Int.compare_eq_lt.2 (by omega)]
      · rw [Int.compare_eq_lt.2 (by omega)]
  · obtain ⟨m, i, e, hi, hv⟩ := read_num x (by omega)
    rw [e]
    by_cases iy : rungW y = 2047 * 2 ^ 52
    · rw [read_inf y iy]
      have hlt := val_lt (show rungW x < 2047 * 2 ^ 52 by omega)
      unfold Datum.order sv
      rw [iy]
      generalize val (2047 * 2 ^ 52) = V at hlt
      generalize val (rungW x) = U at hlt
      clear hv
      cases negW x <;> cases negW y <;> simp only [Bool.false_eq_true, if_false, if_true, Option.some.injEq]
      · rw [Int.compare_eq_lt.2 (by omega)]
      · rw [Int.compare_eq_gt.2 (by omega)]
      · rw [Int.compare_eq_lt.2 (by omega)]
      · rw [Int.compare_eq_gt.2 (by omega)]
    · obtain ⟨n, j, e2, hj, hv2⟩ := read_num y (by omega)
      rw [e2]
      unfold Datum.order
      simp only
      rw [← compare_scale _ _ (2 ^ (min i j + 1074).toNat) (Nat.two_pow_pos _), signed_scale, signed_scale]
      have e3 : (i - min i j).toNat + (min i j + 1074).toNat = (i + 1074).toNat := by omega
      have e4 : (j - min i j).toNat + (min i j + 1074).toNat = (j + 1074).toNat := by omega
      rw [e3, e4, hv, hv2]
      rfl
/-- No number stands to none. -/
theorem order_nan_left (x y : Nat) (hx : nanW x = true) : double.order x y = none := by
  obtain ⟨t, e⟩ := read_nan x hx
  unfold Format.order
  rw [e]
  cases double.read y <;> rfl
theorem order_nan_right (x y : Nat) (hy : nanW y = true) : double.order x y = none := by
  obtain ⟨t, e⟩ := read_nan y hy
  unfold Format.order
  rw [e]
  cases double.read x <;> rfl
end Go.Proofs.Ytaobbdmkkehpnaa
