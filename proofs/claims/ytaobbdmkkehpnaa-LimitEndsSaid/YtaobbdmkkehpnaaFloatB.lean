/-
  Which word a number becomes: its own, where it has one; a greater whole number never a lesser word.
-/
import Derived.Test.YtaobbdmkkehpnaaFloat
namespace Go.Proofs.Ytaobbdmkkehpnaa
open Ieee

theorem log2_mul (q d : Nat) (hq : q ≠ 0) : (q * 2 ^ d).log2 = q.log2 + d := by
  have hp := Nat.two_pow_pos d
  rw [Nat.log2_eq_iff (Nat.mul_ne_zero hq (by omega))]
  constructor
  · rw [Nat.pow_add]
    exact Nat.mul_le_mul_right _ (Nat.log2_self_le hq)
  · rw [show q.log2 + d + 1 = (q.log2 + 1) + d by omega, Nat.pow_add]
    exact Nat.mul_lt_mul_of_pos_right Nat.lt_log2_self hp
/-- How a whole number is cut, where it is no less than a unit. -/
theorem cut_eq (neg : Bool) (n d : Nat) (hn : 2 ^ d ≤ n) : Toward.even.cut neg n d = n / 2 ^ d + (decide (2 ^ d < 2 * (n % 2 ^ d)) || (2 ^ d == 2 * (n % 2 ^ d) && n / 2 ^ d % 2 == 1)).toNat := by
  have h0 : n ≠ 0 := by have := Nat.two_pow_pos d; omega
  have hd : d ≤ n.log2 := (Nat.le_log2 h0).2 hn
  unfold Toward.cut
  rw [Nat.min_eq_left (by omega), Nat.shiftLeft_eq, Nat.one_mul]
theorem cut_exact (neg : Bool) (q d : Nat) (hq : 0 < q) : Toward.even.cut neg (q * 2 ^ d) d = q := by
  have hp := Nat.two_pow_pos d
  rw [cut_eq neg _ d (Nat.le_mul_of_pos_left _ hq), Nat.mul_mod_left, Nat.mul_div_cancel _ hp]
  have h1 : decide (2 ^ d < 2 * 0) = false := by simp
  have h2 : (2 ^ d == 2 * 0) = false := by
    rw [beq_eq_false_iff_ne]; omega
  rw [h1, h2]
  simp
theorem val_zero {r : Nat} (h : val r = 0) : r = 0 := by
  by_cases e : r = 0
  · exact e
  · have := val_lt (show 0 < r by omega); omega

/-- A number that has a word becomes it. -/
theorem nearest_exact (neg : Bool) (mag : Nat) (p : Int) (r : Nat) (hp : -1074 ≤ p) (hr : r < 2047 * 2 ^ 52) (hv : mag * 2 ^ (p + 1074).toNat = val r) : double.nearest neg mag p = double.word neg r := by
  unfold Format.nearest
  rw [d_bin, d_inf, d_least]
  by_cases hm : mag = 0
  · subst hm
    rw [Nat.zero_mul] at hv
    rw [val_zero hv.symm, if_pos rfl]
  rw [if_neg hm]
  obtain ⟨e, he⟩ : ∃ e : Nat, e = (p + 1074).toNat := ⟨_, rfl⟩
  have hpe : p = (e : Int) - 1074 := by omega
  rw [← he] at hv
  clear he
  subst hpe
  have hfb : ((double.fractionBits : Nat) : Int) = 52 := rfl
  have hlog := log2_mul mag e hm
  rw [hv] at hlog
  simp only [hfb]
  have hv0 : val r ≠ 0 := by
    rw [← hv]; exact Nat.mul_ne_zero hm (by have := Nat.two_pow_pos e; omega)
  by_cases h1 : r < 2 ^ 52
  · have e1 : val r = r := by unfold val; rw [if_pos h1]
    rw [e1] at hv hlog hv0
    have h2 : r.log2 < 52 := (Nat.log2_lt hv0).2 h1
    have hlast : max ((e : Int) - 1074 + (mag.log2 : Nat) - 52) (-1074) = -1074 := by omega
    rw [hlast]
    rw [show ((e : Int) - 1074 - -1074).toNat = e by omega, show ((-1074 : Int) - ((e : Int) - 1074)).toNat = 0 by omega, show ((-1074 : Int) - -1074).toNat = 0 by omega, Nat.shiftLeft_eq, hv]
    have hc := cut_exact neg r 0 (by omega)
    rw [Nat.pow_zero, Nat.mul_one] at hc
    rw [hc, Nat.zero_mul, Nat.zero_add, Nat.min_eq_left (by omega)]
  · have e1 : val r = (2 ^ 52 + r % 2 ^ 52) * 2 ^ (r / 2 ^ 52 - 1) := by unfold val; rw [if_neg h1]
    obtain ⟨k, hk⟩ : ∃ k, k = r / 2 ^ 52 - 1 := ⟨_, rfl⟩
    obtain ⟨f, hf⟩ : ∃ f, f = r % 2 ^ 52 := ⟨_, rfl⟩
    rw [← hk, ← hf] at e1
    have hf2 : f < 2 ^ 52 := by omega
    have hrk : r = (k + 1) * 2 ^ 52 + f := by omega
    have hl2 : (2 ^ 52 + f).log2 = 52 := (Nat.log2_eq_iff (by omega)).2 ⟨by omega, by omega⟩
    have hl3 := log2_mul (2 ^ 52 + f) k (by omega)
    rw [← e1, hl2] at hl3
    rw [hl3] at hlog
    have hlast : max ((e : Int) - 1074 + (mag.log2 : Nat) - 52) (-1074) = (k : Int) - 1074 := by omega
    rw [hlast]
    rw [show ((e : Int) - 1074 - ((k : Int) - 1074)).toNat = e - k by omega, show ((k : Int) - 1074 - ((e : Int) - 1074)).toNat = k - e by omega, show ((k : Int) - 1074 - -1074).toNat = k by omega, Nat.shiftLeft_eq]
    have hkept : Toward.even.cut neg (mag * 2 ^ (e - k)) (k - e) = 2 ^ 52 + f := by
      rw [e1] at hv
      by_cases hke : k ≤ e
      · have e2 : mag * 2 ^ (e - k) = 2 ^ 52 + f := by
          have : mag * 2 ^ (e - k) * 2 ^ k = (2 ^ 52 + f) * 2 ^ k := by rw [Nat.mul_assoc, ← Nat.pow_add, show e - k + k = e by omega, hv]
          exact Nat.eq_of_mul_eq_mul_right (Nat.two_pow_pos k) this
        have hc := cut_exact neg (2 ^ 52 + f) 0 (by omega)
        rw [e2, show k - e = 0 by omega]
        rwa [Nat.pow_zero, Nat.mul_one] at hc
      · have e2 : mag = (2 ^ 52 + f) * 2 ^ (k - e) := by
          have : mag * 2 ^ e = (2 ^ 52 + f) * 2 ^ (k - e) * 2 ^ e := by rw [Nat.mul_assoc, ← Nat.pow_add, show k - e + e = k by omega, hv]
          exact Nat.eq_of_mul_eq_mul_right (Nat.two_pow_pos e) this
        rw [show e - k = 0 by omega, Nat.pow_zero, Nat.mul_one, e2]
        exact cut_exact neg (2 ^ 52 + f) (k - e) (by omega)
    rw [hkept, show k * 2 ^ 52 + (2 ^ 52 + f) = r by omega, Nat.min_eq_left (by omega)]
end Go.Proofs.Ytaobbdmkkehpnaa
