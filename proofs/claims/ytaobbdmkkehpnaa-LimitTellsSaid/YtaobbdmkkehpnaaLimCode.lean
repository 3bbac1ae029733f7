/-
  What the landed package limit does: Kind, Right, Least.
-/
import Derived.Test.YtaobbdmkkehpnaaLimOk
namespace Go.Proofs.Ytaobbdmkkehpnaa
open Go.RowKit

/-- The numbers' tellers of package math, by the word. -/
theorem isnan_any (x : Nat) (b : Bool) (hb : nanW x = b) (w : World) : Calls Try.prog 29 #[.float .f64 x] w fun e w' => e = .returned (.bool b) ∧ w = w' := by
  have hne := ne_self x
  rw [hb] at hne
  clear hb
  go_enter Try.func29, Try.ntmps29
  go_wp2
  go_ret
  exact ⟨rfl, rfl⟩
theorem andNot_top (x : Nat) : bits .andNot .u64 (x : Int) 9223372036854775808 = (rungW x : Int) := by
  show IntKind.u64.wrap ((BitVec.ofInt 64 (x : Int) &&& ~~~BitVec.ofInt 64 9223372036854775808).toNat : Int) = _
  have e : (BitVec.ofInt 64 (x : Int) &&& ~~~BitVec.ofInt 64 9223372036854775808).toNat = rungW x := by
    rw [show ~~~BitVec.ofInt 64 9223372036854775808 = BitVec.ofNat 64 (2 ^ 63 - 1) by decide, BitVec.toNat_and, BitVec.toNat_ofNat, Nat.mod_eq_of_lt (show 2 ^ 63 - 1 < 2 ^ 64 by decide), Nat.and_two_pow_sub_one_eq_mod, BitVec.toNat_ofInt]
    unfold rungW
    omega
  rw [e, IntKind.wrap_u64]
  unfold rungW
  omega
theorem abs_any (x : Nat) (w : World) : Calls Try.prog 41 #[.float .f64 x] w fun e w' => e = .returned (.float .f64 (rungW x)) ∧ w = w' := by
  have br := bits_run x
  have bf : ∀ w, (callFunc 40 #[.int .u64 (rungW x : Int)]).run Try.prog w = .ok (.value (.float .f64 (rungW x))) w := fun w => frombits_run (rungW x : Int) w
  have ha := andNot_top x
  generalize rungW x = r at ha bf ⊢
  go_enter Try.func41, Try.ntmps41
  go_wp2
  go_ret
  exact ⟨rfl, rfl⟩

theorem neg_word (x : Nat) (hx : x < 18446744073709551616) : negW (Op.negFloat .f64 x) = !negW x ∧ rungW (Op.negFloat .f64 x) = rungW x := by
  have e : Op.negFloat .f64 x = x ^^^ 2 ^ 63 := rfl
  rw [e]
  constructor
  · unfold negW
    rw [Nat.xor_div_two_pow, show 2 ^ 63 / 2 ^ 63 = 1 by decide]
    rcases (show x / 2 ^ 63 = 0 ∨ x / 2 ^ 63 = 1 by omega) with h | h <;> rw [h] <;> rfl
  · unfold rungW
    rw [Nat.xor_mod_two_pow, show 2 ^ 63 % 2 ^ 63 = 0 by decide, Nat.xor_zero]
theorem nan_neg (x : Nat) (hx : x < 18446744073709551616) : nanW (Op.negFloat .f64 x) = nanW x := by
  unfold nanW; rw [(neg_word x hx).2]
/-- Above the greatest number: infinity. -/
theorem order_most (x m : Nat) (hm : m + 1 = 9218868437227405312) : (FloatKind.f64.format.order x m == some .gt) = (!nanW x && !negW x && decide (rungW x = m + 1)) := by
  show (Ieee.double.order x m == some .gt) = _
  cases hn : nanW x
  · have t := pos_word m (by omega)
    rw [order_sv x _ hn t.2.2.1, t.2.2.2]
    have hle : rungW x ≤ m + 1 := by
      have := hn; unfold nanW at this; simp at this; omega
    clear hm t
    cases hg : negW x
    · have e : sv x = (val (rungW x) : Int) := by unfold sv; rw [hg]; rfl
      rw [e]
      by_cases h : rungW x = m + 1
      · have l := val_lt (r := m) (s := rungW x) (by omega)
        rw [Int.compare_eq_gt.2 (by omega)]
        simp [h]
      · have l := val_le (r := rungW x) (s := m) (by omega)
        have ng : compare (val (rungW x) : Int) (val m : Int) ≠ .gt := fun hc => by
          have := Int.compare_eq_gt.1 hc
          omega
        simp [h, ng]
    · have e : sv x = -(val (rungW x) : Int) := by unfold sv; rw [hg]; rfl
      rw [e]
      have ng : compare (-(val (rungW x) : Int)) (val m : Int) ≠ .gt := fun hc => by
        have := Int.compare_eq_gt.1 hc
        omega
      simp [ng]
  · rw [order_nan_left x _ hn]
    rfl
theorem order_top (x : Nat) : (FloatKind.f64.format.order x 9218868437227405311 == some .gt) = (!nanW x && !negW x && decide (rungW x = 9218868437227405312)) := order_most x 9218868437227405311 rfl
theorem zero_word : negW 0 = false ∧ rungW 0 = 0 ∧ nanW 0 = false ∧ sv 0 = (val 0 : Int) := pos_word 0 (by decide)
theorem val_0 : val 0 = 0 := by decide
theorem order_below (x : Nat) (hn : nanW x = false) : (FloatKind.f64.format.order x 0 == some .lt) = (negW x && !decide (rungW x = 0)) := by
  show (Ieee.double.order x 0 == some .lt) = _
  rw [order_sv x _ hn zero_word.2.2.1, zero_word.2.2.2, val_0, show ((0 : Nat) : Int) = 0 from rfl]
  cases hg : negW x
  · have e : sv x = (val (rungW x) : Int) := by unfold sv; rw [hg]; rfl
    rw [e]
    have ng : compare (val (rungW x) : Int) 0 ≠ .lt := fun hc => by
      have := Int.compare_eq_lt.1 hc
      omega
    simp [ng]
  · have e : sv x = -(val (rungW x) : Int) := by unfold sv; rw [hg]; rfl
    rw [e]
    by_cases h : rungW x = 0
    · rw [h, val_0]
      rfl
    · have l := val_lt (r := 0) (s := rungW x) (by omega)
      rw [val_0] at l
      rw [Int.compare_eq_lt.2 (by omega)]
      simp [h]
theorem order_zero (x : Nat) (hn : nanW x = false) : (FloatKind.f64.format.order x 0 == some .eq) = decide (rungW x = 0) := by
  show (Ieee.double.order x 0 == some .eq) = _
  rw [order_sv x _ hn zero_word.2.2.1, zero_word.2.2.2, val_0, show ((0 : Nat) : Int) = 0 from rfl]
  by_cases h : rungW x = 0
  · have e : sv x = 0 := by unfold sv; rw [h, val_0]; split <;> rfl
    rw [e, h]
    rfl
  · have l := val_lt (r := 0) (s := rungW x) (by omega)
    rw [val_0] at l
    have ne : compare (sv x) 0 ≠ .eq := fun hc => by
      have h1 := Int.compare_eq_eq.1 hc
      unfold sv at h1
      split at h1 <;> omega
    rw [beq_eq_false_iff_ne.2 (fun hc => ne (Option.some.inj hc))]
    simp [h]

theorem isinf_any (x : Nat) (b : Bool) (hb : (!nanW x && !negW x && decide (rungW x = 9218868437227405312)) = b) (w : World) : Calls Try.prog 30 #[.float .f64 x, .int .i64 1] w fun e w' => e = .returned (.bool b) ∧ w = w' := by
  have ho := order_top x
  rw [hb] at ho
  clear hb
  go_enter Try.func30, Try.ntmps30
  go_wp2
  go_ret
  exact ⟨rfl, rfl⟩
theorem isninf_any (x : Nat) (hx : x < 18446744073709551616) (b : Bool) (hb : (!nanW x && negW x && decide (rungW x = 9218868437227405312)) = b) (w : World) : Calls Try.prog 30 #[.float .f64 x, .int .i64 (-1)] w fun e w' => e = .returned (.bool b) ∧ w = w' := by
  have ho := order_top (Op.negFloat .f64 x)
  rw [nan_neg x hx, (neg_word x hx).1, (neg_word x hx).2, Bool.not_not, hb] at ho
  clear hb hx
  have hu : ∀ w, (Op.unary .neg (.float .f64 x)).run Try.prog w = .ok (.float .f64 (Op.negFloat .f64 x)) w := fun _ => rfl
  generalize Op.negFloat .f64 x = y at ho hu
  go_enter Try.func30, Try.ntmps30
  go_wp2
  go_ret
  exact ⟨rfl, rfl⟩
theorem signbit_any (x : Nat) (hx : x < 18446744073709551616) (b : Bool) (hb : negW x = b) (w : World) : Calls Try.prog 31 #[.float .f64 x] w fun e w' => e = .returned (.bool b) ∧ w = w' := by
  have br := bits_run x
  have hw : decide (wrap64 (x : Int) < 0) = b := by
    rw [← hb, neg_geq x hx, wrap64, Bool.eq_iff_iff]
    simp only [decide_eq_true_eq]
    omega
  clear hb hx
  go_enter Try.func31, Try.ntmps31
  go_wp2
  go_ret
  exact ⟨rfl, rfl⟩
end Go.Proofs.Ytaobbdmkkehpnaa
