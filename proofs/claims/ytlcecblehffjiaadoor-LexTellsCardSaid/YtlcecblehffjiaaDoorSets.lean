/-
  Plain facts on sets of bytes: a set is 256 binary digits; its four words are the digits 64 at a time. No program stands here.
-/
import Derived.WalkKit
import Derived.Laws.BitsAllLaws
namespace Go.Proofs.YtlcecblehffjiaaDoor

/-- The word number i of a set. -/
def W (S : BitVec 256) (i : Nat) : Nat := S.toNat / 2 ^ (64 * i) % 2 ^ 64

/-- The set as the program's value. -/
abbrev setV (S : BitVec 256) : Value := .agg #[.int .u64 (W S 0), .int .u64 (W S 1), .int .u64 (W S 2), .int .u64 (W S 3)]

/-- Has the set the byte n? (A name of its own, which no rewriting opens.) -/
def mem (S : BitVec 256) (n : Nat) : Bool := S.getLsbD n

theorem W_lt (S : BitVec 256) (i : Nat) : W S i < 18446744073709551616 := Nat.mod_lt _ (by decide)

theorem W_bit (S : BitVec 256) (i k : Nat) : (W S i).testBit k = (decide (k < 64) && S.getLsbD (64 * i + k)) := by
  unfold W
  rw [Nat.testBit_mod_two_pow, Nat.testBit_div_two_pow, BitVec.getLsbD, Nat.add_comm k]

theorem bit_W (S : BitVec 256) (n : Nat) : (W S (n / 64)).testBit (n % 64) = S.getLsbD n := by
  rw [W_bit, decide_eq_true (Nat.mod_lt _ (by decide)), Bool.true_and, Nat.div_add_mod]

/-- A set is known by its words. -/
theorem eq_of_W {S T : BitVec 256} (h0 : W S 0 = W T 0) (h1 : W S 1 = W T 1) (h2 : W S 2 = W T 2) (h3 : W S 3 = W T 3) : S = T := by
  apply BitVec.eq_of_getLsbD_eq
  intro n hn
  rw [← bit_W, ← bit_W]
  rcases (show n / 64 = 0 ∨ n / 64 = 1 ∨ n / 64 = 2 ∨ n / 64 = 3 by omega) with h | h | h | h <;> rw [h]
  · rw [h0]
  · rw [h1]
  · rw [h2]
  · rw [h3]

theorem W_ext {S : BitVec 256} {i x : Nat} (hx : x < 18446744073709551616) (h : ∀ k, k < 64 → x.testBit k = S.getLsbD (64 * i + k)) : x = W S i := by
  apply Nat.eq_of_testBit_eq
  intro k
  rw [W_bit]
  by_cases hk : k < 64
  · rw [h k hk]; simp [hk]
  · have : x.testBit k = false := Nat.testBit_lt_two_pow (Nat.lt_of_lt_of_le hx (Nat.pow_le_pow_right (n := 2) (by decide) (Nat.le_of_not_lt hk)))
    simp [this, hk]

theorem or_lt64 {a b : Nat} (ha : a < 18446744073709551616) (hb : b < 18446744073709551616) : a ||| b < 18446744073709551616 := Nat.or_lt_two_pow (n := 64) ha hb
theorem and_lt64 {a : Nat} (b : Nat) (ha : a < 18446744073709551616) : a &&& b < 18446744073709551616 := Nat.and_lt_two_pow (n := 64) b ha |> fun h => by simpa [Nat.and_comm] using h

theorem W_or (S T : BitVec 256) (i : Nat) : bits .or .u64 (W S i : Int) (W T i : Int) = (W (S ||| T) i : Int) := by
  rw [u64_or_nat _ _ (W_lt _ _) (W_lt _ _)]
  congr 1
  exact W_ext (or_lt64 (W_lt _ _) (W_lt _ _)) fun k hk => by simp [W_bit, hk]

theorem W_and (S T : BitVec 256) (i : Nat) : bits .and .u64 (W S i : Int) (W T i : Int) = (W (S &&& T) i : Int) := by
  rw [u64_and_nat _ _ (W_lt _ _) (W_lt _ _)]
  congr 1
  exact W_ext (Nat.lt_of_le_of_lt Nat.and_le_left (W_lt _ _)) fun k hk => by simp [W_bit, hk]

theorem W_not (S : BitVec 256) (i : Nat) (hi : i < 4) : bits .xor .u64 IntKind.u64.max (W S i : Int) = (W (~~~S) i : Int) := by
  have e : IntKind.u64.max = ((18446744073709551615 : Nat) : Int) := by decide
  rw [e, u64_xor_nat _ _ (by decide) (W_lt _ _)]
  congr 1
  refine W_ext (Nat.xor_lt_two_pow (n := 64) (by decide) (W_lt _ _)) fun k hk => ?_
  have hm : (18446744073709551615 : Nat).testBit k = true := by
    have := Nat.testBit_two_pow_sub_one 64 k
    simpa [hk] using this
  rw [Nat.testBit_xor, hm, W_bit]
  simp [hk, show 64 * i + k < 256 by omega]

/-- A set and one byte more. -/
def addB (S : BitVec 256) (n : Nat) : BitVec 256 := S ||| BitVec.twoPow 256 n

theorem addB_bit (S : BitVec 256) (n k : Nat) (hn : n < 256) : (addB S n).getLsbD k = (S.getLsbD k || decide (n = k)) := by
  simp [addB, BitVec.getLsbD_twoPow, hn]

theorem pow_lt64 (r : Nat) (hr : r < 64) : 2 ^ r < 18446744073709551616 := Nat.pow_lt_pow_right (a := 2) (by decide) hr

theorem wrap_pow (r : Nat) (hr : r < 64) : IntKind.u64.wrap ((2 : Int) ^ r) = ((2 ^ r : Nat) : Int) := by
  rw [IntKind.wrap_u64]
  have h := pow_lt64 r hr
  have e : ((2 : Int) ^ r) = ((2 ^ r : Nat) : Int) := by simp
  rw [e]
  generalize 2 ^ r = x at h
  omega

theorem W_addB (S : BitVec 256) (n : Int) (h0 : 0 ≤ n) (h1 : n < 256) (i : Nat) (hi : n / 64 = i) :
    bits .or .u64 (W S i : Int) (IntKind.u64.wrap (2 ^ (n % 64).toNat)) = (W (addB S n.toNat) i : Int) := by
  rw [wrap_pow _ (by omega), u64_or_nat _ _ (W_lt _ _) (pow_lt64 _ (by omega))]
  congr 1
  refine W_ext (or_lt64 (W_lt _ _) (pow_lt64 _ (by omega))) fun k hk => ?_
  rw [Nat.testBit_or, W_bit, Nat.testBit_two_pow, addB_bit _ _ _ (by omega)]
  simp only [hk, decide_true, Bool.true_and]
  congr 1
  apply decide_eq_decide.2
  omega

theorem W_addB_other (S : BitVec 256) (n : Int) (h0 : 0 ≤ n) (h1 : n < 256) (i : Nat) (hi : n / 64 ≠ i) : W (addB S n.toNat) i = W S i := by
  refine (W_ext (W_lt _ _) fun k hk => ?_).symm
  rw [W_bit, addB_bit _ _ _ (by omega)]
  have : ¬ n.toNat = 64 * i + k := by omega
  simp [hk, this]

theorem has_bit (S : BitVec 256) (n : Int) (h0 : 0 ≤ n) (i : Nat) (hi : n / 64 = i) :
    (bits .and .u64 ((W S i : Int) / 2 ^ (n % 64).toNat) 1 == 1) = S.getLsbD n.toNat := by
  have e : (W S i : Int) / 2 ^ (n % 64).toNat = ((W S i / 2 ^ (n % 64).toNat : Nat) : Int) := by simp
  rw [e, show (1 : Int) = ((1 : Nat) : Int) from rfl, u64_and_nat _ _ (Nat.lt_of_le_of_lt (Nat.div_le_self _ _) (W_lt _ _)) (by decide), nat_mask1]
  have hb : (W S i).testBit (n % 64).toNat = S.getLsbD n.toNat := by
    have h := bit_W S n.toNat
    rw [show n.toNat / 64 = i by omega, show n.toNat % 64 = (n % 64).toNat by omega] at h
    exact h
  rw [← hb, Nat.testBit_eq_decide_div_mod_eq, Bool.eq_iff_iff]
  simp only [beq_iff_eq, decide_eq_true_eq]
  omega

/-- A set out of four words. -/
def ofWords (a b c d : Nat) : BitVec 256 := BitVec.ofNat 256 (a + b * 2 ^ 64 + c * 2 ^ 128 + d * 2 ^ 192)
theorem W_ofWords {a b c d : Nat} (ha : a < 18446744073709551616) (hb : b < 18446744073709551616) (hc : c < 18446744073709551616) (hd : d < 18446744073709551616) :
    W (ofWords a b c d) 0 = a ∧ W (ofWords a b c d) 1 = b ∧ W (ofWords a b c d) 2 = c ∧ W (ofWords a b c d) 3 = d := by
  unfold W ofWords
  simp only [BitVec.toNat_ofNat]
  refine ⟨?_, ?_, ?_, ?_⟩ <;> omega

theorem W_zero (i : Nat) : W 0#256 i = 0 := by simp [W]

theorem eq_words (S T : BitVec 256) : (((W S 0 : Int) == (W T 0 : Int)) && ((W S 1 : Int) == (W T 1 : Int)) && ((W S 2 : Int) == (W T 2 : Int)) && ((W S 3 : Int) == (W T 3 : Int))) = decide (S = T) := by
  rw [Bool.eq_iff_iff]
  simp only [Bool.and_eq_true, beq_iff_eq, decide_eq_true_eq]
  constructor
  · rintro ⟨⟨⟨h0, h1⟩, h2⟩, h3⟩
    exact eq_of_W (by omega) (by omega) (by omega) (by omega)
  · rintro rfl
    simp
end Go.Proofs.YtlcecblehffjiaaDoor
