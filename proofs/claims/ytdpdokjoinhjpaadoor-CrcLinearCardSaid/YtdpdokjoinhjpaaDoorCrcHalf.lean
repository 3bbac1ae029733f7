/-
  What half a byte does to a sum, by a table of sixteen.
-/
import Derived.Test.YtdpdokjoinhjpaaDoorCrcMath
namespace Go.Proofs.YtdpdokjoinhjpaaDoor

def st4 (n : Nat) : Nat := st1 (st1 (st1 (st1 n)))
theorem st8_st4 (n : Nat) : st8 n = st4 (st4 n) := by unfold st8 st4; rfl
theorem st4_lt (n : Nat) (h : n < 16777216) : st4 n < 16777216 := st1_lt _ (st1_lt _ (st1_lt _ (st1_lt _ h)))
theorem st4_lin (a b : Nat) (ha : a < 16777216) (hb : b < 16777216) : st4 (a ^^^ b) = st4 a ^^^ st4 b := by
  unfold st4
  have a1 := st1_lt a ha
  have b1 := st1_lt b hb
  have a2 := st1_lt _ a1
  have b2 := st1_lt _ b1
  have a3 := st1_lt _ a2
  have b3 := st1_lt _ b2
  rw [st1_lin _ _ ha hb, st1_lin _ _ a1 b1, st1_lin _ _ a2 b2, st1_lin _ _ a3 b3]
theorem xor_split (h l : Nat) (hl : l < 1048576) : h * 1048576 + l = (h * 1048576) ^^^ l := by
  apply Nat.eq_of_testBit_eq
  intro i
  have e2 : h * 1048576 = 2 ^ 20 * h := by rw [Nat.mul_comm h, show (1048576 : Nat) = 2 ^ 20 by decide]
  have hl16 : l < 2 ^ 20 := by rw [show (2 : Nat) ^ 20 = 1048576 by decide]; exact hl
  rw [Nat.testBit_xor, e2, Nat.testBit_two_pow_mul_add _ hl16, Nat.testBit_two_pow_mul]
  clear e2
  by_cases hi : i < 20
  · have : ¬ 20 ≤ i := by omega
    simp [hi, this]
  · have h16 : 20 ≤ i := by omega
    have : l.testBit i = false := Nat.testBit_lt_two_pow (Nat.lt_of_lt_of_le hl16 (Nat.pow_le_pow_right (by decide) h16))
    simp [hi, h16, this]
theorem st4_small (n : Nat) (h : n < 1048576) : st4 n = n * 16 := by
  unfold st4
  have e : ∀ m, m < 8388608 → st1 m = m * 2 := fun m hm => by unfold st1; rw [if_pos hm]
  have e1 : st1 n = n * 2 := e n (by omega)
  have e2 : st1 (n * 2) = n * 4 := by rw [e _ (by omega)]; omega
  have e3 : st1 (n * 4) = n * 8 := by rw [e _ (by omega)]; omega
  have e4 : st1 (n * 8) = n * 16 := by rw [e _ (by omega)]; omega
  rw [e1, e2, e3, e4]
/-- What half a byte does. -/
def tabN : List Nat := [0, 8801531, 9098509, 825846, 9692897, 1419802, 1651692, 10452759, 10584377, 2608578, 2839604, 11344079, 3303384, 11807523, 12104405, 4128302]
theorem tabN_lt : ∀ j, j < 16 → tabN.getD j 0 < 16777216 := by decide
theorem tabN_st : ∀ j, j < 16 → st4 (j * 1048576) = tabN.getD j 0 := by decide +kernel
theorem st4_tab (n : Nat) (h : n < 16777216) : st4 n = (n * 16 % 16777216) ^^^ tabN.getD (n / 1048576) 0 := by
  have hs := xor_split (n / 1048576) (n % 1048576) (by omega)
  rw [show n / 1048576 * 1048576 + n % 1048576 = n by omega] at hs
  have ht := tabN_st (n / 1048576) (by omega)
  rw [← ht]
  have e : n * 16 % 16777216 = (n % 1048576) * 16 := by omega
  rw [e, ← st4_small (n % 1048576) (by omega), ← st4_lin _ _ (by omega) (by omega), Nat.xor_comm, ← hs]
/-- What half a byte does to a sum. -/
def hf (n h : Nat) : Nat := st4 (n ^^^ h * 1048576)
theorem hlay_lt (n h : Nat) (hn : n < 16777216) (hh : h < 16) : n ^^^ h * 1048576 < 16777216 := xor_lt _ _ hn (by omega)
theorem hf_lt (n h : Nat) (hn : n < 16777216) (hh : h < 16) : hf n h < 16777216 := st4_lt _ (hlay_lt n h hn hh)
/-- A byte is two halves, the upper one first. -/
theorem stB_hf (n b : Nat) (hn : n < 16777216) (hb : b < 256) : stB n b = hf (hf n (b / 16)) (b % 16) := by
  have e : b * 65536 = (b / 16) * 1048576 ^^^ (b % 16) * 65536 := by
    rw [← xor_split (b / 16) (b % 16 * 65536) (by omega)]
    omega
  have h1 : st4 (n ^^^ b * 65536) = st4 (n ^^^ b / 16 * 1048576) ^^^ b % 16 * 1048576 := by
    rw [e, ← Nat.xor_assoc, st4_lin _ _ (hlay_lt n (b / 16) hn (by omega)) (by omega), st4_small (b % 16 * 65536) (by omega)]
    congr 1
    omega
  unfold stB hf
  rw [st8_st4, h1]
theorem hf_tab (n h : Nat) (hn : n < 16777216) (hh : h < 16) : hf n h = (n * 16 % 16777216) ^^^ tabN.getD (n / 1048576 ^^^ h) 0 := by
  have d := Nat.xor_div_two_pow (a := n) (b := h * 1048576) (n := 20)
  have m := Nat.xor_mod_two_pow (a := n) (b := h * 1048576) (n := 20)
  rw [show (2 : Nat) ^ 20 = 1048576 by decide] at d m
  rw [Nat.mul_div_cancel _ (by decide)] at d
  rw [Nat.mul_mod_left, Nat.xor_zero] at m
  unfold hf
  rw [st4_tab _ (hlay_lt n h hn hh), d]
  generalize n ^^^ h * 1048576 = q at m
  congr 1
  omega
theorem hix_lt (n h : Nat) (hn : n < 16777216) (hh : h < 16) : n / 1048576 ^^^ h < 16 := by
  have := Nat.xor_lt_two_pow (n := 4) (x := n / 1048576) (y := h) (by omega) (by omega)
  simpa using this
end Go.Proofs.YtdpdokjoinhjpaaDoor
