/-
  Sums of 24 binary digits: what a byte does to a sum; it is linear, and it loses nothing; bytes' own sum behind them makes it 0.
-/
import Derived.Handy
namespace Go.Proofs.YtdpdokjoinhjpaaDoor

/-- The sum is doubled; if it has the digit 2^24 then, the polynomial is laid over it. -/
def st1 (n : Nat) : Nat := if n < 8388608 then n * 2 else (n * 2) ^^^ 25578747
/-- Eight times. -/
def st8 (n : Nat) : Nat := st1 (st1 (st1 (st1 (st1 (st1 (st1 (st1 n)))))))
/-- What a byte does. -/
def stB (n b : Nat) : Nat := st8 (n ^^^ (b * 65536))
/-- What bytes do. -/
def onL (n : Nat) (l : List UInt8) : Nat := l.foldl (fun n b => stB n b.toNat) n

theorem testBit_of_ge {n : Nat} (h : 8388608 ≤ n) (h2 : n < 16777216) : n.testBit 23 = true := by
  rw [Nat.testBit_eq_decide_div_mod_eq]
  have : n / 2 ^ 23 % 2 = 1 := by omega
  simp [this]
theorem lt_of_testBit {n : Nat} (h2 : n < 16777216) (h : n.testBit 23 = false) : n < 8388608 := by
  by_cases hc : n < 8388608
  · exact hc
  · rw [testBit_of_ge (by omega) h2] at h; simp at h
theorem xor_lt (a b : Nat) (ha : a < 16777216) (hb : b < 16777216) : a ^^^ b < 16777216 := by
  have := Nat.xor_lt_two_pow (n := 24) (x := a) (y := b) (by simpa using ha) (by simpa using hb)
  simpa using this
theorem xor_lt25 (a b : Nat) (ha : a < 33554432) (hb : b < 33554432) : a ^^^ b < 33554432 := by
  have := Nat.xor_lt_two_pow (n := 25) (x := a) (y := b) (by simpa using ha) (by simpa using hb)
  simpa using this
theorem dbl_xor (a b : Nat) : (a ^^^ b) * 2 = (a * 2) ^^^ (b * 2) := by
  have := Nat.shiftLeft_xor_distrib (a := a) (b := b) (i := 1)
  simpa [Nat.shiftLeft_eq] using this
theorem st1_bit (n : Nat) (h : n < 16777216) : st1 n = (n * 2) ^^^ (if n.testBit 23 then 25578747 else 0) := by
  unfold st1
  by_cases hc : n < 8388608
  · have : n.testBit 23 = false := Nat.testBit_lt_two_pow (by simpa using hc)
    simp [hc, this]
  · simp [hc, testBit_of_ge (by omega) h]
theorem st1_lin (a b : Nat) (ha : a < 16777216) (hb : b < 16777216) : st1 (a ^^^ b) = st1 a ^^^ st1 b := by
  rw [st1_bit _ (xor_lt a b ha hb), st1_bit a ha, st1_bit b hb, Nat.testBit_xor, dbl_xor]
  cases a.testBit 23 <;> cases b.testBit 23 <;> simp
  · rw [Nat.xor_assoc]
  · rw [Nat.xor_assoc, Nat.xor_assoc, Nat.xor_comm 25578747]
  · rw [Nat.xor_assoc, Nat.xor_comm 25578747 (b * 2 ^^^ 25578747), Nat.xor_assoc, Nat.xor_self, Nat.xor_zero]
theorem st1_lt (n : Nat) (h : n < 16777216) : st1 n < 16777216 := by
  unfold st1
  by_cases hc : n < 8388608
  · rw [if_pos hc]; omega
  · rw [if_neg hc]
    have h1 : (n * 2 ^^^ 25578747).testBit 24 = false := by
      rw [Nat.testBit_xor]
      have : (n * 2).testBit 24 = true := by
        rw [Nat.testBit_eq_decide_div_mod_eq]
        have : n * 2 / 2 ^ 24 % 2 = 1 := by omega
        simp [this]
      rw [this]
      decide
    have h2 : n * 2 ^^^ 25578747 < 33554432 := xor_lt25 _ _ (by omega) (by decide)
    by_cases h3 : n * 2 ^^^ 25578747 < 16777216
    · exact h3
    · exfalso
      rw [Nat.testBit_eq_decide_div_mod_eq] at h1
      have : (n * 2 ^^^ 25578747) / 2 ^ 24 % 2 = 1 := by
        generalize n * 2 ^^^ 25578747 = m at h2 h3
        omega
      simp [this] at h1
theorem st1_zero (n : Nat) (hz : st1 n = 0) : n = 0 := by
  unfold st1 at hz
  by_cases hc : n < 8388608
  · rw [if_pos hc] at hz; omega
  · rw [if_neg hc] at hz
    have h1 : (n * 2 ^^^ 25578747).testBit 0 = true := by
      rw [Nat.testBit_xor]
      have : (n * 2).testBit 0 = false := by rw [Nat.testBit_zero]; simp
      rw [this]; decide
    rw [hz] at h1
    simp at h1

theorem st8_lt (n : Nat) (h : n < 16777216) : st8 n < 16777216 :=
  st1_lt _ (st1_lt _ (st1_lt _ (st1_lt _ (st1_lt _ (st1_lt _ (st1_lt _ (st1_lt _ h)))))))
theorem st8_lin (a b : Nat) (ha : a < 16777216) (hb : b < 16777216) : st8 (a ^^^ b) = st8 a ^^^ st8 b := by
  unfold st8
  have a1 := st1_lt a ha
  have b1 := st1_lt b hb
  have a2 := st1_lt _ a1
  have b2 := st1_lt _ b1
  have a3 := st1_lt _ a2
  have b3 := st1_lt _ b2
  have a4 := st1_lt _ a3
  have b4 := st1_lt _ b3
  have a5 := st1_lt _ a4
  have b5 := st1_lt _ b4
  have a6 := st1_lt _ a5
  have b6 := st1_lt _ b5
  have a7 := st1_lt _ a6
  have b7 := st1_lt _ b6
  rw [st1_lin _ _ ha hb, st1_lin _ _ a1 b1, st1_lin _ _ a2 b2, st1_lin _ _ a3 b3, st1_lin _ _ a4 b4, st1_lin _ _ a5 b5, st1_lin _ _ a6 b6, st1_lin _ _ a7 b7]
theorem st8_zero (n : Nat) (hz : st8 n = 0) : n = 0 := by
  unfold st8 at hz
  exact st1_zero _ (st1_zero _ (st1_zero _ (st1_zero _ (st1_zero _ (st1_zero _ (st1_zero _ (st1_zero _ hz)))))))
theorem xor_eq_zero {a b : Nat} (h : a ^^^ b = 0) : a = b := by
  have : a ^^^ b ^^^ b = 0 ^^^ b := by rw [h]
  rw [Nat.xor_assoc, Nat.xor_self, Nat.xor_zero, Nat.zero_xor] at this
  exact this
theorem st8_inj (a b : Nat) (ha : a < 16777216) (hb : b < 16777216) (h : st8 a = st8 b) : a = b := by
  refine xor_eq_zero (st8_zero _ ?_)
  rw [st8_lin a b ha hb, h, Nat.xor_self]

theorem lay_lt (n b : Nat) (hn : n < 16777216) (hb : b < 256) : n ^^^ (b * 65536) < 16777216 := xor_lt _ _ hn (by omega)
theorem stB_lt (n b : Nat) (hn : n < 16777216) (hb : b < 256) : stB n b < 16777216 := st8_lt _ (lay_lt n b hn hb)
theorem xor_cancel {a b c : Nat} (h : a ^^^ c = b ^^^ c) : a = b := by
  have : a ^^^ c ^^^ c = b ^^^ c ^^^ c := by rw [h]
  rwa [Nat.xor_assoc, Nat.xor_assoc, Nat.xor_self, Nat.xor_zero, Nat.xor_zero] at this
theorem stB_inj (a b c : Nat) (ha : a < 16777216) (hb : b < 16777216) (hc : c < 256) (h : stB a c = stB b c) : a = b :=
  xor_cancel (st8_inj _ _ (lay_lt a c ha hc) (lay_lt b c hb hc) h)
theorem stB_byte (a c d : Nat) (ha : a < 16777216) (hc : c < 256) (hd : d < 256) (h : stB a c = stB a d) : c = d := by
  have := st8_inj _ _ (lay_lt a c ha hc) (lay_lt a d ha hd) h
  rw [Nat.xor_comm a, Nat.xor_comm a] at this
  have := xor_cancel this
  omega

theorem onL_nil (n : Nat) : onL n [] = n := rfl
theorem onL_cons (n : Nat) (b : UInt8) (l : List UInt8) : onL n (b :: l) = onL (stB n b.toNat) l := by unfold onL; rw [List.foldl_cons]
theorem onL_append (n : Nat) (l m : List UInt8) : onL n (l ++ m) = onL (onL n l) m := by unfold onL; rw [List.foldl_append]
theorem onL_lt (l : List UInt8) : ∀ n : Nat, n < 16777216 → onL n l < 16777216 := by
  induction l with
  | nil => exact fun n h => h
  | cons b l ih =>
    intro n h
    rw [onL_cons]
    exact ih _ (stB_lt n _ h b.toNat_lt)
theorem onL_inj (l : List UInt8) : ∀ a b : Nat, a < 16777216 → b < 16777216 → onL a l = onL b l → a = b := by
  induction l with
  | nil => exact fun a b _ _ h => h
  | cons c l ih =>
    intro a b ha hb h
    rw [onL_cons, onL_cons] at h
    exact stB_inj a b _ ha hb c.toNat_lt (ih _ _ (stB_lt a _ ha c.toNat_lt) (stB_lt b _ hb c.toNat_lt) h)

/-- One byte is another one: the sum is another one. -/
theorem onL_one (n : Nat) (hn : n < 16777216) (l m : List UInt8) (c d : UInt8) (hcd : c ≠ d) : onL n (l ++ c :: m) ≠ onL n (l ++ d :: m) := by
  intro h
  rw [onL_append, onL_append, onL_cons, onL_cons] at h
  have hl := onL_lt l n hn
  have := onL_inj m _ _ (stB_lt _ _ hl c.toNat_lt) (stB_lt _ _ hl d.toNat_lt) h
  have := stB_byte _ _ _ hl c.toNat_lt d.toNat_lt this
  exact hcd (UInt8.toNat_inj.1 this)

/-- Three texts of one length, laid over one another. -/
theorem xor3 (a b c d e f : Nat) : (a ^^^ b) ^^^ (c ^^^ d) ^^^ (e ^^^ f) = (a ^^^ c ^^^ e) ^^^ (b ^^^ d ^^^ f) := by
  apply Nat.eq_of_testBit_eq
  intro i
  simp only [Nat.testBit_xor]
  cases a.testBit i <;> cases b.testBit i <;> cases c.testBit i <;> cases d.testBit i <;> cases e.testBit i <;> cases f.testBit i <;> rfl
theorem mul65536_xor (a b : Nat) : (a ^^^ b) * 65536 = (a * 65536) ^^^ (b * 65536) := by
  have := Nat.shiftLeft_xor_distrib (a := a) (b := b) (i := 16)
  simpa [Nat.shiftLeft_eq] using this
theorem stB_lin3 (a b c x y z : Nat) (ha : a < 16777216) (hb : b < 16777216) (hc : c < 16777216) (hx : x < 256) (hy : y < 256) (hz : z < 256) :
    stB a x ^^^ stB b y ^^^ stB c z = stB (a ^^^ b ^^^ c) (x ^^^ y ^^^ z) := by
  unfold stB
  rw [← st8_lin _ _ (lay_lt a x ha hx) (lay_lt b y hb hy), ← st8_lin _ _ (xor_lt _ _ (lay_lt a x ha hx) (lay_lt b y hb hy)) (lay_lt c z hc hz), xor3, mul65536_xor, mul65536_xor]
/-- Byte by byte. -/
def over (a b c : List UInt8) : List UInt8 := match a, b, c with
  | x :: a, y :: b, z :: c => (x ^^^ y ^^^ z) :: over a b c
  | _, _, _ => []
theorem onL_over : ∀ (a b c : List UInt8) (m n k : Nat), m < 16777216 → n < 16777216 → k < 16777216 → a.length = b.length → b.length = c.length →
    onL m a ^^^ onL n b ^^^ onL k c = onL (m ^^^ n ^^^ k) (over a b c)
  | [], [], [], m, n, k, _, _, _, _, _ => by rw [over, onL_nil, onL_nil, onL_nil, onL_nil]; all_goals simp
  | x :: a, y :: b, z :: c, m, n, k, hm, hn, hk, h1, h2 => by
    rw [onL_cons, onL_cons, onL_cons, over, onL_cons, onL_over a b c _ _ _ (stB_lt m _ hm x.toNat_lt) (stB_lt n _ hn y.toNat_lt) (stB_lt k _ hk z.toNat_lt) (by simpa using h1) (by simpa using h2),
      stB_lin3 m n k _ _ _ hm hn hk x.toNat_lt y.toNat_lt z.toNat_lt, UInt8.toNat_xor, UInt8.toNat_xor]

/-- While nothing stands in the upper byte a sum is shifted alone. -/
theorem st8_small (n : Nat) (h : n < 65536) : st8 n = n * 256 := by
  unfold st8
  have e : ∀ m, m < 8388608 → st1 m = m * 2 := fun m hm => by unfold st1; rw [if_pos hm]
  have e1 : st1 n = n * 2 := e n (by omega)
  have e2 : st1 (n * 2) = n * 4 := by rw [e _ (by omega)]; omega
  have e3 : st1 (n * 4) = n * 8 := by rw [e _ (by omega)]; omega
  have e4 : st1 (n * 8) = n * 16 := by rw [e _ (by omega)]; omega
  have e5 : st1 (n * 16) = n * 32 := by rw [e _ (by omega)]; omega
  have e6 : st1 (n * 32) = n * 64 := by rw [e _ (by omega)]; omega
  have e7 : st1 (n * 64) = n * 128 := by rw [e _ (by omega)]; omega
  have e8 : st1 (n * 128) = n * 256 := by rw [e _ (by omega)]; omega
  rw [e1, e2, e3, e4, e5, e6, e7, e8]
theorem xor_add (h l : Nat) (hl : l < 65536) : (h * 65536 + l) ^^^ (h * 65536) = l := by
  apply Nat.eq_of_testBit_eq
  intro i
  rw [Nat.testBit_xor]
  have e1 : h * 65536 + l = 2 ^ 16 * h + l := by rw [Nat.mul_comm h, show (65536 : Nat) = 2 ^ 16 by decide]
  have e2 : h * 65536 = 2 ^ 16 * h := by rw [Nat.mul_comm h, show (65536 : Nat) = 2 ^ 16 by decide]
  have hl16 : l < 2 ^ 16 := by omega
  rw [e1, e2, Nat.testBit_two_pow_mul_add _ hl16, Nat.testBit_two_pow_mul]
  clear e1 e2
  by_cases hi : i < 16
  · have : ¬ 16 ≤ i := by omega
    simp [hi, this]
  · have h16 : 16 ≤ i := by omega
    have : l.testBit i = false := Nat.testBit_lt_two_pow (Nat.lt_of_lt_of_le hl16 (Nat.pow_le_pow_right (by decide) h16))
    simp [hi, h16, this]
theorem stB_top (h l : Nat) (hl : l < 65536) : stB (h * 65536 + l) h = l * 256 := by
  unfold stB
  rw [xor_add h l hl, st8_small l hl]
/-- The three bytes of a sum. -/
def by2 (n : Nat) : UInt8 := UInt8.ofNat (n / 65536)
def by1 (n : Nat) : UInt8 := UInt8.ofNat (n / 256)
def by0 (n : Nat) : UInt8 := UInt8.ofNat n
def tail3 (n : Nat) : List UInt8 := [by2 n, by1 n, by0 n]
theorem onL_tail (n : Nat) (h : n < 16777216) : onL n (tail3 n) = 0 := by
  have e2 : (by2 n).toNat = n / 65536 := by unfold by2; rw [UInt8.toNat_ofNat']; omega
  have e1 : (by1 n).toNat = n / 256 % 256 := by unfold by1; rw [UInt8.toNat_ofNat']
  have e0 : (by0 n).toNat = n % 256 := by unfold by0; rw [UInt8.toNat_ofNat']
  unfold tail3
  rw [onL_cons, onL_cons, onL_cons, onL_nil, e2, e1, e0]
  have s2 : stB n (n / 65536) = (n % 65536) * 256 := by
    have := stB_top (n / 65536) (n % 65536) (by omega)
    rwa [show n / 65536 * 65536 + n % 65536 = n by omega] at this
  have s1 : stB (n % 65536 * 256) (n / 256 % 256) = (n % 256 * 256) * 256 := by
    have := stB_top (n / 256 % 256) (n % 256 * 256) (by omega)
    rwa [show n / 256 % 256 * 65536 + n % 256 * 256 = n % 65536 * 256 by omega] at this
  have s0 : stB (n % 256 * 256 * 256) (n % 256) = 0 := by
    have := stB_top (n % 256) 0 (by omega)
    rwa [show n % 256 * 65536 + 0 = n % 256 * 256 * 256 by omega, Nat.zero_mul] at this
  rw [s2, s1, s0]
/-- Only a sum's own bytes make it 0. -/
theorem onL_three (n : Nat) (h : n < 16777216) (a b c : UInt8) (hz : onL n [a, b, c] = 0) : [a, b, c] = tail3 n := by
  have ha := a.toNat_lt
  have hb := b.toNat_lt
  have hc := c.toNat_lt
  have hm : a.toNat * 65536 + b.toNat * 256 + c.toNat < 16777216 := by omega
  have ht : tail3 (a.toNat * 65536 + b.toNat * 256 + c.toNat) = [a, b, c] := by
    unfold tail3 by2 by1 by0
    have t2 : UInt8.ofNat ((a.toNat * 65536 + b.toNat * 256 + c.toNat) / 65536) = a := by
      apply UInt8.toNat_inj.1; rw [UInt8.toNat_ofNat']; omega
    have t1 : UInt8.ofNat ((a.toNat * 65536 + b.toNat * 256 + c.toNat) / 256) = b := by
      apply UInt8.toNat_inj.1; rw [UInt8.toNat_ofNat']; omega
    have t0 : UInt8.ofNat (a.toNat * 65536 + b.toNat * 256 + c.toNat) = c := by
      apply UInt8.toNat_inj.1; rw [UInt8.toNat_ofNat']; omega
    rw [t2, t1, t0]
  have := onL_tail _ hm
  rw [ht] at this
  have e := onL_inj _ _ _ h hm (hz.trans this.symm)
  rw [e, ht]
end Go.Proofs.YtdpdokjoinhjpaaDoor
