/-
  The statement LimitEnds: what its walk comes to, if package limit's calls do what the document says.
-/
import Derived.Test.YtaobbdmkkehpnaaLimPeakLaw
namespace Go.Proofs.Ytaobbdmkkehpnaa
open Go.RowKit

theorem ok_pos (r : Nat) (h : r ≤ 2047 * 2 ^ 52) : okW r = true := by
  obtain ⟨e1, e2, e3, -⟩ := pos_word r h
  unfold okW kindZ
  rw [e3, e1, e2]
  unfold sizeK
  simp only [Bool.false_eq_true, if_false]
  split
  · decide
  · split <;> decide
theorem allow_sv (n b : Nat) (hb : nanW b = false) (h : sv (fl n) ≤ sv b) : allowB n b = true := by
  unfold allowB
  show (Ieee.double.order (fl n) b == some .lt || Ieee.double.order (fl n) b == some .eq) = true
  rw [order_sv _ _ (fl_sv n).1 hb]
  by_cases e : sv (fl n) < sv b
  · rw [Int.compare_eq_lt.2 e]; rfl
  · rw [Int.compare_eq_eq.2 (by omega)]; rfl
theorem allow_sv_not (n b : Nat) (hb : nanW b = false) (h : sv b < sv (fl n)) : allowB n b = false := by
  unfold allowB
  show (Ieee.double.order (fl n) b == some .lt || Ieee.double.order (fl n) b == some .eq) = false
  rw [order_sv _ _ (fl_sv n).1 hb, Int.compare_eq_gt.2 h]
  rfl
theorem allow_inf (n : Nat) : allowB n 9218868437227405312 = true := by
  have hp := pos_word 9218868437227405312 (by decide)
  refine allow_sv n _ hp.2.2.1 ?_
  rw [(fl_sv n).2, hp.2.2.2]
  have := val_le (fl_le n)
  have e : (2047 * 2 ^ 52 : Nat) = 9218868437227405312 := by decide
  rw [e] at this
  omega
theorem fl_pos (n : Nat) (h0 : 0 < n) (h : n < 2 ^ 53) : 0 < sv (fl n) := by
  rw [(fl_sv n).2, fl_val n h]
  have := Nat.mul_pos h0 oneU_pos
  omega
theorem sv_zeros : sv 0 = 0 ∧ sv 9223372036854775808 = 0 ∧ nanW 0 = false ∧ nanW 9223372036854775808 = false := by decide +kernel
theorem allow_zero (n : Nat) (h0 : 0 < n) (h : n < 2 ^ 53) : allowB n 0 = false ∧ allowB n 9223372036854775808 = false := by
  have hp := fl_pos n h0 h
  obtain ⟨s1, s2, s3, s4⟩ := sv_zeros
  exact ⟨allow_sv_not n 0 s3 (by rw [s1]; exact hp), allow_sv_not n _ s4 (by rw [s2]; exact hp)⟩
theorem allow_none : allowB 0 0 = true := by decide +kernel

/-- Twice a whole number. -/
def dblW (x : Nat) : Nat := if x = 0 then 0 else fl x + 2 ^ 52
theorem fl_mid (x : Nat) (h0 : x ≠ 0) (h : x < 2 ^ 32) : 100 * 2 ^ 52 ≤ fl x ∧ fl x + 2 ^ 52 < 2047 * 2 ^ 52 := by
  obtain ⟨e, a1, a2, hl⟩ := fl_exact x h0 (by omega)
  rw [e]
  have : x.log2 < 32 := (Nat.log2_lt h0).2 h
  generalize x * 2 ^ (52 - x.log2) = q at a1 a2
  omega
theorem dbl_mul (x : Nat) (h : x < 2 ^ 32) : Ieee.double.mul (fl x) 4611686018427387904 = some (dblW x) ∧ Ieee.double.mul (dblW x) 4602678819172646912 = some (fl x) := by
  unfold dblW
  by_cases h0 : x = 0
  · subst h0
    rw [if_pos rfl, fl_zero]
    constructor <;> decide +kernel
  · rw [if_neg h0]
    obtain ⟨b1, b2⟩ := fl_mid x h0 h
    exact ⟨mul_two _ b1 b2, mul_half _ b1 b2⟩
theorem dbl_le (x : Nat) (h : x < 2 ^ 32) : dblW x ≤ 2047 * 2 ^ 52 := by
  unfold dblW
  by_cases h0 : x = 0
  · rw [if_pos h0]; exact Nat.zero_le _
  · rw [if_neg h0]
    have := (fl_mid x h0 h).2
    omega
theorem scale_two (x y : Nat) (hx : x < 2 ^ 32) (hy : y < 2 ^ 32) : scV (fl x) (fl y) 4611686018427387904 = bud (dblW x) (dblW y) ∧ scE (fl x) (fl y) 4611686018427387904 = 0 := by
  have k1 := (dbl_mul x hx).1
  have k2 := (dbl_mul y hy).1
  have o : scOk (fl x) (fl y) 4611686018427387904 = true := by
    unfold scOk mulOk
    rw [k1, k2]
    simp only [ok_pos _ (fl_le x), ok_pos _ (fl_le y), ok_pos _ (dbl_le x hx), ok_pos _ (dbl_le y hy), Bool.and_self]
  unfold scV scE mulV
  rw [o, k1, k2]
  exact ⟨rfl, rfl⟩
theorem scale_half (x y : Nat) (hx : x < 2 ^ 32) (hy : y < 2 ^ 32) : scV (dblW x) (dblW y) 4602678819172646912 = bud (fl x) (fl y) ∧ scE (dblW x) (dblW y) 4602678819172646912 = 0 := by
  have k1 := (dbl_mul x hx).2
  have k2 := (dbl_mul y hy).2
  have o : scOk (dblW x) (dblW y) 4602678819172646912 = true := by
    unfold scOk mulOk
    rw [k1, k2]
    simp only [ok_pos _ (fl_le x), ok_pos _ (fl_le y), ok_pos _ (dbl_le x hx), ok_pos _ (dbl_le y hy), Bool.and_self]
  unfold scV scE mulV
  rw [o, k1, k2]
  exact ⟨rfl, rfl⟩
theorem eq_self (r : Nat) (h : r ≤ 2047 * 2 ^ 52) : (FloatKind.f64.format.order r r == some .eq) = true := by
  show (Ieee.double.order r r == some .eq) = true
  rw [order_sv r r (pos_word r h).2.2.1 (pos_word r h).2.2.1, Int.compare_eq_eq.2 rfl]
  rfl
theorem le1 : (okW 9218868437227405312 && okW 9218868437227405312) = true := by decide +kernel
theorem le2 : (okW 9223372036854775808 && okW 0) = true := by decide +kernel

set_option maxHeartbeats 4000000 in
set_option maxRecDepth 100000 in
theorem limitEnds_walk (L : LimOk) (n x : Nat) (w : World) (hn : n < 4294967296) (hx : x < 4294967296) :
    Calls Try.prog 6 #[.int .u32 (n : Int), .int .u32 (x : Int)] w fun e w' => e = .returned (.bool true) ∧ Below w.heap.size w w' := by
  have fx := fl_of x
  have fn := fl_of n
  have ex := eq_self _ (fl_le x)
  have en := eq_self _ (fl_le n)
  have FX := Lib.hid (fl_le x)
  have FN := Lib.hid (fl_le n)
  have DX := Lib.hid (dbl_le x (by omega))
  have DN := Lib.hid (dbl_le n (by omega))
  have S1 := Lib.hid (scale_two x n (by omega) (by omega))
  have S2 := Lib.hid (scale_half x n (by omega) (by omega))
  have A0 := Lib.hid (allow_zero (1 + n) (by omega) (by omega))
  have nb : (n : Int) < 4294967296 := by omega
  have NB := Lib.hid hn
  generalize fl x = X at fx ex FX S1 S2
  generalize fl n = N at fn en FN S1 S2
  generalize dblW x = X2 at DX S1 S2
  generalize dblW n = N2 at DN S1 S2
  clear hn hx
  go_enter Try.func6, Try.ntmps6
  go_wp2_with fail
  refine (inf_any _).mono ?_
  rintro e w' ⟨rfl, rfl⟩
  go_wp2_with fail
  refine (L.new_yes _ _ _ (by decide) (by decide) le1).mono ?_
  rintro e w1 ⟨p, rfl, hp, hm, hb⟩
  have M1 := Lib.hid hm
  have B1 := Lib.hid hb
  have HP := Lib.hid hp
  clear hm hb hp
  go_wp2_with fail
  refine (sign_any _).mono ?_
  rintro e w' ⟨rfl, rfl⟩
  go_wp2_with fail
  refine (L.new_yes _ _ _ (by decide) (by decide) le2).mono ?_
  rintro e w2 ⟨q, rfl, hq, hm, hb⟩
  have PQ := Lib.hid (show p ≠ q by have := L.lt M1.out; omega)
  have HQ := Lib.hid (show w.heap.size ≤ q by have := B1.out.size; omega)
  have M2 := Lib.hid (L.call M1.out hb)
  have Z2 := Lib.hid hm
  have B2 := Lib.hid (thenB B1.out hb B1.out.size)
  have PW := Lib.hid (L.lt M2.out)
  have QW := Lib.hid (L.lt Z2.out)
  clear hm hb hq M1 B1
  go_wp2_with fail
  refine (L.scale_k _ _ _ _ _ _ (by have := FX.out; omega) (by have := FN.out; omega) (by decide) S1.out.1 S1.out.2).mono ?_
  rintro e w3 ⟨rfl, hb⟩
  have ha := (Below.refl w2.heap.size w2).alloc (Nat.le_refl _) (.cells #[.float .f64 X, .float .f64 N] 24)
  have M3 := Lib.hid (L.call (L.call M2.out ha) hb)
  have Z3 := Lib.hid (L.call (L.call Z2.out ha) hb)
  have RB3 := Lib.hid ((RowL.new w2 w2.heap.size X N rfl).call hb)
  have B3 := Lib.hid (thenB (B2.out.alloc B2.out.size _) hb (Nat.le_trans B2.out.size (by simp)))
  clear hb ha M2 Z2 B2
  go_wp2_with fail
  refine (L.scale_k _ _ _ _ _ _ (by have := DX.out; omega) (by have := DN.out; omega) (by decide) S2.out.1 S2.out.2).mono ?_
  rintro e w4 ⟨rfl, hb⟩
  have ha := (Below.refl w3.heap.size w3).alloc (Nat.le_refl _) (.cells #[.float .f64 X2, .float .f64 N2] 24)
  have M4 := Lib.hid (L.call (L.call M3.out ha) hb)
  have Z4 := Lib.hid (L.call (L.call Z3.out ha) hb)
  have RB4 := Lib.hid ((RB3.out.alloc _).call hb)
  have B4 := Lib.hid (thenB (B3.out.alloc B3.out.size _) hb (Nat.le_trans B3.out.size (by simp)))
  clear hb ha M3 Z3 B3 RB3
  have WW := Lib.hid RB4.out.lt
  have ha := (Below.refl w4.heap.size w4).alloc (Nat.le_refl _) (.cells #[.float .f64 X, .float .f64 N] 24)
  have M5 := Lib.hid (L.call M4.out ha)
  have Z5 := Lib.hid (L.call Z4.out ha)
  have RB5 := Lib.hid (RB4.out.call ha)
  have RD5 := Lib.hid (RowL.new w4 w4.heap.size X N rfl)
  have B5 := Lib.hid (thenB B4.out ha B4.out.size)
  clear ha M4 Z4 RB4 B4
  go_wp2_with fail
  refine (L.step_k p _ _ 0 0 0 (1 + n) true (1 + (n : Int)) _ M5.out (by decide) (by omega) (by have := NB.out; omega) (by have := NB.out; unfold stepN; rw [if_pos (by omega)]; omega) (allow_inf _)).mono ?_
  rintro e w5 ⟨rfl, hm, hb⟩
  have M6 := Lib.hid hm
  have Z6 := Lib.hid (L.but Z5.out hb PQ.out.symm)
  have RB6 := Lib.hid (RB5.out.but hb (by have := PW.out; omega))
  have RD6 := Lib.hid (RD5.out.but hb (by have := PW.out; have := WW.out; omega))
  have B6 := Lib.hid (But.below B5.out hb B5.out.size HP.out)
  clear hm hb M5 Z5 RB5 RD5 B5
  go_wp2_with fail
  refine (L.hold_k p _ _ (1 + n) 0 0 (1 + n) (1 + n) true (1 + (n : Int)) _ M6.out (by decide) (by omega) (by have := NB.out; omega) (by have := NB.out; unfold holdN; rw [if_pos (by omega)]; omega) (by omega) (allow_inf _)).mono ?_
  rintro e w6 ⟨rfl, hm, hb⟩
  have M7 := Lib.hid hm
  have Z7 := Lib.hid (L.but Z6.out hb PQ.out.symm)
  have RB7 := Lib.hid (RB6.out.but hb (by have := PW.out; omega))
  have RD7 := Lib.hid (RD6.out.but hb (by have := PW.out; have := WW.out; omega))
  have B7 := Lib.hid (But.below B6.out hb B6.out.size HP.out)
  clear hm hb M6 Z6 RB6 RD6 B6
  go_wp2_with fail
  refine (L.step_k p _ _ (1 + n) (1 + n) (1 + n) 4611686018427387904 true 4611686018427387904 _ M7.out (by have := NB.out; omega) (by decide) (by decide) (by have := NB.out; unfold stepN; rw [if_pos (by decide)]; omega) (allow_inf _)).mono ?_
  rintro e w7 ⟨rfl, hm, hb⟩
  have M8 := Lib.hid hm
  have Z8 := Lib.hid (L.but Z7.out hb PQ.out.symm)
  have RB8 := Lib.hid (RB7.out.but hb (by have := PW.out; omega))
  have RD8 := Lib.hid (RD7.out.but hb (by have := PW.out; have := WW.out; omega))
  have B8 := Lib.hid (But.below B7.out hb B7.out.size HP.out)
  clear hm hb M7 Z7 RB7 RD7 B7
  go_wp2_with fail
  refine (L.step_k p _ _ 4611686018427387904 (1 + n) (1 + n) 4611686018427387904 true 4611686018427387904 _ M8.out (by decide) (by decide) (by decide) (by decide) (allow_inf _)).mono ?_
  rintro e w8 ⟨rfl, hm, hb⟩
  have M9 := Lib.hid hm
  have Z9 := Lib.hid (L.but Z8.out hb PQ.out.symm)
  have RB9 := Lib.hid (RB8.out.but hb (by have := PW.out; omega))
  have RD9 := Lib.hid (RD8.out.but hb (by have := PW.out; have := WW.out; omega))
  have B9 := Lib.hid (But.below B8.out hb B8.out.size HP.out)
  clear hm hb M8 Z8 RB8 RD8 B8
  go_wp2_with fail
  refine (L.step_k q _ _ 0 0 0 (1 + n) false (1 + (n : Int)) _ Z9.out (by decide) (by omega) (by have := NB.out; omega) (by have := NB.out; unfold stepN; rw [if_pos (by omega)]; omega) A0.out.2).mono ?_
  rintro e w9 ⟨rfl, hm, hb⟩
  have Z10 := Lib.hid hm
  have M10 := Lib.hid (L.but M9.out hb PQ.out)
  have RB10 := Lib.hid (RB9.out.but hb (by have := QW.out; omega))
  have RD10 := Lib.hid (RD9.out.but hb (by have := QW.out; have := WW.out; omega))
  have B10 := Lib.hid (But.below B9.out hb B9.out.size HQ.out)
  clear hm hb M9 Z9 RB9 RD9 B9
  go_wp2_with fail
  refine (L.hold_k q _ _ (1 + n) 0 0 (1 + n) (1 + n) false (1 + (n : Int)) _ Z10.out (by decide) (by omega) (by have := NB.out; omega) (by have := NB.out; unfold holdN; rw [if_pos (by omega)]; omega) (by omega) A0.out.1).mono ?_
  rintro e w10 ⟨rfl, hm, hb⟩
  have Z11 := Lib.hid hm
  have M11 := Lib.hid (L.but M10.out hb PQ.out)
  have RB11 := Lib.hid (RB10.out.but hb (by have := QW.out; omega))
  have RD11 := Lib.hid (RD10.out.but hb (by have := QW.out; have := WW.out; omega))
  have B11 := Lib.hid (But.below B10.out hb B10.out.size HQ.out)
  clear hm hb M10 Z10 RB10 RD10 B10
  go_wp2_with fail
  refine (L.hold_k q _ _ (1 + n) (1 + n) (1 + n) 0 (1 + n) true (-(1 + (n : Int))) _ Z11.out (by have := NB.out; omega) (by have := NB.out; omega) (by omega) (by unfold holdN; rw [if_neg (by omega)]; omega) (by omega) allow_none).mono ?_
  rintro e w11 ⟨rfl, hm, hb⟩
  have Z12 := Lib.hid hm
  have M12 := Lib.hid (L.but M11.out hb PQ.out)
  have RB12 := Lib.hid (RB11.out.but hb (by have := QW.out; omega))
  have RD12 := Lib.hid (RD11.out.but hb (by have := QW.out; have := WW.out; omega))
  have B12 := Lib.hid (But.below B11.out hb B11.out.size HQ.out)
  clear hm hb M11 Z11 RB11 RD11 B11
  obtain ⟨b0, b1⟩ := RB12.out.cells
  obtain ⟨d0, d1⟩ := RD12.out.cells
  go_wp2_with fail
  refine (fixed_any L _).mono ?_
  rintro e w12 ⟨rfl, hb⟩
  have BE := Lib.hid (thenB B12.out hb B12.out.size)
  clear hb
  go_wp2_with fail
  go_ret
  exact ⟨rfl, BE.out⟩
end Go.Proofs.Ytaobbdmkkehpnaa
