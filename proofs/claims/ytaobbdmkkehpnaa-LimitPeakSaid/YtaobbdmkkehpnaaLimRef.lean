/-
  What the document's own answers for layer 4 do: Kind, Right, less.
-/
import Derived.Test.YtaobbdmkkehpnaaProg
import Derived.Test.YtaobbdmkkehpnaaFloatC
import Derived.WalkSpells
import Derived.WalkLawsBesides
import Derived.Handy
import Derived.Lib.Hide
namespace Go.Proofs.Ytaobbdmkkehpnaa
open Go.RowKit

theorem thenB {B : Nat} {w u v : World} (h : Below B w u) (hb : Below u.heap.size u v) (hB : B ≤ u.heap.size) : Below B w v := h.trans (hb.mono hB)

@[go_sem] theorem run_store_float {P : Program} {w : World} (a : Addr) (k : FloatKind) (x : Nat) (m : Mode) : (store a (.float k x) m).run P w = stored P w a (.float k x) m := run_store P w a _ m rfl

/-- The kind of a number's size. -/
def sizeK (r : Nat) : Int := if r = 0 then 4 else if r = 9218868437227405312 then 6 else 5
/-- The kind of a word. -/
def kindZ (x : Nat) : Int := if nanW x then 0 else if negW x then 7 - sizeK (rungW x) else sizeK (rungW x)
theorem ne_self (x : Nat) : (FloatKind.f64.format.order x x != some .eq) = nanW x := by
  show (Ieee.double.order x x != some .eq) = nanW x
  cases h : nanW x
  · rw [order_sv x x h h, Int.compare_eq_eq.2 rfl]; rfl
  · rw [order_nan_left x x h]; rfl

/-- A number's binary digits, and the number of them. -/
theorem bits_run (x : Nat) (w : World) : (callFunc 32 #[.float .f64 x]).run Try.prog w = .ok (.value (.int .u64 x)) w := by kernel_rfl
theorem frombits_run (n : Int) (w : World) : (callFunc 40 #[.int .u64 n]).run Try.prog w = .ok (.value (.float .f64 n.toNat)) w := by kernel_rfl
theorem neg_geq (x : Nat) (hx : x < 18446744073709551616) : negW x = decide ((9223372036854775808 : Int) ≤ (x : Int)) := by
  unfold negW
  rw [Bool.eq_iff_iff]
  simp
  omega
theorem rung_mod (x : Nat) : (x : Int).tmod 9223372036854775808 = (rungW x : Int) := by
  rw [Int.tmod_eq_emod_of_nonneg (by omega)]
  unfold rungW; omega

set_option maxHeartbeats 1000000 in
theorem rkind_any (x : Nat) (w : World) (hx : x < 18446744073709551616) :
    Calls Try.prog 13 #[.float .f64 x] w fun e w' => e = .returned (.int .i64 (kindZ x)) ∧ w = w' := by
  have hne := ne_self x
  have br := bits_run x
  cases hn : nanW x
  · rw [hn] at hne
    have hg := neg_geq x hx
    have hr := rung_mod x
    have hk : kindZ x = if negW x then 7 - sizeK (rungW x) else sizeK (rungW x) := by unfold kindZ; rw [hn]; rfl
    rw [hk]
    have HU := Lib.hid (show (rungW x : Int) < 9223372036854775808 by unfold rungW; omega)
    generalize rungW x = r at hr HU
    unfold sizeK
    clear hx hk hn
    cases hb : negW x
    · rw [hb] at hg
      replace hg := hg.symm
      clear hb
      by_cases r0 : r = 0
      · subst r0
        go_enter Try.func13, Try.ntmps13
        go_wp2
        go_ret
        exact ⟨rfl, rfl⟩
      · by_cases r1 : r = 9218868437227405312
        · subst r1
          go_enter Try.func13, Try.ntmps13
          go_wp2
          go_ret
          exact ⟨rfl, rfl⟩
        · have q0 : ((r : Int) == 0) = false := by simp; omega
          have q1 : ((r : Int) == 9218868437227405312) = false := by simp; omega
          rw [if_neg r0, if_neg r1]
          clear r0 r1 HU
          go_enter Try.func13, Try.ntmps13
          go_wp2_with fail
          go_ret
          exact ⟨rfl, rfl⟩
    · rw [hb] at hg
      replace hg := hg.symm
      clear hb
      by_cases r0 : r = 0
      · subst r0
        go_enter Try.func13, Try.ntmps13
        go_wp2
        go_ret
        exact ⟨rfl, rfl⟩
      · by_cases r1 : r = 9218868437227405312
        · subst r1
          go_enter Try.func13, Try.ntmps13
          go_wp2
          go_ret
          exact ⟨rfl, rfl⟩
        · have q0 : ((r : Int) == 0) = false := by simp; omega
          have q1 : ((r : Int) == 9218868437227405312) = false := by simp; omega
          rw [if_neg r0, if_neg r1]
          clear r0 r1 HU
          go_enter Try.func13, Try.ntmps13
          go_wp2_with fail
          go_ret
          exact ⟨rfl, rfl⟩
  · rw [hn] at hne
    have hk : kindZ x = 0 := by unfold kindZ; rw [hn]; rfl
    rw [hk]
    clear hk hn
    go_enter Try.func13, Try.ntmps13
    go_wp2
    go_ret
    exact ⟨rfl, rfl⟩
/-- May it be? -/
def okW (x : Nat) : Bool := decide (3 ≤ kindZ x)
/-- A budget, as either kind's value. -/
abbrev bud (a b : Nat) : Value := .agg #[.float .f64 a, .float .f64 b]
def lessW (a b : Nat) : Nat := if FloatKind.f64.format.order b a = some .lt then b else a
theorem rkind_ok (x : Nat) (b : Bool) (w : World) (hx : x < 18446744073709551616) (hb : okW x = b) :
    Calls Try.prog 13 #[.float .f64 x] w fun e w' => ∃ k : Int, e = .returned (.int .i64 k) ∧ decide (3 ≤ k) = b ∧ w = w' := by
  refine (rkind_any x w hx).mono ?_
  rintro e w1 ⟨rfl, rfl⟩
  exact ⟨_, rfl, hb, rfl⟩

set_option maxHeartbeats 1000000 in
theorem rright_any (a b : Nat) (w : World) (ha : a < 18446744073709551616) (hb : b < 18446744073709551616) :
    Calls Try.prog 15 #[bud a b] w fun e w' => e = .returned (.bool (okW a && okW b)) ∧ Below w.heap.size w w' := by
  cases oa : okW a
  · go_enter Try.func15, Try.ntmps15
    go_wp2_with fail
    refine (rkind_ok a false _ ha oa).mono ?_
    rintro e w1 ⟨k, rfl, hk, rfl⟩
    go_wp2
    go_ret
    exact ⟨rfl, by go_grown⟩
  · go_enter Try.func15, Try.ntmps15
    go_wp2_with fail
    refine (rkind_ok a true _ ha oa).mono ?_
    rintro e w1 ⟨k, rfl, hk, rfl⟩
    go_wp2_with fail
    refine (rkind_ok b _ _ hb rfl).mono ?_
    rintro e w1 ⟨j, rfl, hj, rfl⟩
    go_wp2
    go_ret
    rw [← hj]
    exact ⟨rfl, by go_grown⟩

theorem rless_any (a b : Nat) (w : World) :
    Calls Try.prog 36 #[.float .f64 a, .float .f64 b] w fun e w' => e = .returned (.float .f64 (lessW a b)) ∧ w = w' := by
  unfold lessW
  by_cases h : FloatKind.f64.format.order b a = some .lt
  · rw [if_pos h]
    have hb : (FloatKind.f64.format.order b a == some .lt) = true := by rw [h]; rfl
    clear h
    go_enter Try.func36, Try.ntmps36
    go_wp2
    go_ret
    exact ⟨rfl, rfl⟩
  · rw [if_neg h]
    have hb : (FloatKind.f64.format.order b a == some .lt) = false := by rw [beq_eq_false_iff_ne]; exact h
    clear h
    go_enter Try.func36, Try.ntmps36
    go_wp2
    go_ret
    exact ⟨rfl, rfl⟩

/-- A number's digits, no number's one. -/
def bitsW (x : Nat) : Nat := if nanW x then 1 else x
theorem rbits_any (x : Nat) (w : World) :
    Calls Try.prog 34 #[.float .f64 x] w fun e w' => e = .returned (.int .u64 (bitsW x : Int)) ∧ w = w' := by
  have hne := ne_self x
  have br := bits_run x
  cases hn : nanW x
  · rw [hn] at hne
    have hk : bitsW x = x := by unfold bitsW; rw [hn]; rfl
    rw [hk]
    clear hk hn
    go_enter Try.func34, Try.ntmps34
    go_wp2
    go_ret
    exact ⟨rfl, rfl⟩
  · rw [hn] at hne
    have hk : bitsW x = 1 := by unfold bitsW; rw [hn]; rfl
    rw [hk]
    clear hk hn
    go_enter Try.func34, Try.ntmps34
    go_wp2
    go_ret
    exact ⟨rfl, rfl⟩
end Go.Proofs.Ytaobbdmkkehpnaa
