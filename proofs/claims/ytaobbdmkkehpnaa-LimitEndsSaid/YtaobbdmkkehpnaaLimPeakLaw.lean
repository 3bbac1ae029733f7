/-
  The statement LimitPeak: what its walk comes to, if package limit's calls do what the document says.
-/
import Derived.Test.YtaobbdmkkehpnaaLimFixed
namespace Go.Proofs.Ytaobbdmkkehpnaa
open Go.RowKit

theorem allow_small (n m : Nat) (hn : n < 2 ^ 53) (hm : m < 2 ^ 53) : allowB n (fl m) = decide (n ≤ m) := by
  unfold allowB
  show (Ieee.double.order (fl n) (fl m) == some .lt || Ieee.double.order (fl n) (fl m) == some .eq) = _
  rw [order_sv _ _ (fl_sv n).1 (fl_sv m).1]
  by_cases h : n < m
  · rw [Int.compare_eq_lt.2 ((fl_lt_iff n m hn hm).2 h)]
    have : n ≤ m := by omega
    simp [this]
  · by_cases e : n = m
    · subst e
      rw [Int.compare_eq_eq.2 rfl]
      simp
    · rw [Int.compare_eq_gt.2 ((fl_lt_iff m n hm hn).2 (by omega))]
      have : ¬ n ≤ m := by omega
      simp [this]
theorem fl_100 : fl 100 = 4636737291354636288 := by decide +kernel
theorem allow_100 (n : Nat) (hn : n < 2 ^ 53) : allowB n 4636737291354636288 = decide (n ≤ 100) := by rw [← fl_100]; exact allow_small n 100 hn (by decide)
theorem lp1 : (okW 4621819117588971520 && okW 4636737291354636288) = true := by decide +kernel

set_option maxHeartbeats 4000000 in
theorem limitPeak_walk (L : LimOk) (ao : Option Addr) (n cap : Nat) (z : Nat → Int) (w : World)
    (hz : ∀ i, i < n → -128 ≤ z i ∧ z i ≤ 127) (hc : ∀ i, i < n → ∃ b off, ao = some ⟨b, off, none⟩ ∧ b < w.heap.size ∧ w.cell? ⟨b, off + i, none⟩ = some (.int .i8 (z i))) :
    Calls Try.prog 8 #[.slice ao n cap] w fun e w' => e = .returned (.bool true) ∧ Below w.heap.size w w' := by
  have HZ := Lib.hid hz
  have HC := Lib.hid hc
  clear hz hc
  go_enter Try.func8, Try.ntmps8
  go_wp2_with fail
  refine (L.new_yes _ _ _ (by decide) (by decide) lp1).mono ?_
  rintro e w1 ⟨p, rfl, hp, hm, hb⟩
  have M1 := Lib.hid hm
  have B1 := Lib.hid hb
  have HP := Lib.hid hp
  clear hm hb hp
  go_wp2_with fail
  go_loopw [5, 6, 7] (fun x y i wr => ∃ k hd pk : Nat, i = .int .i64 k ∧ x = .int .i64 hd ∧ y = .int .i64 pk ∧ k ≤ 60 ∧ hd ≤ 127 * k ∧ pk ≤ 127 * k ∧ L.Met wr p 4621819117588971520 4636737291354636288 0 hd pk ∧ Below w.heap.size w wr) (fun _ _ i _ => 60 - (intOf i).toNat)
  case atStart => exact ⟨0, 0, 0, rfl, rfl, rfl, by omega, by omega, by omega, M1.out, B1.out⟩
  case round =>
    obtain ⟨k, hd, pk, rfl, rfl, rfl, hk, h1, h2, hm, hb⟩ := hrel
    have MM := Lib.hid hm
    have BB := Lib.hid hb
    clear hm hb
    have kk : (0 : Int) ≤ k := by omega
    by_cases hlt : k < n
    · by_cases h60 : k < 60
      · obtain ⟨b, off, rfl, hbw, hcell⟩ := HC.out k hlt
        have hc2 := (BB.out.cell (p := ⟨b, off + k, none⟩) hbw).trans hcell
        obtain ⟨z0, z1⟩ := HZ.out k hlt
        generalize z k = x at hc2 z0 z1
        clear hcell
        obtain ⟨q, hq⟩ : ∃ q : Nat, q = holdN hd x := ⟨_, rfl⟩
        have hqv : (q : Int) = if (0 : Int) < (hd : Int) + x then (hd : Int) + x else 0 := by
          rw [hq]
          unfold holdN
          split <;> split <;> omega
        have hql : q ≤ 127 * (k + 1) := by split at hqv <;> omega
        have hdb : (hd : Int) ≤ 7620 := by omega
        have qb : (q : Int) ≤ 7620 := by omega
        have pkb : (pk : Int) ≤ 7620 := by omega
        have QL := Lib.hid hql
        have PL := Lib.hid (show pk ≤ 127 * (k + 1) by omega)
        have HQ := Lib.hid hq.symm
        have HD := Lib.hid (show hd ≤ 4611686018427387904 by omega)
        have Z := Lib.hid (show -9223372036854775808 ≤ x ∧ x < 9223372036854775808 by omega)
        have A1 := Lib.hid (allow_100 q (by omega))
        clear hql hq h1 h2
        by_cases hpos : (0 : Int) < (hd : Int) + x
        · rw [if_pos hpos] at hqv
          have q0 : 0 < q := by omega
          have hqs := hqv.symm
          obtain ⟨c, cb⟩ : ∃ c, decide ((q : Int) ≤ 100) = c := ⟨_, rfl⟩
          have CB := Lib.hid (show allowB q 4636737291354636288 = c by
            rw [A1.out, ← cb]
            exact decide_eq_decide.2 (by omega))
          clear hqv hpos
          by_cases hpq : pk < q
          · have MX := Lib.hid (show max pk q = q by omega)
            go_wp2_with fail
            refine (L.hold_k p _ _ 0 hd pk q q c x _ MM.out HD.out Z.out.1 Z.out.2 HQ.out MX.out CB.out).mono ?_
            rintro e w2 ⟨rfl, hm, hb⟩
            have M2 := Lib.hid hm
            have B2 := Lib.hid (But.below BB.out hb BB.out.size HP.out)
            clear hm hb
            go_wp2_with fail
            refine (L.used p _ _ 0 q q _ M2.out).mono ?_
            rintro e w3 ⟨rfl, hb⟩
            have M3 := Lib.hid (L.call M2.out hb)
            have B3 := Lib.hid (thenB B2.out hb B2.out.size)
            clear hb
            go_wp2_with fail
            go_roundw
            case rel => exact ⟨k + 1, q, q, by go_num, rfl, rfl, by omega, QL.out, QL.out, M3.out, B3.out⟩
            case measure => simp [intOf]; omega
          · have MX := Lib.hid (show max pk q = pk by omega)
            go_wp2_with fail
            refine (L.hold_k p _ _ 0 hd pk q pk c x _ MM.out HD.out Z.out.1 Z.out.2 HQ.out MX.out CB.out).mono ?_
            rintro e w2 ⟨rfl, hm, hb⟩
            have M2 := Lib.hid hm
            have B2 := Lib.hid (But.below BB.out hb BB.out.size HP.out)
            clear hm hb
            go_wp2_with fail
            refine (L.used p _ _ 0 q pk _ M2.out).mono ?_
            rintro e w3 ⟨rfl, hb⟩
            have M3 := Lib.hid (L.call M2.out hb)
            have B3 := Lib.hid (thenB B2.out hb B2.out.size)
            clear hb
            go_wp2_with fail
            go_roundw
            case rel => exact ⟨k + 1, q, pk, by go_num, rfl, rfl, by omega, QL.out, PL.out, M3.out, B3.out⟩
            case measure => simp [intOf]; omega
        · rw [if_neg hpos] at hqv
          obtain rfl : q = 0 := by omega
          have CB := Lib.hid (show allowB 0 4636737291354636288 = true by rw [A1.out]; rfl)
          have np : ¬ (0 : Int) < (hd : Int) + x := hpos
          clear hqv hpos qb
          have MX := Lib.hid (show max pk 0 = pk by omega)
          go_wp2_with fail
          refine (L.hold_k p _ _ 0 hd pk 0 pk true x _ MM.out HD.out Z.out.1 Z.out.2 HQ.out MX.out CB.out).mono ?_
          rintro e w2 ⟨rfl, hm, hb⟩
          have M2 := Lib.hid hm
          have B2 := Lib.hid (But.below BB.out hb BB.out.size HP.out)
          clear hm hb
          go_wp2_with fail
          refine (L.used p _ _ 0 0 pk _ M2.out).mono ?_
          rintro e w3 ⟨rfl, hb⟩
          have M3 := Lib.hid (L.call M2.out hb)
          have B3 := Lib.hid (thenB B2.out hb B2.out.size)
          clear hb
          go_wp2_with fail
          go_roundw
          case rel => exact ⟨k + 1, 0, pk, by go_num, rfl, rfl, by omega, QL.out, PL.out, M3.out, B3.out⟩
          case measure => simp [intOf]; omega
      · have H60 := Lib.hid h60
        go_wp2_with fail
        refine (fixed_any L _).mono ?_
        rintro e w2 ⟨rfl, hb⟩
        have B2 := Lib.hid (thenB BB.out hb BB.out.size)
        clear hb
        go_wp2_with fail
        go_ret
        exact ⟨rfl, B2.out⟩
    · go_wp2_with fail
      refine (fixed_any L _).mono ?_
      rintro e w2 ⟨rfl, hb⟩
      have B2 := Lib.hid (thenB BB.out hb BB.out.size)
      clear hb
      go_wp2_with fail
      go_ret
      exact ⟨rfl, B2.out⟩
end Go.Proofs.Ytaobbdmkkehpnaa
