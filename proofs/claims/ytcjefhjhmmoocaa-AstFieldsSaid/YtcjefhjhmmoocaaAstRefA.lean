/-
  Layer 5: what the document's own answers do that go down a tree: Size.
-/
import Derived.Test.YtcjefhjhmmoocaaAstMath
import Derived.Test.YtcjefhjhmmoocaaAstMem
namespace Go.Proofs.Ytcjefhjhmmoocaa
open Go.RowKit

set_option maxRecDepth 100000 in
set_option maxHeartbeats 4000000 in
theorem rsize_any (A : Option Addr) (n cap : Nat) (l : Nat → Nd) (hn : n ≤ 4611686018427387904) : ∀ j, j ≤ n → ∀ (z : Int), z = (j : Int) - 1 → ∀ w, Nodes w A n l →
    Calls Try.prog 36 #[.slice A n cap, .int .i64 z] w fun e w' => e = .returned (.int .i64 (siz l j : Nat)) ∧ Below w.heap.size w w' := by
  intro j
  induction j using Nat.strongRecOn with
  | _ j ih =>
  intro hj z hz w hl
  have HN := Lib.hid hn
  have IH := Lib.hid ih
  clear hn ih
  have HL := Lib.hid hl
  cases j with
  | zero =>
    obtain rfl : z = -1 := by omega
    clear hl hz
    go_enter Try.func36, Try.ntmps36
    go_wp2_with fail
    go_ret
    exact ⟨rfl, Below.refl _ _⟩
  | succ m =>
    obtain rfl : z = (m : Int) := by omega
    clear hz
    have hm : m < n := by omega
    obtain ⟨b, o, rfl, hN⟩ := hl.at_ (by omega)
    have LN := Lib.hid hN
    have sm : (m : Int) ≤ 4611686018427387904 := by have := HN.out; omega
    clear hl hN hj
    have hsz := siz_succ l m
    have hle := siz_le l m
    cases hf : fitsB (l m) with
    | false =>
      have HS := Lib.hid (show siz l (m + 1) = 0 by rw [hsz, hf]; rfl)
      have HF := Lib.hid hf
      clear hsz hle hf
      obtain ⟨c0, c1, c2, c3, c4, c5, c6, c7, c8, c9, c10, c11⟩ := LN.out.2 m hm
      go_enter Try.func36, Try.ntmps36
      go_wp2_with fail
      refine (fits_any (l m) _).mono ?_
      rintro e w1 ⟨rfl, hb⟩
      rw [HF.out]
      have B1 := Lib.hid hb
      clear hb c0 c1 c2 c3 c4 c5 c6 c7 c8 c9 c10 c11
      go_wp2_with fail
      go_ret
      exact ⟨by rw [HS.out]; rfl, B1.out⟩
    | true =>
      rw [hf, if_pos rfl] at hsz
      have HF := Lib.hid hf
      clear hf
      obtain ⟨c0, c1, c2, c3, c4, c5, c6, c7, c8, c9, c10, c11⟩ := LN.out.2 m hm
      rcases kids_cases (l m).k with hk | hk | hk
      · have HS := Lib.hid (show siz l (m + 1) = if (l m).a = 0 ∧ (l m).b = 0 then 1 else 0 by rw [hsz, if_pos hk])
        have HK := Lib.hid hk
        clear hsz hle hk
        go_enter Try.func36, Try.ntmps36
        go_wp2_with fail
        refine (fits_any (l m) _).mono ?_
        rintro e w1 ⟨rfl, hb⟩
        rw [HF.out]
        have B1 := Lib.hid hb
        clear hb c0 c1 c2 c3 c4 c5 c6 c7 c8 c9 c10 c11
        obtain ⟨c0, c1, c2, -⟩ := (LN.out.below B1.out (Nat.le_refl _)).2 m hm
        go_wp2_with fail
        refine (rkids_any _ _).mono ?_
        rintro e w2 ⟨rfl, rfl⟩
        rw [HK.out]
        go_wp2_with fail
        all_goals
          go_ret
          exact ⟨by rw [HS.out]; simp_all, B1.out⟩
      · rw [hk, if_neg (show ¬ (1 : Int) = 0 by decide)] at hsz
        have HK := Lib.hid hk
        clear hk
        by_cases h0 : siz l m = 0
        · have HS := Lib.hid (show siz l (m + 1) = 0 by rw [hsz, if_pos h0])
          have H0 := Lib.hid h0
          clear hsz hle h0
          go_enter Try.func36, Try.ntmps36
          go_wp2_with fail
          refine (fits_any (l m) _).mono ?_
          rintro e w1 ⟨rfl, hb⟩
          rw [HF.out]
          have B1 := Lib.hid hb
          clear hb c0 c1 c2 c3 c4 c5 c6 c7 c8 c9 c10 c11
          obtain ⟨c0, c1, c2, -⟩ := (LN.out.below B1.out (Nat.le_refl _)).2 m hm
          go_wp2_with fail
          refine (rkids_any _ _).mono ?_
          rintro e w2 ⟨rfl, rfl⟩
          rw [HK.out]
          clear c0 c1 c2
          go_wp2_with fail
          (with_reducible refine (IH.out m (by omega) (by omega) _ rfl _ (LN.out.nodes.below B1.out (Nat.le_refl _))).mono ?_)
          rintro e w2 ⟨rfl, hb⟩
          have B2 := Lib.hid (thenB B1.out hb B1.out.size)
          clear hb
          rw [H0.out]
          go_wp2_with fail
          go_ret
          exact ⟨by rw [HS.out]; rfl, B2.out⟩
        · have q0 : ((siz l m : Int) == 0) = false := by simp; omega
          have HS := Lib.hid (show siz l (m + 1) = if (l m).a = (m : Int) - 1 ∧ (l m).b = 0 then siz l m + 1 else 0 by rw [hsz, if_neg h0, if_pos rfl])
          have HL := Lib.hid hle
          clear hsz hle h0
          go_enter Try.func36, Try.ntmps36
          go_wp2_with fail
          refine (fits_any (l m) _).mono ?_
          rintro e w1 ⟨rfl, hb⟩
          rw [HF.out]
          have B1 := Lib.hid hb
          clear hb c0 c1 c2 c3 c4 c5 c6 c7 c8 c9 c10 c11
          obtain ⟨c0, c1, c2, -⟩ := (LN.out.below B1.out (Nat.le_refl _)).2 m hm
          go_wp2_with fail
          refine (rkids_any _ _).mono ?_
          rintro e w2 ⟨rfl, rfl⟩
          rw [HK.out]
          clear c0 c1 c2
          go_wp2_with fail
          (with_reducible refine (IH.out m (by omega) (by omega) _ rfl _ (LN.out.nodes.below B1.out (Nat.le_refl _))).mono ?_)
          rintro e w2 ⟨rfl, hb⟩
          have B2 := Lib.hid (thenB B1.out hb B1.out.size)
          clear hb
          obtain ⟨c0, c1, c2, -⟩ := (LN.out.below B2.out (Nat.le_refl _)).2 m hm
          have sz : (siz l m : Int) ≤ 4611686018427387904 := by have := HL.out; have := HN.out; omega
          go_wp2_with fail
          all_goals
            go_ret
            exact ⟨ret_i (by rw [HS.out]; simp_all), B2.out⟩
      · rw [hk, if_neg (show ¬ (2 : Int) = 0 by decide)] at hsz
        have HK := Lib.hid hk
        clear hk
        by_cases h0 : siz l m = 0
        · have HS := Lib.hid (show siz l (m + 1) = 0 by rw [hsz, if_pos h0])
          have H0 := Lib.hid h0
          clear hsz hle h0
          go_enter Try.func36, Try.ntmps36
          go_wp2_with fail
          refine (fits_any (l m) _).mono ?_
          rintro e w1 ⟨rfl, hb⟩
          rw [HF.out]
          have B1 := Lib.hid hb
          clear hb c0 c1 c2 c3 c4 c5 c6 c7 c8 c9 c10 c11
          obtain ⟨c0, c1, c2, -⟩ := (LN.out.below B1.out (Nat.le_refl _)).2 m hm
          go_wp2_with fail
          refine (rkids_any _ _).mono ?_
          rintro e w2 ⟨rfl, rfl⟩
          rw [HK.out]
          clear c0 c1 c2
          go_wp2_with fail
          (with_reducible refine (IH.out m (by omega) (by omega) _ rfl _ (LN.out.nodes.below B1.out (Nat.le_refl _))).mono ?_)
          rintro e w2 ⟨rfl, hb⟩
          have B2 := Lib.hid (thenB B1.out hb B1.out.size)
          clear hb
          rw [H0.out]
          go_wp2_with fail
          go_ret
          exact ⟨by rw [HS.out]; rfl, B2.out⟩
        · have q0 : ((siz l m : Int) == 0) = false := by simp; omega
          rw [if_neg h0, if_neg (show ¬ (2 : Int) = 1 by decide)] at hsz
          obtain ⟨s, hs⟩ : ∃ s, s = siz l m := ⟨_, rfl⟩
          have HSS := Lib.hid hs
          have hle2 := siz_le l (m - siz l m)
          rw [← hs] at hsz hle q0 h0 hle2
          have s0 : 0 ≤ (s : Int) := by omega
          have sz : (s : Int) ≤ (m : Int) := by omega
          have HM := Lib.hid (show (m : Int) < n ∧ s ≤ m from ⟨by omega, hle⟩)
          clear hle h0 hs
          by_cases h1 : siz l (m - s) = 0
          · have HS := Lib.hid (show siz l (m + 1) = 0 by rw [hsz, if_pos h1])
            have H1 := Lib.hid h1
            clear hsz h1 hle2
            go_enter Try.func36, Try.ntmps36
            go_wp2_with fail
            refine (fits_any (l m) _).mono ?_
            rintro e w1 ⟨rfl, hb⟩
            rw [HF.out]
            have B1 := Lib.hid hb
            clear hb c0 c1 c2 c3 c4 c5 c6 c7 c8 c9 c10 c11
            obtain ⟨c0, c1, c2, -⟩ := (LN.out.below B1.out (Nat.le_refl _)).2 m hm
            go_wp2_with fail
            refine (rkids_any _ _).mono ?_
            rintro e w2 ⟨rfl, rfl⟩
            rw [HK.out]
            clear c0 c1 c2
            go_wp2_with fail
            (with_reducible refine (IH.out m (by omega) (by omega) _ rfl _ (LN.out.nodes.below B1.out (Nat.le_refl _))).mono ?_)
            rintro e w2 ⟨rfl, hb⟩
            have B2 := Lib.hid (thenB B1.out hb B1.out.size)
            clear hb
            rw [← HSS.out]
            go_wp2_with fail
            (with_reducible refine (IH.out (m - s) (by have := HM.out; omega) (by have := HM.out; omega) ((m : Int) - 1 - (s : Int)) (by have := HM.out; omega) _ (LN.out.nodes.below B2.out (Nat.le_refl _))).mono ?_)
            rintro e w3 ⟨rfl, hb⟩
            have B3 := Lib.hid (thenB B2.out hb B2.out.size)
            clear hb
            rw [H1.out]
            go_wp2_with fail
            go_ret
            exact ⟨by rw [HS.out]; rfl, B3.out⟩
          · rw [if_neg h1] at hsz
            have q1 : ((siz l (m - s) : Int) == 0) = false := by simp; omega
            have HS := Lib.hid hsz
            have sb : (siz l (m - s) : Int) ≤ 4611686018427387904 - (s : Int) := by omega
            have sb0 : 0 ≤ (siz l (m - s) : Int) := by omega
            clear hsz h1 hle2
            go_enter Try.func36, Try.ntmps36
            go_wp2_with fail
            refine (fits_any (l m) _).mono ?_
            rintro e w1 ⟨rfl, hb⟩
            rw [HF.out]
            have B1 := Lib.hid hb
            clear hb c0 c1 c2 c3 c4 c5 c6 c7 c8 c9 c10 c11
            obtain ⟨c0, c1, c2, -⟩ := (LN.out.below B1.out (Nat.le_refl _)).2 m hm
            go_wp2_with fail
            refine (rkids_any _ _).mono ?_
            rintro e w2 ⟨rfl, rfl⟩
            rw [HK.out]
            clear c0 c1 c2
            go_wp2_with fail
            (with_reducible refine (IH.out m (by omega) (by omega) _ rfl _ (LN.out.nodes.below B1.out (Nat.le_refl _))).mono ?_)
            rintro e w2 ⟨rfl, hb⟩
            have B2 := Lib.hid (thenB B1.out hb B1.out.size)
            clear hb
            rw [← HSS.out]
            go_wp2_with fail
            (with_reducible refine (IH.out (m - s) (by have := HM.out; omega) (by have := HM.out; omega) ((m : Int) - 1 - (s : Int)) (by have := HM.out; omega) _ (LN.out.nodes.below B2.out (Nat.le_refl _))).mono ?_)
            rintro e w3 ⟨rfl, hb⟩
            have B3 := Lib.hid (thenB B2.out hb B2.out.size)
            clear hb
            obtain ⟨c0, c1, c2, -⟩ := (LN.out.below B3.out (Nat.le_refl _)).2 m hm
            go_wp2_with fail
            all_goals
              go_ret
              exact ⟨ret_i (by rw [HS.out]; simp_all), B3.out⟩
end Go.Proofs.Ytcjefhjhmmoocaa
