/-
  AstRefA, AstRefB, AstRefC
-/
import Derived.Test.YtkpijnodhlonfaaGreatDoorAstB
import Derived.Test.YtkpijnodhlonfaaGreatDoorAstA
import Derived.Deep.QuietTactic
import Derived.BigQuiet
namespace Go.Proofs.YtkpijnodhlonfaaGreatDoor.Ast
open Go.RowKit

set_option maxRecDepth 100000 in
set_option maxHeartbeats 4000000 in
theorem rsize_any (A : Option Addr) (n cap : Nat) (l : Nat → Nd) (hn : n ≤ 4611686018427387904) : ∀ j, j ≤ n → ∀ (z : Int), z = (j : Int) - 1 → ∀ w, Nodes w A n l →
    Calls Tryz.prog 86 #[.slice A n cap, .int .i64 z] w fun e w' => e = .returned (.int .i64 (siz l j : Nat)) ∧ Below w.heap.size w w' := by
  intro j
  induction j using Nat.strongRecOn with
  | _ j ih =>
  intro hj z hz w hl
  have HN := Lib.hid hn
  have IH := Lib.hid ih
  clear hn ih
  have HL := Lib.hid hl
  cases j with
  | zero =>
    obtain rfl : z = -1 := by omega
    clear hl hz
    go_enter Tryz.func86, Tryz.ntmps86
    go_wp2_with fail
    go_ret
    exact ⟨rfl, Below.refl _ _⟩
  | succ m =>
    obtain rfl : z = (m : Int) := by omega
    clear hz
    have hm : m < n := by omega
    obtain ⟨b, o, rfl, hN⟩ := hl.at_ (by omega)
    have LN := Lib.hid hN
    have sm : (m : Int) ≤ 4611686018427387904 := by have := HN.out; omega
    clear hl hN hj
    have hsz := siz_succ l m
    have hle := siz_le l m
    cases hf : fitsB (l m) with
    | false =>
      have HS := Lib.hid (show siz l (m + 1) = 0 by rw [hsz, hf]; rfl)
      have HF := Lib.hid hf
      clear hsz hle hf
      obtain ⟨c0, c1, c2, c3, c4, c5, c6, c7, c8, c9, c10, c11⟩ := LN.out.2 m hm
      go_enter Tryz.func86, Tryz.ntmps86
      go_wp2_with fail
      refine (fits_any (l m) _).mono ?_
      rintro e w1 ⟨rfl, hb⟩
      rw [HF.out]
      have B1 := Lib.hid hb
      clear hb c0 c1 c2 c3 c4 c5 c6 c7 c8 c9 c10 c11
      go_wp2_with fail
      go_ret
      exact ⟨by rw [HS.out]; rfl, B1.out⟩
    | true =>
      rw [hf, if_pos rfl] at hsz
      have HF := Lib.hid hf
      clear hf
      obtain ⟨c0, c1, c2, c3, c4, c5, c6, c7, c8, c9, c10, c11⟩ := LN.out.2 m hm
      rcases kids_cases (l m).k with hk | hk | hk
      · have HS := Lib.hid (show siz l (m + 1) = if (l m).a = 0 ∧ (l m).b = 0 then 1 else 0 by rw [hsz, if_pos hk])
        have HK := Lib.hid hk
        clear hsz hle hk
        go_enter Tryz.func86, Tryz.ntmps86
        go_wp2_with fail
        refine (fits_any (l m) _).mono ?_
        rintro e w1 ⟨rfl, hb⟩
        rw [HF.out]
        have B1 := Lib.hid hb
        clear hb c0 c1 c2 c3 c4 c5 c6 c7 c8 c9 c10 c11
        obtain ⟨c0, c1, c2, -⟩ := (LN.out.below B1.out (Nat.le_refl _)).2 m hm
        go_wp2_with fail
        refine (rkids_any _ _).mono ?_
        rintro e w2 ⟨rfl, rfl⟩
        rw [HK.out]
        go_wp2_with fail
        all_goals
          go_ret
          exact ⟨by rw [HS.out]; simp_all, B1.out⟩
      · rw [hk, if_neg (show ¬ (1 : Int) = 0 by decide)] at hsz
        have HK := Lib.hid hk
        clear hk
        by_cases h0 : siz l m = 0
        · have HS := Lib.hid (show siz l (m + 1) = 0 by rw [hsz, if_pos h0])
          have H0 := Lib.hid h0
          clear hsz hle h0
          go_enter Tryz.func86, Tryz.ntmps86
          go_wp2_with fail
          refine (fits_any (l m) _).mono ?_
          rintro e w1 ⟨rfl, hb⟩
          rw [HF.out]
          have B1 := Lib.hid hb
          clear hb c0 c1 c2 c3 c4 c5 c6 c7 c8 c9 c10 c11
          obtain ⟨c0, c1, c2, -⟩ := (LN.out.below B1.out (Nat.le_refl _)).2 m hm
          go_wp2_with fail
          refine (rkids_any _ _).mono ?_
          rintro e w2 ⟨rfl, rfl⟩
          rw [HK.out]
          clear c0 c1 c2
          go_wp2_with fail
          (with_reducible refine (IH.out m (by omega) (by omega) _ rfl _ (LN.out.nodes.below B1.out (Nat.le_refl _))).mono ?_)
          rintro e w2 ⟨rfl, hb⟩
          have B2 := Lib.hid (thenB B1.out hb B1.out.size)
          clear hb
          rw [H0.out]
          go_wp2_with fail
          go_ret
          exact ⟨by rw [HS.out]; rfl, B2.out⟩
        · have q0 : ((siz l m : Int) == 0) = false := by simp; omega
          have HS := Lib.hid (show siz l (m + 1) = if (l m).a = (m : Int) - 1 ∧ (l m).b = 0 then siz l m + 1 else 0 by rw [hsz, if_neg h0, if_pos rfl])
          have HL := Lib.hid hle
          clear hsz hle h0
          go_enter Tryz.func86, Tryz.ntmps86
          go_wp2_with fail
          refine (fits_any (l m) _).mono ?_
          rintro e w1 ⟨rfl, hb⟩
          rw [HF.out]
          have B1 := Lib.hid hb
          clear hb c0 c1 c2 c3 c4 c5 c6 c7 c8 c9 c10 c11
          obtain ⟨c0, c1, c2, -⟩ := (LN.out.below B1.out (Nat.le_refl _)).2 m hm
          go_wp2_with fail
          refine (rkids_any _ _).mono ?_
          rintro e w2 ⟨rfl, rfl⟩
          rw [HK.out]
          clear c0 c1 c2
          go_wp2_with fail
          (with_reducible refine (IH.out m (by omega) (by omega) _ rfl _ (LN.out.nodes.below B1.out (Nat.le_refl _))).mono ?_)
          rintro e w2 ⟨rfl, hb⟩
          have B2 := Lib.hid (thenB B1.out hb B1.out.size)
          clear hb
          obtain ⟨c0, c1, c2, -⟩ := (LN.out.below B2.out (Nat.le_refl _)).2 m hm
          have sz : (siz l m : Int) ≤ 4611686018427387904 := by have := HL.out; have := HN.out; omega
          go_wp2_with fail
          all_goals
            go_ret
            exact ⟨ret_i (by rw [HS.out]; simp_all), B2.out⟩
      · rw [hk, if_neg (show ¬ (2 : Int) = 0 by decide)] at hsz
        have HK := Lib.hid hk
        clear hk
        by_cases h0 : siz l m = 0
        · have HS := Lib.hid (show siz l (m + 1) = 0 by rw [hsz, if_pos h0])
          have H0 := Lib.hid h0
          clear hsz hle h0
          go_enter Tryz.func86, Tryz.ntmps86
          go_wp2_with fail
          refine (fits_any (l m) _).mono ?_
          rintro e w1 ⟨rfl, hb⟩
          rw [HF.out]
          have B1 := Lib.hid hb
          clear hb c0 c1 c2 c3 c4 c5 c6 c7 c8 c9 c10 c11
          obtain ⟨c0, c1, c2, -⟩ := (LN.out.below B1.out (Nat.le_refl _)).2 m hm
          go_wp2_with fail
          refine (rkids_any _ _).mono ?_
          rintro e w2 ⟨rfl, rfl⟩
          rw [HK.out]
          clear c0 c1 c2
          go_wp2_with fail
          (with_reducible refine (IH.out m (by omega) (by omega) _ rfl _ (LN.out.nodes.below B1.out (Nat.le_refl _))).mono ?_)
          rintro e w2 ⟨rfl, hb⟩
          have B2 := Lib.hid (thenB B1.out hb B1.out.size)
          clear hb
          rw [H0.out]
          go_wp2_with fail
          go_ret
          exact ⟨by rw [HS.out]; rfl, B2.out⟩
        · have q0 : ((siz l m : Int) == 0) = false := by simp; omega
          rw [if_neg h0, if_neg (show ¬ (2 : Int) = 1 by decide)] at hsz
          obtain ⟨s, hs⟩ : ∃ s, s = siz l m := ⟨_, rfl⟩
          have HSS := Lib.hid hs
          have hle2 := siz_le l (m - siz l m)
          rw [← hs] at hsz hle q0 h0 hle2
          have s0 : 0 ≤ (s : Int) := by omega
          have sz : (s : Int) ≤ (m : Int) := by omega
          have HM := Lib.hid (show (m : Int) < n ∧ s ≤ m from ⟨by omega, hle⟩)
          clear hle h0 hs
          by_cases h1 : siz l (m - s) = 0
          · have HS := Lib.hid (show siz l (m + 1) = 0 by rw [hsz, if_pos h1])
            have H1 := Lib.hid h1
            clear hsz h1 hle2
            go_enter Tryz.func86, Tryz.ntmps86
            go_wp2_with fail
            refine (fits_any (l m) _).mono ?_
            rintro e w1 ⟨rfl, hb⟩
            rw [HF.out]
            have B1 := Lib.hid hb
            clear hb c0 c1 c2 c3 c4 c5 c6 c7 c8 c9 c10 c11
            obtain ⟨c0, c1, c2, -⟩ := (LN.out.below B1.out (Nat.le_refl _)).2 m hm
            go_wp2_with fail
            refine (rkids_any _ _).mono ?_
            rintro e w2 ⟨rfl, rfl⟩
            rw [HK.out]
            clear c0 c1 c2
            go_wp2_with fail
            (with_reducible refine (IH.out m (by omega) (by omega) _ rfl _ (LN.out.nodes.below B1.out (Nat.le_refl _))).mono ?_)
            rintro e w2 ⟨rfl, hb⟩
            have B2 := Lib.hid (thenB B1.out hb B1.out.size)
            clear hb
            rw [← HSS.out]
            go_wp2_with fail
            (with_reducible refine (IH.out (m - s) (by have := HM.out; omega) (by have := HM.out; omega) ((m : Int) - 1 - (s : Int)) (by have := HM.out; omega) _ (LN.out.nodes.below B2.out (Nat.le_refl _))).mono ?_)
            rintro e w3 ⟨rfl, hb⟩
            have B3 := Lib.hid (thenB B2.out hb B2.out.size)
            clear hb
            rw [H1.out]
            go_wp2_with fail
            go_ret
            exact ⟨by rw [HS.out]; rfl, B3.out⟩
          · rw [if_neg h1] at hsz
            have q1 : ((siz l (m - s) : Int) == 0) = false := by simp; omega
            have HS := Lib.hid hsz
            have sb : (siz l (m - s) : Int) ≤ 4611686018427387904 - (s : Int) := by omega
            have sb0 : 0 ≤ (siz l (m - s) : Int) := by omega
            clear hsz h1 hle2
            go_enter Tryz.func86, Tryz.ntmps86
            go_wp2_with fail
            refine (fits_any (l m) _).mono ?_
            rintro e w1 ⟨rfl, hb⟩
            rw [HF.out]
            have B1 := Lib.hid hb
            clear hb c0 c1 c2 c3 c4 c5 c6 c7 c8 c9 c10 c11
            obtain ⟨c0, c1, c2, -⟩ := (LN.out.below B1.out (Nat.le_refl _)).2 m hm
            go_wp2_with fail
            refine (rkids_any _ _).mono ?_
            rintro e w2 ⟨rfl, rfl⟩
            rw [HK.out]
            clear c0 c1 c2
            go_wp2_with fail
            (with_reducible refine (IH.out m (by omega) (by omega) _ rfl _ (LN.out.nodes.below B1.out (Nat.le_refl _))).mono ?_)
            rintro e w2 ⟨rfl, hb⟩
            have B2 := Lib.hid (thenB B1.out hb B1.out.size)
            clear hb
            rw [← HSS.out]
            go_wp2_with fail
            (with_reducible refine (IH.out (m - s) (by have := HM.out; omega) (by have := HM.out; omega) ((m : Int) - 1 - (s : Int)) (by have := HM.out; omega) _ (LN.out.nodes.below B2.out (Nat.le_refl _))).mono ?_)
            rintro e w3 ⟨rfl, hb⟩
            have B3 := Lib.hid (thenB B2.out hb B2.out.size)
            clear hb
            obtain ⟨c0, c1, c2, -⟩ := (LN.out.below B3.out (Nat.le_refl _)).2 m hm
            go_wp2_with fail
            all_goals
              go_ret
              exact ⟨ret_i (by rw [HS.out]; simp_all), B3.out⟩
end Go.Proofs.YtkpijnodhlonfaaGreatDoor.Ast

namespace Go.Proofs.YtkpijnodhlonfaaGreatDoor.Ast
open Go.RowKit

theorem dep_le (l : Nat → Nd) : ∀ j, dep l j ≤ j := by
  intro j
  induction j using Nat.strongRecOn with
  | _ j ih =>
    cases j with
    | zero => exact Nat.le_refl _
    | succ m =>
      have h1 := ih m (by omega)
      have h2 := ih (m - siz l m) (by omega)
      rw [dep_succ]
      split
      · omega
      · split
        · omega
        · have : m - siz l m ≤ m := Nat.sub_le _ _
          omega
theorem Nodes.drewN {w : World} {A : Option Addr} {n : Nat} {l : Nat → Nd} (h : Nodes w A n l) (q : Nat) : Nodes (w.drewN q) A n l := h

set_option maxHeartbeats 4000000 in
theorem rdeep_any (A : Option Addr) (n cap : Nat) (l : Nat → Nd) (hn : n ≤ 4611686018427387904) : ∀ j, j ≤ n → siz l j ≠ 0 → ∀ (z : Int), z = (j : Int) - 1 → ∀ w, Nodes w A n l →
    Calls Tryz.prog 87 #[.slice A n cap, .int .i64 z] w fun e w' => e = .returned (.int .i64 (dep l j : Nat)) ∧ ∃ q, w' = w.drewN q := by
  intro j
  induction j using Nat.strongRecOn with
  | _ j ih =>
  intro hj hs z hz w hl
  have HN := Lib.hid hn
  have IH := Lib.hid ih
  clear hn ih
  cases j with
  | zero => exact absurd (siz_zero l) hs
  | succ m =>
    obtain rfl : z = (m : Int) := by omega
    clear hz
    have hm : m < n := by omega
    have sm : (m : Int) ≤ 4611686018427387904 := by have := HN.out; omega
    have HL := Lib.hid hl
    obtain ⟨b, o, rfl, hN⟩ := hl.at_ (by omega)
    obtain ⟨-, hp⟩ := siz_pos hs
    obtain ⟨c0, c1, c2, -⟩ := hN.2 m hm
    have hd := dep_succ l m
    clear hl hN hj hs
    rcases hp with ⟨hk, -⟩ | ⟨hk, h0, ha, hb, -⟩ | ⟨hk, h0, h1, ha, hb, -⟩
    · rw [if_pos hk] at hd
      have HD := Lib.hid hd
      have HK := Lib.hid hk
      clear hd hk
      go_enter Tryz.func87, Tryz.ntmps87
      go_wp2_with fail
      refine (rkids_any _ _).mono ?_
      rintro e w2 ⟨rfl, rfl⟩
      rw [HK.out]
      go_wp2_with fail
      go_ret
      exact ⟨by rw [HD.out]; rfl, 0, rfl⟩
    · rw [hk, if_neg (show ¬ (1 : Int) = 0 by decide), if_pos rfl] at hd
      have HD := Lib.hid hd
      have HK := Lib.hid hk
      rw [ha] at c1
      have H0 := Lib.hid h0
      have dl : (dep l m : Int) ≤ 4611686018427387904 := by have := dep_le l m; omega
      have d0 : 0 ≤ (dep l m : Int) := by omega
      clear hd hk ha hb h0
      go_enter Tryz.func87, Tryz.ntmps87
      go_wp2_with fail
      refine (rkids_any _ _).mono ?_
      rintro e w2 ⟨rfl, rfl⟩
      rw [HK.out]
      go_wp2_with fail
      (with_reducible refine (IH.out m (by omega) (by omega) H0.out _ rfl _ HL.out).mono ?_)
      rintro e w2 ⟨rfl, q, rfl⟩
      go_wp2_with fail
      go_ret
      exact ⟨ret_i (by rw [HD.out]; omega), q, rfl⟩
    · rw [hk, if_neg (show ¬ (2 : Int) = 0 by decide), if_neg (show ¬ (2 : Int) = 1 by decide)] at hd
      have HK := Lib.hid hk
      rw [ha] at c1
      rw [hb] at c2
      obtain ⟨s, es⟩ : ∃ s, s = siz l m := ⟨_, rfl⟩
      have hle := siz_le l m
      have dl1 := dep_le l m
      have dl2 := dep_le l (m - siz l m)
      rw [← es] at h0 h1 hd c1 hle dl2
      have C1 := Lib.hid (show ∀ w q, Nodes w (some ⟨b, o, none⟩) n l → Calls Tryz.prog 87 #[.slice (some ⟨b, o, none⟩) n cap, .int .i64 ((m : Int) - 1)] (w.drewN q) fun e w' => e = .returned (.int .i64 (dep l m : Nat)) ∧ ∃ q', w' = (w.drewN q).drewN q' from fun w q hw => IH.out m (by omega) (by omega) (by rw [← es]; exact h0) _ rfl _ hw)
      have C2 := Lib.hid (show ∀ w q, Nodes w (some ⟨b, o, none⟩) n l → Calls Tryz.prog 87 #[.slice (some ⟨b, o, none⟩) n cap, .int .i64 ((m : Int) - 1 - (s : Int))] (w.drewN q) fun e w' => e = .returned (.int .i64 (dep l (m - s) : Nat)) ∧ ∃ q', w' = (w.drewN q).drewN q' from fun w q hw => IH.out (m - s) (by omega) (by omega) h1 _ (by omega) _ hw)
      obtain ⟨x, hx⟩ : ∃ x, x = dep l m := ⟨_, rfl⟩
      obtain ⟨y, hy⟩ : ∃ y, y = dep l (m - s) := ⟨_, rfl⟩
      rw [← hx] at hd dl1 C1
      rw [← hy] at hd dl2 C2
      have HD := Lib.hid hd
      have x0 : 0 ≤ (x : Int) := by omega
      have x1 : (x : Int) ≤ 4611686018427387904 := by omega
      have y0 : 0 ≤ (y : Int) := by omega
      have y1 : (y : Int) ≤ 4611686018427387904 := by omega
      clear hd hk ha hb h0 h1 es hle dl1 dl2 hx hy
      by_cases hxy : x ≤ y
      · have hxi : (x : Int) ≤ (y : Int) := by omega
        go_enter Tryz.func87, Tryz.ntmps87
        go_wp2_with fail
        refine (rkids_any _ _).mono ?_
        rintro e w2 ⟨rfl, rfl⟩
        rw [HK.out]
        go_wp2_with fail
        go_quiet ((first | (with_reducible exact Calls.quiet_of (C1.out _ _ HL.out)) | (with_reducible exact Calls.quiet_of (C2.out _ _ HL.out))))
        go_wp2_with fail
        go_ret
        exact ⟨ret_i (by rw [HD.out]; omega), _, rfl⟩
      · have hxi : (y : Int) < (x : Int) := by omega
        go_enter Tryz.func87, Tryz.ntmps87
        go_wp2_with fail
        refine (rkids_any _ _).mono ?_
        rintro e w2 ⟨rfl, rfl⟩
        rw [HK.out]
        go_wp2_with fail
        go_quiet ((first | (with_reducible exact Calls.quiet_of (C1.out _ _ HL.out)) | (with_reducible exact Calls.quiet_of (C2.out _ _ HL.out))))
        go_wp2_with fail
        go_ret
        exact ⟨ret_i (by rw [HD.out]; omega), _, rfl⟩
end Go.Proofs.YtkpijnodhlonfaaGreatDoor.Ast

namespace Go.Proofs.YtkpijnodhlonfaaGreatDoor.Ast
open Go.RowKit

theorem fits_rep_of {x : Nd} (h : fitsB x = true) (hk : x.k = 10) : 0 ≤ x.mn ∧ x.mn ≤ 100 ∧ -1 ≤ x.mx ∧ x.mx ≤ 100 := by
  simp only [fitsB, decide_eq_true_eq] at h
  omega
theorem fits_kind {x : Nd} (h : fitsB x = true) : 0 ≤ x.k ∧ x.k ≤ 17 := by
  simp only [fitsB, decide_eq_true_eq] at h
  exact ⟨h.1, h.2.1⟩
theorem times_bd (a k : Int) (ha : -1 ≤ a ∧ a ≤ 1048576) : -1 ≤ timesZ a k ∧ timesZ a k ≤ 1048576 := by
  unfold timesZ
  split
  · omega
  · split
    · omega
    · have : 0 ≤ a * k := Int.mul_nonneg (by omega) (by omega)
      omega
theorem times_bd0 (a k : Int) (ha : 0 ≤ a ∧ a ≤ 1048576) (hk : 0 ≤ k) : 0 ≤ timesZ a k ∧ timesZ a k ≤ 1048576 := by
  unfold timesZ
  split
  · omega
  · split
    · omega
    · have : 0 ≤ a * k := Int.mul_nonneg (by omega) (by omega)
      omega
theorem len_bd (l : Nat → Nd) : ∀ j, siz l j ≠ 0 → (0 ≤ (len l j).1 ∧ (len l j).1 ≤ 1048576) ∧ (-1 ≤ (len l j).2 ∧ (len l j).2 ≤ 1048576) := by
  intro j
  induction j using Nat.strongRecOn with
  | _ j ih =>
    intro hs
    cases j with
    | zero => exact absurd (siz_zero l) hs
    | succ m =>
      obtain ⟨hf, hp⟩ := siz_pos hs
      rw [len_succ]
      rcases hp with ⟨hk, -⟩ | ⟨hk, h0, -⟩ | ⟨hk, h0, h1, -⟩
      · rw [if_pos hk]
        split
        · simp
        · split <;> simp
      · rw [hk, if_neg (show ¬ (1 : Int) = 0 by decide), if_pos rfl]
        have h := ih m (by omega) h0
        split
        · rename_i h10
          have hr := fits_rep_of hf h10
          exact ⟨times_bd0 _ _ h.1 hr.1, times_bd _ _ h.2⟩
        · split
          · exact h
          · simp
      · rw [hk, if_neg (show ¬ (2 : Int) = 0 by decide), if_neg (show ¬ (2 : Int) = 1 by decide)]
        have h := ih m (by omega) h0
        have h' := ih (m - siz l m) (by omega) h1
        generalize len l m = x at h ⊢
        generalize len l (m - siz l m) = y at h' ⊢
        split
        · refine ⟨?_, ?_⟩
          · show 0 ≤ plusZ y.1 x.1 ∧ plusZ y.1 x.1 ≤ 1048576
            unfold plusZ; split <;> omega
          · show -1 ≤ plusZ y.2 x.2 ∧ plusZ y.2 x.2 ≤ 1048576
            unfold plusZ; split <;> omega
        · refine ⟨?_, ?_⟩
          · show 0 ≤ min y.1 x.1 ∧ min y.1 x.1 ≤ 1048576
            omega
          · show -1 ≤ moreZ y.2 x.2 ∧ moreZ y.2 x.2 ≤ 1048576
            unfold moreZ; split <;> omega

theorem kids0 {k : Int} (h : kidsZ k = 0) (_h0 : 0 ≤ k ∧ k ≤ 17) : (k == 8) = false ∧ (k == 9) = false ∧ (k == 10) = false ∧ (k == 11) = false ∧ (k == 17) = false := by
  unfold kidsZ at h
  simp
  (repeat' split at h) <;> omega
theorem kids1 {k : Int} (h : kidsZ k = 1) : (k == 1) = false ∧ (k == 12) = false ∧ (k == 8) = false ∧ (k == 9) = false := by
  unfold kidsZ at h
  simp
  (repeat' split at h) <;> omega
theorem kids2 {k : Int} (h : kidsZ k = 2) : k = 8 ∨ k = 9 := by
  unfold kidsZ at h
  (repeat' split at h) <;> omega

set_option maxRecDepth 100000 in
set_option maxHeartbeats 4000000 in
theorem rlens_any (A : Option Addr) (n cap : Nat) (l : Nat → Nd) (hn : n ≤ 4611686018427387904) : ∀ j, j ≤ n → siz l j ≠ 0 → ∀ (z : Int), z = (j : Int) - 1 → ∀ w, Nodes w A n l →
    Calls Tryz.prog 49 #[.slice A n cap, .int .i64 z] w fun e w' => e = .returned (.tuple #[.int .i64 (len l j).1, .int .i64 (len l j).2]) ∧ Below w.heap.size w w' := by
  intro j
  induction j using Nat.strongRecOn with
  | _ j ih =>
  intro hj hs z hz w hl
  have HN := Lib.hid hn
  have IH := Lib.hid ih
  clear hn ih
  cases j with
  | zero => exact absurd (siz_zero l) hs
  | succ m =>
    obtain rfl : z = (m : Int) := by omega
    clear hz
    have hm : m < n := by omega
    have sm : (m : Int) ≤ 4611686018427387904 := by have := HN.out; omega
    have HL := Lib.hid hl
    obtain ⟨b, o, rfl, hN⟩ := hl.at_ (by omega)
    obtain ⟨hf, hp⟩ := siz_pos hs
    obtain ⟨c0, c1, c2, c3, c4, c5, c6, c7, c8, c9, c10, c11⟩ := hN.2 m hm
    have hd := len_succ l m
    have hki := fits_kind hf
    clear hl hN hj hs
    rcases hp with ⟨hk, -⟩ | ⟨hk, h0, ha, hb, -⟩ | ⟨hk, h0, h1, ha, hb, -⟩
    · rw [if_pos hk] at hd
      obtain ⟨q8, q9, q10, q11, q17⟩ := kids0 hk hki
      have HD := Lib.hid hd
      clear hd hk hf
      by_cases e1 : (l m).k = 1
      · have HV := Lib.hid (show len l (m + 1) = (1, 1) by rw [HD.out, if_pos e1])
        rw [e1] at c0
        clear e1 q8 q9 q10 q11 q17
        go_enter Tryz.func49, Tryz.ntmps49
        go_wp2_with fail
        go_ret2
        exact ⟨by rw [HV.out]; rfl, by go_grown⟩
      · by_cases e12 : (l m).k = 12
        · have HV := Lib.hid (show len l (m + 1) = (0, -1) by rw [HD.out, if_neg e1, if_pos e12])
          rw [e12] at c0
          clear e1 e12 q8 q9 q10 q11 q17
          go_enter Tryz.func49, Tryz.ntmps49
          go_wp2_with fail
          go_ret2
          exact ⟨by rw [HV.out]; rfl, by go_grown⟩
        · have HV := Lib.hid (show len l (m + 1) = (0, 0) by rw [HD.out, if_neg e1, if_neg e12])
          have q1 : ((l m).k == 1) = false := by simpa using e1
          have q12 : ((l m).k == 12) = false := by simpa using e12
          clear e1 e12
          go_enter Tryz.func49, Tryz.ntmps49
          go_wp2_with fail
          go_ret2
          exact ⟨by rw [HV.out]; rfl, by go_grown⟩
    · rw [hk, if_neg (show ¬ (1 : Int) = 0 by decide), if_pos rfl] at hd
      obtain ⟨q1, q12, q8, q9⟩ := kids1 hk
      have HD := Lib.hid hd
      rw [ha] at c1
      have H0 := Lib.hid h0
      have HB := Lib.hid (len_bd l m h0)
      have HF := Lib.hid hf
      clear hd hk ha hb h0 hf
      obtain ⟨x, hx⟩ : ∃ x, x = (len l m).1 := ⟨_, rfl⟩
      obtain ⟨y, hy⟩ : ∃ y, y = (len l m).2 := ⟨_, rfl⟩
      have IHm := Lib.hid (show ∀ w, Nodes w (some ⟨b, o, none⟩) n l → Calls Tryz.prog 49 #[.slice (some ⟨b, o, none⟩) n cap, .int .i64 ((m : Int) - 1)] w fun e w' => e = .returned (.tuple #[.int .i64 x, .int .i64 y]) ∧ Below w.heap.size w w' by
        intro w hw; rw [hx, hy]; exact IH.out m (by omega) (by omega) H0.out _ rfl _ hw)
      have HXY := Lib.hid (And.intro hx hy)
      have HBB := Lib.hid (show (0 ≤ x ∧ x ≤ 1048576) ∧ (-1 ≤ y ∧ y ≤ 1048576) by rw [hx, hy]; exact HB.out)
      clear hx hy
      by_cases e10 : (l m).k = 10
      · have HR := Lib.hid (fits_rep_of HF.out e10)
        have HV := Lib.hid (show len l (m + 1) = (timesZ x (l m).mn, timesZ y (l m).mx) by rw [HD.out, if_pos e10, ← HXY.out.1, ← HXY.out.2])
        have C1 := Lib.hid (show ∀ w q, Calls Tryz.prog 71 #[.int .i64 x, .int .i64 (l m).mn] (World.drewN w q) fun e w' => e = .returned (.int .i64 (timesZ x (l m).mn)) ∧ w' = w.drewN q from fun w q => (rtimes_any x (l m).mn _ ⟨by have := HBB.out; omega, HBB.out.1.2⟩ ⟨by have := HR.out; omega, HR.out.2.1⟩).mono fun _ _ h => ⟨h.1, h.2.symm⟩)
        have C2 := Lib.hid (show ∀ w q, Calls Tryz.prog 71 #[.int .i64 y, .int .i64 (l m).mx] (World.drewN w q) fun e w' => e = .returned (.int .i64 (timesZ y (l m).mx)) ∧ w' = w.drewN q from fun w q => (rtimes_any y (l m).mx _ HBB.out.2 HR.out.2.2).mono fun _ _ h => ⟨h.1, h.2.symm⟩)
        have q10 := Lib.hid e10
        rw [e10] at c0
        clear q1 q12 q8 q9 e10
        go_enter Tryz.func49, Tryz.ntmps49
        go_wp2_with fail
        (with_reducible refine (IHm.out _ (HL.out.below (B := w.heap.size) (by go_grown) (Nat.le_refl _))).mono ?_)
        rintro e w2 ⟨rfl, hb⟩
        have X := Lib.hid ((Box12.new w 70 _ _ _ _ _ _ _ _ _ _ _ _).call hb)
        have B2 := Lib.hid (thenB (B := w.heap.size) (w := w) (by go_grown) hb (by simp))
        clear hb c0 c1 c2 c3 c4 c5 c6 c7 c8 c9 c10 c11
        obtain ⟨c0, c1, c2, c3, c4, c5, c6, c7, c8, -⟩ := X.out.cells
        go_wp2_with fail
        go_quiet ((first | (with_reducible exact Calls.quiet_of_same (C1.out _ _)) | (with_reducible exact Calls.quiet_of_same (C2.out _ _))))
        go_wp2_with fail
        go_ret2
        exact ⟨by rw [HV.out]; rfl, below_drewN B2.out _⟩
      · by_cases e11 : (l m).k = 11
        · have HV := Lib.hid (show len l (m + 1) = (x, y) by rw [HD.out, if_neg e10, if_pos (.inl e11), HXY.out.1, HXY.out.2])
          rw [e11] at c0
          clear q1 q12 q8 q9 e10 e11
          go_enter Tryz.func49, Tryz.ntmps49
          go_wp2_with fail
          (with_reducible refine (IHm.out _ (HL.out.below (B := w.heap.size) (by go_grown) (Nat.le_refl _))).mono ?_)
          rintro e w2 ⟨rfl, hb⟩
          have B2 := Lib.hid (thenB (B := w.heap.size) (w := w) (by go_grown) hb (by simp))
          clear hb
          go_wp2_with fail
          go_ret2
          exact ⟨by rw [HV.out]; rfl, B2.out⟩
        · by_cases e17 : (l m).k = 17
          · have HV := Lib.hid (show len l (m + 1) = (x, y) by rw [HD.out, if_neg e10, if_pos (.inr e17), HXY.out.1, HXY.out.2])
            rw [e17] at c0
            clear q1 q12 q8 q9 e10 e11 e17
            go_enter Tryz.func49, Tryz.ntmps49
            go_wp2_with fail
            (with_reducible refine (IHm.out _ (HL.out.below (B := w.heap.size) (by go_grown) (Nat.le_refl _))).mono ?_)
            rintro e w2 ⟨rfl, hb⟩
            have B2 := Lib.hid (thenB (B := w.heap.size) (w := w) (by go_grown) hb (by simp))
            clear hb
            go_wp2_with fail
            go_ret2
            exact ⟨by rw [HV.out]; rfl, B2.out⟩
          · have HV := Lib.hid (show len l (m + 1) = (0, 0) by rw [HD.out, if_neg e10, if_neg (by omega)])
            have q10 : ((l m).k == 10) = false := by simpa using e10
            have q11 : ((l m).k == 11) = false := by simpa using e11
            have q17 : ((l m).k == 17) = false := by simpa using e17
            clear e10 e11 e17
            go_enter Tryz.func49, Tryz.ntmps49
            go_wp2_with fail
            go_ret2
            exact ⟨by rw [HV.out]; rfl, by go_grown⟩
    · rw [hk, if_neg (show ¬ (2 : Int) = 0 by decide), if_neg (show ¬ (2 : Int) = 1 by decide)] at hd
      have hk2 := kids2 hk
      rw [ha] at c1
      rw [hb] at c2
      have hle := siz_le l m
      have HB := Lib.hid (len_bd l m h0)
      have HB' := Lib.hid (len_bd l (m - siz l m) h1)
      obtain ⟨x, hx⟩ : ∃ x, x = (len l m).1 := ⟨_, rfl⟩
      obtain ⟨y, hy⟩ : ∃ y, y = (len l m).2 := ⟨_, rfl⟩
      obtain ⟨x', hx'⟩ : ∃ x, x = (len l (m - siz l m)).1 := ⟨_, rfl⟩
      obtain ⟨y', hy'⟩ : ∃ y, y = (len l (m - siz l m)).2 := ⟨_, rfl⟩
      have IHm := Lib.hid (show ∀ w, Nodes w (some ⟨b, o, none⟩) n l → Calls Tryz.prog 49 #[.slice (some ⟨b, o, none⟩) n cap, .int .i64 ((m : Int) - 1)] w fun e w' => e = .returned (.tuple #[.int .i64 x, .int .i64 y]) ∧ Below w.heap.size w w' by
        intro w hw; rw [hx, hy]; exact IH.out m (by omega) (by omega) h0 _ rfl _ hw)
      have IHs := Lib.hid (show ∀ w, Nodes w (some ⟨b, o, none⟩) n l → Calls Tryz.prog 49 #[.slice (some ⟨b, o, none⟩) n cap, .int .i64 ((m : Int) - 1 - (siz l m : Nat))] w fun e w' => e = .returned (.tuple #[.int .i64 x', .int .i64 y']) ∧ Below w.heap.size w w' by
        intro w hw; rw [hx', hy']; exact IH.out (m - siz l m) (by omega) (by omega) h1 _ (by omega) _ hw)
      have HBB := Lib.hid (show ((0 ≤ x ∧ x ≤ 1048576) ∧ (-1 ≤ y ∧ y ≤ 1048576)) ∧ ((0 ≤ x' ∧ x' ≤ 1048576) ∧ (-1 ≤ y' ∧ y' ≤ 1048576)) by rw [hx, hy, hx', hy']; exact ⟨HB.out, HB'.out⟩)
      have HD := Lib.hid (show len l (m + 1) = if (l m).k = 8 then (plusZ x' x, plusZ y' y) else (min x' x, moreZ y' y) by rw [hd, hx, hy, hx', hy'])
      clear hd hk ha hb h0 h1 hle hx hy hx' hy' hf hki
      generalize siz l m = s at c1 IHs
      rcases hk2 with e8 | e9
      · have HV := Lib.hid (show len l (m + 1) = (plusZ x' x, plusZ y' y) by rw [HD.out, if_pos e8])
        have C1 := Lib.hid (show ∀ w, Calls Tryz.prog 70 #[.int .i64 x', .int .i64 x] w fun e w' => e = .returned (.int .i64 (plusZ x' x)) ∧ w = w' from fun w => rplus_any x' x w HBB.out.2.1.2 HBB.out.1.1.2)
        have C2 := Lib.hid (show ∀ w, Calls Tryz.prog 70 #[.int .i64 y', .int .i64 y] w fun e w' => e = .returned (.int .i64 (plusZ y' y)) ∧ w = w' from fun w => rplus_any y' y w HBB.out.2.2.2 HBB.out.1.2.2)
        rw [e8] at c0
        clear e8
        go_enter Tryz.func49, Tryz.ntmps49
        go_wp2_with fail
        (with_reducible refine (IHs.out _ (HL.out.below (B := w.heap.size) (by go_grown) (Nat.le_refl _))).mono ?_)
        rintro e w2 ⟨rfl, hb⟩
        have X := Lib.hid ((Box12.new w 70 _ _ _ _ _ _ _ _ _ _ _ _).call hb)
        have B2 := Lib.hid (thenB (B := w.heap.size) (w := w) (by go_grown) hb (by simp))
        clear hb c0 c1 c2 c3 c4 c5 c6 c7 c8 c9 c10 c11
        obtain ⟨c0, c1, c2, c3, c4, c5, c6, c7, c8, -⟩ := X.out.cells
        go_wp2_with fail
        (with_reducible refine (IHm.out _ (HL.out.below B2.out (Nat.le_refl _))).mono ?_)
        rintro e w3 ⟨rfl, hb⟩
        have X3 := Lib.hid (X.out.call hb)
        have B3 := Lib.hid (thenB B2.out hb B2.out.size)
        clear hb c0 c1 c2 c3 c4 c5 c6 c7 c8
        obtain ⟨c0, c1, c2, c3, c4, c5, c6, c7, c8, -⟩ := X3.out.cells
        go_wp2_with fail
        (with_reducible refine (C1.out _).mono ?_)
        rintro e w4 ⟨rfl, rfl⟩
        go_wp2_with fail
        (with_reducible refine (C2.out _).mono ?_)
        rintro e w4 ⟨rfl, rfl⟩
        go_wp2_with fail
        go_ret2
        exact ⟨by rw [HV.out]; rfl, B3.out⟩
      · have HV := Lib.hid (show len l (m + 1) = (min x' x, moreZ y' y) by rw [HD.out, if_neg (by omega)])
        rw [e9] at c0
        clear e9
        go_enter Tryz.func49, Tryz.ntmps49
        go_wp2_with fail
        (with_reducible refine (IHs.out _ (HL.out.below (B := w.heap.size) (by go_grown) (Nat.le_refl _))).mono ?_)
        rintro e w2 ⟨rfl, hb⟩
        have X := Lib.hid ((Box12.new w 70 _ _ _ _ _ _ _ _ _ _ _ _).call hb)
        have B2 := Lib.hid (thenB (B := w.heap.size) (w := w) (by go_grown) hb (by simp))
        clear hb c0 c1 c2 c3 c4 c5 c6 c7 c8 c9 c10 c11
        obtain ⟨c0, c1, c2, c3, c4, c5, c6, c7, c8, -⟩ := X.out.cells
        go_wp2_with fail
        (with_reducible refine (IHm.out _ (HL.out.below B2.out (Nat.le_refl _))).mono ?_)
        rintro e w3 ⟨rfl, hb⟩
        have X3 := Lib.hid (X.out.call hb)
        have B3 := Lib.hid (thenB B2.out hb B2.out.size)
        clear hb c0 c1 c2 c3 c4 c5 c6 c7 c8
        obtain ⟨c0, c1, c2, c3, c4, c5, c6, c7, c8, -⟩ := X3.out.cells
        obtain ⟨⟨⟨b1, b2⟩, b3, b4⟩, ⟨b5, b6⟩, b7, b8⟩ := HBB.out
        go_wp2_with fail
        all_goals
          go_ret2
          refine ⟨ret_ii (c := (len l (m + 1)).1) (d := (len l (m + 1)).2) ?_ ?_, B3.out⟩
          · rw [HV.out]
            show _ = min x' x
            omega
          · rw [HV.out]
            show _ = moreZ y' y
            unfold moreZ
            split <;> omega
end Go.Proofs.YtkpijnodhlonfaaGreatDoor.Ast
