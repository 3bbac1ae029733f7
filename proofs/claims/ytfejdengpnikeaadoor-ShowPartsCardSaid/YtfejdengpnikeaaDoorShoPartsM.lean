/-
  Layer 8, mathematics: what stands around a tree is shown around it.
-/
import Derived.Test.YtfejdengpnikeaaDoorShoPlainM
import Derived.Test.YtfejdengpnikeaaDoorAstI
namespace Go.Proofs.YtfejdengpnikeaaDoor
open Ast (Nd siz kidsZ siz_pos rightZ deepZ cntG joinL wrapL Sh dep backB behB groupsB)

variable {l l' la lb : Nat → Nd} {c m n : Nat}
theorem leaf_same (x : Nd) (a b : Int) : leafB { x with a := a, b := b } = leafB x := rfl
/-- Moved nodes are shown as they were. -/
theorem sh_show (h : Sh l' c l m) : ∀ j, j ≤ m → siz l j ≠ 0 → showT l' (c + j) = showT l j := by
  intro j
  induction j using Nat.strongRecOn with
  | _ j ih =>
    intro hj hs
    cases j with
    | zero => exact absurd (by simp [siz, Ast.sizF]) hs
    | succ k =>
      have hx := h k (by omega) hs
      have hk' : (l' (c + k)).k = (l k).k := by rw [hx]
      have hle := Ast.siz_le l k
      obtain ⟨hf, ⟨hk, ha, hb, he⟩ | ⟨hk, h0, ha, hb, he⟩ | ⟨hk, h0, h1, ha, hb, he⟩⟩ := siz_pos hs
      · rw [show c + (k + 1) = c + k + 1 by omega, show_k0 (by rw [hk']; exact hk), show_k0 hk, hx]
        exact leaf_same _ _ _
      · have hp : 0 < k := by
          rcases Nat.eq_zero_or_pos k with e | e
          · rw [e] at h0; exact absurd (by simp [siz, Ast.sizF]) h0
          · exact e
        have hkk : (l' (c + k - 1)).k = (l (k - 1)).k := by
          have := h (k - 1) (by omega) (by rw [show k - 1 + 1 = k by omega]; exact h0)
          rw [show c + k - 1 = c + (k - 1) by omega, this]
        rw [show c + (k + 1) = c + k + 1 by omega, show_k1 (by rw [hk']; exact hk), show_k1 hk, hk', hkk, ih k (by omega) (by omega) h0, hx]
      · have hp : 0 < k := by
          rcases Nat.eq_zero_or_pos k with e | e
          · rw [e] at h0; exact absurd (by simp [siz, Ast.sizF]) h0
          · exact e
        have hp1 : 0 < k - siz l k := by
          rcases Nat.eq_zero_or_pos (k - siz l k) with e | e
          · rw [e] at h1; exact absurd (by simp [siz, Ast.sizF]) h1
          · exact e
        have hkk : (l' (c + k - 1)).k = (l (k - 1)).k := by
          have := h (k - 1) (by omega) (by rw [show k - 1 + 1 = k by omega]; exact h0)
          rw [show c + k - 1 = c + (k - 1) by omega, this]
        have hkm : (l' (c + k - siz l k - 1)).k = (l (k - siz l k - 1)).k := by
          have := h (k - siz l k - 1) (by omega) (by rw [show k - siz l k - 1 + 1 = k - siz l k by omega]; exact h1)
          rw [show c + k - siz l k - 1 = c + (k - siz l k - 1) by omega, this]
        rw [show c + (k + 1) = c + k + 1 by omega, show_k2 (by rw [hk']; exact hk), show_k2 hk, hk', Ast.sh_siz h k (by omega) h0, hkk, hkm, show c + k - siz l k = c + (k - siz l k) by omega, ih k (by omega) (by omega) h0, ih (k - siz l k) (by omega) (by omega) h1]
theorem show_joined (hn : n ≤ 1000) (hm : m ≤ 1000) (h0 : 0 < n) (h1 : 0 < m) (ha : siz la n = n) (hb : siz lb m = m) : showT (joinL la n lb m 9) (n + m + 1) = (showT la n ++ ⟨#[124]⟩) ++ inB (is9 (lb (m - 1)).k) (showT lb m) := by
  obtain ⟨e1, e2, -⟩ := Ast.join_in (kind := 9) (.inr rfl) hn hm h0 h1 ha hb
  have ht := Ast.join_top la n lb m 9
  have hk2 : kidsZ (joinL la n lb m 9 (n + m)).k = 2 := by rw [ht]; rfl
  have h8 : ¬ (joinL la n lb m 9 (n + m)).k = 8 := by rw [ht]; show ¬ (9 : Int) = 8; decide
  have s1 := sh_show (Ast.sh_join_b la lb n m 9 (by omega) (by omega)) m (Nat.le_refl _) (by omega)
  have s2 := sh_show (Ast.sh_join_a la lb n m 9) n (Nat.le_refl _) (by omega)
  rw [Nat.zero_add] at s2
  have hl : (joinL la n lb m 9 (n + m - 1)).k = (lb (m - 1)).k := by rw [show n + m - 1 = n + (m - 1) by omega, Ast.join_b la n lb m 9 (by omega), Ast.mvN_k]
  rw [show_k2 hk2, if_neg h8, e1, show n + m - m = n by omega, s1, s2, hl]
theorem show_around {x : Nd} (hk : kidsZ x.k = 1) (h10 : x.k ≠ 10) (h0 : 0 < n) (h : siz l n = n) : showT (wrapL l n x) (n + 1) = (openB x.k ++ showT l n) ++ ⟨#[41]⟩ := by
  have s2 := sh_show (Ast.sh_wrap l n x) n (Nat.le_refl _) (by omega)
  rw [Nat.zero_add] at s2
  have ht := Ast.wrap_top l n x
  have hk1 : kidsZ (wrapL l n x n).k = 1 := by rw [ht]; exact hk
  have h10' : ¬ (wrapL l n x n).k = 10 := by rw [ht]; exact h10
  rw [show_k1 hk1, if_neg h10', s2, ht]
theorem back_up {a b : Nat} (hab : a ≤ b) : ∀ n, backB l a n = true → backB l b n = true
  | 0, _ => rfl
  | n + 1, h => by
    rw [backB, Bool.and_eq_true] at h ⊢
    refine ⟨back_up hab n h.1, ?_⟩
    have h2 := h.2
    split at h2
    · rename_i hk
      rw [if_pos hk]
      simp only [decide_eq_true_eq] at h2 ⊢
      omega
    · rename_i hk
      rw [if_neg hk]
theorem whole_dep (h : rightZ l n = 0) : dep l n = deepZ l n := (Ast.deep_form (Ast.right_deep h)).2.1
/-- The node that the wraps get. -/
abbrev nd8 (k n : Int) : Nd := ⟨k, 0, 0, 0, 0, 0, 0, 0, 0, 0, n, false⟩
theorem right_grouped (h : rightZ l n = 0) (hg : cntG l n = 0) (hd : deepZ l n < 40) (hn : n ≤ 60) : rightZ (wrapL l n (nd8 11 1)) (n + 1) = 0 := by
  obtain ⟨h1, z1, -⟩ := whole8 h
  have d1 := whole_dep h
  obtain ⟨-, g1, b1⟩ := Ast.right_0 h
  have hk : Ast.kidsZ (nd8 11 1).k = 1 := by decide
  have hf : Ast.fitsB (nd8 11 1) = true := by decide
  obtain ⟨w1, w2⟩ := Ast.wrap_in hk hf h1 z1
  have wd := Ast.wrap_dep (x := nd8 11 1) hk h1 z1
  have ht := Ast.wrap_top l n (nd8 11 1)
  have hgr : Ast.grp (wrapL l n (nd8 11 1)) (n + 1) = [n] := by
    have hk1 : Ast.kidsZ (wrapL l n (nd8 11 1) n).k = 1 := by rw [ht]; exact hk
    rw [Ast.grp_succ, if_neg (by omega), if_pos hk1, if_pos (by rw [ht])]
    rw [Ast.grp_none (l := wrapL l n (nd8 11 1)) (n := n) (fun i hi => by unfold wrapL; rw [if_pos hi]; exact Ast.cnt_zero hg i hi) n (Nat.le_refl _)]
  have hb1 := Ast.back_shift (l := l) (l' := wrapL l n (nd8 11 1)) (c := 0) (mm := 1) n fun i hi => by rw [Nat.zero_add]; unfold wrapL; rw [if_pos hi]; exact ⟨rfl, rfl⟩
  have hbh := Ast.beh_shift (Ast.sh_wrap l n (nd8 11 1)) (fun i hi => Ast.siz_of_whole z1 hi) n (Nat.le_refl _)
  rw [Nat.zero_add] at hb1 hbh
  refine Ast.right_of (Ast.shape_of w2 (by omega) (by omega) (by rw [wd, d1]; omega)) ?_ ?_
  · unfold Ast.groupsB
    rw [hgr]
    rw [Ast.groups_none hg] at g1
    have hb2 := back_up (Nat.zero_le 1) n g1
    show (Ast.numB _ [n] 1 && backB _ 1 (n + 1) && decide (1 ≤ 9)) = true
    rw [backB, hb1, hb2, ht]
    simp [Ast.numB, backB, ht]
  · rw [behB, hbh, b1, ht]
    simp [behB]
theorem right_ahead (h : rightZ l n = 0) (hg : cntG l n = 0) (hd : deepZ l n < 40) (hn : n ≤ 60) : rightZ (wrapL l n (nd8 14 0)) (n + 1) = 0 := by
  obtain ⟨h1, z1, -⟩ := whole8 h
  have d1 := whole_dep h
  obtain ⟨-, g1, b1⟩ := Ast.right_0 h
  have hk : Ast.kidsZ (nd8 14 0).k = 1 := by decide
  have hf : Ast.fitsB (nd8 14 0) = true := by decide
  obtain ⟨w1, w2⟩ := Ast.wrap_in hk hf h1 z1
  have wd := Ast.wrap_dep (x := nd8 14 0) hk h1 z1
  have ht := Ast.wrap_top l n (nd8 14 0)
  have hb1 := Ast.back_shift (l := l) (l' := wrapL l n (nd8 14 0)) (c := 0) (mm := 0) n fun i hi => by rw [Nat.zero_add]; unfold wrapL; rw [if_pos hi]; exact ⟨rfl, rfl⟩
  have hbh := Ast.beh_shift (Ast.sh_wrap l n (nd8 14 0)) (fun i hi => Ast.siz_of_whole z1 hi) n (Nat.le_refl _)
  rw [Nat.zero_add] at hb1 hbh
  have hc' : cntG (wrapL l n (nd8 14 0)) (n + 1) = 0 := by
    rw [cntG, Ast.cnt_congr (l := l) n fun i hi => by unfold wrapL; rw [if_pos hi], ht, hg]
    rfl
  refine Ast.right_of (Ast.shape_of w2 (by omega) (by omega) (by rw [wd, d1]; omega)) ?_ ?_
  · rw [Ast.groups_none hc']
    rw [Ast.groups_none hg] at g1
    rw [backB, hb1, g1, ht]
    simp [backB]
  · rw [behB, hbh, b1, ht]
    simp [behB]
theorem right_alt (ha : rightZ la n = 0) (hb : rightZ lb m = 0) (hg : cntG la n + cntG lb m = 0) (hd : deepZ la n < 40) (hd' : deepZ lb m < 40) (hn : n ≤ 60) (hm : m ≤ 60) : rightZ (joinL la n lb m 9) (n + m + 1) = 0 := by
  obtain ⟨h1, z1, -⟩ := whole8 ha
  obtain ⟨h2, z2, -⟩ := whole8 hb
  have d1 := whole_dep ha
  have d2 := whole_dep hb
  obtain ⟨-, g1, b1⟩ := Ast.right_0 ha
  obtain ⟨-, g2, b2⟩ := Ast.right_0 hb
  have j3 := (Ast.join_in (kind := 9) (.inr rfl) (by omega) (by omega) h1 h2 z1 z2).2.2
  have jd := Ast.join_dep (kind := 9) (.inr rfl) (by omega) (by omega) h1 h2 z1 z2
  have k1 := Ast.back_shift (l := la) (l' := joinL la n lb m 9) (c := 0) (mm := 0) n fun i hi => by rw [Nat.zero_add, Ast.join_a la n lb m 9 hi]; exact ⟨rfl, rfl⟩
  have k2 := Ast.beh_shift (Ast.sh_join_a la lb n m 9) (fun i hi => Ast.siz_of_whole z1 hi) n (Nat.le_refl _)
  rw [Nat.zero_add] at k1 k2
  refine Ast.right_of (Ast.shape_of j3 (by omega) (by omega) (by rw [jd, d1, d2]; omega)) ?_ ?_
  · rw [Ast.groups_none (by rw [Ast.join_cnt _ _ _ _ _ (by decide)]; exact hg)]
    rw [Ast.groups_none (by omega)] at g1 g2
    rw [backB, Ast.back_shift (l := lb) m fun i hi => by rw [Ast.join_b la n lb m 9 hi]; exact ⟨Ast.mvN_k _ _, Ast.mvN_n _ _⟩, k1, g1, g2, Ast.join_top]
    simp [backB]
  · rw [behB, Ast.beh_shift (Ast.sh_join_b la lb n m 9 (by omega) (by omega)) (fun i hi => Ast.siz_of_whole z2 hi) m (Nat.le_refl _), k2, b1, b2, Ast.join_top]
    simp [behB]
theorem mvN_set (x : Nd) (n : Int) : setOf (Ast.mvN x n) = setOf x ∧ (Ast.mvN x n).s0 = x.s0 ∧ (Ast.mvN x n).s1 = x.s1 ∧ (Ast.mvN x n).s2 = x.s2 ∧ (Ast.mvN x n).s3 = x.s3 := by unfold Ast.mvN; (repeat' split) <;> exact ⟨rfl, rfl, rfl, rfl, rfl⟩
theorem lit_joined (ha : LitOkS la n) (hb : LitOkS lb m) : LitOkS (joinL la n lb m 9) (n + m + 1) := by
  intro i hi hk
  by_cases h1 : i < n
  · rw [Ast.join_a la n lb m 9 h1] at hk ⊢
    exact ha i h1 hk
  · by_cases h2 : i < n + m
    · obtain ⟨j, rfl⟩ : ∃ j, i = n + j := ⟨i - n, by omega⟩
      rw [Ast.join_b la n lb m 9 (by omega)] at hk ⊢
      rw [Ast.mvN_k] at hk
      obtain ⟨e0, e1, e2, e3, e4⟩ := mvN_set (lb j) n
      rw [e0, e1, e2, e3, e4]
      exact hb j (by omega) hk
    · obtain rfl : i = n + m := by omega
      rw [Ast.join_top] at hk
      exact absurd hk (by show ¬ (9 : Int) = 1; decide)
theorem lit_around {x : Nd} (h : LitOkS l n) (hx : x.k ≠ 1) : LitOkS (wrapL l n x) (n + 1) := by
  intro i hi hk
  by_cases h1 : i < n
  · unfold wrapL at hk ⊢
    rw [if_pos h1] at hk ⊢
    exact h i h1 hk
  · obtain rfl : i = n := by omega
    rw [Ast.wrap_top] at hk
    exact absurd hk hx
end Go.Proofs.YtfejdengpnikeaaDoor
