/-
  Layer 5, mathematics: two trees without groups, joined in either order.
-/
import Derived.Test.YtcjefhjhmmoocaaAstGrowFacts
namespace Go.Proofs.Ytcjefhjhmmoocaa

theorem cnt_zero {l : Nat → Nd} : ∀ {n : Nat}, cntG l n = 0 → ∀ i, i < n → (l i).k ≠ 11
  | 0, _, i, hi => by omega
  | n + 1, h, i, hi => by
    unfold cntG at h
    by_cases e : i = n
    · subst e
      intro h1
      rw [if_pos h1] at h
      omega
    · exact cnt_zero (n := n) (by omega) i (by omega)
theorem grp_none {l : Nat → Nd} {n : Nat} (h : ∀ i, i < n → (l i).k ≠ 11) : ∀ j, j ≤ n → grp l j = [] := by
  intro j
  induction j using Nat.strongRecOn with
  | _ j ih =>
    intro hj
    cases j with
    | zero => rfl
    | succ i =>
      rw [grp_succ, ih i (by omega) (by omega), ih (i - siz l i) (by omega) (by omega), if_neg (h i (by omega))]
      (repeat' split) <;> rfl
theorem groups_none {l : Nat → Nd} {n : Nat} (h : cntG l n = 0) : groupsB l n = backB l 0 n := by
  unfold groupsB
  rw [grp_none (cnt_zero h) n (Nat.le_refl _)]
  simp [numB]
theorem back_shift {l l' : Nat → Nd} {c mm : Nat} : ∀ j, (∀ i, i < j → (l' (c + i)).k = (l i).k ∧ (l' (c + i)).n = (l i).n) → backB l' mm (c + j) = (backB l' mm c && backB l mm j)
  | 0, _ => by simp [backB]
  | j + 1, h => by
    rw [show c + (j + 1) = c + j + 1 by omega, backB, backB, (h j (by omega)).1, (h j (by omega)).2, back_shift j fun i hi => h i (by omega), Bool.and_assoc]
theorem mvN_n (x : Nd) (n : Int) : (mvN x n).n = x.n := by unfold mvN; (repeat' split) <;> rfl
theorem join_back (la lb : Nat → Nd) (m k mm : Nat) : backB (joinL la m lb k 8) mm (m + k + 1) = (backB la mm m && backB lb mm k) := by
  have h1 := back_shift (l := la) (l' := joinL la m lb k 8) (c := 0) (mm := mm) m fun i hi => by rw [Nat.zero_add, join_a la m lb k 8 hi]; exact ⟨rfl, rfl⟩
  rw [Nat.zero_add] at h1
  rw [backB, back_shift (l := lb) k fun i hi => by rw [join_b la m lb k 8 hi]; exact ⟨mvN_k _ _, mvN_n _ _⟩, h1, join_top]
  simp [backB]
theorem beh_shift {l l' : Nat → Nd} {c m : Nat} (h : Sh l' c l m) (hs : ∀ i, i < m → siz l (i + 1) ≠ 0) : ∀ j, j ≤ m → behB l' (c + j) = (behB l' c && behB l j)
  | 0, _ => by simp [behB]
  | j + 1, hj => by
    have hx := h j (by omega) (hs j (by omega))
    have hk : (l' (c + j)).k = (l j).k := by rw [hx]
    rw [show c + (j + 1) = c + j + 1 by omega, behB, behB, hk, beh_shift h hs j (by omega), Bool.and_assoc]
    by_cases hb : (l j).k = 15 ∨ (l j).k = 16
    · have hk1 : kidsZ (l j).k = 1 := by rcases hb with e | e <;> rw [e] <;> rfl
      obtain ⟨_, ⟨hk0, _⟩ | ⟨_, h0, _⟩ | ⟨hk2, _⟩⟩ := siz_pos (hs j (by omega))
      · omega
      · rw [sh_len h j (by omega) h0]
      · omega
    · rw [if_neg hb, if_neg hb]
theorem join_beh {la lb : Nat → Nd} {m k : Nat} (hm : m ≤ 1000) (hk : k ≤ 1000) (ha : siz la m = m) (hb : siz lb k = k) : behB (joinL la m lb k 8) (m + k + 1) = (behB la m && behB lb k) := by
  have h1 := beh_shift (sh_join_a la lb m k 8) (fun i hi => siz_of_whole ha hi) m (Nat.le_refl _)
  rw [Nat.zero_add] at h1
  rw [behB, beh_shift (sh_join_b la lb m k 8 (by omega) (by omega)) (fun i hi => siz_of_whole hb hi) k (Nat.le_refl _), h1, join_top]
  simp [behB]
theorem right_0 {l : Nat → Nd} {n : Nat} (h : rightZ l n = 0) : shapeZ l n = 0 ∧ groupsB l n = true ∧ behB l n = true := by
  unfold rightZ at h
  split at h
  · omega
  · rename_i h1
    split at h
    · omega
    · rename_i h2
      split at h
      · omega
      · rename_i h3
        exact ⟨by omega, by simpa using h2, by simpa using h3⟩
theorem right_of {l : Nat → Nd} {n : Nat} (h1 : shapeZ l n = 0) (h2 : groupsB l n = true) (h3 : behB l n = true) : rightZ l n = 0 := by
  unfold rightZ
  rw [if_neg (by omega), h2, h3]
  simp
theorem right_deep {l : Nat → Nd} {n : Nat} (h : rightZ l n = 0) : deepZ l n ≠ 0 := by
  intro h0
  exact right_bad h0 h
theorem order_right {la lb : Nat → Nd} {m k : Nat} (hm : m ≤ 60) (hk : k ≤ 60) (ha : rightZ la m = 0) (hb : rightZ lb k = 0) (hg : cntG la m + cntG lb k = 0) (hx : deepZ la m < 40) (hy : deepZ lb k < 40) : rightZ (joinL la m lb k 8) (m + k + 1) = 0 := by
  obtain ⟨s1, g1, b1⟩ := right_0 ha
  obtain ⟨s2, g2, b2⟩ := right_0 hb
  obtain ⟨_, e1, h1, z1⟩ := deep_form (right_deep ha)
  obtain ⟨_, e2, h2, z2⟩ := deep_form (right_deep hb)
  have hd := grows_dep hm hk (right_deep ha) (right_deep hb)
  obtain ⟨_, e3, h3, z3⟩ := deep_form (l := joinL la m lb k 8) (m := m + k + 1) (by omega)
  refine right_of (shape_of z3 h3 (by omega) (by omega)) ?_ ?_
  · rw [groups_none (by rw [join_cnt _ _ _ _ _ (by decide)]; exact hg), join_back]
    rw [groups_none (by omega)] at g1 g2
    rw [g1, g2]
    rfl
  · rw [join_beh (by omega) (by omega) z1 z2, b1, b2]
    rfl
theorem plus_comm (a b : Int) : plusZ a b = plusZ b a := by unfold plusZ; (repeat' split) <;> omega
theorem order_same {la lb : Nat → Nd} {m k : Nat} (h0 : 0 < m) (h1 : 0 < k) : sameZ (joinL la m lb k 8) (m + k + 1) (joinL lb k la m 8) (k + m + 1) = sameZ la m lb k := by
  rw [Bool.eq_iff_iff, sameZ_iff, sameZ_iff]
  constructor
  · rintro ⟨_, h⟩
    have ht := h (m + k) (by omega)
    rw [join_top, show m + k = k + m by omega, join_top] at ht
    have ha := congrArg Nd.a ht
    have hmk : m = k := by
      have : (m : Int) - 1 = (k : Int) - 1 := ha
      omega
    refine ⟨hmk, fun i hi => ?_⟩
    have := h i (by omega)
    rwa [join_a la m lb k 8 hi, join_a lb k la m 8 (by omega)] at this
  · rintro ⟨rfl, h⟩
    refine ⟨rfl, fun i hi => ?_⟩
    by_cases h2 : i < m
    · rw [join_a la m lb m 8 h2, join_a lb m la m 8 h2]
      exact h i h2
    · by_cases h3 : i < m + m
      · obtain ⟨j, rfl⟩ : ∃ j, i = m + j := ⟨i - m, by omega⟩
        rw [join_b la m lb m 8 (by omega), join_b lb m la m 8 (by omega), h j (by omega)]
      · obtain rfl : i = m + m := by omega
        rw [join_top, join_top]
end Go.Proofs.Ytcjefhjhmmoocaa
