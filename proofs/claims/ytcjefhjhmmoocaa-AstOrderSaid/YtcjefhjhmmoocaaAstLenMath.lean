/-
  Layer 5, mathematics: how many bytes trees have at least, and at most; what Len answers of them.
-/
import Derived.Test.YtcjefhjhmmoocaaAstGrow
namespace Go.Proofs.Ytcjefhjhmmoocaa

theorem lenZ_bad {l : Nat → Nd} {m : Nat} (h : shapeZ l m ≠ 0) (i : Int) : lenZ l m i = (0, 0, shapeZ l m) := by unfold lenZ; rw [if_pos h]
theorem lenZ_last {l : Nat → Nd} {m : Nat} (h : shapeZ l m = 0) : lenZ l m ((m : Int) - 1) = ((len l m).1, (len l m).2, 0) := by
  obtain ⟨_, h0, _⟩ := form_0 (shape_0 h).1
  unfold lenZ
  rw [if_neg (by omega), if_neg (by omega), show ((m : Int) - 1).toNat + 1 = m by omega]
theorem deep_shape {l : Nat → Nd} {m : Nat} (h : shapeZ l m = 0) : deepZ l m = dep l m := by
  unfold deepZ
  rw [if_pos (shape_0 h).1]

theorem shape_of {l : Nat → Nd} {m : Nat} (h : siz l m = m) (h0 : 0 < m) (hm : m ≤ 500) (hd : dep l m ≤ 40) : shapeZ l m = 0 := by
  have hf : formZ l m = 0 := by
    unfold formZ goodB
    rw [if_neg (by omega), decide_eq_true ⟨h0, h⟩]
    rfl
  unfold shapeZ
  rw [if_neg (by omega)]
  exact hf
theorem wrap_shape {l : Nat → Nd} {m : Nat} {x : Nd} (hk : kidsZ x.k = 1) (hf : fitsB x = true) (h : shapeZ l m = 0) (hm : m ≤ 400) (hd : dep l m ≤ 39) : shapeZ (wrapL l m x) (m + 1) = 0 := by
  obtain ⟨h1, h2⟩ := shape_0 h
  obtain ⟨_, h0, hs⟩ := form_0 h1
  refine shape_of (wrap_in hk hf h0 hs).2 (by omega) (by omega) ?_
  rw [wrap_dep hk h0 hs]
  omega
theorem times_mono {a b : Int} {k k' : Int} (ha : 0 ≤ a) (hab : a ≤ b) (hk : 0 ≤ k) (hkk : k ≤ k') : timesZ a k ≤ timesZ b k' := by
  have h : a * k ≤ b * k' := Int.mul_le_mul hab hkk hk (by omega)
  have h0 : 0 ≤ b * k' := Int.mul_nonneg (by omega) (by omega)
  unfold timesZ
  split
  · split
    · omega
    · rw [if_neg (by omega)]; omega
  · rename_i h1
    rw [if_neg (by omega), if_neg (by omega), if_neg (by omega)]
    omega
theorem len_ord (l : Nat → Nd) : ∀ j, siz l j ≠ 0 → (len l j).2 = -1 ∨ (len l j).1 ≤ (len l j).2 := by
  intro j
  induction j using Nat.strongRecOn with
  | _ j ih =>
    intro hs
    cases j with
    | zero => exact absurd (siz_zero l) hs
    | succ i =>
      have hle := siz_le l i
      rw [len_succ]
      obtain ⟨hf, ⟨hk, ha, hb, he⟩ | ⟨hk, h0, ha, hb, he⟩ | ⟨hk, h0, h1, ha, hb, he⟩⟩ := siz_pos hs
      · rw [hk]
        simp only [if_true]
        split
        · right; exact Int.le_refl _
        · split
          · left; rfl
          · right; exact Int.le_refl _
      · rw [hk]
        simp only [show ¬ (1 : Int) = 0 by decide, if_false, if_true]
        have h2 := ih i (by omega) h0
        obtain ⟨⟨b1, b2⟩, b3, b4⟩ := len_bd l i h0
        split
        · rename_i h10
          have hf' : 0 ≤ (l i).mn ∧ (l i).mn ≤ 100 ∧ (l i).mx ≤ 100 ∧ ((l i).mx = -1 ∨ (l i).mn ≤ (l i).mx) := by
            unfold fitsB at hf
            have := of_decide_eq_true hf
            omega
          obtain ⟨m1, m2, m3, m4⟩ := hf'
          show timesZ (len l i).2 (l i).mx = -1 ∨ timesZ (len l i).1 (l i).mn ≤ timesZ (len l i).2 (l i).mx
          generalize (len l i).1 = p at *
          generalize (len l i).2 = q at *
          by_cases hq : q = 0
          · have hp : p = 0 := by omega
            subst hq hp
            right
            simp [timesZ]
          · by_cases hx : (l i).mx = 0
            · have hn : (l i).mn = 0 := by omega
              rw [hx, hn]
              right
              simp [timesZ]
            · by_cases hneg : q < 0 ∨ (l i).mx < 0
              · left
                unfold timesZ
                rw [if_neg (by omega), if_pos hneg]
              · right
                exact times_mono b1 (by omega) m1 (by omega)
        · split
          · exact h2
          · right; exact Int.le_refl _
      · rw [hk]
        simp only [show ¬ (2 : Int) = 0 by decide, show ¬ (2 : Int) = 1 by decide, if_false]
        have h2 := ih i (by omega) h0
        have h3 := ih (i - siz l i) (by omega) h1
        obtain ⟨⟨b1, b2⟩, b3, b4⟩ := len_bd l i h0
        obtain ⟨⟨d1, d2⟩, d3, d4⟩ := len_bd l (i - siz l i) h1
        split
        · show plusZ _ _ = -1 ∨ plusZ _ _ ≤ plusZ _ _
          unfold plusZ
          (repeat' split) <;> omega
        · show moreZ _ _ = -1 ∨ min _ _ ≤ moreZ _ _
          unfold moreZ
          (repeat' split) <;> omega
theorem times_inf (b : Int) : timesZ b (-1) = if b = 0 then 0 else -1 := by
  unfold timesZ
  by_cases h : b = 0
  · rw [if_pos (.inl h), if_pos h]
  · rw [if_neg (by omega), if_pos (.inr (by decide)), if_neg h]
end Go.Proofs.Ytcjefhjhmmoocaa
