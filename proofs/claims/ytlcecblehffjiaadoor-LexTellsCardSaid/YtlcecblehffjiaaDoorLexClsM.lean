/-
  Layer 6, mathematics: how a class is gone through.
-/
import Derived.Test.YtlcecblehffjiaaDoorLexSpan
namespace Go.Proofs.YtlcecblehffjiaaDoor
open Go.RowKit

theorem or_eq (S T : BitVec 256) : (ofPred fun n => mem S n || mem T n) = S ||| T := by
  apply BitVec.eq_of_getLsbD_eq
  intro i hi
  rw [ofPred_bit, BitVec.getLsbD_or, decide_eq_true hi, Bool.true_and]
  rfl
theorem span_eq (p : ByteArray) (i : Nat) : spanZ p i = if (itemZ p i).2 = 0 then (0#256, 0, 3) else if bt p (itemZ p i).2 ≠ 45 then ((itemZ p i).1, (itemZ p i).2, 0)
    else if (itemZ p ((itemZ p i).2 + 1)).2 = 0 then (0#256, 0, 3) else if lenS (itemZ p i).1 ≠ 1 ∨ lenS (itemZ p ((itemZ p i).2 + 1)).1 ≠ 1 ∨ minS (itemZ p ((itemZ p i).2 + 1)).1 < minS (itemZ p i).1 then (0#256, 0, 3)
    else (span (minS (itemZ p i).1) (minS (itemZ p ((itemZ p i).2 + 1)).1 + 1), (itemZ p ((itemZ p i).2 + 1)).2, 0) := by
  by_cases h0 : (itemZ p i).2 = 0
  · have hx : endZ p i = (0#256, 0, 3) := by unfold endZ; rw [if_pos h0]
    rw [if_pos h0]
    unfold spanZ
    rw [hx, if_pos (by decide)]
  · have hx : endZ p i = ((itemZ p i).1, (itemZ p i).2, 0) := by unfold endZ; rw [if_neg h0]
    rw [if_neg h0]
    unfold spanZ
    rw [hx]
    show (if (0 : Int) ≠ 0 then _ else if bt p (itemZ p i).2 ≠ 45 then _ else if (endZ p ((itemZ p i).2 + 1)).2.2 ≠ 0 then _ else if lenS (itemZ p i).1 ≠ 1 ∨ lenS (endZ p ((itemZ p i).2 + 1)).1 ≠ 1 ∨ minS (endZ p ((itemZ p i).2 + 1)).1 < minS (itemZ p i).1 then _ else _) = _
    rw [if_neg (by decide)]
    by_cases h45 : bt p (itemZ p i).2 ≠ 45
    · rw [if_pos h45, if_pos h45]
    · rw [if_neg h45, if_neg h45]
      by_cases hy0 : (itemZ p ((itemZ p i).2 + 1)).2 = 0
      · have hy : endZ p ((itemZ p i).2 + 1) = (0#256, 0, 3) := by unfold endZ; rw [if_pos hy0]
        rw [hy, if_pos (by decide), if_pos hy0]
      · have hy : endZ p ((itemZ p i).2 + 1) = ((itemZ p ((itemZ p i).2 + 1)).1, (itemZ p ((itemZ p i).2 + 1)).2, 0) := by unfold endZ; rw [if_neg hy0]
        rw [hy, if_neg (show ¬ (0 : Int) ≠ 0 by decide), if_neg hy0]
theorem cls_step (p : ByteArray) (f i : Nat) (s : BitVec 256) (first : Bool) (h : ¬ (first = false ∧ bt p i = 93)) : clsF p (f + 1) i s first = if (spanZ p i).2.2 ≠ 0 then none else clsF p f (spanZ p i).2.1 (s ||| (spanZ p i).1) false := by
  rw [clsF, if_neg h, span_eq]
  generalize itemZ p i = X
  simp only []
  by_cases h0 : X.2 = 0
  · rw [if_pos h0, if_pos h0, if_pos (by decide)]
  · rw [if_neg h0, if_neg h0]
    by_cases h45 : bt p X.2 = 45
    · rw [if_pos h45, if_neg (show ¬ bt p X.2 ≠ 45 from fun h => h h45)]
      generalize itemZ p (X.2 + 1) = Y
      by_cases hy0 : Y.2 = 0
      · rw [if_pos (.inl hy0), if_pos hy0, if_pos (by decide)]
      · rw [if_neg hy0]
        by_cases hc : lenS X.1 ≠ 1 ∨ lenS Y.1 ≠ 1 ∨ minS Y.1 < minS X.1
        · rw [if_pos (.inr hc), if_pos hc, if_pos (by decide)]
        · rw [if_neg (show ¬ (Y.2 = 0 ∨ lenS X.1 ≠ 1 ∨ lenS Y.1 ≠ 1 ∨ minS Y.1 < minS X.1) from fun h => h.elim hy0 hc), if_neg hc, if_neg (show ¬ (0 : Int) ≠ 0 by decide), or_eq]
    · rw [if_neg h45, if_pos h45, if_neg (show ¬ (0 : Int) ≠ 0 by decide), or_eq]
theorem cls_end (p : ByteArray) (f i : Nat) (s : BitVec 256) (h : bt p i = 93) : clsF p (f + 1) i s false = some (s, i) := by rw [clsF, if_pos ⟨rfl, h⟩]
theorem span_up (p : ByteArray) (i : Nat) : spanZ p i = (0#256, 0, 3) ∨ ((spanZ p i).2.2 = 0 ∧ i + 1 ≤ (spanZ p i).2.1 ∧ (spanZ p i).2.1 ≤ p.size) := by
  have h1 := end_up p i
  have h2 := end_up p ((endZ p i).2.1 + 1)
  unfold spanZ
  split
  · exact .inl rfl
  · rename_i h0
    have h1' : (endZ p i).2.2 = 0 ∧ i + 1 ≤ (endZ p i).2.1 ∧ (endZ p i).2.1 ≤ p.size := by
      rcases h1 with h | h
      · rw [h] at h0; simp at h0
      · exact h
    split
    · exact .inr h1'
    · split
      · exact .inl rfl
      · rename_i h3
        have h2' := h2.resolve_left (fun h => by rw [h] at h3; simp at h3)
        split
        · exact .inl rfl
        · exact .inr ⟨rfl, by simp only []; omega, h2'.2.2⟩
theorem span_no (p : ByteArray) (i : Nat) (h : p.size ≤ i ∨ bt p i = 93) : spanZ p i = (0#256, 0, 3) := by
  have := end_no (p := p) (i := i) (by rcases h with h | h; exact .inl h; exact .inr (by simp [h]))
  unfold spanZ
  rw [this, if_pos (by simp)]
/-- How far the items have been gone through. -/
def ClsI (p : ByteArray) (a k : Nat) (S : BitVec 256) : Prop := a ≤ k ∧ ∃ f, p.size + 1 ≤ f + k ∧ clsF p (p.size + 1) a 0#256 true = clsF p f k S (decide (k = a))
theorem cls_0 (p : ByteArray) (a : Nat) : ClsI p a a 0#256 := ⟨Nat.le_refl _, p.size + 1, by omega, by rw [decide_eq_true rfl]⟩
section
variable {p : ByteArray} {a k : Nat} {S : BitVec 256}
theorem cls_bad (hI : ClsI p a k S) (hk : k ≤ p.size) (h : bt p k ≠ 93 ∨ k = a) (hs : (spanZ p k).2.2 ≠ 0) : clsF p (p.size + 1) a 0#256 true = none := by
  obtain ⟨-, f, hf, he⟩ := hI
  obtain ⟨f, rfl⟩ : ∃ g, f = g + 1 := ⟨f - 1, by omega⟩
  rw [he, cls_step _ _ _ _ _ (by rintro ⟨h1, h2⟩; rcases h with h | h; exact h h2; rw [decide_eq_true h] at h1; cases h1), if_pos hs]
theorem cls_next (hI : ClsI p a k S) (hk : k ≤ p.size) (h : bt p k ≠ 93) (hs : (spanZ p k).2.2 = 0) : ClsI p a (spanZ p k).2.1 (S ||| (spanZ p k).1) := by
  obtain ⟨ha, f, hf, he⟩ := hI
  obtain ⟨f, rfl⟩ : ∃ g, f = g + 1 := ⟨f - 1, by omega⟩
  have hu := (span_up p k).resolve_left (fun h => by rw [h] at hs; simp at hs)
  refine ⟨by omega, f, by omega, ?_⟩
  rw [he, cls_step _ _ _ _ _ (fun h2 => h h2.2), if_neg (by simp [hs]), decide_eq_false (by omega)]
theorem cls_done (hI : ClsI p a k S) (hk : k ≤ p.size) (h : bt p k = 93) (hne : k ≠ a) : clsF p (p.size + 1) a 0#256 true = some (S, k) := by
  obtain ⟨-, f, hf, he⟩ := hI
  obtain ⟨f, rfl⟩ : ∃ g, f = g + 1 := ⟨f - 1, by omega⟩
  rw [he, decide_eq_false hne, cls_end _ _ _ _ h]
end
/-- The answer, of what the items come to. -/
def clsR (oth : Bool) : Option (BitVec 256 × Nat) → BitVec 256 × Nat × Int
  | none => (0#256, 0, 3)
  | some x => (bif oth then ~~~x.1 else x.1, x.2 + 1, 0)
theorem class_eq {p : ByteArray} {i : Nat} (hi : i < p.size) (h : bt p i = 91) : classZ p i = clsR (bt p (i + 1) == 94) (clsF p (p.size + 1) (if bt p (i + 1) = 94 then i + 2 else i + 1) 0#256 true) := by
  unfold classZ
  rw [if_neg (by omega)]
  split
  · rename_i h1; rw [h1]; rfl
  · rename_i x h1
    rw [h1]
    show _ = (bif (bt p (i + 1) == 94) then ~~~x.1 else x.1, x.2 + 1, 0)
    by_cases h94 : bt p (i + 1) = 94
    · rw [if_pos h94, beq_iff_eq.2 h94, cond_true, not_eq]
    · rw [if_neg h94, beq_eq_false_iff_ne.2 h94, cond_false]
end Go.Proofs.YtlcecblehffjiaaDoor
