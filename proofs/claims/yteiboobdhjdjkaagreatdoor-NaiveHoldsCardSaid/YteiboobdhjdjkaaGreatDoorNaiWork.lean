import Derived.Test.YteiboobdhjdjkaaGreatDoorNaiDef
namespace Go.Proofs.YteiboobdhjdjkaaGreatDoor.Nai
open Ast (Nd)
def cl (K a : Nat) : Nat := min a K
def loopC (K w o ts ms : Nat) : Nat → Nat → Nat → Nat → Nat → Nat × Nat
 | 0, _, _, W, U => (W, U)
 | f + 1, j, T, W, U => if j < ts ∧ W < K then loopC K w o ts ms f (j + 1) (cl K (T * o)) (cl K (W + cl K (T * cl K (w + 1)))) (if j < ms then cl K (U + cl K (T * o)) else U) else (W, U)
def workC (K n : Nat) : Re → Nat × Nat
 | .leaf _ => (1, 1)
 | .two x a b => if x.k = 8 then (cl K (1 + cl K ((workC K n a).1 + cl K ((workC K n a).2 * (workC K n b).1))), cl K ((workC K n a).2 * (workC K n b).2)) else (cl K (1 + cl K ((workC K n a).1 + (workC K n b).1)), cl K ((workC K n a).2 + (workC K n b).2))
 | .one x _ a =>
   if x.k = 11 then (cl K (1 + (workC K n a).1), (workC K n a).2)
   else if x.k ≠ 10 then (cl K (1 + (workC K n a).1), 1)
   else ((loopC K (workC K n a).1 (workC K n a).2 (tries n x.mn x.mx) (most n x.mn x.mx) (tries n x.mn x.mx) 0 1 1 1).1, if x.md = 2 then 1 else (loopC K (workC K n a).1 (workC K n a).2 (tries n x.mn x.mx) (most n x.mn x.mx) (tries n x.mn x.mx) 0 1 1 1).2)
theorem loop_full (K w o ts ms : Nat) : ∀ f j T W U, K ≤ W → (loopC K w o ts ms f j T W U).1 = W
 | 0, _, _, _, _, _ => rfl
 | f + 1, j, T, W, U, h => by unfold loopC; rw [if_neg (by omega)]
theorem pows_next (o : Nat) : ∀ j, pows o (j + 1) = pows o j + o ^ j
 | 0 => by simp [pows]
 | j + 1 => by
   have ih := pows_next o j
   have h1 : pows o (j + 2) = 1 + o * pows o (j + 1) := rfl
   have h2 : pows o (j + 1) = 1 + o * pows o j := rfl
   have h3 : o * pows o (j + 1) = o * pows o j + o * o ^ j := by rw [ih, Nat.mul_add]
   rw [h1, h3, Nat.pow_succ, Nat.mul_comm (o ^ j) o]
   omega
theorem loop_ok {K w o ts ms : Nat} (ho : o ≤ w) (h1o : 1 ≤ o) : ∀ f j T W U, ts - j ≤ f → j ≤ ts → T = o ^ j → W = 1 + (w + 1) * pows o j → U = pows o (min j ms + 1) → U ≤ W → (loopC K w o ts ms f j T W U).1 < K →
  loopC K w o ts ms f j T W U = (1 + (w + 1) * pows o ts, pows o (min ts ms + 1)) := by
 intro f
 induction f with
 | zero =>
   intro j T W U h1 h2 _ hW hU _ _
   obtain rfl : j = ts := by omega
   show (W, U) = _
   rw [hW, hU]
 | succ f ih =>
   intro j T W U h1 h2 hT hW hU hUW h
   by_cases hj : j < ts
   ·unfold loopC at h ⊢
    by_cases hc : W < K
    ·rw [if_pos ⟨hj, hc⟩] at h ⊢
     have hlt : cl K (W + cl K (T * cl K (w + 1))) < K := by
      apply Classical.byContradiction
      intro hn
      have := loop_full K w o ts ms f (j + 1) (cl K (T * o)) (cl K (W + cl K (T * cl K (w + 1)))) (if j < ms then cl K (U + cl K (T * o)) else U) (by omega)
      omega
     have hTp : 1 ≤ T := by rw [hT]; exact Nat.pow_pos h1o
     unfold cl at hlt
     have hV1 := Nat.mul_le_mul_right (min (w + 1) K) hTp
     have hw1 : min (w + 1) K = w + 1 := by omega
     rw [hw1] at hlt hV1
     have hTo : T * o ≤ T * (w + 1) := Nat.mul_le_mul_left T (by omega)
     have e1 : cl K (T * cl K (w + 1)) = T * (w + 1) := by unfold cl; rw [hw1]; omega
     have e2 : cl K (W + T * (w + 1)) = W + T * (w + 1) := by unfold cl; omega
     have e3 : cl K (T * o) = T * o := by unfold cl; omega
     have e4 : cl K (U + T * o) = U + T * o := by unfold cl; omega
     rw [e1, e2, e3, e4] at h ⊢
     have hp := pows_next o j
     have hp2 := pows_next o (j + 1)
     refine ih (j + 1) _ _ _ (by omega) (by omega) (by rw [hT, Nat.pow_succ]) ?_ ?_ ?_ h
     ·rw [hW, hp, Nat.mul_add (w + 1), hT, Nat.mul_comm (o ^ j) (w + 1), Nat.add_assoc]
     ·split
      ·rw [hU, show min j ms + 1 = j + 1 by omega, show min (j + 1) ms + 1 = j + 1 + 1 by omega, hp2, hT, Nat.pow_succ]
      ·rw [hU, show min (j + 1) ms = min j ms by omega]
     ·split <;> omega
    ·rw [if_neg (by omega)] at h
     simp at h
     omega
   ·obtain rfl : j = ts := by omega
    unfold loopC
    rw [if_neg (by omega), hW, hU]
theorem workC_ok {K n : Nat} : ∀ r : Re, r.reps → (workC K n r).1 < K → workC K n r = work n r
 | .leaf _, _, _ => rfl
 | .two x a b, hr, h => by
   have ha := work_out n a
   have hb := work_out n b
   have ia := workC_ok (K := K) (n := n) a hr.1
   have ib := workC_ok (K := K) (n := n) b hr.2
   unfold workC at h ⊢
   unfold work
   by_cases hk : x.k = 8
   ·rw [if_pos hk] at h ⊢
    rw [if_pos hk]
    simp only [cl] at h ⊢
    have iA := ia (by omega)
    rw [iA] at h ⊢
    have h1 := Nat.mul_le_mul_right (workC K n b).1 ha.1
    have iB := ib (by omega)
    rw [iB] at h ⊢
    have h2 : (work n a).2 * (work n b).2 ≤ (work n a).2 * (work n b).1 := Nat.mul_le_mul_left _ hb.2
    ext <;> simp only [] <;> omega
   ·rw [if_neg hk] at h ⊢
    rw [if_neg hk]
    simp only [cl] at h ⊢
    have iA := ia (by omega)
    have iB := ib (by omega)
    rw [iA, iB] at h ⊢
    ext <;> simp only [] <;> omega
 | .one x bk a, hr, h => by
   have ha := work_out n a
   have ia := workC_ok (K := K) (n := n) a hr.2
   rw [work_one]
   unfold workC at h ⊢
   by_cases hk : x.k = 11
   ·rw [if_pos hk] at h ⊢
    rw [if_neg (by omega), if_pos hk]
    simp only [cl] at h ⊢
    have iA := ia (by omega)
    rw [iA] at h ⊢
    ext <;> simp only [] <;> omega
   ·rw [if_neg hk] at h ⊢
    by_cases h10 : x.k = 10
    ·rw [if_neg (by omega)] at h ⊢
     rw [if_pos h10]
     simp only at h
     by_cases h0 : tries n x.mn x.mx = 0
     ·have hm : most n x.mn x.mx = 0 := by unfold tries at h0; unfold most; split at h0 <;> (rename_i hc; first | (rw [if_pos hc]; omega) | omega)
      rw [h0, hm]
      simp [loopC, pows]
     ·have iA := ia (by
       apply Classical.byContradiction
       intro hn
       obtain ⟨t, ht⟩ : ∃ t, tries n x.mn x.mx = t + 1 := ⟨_, (Nat.succ_pred_eq_of_pos (by omega)).symm⟩
       rw [ht] at h
       unfold loopC at h
       have hK : 1 < K := by
        apply Classical.byContradiction
        intro hk
        rw [if_neg (by omega)] at h
        simp at h
        omega
       rw [if_pos ⟨by omega, hK⟩, loop_full _ _ _ _ _ _ _ _ _ _ (by simp only [cl]; omega)] at h
       simp only [cl] at h
       omega)
      rw [iA] at h ⊢
      have hl := loop_ok (ms := most n x.mn x.mx) ha.2 ha.1 (tries n x.mn x.mx) 0 1 1 1 (by omega) (by omega) (by simp) (by simp [pows]) (by simp [pows]) (by omega) h
      rw [hl]
      have hmt : most n x.mn x.mx ≤ tries n x.mn x.mx := by unfold most tries; split <;> omega
      rw [Nat.min_eq_right hmt]
    ·rw [if_pos h10] at h ⊢
     rw [if_neg h10, if_neg hk]
     simp only [cl] at h ⊢
     have iA := ia (by omega)
     rw [iA] at h ⊢
     ext <;> simp only [] <;> omega
end Go.Proofs.YteiboobdhjdjkaaGreatDoor.Nai
