/-
  AstRefA, AstRefB, AstRefC
-/
import Derived.Test.YtfejdengpnikeaaDoorAstB
import Derived.Test.YtfejdengpnikeaaDoorAstA
import Derived.Deep.QuietTactic
import Derived.BigQuiet
namespace Go.Proofs.YtfejdengpnikeaaDoor.Ast
open Go.RowKit

end Go.Proofs.YtfejdengpnikeaaDoor.Ast

namespace Go.Proofs.YtfejdengpnikeaaDoor.Ast
open Go.RowKit

theorem dep_le (l : Nat → Nd) : ∀ j, dep l j ≤ j := by
  intro j
  induction j using Nat.strongRecOn with
  | _ j ih =>
    cases j with
    | zero => exact Nat.le_refl _
    | succ m =>
      have h1 := ih m (by omega)
      have h2 := ih (m - siz l m) (by omega)
      rw [dep_succ]
      split
      · omega
      · split
        · omega
        · have : m - siz l m ≤ m := Nat.sub_le _ _
          omega
theorem Nodes.drewN {w : World} {A : Option Addr} {n : Nat} {l : Nat → Nd} (h : Nodes w A n l) (q : Nat) : Nodes (w.drewN q) A n l := h

end Go.Proofs.YtfejdengpnikeaaDoor.Ast

namespace Go.Proofs.YtfejdengpnikeaaDoor.Ast
open Go.RowKit

theorem fits_rep_of {x : Nd} (h : fitsB x = true) (hk : x.k = 10) : 0 ≤ x.mn ∧ x.mn ≤ 100 ∧ -1 ≤ x.mx ∧ x.mx ≤ 100 := by
  simp only [fitsB, decide_eq_true_eq] at h
  omega
theorem fits_kind {x : Nd} (h : fitsB x = true) : 0 ≤ x.k ∧ x.k ≤ 17 := by
  simp only [fitsB, decide_eq_true_eq] at h
  exact ⟨h.1, h.2.1⟩
theorem times_bd (a k : Int) (ha : -1 ≤ a ∧ a ≤ 1048576) : -1 ≤ timesZ a k ∧ timesZ a k ≤ 1048576 := by
  unfold timesZ
  split
  · omega
  · split
    · omega
    · have : 0 ≤ a * k := Int.mul_nonneg (by omega) (by omega)
      omega
theorem times_bd0 (a k : Int) (ha : 0 ≤ a ∧ a ≤ 1048576) (hk : 0 ≤ k) : 0 ≤ timesZ a k ∧ timesZ a k ≤ 1048576 := by
  unfold timesZ
  split
  · omega
  · split
    · omega
    · have : 0 ≤ a * k := Int.mul_nonneg (by omega) (by omega)
      omega
theorem len_bd (l : Nat → Nd) : ∀ j, siz l j ≠ 0 → (0 ≤ (len l j).1 ∧ (len l j).1 ≤ 1048576) ∧ (-1 ≤ (len l j).2 ∧ (len l j).2 ≤ 1048576) := by
  intro j
  induction j using Nat.strongRecOn with
  | _ j ih =>
    intro hs
    cases j with
    | zero => exact absurd (siz_zero l) hs
    | succ m =>
      obtain ⟨hf, hp⟩ := siz_pos hs
      rw [len_succ]
      rcases hp with ⟨hk, -⟩ | ⟨hk, h0, -⟩ | ⟨hk, h0, h1, -⟩
      · rw [if_pos hk]
        split
        · simp
        · split <;> simp
      · rw [hk, if_neg (show ¬ (1 : Int) = 0 by decide), if_pos rfl]
        have h := ih m (by omega) h0
        split
        · rename_i h10
          have hr := fits_rep_of hf h10
          exact ⟨times_bd0 _ _ h.1 hr.1, times_bd _ _ h.2⟩
        · split
          · exact h
          · simp
      · rw [hk, if_neg (show ¬ (2 : Int) = 0 by decide), if_neg (show ¬ (2 : Int) = 1 by decide)]
        have h := ih m (by omega) h0
        have h' := ih (m - siz l m) (by omega) h1
        generalize len l m = x at h ⊢
        generalize len l (m - siz l m) = y at h' ⊢
        split
        · refine ⟨?_, ?_⟩
          · show 0 ≤ plusZ y.1 x.1 ∧ plusZ y.1 x.1 ≤ 1048576
            unfold plusZ; split <;> omega
          · show -1 ≤ plusZ y.2 x.2 ∧ plusZ y.2 x.2 ≤ 1048576
            unfold plusZ; split <;> omega
        · refine ⟨?_, ?_⟩
          · show 0 ≤ min y.1 x.1 ∧ min y.1 x.1 ≤ 1048576
            omega
          · show -1 ≤ moreZ y.2 x.2 ∧ moreZ y.2 x.2 ≤ 1048576
            unfold moreZ; split <;> omega

theorem kids0 {k : Int} (h : kidsZ k = 0) (_h0 : 0 ≤ k ∧ k ≤ 17) : (k == 8) = false ∧ (k == 9) = false ∧ (k == 10) = false ∧ (k == 11) = false ∧ (k == 17) = false := by
  unfold kidsZ at h
  simp
  (repeat' split at h) <;> omega
theorem kids1 {k : Int} (h : kidsZ k = 1) : (k == 1) = false ∧ (k == 12) = false ∧ (k == 8) = false ∧ (k == 9) = false := by
  unfold kidsZ at h
  simp
  (repeat' split at h) <;> omega
theorem kids2 {k : Int} (h : kidsZ k = 2) : k = 8 ∨ k = 9 := by
  unfold kidsZ at h
  (repeat' split at h) <;> omega

end Go.Proofs.YtfejdengpnikeaaDoor.Ast
