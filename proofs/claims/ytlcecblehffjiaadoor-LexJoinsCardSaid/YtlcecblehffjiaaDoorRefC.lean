/-
  What the statements' own calls on sets of 256 bools do: Fold, Of.
-/
import Derived.Test.YtlcecblehffjiaaDoorRefB
namespace Go.Proofs.YtlcecblehffjiaaDoor
open Go.RowKit

theorem foldTo_setB (S : BitVec 256) (i : Nat) (hi : i < 26) (b : Bool) (hb : (mem S (65 + i) || mem S (97 + i)) = b) : setB (setB (foldTo S i) (65 + i) b) (97 + i) b = foldTo S (i + 1) := by
  subst hb
  apply ext_bit
  intro n hn
  rw [setB_bit _ _ _ _ hn, setB_bit _ _ _ _ hn, foldTo_bit S i (by omega), foldTo_bit S (i + 1) (by omega)]
  have hs1 : swap (97 + i) = 65 + i := by unfold swap; rw [if_pos (by omega)]; omega
  have hs2 : swap (65 + i) = 97 + i := by unfold swap; rw [if_neg (by omega), if_pos (by omega)]; omega
  by_cases e1 : n = 97 + i
  · subst e1
    have d : decide (97 + i < 97 + (i + 1)) = true := by simp
    rw [if_pos rfl, hs1, d]
    simp [mem, Bool.or_comm]
  · by_cases e2 : n = 65 + i
    · subst e2
      have d : decide (65 + i < 65 + (i + 1)) = true := by simp
      rw [if_neg e1, if_pos rfl, hs2, d]
      simp [mem]
    · rw [if_neg e1, if_neg e2]
      have d1 : decide (n < 97 + (i + 1)) = decide (n < 97 + i) := decide_eq_decide.2 (by omega)
      have d2 : decide (n < 65 + (i + 1)) = decide (n < 65 + i) := decide_eq_decide.2 (by omega)
      rw [d1, d2]

end Go.Proofs.YtlcecblehffjiaaDoor
