/-
  Plain facts on the statements' own sets: whether each of 256 bytes is in. No program stands here.
-/
import Derived.Test.YtlcecblehffjiaaDoorSetsB
import Derived.Laws.Rows
namespace Go.Proofs.YtlcecblehffjiaaDoor
open Go.RowKit

/-- The set as 256 cells. -/
def bitsA (S : BitVec 256) : Array Value := ((List.range 256).map fun i => Value.bool (mem S i)).toArray
theorem bitsA_size (S : BitVec 256) : (bitsA S).size = 256 := by simp [bitsA]
theorem bitsA_get (S : BitVec 256) (i : Nat) (h : i < 256) : (bitsA S)[i]? = some (.bool (mem S i)) := by simp [bitsA, h]
theorem bitsA_one (S : BitVec 256) : (bitsA S).all (·.oneCell') = true := by
  unfold bitsA
  rw [List.all_toArray, List.all_map, List.all_eq_true]
  intro i _
  rfl

/-- The set in which byte i is, or is not. -/
def setB (S : BitVec 256) (i : Nat) (b : Bool) : BitVec 256 := ofPred fun n => if n = i then b else mem S n
theorem setB_bit (S : BitVec 256) (i : Nat) (b : Bool) (n : Nat) (hn : n < 256) : (setB S i b).getLsbD n = if n = i then b else S.getLsbD n := by
  unfold setB
  rw [ofPred_bit]
  simp only [hn, decide_true, Bool.true_and]
  rfl
theorem bitsA_set (S : BitVec 256) (i : Nat) (b : Bool) (hi : i < 256) : (bitsA S).setIfInBounds i (.bool b) = bitsA (setB S i b) := by
  apply Array.ext_getElem?
  intro j
  rw [Array.getElem?_setIfInBounds]
  by_cases hj : j < 256
  · rw [bitsA_get _ _ hj, bitsA_get _ _ hj]
    have e := setB_bit S i b j hj
    by_cases h : i = j
    · subst h
      have hm : mem (setB S i b) i = b := by unfold mem; rw [e]; simp
      rw [if_pos rfl, if_pos (by rw [bitsA_size]; exact hi), hm]
    · have hm : mem (setB S i b) j = mem S j := by unfold mem; rw [e, if_neg (fun q => h q.symm)]
      rw [if_neg h, hm]
  · have h1 : (bitsA S)[j]? = none := by rw [Array.getElem?_eq_none]; rw [bitsA_size]; omega
    have h2 : (bitsA (setB S i b))[j]? = none := by rw [Array.getElem?_eq_none]; rw [bitsA_size]; omega
    rw [if_neg (by omega), h1, h2]

/-- The first i bytes by p, the others as S has them. -/
def mixTo (p : Nat → Bool) (S : BitVec 256) (i : Nat) : BitVec 256 := ofPred fun n => if n < i then p n else mem S n
theorem mixTo_bit (p : Nat → Bool) (S : BitVec 256) (i n : Nat) (hn : n < 256) : (mixTo p S i).getLsbD n = if n < i then p n else S.getLsbD n := by
  unfold mixTo
  rw [ofPred_bit]
  simp only [hn, decide_true, Bool.true_and]
  rfl
theorem mixTo_zero (p : Nat → Bool) (S : BitVec 256) : mixTo p S 0 = S := by
  apply ext_bit
  intro n hn
  rw [mixTo_bit _ _ _ _ hn]; simp
theorem mixTo_step (p : Nat → Bool) (S : BitVec 256) (i : Nat) : setB (mixTo p S i) i (p i) = mixTo p S (i + 1) := by
  apply ext_bit
  intro n hn
  rw [setB_bit _ _ _ _ hn, mixTo_bit _ _ _ _ hn, mixTo_bit _ _ _ _ hn]
  by_cases h : n = i
  · subst h; simp
  · rw [if_neg h]
    by_cases h2 : n < i
    · rw [if_pos h2, if_pos (by omega)]
    · rw [if_neg h2, if_neg (by omega)]
theorem mixTo_all (p : Nat → Bool) (S : BitVec 256) : mixTo p S 256 = ofPred p := by
  apply ext_bit
  intro n hn
  rw [mixTo_bit _ _ _ _ hn, ofPred_bit]
  simp [hn]
theorem mixTo_at (p : Nat → Bool) (S : BitVec 256) (i : Nat) (hi : i < 256) : mem (mixTo p S i) i = mem S i := by
  unfold mem
  rw [mixTo_bit _ _ _ _ hi]
  simp
end Go.Proofs.YtlcecblehffjiaaDoor
