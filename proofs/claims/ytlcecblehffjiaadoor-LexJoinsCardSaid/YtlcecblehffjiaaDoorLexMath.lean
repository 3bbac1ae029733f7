/-
  Layer 6, mathematics: what stands at a place of a pattern.
-/
import Derived.Test.YtlcecblehffjiaaDoorSetsB
import Derived.Test.YtlcecblehffjiaaDoorProg
namespace Go.Proofs.YtlcecblehffjiaaDoor

/-- The byte at a place; 256: there is none. -/
def bt (p : ByteArray) (i : Nat) : Nat := if h : i < p.size then (p[i]).toNat else 256
theorem bt_lt {p : ByteArray} {i : Nat} (h : i < p.size) : bt p i < 256 := by unfold bt; rw [dif_pos h]; exact (p[i]).toNat_lt
theorem bt_at {p : ByteArray} {i : Nat} (h : i < p.size) : bt p i = (p[i]).toNat := by unfold bt; rw [dif_pos h]
theorem bt_no {p : ByteArray} {i : Nat} (h : p.size ≤ i) : bt p i = 256 := by unfold bt; rw [dif_neg (by omega)]
theorem bt_in {p : ByteArray} {i : Nat} (h : bt p i ≠ 256) : i < p.size := by
  rcases Nat.lt_or_ge i p.size with h1 | h1
  · exact h1
  · exact absurd (bt_no h1) h
def oneS (n : Nat) : BitVec 256 := span n (n + 1)
def digS : BitVec 256 := span 48 58
def wordS : BitVec 256 := ofPred fun n => (decide (48 ≤ n ∧ n < 58) || decide (97 ≤ n ∧ n < 123)) || (decide (65 ≤ n ∧ n < 91) || decide (n = 95))
def spaceS : BitVec 256 := ofPred fun n => decide (9 ≤ n ∧ n < 14) || decide (n = 32)
def notS' (S : BitVec 256) : BitVec 256 := ofPred fun n => !mem S n
/-- As a digit to the base 16. -/
def hexZ (c : Nat) : Int := if 48 ≤ c ∧ c ≤ 57 then (c : Int) - 48 else if 97 ≤ c ∧ c ≤ 102 then (c : Int) - 87 else if 65 ≤ c ∧ c ≤ 70 then (c : Int) - 55 else -1
theorem hexZ_lt (c : Nat) : -1 ≤ hexZ c ∧ hexZ c ≤ 15 := by unfold hexZ; (repeat' split) <;> omega
/-- The set of the letter behind a backslash, that stands for a set. -/
def nameS (c : Nat) : Option (BitVec 256) :=
  if c = 100 then some digS else if c = 68 then some (notS' digS) else if c = 119 then some wordS else if c = 87 then some (notS' wordS)
  else if c = 115 then some spaceS else if c = 83 then some (notS' spaceS) else if c = 110 then some (oneS 10) else if c = 116 then some (oneS 9)
  else if c = 114 then some (oneS 13) else if c = 102 then some (oneS 12) else if c = 118 then some (oneS 11) else none
/-- The escape at a place: its set, and the place behind; 0: there is none. -/
def escZ (p : ByteArray) (i : Nat) : BitVec 256 × Nat :=
  if p.size ≤ i + 1 then (0#256, 0)
  else match nameS (bt p (i + 1)) with
    | some S => (S, i + 2)
    | none =>
      if bt p (i + 1) = 120 ∧ i + 3 < p.size ∧ 0 ≤ hexZ (bt p (i + 2)) ∧ 0 ≤ hexZ (bt p (i + 3)) then (oneS (16 * hexZ (bt p (i + 2)) + hexZ (bt p (i + 3))).toNat, i + 4)
      else if bt p (i + 1) = 95 ∨ mem wordS (bt p (i + 1)) = false then (oneS (bt p (i + 1)), i + 2)
      else (0#256, 0)
/-- A class's item at a place, but a span. -/
def itemZ (p : ByteArray) (i : Nat) : BitVec 256 × Nat :=
  if p.size ≤ i ∨ bt p i = 91 ∨ bt p i = 93 ∨ bt p i = 45 then (0#256, 0) else if bt p i = 92 then escZ p i else (oneS (bt p i), i + 1)
theorem escZ_up (p : ByteArray) (i : Nat) : (escZ p i).2 = 0 ∨ i + 2 ≤ (escZ p i).2 ∧ (escZ p i).2 ≤ p.size := by
  unfold escZ
  split
  · exact .inl rfl
  · rename_i h
    split
    · right; simp; omega
    · split
      · right; simp; omega
      · split
        · right; simp; omega
        · exact .inl rfl
theorem itemZ_up (p : ByteArray) (i : Nat) : (itemZ p i).2 = 0 ∨ i + 1 ≤ (itemZ p i).2 ∧ (itemZ p i).2 ≤ p.size := by
  unfold itemZ
  split
  · exact .inl rfl
  · split
    · have := escZ_up p i
      omega
    · right; simp; omega
theorem ret_b {a b : Bool} (h : a = b) : Ending.returned (.bool a) = .returned (.bool b) := by rw [h]
end Go.Proofs.YtlcecblehffjiaaDoor
