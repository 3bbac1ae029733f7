import Derived.Test.YteiboobdhjdjkaaGreatDoorSetsM
import Derived.Test.YteiboobdhjdjkaaGreatDoorProg
import Derived.Test.YteiboobdhjdjkaaGreatDoorTakeG
import Derived.Test.YteiboobdhjdjkaaGreatDoorClassMM
namespace Go.Proofs.YteiboobdhjdjkaaGreatDoor
def bt (p : ByteArray) (i : Nat) : Nat := if h : i < p.size then (p[i]).toNat else 256
theorem bt_lt {p : ByteArray} {i : Nat} (h : i < p.size) : bt p i < 256 := by unfold bt; rw [dif_pos h]; exact (p[i]).toNat_lt
theorem bt_at {p : ByteArray} {i : Nat} (h : i < p.size) : bt p i = (p[i]).toNat := by unfold bt; rw [dif_pos h]
theorem bt_no {p : ByteArray} {i : Nat} (h : p.size ≤ i) : bt p i = 256 := by unfold bt; rw [dif_neg (by omega)]
theorem bt_in {p : ByteArray} {i : Nat} (h : bt p i ≠ 256) : i < p.size := by
 rcases Nat.lt_or_ge i p.size with h1 | h1
 ·exact h1
 ·exact absurd (bt_no h1) h
def oneS (n : Nat) : BitVec 256 := span n (n + 1)
def digS : BitVec 256 := span 48 58
def wordS : BitVec 256 := ofPred fun n => (decide (48 ≤ n ∧ n < 58) || decide (97 ≤ n ∧ n < 123)) || (decide (65 ≤ n ∧ n < 91) || decide (n = 95))
def spaceS : BitVec 256 := ofPred fun n => decide (9 ≤ n ∧ n < 14) || decide (n = 32)
def notS' (S : BitVec 256) : BitVec 256 := ofPred fun n => !mem S n
def hexZ (c : Nat) : Int := if 48 ≤ c ∧ c ≤ 57 then (c : Int) - 48 else if 97 ≤ c ∧ c ≤ 102 then (c : Int) - 87 else if 65 ≤ c ∧ c ≤ 70 then (c : Int) - 55 else -1
theorem hexZ_lt (c : Nat) : -1 ≤ hexZ c ∧ hexZ c ≤ 15 := by unfold hexZ; (repeat' split) <;> omega
def nameS (c : Nat) : Option (BitVec 256) :=
 if c = 100 then some digS else if c = 68 then some (notS' digS) else if c = 119 then some wordS else if c = 87 then some (notS' wordS)
 else if c = 115 then some spaceS else if c = 83 then some (notS' spaceS) else if c = 110 then some (oneS 10) else if c = 116 then some (oneS 9)
 else if c = 114 then some (oneS 13) else if c = 102 then some (oneS 12) else if c = 118 then some (oneS 11) else none
def escZ (p : ByteArray) (i : Nat) : BitVec 256 × Nat :=
 if p.size ≤ i + 1 then (0#256, 0)
 else match nameS (bt p (i + 1)) with
  | some S => (S, i + 2)
  | none =>
    if bt p (i + 1) = 120 ∧ i + 3 < p.size ∧ 0 ≤ hexZ (bt p (i + 2)) ∧ 0 ≤ hexZ (bt p (i + 3)) then (oneS (16 * hexZ (bt p (i + 2)) + hexZ (bt p (i + 3))).toNat, i + 4)
    else if bt p (i + 1) = 95 ∨ mem wordS (bt p (i + 1)) = false then (oneS (bt p (i + 1)), i + 2)
    else (0#256, 0)
def itemZ (p : ByteArray) (i : Nat) : BitVec 256 × Nat :=
 if p.size ≤ i ∨ bt p i = 91 ∨ bt p i = 93 ∨ bt p i = 45 then (0#256, 0) else if bt p i = 92 then escZ p i else (oneS (bt p i), i + 1)
theorem escZ_up (p : ByteArray) (i : Nat) : (escZ p i).2 = 0 ∨ i + 2 ≤ (escZ p i).2 ∧ (escZ p i).2 ≤ p.size := by
 unfold escZ
 split
 ·exact .inl rfl
 ·rename_i h
  split
  ·right; simp; omega
  ·split
   ·right; simp; omega
   ·split
    ·right; simp; omega
    ·exact .inl rfl
theorem itemZ_up (p : ByteArray) (i : Nat) : (itemZ p i).2 = 0 ∨ i + 1 ≤ (itemZ p i).2 ∧ (itemZ p i).2 ≤ p.size := by
 unfold itemZ
 split
 ·exact .inl rfl
 ·split
  ·have := escZ_up p i
   omega
  ·right; simp; omega
theorem ret_b {a b : Bool} (h : a = b) : Ending.returned (.bool a) = .returned (.bool b) := by rw [h]
end Go.Proofs.YteiboobdhjdjkaaGreatDoor
namespace Go.Proofs.YteiboobdhjdjkaaGreatDoor
open Go.RowKit
def headB (p : ByteArray) : Nat → List Nat → Bool
 | _, [] => true
 | i, c :: r => (bt p i == c) && headB p (i + 1) r
def startB (p : ByteArray) (i : Nat) (h : ByteArray) : Bool := decide (i ≤ p.size) && (decide (h.size ≤ p.size - i) && ((p.extract i (i + h.size)).toList == h.toList))
theorem bt_list (p : ByteArray) (i : Nat) : p.data.toList[i]? = if h : i < p.size then some p[i] else none := by
 split
 ·rename_i h
  have h' : i < p.data.size := h
  rw [Array.getElem?_toList]
  exact Array.getElem?_eq_getElem h'
 ·rename_i h
  have h' : ¬ i < p.data.size := h
  simp; exact Nat.le_of_not_lt h'
theorem head_list (p : ByteArray) : ∀ (l : List UInt8) (i : Nat), headB p i (l.map (·.toNat)) = l.isPrefixOf (p.data.toList.drop i)
 | [], _ => by simp [headB]
 | c :: r, i => by
   have hb := bt_list p i
   rw [List.map_cons, headB, head_list p r (i + 1)]
   by_cases h : i < p.size
   ·rw [dif_pos h] at hb
    have hd : p.data.toList.drop i = p[i] :: p.data.toList.drop (i + 1) := by
     rw [List.getElem?_eq_some_iff] at hb
     obtain ⟨h1, h2⟩ := hb
     rw [List.drop_eq_getElem_cons h1, h2]
    rw [hd, List.isPrefixOf, bt_at h]
    congr 1
    rw [Bool.eq_iff_iff]
    simp only [beq_iff_eq]
    exact ⟨fun e => (UInt8.toNat_inj.1 e).symm, fun e => by rw [e]⟩
   ·rw [dif_neg h] at hb
    have hd : p.data.toList.drop i = [] := by
     rw [List.drop_eq_nil_iff]
     simpa using hb
    rw [hd, bt_no (by omega)]
    have : (256 == c.toNat) = false := by simp; have := c.toNat_lt; omega
    rw [this]
    rfl
theorem start_head (p h : ByteArray) (i : Nat) (hi : i ≤ p.size) : startB p i h = headB p i (h.data.toList.map (·.toNat)) := by
 rw [head_list]
 unfold startB
 rw [decide_eq_true hi, Bool.true_and, ByteArray.toList_eq, ByteArray.toList_eq]
 have hl : h.data.toList.length = h.size := by simp
 have hpl : p.data.toList.length = p.size := by simp
 by_cases h2 : h.size ≤ p.size - i
 ·rw [decide_eq_true h2, Bool.true_and]
  have he : (p.extract i (i + h.size)).data.toList = (p.data.toList.drop i).take h.size := by
   rw [ByteArray.data_extract, Array.toList_extract, List.extract_eq_take_drop]
   congr 1
   omega
  rw [he, Bool.eq_iff_iff, List.isPrefixOf_iff_prefix, List.prefix_iff_eq_take, hl]
  simp only [beq_iff_eq]
  exact ⟨Eq.symm, Eq.symm⟩
 ·rw [decide_eq_false h2, Bool.false_and]
  symm
  rw [Bool.eq_false_iff]
  intro hp
  have := (List.isPrefixOf_iff_prefix.1 hp).length_le
  rw [List.length_drop] at this
  omega
end Go.Proofs.YteiboobdhjdjkaaGreatDoor
namespace Go.Proofs.YteiboobdhjdjkaaGreatDoor
structure Tok where
 k : Int
 S : BitVec 256
 mn : Int
 mx : Int
 md : Int
 n : Int
 f : ByteArray
def tok0 (k : Int) : Tok := ⟨k, 0#256, 0, 0, 0, 0, ByteArray.empty⟩
abbrev TokR := Tok × Nat × Int
def wrongT (e : Int) : TokR := (tok0 0, 0, e)
def isD (p : ByteArray) (i : Nat) : Bool := decide (48 ≤ bt p i ∧ bt p i ≤ 57)
def countZ (p : ByteArray) (i : Nat) : Nat × Nat :=
 if isD p i = false then (0, i) else if isD p (i + 1) = false then (bt p i - 48, i + 1)
 else if isD p (i + 2) = false then (10 * (bt p i - 48) + (bt p (i + 1) - 48), i + 2)
 else (10 * (10 * (bt p i - 48) + (bt p (i + 1) - 48)) + (bt p (i + 2) - 48), i + 3)
def bracesZ (p : ByteArray) (i : Nat) : TokR :=
 let a := countZ p (i + 1)
 if a.2 = i + 1 then wrongT 3
 else
  let b : Int × Nat := if bt p a.2 = 44 then (if (countZ p (a.2 + 1)).2 = a.2 + 1 then -1 else ((countZ p (a.2 + 1)).1 : Int), (countZ p (a.2 + 1)).2) else ((a.1 : Int), a.2)
  if bt p b.2 ≠ 125 then wrongT 3
  else if 100 < a.1 ∨ 100 < b.1 then wrongT 4
  else if 0 ≤ b.1 ∧ b.1 < a.1 then wrongT 3
  else ({ tok0 16 with mn := a.1, mx := b.1 }, b.2 + 1, 0)
def modeZ (p : ByteArray) (x : TokR) : TokR :=
 if bt p x.2.1 = 63 then ({ x.1 with md := 1 }, x.2.1 + 1, 0) else if bt p x.2.1 = 43 then ({ x.1 with md := 2 }, x.2.1 + 1, 0) else x
def quantZ (p : ByteArray) (i : Nat) : TokR :=
 if bt p i = 123 then (if (bracesZ p i).2.2 = 0 then modeZ p (bracesZ p i) else wrongT (bracesZ p i).2.2)
 else modeZ p ({ tok0 16 with mn := if bt p i = 43 then 1 else 0, mx := if bt p i = 63 then 1 else -1 }, i + 1, 0)
def flagsF (p : ByteArray) : Nat → Nat → List UInt8 → TokR
 | 0, _, _ => wrongT 3
 | f + 1, i, s =>
   if h : i < p.size then
    if bt p i = 58 ∧ s ≠ [] then ({ tok0 14 with f := ⟨s.toArray⟩ }, i + 1, 0)
    else if bt p i ≠ 105 ∧ bt p i ≠ 109 ∧ bt p i ≠ 115 then wrongT 3
    else if p[i] ∈ s then wrongT 3
    else flagsF p f (i + 1) (s ++ [p[i]])
   else wrongT 3
def headsL : List (List Nat × Int) := [([46], 1), ([94], 2), ([36], 3), ([92, 98], 4), ([92, 66], 5), ([124], 6), ([40, 63, 58], 8), ([40, 63, 61], 9), ([40, 63, 33], 10), ([40, 63, 60, 61], 11), ([40, 63, 60, 33], 12), ([40, 63, 62], 13), ([41], 15)]
def headF (p : ByteArray) (i : Nat) : List (List Nat × Int) → Option TokR
 | [] => none
 | x :: r => if headB p i x.1 = true then some (tok0 x.2, i + x.1.length, 0) else headF p i r
def clsF (p : ByteArray) : Nat → Nat → BitVec 256 → Bool → Option (BitVec 256 × Nat)
 | 0, _, _, _ => none
 | f + 1, i, s, first =>
   if first = false ∧ bt p i = 93 then some (s, i)
   else
    let x := itemZ p i
    if x.2 = 0 then none
    else if bt p x.2 = 45 then
     let y := itemZ p (x.2 + 1)
     if y.2 = 0 ∨ lenS x.1 ≠ 1 ∨ lenS y.1 ≠ 1 ∨ minS y.1 < minS x.1 then none
     else clsF p f y.2 (ofPred fun n => mem s n || mem (span (minS x.1) (minS y.1 + 1)) n) false
    else clsF p f x.2 (ofPred fun n => mem s n || mem x.1 n) false
def classZ (p : ByteArray) (i : Nat) : BitVec 256 × Nat × Int :=
 if p.size ≤ i ∨ bt p i ≠ 91 then (0#256, 0, 1)
 else match clsF p (p.size + 1) (if bt p (i + 1) = 94 then i + 2 else i + 1) 0#256 true with
  | none => (0#256, 0, 3)
  | some x => (if bt p (i + 1) = 94 then notS' x.1 else x.1, x.2 + 1, 0)
def tokZ (p : ByteArray) (i : Nat) : TokR :=
 match headF p i headsL with
 | some x => x
 | none =>
   if headB p i [40, 63] = true then flagsF p (p.size + 1) (i + 2) []
   else if bt p i = 40 then (tok0 7, i + 1, 0)
   else if bt p i = 42 ∨ bt p i = 43 ∨ bt p i = 63 ∨ bt p i = 123 then quantZ p i
   else if bt p i = 91 then ({ tok0 0 with S := (classZ p i).1 }, (classZ p i).2.1, (classZ p i).2.2)
   else if bt p i = 93 ∨ bt p i = 125 then wrongT 3
   else if bt p i ≠ 92 then ({ tok0 0 with S := oneS (bt p i) }, i + 1, 0)
   else if 49 ≤ bt p (i + 1) ∧ bt p (i + 1) ≤ 57 then ({ tok0 17 with n := (bt p (i + 1) : Int) - 48 }, i + 2, 0)
   else if (escZ p i).2 = 0 then wrongT 3
   else ({ tok0 0 with S := (escZ p i).1 }, (escZ p i).2, 0)
def lexF (p : ByteArray) : Nat → Nat → List Tok → List Tok × Int
 | 0, _, l => (l, 0)
 | f + 1, i, l =>
   if p.size ≤ i then (l, 0)
   else if (tokZ p i).2.2 ≠ 0 then ([], (tokZ p i).2.2)
   else lexF p f (tokZ p i).2.1 (l ++ [(tokZ p i).1])
def lexZ (p : ByteArray) : List Tok × Int := if 1000 < p.size then ([], 4) else lexF p (p.size + 1) 0 []
end Go.Proofs.YteiboobdhjdjkaaGreatDoor
namespace Go.Proofs.YteiboobdhjdjkaaGreatDoor
open Go.RowKit
def cntV (p : ByteArray) (i : Nat) : Nat → Nat
 | 0 => 0
 | k + 1 => 10 * cntV p i k + (bt p (i + k) - 48)
theorem cntV_lt {p : ByteArray} {i : Nat} : ∀ k, (∀ j, j < k → isD p (i + j) = true) → cntV p i k < 10 ^ k
 | 0, _ => by simp [cntV]
 | k + 1, h => by
   have h1 := cntV_lt k fun j hj => h j (by omega)
   have h2 := h k (by omega)
   unfold isD at h2
   have h3 := of_decide_eq_true h2
   rw [cntV, Nat.pow_succ]
   omega
theorem count_at {p : ByteArray} {i k : Nat} (hk : k ≤ 3) (h : ∀ j, j < k → isD p (i + j) = true) (he : k = 3 ∨ isD p (i + k) = false) : countZ p i = (cntV p i k, i + k) := by
 unfold countZ
 rcases (show k = 0 ∨ k = 1 ∨ k = 2 ∨ k = 3 by omega) with rfl | rfl | rfl | rfl
 ·rcases he with he | he
  ·omega
  ·rw [if_pos (show isD p i = false from he)]; rfl
 ·have h0 : isD p i = true := h 0 (by omega)
  rcases he with he | he
  ·omega
  ·rw [if_neg (by rw [h0]; decide), if_pos he]; simp [cntV]
 ·have h0 : isD p i = true := h 0 (by omega)
  have h1 := h 1 (by omega)
  rcases he with he | he
  ·omega
  ·rw [if_neg (by rw [h0]; decide), if_neg (by rw [h1]; decide), if_pos he]; simp [cntV]
 ·have h0 : isD p i = true := h 0 (by omega)
  have h1 := h 1 (by omega)
  have h2 := h 2 (by omega)
  rw [if_neg (by rw [h0]; decide), if_neg (by rw [h1]; decide), if_neg (by rw [h2]; decide)]
  simp [cntV]
end Go.Proofs.YteiboobdhjdjkaaGreatDoor
