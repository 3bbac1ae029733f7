import Derived.Test.YtdnbpbngoiahlaaGreatDoorSetsM
import Derived.Test.YtdnbpbngoiahlaaGreatDoorProg
import Derived.Test.YtdnbpbngoiahlaaGreatDoorTakeG
import Derived.Test.YtdnbpbngoiahlaaGreatDoorRefM
namespace Go.Proofs.YtdnbpbngoiahlaaGreatDoor
def bt (p : ByteArray) (i : Nat) : Nat := if h : i < p.size then (p[i]).toNat else 256
theorem bt_lt {p : ByteArray} {i : Nat} (h : i < p.size) : bt p i < 256 := by unfold bt; rw [dif_pos h]; exact (p[i]).toNat_lt
theorem bt_at {p : ByteArray} {i : Nat} (h : i < p.size) : bt p i = (p[i]).toNat := by unfold bt; rw [dif_pos h]
theorem bt_no {p : ByteArray} {i : Nat} (h : p.size ≤ i) : bt p i = 256 := by unfold bt; rw [dif_neg (by omega)]
theorem bt_in {p : ByteArray} {i : Nat} (h : bt p i ≠ 256) : i < p.size := by
 rcases Nat.lt_or_ge i p.size with h1 | h1
 ·exact h1
 ·exact absurd (bt_no h1) h
def oneS (n : Nat) : BitVec 256 := span n (n + 1)
def digS : BitVec 256 := span 48 58
def wordS : BitVec 256 := ofPred fun n => (decide (48 ≤ n ∧ n < 58) || decide (97 ≤ n ∧ n < 123)) || (decide (65 ≤ n ∧ n < 91) || decide (n = 95))
def spaceS : BitVec 256 := ofPred fun n => decide (9 ≤ n ∧ n < 14) || decide (n = 32)
def notS' (S : BitVec 256) : BitVec 256 := ofPred fun n => !mem S n
def hexZ (c : Nat) : Int := if 48 ≤ c ∧ c ≤ 57 then (c : Int) - 48 else if 97 ≤ c ∧ c ≤ 102 then (c : Int) - 87 else if 65 ≤ c ∧ c ≤ 70 then (c : Int) - 55 else -1
theorem hexZ_lt (c : Nat) : -1 ≤ hexZ c ∧ hexZ c ≤ 15 := by unfold hexZ; (repeat' split) <;> omega
def nameS (c : Nat) : Option (BitVec 256) :=
 if c = 100 then some digS else if c = 68 then some (notS' digS) else if c = 119 then some wordS else if c = 87 then some (notS' wordS)
 else if c = 115 then some spaceS else if c = 83 then some (notS' spaceS) else if c = 110 then some (oneS 10) else if c = 116 then some (oneS 9)
 else if c = 114 then some (oneS 13) else if c = 102 then some (oneS 12) else if c = 118 then some (oneS 11) else none
def escZ (p : ByteArray) (i : Nat) : BitVec 256 × Nat :=
 if p.size ≤ i + 1 then (0#256, 0)
 else match nameS (bt p (i + 1)) with
  | some S => (S, i + 2)
  | none =>
    if bt p (i + 1) = 120 ∧ i + 3 < p.size ∧ 0 ≤ hexZ (bt p (i + 2)) ∧ 0 ≤ hexZ (bt p (i + 3)) then (oneS (16 * hexZ (bt p (i + 2)) + hexZ (bt p (i + 3))).toNat, i + 4)
    else if bt p (i + 1) = 95 ∨ mem wordS (bt p (i + 1)) = false then (oneS (bt p (i + 1)), i + 2)
    else (0#256, 0)
def itemZ (p : ByteArray) (i : Nat) : BitVec 256 × Nat :=
 if p.size ≤ i ∨ bt p i = 91 ∨ bt p i = 93 ∨ bt p i = 45 then (0#256, 0) else if bt p i = 92 then escZ p i else (oneS (bt p i), i + 1)
theorem escZ_up (p : ByteArray) (i : Nat) : (escZ p i).2 = 0 ∨ i + 2 ≤ (escZ p i).2 ∧ (escZ p i).2 ≤ p.size := by
 unfold escZ
 split
 ·exact .inl rfl
 ·rename_i h
  split
  ·right; simp; omega
  ·split
   ·right; simp; omega
   ·split
    ·right; simp; omega
    ·exact .inl rfl
theorem itemZ_up (p : ByteArray) (i : Nat) : (itemZ p i).2 = 0 ∨ i + 1 ≤ (itemZ p i).2 ∧ (itemZ p i).2 ≤ p.size := by
 unfold itemZ
 split
 ·exact .inl rfl
 ·split
  ·have := escZ_up p i
   omega
  ·right; simp; omega
theorem ret_b {a b : Bool} (h : a = b) : Ending.returned (.bool a) = .returned (.bool b) := by rw [h]
end Go.Proofs.YtdnbpbngoiahlaaGreatDoor
namespace Go.Proofs.YtdnbpbngoiahlaaGreatDoor
open Go.RowKit
def headB (p : ByteArray) : Nat → List Nat → Bool
 | _, [] => true
 | i, c :: r => (bt p i == c) && headB p (i + 1) r
def startB (p : ByteArray) (i : Nat) (h : ByteArray) : Bool := decide (i ≤ p.size) && (decide (h.size ≤ p.size - i) && ((p.extract i (i + h.size)).toList == h.toList))
theorem bt_list (p : ByteArray) (i : Nat) : p.data.toList[i]? = if h : i < p.size then some p[i] else none := by
 split
 ·rename_i h
  have h' : i < p.data.size := h
  rw [Array.getElem?_toList]
  exact Array.getElem?_eq_getElem h'
 ·rename_i h
  have h' : ¬ i < p.data.size := h
  simp; exact Nat.le_of_not_lt h'
theorem head_list (p : ByteArray) : ∀ (l : List UInt8) (i : Nat), headB p i (l.map (·.toNat)) = l.isPrefixOf (p.data.toList.drop i)
 | [], _ => by simp [headB]
 | c :: r, i => by
   have hb := bt_list p i
   rw [List.map_cons, headB, head_list p r (i + 1)]
   by_cases h : i < p.size
   ·rw [dif_pos h] at hb
    have hd : p.data.toList.drop i = p[i] :: p.data.toList.drop (i + 1) := by
     rw [List.getElem?_eq_some_iff] at hb
     obtain ⟨h1, h2⟩ := hb
     rw [List.drop_eq_getElem_cons h1, h2]
    rw [hd, List.isPrefixOf, bt_at h]
    congr 1
    rw [Bool.eq_iff_iff]
    simp only [beq_iff_eq]
    exact ⟨fun e => (UInt8.toNat_inj.1 e).symm, fun e => by rw [e]⟩
   ·rw [dif_neg h] at hb
    have hd : p.data.toList.drop i = [] := by
     rw [List.drop_eq_nil_iff]
     simpa using hb
    rw [hd, bt_no (by omega)]
    have : (256 == c.toNat) = false := by simp; have := c.toNat_lt; omega
    rw [this]
    rfl
theorem start_head (p h : ByteArray) (i : Nat) (hi : i ≤ p.size) : startB p i h = headB p i (h.data.toList.map (·.toNat)) := by
 rw [head_list]
 unfold startB
 rw [decide_eq_true hi, Bool.true_and, ByteArray.toList_eq, ByteArray.toList_eq]
 have hl : h.data.toList.length = h.size := by simp
 have hpl : p.data.toList.length = p.size := by simp
 by_cases h2 : h.size ≤ p.size - i
 ·rw [decide_eq_true h2, Bool.true_and]
  have he : (p.extract i (i + h.size)).data.toList = (p.data.toList.drop i).take h.size := by
   rw [ByteArray.data_extract, Array.toList_extract, List.extract_eq_take_drop]
   congr 1
   omega
  rw [he, Bool.eq_iff_iff, List.isPrefixOf_iff_prefix, List.prefix_iff_eq_take, hl]
  simp only [beq_iff_eq]
  exact ⟨Eq.symm, Eq.symm⟩
 ·rw [decide_eq_false h2, Bool.false_and]
  symm
  rw [Bool.eq_false_iff]
  intro hp
  have := (List.isPrefixOf_iff_prefix.1 hp).length_le
  rw [List.length_drop] at this
  omega
theorem starts_any (p h : ByteArray) (i : Nat) (w : World) (hp : p.size ≤ 1000000) (hi : i ≤ 2000000) (hh : h.size ≤ 1000) :
  Calls Tryz.prog 75 #[.string p, .int .i64 (i : Int), .string h] w fun e w' => e = .returned (.bool (startB p i h)) ∧ w = w' := by
 by_cases h1 : i ≤ p.size
 ·by_cases h2 : h.size ≤ p.size - i
  ·have h3 : (h.size : Int) ≤ (p.size : Int) - (i : Int) := by omega
   go_enter Tryz.func75, Tryz.ntmps75
   go_wp2_with fail
   go_ret
   exact ⟨ret_b (by unfold startB; rw [decide_eq_true h1, decide_eq_true h2]; rfl), rfl⟩
  ·have h3 : ¬ (h.size : Int) ≤ (p.size : Int) - (i : Int) := by omega
   go_enter Tryz.func75, Tryz.ntmps75
   go_wp2_with fail
   go_ret
   exact ⟨ret_b (by unfold startB; rw [decide_eq_true h1, decide_eq_false h2]; rfl), rfl⟩
 ·go_enter Tryz.func75, Tryz.ntmps75
  go_wp2_with fail
  go_ret
  exact ⟨ret_b (by unfold startB; rw [decide_eq_false h1]; rfl), rfl⟩
end Go.Proofs.YtdnbpbngoiahlaaGreatDoor
namespace Go.Proofs.YtdnbpbngoiahlaaGreatDoor
open Go.RowKit
theorem ret_i6 {a b : Int} (h : a = b) : Ending.returned (.int .i64 a) = .returned (.int .i64 b) := by rw [h]
def loD (j : Nat) : Nat := if j < 10 then 48 + j else 87 + j
def upD (j : Nat) : Nat := if j < 10 then 48 + j else 55 + j
theorem hexZ_no {c : Nat} (h : ∀ j, j < 16 → c ≠ loD j ∧ c ≠ upD j) : hexZ c = -1 := by
 unfold hexZ
 rw [if_neg, if_neg, if_neg]
 ·intro hc
  have := (h (c - 55) (by omega)).2
  unfold upD at this
  rw [if_neg (by omega)] at this
  omega
 ·intro hc
  have := (h (c - 87) (by omega)).1
  unfold loD at this
  rw [if_neg (by omega)] at this
  omega
 ·intro hc
  have := (h (c - 48) (by omega)).1
  unfold loD at this
  rw [if_pos (by omega)] at this
  omega
set_option maxHeartbeats 2000000 in
theorem digit_any (c : Nat) (w : World) (hc : c < 256) : Calls Tryz.prog 123 #[.int .u8 (c : Int)] w fun e w' => e = .returned (.int .i64 (hexZ c)) ∧ w = w' := by
 go_enter Tryz.func123, Tryz.ntmps123
 go_wp2_with fail
 go_loopw [3] (fun i wr => ∃ k : Nat, k ≤ 16 ∧ i = .int .i64 k ∧ (∀ j, j < k → c ≠ loD j ∧ c ≠ upD j) ∧ w = wr) (fun i _ => 16 - (intOf i).toNat)
 case atStart => exact ⟨0, Nat.zero_le _, rfl, fun j hj => by omega, rfl⟩
 case round =>
  obtain ⟨k, hk, rfl, hno, rfl⟩ := hrel
  have HNO := Lib.hid hno
  clear hno
  by_cases h16 : k = 16
  ·have hge : ¬ (k : Int) < 16 := by omega
   have HK := Lib.hid h16
   clear h16 hk
   go_wp2_with fail
   go_ret
   exact ⟨ret_i6 (by rw [hexZ_no (fun j hj => HNO.out j (by have := HK.out; omega))]), rfl⟩
  ·rcases (show k = 0 ∨ k = 1 ∨ k = 2 ∨ k = 3 ∨ k = 4 ∨ k = 5 ∨ k = 6 ∨ k = 7 ∨ k = 8 ∨ k = 9 ∨ k = 10 ∨ k = 11 ∨ k = 12 ∨ k = 13 ∨ k = 14 ∨ k = 15 by omega) with rfl | rfl | rfl | rfl | rfl | rfl | rfl | rfl | rfl | rfl | rfl | rfl | rfl | rfl | rfl | rfl
   ·have u1 : (({ data := #[48, 49, 50, 51, 52, 53, 54, 55, 56, 57, 97, 98, 99, 100, 101, 102] } : ByteArray)[0]'(by decide)).toNat = 48 := rfl
    have u2 : (({ data := #[48, 49, 50, 51, 52, 53, 54, 55, 56, 57, 65, 66, 67, 68, 69, 70] } : ByteArray)[0]'(by decide)).toNat = 48 := rfl
    by_cases h1 : c = 48
    ·subst h1
     go_wp2_with fail
     go_ret
     exact ⟨ret_i6 (by decide), rfl⟩
    ·have e1 : ((c : Int) == 48) = false := by simp; omega
     have e1' : ¬ (c : Int) = 48 := by omega
     go_wp2_with fail
     go_roundw
     case rel =>
      refine ⟨1, by omega, by go_num, fun j hj => ?_, trivial⟩
      by_cases hj2 : j = 0
      ·subst hj2
       show c ≠ 48 ∧ c ≠ 48
       omega
      ·exact HNO.out j (by omega)
     case measure => simp [intOf]
   ·have u1 : (({ data := #[48, 49, 50, 51, 52, 53, 54, 55, 56, 57, 97, 98, 99, 100, 101, 102] } : ByteArray)[1]'(by decide)).toNat = 49 := rfl
    have u2 : (({ data := #[48, 49, 50, 51, 52, 53, 54, 55, 56, 57, 65, 66, 67, 68, 69, 70] } : ByteArray)[1]'(by decide)).toNat = 49 := rfl
    by_cases h1 : c = 49
    ·subst h1
     go_wp2_with fail
     go_ret
     exact ⟨ret_i6 (by decide), rfl⟩
    ·have e1 : ((c : Int) == 49) = false := by simp; omega
     have e1' : ¬ (c : Int) = 49 := by omega
     go_wp2_with fail
     go_roundw
     case rel =>
      refine ⟨2, by omega, by go_num, fun j hj => ?_, trivial⟩
      by_cases hj2 : j = 1
      ·subst hj2
       show c ≠ 49 ∧ c ≠ 49
       omega
      ·exact HNO.out j (by omega)
     case measure => simp [intOf]
   ·have u1 : (({ data := #[48, 49, 50, 51, 52, 53, 54, 55, 56, 57, 97, 98, 99, 100, 101, 102] } : ByteArray)[2]'(by decide)).toNat = 50 := rfl
    have u2 : (({ data := #[48, 49, 50, 51, 52, 53, 54, 55, 56, 57, 65, 66, 67, 68, 69, 70] } : ByteArray)[2]'(by decide)).toNat = 50 := rfl
    by_cases h1 : c = 50
    ·subst h1
     go_wp2_with fail
     go_ret
     exact ⟨ret_i6 (by decide), rfl⟩
    ·have e1 : ((c : Int) == 50) = false := by simp; omega
     have e1' : ¬ (c : Int) = 50 := by omega
     go_wp2_with fail
     go_roundw
     case rel =>
      refine ⟨3, by omega, by go_num, fun j hj => ?_, trivial⟩
      by_cases hj2 : j = 2
      ·subst hj2
       show c ≠ 50 ∧ c ≠ 50
       omega
      ·exact HNO.out j (by omega)
     case measure => simp [intOf]
   ·have u1 : (({ data := #[48, 49, 50, 51, 52, 53, 54, 55, 56, 57, 97, 98, 99, 100, 101, 102] } : ByteArray)[3]'(by decide)).toNat = 51 := rfl
    have u2 : (({ data := #[48, 49, 50, 51, 52, 53, 54, 55, 56, 57, 65, 66, 67, 68, 69, 70] } : ByteArray)[3]'(by decide)).toNat = 51 := rfl
    by_cases h1 : c = 51
    ·subst h1
     go_wp2_with fail
     go_ret
     exact ⟨ret_i6 (by decide), rfl⟩
    ·have e1 : ((c : Int) == 51) = false := by simp; omega
     have e1' : ¬ (c : Int) = 51 := by omega
     go_wp2_with fail
     go_roundw
     case rel =>
      refine ⟨4, by omega, by go_num, fun j hj => ?_, trivial⟩
      by_cases hj2 : j = 3
      ·subst hj2
       show c ≠ 51 ∧ c ≠ 51
       omega
      ·exact HNO.out j (by omega)
     case measure => simp [intOf]
   ·have u1 : (({ data := #[48, 49, 50, 51, 52, 53, 54, 55, 56, 57, 97, 98, 99, 100, 101, 102] } : ByteArray)[4]'(by decide)).toNat = 52 := rfl
    have u2 : (({ data := #[48, 49, 50, 51, 52, 53, 54, 55, 56, 57, 65, 66, 67, 68, 69, 70] } : ByteArray)[4]'(by decide)).toNat = 52 := rfl
    by_cases h1 : c = 52
    ·subst h1
     go_wp2_with fail
     go_ret
     exact ⟨ret_i6 (by decide), rfl⟩
    ·have e1 : ((c : Int) == 52) = false := by simp; omega
     have e1' : ¬ (c : Int) = 52 := by omega
     go_wp2_with fail
     go_roundw
     case rel =>
      refine ⟨5, by omega, by go_num, fun j hj => ?_, trivial⟩
      by_cases hj2 : j = 4
      ·subst hj2
       show c ≠ 52 ∧ c ≠ 52
       omega
      ·exact HNO.out j (by omega)
     case measure => simp [intOf]
   ·have u1 : (({ data := #[48, 49, 50, 51, 52, 53, 54, 55, 56, 57, 97, 98, 99, 100, 101, 102] } : ByteArray)[5]'(by decide)).toNat = 53 := rfl
    have u2 : (({ data := #[48, 49, 50, 51, 52, 53, 54, 55, 56, 57, 65, 66, 67, 68, 69, 70] } : ByteArray)[5]'(by decide)).toNat = 53 := rfl
    by_cases h1 : c = 53
    ·subst h1
     go_wp2_with fail
     go_ret
     exact ⟨ret_i6 (by decide), rfl⟩
    ·have e1 : ((c : Int) == 53) = false := by simp; omega
     have e1' : ¬ (c : Int) = 53 := by omega
     go_wp2_with fail
     go_roundw
     case rel =>
      refine ⟨6, by omega, by go_num, fun j hj => ?_, trivial⟩
      by_cases hj2 : j = 5
      ·subst hj2
       show c ≠ 53 ∧ c ≠ 53
       omega
      ·exact HNO.out j (by omega)
     case measure => simp [intOf]
   ·have u1 : (({ data := #[48, 49, 50, 51, 52, 53, 54, 55, 56, 57, 97, 98, 99, 100, 101, 102] } : ByteArray)[6]'(by decide)).toNat = 54 := rfl
    have u2 : (({ data := #[48, 49, 50, 51, 52, 53, 54, 55, 56, 57, 65, 66, 67, 68, 69, 70] } : ByteArray)[6]'(by decide)).toNat = 54 := rfl
    by_cases h1 : c = 54
    ·subst h1
     go_wp2_with fail
     go_ret
     exact ⟨ret_i6 (by decide), rfl⟩
    ·have e1 : ((c : Int) == 54) = false := by simp; omega
     have e1' : ¬ (c : Int) = 54 := by omega
     go_wp2_with fail
     go_roundw
     case rel =>
      refine ⟨7, by omega, by go_num, fun j hj => ?_, trivial⟩
      by_cases hj2 : j = 6
      ·subst hj2
       show c ≠ 54 ∧ c ≠ 54
       omega
      ·exact HNO.out j (by omega)
     case measure => simp [intOf]
   ·have u1 : (({ data := #[48, 49, 50, 51, 52, 53, 54, 55, 56, 57, 97, 98, 99, 100, 101, 102] } : ByteArray)[7]'(by decide)).toNat = 55 := rfl
    have u2 : (({ data := #[48, 49, 50, 51, 52, 53, 54, 55, 56, 57, 65, 66, 67, 68, 69, 70] } : ByteArray)[7]'(by decide)).toNat = 55 := rfl
    by_cases h1 : c = 55
    ·subst h1
     go_wp2_with fail
     go_ret
     exact ⟨ret_i6 (by decide), rfl⟩
    ·have e1 : ((c : Int) == 55) = false := by simp; omega
     have e1' : ¬ (c : Int) = 55 := by omega
     go_wp2_with fail
     go_roundw
     case rel =>
      refine ⟨8, by omega, by go_num, fun j hj => ?_, trivial⟩
      by_cases hj2 : j = 7
      ·subst hj2
       show c ≠ 55 ∧ c ≠ 55
       omega
      ·exact HNO.out j (by omega)
     case measure => simp [intOf]
   ·have u1 : (({ data := #[48, 49, 50, 51, 52, 53, 54, 55, 56, 57, 97, 98, 99, 100, 101, 102] } : ByteArray)[8]'(by decide)).toNat = 56 := rfl
    have u2 : (({ data := #[48, 49, 50, 51, 52, 53, 54, 55, 56, 57, 65, 66, 67, 68, 69, 70] } : ByteArray)[8]'(by decide)).toNat = 56 := rfl
    by_cases h1 : c = 56
    ·subst h1
     go_wp2_with fail
     go_ret
     exact ⟨ret_i6 (by decide), rfl⟩
    ·have e1 : ((c : Int) == 56) = false := by simp; omega
     have e1' : ¬ (c : Int) = 56 := by omega
     go_wp2_with fail
     go_roundw
     case rel =>
      refine ⟨9, by omega, by go_num, fun j hj => ?_, trivial⟩
      by_cases hj2 : j = 8
      ·subst hj2
       show c ≠ 56 ∧ c ≠ 56
       omega
      ·exact HNO.out j (by omega)
     case measure => simp [intOf]
   ·have u1 : (({ data := #[48, 49, 50, 51, 52, 53, 54, 55, 56, 57, 97, 98, 99, 100, 101, 102] } : ByteArray)[9]'(by decide)).toNat = 57 := rfl
    have u2 : (({ data := #[48, 49, 50, 51, 52, 53, 54, 55, 56, 57, 65, 66, 67, 68, 69, 70] } : ByteArray)[9]'(by decide)).toNat = 57 := rfl
    by_cases h1 : c = 57
    ·subst h1
     go_wp2_with fail
     go_ret
     exact ⟨ret_i6 (by decide), rfl⟩
    ·have e1 : ((c : Int) == 57) = false := by simp; omega
     have e1' : ¬ (c : Int) = 57 := by omega
     go_wp2_with fail
     go_roundw
     case rel =>
      refine ⟨10, by omega, by go_num, fun j hj => ?_, trivial⟩
      by_cases hj2 : j = 9
      ·subst hj2
       show c ≠ 57 ∧ c ≠ 57
       omega
      ·exact HNO.out j (by omega)
     case measure => simp [intOf]
   ·have u1 : (({ data := #[48, 49, 50, 51, 52, 53, 54, 55, 56, 57, 97, 98, 99, 100, 101, 102] } : ByteArray)[10]'(by decide)).toNat = 97 := rfl
    have u2 : (({ data := #[48, 49, 50, 51, 52, 53, 54, 55, 56, 57, 65, 66, 67, 68, 69, 70] } : ByteArray)[10]'(by decide)).toNat = 65 := rfl
    by_cases h1 : c = 97
    ·subst h1
     go_wp2_with fail
     go_ret
     exact ⟨ret_i6 (by decide), rfl⟩
    ·by_cases h2 : c = 65
     ·subst h2
      go_wp2_with fail
      go_ret
      exact ⟨ret_i6 (by decide), rfl⟩
     ·have e1 : ((c : Int) == 97) = false := by simp; omega
      have e1' : ¬ (c : Int) = 97 := by omega
      have e2 : ((c : Int) == 65) = false := by simp; omega
      have e2' : ¬ (c : Int) = 65 := by omega
      go_wp2_with fail
      go_roundw
      case rel =>
       refine ⟨11, by omega, by go_num, fun j hj => ?_, trivial⟩
       by_cases hj2 : j = 10
       ·subst hj2
        show c ≠ 97 ∧ c ≠ 65
        omega
       ·exact HNO.out j (by omega)
      case measure => simp [intOf]
   ·have u1 : (({ data := #[48, 49, 50, 51, 52, 53, 54, 55, 56, 57, 97, 98, 99, 100, 101, 102] } : ByteArray)[11]'(by decide)).toNat = 98 := rfl
    have u2 : (({ data := #[48, 49, 50, 51, 52, 53, 54, 55, 56, 57, 65, 66, 67, 68, 69, 70] } : ByteArray)[11]'(by decide)).toNat = 66 := rfl
    by_cases h1 : c = 98
    ·subst h1
     go_wp2_with fail
     go_ret
     exact ⟨ret_i6 (by decide), rfl⟩
    ·by_cases h2 : c = 66
     ·subst h2
      go_wp2_with fail
      go_ret
      exact ⟨ret_i6 (by decide), rfl⟩
     ·have e1 : ((c : Int) == 98) = false := by simp; omega
      have e1' : ¬ (c : Int) = 98 := by omega
      have e2 : ((c : Int) == 66) = false := by simp; omega
      have e2' : ¬ (c : Int) = 66 := by omega
      go_wp2_with fail
      go_roundw
      case rel =>
       refine ⟨12, by omega, by go_num, fun j hj => ?_, trivial⟩
       by_cases hj2 : j = 11
       ·subst hj2
        show c ≠ 98 ∧ c ≠ 66
        omega
       ·exact HNO.out j (by omega)
      case measure => simp [intOf]
   ·have u1 : (({ data := #[48, 49, 50, 51, 52, 53, 54, 55, 56, 57, 97, 98, 99, 100, 101, 102] } : ByteArray)[12]'(by decide)).toNat = 99 := rfl
    have u2 : (({ data := #[48, 49, 50, 51, 52, 53, 54, 55, 56, 57, 65, 66, 67, 68, 69, 70] } : ByteArray)[12]'(by decide)).toNat = 67 := rfl
    by_cases h1 : c = 99
    ·subst h1
     go_wp2_with fail
     go_ret
     exact ⟨ret_i6 (by decide), rfl⟩
    ·by_cases h2 : c = 67
     ·subst h2
      go_wp2_with fail
      go_ret
      exact ⟨ret_i6 (by decide), rfl⟩
     ·have e1 : ((c : Int) == 99) = false := by simp; omega
      have e1' : ¬ (c : Int) = 99 := by omega
      have e2 : ((c : Int) == 67) = false := by simp; omega
      have e2' : ¬ (c : Int) = 67 := by omega
      go_wp2_with fail
      go_roundw
      case rel =>
       refine ⟨13, by omega, by go_num, fun j hj => ?_, trivial⟩
       by_cases hj2 : j = 12
       ·subst hj2
        show c ≠ 99 ∧ c ≠ 67
        omega
       ·exact HNO.out j (by omega)
      case measure => simp [intOf]
   ·have u1 : (({ data := #[48, 49, 50, 51, 52, 53, 54, 55, 56, 57, 97, 98, 99, 100, 101, 102] } : ByteArray)[13]'(by decide)).toNat = 100 := rfl
    have u2 : (({ data := #[48, 49, 50, 51, 52, 53, 54, 55, 56, 57, 65, 66, 67, 68, 69, 70] } : ByteArray)[13]'(by decide)).toNat = 68 := rfl
    by_cases h1 : c = 100
    ·subst h1
     go_wp2_with fail
     go_ret
     exact ⟨ret_i6 (by decide), rfl⟩
    ·by_cases h2 : c = 68
     ·subst h2
      go_wp2_with fail
      go_ret
      exact ⟨ret_i6 (by decide), rfl⟩
     ·have e1 : ((c : Int) == 100) = false := by simp; omega
      have e1' : ¬ (c : Int) = 100 := by omega
      have e2 : ((c : Int) == 68) = false := by simp; omega
      have e2' : ¬ (c : Int) = 68 := by omega
      go_wp2_with fail
      go_roundw
      case rel =>
       refine ⟨14, by omega, by go_num, fun j hj => ?_, trivial⟩
       by_cases hj2 : j = 13
       ·subst hj2
        show c ≠ 100 ∧ c ≠ 68
        omega
       ·exact HNO.out j (by omega)
      case measure => simp [intOf]
   ·have u1 : (({ data := #[48, 49, 50, 51, 52, 53, 54, 55, 56, 57, 97, 98, 99, 100, 101, 102] } : ByteArray)[14]'(by decide)).toNat = 101 := rfl
    have u2 : (({ data := #[48, 49, 50, 51, 52, 53, 54, 55, 56, 57, 65, 66, 67, 68, 69, 70] } : ByteArray)[14]'(by decide)).toNat = 69 := rfl
    by_cases h1 : c = 101
    ·subst h1
     go_wp2_with fail
     go_ret
     exact ⟨ret_i6 (by decide), rfl⟩
    ·by_cases h2 : c = 69
     ·subst h2
      go_wp2_with fail
      go_ret
      exact ⟨ret_i6 (by decide), rfl⟩
     ·have e1 : ((c : Int) == 101) = false := by simp; omega
      have e1' : ¬ (c : Int) = 101 := by omega
      have e2 : ((c : Int) == 69) = false := by simp; omega
      have e2' : ¬ (c : Int) = 69 := by omega
      go_wp2_with fail
      go_roundw
      case rel =>
       refine ⟨15, by omega, by go_num, fun j hj => ?_, trivial⟩
       by_cases hj2 : j = 14
       ·subst hj2
        show c ≠ 101 ∧ c ≠ 69
        omega
       ·exact HNO.out j (by omega)
      case measure => simp [intOf]
   ·have u1 : (({ data := #[48, 49, 50, 51, 52, 53, 54, 55, 56, 57, 97, 98, 99, 100, 101, 102] } : ByteArray)[15]'(by decide)).toNat = 102 := rfl
    have u2 : (({ data := #[48, 49, 50, 51, 52, 53, 54, 55, 56, 57, 65, 66, 67, 68, 69, 70] } : ByteArray)[15]'(by decide)).toNat = 70 := rfl
    by_cases h1 : c = 102
    ·subst h1
     go_wp2_with fail
     go_ret
     exact ⟨ret_i6 (by decide), rfl⟩
    ·by_cases h2 : c = 70
     ·subst h2
      go_wp2_with fail
      go_ret
      exact ⟨ret_i6 (by decide), rfl⟩
     ·have e1 : ((c : Int) == 102) = false := by simp; omega
      have e1' : ¬ (c : Int) = 102 := by omega
      have e2 : ((c : Int) == 70) = false := by simp; omega
      have e2' : ¬ (c : Int) = 70 := by omega
      go_wp2_with fail
      go_roundw
      case rel =>
       refine ⟨16, by omega, by go_num, fun j hj => ?_, trivial⟩
       by_cases hj2 : j = 15
       ·subst hj2
        show c ≠ 102 ∧ c ≠ 70
        omega
       ·exact HNO.out j (by omega)
      case measure => simp [intOf]
end Go.Proofs.YtdnbpbngoiahlaaGreatDoor
namespace Go.Proofs.YtdnbpbngoiahlaaGreatDoor
open Go.RowKit
def orA (S T : BitVec 256) : BitVec 256 := ofPred fun n => mem S n || mem T n
theorem mem_of (p : Nat → Bool) (n : Nat) (hn : n < 256) : mem (ofPred p) n = p n := by
 unfold mem
 rw [ofPred_bit, decide_eq_true hn, Bool.true_and]
theorem mem_span (a b n : Nat) (hn : n < 256) : mem (span a b) n = (decide (a ≤ n) && decide (n < b)) := by
 unfold mem
 rw [span_bit, decide_eq_true hn, Bool.true_and]
theorem word_eq : orA (orA (span 48 58) (span 97 123)) (orA (span 65 91) (oneS 95)) = wordS := by
 refine ext_bit fun k hk => ?_
 show mem _ k = mem _ k
 unfold orA wordS oneS
 rw [mem_of _ k hk, mem_of _ k hk, mem_of _ k hk, mem_of _ k hk, mem_span _ _ _ hk, mem_span _ _ _ hk, mem_span _ _ _ hk, mem_span _ _ _ hk, Bool.eq_iff_iff]
 simp
 omega
theorem space_eq : orA (span 9 14) (oneS 32) = spaceS := by
 refine ext_bit fun k hk => ?_
 show mem _ k = mem _ k
 unfold orA spaceS oneS
 rw [mem_of _ k hk, mem_of _ k hk, mem_span _ _ _ hk, mem_span _ _ _ hk, Bool.eq_iff_iff]
 simp
 omega
set_option maxRecDepth 100000 in
theorem rone_any (c : Nat) (w : World) (hc : c < 256) : Calls Tryz.prog 80 #[.int .u8 (c : Int)] w fun e w' => e = .returned (.agg (bitsA (oneS c))) ∧ Below w.heap.size w w' := by
 go_enter Tryz.func80, Tryz.ntmps80
 go_wp2_with fail
 refine (rrange_any c c _ hc hc).mono ?_
 rintro e w1 ⟨rfl, hb⟩
 have HZ := Lib.hid ((BoxA.new w 0#256).below hb (by simp))
 have HW := Lib.hid (thenB (show Below w.heap.size w (World.alloc w (.cells (bitsA 0#256) 128)) by go_grown) hb (by simp))
 clear hb
 go_wp2_with (refine storeA rfl _ _ rfl w.heap.size _ _ rfl rfl HZ.out ?_)
 exact bodyPost_ret (BoxA.results rfl _ (g := w.heap.size) rfl (HZ.out.rowSame _)) rfl ⟨rfl, below_row HW.out (by omega) _⟩
set_option maxRecDepth 100000 in
theorem word_any (w : World) : Calls Tryz.prog 121 #[] w fun e w' => e = .returned (.agg (bitsA wordS)) ∧ Below w.heap.size w w' := by
 go_enter Tryz.func121, Tryz.ntmps121
 go_wp2_with fail
 refine (rrange_any 48 57 _ (by omega) (by omega)).mono ?_
 rintro e w1 ⟨rfl, hb⟩
 have HZ1 := Lib.hid ((BoxA.new w 0#256).below hb (by simp))
 have HW1 := Lib.hid (thenB (show Below w.heap.size w (World.alloc w (.cells (bitsA 0#256) 128)) by go_grown) hb (by simp))
 clear hb
 go_wp2_with fail
 refine (rrange_any 97 122 _ (by omega) (by omega)).mono ?_
 rintro e w2 ⟨rfl, hb⟩
 have HZ2 := Lib.hid (HZ1.out.below hb HZ1.out.lt)
 have HW2 := Lib.hid (thenB HW1.out hb HW1.out.size)
 clear hb HZ1 HW1
 go_wp2_with fail
 refine (ror_any (span 48 58) (span 97 123) _).mono ?_
 rintro e w3 ⟨rfl, hb⟩
 have HZ3 := Lib.hid (HZ2.out.below hb HZ2.out.lt)
 have HW3 := Lib.hid (thenB HW2.out hb HW2.out.size)
 clear hb HZ2 HW2
 go_wp2_with fail
 refine (rrange_any 65 90 _ (by omega) (by omega)).mono ?_
 rintro e w4 ⟨rfl, hb⟩
 have HZ4 := Lib.hid (HZ3.out.below hb HZ3.out.lt)
 have HW4 := Lib.hid (thenB HW3.out hb HW3.out.size)
 clear hb HZ3 HW3
 go_wp2_with fail
 refine (rone_any 95 _ (by omega)).mono ?_
 rintro e w5 ⟨rfl, hb⟩
 have HZ5 := Lib.hid (HZ4.out.below hb HZ4.out.lt)
 have HW5 := Lib.hid (thenB HW4.out hb HW4.out.size)
 clear hb HZ4 HW4
 go_wp2_with fail
 refine (ror_any (span 65 91) (oneS 95) _).mono ?_
 rintro e w6 ⟨rfl, hb⟩
 have HZ6 := Lib.hid (HZ5.out.below hb HZ5.out.lt)
 have HW6 := Lib.hid (thenB HW5.out hb HW5.out.size)
 clear hb HZ5 HW5
 go_wp2_with fail
 refine (ror_any (orA (span 48 58) (span 97 123)) (orA (span 65 91) (oneS 95)) _).mono ?_
 rintro e w7 ⟨rfl, hb⟩
 have HZ7 := Lib.hid (HZ6.out.below hb HZ6.out.lt)
 have HW7 := Lib.hid (thenB HW6.out hb HW6.out.size)
 clear hb HZ6 HW6
 go_wp2_with (refine storeA rfl _ _ rfl w.heap.size _ _ rfl rfl HZ7.out ?_)
 exact bodyPost_ret (BoxA.results rfl _ (g := w.heap.size) rfl (HZ7.out.rowSame _)) rfl ⟨by rw [← word_eq]; rfl, below_row HW7.out (by omega) _⟩
set_option maxRecDepth 100000 in
theorem space_any (w : World) : Calls Tryz.prog 122 #[] w fun e w' => e = .returned (.agg (bitsA spaceS)) ∧ Below w.heap.size w w' := by
 go_enter Tryz.func122, Tryz.ntmps122
 go_wp2_with fail
 refine (rrange_any 9 13 _ (by omega) (by omega)).mono ?_
 rintro e w1 ⟨rfl, hb⟩
 have HZ1 := Lib.hid ((BoxA.new w 0#256).below hb (by simp))
 have HW1 := Lib.hid (thenB (show Below w.heap.size w (World.alloc w (.cells (bitsA 0#256) 128)) by go_grown) hb (by simp))
 clear hb
 go_wp2_with fail
 refine (rone_any 32 _ (by omega)).mono ?_
 rintro e w2 ⟨rfl, hb⟩
 have HZ2 := Lib.hid (HZ1.out.below hb HZ1.out.lt)
 have HW2 := Lib.hid (thenB HW1.out hb HW1.out.size)
 clear hb HZ1 HW1
 go_wp2_with fail
 refine (ror_any (span 9 14) (oneS 32) _).mono ?_
 rintro e w3 ⟨rfl, hb⟩
 have HZ3 := Lib.hid (HZ2.out.below hb HZ2.out.lt)
 have HW3 := Lib.hid (thenB HW2.out hb HW2.out.size)
 clear hb HZ2 HW2
 go_wp2_with (refine storeA rfl _ _ rfl w.heap.size _ _ rfl rfl HZ3.out ?_)
 exact bodyPost_ret (BoxA.results rfl _ (g := w.heap.size) rfl (HZ3.out.rowSame _)) rfl ⟨by rw [← space_eq]; rfl, below_row HW3.out (by omega) _⟩
end Go.Proofs.YtdnbpbngoiahlaaGreatDoor
namespace Go.Proofs.YtdnbpbngoiahlaaGreatDoor
open Go.RowKit
theorem put_cells (cs : List Value) : ∀ (off j0 : Nat) (cells : Array Value), off + j0 + cs.length ≤ cells.size →
  ((cs.zipIdx j0).foldl (fun (a : Array Value) (x : Value × Nat) => a.setIfInBounds (off + x.2) x.1) cells).size = cells.size ∧
  ∀ q, ((cs.zipIdx j0).foldl (fun (a : Array Value) (x : Value × Nat) => a.setIfInBounds (off + x.2) x.1) cells)[q]? = if off + j0 ≤ q ∧ q < off + j0 + cs.length then cs[q - (off + j0)]? else cells[q]? := by
 induction cs with
 | nil =>
   intro off j0 cells _
   refine ⟨rfl, fun q => ?_⟩
   rw [if_neg (by simp only [List.length_nil]; omega)]
   rfl
 | cons c r ih =>
   intro off j0 cells h
   simp only [List.length_cons] at h
   obtain ⟨h1, h2⟩ := ih off (j0 + 1) (cells.setIfInBounds (off + j0) c) (by simp; omega)
   simp only [List.zipIdx_cons, List.foldl_cons]
   refine ⟨by rw [h1]; simp, fun q => ?_⟩
   rw [h2 q]
   simp only [List.length_cons]
   by_cases e : q = off + j0
   ·subst e
    rw [if_neg (by omega), if_pos (by omega), Array.getElem?_setIfInBounds]
    simp
    omega
   ·by_cases e2 : off + (j0 + 1) ≤ q ∧ q < off + (j0 + 1) + r.length
    ·rw [if_pos e2, if_pos (by omega), show q - (off + j0) = (q - (off + (j0 + 1))) + 1 by omega, List.getElem?_cons_succ]
    ·rw [if_neg e2, if_neg (by omega), Array.getElem?_setIfInBounds, if_neg (by omega)]
theorem fill_sets (S : Nat → BitVec 256) (N : Nat) : ∀ (n k0 : Nat) (cells : Array Value), cells.size = N * 256 → k0 + n ≤ N →
  ∃ CS, Instr.fill (fun i => some (i * 256, 256)) cells ((List.range' k0 n).map fun k => (k, Value.agg (bitsA (S k)))) = some CS ∧ CS.size = N * 256 ∧
    (∀ k, k0 ≤ k → k < k0 + n → ∀ m, m < 256 → CS[k * 256 + m]? = some (.bool (mem (S k) m))) ∧ ∀ q, q < k0 * 256 → CS[q]? = cells[q]? := by
 intro n
 induction n with
 | zero => intro k0 cells hs _; exact ⟨cells, rfl, hs, fun k h1 h2 => by omega, fun q _ => rfl⟩
 | succ n ih =>
   intro k0 cells hs hk
   have hc : (Value.agg (bitsA (S k0))).cells = bitsA (S k0) := rfl
   have hl : (bitsA (S k0)).toList.length = 256 := by simp [bitsA_size]
   have hb : k0 * 256 + 256 ≤ N * 256 := by omega
   obtain ⟨p1, p2⟩ := put_cells (bitsA (S k0)).toList (k0 * 256) 0 cells (by rw [hl, hs]; omega)
   obtain ⟨CS, f1, f2, f3, f4⟩ := ih (k0 + 1) _ (p1.trans hs) (by omega)
   refine ⟨CS, ?_, f2, fun k h1 h2 m hm => ?_, fun q hq => ?_⟩
   ·rw [List.range'_succ, List.map_cons, Instr.fill, hc, bitsA_size]
    simp only [hs, gt_iff_lt]
    rw [if_neg (by simp; omega), ← Array.foldl_toList, Array.toList_zipIdx]
    exact f1
   ·by_cases e : k = k0
    ·subst e
     rw [f4 _ (by omega), p2, hl, if_pos (by omega), show k * 256 + m - (k * 256 + 0) = m by omega, Array.getElem?_toList]
     exact bitsA_get _ _ hm
    ·exact f3 k (by omega) (by omega) m hm
   ·refine (f4 q (Nat.lt_of_lt_of_le hq (Nat.mul_le_mul_right 256 (Nat.le_succ k0)))).trans ((p2 q).trans ?_)
    clear f1 f2 f3 f4 p1 p2 ih
    rw [Nat.add_zero, if_neg (fun h => Nat.not_le_of_lt hq h.1)]
theorem run_sets (S : Nat → BitVec 256) (w : World) : ∃ CS : Array Value, CS.size = 2816 ∧ (∀ k, k < 11 → ∀ m, m < 256 → CS[k * 256 + m]? = some (.bool (mem (S k) m))) ∧
  (Instr.buildSlice 158 11 #[(0, .agg (bitsA (S 0))), (1, .agg (bitsA (S 1))), (2, .agg (bitsA (S 2))), (3, .agg (bitsA (S 3))), (4, .agg (bitsA (S 4))), (5, .agg (bitsA (S 5))), (6, .agg (bitsA (S 6))), (7, .agg (bitsA (S 7))), (8, .agg (bitsA (S 8))), (9, .agg (bitsA (S 9))), (10, .agg (bitsA (S 10)))]).run Tryz.prog w =
   .ok (.slice (some ⟨w.heap.size, 0, none⟩) 11 11) (w.alloc (.cells CS 128)) := by
 obtain ⟨CS, h1, h2, h3, -⟩ := fill_sets S 11 11 0 ((Array.range (11 * 256)).map fun x => (bitsA 0#256)[x % (bitsA 0#256).size]!) (by simp) (by omega)
 refine ⟨CS, h2, fun k hk m hm => h3 k (Nat.zero_le _) (by omega) m hm, ?_⟩
 have hz : (sizeOf 128).run Tryz.prog w = .ok 256 w := by kernel_rfl
 have h4 : Instr.fill (fun i => some (i * 256, 256)) (Array.map (fun x => (bitsA 0#256)[x % (bitsA 0#256).size]!) (Array.range (11 * 256))) [(0, .agg (bitsA (S 0))), (1, .agg (bitsA (S 1))), (2, .agg (bitsA (S 2))), (3, .agg (bitsA (S 3))), (4, .agg (bitsA (S 4))), (5, .agg (bitsA (S 5))), (6, .agg (bitsA (S 6))), (7, .agg (bitsA (S 7))), (8, .agg (bitsA (S 8))), (9, .agg (bitsA (S 9))), (10, .agg (bitsA (S 10)))] = some CS := h1
 have h5 : (underlying 158).run Tryz.prog w = .ok (.slice 128) w := by kernel_rfl
 have h6 : (newRow 128 CS).run Tryz.prog w = .ok ⟨w.heap.size, 0, none⟩ (w.alloc (.cells CS 128)) := by rfl
 unfold Instr.buildSlice
 rw [Sem.run_bind, h5, Result.andThen_ok]
 simp only []
 rw [Sem.run_bind, hz, Result.andThen_ok]
 rw [if_neg (by decide), if_neg (by decide), Sem.run_bind, zero256, Result.andThen_ok]
 rw [Sem.run_bind, Sem.run_pure, Result.andThen_ok, show (Value.agg (bitsA 0#256)).cells = bitsA 0#256 from rfl, h4]
 simp only []
 rw [Sem.run_bind, h6, Result.andThen_ok]
 rfl
end Go.Proofs.YtdnbpbngoiahlaaGreatDoor
namespace Go.Proofs.YtdnbpbngoiahlaaGreatDoor
structure Tok where
 k : Int
 S : BitVec 256
 mn : Int
 mx : Int
 md : Int
 n : Int
 f : ByteArray
def tok0 (k : Int) : Tok := ⟨k, 0#256, 0, 0, 0, 0, ByteArray.empty⟩
abbrev TokR := Tok × Nat × Int
def wrongT (e : Int) : TokR := (tok0 0, 0, e)
def isD (p : ByteArray) (i : Nat) : Bool := decide (48 ≤ bt p i ∧ bt p i ≤ 57)
def countZ (p : ByteArray) (i : Nat) : Nat × Nat :=
 if isD p i = false then (0, i) else if isD p (i + 1) = false then (bt p i - 48, i + 1)
 else if isD p (i + 2) = false then (10 * (bt p i - 48) + (bt p (i + 1) - 48), i + 2)
 else (10 * (10 * (bt p i - 48) + (bt p (i + 1) - 48)) + (bt p (i + 2) - 48), i + 3)
def bracesZ (p : ByteArray) (i : Nat) : TokR :=
 let a := countZ p (i + 1)
 if a.2 = i + 1 then wrongT 3
 else
  let b : Int × Nat := if bt p a.2 = 44 then (if (countZ p (a.2 + 1)).2 = a.2 + 1 then -1 else ((countZ p (a.2 + 1)).1 : Int), (countZ p (a.2 + 1)).2) else ((a.1 : Int), a.2)
  if bt p b.2 ≠ 125 then wrongT 3
  else if 100 < a.1 ∨ 100 < b.1 then wrongT 4
  else if 0 ≤ b.1 ∧ b.1 < a.1 then wrongT 3
  else ({ tok0 16 with mn := a.1, mx := b.1 }, b.2 + 1, 0)
def modeZ (p : ByteArray) (x : TokR) : TokR :=
 if bt p x.2.1 = 63 then ({ x.1 with md := 1 }, x.2.1 + 1, 0) else if bt p x.2.1 = 43 then ({ x.1 with md := 2 }, x.2.1 + 1, 0) else x
def quantZ (p : ByteArray) (i : Nat) : TokR :=
 if bt p i = 123 then (if (bracesZ p i).2.2 = 0 then modeZ p (bracesZ p i) else wrongT (bracesZ p i).2.2)
 else modeZ p ({ tok0 16 with mn := if bt p i = 43 then 1 else 0, mx := if bt p i = 63 then 1 else -1 }, i + 1, 0)
def flagsF (p : ByteArray) : Nat → Nat → List UInt8 → TokR
 | 0, _, _ => wrongT 3
 | f + 1, i, s =>
   if h : i < p.size then
    if bt p i = 58 ∧ s ≠ [] then ({ tok0 14 with f := ⟨s.toArray⟩ }, i + 1, 0)
    else if bt p i ≠ 105 ∧ bt p i ≠ 109 ∧ bt p i ≠ 115 then wrongT 3
    else if p[i] ∈ s then wrongT 3
    else flagsF p f (i + 1) (s ++ [p[i]])
   else wrongT 3
def headsL : List (List Nat × Int) := [([46], 1), ([94], 2), ([36], 3), ([92, 98], 4), ([92, 66], 5), ([124], 6), ([40, 63, 58], 8), ([40, 63, 61], 9), ([40, 63, 33], 10), ([40, 63, 60, 61], 11), ([40, 63, 60, 33], 12), ([40, 63, 62], 13), ([41], 15)]
def headF (p : ByteArray) (i : Nat) : List (List Nat × Int) → Option TokR
 | [] => none
 | x :: r => if headB p i x.1 = true then some (tok0 x.2, i + x.1.length, 0) else headF p i r
def clsF (p : ByteArray) : Nat → Nat → BitVec 256 → Bool → Option (BitVec 256 × Nat)
 | 0, _, _, _ => none
 | f + 1, i, s, first =>
   if first = false ∧ bt p i = 93 then some (s, i)
   else
    let x := itemZ p i
    if x.2 = 0 then none
    else if bt p x.2 = 45 then
     let y := itemZ p (x.2 + 1)
     if y.2 = 0 ∨ lenS x.1 ≠ 1 ∨ lenS y.1 ≠ 1 ∨ minS y.1 < minS x.1 then none
     else clsF p f y.2 (ofPred fun n => mem s n || mem (span (minS x.1) (minS y.1 + 1)) n) false
    else clsF p f x.2 (ofPred fun n => mem s n || mem x.1 n) false
def classZ (p : ByteArray) (i : Nat) : BitVec 256 × Nat × Int :=
 if p.size ≤ i ∨ bt p i ≠ 91 then (0#256, 0, 1)
 else match clsF p (p.size + 1) (if bt p (i + 1) = 94 then i + 2 else i + 1) 0#256 true with
  | none => (0#256, 0, 3)
  | some x => (if bt p (i + 1) = 94 then notS' x.1 else x.1, x.2 + 1, 0)
def tokZ (p : ByteArray) (i : Nat) : TokR :=
 match headF p i headsL with
 | some x => x
 | none =>
   if headB p i [40, 63] = true then flagsF p (p.size + 1) (i + 2) []
   else if bt p i = 40 then (tok0 7, i + 1, 0)
   else if bt p i = 42 ∨ bt p i = 43 ∨ bt p i = 63 ∨ bt p i = 123 then quantZ p i
   else if bt p i = 91 then ({ tok0 0 with S := (classZ p i).1 }, (classZ p i).2.1, (classZ p i).2.2)
   else if bt p i = 93 ∨ bt p i = 125 then wrongT 3
   else if bt p i ≠ 92 then ({ tok0 0 with S := oneS (bt p i) }, i + 1, 0)
   else if 49 ≤ bt p (i + 1) ∧ bt p (i + 1) ≤ 57 then ({ tok0 17 with n := (bt p (i + 1) : Int) - 48 }, i + 2, 0)
   else if (escZ p i).2 = 0 then wrongT 3
   else ({ tok0 0 with S := (escZ p i).1 }, (escZ p i).2, 0)
def lexF (p : ByteArray) : Nat → Nat → List Tok → List Tok × Int
 | 0, _, l => (l, 0)
 | f + 1, i, l =>
   if p.size ≤ i then (l, 0)
   else if (tokZ p i).2.2 ≠ 0 then ([], (tokZ p i).2.2)
   else lexF p f (tokZ p i).2.1 (l ++ [(tokZ p i).1])
def lexZ (p : ByteArray) : List Tok × Int := if 1000 < p.size then ([], 4) else lexF p (p.size + 1) 0 []
end Go.Proofs.YtdnbpbngoiahlaaGreatDoor
namespace Go.Proofs.YtdnbpbngoiahlaaGreatDoor
open Go.RowKit
def cntV (p : ByteArray) (i : Nat) : Nat → Nat
 | 0 => 0
 | k + 1 => 10 * cntV p i k + (bt p (i + k) - 48)
theorem isD_no {p : ByteArray} {i : Nat} (h : p.size ≤ i) : isD p i = false := by unfold isD; rw [bt_no h]; rfl
theorem cntV_lt {p : ByteArray} {i : Nat} : ∀ k, (∀ j, j < k → isD p (i + j) = true) → cntV p i k < 10 ^ k
 | 0, _ => by simp [cntV]
 | k + 1, h => by
   have h1 := cntV_lt k fun j hj => h j (by omega)
   have h2 := h k (by omega)
   unfold isD at h2
   have h3 := of_decide_eq_true h2
   rw [cntV, Nat.pow_succ]
   omega
theorem count_at {p : ByteArray} {i k : Nat} (hk : k ≤ 3) (h : ∀ j, j < k → isD p (i + j) = true) (he : k = 3 ∨ isD p (i + k) = false) : countZ p i = (cntV p i k, i + k) := by
 unfold countZ
 rcases (show k = 0 ∨ k = 1 ∨ k = 2 ∨ k = 3 by omega) with rfl | rfl | rfl | rfl
 ·rcases he with he | he
  ·omega
  ·rw [if_pos (show isD p i = false from he)]; rfl
 ·have h0 : isD p i = true := h 0 (by omega)
  rcases he with he | he
  ·omega
  ·rw [if_neg (by rw [h0]; decide), if_pos he]; simp [cntV]
 ·have h0 : isD p i = true := h 0 (by omega)
  have h1 := h 1 (by omega)
  rcases he with he | he
  ·omega
  ·rw [if_neg (by rw [h0]; decide), if_neg (by rw [h1]; decide), if_pos he]; simp [cntV]
 ·have h0 : isD p i = true := h 0 (by omega)
  have h1 := h 1 (by omega)
  have h2 := h 2 (by omega)
  rw [if_neg (by rw [h0]; decide), if_neg (by rw [h1]; decide), if_neg (by rw [h2]; decide)]
  simp [cntV]
theorem ret_nn {a b c d : Int} (h : a = c) (h2 : b = d) : Ending.returned (.tuple #[.int .i64 a, .int .i64 b]) = .returned (.tuple #[.int .i64 c, .int .i64 d]) := by rw [h, h2]
set_option maxHeartbeats 2000000 in
theorem count_any (p : ByteArray) (i : Nat) (w : World) (hp : p.size ≤ 1000000) (hi : i ≤ 2000000) : Calls Tryz.prog 139 #[.string p, .int .i64 (i : Int)] w fun e w' => e = .returned (.tuple #[.int .i64 ((countZ p i).1 : Nat), .int .i64 ((countZ p i).2 : Nat)]) ∧ w = w' := by
 go_enter Tryz.func139, Tryz.ntmps139
 go_wp2_with fail
 go_loopw [6, 7] (fun a b wr => ∃ k n : Nat, k ≤ 3 ∧ a = .int .i64 n ∧ b = .int .i64 ((i : Int) + k) ∧ (∀ j, j < k → isD p (i + j) = true) ∧ n = cntV p i k ∧ w = wr) (fun _ b _ => i + 3 - (intOf b).toNat)
 case atStart => exact ⟨0, 0, by omega, rfl, by simp, fun j hj => by omega, rfl, rfl⟩
 case round =>
  obtain ⟨k, n, hk, rfl, rfl, hd, hn, rfl⟩ := hrel
  have hb : n < 1000 := by
   rw [hn]
   exact Nat.lt_of_lt_of_le (cntV_lt k hd) (Nat.pow_le_pow_right (by decide) hk)
  have HD := Lib.hid hd
  have HN := Lib.hid hn
  clear hd hn
  by_cases hsz : i + k < p.size
  ·by_cases h3 : k = 3
   ·subst h3
    have g1 : (i : Int) + 3 < (p.size : Int) := by omega
    go_wp2_with fail
    go_ret2
    have hc := count_at (p := p) (i := i) (k := 3) (by omega) HD.out (.inl rfl)
    exact ⟨ret_nn (by rw [hc, ← HN.out]) (by rw [hc]; show (i : Int) + 3 = ((i + 3 : Nat) : Int); omega), rfl⟩
   ·have g1 : (i : Int) + (k : Int) < (p.size : Int) := by omega
    have g2 : (k : Int) < 3 := by omega
    have HC := Lib.hid (bt_at hsz)
    obtain ⟨c, hc⟩ : ∃ c, c = (p[i + k]'hsz).toNat := ⟨_, rfl⟩
    rw [← hc] at HC
    have hcl : c < 256 := by rw [hc]; exact (p[i + k]'hsz).toNat_lt
    have hcb : bt p (i + k) = c := by rw [hc]; exact bt_at hsz
    have HCB := Lib.hid hcb
    clear hcb
    by_cases h48 : 48 ≤ c
    ·by_cases h57 : c ≤ 57
     ·have q1 : (48 : Int) ≤ (c : Int) := by omega
      have q2 : (c : Int) ≤ 57 := by omega
      rw [hc] at q1 q2
      go_wp2_with fail
      go_roundw
      case rel =>
       refine ⟨k + 1, 10 * n + (c - 48), by omega, ?_, by go_num, fun j hj => ?_, ?_, trivial⟩
       ·rw [hc]; go_num
       ·by_cases e : j = k
        ·subst e; unfold isD; rw [HCB.out]; exact decide_eq_true ⟨h48, h57⟩
        ·exact HD.out j (by omega)
       ·rw [cntV, HCB.out, HN.out]
      case measure => simp [intOf]; omega
     ·have q1 : (48 : Int) ≤ (c : Int) := by omega
      have q2 : ¬ (c : Int) ≤ 57 := by omega
      rw [hc] at q1 q2
      go_wp2_with fail
      go_ret2
      have hc2 := count_at (p := p) (i := i) (k := k) hk HD.out (.inr (by unfold isD; rw [HCB.out]; exact decide_eq_false (by omega)))
      exact ⟨ret_nn (by rw [hc2, ← HN.out]) (by rw [hc2]; show (i : Int) + k = ((i + k : Nat) : Int); omega), rfl⟩
    ·have q1 : ¬ (48 : Int) ≤ (c : Int) := by omega
     rw [hc] at q1
     go_wp2_with fail
     go_ret2
     have hc2 := count_at (p := p) (i := i) (k := k) hk HD.out (.inr (by unfold isD; rw [HCB.out]; exact decide_eq_false (by omega)))
     exact ⟨ret_nn (by rw [hc2, ← HN.out]) (by rw [hc2]; show (i : Int) + k = ((i + k : Nat) : Int); omega), rfl⟩
  ·have g1 : ¬ (i : Int) + (k : Int) < (p.size : Int) := by omega
   go_wp2_with fail
   go_ret2
   have hc := count_at (p := p) (i := i) (k := k) hk HD.out (.inr (isD_no (by omega)))
   exact ⟨ret_nn (by rw [hc, ← HN.out]) (by rw [hc]; show (i : Int) + k = ((i + k : Nat) : Int); omega), rfl⟩
end Go.Proofs.YtdnbpbngoiahlaaGreatDoor
