/-
  Layer 6: what the document's answer does: starts, Digit.
-/
import Derived.Test.YtlcecblehffjiaaDoorLexMath
import Derived.Test.YtlcecblehffjiaaDoorTakeG
namespace Go.Proofs.YtlcecblehffjiaaDoor
open Go.RowKit

/-- Stand these bytes at a place? -/
def headB (p : ByteArray) : Nat → List Nat → Bool
  | _, [] => true
  | i, c :: r => (bt p i == c) && headB p (i + 1) r
/-- Does the text begin so at a place? -/
def startB (p : ByteArray) (i : Nat) (h : ByteArray) : Bool := decide (i ≤ p.size) && (decide (h.size ≤ p.size - i) && ((p.extract i (i + h.size)).toList == h.toList))
theorem bt_list (p : ByteArray) (i : Nat) : p.data.toList[i]? = if h : i < p.size then some p[i] else none := by
  split
  · rename_i h
    have h' : i < p.data.size := h
    rw [Array.getElem?_toList]
    exact Array.getElem?_eq_getElem h'
  · rename_i h
    have h' : ¬ i < p.data.size := h
    simp; exact Nat.le_of_not_lt h'
theorem head_list (p : ByteArray) : ∀ (l : List UInt8) (i : Nat), headB p i (l.map (·.toNat)) = l.isPrefixOf (p.data.toList.drop i)
  | [], _ => by simp [headB]
  | c :: r, i => by
    have hb := bt_list p i
    rw [List.map_cons, headB, head_list p r (i + 1)]
    by_cases h : i < p.size
    · rw [dif_pos h] at hb
      have hd : p.data.toList.drop i = p[i] :: p.data.toList.drop (i + 1) := by
        rw [List.getElem?_eq_some_iff] at hb
        obtain ⟨h1, h2⟩ := hb
        rw [List.drop_eq_getElem_cons h1, h2]
      rw [hd, List.isPrefixOf, bt_at h]
      congr 1
      rw [Bool.eq_iff_iff]
      simp only [beq_iff_eq]
      exact ⟨fun e => (UInt8.toNat_inj.1 e).symm, fun e => by rw [e]⟩
    · rw [dif_neg h] at hb
      have hd : p.data.toList.drop i = [] := by
        rw [List.drop_eq_nil_iff]
        simpa using hb
      rw [hd, bt_no (by omega)]
      have : (256 == c.toNat) = false := by simp; have := c.toNat_lt; omega
      rw [this]
      rfl
theorem start_head (p h : ByteArray) (i : Nat) (hi : i ≤ p.size) : startB p i h = headB p i (h.data.toList.map (·.toNat)) := by
  rw [head_list]
  unfold startB
  rw [decide_eq_true hi, Bool.true_and, ByteArray.toList_eq, ByteArray.toList_eq]
  have hl : h.data.toList.length = h.size := by simp
  have hpl : p.data.toList.length = p.size := by simp
  by_cases h2 : h.size ≤ p.size - i
  · rw [decide_eq_true h2, Bool.true_and]
    have he : (p.extract i (i + h.size)).data.toList = (p.data.toList.drop i).take h.size := by
      rw [ByteArray.data_extract, Array.toList_extract, List.extract_eq_take_drop]
      congr 1
      omega
    rw [he, Bool.eq_iff_iff, List.isPrefixOf_iff_prefix, List.prefix_iff_eq_take, hl]
    simp only [beq_iff_eq]
    exact ⟨Eq.symm, Eq.symm⟩
  · rw [decide_eq_false h2, Bool.false_and]
    symm
    rw [Bool.eq_false_iff]
    intro hp
    have := (List.isPrefixOf_iff_prefix.1 hp).length_le
    rw [List.length_drop] at this
    omega
theorem starts_any (p h : ByteArray) (i : Nat) (w : World) (hp : p.size ≤ 1000000) (hi : i ≤ 2000000) (hh : h.size ≤ 1000) :
    Calls Tryd.prog 31 #[.string p, .int .i64 (i : Int), .string h] w fun e w' => e = .returned (.bool (startB p i h)) ∧ w = w' := by
  by_cases h1 : i ≤ p.size
  · by_cases h2 : h.size ≤ p.size - i
    · have h3 : (h.size : Int) ≤ (p.size : Int) - (i : Int) := by omega
      go_enter Tryd.func31, Tryd.ntmps31
      go_wp2_with fail
      go_ret
      exact ⟨ret_b (by unfold startB; rw [decide_eq_true h1, decide_eq_true h2]; rfl), rfl⟩
    · have h3 : ¬ (h.size : Int) ≤ (p.size : Int) - (i : Int) := by omega
      go_enter Tryd.func31, Tryd.ntmps31
      go_wp2_with fail
      go_ret
      exact ⟨ret_b (by unfold startB; rw [decide_eq_true h1, decide_eq_false h2]; rfl), rfl⟩
  · go_enter Tryd.func31, Tryd.ntmps31
    go_wp2_with fail
    go_ret
    exact ⟨ret_b (by unfold startB; rw [decide_eq_false h1]; rfl), rfl⟩
end Go.Proofs.YtlcecblehffjiaaDoor
