/-
  A text is turned into bytes, one of them is laid anew, and they are turned into a text.
-/
import Derived.Test.YtdpdokjoinhjpaaDoorCrcFixed
namespace Go.Proofs.YtdpdokjoinhjpaaDoor
open Go.RowKit

theorem bytes_spoil (w : World) (T : ByteArray) (i : Nat) (hi : i < T.size) (c : UInt8) (v : Int) (hv : v = (c.toNat : Int)) :
    ∃ cp w3, (convert 9 32 (.string T)).run Tryd.prog w = .ok (.slice (some ⟨w.heap.size, 0, none⟩) T.size cp) w3 ∧
      w3.cell? ⟨w.heap.size, i, none⟩ = some (.int .u8 (T[i].toNat : Int)) ∧ w3.frozen? ⟨w.heap.size, i, none⟩ = false ∧
      (convert 32 9 (.slice (some ⟨w.heap.size, 0, none⟩) T.size cp)).run Tryd.prog (w3.setCell ⟨w.heap.size, i, none⟩ (.int .u8 v)) = .ok (.string ⟨T.data.set i c hi⟩) (w3.setCell ⟨w.heap.size, i, none⟩ (.int .u8 v)) ∧
      Below w.heap.size w (w3.setCell ⟨w.heap.size, i, none⟩ (.int .u8 v)) := by
  subst hv
  refine ⟨_, _, run_bytes_of_string w 9 32 5 T Tryd.underlying9 Tryd.underlying32 Tryd.underlying5, ?_⟩
  generalize grownCap w T.size 0 5 = cp
  have hsz : T.size ≤ (bytesRow T cp).size := by
    unfold bytesRow
    rw [Array.size_append, Array.size_map]
    exact Nat.le_add_right _ _
  have hcell : ∀ j (hj : j < T.size), (w.drew.alloc (.cells (bytesRow T cp) 5 ((bytesRow T cp).size, (bytesRow T cp).size + 1))).cell? ⟨w.heap.size, j, none⟩ = some (.int .u8 (T[j].toNat : Int)) := by
    intro j hj
    have h := World.cell?_alloc_mark w.drew (bytesRow T cp) 5 ((bytesRow T cp).size, (bytesRow T cp).size + 1) j
    rw [bytesRow_at T cp j hj] at h
    exact h
  refine ⟨hcell i hi, ?_, ?_, ?_⟩
  · have h := World.frozen?_alloc_mark w.drew (bytesRow T cp) 5 (bytesRow T cp).size ((bytesRow T cp).size + 1) i
    have d : decide ((bytesRow T cp).size ≤ i) = false := by simp; omega
    rw [d] at h
    exact h
  · have hl : (T.data.set i c hi).toList.length = T.size := by
      rw [Array.length_toList, Array.size_set]
      rfl
    have h := run_convert_bytes_back (P := Tryd.prog) ((w.drew.alloc (.cells (bytesRow T cp) 5 ((bytesRow T cp).size, (bytesRow T cp).size + 1))).setCell ⟨w.heap.size, i, none⟩ (.int .u8 (c.toNat : Int))) 32 9 5 ⟨w.heap.size, 0, none⟩ cp (T.data.set i c hi).toList Tryd.underlying32 Tryd.underlying5 Tryd.underlying9 ?_
    · rw [hl] at h
      exact h
    · intro j hj
      rw [hl] at hj
      have ea : Addr.add ⟨w.heap.size, 0, none⟩ j = ⟨w.heap.size, j, none⟩ := by simp [Addr.add]; omega
      rw [ea]
      by_cases e : i = j
      · subst e
        rw [World.cell?_setCell_same _ _ _ (hcell i hi)]
        simp
      · rw [World.cell?_setCell_other _ _ _ _ (by intro h; injection h with h1 h2; exact e h2), hcell j hj]
        have : (T.data.set i c hi).toList[j]'(by rw [hl]; exact hj) = T[j] := by
          rw [Array.getElem_toList, Array.getElem_set_ne _ _ e]
          rfl
        rw [this]
  · exact ((Below.refl _ w).drew.alloc (Nat.le_refl _) _).setCell (Nat.le_refl _) _

/-- What is laid over a byte makes another one. -/
theorem spoil_ne (b y : Nat) (hb : b < 256) : ∃ c : UInt8, bits .xor .u8 (b : Int) (1 + (y : Int) % 255) = (c.toNat : Int) ∧ c.toNat ≠ b := by
  have h := u8_xor_nat b (1 + y % 255) hb (by omega)
  refine ⟨UInt8.ofNat (b ^^^ (1 + y % 255)), ?_, ?_⟩
  · rw [UInt8.toNat_ofNat', Nat.mod_eq_of_lt (Nat.xor_lt_two_pow (n := 8) (by omega) (by omega)), ← h]
    congr 1
  · rw [UInt8.toNat_ofNat', Nat.mod_eq_of_lt (Nat.xor_lt_two_pow (n := 8) (by omega) (by omega))]
    intro e
    have : b ^^^ (b ^^^ (1 + y % 255)) = 0 := by rw [e, Nat.xor_self]
    rw [← Nat.xor_assoc, Nat.xor_self, Nat.zero_xor] at this
    omega
end Go.Proofs.YtdpdokjoinhjpaaDoor
