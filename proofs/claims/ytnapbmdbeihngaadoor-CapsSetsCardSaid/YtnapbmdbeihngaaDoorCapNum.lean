/-
  Layer 10: the document's number: the decimal digits.
-/
import Derived.Test.YtnapbmdbeihngaaDoorCapAgain
namespace Go.Proofs.YtnapbmdbeihngaaDoor
open Go.RowKit

/-- A number's decimal digits. -/
def itS (n : Int) : ByteArray := ⟨(Lib.itoa n).toArray⟩
theorem strOf10 (w : World) (cs : List UInt8) : (convert 66 9 (.slice (some ⟨w.heap.size, 0, none⟩) cs.length cs.length)).run Tryd.prog (w.alloc (.cells (cs.map fun c => Value.int .u8 ((c.toNat : Nat) : Int)).toArray 5)) = .ok (.string ⟨cs.toArray⟩) (w.alloc (.cells (cs.map fun c => Value.int .u8 ((c.toNat : Nat) : Int)).toArray 5)) := by
  have h := run_convert_bytes_back (P := Tryd.prog) (w.alloc (.cells (cs.map fun c => Value.int .u8 ((c.toNat : Nat) : Int)).toArray 5)) 66 9 5 ⟨w.heap.size, 0, none⟩ cs.length cs Tryd.underlying66 Tryd.underlying5 Tryd.underlying9 (fun j hj => by
    rw [Addr.add_lit]
    unfold World.cell?
    rw [heap_alloc_new]
    simp [hj])
  exact h
theorem strOne (c : Nat) (hc : c < 256) (w : World) : (convert 66 9 (.slice (some ⟨w.heap.size, 0, none⟩) 1 1)).run Tryd.prog (w.alloc (.cells #[.int .u8 (c : Int)] 5)) = .ok (.string ⟨#[UInt8.ofNat c]⟩) (w.alloc (.cells #[.int .u8 (c : Int)] 5)) := by
  have h := strOf10 w [UInt8.ofNat c]
  have e : (UInt8.ofNat c).toNat = c := by simp; omega
  simp only [List.map_cons, List.map_nil, List.length_cons, List.length_nil, e] at h
  exact h
/-- The last digit. -/
def dgN (n : Int) : Nat := n.natAbs % 10
abbrev dgS (n : Int) : ByteArray := ⟨#[UInt8.ofNat (48 + dgN n)]⟩
theorem ba_app (a b : List UInt8) : (⟨(a ++ b).toArray⟩ : ByteArray) = ⟨a.toArray⟩ ++ ⟨b.toArray⟩ := by
  apply ByteArray.ext
  rw [ByteArray.data_append]
  simp
theorem tdiv_nat (m : Nat) : (m : Int).tdiv 10 = ((m / 10 : Nat) : Int) := rfl
theorem itS_more (n : Int) (h : n.tdiv 10 ≠ 0) : itS n = itS (n.tdiv 10) ++ dgS n := by
  unfold itS dgS dgN
  rw [show (#[UInt8.ofNat (48 + n.natAbs % 10)] : Array UInt8) = [UInt8.ofNat (48 + n.natAbs % 10)].toArray from rfl, ← ba_app]
  congr 2
  have hd : n.tdiv 10 = if n < 0 then -((n.natAbs / 10 : Nat) : Int) else ((n.natAbs / 10 : Nat) : Int) := by
    by_cases h0 : n < 0
    · rw [if_pos h0]
      obtain ⟨m, rfl⟩ : ∃ m : Nat, n = -(m : Int) := ⟨n.natAbs, by omega⟩
      rw [Int.neg_tdiv, Int.natAbs_neg, Int.natAbs_natCast, tdiv_nat]
    · rw [if_neg h0]
      obtain ⟨m, rfl⟩ : ∃ m : Nat, n = (m : Int) := ⟨n.natAbs, by omega⟩
      rw [Int.natAbs_natCast, tdiv_nat]
  rw [hd] at h ⊢
  have hq : 10 ≤ n.natAbs := by
    rcases Nat.lt_or_ge n.natAbs 10 with h1 | h1
    · exact absurd (by rw [Nat.div_eq_of_lt h1]; split <;> rfl) h
    · exact h1
  unfold Lib.itoa
  by_cases h0 : n < 0
  · rw [if_pos h0, if_pos h0, if_pos (by omega)]
    rw [Lib.decDigits, dif_neg (by omega), Int.natAbs_neg, Int.natAbs_natCast, List.cons_append]
  · rw [if_neg h0, if_neg h0, if_neg (by omega)]
    rw [Lib.decDigits, dif_neg (by omega), Int.toNat_natCast]
    congr 3 <;> omega
theorem itS_last (n : Int) (h : n.tdiv 10 = 0) (h0 : ¬ n < 0) : itS n = dgS n := by
  have hq : n.natAbs < 10 := by
    obtain ⟨m, rfl⟩ : ∃ m : Nat, n = (m : Int) := ⟨n.natAbs, by omega⟩
    rw [tdiv_nat] at h
    rw [Int.natAbs_natCast]
    omega
  unfold itS dgS dgN Lib.itoa
  rw [if_neg h0, Lib.decDigits, dif_pos (by omega), Nat.mod_eq_of_lt hq]
  congr 4
  omega
theorem itS_neg (n : Int) (h : n.tdiv 10 = 0) (h0 : n < 0) : itS n = ⟨#[45]⟩ ++ dgS n := by
  have hq : n.natAbs < 10 := by
    obtain ⟨m, rfl⟩ : ∃ m : Nat, n = -(m : Int) := ⟨n.natAbs, by omega⟩
    rw [Int.neg_tdiv, tdiv_nat] at h
    rw [Int.natAbs_neg, Int.natAbs_natCast]
    omega
  unfold itS dgS dgN Lib.itoa
  rw [if_pos h0, Lib.decDigits, dif_pos (by omega), Nat.mod_eq_of_lt hq]
  rw [show (#[45] : Array UInt8) = [45].toArray from rfl, show (#[UInt8.ofNat (48 + n.natAbs)] : Array UInt8) = [UInt8.ofNat (48 + n.natAbs)].toArray from rfl, ← ba_app]
  rfl
theorem tmod_dg (n : Int) : n.tmod 10 = if n < 0 then -((dgN n : Nat) : Int) else ((dgN n : Nat) : Int) := by
  unfold dgN
  by_cases h0 : n < 0
  · rw [if_pos h0]
    obtain ⟨m, rfl⟩ : ∃ m : Nat, n = -(m : Int) := ⟨n.natAbs, by omega⟩
    rw [Int.neg_tmod, Int.natAbs_neg, Int.natAbs_natCast]
    rfl
  · rw [if_neg h0]
    obtain ⟨m, rfl⟩ : ∃ m : Nat, n = (m : Int) := ⟨n.natAbs, by omega⟩
    rw [Int.natAbs_natCast]
    rfl
theorem dgN_lt (n : Int) : dgN n < 10 := Nat.mod_lt _ (by decide)
end Go.Proofs.YtnapbmdbeihngaaDoor
