/-
  Layer 10, the statement CapsAgain: its walk.
-/
import Derived.Test.YtnapbmdbeihngaaDoorCapLine
namespace Go.Proofs.YtnapbmdbeihngaaDoor
open Go.RowKit

theorem eqB_mono {a b : Nat} (h : eqB false a b = true) : eqB true a b = true := by
  unfold eqB at h ⊢
  simp at h
  simp [h]
theorem begB_mono {s p : ByteArray} (h : begB false s p = true) : begB true s p = true := by
  rw [begB_iff] at h ⊢
  exact ⟨h.1, fun i hi => eqB_mono (h.2 i hi)⟩
/-- What stands where the piece was asked for. -/
theorem piece_at {t : ByteArray} {f r a : Nat} (hf : f + r ≤ t.size) (ha : a ≤ t.size) (h : begB false (t.extract a t.size) (t.extract f (f + r)) = true) : a + r ≤ t.size ∧ t.extract a (a + r) = t.extract f (f + r) := by
  obtain ⟨h1, h2⟩ := (begB_iff _ _ _).1 h
  have s1 : (t.extract f (f + r)).size = r := by rw [ByteArray.size_extract]; omega
  rw [s1, ByteArray.size_extract, Nat.min_self] at h1
  have hr : a + r ≤ t.size := by omega
  refine ⟨hr, ?_⟩
  have s2 : (t.extract a (a + r)).size = r := by rw [ByteArray.size_extract]; omega
  apply ByteArray.ext_getElem (by rw [s1, s2])
  intro i hi1 hi2
  have e := h2 i hi2
  unfold eqB at e
  simp at e
  rw [byB_extract (by omega), byB_eq hi2] at e
  have e2 := UInt8.toNat_inj.1 e
  rw [ByteArray.getElem_extract, e2]
theorem piece_same (t : ByteArray) (f r : Nat) (hf : f + r ≤ t.size) : begB false (t.extract f t.size) (t.extract f (f + r)) = true := by
  rw [begB_iff]
  have s1 : (t.extract f (f + r)).size = r := by rw [ByteArray.size_extract]; omega
  refine ⟨by rw [s1, ByteArray.size_extract, Nat.min_self]; omega, fun i hi => ?_⟩
  rw [s1] at hi
  rw [byB_extract (by omega), byB_eq (by rw [s1]; exact hi), ByteArray.getElem_extract]
  unfold eqB
  simp
/-- The groups that the statement asks. -/
def agC (f r : Nat) : Cp := zrC.set 2 f ((f : Int) + (r : Int))
theorem agC_with (f r n : Nat) (h : f + r ≤ n) (hn : n ≤ 60) : withZ zrC 3 (f : Int) ((f : Int) + (r : Int)) = (agC f r, 0) := by
  unfold withZ
  rw [if_pos ⟨⟨by omega, by omega⟩, by omega, by omega, by omega⟩]
  rfl
theorem agC_piece (t : ByteArray) (f r : Nat) (h : f + r ≤ t.size) (hn : t.size ≤ 60) : pieceZ (agC f r) t.size 3 = some (f, f + r) := by
  have hg : getZ (agC f r) 3 = some ((f : Int), (f : Int) + (r : Int)) := rfl
  unfold pieceZ
  rw [hg]
  simp only
  rw [if_pos ⟨⟨by omega, by omega, by omega⟩, by omega⟩]
  congr 2
theorem agC_s (t : ByteArray) (f r : Nat) (h : f + r ≤ t.size) (hn : t.size ≤ 60) : pcS (agC f r) t 3 = t.extract f (f + r) ∧ pcB (agC f r) t 3 = true := by
  unfold pcS pcB
  rw [agC_piece t f r h hn]
  exact ⟨rfl, rfl⟩
theorem agC_b (t : ByteArray) (f r a : Nat) (fold : Bool) (h : f + r ≤ t.size) (hn : t.size ≤ 60) : agB (agC f r) t 3 (a : Int) fold = (decide (a ≤ t.size) && begB fold (t.extract a t.size) (t.extract f (f + r))) := by
  obtain ⟨h1, h2⟩ := agC_s t f r h hn
  unfold agB
  rw [h1, h2, decide_eq_true (show 0 ≤ (a : Int) by omega), Bool.true_and, Bool.true_and, Int.toNat_natCast]
  congr 1
  rw [decide_eq_decide]
  omega
end Go.Proofs.YtnapbmdbeihngaaDoor
