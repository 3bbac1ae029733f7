/-
  Layer 6: what Class does at any place, the landed code's and the document's answer's.
-/
import Derived.Test.YtlcecblehffjiaaDoorLexFix
import Derived.Test.YtlcecblehffjiaaDoorLexRClass
namespace Go.Proofs.YtlcecblehffjiaaDoor
open Go.RowKit

/-- The class at any place, also outside of the pattern. -/
def classI (p : ByteArray) (z : Int) : BitVec 256 × Nat × Int := if 0 ≤ z then classZ p z.toNat else (0#256, 0, 1)
theorem classI_out {p : ByteArray} {z : Int} (h : z < 0 ∨ (p.size : Int) ≤ z) : classI p z = (0#256, 0, 1) := by
  unfold classI
  by_cases h0 : 0 ≤ z
  · rw [if_pos h0]
    unfold classZ
    rw [if_pos (.inl (by omega))]
  · rw [if_neg h0]
theorem classI_no {p : ByteArray} {i : Nat} (h : bt p i ≠ 91) : classI p i = (0#256, 0, 1) := by
  unfold classI
  rw [if_pos (by omega)]
  unfold classZ
  rw [if_pos (.inr (by simpa using h))]
theorem classI_in (p : ByteArray) (i : Nat) : classI p i = classZ p i := by
  unfold classI
  rw [if_pos (by omega)]
  rfl
theorem class_low (p : ByteArray) (z : Int) (w : World) (q1 : z < 0) : Calls Tryd.prog 15 #[.string p, .int .i64 z] w fun e w' => e = .returned (.tuple #[setV 0#256, .int .i64 0, .int .i64 1]) ∧ Below w.heap.size w w' := by
  go_enter Tryd.func15, Tryd.ntmps15
  go_wp2_with fail
  have hZ : Box (World.alloc w (.cells #[.int .u64 0, .int .u64 0, .int .u64 0, .int .u64 0] 36)) w.heap.size 0#256 := Box.zero (heap_alloc_new _ _)
  exact bodyPost_ret (resS3 (p := 4) (u := 5) (u2 := 6) (S := 0#256) (v := .int .i64 0) (v2 := .int .i64 1) rfl _ (g := w.heap.size) rfl rfl rfl hZ) rfl ⟨rfl, (Below.refl _ w).alloc (Nat.le_refl _) _⟩
theorem class_high (p : ByteArray) (z : Int) (w : World) (q1 : ¬ z < 0) (q2 : (p.size : Int) ≤ z) : Calls Tryd.prog 15 #[.string p, .int .i64 z] w fun e w' => e = .returned (.tuple #[setV 0#256, .int .i64 0, .int .i64 1]) ∧ Below w.heap.size w w' := by
  go_enter Tryd.func15, Tryd.ntmps15
  go_wp2_with fail
  have hZ : Box (World.alloc w (.cells #[.int .u64 0, .int .u64 0, .int .u64 0, .int .u64 0] 36)) w.heap.size 0#256 := Box.zero (heap_alloc_new _ _)
  exact bodyPost_ret (resS3 (p := 4) (u := 5) (u2 := 6) (S := 0#256) (v := .int .i64 0) (v2 := .int .i64 1) rfl _ (g := w.heap.size) rfl rfl rfl hZ) rfl ⟨rfl, (Below.refl _ w).alloc (Nat.le_refl _) _⟩
/-- The landed Class, of any pattern at any place. -/
theorem class_int (hE : ErrsOk) (p : ByteArray) (z : Int) (w : World) (hp : p.size ≤ 1000000) (hw : ErrW w) (ht : TabOk w) : Calls Tryd.prog 15 #[.string p, .int .i64 z] w fun e w' => e = .returned (.tuple #[setV (classI p z).1, .int .i64 ((classI p z).2.1 : Nat), .int .i64 (classI p z).2.2]) ∧ Below w.heap.size w w' := by
  by_cases h1 : z < 0
  · rw [classI_out (.inl h1)]
    exact class_low p z w h1
  · by_cases h2 : (p.size : Int) ≤ z
    · rw [classI_out (.inr h2)]
      exact class_high p z w h1 h2
    · obtain ⟨i, rfl⟩ : ∃ i : Nat, z = i := ⟨z.toNat, by omega⟩
      have hi : i < p.size := by omega
      by_cases h3 : bt p i = 91
      · rw [classI_in]
        exact class_any hE p i w hp hi h3 hw ht
      · rw [classI_no h3]
        exact class_arg p i w hp hi h3
theorem two_boxes (w : World) : BoxZ ((w.alloc (.cells #[.int .u64 0, .int .u64 0, .int .u64 0, .int .u64 0] 34)).alloc (.cells #[.int .u64 0, .int .u64 0, .int .u64 0, .int .u64 0] 34)) w.heap.size 0 0 0 0 ∧ BoxZ ((w.alloc (.cells #[.int .u64 0, .int .u64 0, .int .u64 0, .int .u64 0] 34)).alloc (.cells #[.int .u64 0, .int .u64 0, .int .u64 0, .int .u64 0] 34)) (w.heap.size + 1) 0 0 0 0 ∧ Below w.heap.size w ((w.alloc (.cells #[.int .u64 0, .int .u64 0, .int .u64 0, .int .u64 0] 34)).alloc (.cells #[.int .u64 0, .int .u64 0, .int .u64 0, .int .u64 0] 34)) := by
  have h4 : BoxZ (w.alloc (.cells #[.int .u64 0, .int .u64 0, .int .u64 0, .int .u64 0] 34)) w.heap.size 0 0 0 0 := heap_alloc_new _ _
  have hs1 : (w.alloc (.cells #[.int .u64 0, .int .u64 0, .int .u64 0, .int .u64 0] 34)).heap.size = w.heap.size + 1 := by simp
  have h7 : BoxZ ((w.alloc (.cells #[.int .u64 0, .int .u64 0, .int .u64 0, .int .u64 0] 34)).alloc (.cells #[.int .u64 0, .int .u64 0, .int .u64 0, .int .u64 0] 34)) (w.heap.size + 1) 0 0 0 0 := by rw [← hs1]; exact heap_alloc_new _ _
  have b1 := fun (v : World) (o : Obj) => (Below.refl _ v).alloc (Nat.le_refl v.heap.size) o
  exact ⟨h4.below (b1 _ _) h4.lt, h7, (b1 w _).alloc (by simp) _⟩
theorem rclass_low (p : ByteArray) (z : Int) (w : World) (q1 : z < 0) : Calls Tryd.prog 16 #[.string p, .int .i64 z] w fun e w' => e = .returned (.tuple #[setV 0#256, .int .i64 0, .int .i64 1]) ∧ Below w.heap.size w w' := by
  obtain ⟨h4, h7, hB⟩ := two_boxes w
  have H4 := Lib.hid h4
  have H7 := Lib.hid h7
  have HB := Lib.hid hB
  clear h4 h7 hB
  go_enter Tryd.func16, Tryd.ntmps16
  go_wp2_with (first | (refine loadZ rfl _ rfl (w.heap.size + 1) rfl H7.out ?_) | (refine storeZ rfl _ _ rfl w.heap.size 0 0 0 0 rfl rfl H4.out ?_))
  refine bodyPost_ret (resZ3 (p := 4) (u := 5) (u2 := 6) (v := .int .i64 0) (v2 := .int .i64 1) rfl _ (g := w.heap.size) rfl rfl rfl (H4.out.rowSame 0 0 0 0)) rfl ?_
  exact ⟨by rw [setV_zero], below_row HB.out (Nat.le_refl _) _⟩
theorem rclass_high (p : ByteArray) (z : Int) (w : World) (q1 : ¬ z < 0) (q2 : (p.size : Int) ≤ z) : Calls Tryd.prog 16 #[.string p, .int .i64 z] w fun e w' => e = .returned (.tuple #[setV 0#256, .int .i64 0, .int .i64 1]) ∧ Below w.heap.size w w' := by
  obtain ⟨h4, h7, hB⟩ := two_boxes w
  have H4 := Lib.hid h4
  have H7 := Lib.hid h7
  have HB := Lib.hid hB
  clear h4 h7 hB
  go_enter Tryd.func16, Tryd.ntmps16
  go_wp2_with (first | (refine loadZ rfl _ rfl (w.heap.size + 1) rfl H7.out ?_) | (refine storeZ rfl _ _ rfl w.heap.size 0 0 0 0 rfl rfl H4.out ?_))
  refine bodyPost_ret (resZ3 (p := 4) (u := 5) (u2 := 6) (v := .int .i64 0) (v2 := .int .i64 1) rfl _ (g := w.heap.size) rfl rfl rfl (H4.out.rowSame 0 0 0 0)) rfl ?_
  exact ⟨by rw [setV_zero], below_row HB.out (Nat.le_refl _) _⟩
theorem rclass_arg (p : ByteArray) (i : Nat) (w : World) (hi : i < p.size) (h91 : bt p i ≠ 91) : Calls Tryd.prog 16 #[.string p, .int .i64 (i : Int)] w fun e w' => e = .returned (.tuple #[setV 0#256, .int .i64 0, .int .i64 1]) ∧ Below w.heap.size w w' := by
  have hb : bt p i = (p[i]'hi).toNat := bt_at hi
  have q1 : ¬ ((p[i]'hi).toNat : Int) = 91 := by omega
  have q2 : ¬ (i : Int) < 0 := by omega
  have q3 : ¬ (p.size : Int) ≤ (i : Int) := by omega
  obtain ⟨h4, h7, hB⟩ := two_boxes w
  have H4 := Lib.hid h4
  have H7 := Lib.hid h7
  have HB := Lib.hid hB
  clear h4 h7 hB hb h91
  go_enter Tryd.func16, Tryd.ntmps16
  go_wp2_with (first | (refine loadZ rfl _ rfl (w.heap.size + 1) rfl H7.out ?_) | (refine storeZ rfl _ _ rfl w.heap.size 0 0 0 0 rfl rfl H4.out ?_))
  refine bodyPost_ret (resZ3 (p := 4) (u := 5) (u2 := 6) (v := .int .i64 0) (v2 := .int .i64 1) rfl _ (g := w.heap.size) rfl rfl rfl (H4.out.rowSame 0 0 0 0)) rfl ?_
  exact ⟨by rw [setV_zero], below_row HB.out (Nat.le_refl _) _⟩
/-- The document's Class, of any pattern at any place. -/
theorem rclass_int (p : ByteArray) (z : Int) (w : World) (hp : p.size ≤ 1000000) : Calls Tryd.prog 16 #[.string p, .int .i64 z] w fun e w' => e = .returned (.tuple #[setV (classI p z).1, .int .i64 ((classI p z).2.1 : Nat), .int .i64 (classI p z).2.2]) ∧ Below w.heap.size w w' := by
  by_cases h1 : z < 0
  · rw [classI_out (.inl h1)]
    exact rclass_low p z w h1
  · by_cases h2 : (p.size : Int) ≤ z
    · rw [classI_out (.inr h2)]
      exact rclass_high p z w h1 h2
    · obtain ⟨i, rfl⟩ : ∃ i : Nat, z = i := ⟨z.toNat, by omega⟩
      have hi : i < p.size := by omega
      by_cases h3 : bt p i = 91
      · rw [classI_in]
        exact rclass_any p i w hp hi h3
      · rw [classI_no h3]
        exact rclass_arg p i w hi h3
end Go.Proofs.YtlcecblehffjiaaDoor
