/-
  Layer 10: the document's number, walked.
-/
import Derived.Test.YtnapbmdbeihngaaDoorCapNum
namespace Go.Proofs.YtnapbmdbeihngaaDoor
open Go.RowKit

theorem strDg (d : Nat) (hd : d < 10) (w : World) : (convert 66 9 (.slice (some ⟨w.heap.size, 0, none⟩) 1 1)).run Tryd.prog (w.alloc (.cells #[.int .u8 (48 + (d : Int))] 5)) = .ok (.string ⟨#[UInt8.ofNat (48 + d)]⟩) (w.alloc (.cells #[.int .u8 (48 + (d : Int))] 5)) :=
  strOne (48 + d) (by omega) w
/-- The string of a digit, made out of a slice. -/
def DgOk (d : Nat) (X : ByteArray) : Prop := X.size = 1 ∧ ∀ w : World, (convert 66 9 (.slice (some ⟨w.heap.size, 0, none⟩) 1 1)).run Tryd.prog (w.alloc (.cells #[.int .u8 (48 + (d : Int))] 5)) = .ok (.string X) (w.alloc (.cells #[.int .u8 (48 + (d : Int))] 5))
abbrev NumC (Q : Int) (X : ByteArray) : Prop := ∀ w, Calls Tryd.prog 28 #[.int .i64 Q] w fun e w' => e = .returned (.string X) ∧ Below w.heap.size w w'
set_option maxRecDepth 20000 in
theorem number_a (n Q : Int) (d : Nat) (Y : ByteArray) (hd : d < 10) (HY : DgOk d Y) (h0 : decide (n < 0) = false) (HD : n.tmod 10 = (d : Int)) (HQ : n.tdiv 10 = Q) (HW : wrap64 Q = Q) (hq : (Q != 0) = false) : NumC n (Y) := by
  intro w
  obtain ⟨hY, hs⟩ := HY
  clear hY
  go_enter Tryd.func28, Tryd.ntmps28
  go_wp2_with fail
  go_ret
  exact ⟨rfl, by go_grown⟩
set_option maxRecDepth 20000 in
theorem number_b (n Q : Int) (d : Nat) (Y : ByteArray) (hd : d < 10) (hd1 : 1 ≤ d) (HY : DgOk d Y) (h0 : decide (n < 0) = true) (HD : n.tmod 10 = -(d : Int)) (HQ : n.tdiv 10 = Q) (HW : wrap64 Q = Q) (hq : (Q != 0) = false) : NumC n (⟨#[45]⟩ ++ Y) := by
  intro w
  obtain ⟨hY, hs⟩ := HY
  have s1 : ¬ 1 + Y.size > 9223372036854775807 := by omega
  clear hY
  go_enter Tryd.func28, Tryd.ntmps28
  go_wp2_with fail
  go_ret
  exact ⟨rfl, by go_grown⟩
set_option maxRecDepth 20000 in
theorem number_c (n Q : Int) (d : Nat) (Y : ByteArray) (hd : d < 10) (HY : DgOk d Y) (X : ByteArray) (hX : X.size ≤ 1000) (HC : Hid (NumC Q X)) (HD : n.tmod 10 = (d : Int)) (HQ : n.tdiv 10 = Q) (HW : wrap64 Q = Q) (hq : (Q != 0) = true) : NumC n (X ++ Y) := by
  intro w
  obtain ⟨hY, hs⟩ := HY
  have s1 : ¬ X.size + Y.size > 9223372036854775807 := by omega
  clear hY hX
  go_enter Tryd.func28, Tryd.ntmps28
  go_wp2_with fail
  refine (HC.out _).mono ?_
  rintro e w1 ⟨rfl, hb⟩
  have HB := Lib.hid (afterBox hb)
  clear hb
  go_wp2_with fail
  go_ret
  exact ⟨rfl, HB.out⟩
set_option maxRecDepth 20000 in
theorem number_d (n Q : Int) (d : Nat) (Y : ByteArray) (hd : d < 10) (hd1 : 1 ≤ d) (HY : DgOk d Y) (X : ByteArray) (hX : X.size ≤ 1000) (HC : Hid (NumC Q X)) (HD : n.tmod 10 = -(d : Int)) (HQ : n.tdiv 10 = Q) (HW : wrap64 Q = Q) (hq : (Q != 0) = true) : NumC n (X ++ Y) := by
  intro w
  obtain ⟨hY, hs⟩ := HY
  have s1 : ¬ X.size + Y.size > 9223372036854775807 := by omega
  clear hY hX
  go_enter Tryd.func28, Tryd.ntmps28
  go_wp2_with fail
  refine (HC.out _).mono ?_
  rintro e w1 ⟨rfl, hb⟩
  have HB := Lib.hid (afterBox hb)
  clear hb
  go_wp2_with fail
  go_ret
  exact ⟨rfl, HB.out⟩
end Go.Proofs.YtnapbmdbeihngaaDoor
