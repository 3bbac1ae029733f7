/-
  The calls of layer 3 whose answers the document fixes are answered so; what is held while a statement runs.
-/
import Derived.Test.YtdpdokjoinhjpaaDoorCrcCode
import Derived.Test.YtdpdokjoinhjpaaDoorCrcSeal
namespace Go.Proofs.YtdpdokjoinhjpaaDoor
open Go.RowKit

/-- Nothing that was in w0 has turned; the table is there. -/
def HeldC (w0 w : World) : Prop := Below w0.heap.size w0 w ∧ TabC w
theorem HeldC.start {w : World} (h : TabC w) : HeldC w w := ⟨Below.refl _ _, h⟩
theorem HeldC.call {w0 u v : World} (h : HeldC w0 u) (hb : Below u.heap.size u v) : HeldC w0 v := ⟨thenB h.1 hb h.1.size, h.2.call hb⟩

theorem fx1 : ofB ⟨#[49, 50, 51, 52, 53, 54, 55, 56, 57]⟩ = 2215682 := by decide +kernel
theorem fx2 : ofB ⟨#[]⟩ = 11994318 := by decide +kernel
theorem fx3 : onL (ofB ⟨#[49, 50, 51, 52]⟩ % 16777216) (ByteArray.mk #[53, 54, 55, 56, 57]).data.toList = 2215682 := by decide +kernel
theorem fx4 : sealB ⟨#[]⟩ = ⟨#[183, 4, 206]⟩ := by decide +kernel
theorem fx5 : openE ⟨#[97, 98]⟩ = 2 := by decide +kernel
theorem fx6 : openE ⟨#[97, 98, 99, 100]⟩ = 8 := by decide +kernel

theorem of1_k (w : World) (ht : TabC w) : Calls Tryd.prog 11 #[.string ⟨#[49, 50, 51, 52, 53, 54, 55, 56, 57]⟩] w fun e w' => e = .returned (.int .u32 2215682) ∧ Below w.heap.size w w' := by
  have h := of_any ⟨#[49, 50, 51, 52, 53, 54, 55, 56, 57]⟩ w ht (by decide)
  rw [fx1] at h
  exact h
theorem of2_k (w : World) (ht : TabC w) : Calls Tryd.prog 11 #[.string ⟨#[]⟩] w fun e w' => e = .returned (.int .u32 11994318) ∧ Below w.heap.size w w' := by
  have h := of_any ⟨#[]⟩ w ht (by decide)
  rw [fx2] at h
  exact h
theorem seal4_k (w : World) (ht : TabC w) : Calls Tryd.prog 15 #[.string ⟨#[]⟩] w fun e w' => e = .returned (.string ⟨#[183, 4, 206]⟩) ∧ Below w.heap.size w w' := by
  have h := seal_any ⟨#[]⟩ w ht (by decide)
  rw [fx4] at h
  exact h
theorem open5_k (w : World) (ht : TabC w) : Calls Tryd.prog 9 #[.string ⟨#[97, 98]⟩] w fun e w' => e = .returned (.tuple #[.string (openB ⟨#[97, 98]⟩), .int .i64 2]) ∧ Below w.heap.size w w' := by
  have h := open_any ⟨#[97, 98]⟩ w ht (by decide)
  rw [fx5] at h
  exact h
theorem open6_k (w : World) (ht : TabC w) : Calls Tryd.prog 9 #[.string ⟨#[97, 98, 99, 100]⟩] w fun e w' => e = .returned (.tuple #[.string (openB ⟨#[97, 98, 99, 100]⟩), .int .i64 8]) ∧ Below w.heap.size w w' := by
  have h := open_any ⟨#[97, 98, 99, 100]⟩ w ht (by decide)
  rw [fx6] at h
  exact h
/-- What is sealed is opened. -/
theorem opens_k (s : ByteArray) (w : World) (ht : TabC w) (h : s.size ≤ 1000) : Calls Tryd.prog 9 #[.string (sealB s)] w fun e w' => e = .returned (.tuple #[.string s, .int .i64 0]) ∧ Below w.heap.size w w' := by
  have h := open_any (sealB s) w ht (by rw [sealB_size]; omega)
  rw [(open_seal s).1, (open_seal s).2] at h
  exact h

/-- The calls, their answers given. -/
theorem on_k (n r : Nat) (s : ByteArray) (w : World) (ht : TabC w) (hn : n < 4294967296) (hlen : s.size ≤ 1000) (hr : onL (n % 16777216) s.data.toList = r) :
    Calls Tryd.prog 13 #[.int .u32 (n : Int), .string s] w fun e w' => e = .returned (.int .u32 (r : Int)) ∧ Below w.heap.size w w' := by
  subst hr; exact on_any n s w ht hn (by omega)
theorem of_k (r : Nat) (s : ByteArray) (w : World) (ht : TabC w) (hlen : s.size ≤ 1000) (hr : ofB s = r) :
    Calls Tryd.prog 11 #[.string s] w fun e w' => e = .returned (.int .u32 (r : Int)) ∧ Below w.heap.size w w' := by
  subst hr; exact of_any s w ht (by omega)
theorem seal_k (r s : ByteArray) (w : World) (ht : TabC w) (hlen : s.size ≤ 1000) (hr : sealB s = r) :
    Calls Tryd.prog 15 #[.string s] w fun e w' => e = .returned (.string r) ∧ Below w.heap.size w w' := by
  subst hr; exact seal_any s w ht (by omega)
theorem open_k (s x : ByteArray) (e : Int) (w : World) (ht : TabC w) (hlen : s.size ≤ 1000) (hx : openB s = x) (he : openE s = e) :
    Calls Tryd.prog 9 #[.string s] w fun r w' => r = .returned (.tuple #[.string x, .int .i64 e]) ∧ Below w.heap.size w w' := by
  subst hx he; exact open_any s w ht (by omega)

set_option maxHeartbeats 4000000 in
theorem fixed_any (w : World) (ht : TabC w) : Calls Tryd.prog 17 #[] w fun e w' => e = .returned (.bool true) ∧ Below w.heap.size w w' := by
  have H0 := Lib.hid (HeldC.start ht)
  clear ht
  go_enter Tryd.func17, Tryd.ntmps17
  go_wp2_with fail
  refine (seal_any ⟨#[97, 98]⟩ _ H0.out.2 (by decide)).mono ?_
  rintro e w1 ⟨rfl, hb⟩
  have H1 := Lib.hid (H0.out.call hb)
  clear hb H0
  go_wp2_with fail
  refine (opens_k ⟨#[97, 98]⟩ _ H1.out.2 (by decide)).mono ?_
  rintro e w2 ⟨rfl, hb⟩
  have H2 := Lib.hid (H1.out.call hb)
  clear hb H1
  go_wp2_with fail
  refine (open5_k _ H2.out.2).mono ?_
  rintro e w3 ⟨rfl, hb⟩
  have H3 := Lib.hid (H2.out.call hb)
  clear hb H2
  generalize openB ⟨#[97, 98]⟩ = Z5
  go_wp2_with fail
  refine (open6_k _ H3.out.2).mono ?_
  rintro e w4 ⟨rfl, hb⟩
  have H4 := Lib.hid (H3.out.call hb)
  clear hb H3
  generalize openB ⟨#[97, 98, 99, 100]⟩ = Z6
  go_wp2_with fail
  refine (of1_k _ H4.out.2).mono ?_
  rintro e w5 ⟨rfl, hb⟩
  have H5 := Lib.hid (H4.out.call hb)
  clear hb H4
  go_wp2_with fail
  refine (of2_k _ H5.out.2).mono ?_
  rintro e w6 ⟨rfl, hb⟩
  have H6 := Lib.hid (H5.out.call hb)
  clear hb H5
  go_wp2_with fail
  refine (of_any _ _ H6.out.2 (by decide)).mono ?_
  rintro e w7 ⟨rfl, hb⟩
  have H7 := Lib.hid (H6.out.call hb)
  clear hb H6
  have HX := Lib.hid fx3
  have HL := Lib.hid (ofB_lt ⟨#[49, 50, 51, 52]⟩)
  generalize ofB ⟨#[49, 50, 51, 52]⟩ = q at HX HL ⊢
  go_wp2_with fail
  refine (on_any q ⟨#[53, 54, 55, 56, 57]⟩ _ H7.out.2 (by have := HL.out; omega) (by decide)).mono ?_
  rintro e w8 ⟨rfl, hb⟩
  have H8 := Lib.hid (H7.out.call hb)
  clear hb H7
  rw [HX.out]
  go_wp2_with fail
  refine (seal4_k _ H8.out.2).mono ?_
  rintro e w9 ⟨rfl, hb⟩
  have H9 := Lib.hid (H8.out.call hb)
  clear hb H8
  go_wp2
  go_ret
  exact ⟨rfl, H9.out.1⟩
end Go.Proofs.YtdpdokjoinhjpaaDoor
