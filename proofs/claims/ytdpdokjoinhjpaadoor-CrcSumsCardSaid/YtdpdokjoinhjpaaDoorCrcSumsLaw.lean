/-
  The statement CrcSums: what its walk comes to.
-/
import Derived.Test.YtdpdokjoinhjpaaDoorCrcFixed
namespace Go.Proofs.YtdpdokjoinhjpaaDoor
open Go.RowKit


set_option maxHeartbeats 4000000 in
theorem crcSums_s (n : Nat) (s : ByteArray) (w : World) (ht : TabC w) (hn : n < 4294967296) (hs : s.size ≤ 9223372036854775807) (cs : s.size ≤ 300) :
    Calls Tryd.prog 3 #[.int .u32 (n : Int), .string s] w fun e w' => e = .returned (.bool true) ∧ Below w.heap.size w w' := by
  have H0 := Lib.hid (HeldC.start ht)
  clear ht
  go_enter Tryd.func3, Tryd.ntmps3
  go_wp2_with fail
  have HX := Lib.hid cs
  obtain ⟨X, rfl⟩ : ∃ X, X = s := ⟨_, rfl⟩
  skip
  refine (open_any X _ H0.out.2 (by have := HX.out; omega)).mono ?_
  rintro e w1 ⟨rfl, hb⟩
  have H1 := Lib.hid (H0.out.call hb)
  clear hb H0
  have z0 := str_eq (rfl : openB X = openB X)
  go_wp2_with fail
  refine (ropen_any X _ (by have := HX.out; omega)).mono ?_
  rintro e w2 ⟨rfl, hb⟩
  have H2 := Lib.hid (H1.out.call hb)
  clear hb H1
  go_wp2_with fail
  refine (of_any X _ H2.out.2 (by have := HX.out; omega)).mono ?_
  rintro e w3 ⟨rfl, hb⟩
  have H3 := Lib.hid (H2.out.call hb)
  clear hb H2
  go_wp2_with fail
  refine (rof_any X _ (by have := HX.out; omega)).mono ?_
  rintro e w4 ⟨rfl, rfl⟩
  have H4 := H3
  clear H3
  go_wp2_with fail
  refine (on_any n X _ H4.out.2 hn (by have := HX.out; omega)).mono ?_
  rintro e w5 ⟨rfl, hb⟩
  have H5 := Lib.hid (H4.out.call hb)
  clear hb H4
  go_wp2_with fail
  refine (ron_any n X _ hn (by have := HX.out; omega)).mono ?_
  rintro e w6 ⟨rfl, rfl⟩
  have H6 := H5
  clear H5
  go_wp2_with fail
  refine (seal_any X _ H6.out.2 (by have := HX.out; omega)).mono ?_
  rintro e w7 ⟨rfl, hb⟩
  have H7 := Lib.hid (H6.out.call hb)
  clear hb H6
  have z1 := str_eq (rfl : sealB X = sealB X)
  go_wp2_with fail
  refine (rseal_any X _ (by have := HX.out; omega)).mono ?_
  rintro e w8 ⟨rfl, hb⟩
  have H8 := Lib.hid (H7.out.call hb)
  clear hb H7
  go_wp2_with fail
  refine (fixed_any _ H8.out.2).mono ?_
  rintro e w9 ⟨rfl, hb⟩
  have H9 := Lib.hid (H8.out.call hb)
  clear hb H8
  go_wp2
  go_ret
  exact ⟨rfl, H9.out.1⟩

set_option maxHeartbeats 4000000 in
theorem crcSums_l (n : Nat) (s : ByteArray) (w : World) (ht : TabC w) (hn : n < 4294967296) (hs : s.size ≤ 9223372036854775807) (cs : 300 < s.size) :
    Calls Tryd.prog 3 #[.int .u32 (n : Int), .string s] w fun e w' => e = .returned (.bool true) ∧ Below w.heap.size w w' := by
  have H0 := Lib.hid (HeldC.start ht)
  clear ht
  go_enter Tryd.func3, Tryd.ntmps3
  go_wp2_with fail
  have hXs : (s.extract 0 300).size = 300 := by rw [ByteArray.size_extract]; omega
  generalize s.extract 0 300 = X at hXs ⊢
  have HX := Lib.hid (show X.size ≤ 300 by omega)
  clear hXs
  skip
  refine (open_any X _ H0.out.2 (by have := HX.out; omega)).mono ?_
  rintro e w1 ⟨rfl, hb⟩
  have H1 := Lib.hid (H0.out.call hb)
  clear hb H0
  have z0 := str_eq (rfl : openB X = openB X)
  go_wp2_with fail
  refine (ropen_any X _ (by have := HX.out; omega)).mono ?_
  rintro e w2 ⟨rfl, hb⟩
  have H2 := Lib.hid (H1.out.call hb)
  clear hb H1
  go_wp2_with fail
  refine (of_any X _ H2.out.2 (by have := HX.out; omega)).mono ?_
  rintro e w3 ⟨rfl, hb⟩
  have H3 := Lib.hid (H2.out.call hb)
  clear hb H2
  go_wp2_with fail
  refine (rof_any X _ (by have := HX.out; omega)).mono ?_
  rintro e w4 ⟨rfl, rfl⟩
  have H4 := H3
  clear H3
  go_wp2_with fail
  refine (on_any n X _ H4.out.2 hn (by have := HX.out; omega)).mono ?_
  rintro e w5 ⟨rfl, hb⟩
  have H5 := Lib.hid (H4.out.call hb)
  clear hb H4
  go_wp2_with fail
  refine (ron_any n X _ hn (by have := HX.out; omega)).mono ?_
  rintro e w6 ⟨rfl, rfl⟩
  have H6 := H5
  clear H5
  go_wp2_with fail
  refine (seal_any X _ H6.out.2 (by have := HX.out; omega)).mono ?_
  rintro e w7 ⟨rfl, hb⟩
  have H7 := Lib.hid (H6.out.call hb)
  clear hb H6
  have z1 := str_eq (rfl : sealB X = sealB X)
  go_wp2_with fail
  refine (rseal_any X _ (by have := HX.out; omega)).mono ?_
  rintro e w8 ⟨rfl, hb⟩
  have H8 := Lib.hid (H7.out.call hb)
  clear hb H7
  go_wp2_with fail
  refine (fixed_any _ H8.out.2).mono ?_
  rintro e w9 ⟨rfl, hb⟩
  have H9 := Lib.hid (H8.out.call hb)
  clear hb H8
  go_wp2
  go_ret
  exact ⟨rfl, H9.out.1⟩

theorem crcSums_walk (n : Nat) (s : ByteArray) (w : World) (ht : TabC w) (hn : n < 4294967296) (hs : s.size ≤ 9223372036854775807) :
    Calls Tryd.prog 3 #[.int .u32 (n : Int), .string s] w fun e w' => e = .returned (.bool true) ∧ Below w.heap.size w w' := by
  by_cases c : s.size ≤ 300
  · exact crcSums_s n s w ht hn hs c
  · exact crcSums_l n s w ht hn hs (by omega)
end Go.Proofs.YtdpdokjoinhjpaaDoor
