/-
  The statement CrcParts: what its walk comes to.
-/
import Derived.Test.YtdpdokjoinhjpaaDoorCrcFixed
namespace Go.Proofs.YtdpdokjoinhjpaaDoor
open Go.RowKit


set_option maxHeartbeats 4000000 in
theorem crcParts_ss (n : Nat) (a b : ByteArray) (w : World) (ht : TabC w) (hn : n < 4294967296) (ha : a.size ≤ 9223372036854775807) (hb : b.size ≤ 9223372036854775807) (ca : a.size ≤ 200) (cb : b.size ≤ 200) :
    Calls Tryd.prog 4 #[.int .u32 (n : Int), .string a, .string b] w fun e w' => e = .returned (.bool true) ∧ Below w.heap.size w w' := by
  have H0 := Lib.hid (HeldC.start ht)
  clear ht
  go_enter Tryd.func4, Tryd.ntmps4
  go_wp2_with fail
  have HX := Lib.hid ca
  obtain ⟨X, rfl⟩ : ∃ X, X = a := ⟨_, rfl⟩
  have HY := Lib.hid cb
  obtain ⟨Y, rfl⟩ : ∃ Y, Y = b := ⟨_, rfl⟩
  obtain ⟨x, hx⟩ : ∃ x, onL (n % 16777216) X.data.toList = x := ⟨_, rfl⟩
  obtain ⟨y, hy⟩ : ∃ y, onL x Y.data.toList = y := ⟨_, rfl⟩
  obtain ⟨o, ho⟩ : ∃ o, ofB X = o := ⟨_, rfl⟩
  obtain ⟨z, hz⟩ : ∃ z, onL o Y.data.toList = z := ⟨_, rfl⟩
  have xl : x < 16777216 := by rw [← hx]; exact onL_lt _ _ (by omega)
  have ol : o < 16777216 := by rw [← ho]; exact ofB_lt X
  have HY2 := Lib.hid (show onL (x % 16777216) Y.data.toList = y by rw [Nat.mod_eq_of_lt xl]; exact hy)
  have HXY := Lib.hid (show onL (n % 16777216) (X ++ Y).data.toList = y by rw [ByteArray.data_append, Array.toList_append, onL_append, hx]; exact hy)
  have HE := Lib.hid (show onL (x % 16777216) (ByteArray.mk #[]).data.toList = x by rw [Nat.mod_eq_of_lt xl]; rfl)
  have HO := Lib.hid (show ofB (X ++ Y) = z by rw [ofB_append, ho]; exact hz)
  have HZ2 := Lib.hid (show onL (o % 16777216) Y.data.toList = z by rw [Nat.mod_eq_of_lt ol]; exact hz)
  have HX2 := Lib.hid hx
  have HO2 := Lib.hid ho
  have XL := Lib.hid xl
  have OL := Lib.hid ol
  have hno : ¬ 9223372036854775807 < X.size + Y.size := by have := HX.out; have := HY.out; omega
  have HS := Lib.hid (show (X ++ Y).size ≤ 1000 by rw [ByteArray.size_append]; have := HX.out; have := HY.out; omega)
  have b24 : decide ((x : Int) < 16777216) = true := by simp; omega
  clear hx hy ho hz xl ol
  refine (on_k n x X _ H0.out.2 hn (by have := HX.out; omega) HX2.out).mono ?_
  rintro e w1 ⟨rfl, hb⟩
  have H1 := Lib.hid (H0.out.call hb)
  clear hb H0
  go_wp2_with fail
  refine (on_k x y Y _ H1.out.2 (by have := XL.out; omega) (by have := HY.out; omega) HY2.out).mono ?_
  rintro e w2 ⟨rfl, hb⟩
  have H2 := Lib.hid (H1.out.call hb)
  clear hb H1
  go_wp2_with fail
  refine (on_k n y (X ++ Y) _ H2.out.2 hn HS.out HXY.out).mono ?_
  rintro e w3 ⟨rfl, hb⟩
  have H3 := Lib.hid (H2.out.call hb)
  clear hb H2
  go_wp2_with fail
  refine (on_k x x ⟨#[]⟩ _ H3.out.2 (by have := XL.out; omega) (by decide) HE.out).mono ?_
  rintro e w4 ⟨rfl, hb⟩
  have H4 := Lib.hid (H3.out.call hb)
  clear hb H3
  go_wp2_with fail
  refine (of_k z (X ++ Y) _ H4.out.2 HS.out HO.out).mono ?_
  rintro e w5 ⟨rfl, hb⟩
  have H5 := Lib.hid (H4.out.call hb)
  clear hb H4
  go_wp2_with fail
  refine (of_k o X _ H5.out.2 (by have := HX.out; omega) HO2.out).mono ?_
  rintro e w6 ⟨rfl, hb⟩
  have H6 := Lib.hid (H5.out.call hb)
  clear hb H5
  go_wp2_with fail
  refine (on_k o z Y _ H6.out.2 (by have := OL.out; omega) (by have := HY.out; omega) HZ2.out).mono ?_
  rintro e w7 ⟨rfl, hb⟩
  have H7 := Lib.hid (H6.out.call hb)
  clear hb H6
  go_wp2_with fail
  refine (fixed_any _ H7.out.2).mono ?_
  rintro e w8 ⟨rfl, hb⟩
  have H8 := Lib.hid (H7.out.call hb)
  clear hb H7
  go_wp2
  go_ret
  exact ⟨rfl, H8.out.1⟩

set_option maxHeartbeats 4000000 in
theorem crcParts_sl (n : Nat) (a b : ByteArray) (w : World) (ht : TabC w) (hn : n < 4294967296) (ha : a.size ≤ 9223372036854775807) (hb : b.size ≤ 9223372036854775807) (ca : a.size ≤ 200) (cb : 200 < b.size) :
    Calls Tryd.prog 4 #[.int .u32 (n : Int), .string a, .string b] w fun e w' => e = .returned (.bool true) ∧ Below w.heap.size w w' := by
  have H0 := Lib.hid (HeldC.start ht)
  clear ht
  go_enter Tryd.func4, Tryd.ntmps4
  go_wp2_with fail
  have HX := Lib.hid ca
  obtain ⟨X, rfl⟩ : ∃ X, X = a := ⟨_, rfl⟩
  have hYs : (b.extract 0 200).size = 200 := by rw [ByteArray.size_extract]; omega
  generalize b.extract 0 200 = Y at hYs ⊢
  have HY := Lib.hid (show Y.size ≤ 200 by omega)
  clear hYs
  obtain ⟨x, hx⟩ : ∃ x, onL (n % 16777216) X.data.toList = x := ⟨_, rfl⟩
  obtain ⟨y, hy⟩ : ∃ y, onL x Y.data.toList = y := ⟨_, rfl⟩
  obtain ⟨o, ho⟩ : ∃ o, ofB X = o := ⟨_, rfl⟩
  obtain ⟨z, hz⟩ : ∃ z, onL o Y.data.toList = z := ⟨_, rfl⟩
  have xl : x < 16777216 := by rw [← hx]; exact onL_lt _ _ (by omega)
  have ol : o < 16777216 := by rw [← ho]; exact ofB_lt X
  have HY2 := Lib.hid (show onL (x % 16777216) Y.data.toList = y by rw [Nat.mod_eq_of_lt xl]; exact hy)
  have HXY := Lib.hid (show onL (n % 16777216) (X ++ Y).data.toList = y by rw [ByteArray.data_append, Array.toList_append, onL_append, hx]; exact hy)
  have HE := Lib.hid (show onL (x % 16777216) (ByteArray.mk #[]).data.toList = x by rw [Nat.mod_eq_of_lt xl]; rfl)
  have HO := Lib.hid (show ofB (X ++ Y) = z by rw [ofB_append, ho]; exact hz)
  have HZ2 := Lib.hid (show onL (o % 16777216) Y.data.toList = z by rw [Nat.mod_eq_of_lt ol]; exact hz)
  have HX2 := Lib.hid hx
  have HO2 := Lib.hid ho
  have XL := Lib.hid xl
  have OL := Lib.hid ol
  have hno : ¬ 9223372036854775807 < X.size + Y.size := by have := HX.out; have := HY.out; omega
  have HS := Lib.hid (show (X ++ Y).size ≤ 1000 by rw [ByteArray.size_append]; have := HX.out; have := HY.out; omega)
  have b24 : decide ((x : Int) < 16777216) = true := by simp; omega
  clear hx hy ho hz xl ol
  refine (on_k n x X _ H0.out.2 hn (by have := HX.out; omega) HX2.out).mono ?_
  rintro e w1 ⟨rfl, hb⟩
  have H1 := Lib.hid (H0.out.call hb)
  clear hb H0
  go_wp2_with fail
  refine (on_k x y Y _ H1.out.2 (by have := XL.out; omega) (by have := HY.out; omega) HY2.out).mono ?_
  rintro e w2 ⟨rfl, hb⟩
  have H2 := Lib.hid (H1.out.call hb)
  clear hb H1
  go_wp2_with fail
  refine (on_k n y (X ++ Y) _ H2.out.2 hn HS.out HXY.out).mono ?_
  rintro e w3 ⟨rfl, hb⟩
  have H3 := Lib.hid (H2.out.call hb)
  clear hb H2
  go_wp2_with fail
  refine (on_k x x ⟨#[]⟩ _ H3.out.2 (by have := XL.out; omega) (by decide) HE.out).mono ?_
  rintro e w4 ⟨rfl, hb⟩
  have H4 := Lib.hid (H3.out.call hb)
  clear hb H3
  go_wp2_with fail
  refine (of_k z (X ++ Y) _ H4.out.2 HS.out HO.out).mono ?_
  rintro e w5 ⟨rfl, hb⟩
  have H5 := Lib.hid (H4.out.call hb)
  clear hb H4
  go_wp2_with fail
  refine (of_k o X _ H5.out.2 (by have := HX.out; omega) HO2.out).mono ?_
  rintro e w6 ⟨rfl, hb⟩
  have H6 := Lib.hid (H5.out.call hb)
  clear hb H5
  go_wp2_with fail
  refine (on_k o z Y _ H6.out.2 (by have := OL.out; omega) (by have := HY.out; omega) HZ2.out).mono ?_
  rintro e w7 ⟨rfl, hb⟩
  have H7 := Lib.hid (H6.out.call hb)
  clear hb H6
  go_wp2_with fail
  refine (fixed_any _ H7.out.2).mono ?_
  rintro e w8 ⟨rfl, hb⟩
  have H8 := Lib.hid (H7.out.call hb)
  clear hb H7
  go_wp2
  go_ret
  exact ⟨rfl, H8.out.1⟩

set_option maxHeartbeats 4000000 in
theorem crcParts_ls (n : Nat) (a b : ByteArray) (w : World) (ht : TabC w) (hn : n < 4294967296) (ha : a.size ≤ 9223372036854775807) (hb : b.size ≤ 9223372036854775807) (ca : 200 < a.size) (cb : b.size ≤ 200) :
    Calls Tryd.prog 4 #[.int .u32 (n : Int), .string a, .string b] w fun e w' => e = .returned (.bool true) ∧ Below w.heap.size w w' := by
  have H0 := Lib.hid (HeldC.start ht)
  clear ht
  go_enter Tryd.func4, Tryd.ntmps4
  go_wp2_with fail
  have hXs : (a.extract 0 200).size = 200 := by rw [ByteArray.size_extract]; omega
  generalize a.extract 0 200 = X at hXs ⊢
  have HX := Lib.hid (show X.size ≤ 200 by omega)
  clear hXs
  have HY := Lib.hid cb
  obtain ⟨Y, rfl⟩ : ∃ Y, Y = b := ⟨_, rfl⟩
  obtain ⟨x, hx⟩ : ∃ x, onL (n % 16777216) X.data.toList = x := ⟨_, rfl⟩
  obtain ⟨y, hy⟩ : ∃ y, onL x Y.data.toList = y := ⟨_, rfl⟩
  obtain ⟨o, ho⟩ : ∃ o, ofB X = o := ⟨_, rfl⟩
  obtain ⟨z, hz⟩ : ∃ z, onL o Y.data.toList = z := ⟨_, rfl⟩
  have xl : x < 16777216 := by rw [← hx]; exact onL_lt _ _ (by omega)
  have ol : o < 16777216 := by rw [← ho]; exact ofB_lt X
  have HY2 := Lib.hid (show onL (x % 16777216) Y.data.toList = y by rw [Nat.mod_eq_of_lt xl]; exact hy)
  have HXY := Lib.hid (show onL (n % 16777216) (X ++ Y).data.toList = y by rw [ByteArray.data_append, Array.toList_append, onL_append, hx]; exact hy)
  have HE := Lib.hid (show onL (x % 16777216) (ByteArray.mk #[]).data.toList = x by rw [Nat.mod_eq_of_lt xl]; rfl)
  have HO := Lib.hid (show ofB (X ++ Y) = z by rw [ofB_append, ho]; exact hz)
  have HZ2 := Lib.hid (show onL (o % 16777216) Y.data.toList = z by rw [Nat.mod_eq_of_lt ol]; exact hz)
  have HX2 := Lib.hid hx
  have HO2 := Lib.hid ho
  have XL := Lib.hid xl
  have OL := Lib.hid ol
  have hno : ¬ 9223372036854775807 < X.size + Y.size := by have := HX.out; have := HY.out; omega
  have HS := Lib.hid (show (X ++ Y).size ≤ 1000 by rw [ByteArray.size_append]; have := HX.out; have := HY.out; omega)
  have b24 : decide ((x : Int) < 16777216) = true := by simp; omega
  clear hx hy ho hz xl ol
  refine (on_k n x X _ H0.out.2 hn (by have := HX.out; omega) HX2.out).mono ?_
  rintro e w1 ⟨rfl, hb⟩
  have H1 := Lib.hid (H0.out.call hb)
  clear hb H0
  go_wp2_with fail
  refine (on_k x y Y _ H1.out.2 (by have := XL.out; omega) (by have := HY.out; omega) HY2.out).mono ?_
  rintro e w2 ⟨rfl, hb⟩
  have H2 := Lib.hid (H1.out.call hb)
  clear hb H1
  go_wp2_with fail
  refine (on_k n y (X ++ Y) _ H2.out.2 hn HS.out HXY.out).mono ?_
  rintro e w3 ⟨rfl, hb⟩
  have H3 := Lib.hid (H2.out.call hb)
  clear hb H2
  go_wp2_with fail
  refine (on_k x x ⟨#[]⟩ _ H3.out.2 (by have := XL.out; omega) (by decide) HE.out).mono ?_
  rintro e w4 ⟨rfl, hb⟩
  have H4 := Lib.hid (H3.out.call hb)
  clear hb H3
  go_wp2_with fail
  refine (of_k z (X ++ Y) _ H4.out.2 HS.out HO.out).mono ?_
  rintro e w5 ⟨rfl, hb⟩
  have H5 := Lib.hid (H4.out.call hb)
  clear hb H4
  go_wp2_with fail
  refine (of_k o X _ H5.out.2 (by have := HX.out; omega) HO2.out).mono ?_
  rintro e w6 ⟨rfl, hb⟩
  have H6 := Lib.hid (H5.out.call hb)
  clear hb H5
  go_wp2_with fail
  refine (on_k o z Y _ H6.out.2 (by have := OL.out; omega) (by have := HY.out; omega) HZ2.out).mono ?_
  rintro e w7 ⟨rfl, hb⟩
  have H7 := Lib.hid (H6.out.call hb)
  clear hb H6
  go_wp2_with fail
  refine (fixed_any _ H7.out.2).mono ?_
  rintro e w8 ⟨rfl, hb⟩
  have H8 := Lib.hid (H7.out.call hb)
  clear hb H7
  go_wp2
  go_ret
  exact ⟨rfl, H8.out.1⟩

set_option maxHeartbeats 4000000 in
theorem crcParts_ll (n : Nat) (a b : ByteArray) (w : World) (ht : TabC w) (hn : n < 4294967296) (ha : a.size ≤ 9223372036854775807) (hb : b.size ≤ 9223372036854775807) (ca : 200 < a.size) (cb : 200 < b.size) :
    Calls Tryd.prog 4 #[.int .u32 (n : Int), .string a, .string b] w fun e w' => e = .returned (.bool true) ∧ Below w.heap.size w w' := by
  have H0 := Lib.hid (HeldC.start ht)
  clear ht
  go_enter Tryd.func4, Tryd.ntmps4
  go_wp2_with fail
  have hXs : (a.extract 0 200).size = 200 := by rw [ByteArray.size_extract]; omega
  generalize a.extract 0 200 = X at hXs ⊢
  have HX := Lib.hid (show X.size ≤ 200 by omega)
  clear hXs
  have hYs : (b.extract 0 200).size = 200 := by rw [ByteArray.size_extract]; omega
  generalize b.extract 0 200 = Y at hYs ⊢
  have HY := Lib.hid (show Y.size ≤ 200 by omega)
  clear hYs
  obtain ⟨x, hx⟩ : ∃ x, onL (n % 16777216) X.data.toList = x := ⟨_, rfl⟩
  obtain ⟨y, hy⟩ : ∃ y, onL x Y.data.toList = y := ⟨_, rfl⟩
  obtain ⟨o, ho⟩ : ∃ o, ofB X = o := ⟨_, rfl⟩
  obtain ⟨z, hz⟩ : ∃ z, onL o Y.data.toList = z := ⟨_, rfl⟩
  have xl : x < 16777216 := by rw [← hx]; exact onL_lt _ _ (by omega)
  have ol : o < 16777216 := by rw [← ho]; exact ofB_lt X
  have HY2 := Lib.hid (show onL (x % 16777216) Y.data.toList = y by rw [Nat.mod_eq_of_lt xl]; exact hy)
  have HXY := Lib.hid (show onL (n % 16777216) (X ++ Y).data.toList = y by rw [ByteArray.data_append, Array.toList_append, onL_append, hx]; exact hy)
  have HE := Lib.hid (show onL (x % 16777216) (ByteArray.mk #[]).data.toList = x by rw [Nat.mod_eq_of_lt xl]; rfl)
  have HO := Lib.hid (show ofB (X ++ Y) = z by rw [ofB_append, ho]; exact hz)
  have HZ2 := Lib.hid (show onL (o % 16777216) Y.data.toList = z by rw [Nat.mod_eq_of_lt ol]; exact hz)
  have HX2 := Lib.hid hx
  have HO2 := Lib.hid ho
  have XL := Lib.hid xl
  have OL := Lib.hid ol
  have hno : ¬ 9223372036854775807 < X.size + Y.size := by have := HX.out; have := HY.out; omega
  have HS := Lib.hid (show (X ++ Y).size ≤ 1000 by rw [ByteArray.size_append]; have := HX.out; have := HY.out; omega)
  have b24 : decide ((x : Int) < 16777216) = true := by simp; omega
  clear hx hy ho hz xl ol
  refine (on_k n x X _ H0.out.2 hn (by have := HX.out; omega) HX2.out).mono ?_
  rintro e w1 ⟨rfl, hb⟩
  have H1 := Lib.hid (H0.out.call hb)
  clear hb H0
  go_wp2_with fail
  refine (on_k x y Y _ H1.out.2 (by have := XL.out; omega) (by have := HY.out; omega) HY2.out).mono ?_
  rintro e w2 ⟨rfl, hb⟩
  have H2 := Lib.hid (H1.out.call hb)
  clear hb H1
  go_wp2_with fail
  refine (on_k n y (X ++ Y) _ H2.out.2 hn HS.out HXY.out).mono ?_
  rintro e w3 ⟨rfl, hb⟩
  have H3 := Lib.hid (H2.out.call hb)
  clear hb H2
  go_wp2_with fail
  refine (on_k x x ⟨#[]⟩ _ H3.out.2 (by have := XL.out; omega) (by decide) HE.out).mono ?_
  rintro e w4 ⟨rfl, hb⟩
  have H4 := Lib.hid (H3.out.call hb)
  clear hb H3
  go_wp2_with fail
  refine (of_k z (X ++ Y) _ H4.out.2 HS.out HO.out).mono ?_
  rintro e w5 ⟨rfl, hb⟩
  have H5 := Lib.hid (H4.out.call hb)
  clear hb H4
  go_wp2_with fail
  refine (of_k o X _ H5.out.2 (by have := HX.out; omega) HO2.out).mono ?_
  rintro e w6 ⟨rfl, hb⟩
  have H6 := Lib.hid (H5.out.call hb)
  clear hb H5
  go_wp2_with fail
  refine (on_k o z Y _ H6.out.2 (by have := OL.out; omega) (by have := HY.out; omega) HZ2.out).mono ?_
  rintro e w7 ⟨rfl, hb⟩
  have H7 := Lib.hid (H6.out.call hb)
  clear hb H6
  go_wp2_with fail
  refine (fixed_any _ H7.out.2).mono ?_
  rintro e w8 ⟨rfl, hb⟩
  have H8 := Lib.hid (H7.out.call hb)
  clear hb H7
  go_wp2
  go_ret
  exact ⟨rfl, H8.out.1⟩

theorem crcParts_walk (n : Nat) (a b : ByteArray) (w : World) (ht : TabC w) (hn : n < 4294967296) (ha : a.size ≤ 9223372036854775807) (hb : b.size ≤ 9223372036854775807) :
    Calls Tryd.prog 4 #[.int .u32 (n : Int), .string a, .string b] w fun e w' => e = .returned (.bool true) ∧ Below w.heap.size w w' := by
  by_cases c : a.size ≤ 200
  · by_cases d : b.size ≤ 200
    · exact crcParts_ss n a b w ht hn ha hb c d
    · exact crcParts_sl n a b w ht hn ha hb c (by omega)
  · by_cases d : b.size ≤ 200
    · exact crcParts_ls n a b w ht hn ha hb (by omega) d
    · exact crcParts_ll n a b w ht hn ha hb (by omega) (by omega)
end Go.Proofs.YtdpdokjoinhjpaaDoor
