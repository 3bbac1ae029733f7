/-
  The statement CrcFew: what its walk comes to.
-/
import Derived.Test.YtdpdokjoinhjpaaDoorCrcFixed
namespace Go.Proofs.YtdpdokjoinhjpaaDoor
open Go.RowKit


set_option maxHeartbeats 4000000 in
theorem crcFew_s (s : ByteArray) (w : World) (ht : TabC w)  (hs : s.size ≤ 9223372036854775807) (cs : s.size ≤ 200) :
    Calls Tryd.prog 8 #[.string s] w fun e w' => e = .returned (.bool true) ∧ Below w.heap.size w w' := by
  have H0 := Lib.hid (HeldC.start ht)
  clear ht
  go_enter Tryd.func8, Tryd.ntmps8
  go_wp2_with fail
  have HX := Lib.hid cs
  obtain ⟨X, rfl⟩ : ∃ X, X = s := ⟨_, rfl⟩
  by_cases h3 : X.size < 3
  · obtain ⟨e1, e2⟩ := openB_short h3
    have E1 := Lib.hid e1
    have E2 := Lib.hid e2
    have z0 := str_eq (rfl : (ByteArray.mk #[]) = ⟨#[]⟩)
    clear e1 e2
    refine (open_k X ⟨#[]⟩ 2 _ H0.out.2 (by have := HX.out; omega) E1.out E2.out).mono ?_
    rintro e w1 ⟨rfl, hb⟩
    have H1 := Lib.hid (H0.out.call hb)
    clear hb H0
    go_wp2_with fail
    refine (fixed_any _ H1.out.2).mono ?_
    rintro e w2 ⟨rfl, hb⟩
    have H2 := Lib.hid (H1.out.call hb)
    clear hb H1
    go_wp2
    go_ret
    exact ⟨rfl, H2.out.1⟩
  · by_cases hz : ofB X = 0
    · obtain ⟨e1, e2, e3⟩ := open_zero X (by omega) hz
      have E1 := Lib.hid e1
      have E2 := Lib.hid e2
      have E3 := Lib.hid e3
      have HZ := Lib.hid hz
      have ZS := Lib.hid (show (X.extract 0 (X.size - 3)).size = X.size - 3 by rw [ByteArray.size_extract]; omega)
      have z0 := str_eq (rfl : X = X)
      clear e1 e2 e3 hz
      generalize X.extract 0 (X.size - 3) = Z at E1 E3 ZS
      have zp : (Z.size : Int) = (X.size : Int) - 3 := by have := ZS.out; omega
      have xw : wrap64 ((X.size : Int) - 3) = (X.size : Int) - 3 := by have := HX.out; unfold wrap64; omega
      refine (open_k X Z 0 _ H0.out.2 (by have := HX.out; omega) E1.out E2.out).mono ?_
      rintro e w1 ⟨rfl, hb⟩
      have H1 := Lib.hid (H0.out.call hb)
      clear hb H0
      go_wp2_with fail
      refine (seal_k X Z _ H1.out.2 (by have := HX.out; have := ZS.out; omega) E3.out).mono ?_
      rintro e w2 ⟨rfl, hb⟩
      have H2 := Lib.hid (H1.out.call hb)
      clear hb H1
      go_wp2_with fail
      refine (of_k 0 X _ H2.out.2 (by have := HX.out; omega) HZ.out).mono ?_
      rintro e w3 ⟨rfl, hb⟩
      have H3 := Lib.hid (H2.out.call hb)
      clear hb H2
      go_wp2_with fail
      refine (fixed_any _ H3.out.2).mono ?_
      rintro e w4 ⟨rfl, hb⟩
      have H4 := Lib.hid (H3.out.call hb)
      clear hb H3
      go_wp2
      go_ret
      exact ⟨rfl, H4.out.1⟩
    · obtain ⟨e1, e2⟩ := open_some X (by omega) hz
      have E1 := Lib.hid e1
      have E2 := Lib.hid e2
      have z0 := str_eq (rfl : (ByteArray.mk #[]) = ⟨#[]⟩)
      obtain ⟨q, hq⟩ : ∃ q, ofB X = q := ⟨_, rfl⟩
      have HQ := Lib.hid hq
      have qb : ((q : Int) != 0) = true := by rw [← hq]; simp; omega
      clear e1 e2 hz hq
      refine (open_k X ⟨#[]⟩ 8 _ H0.out.2 (by have := HX.out; omega) E1.out E2.out).mono ?_
      rintro e w1 ⟨rfl, hb⟩
      have H1 := Lib.hid (H0.out.call hb)
      clear hb H0
      go_wp2_with fail
      refine (of_k q X _ H1.out.2 (by have := HX.out; omega) HQ.out).mono ?_
      rintro e w2 ⟨rfl, hb⟩
      have H2 := Lib.hid (H1.out.call hb)
      clear hb H1
      go_wp2_with fail
      refine (fixed_any _ H2.out.2).mono ?_
      rintro e w3 ⟨rfl, hb⟩
      have H3 := Lib.hid (H2.out.call hb)
      clear hb H2
      go_wp2
      go_ret
      exact ⟨rfl, H3.out.1⟩

set_option maxHeartbeats 4000000 in
theorem crcFew_l (s : ByteArray) (w : World) (ht : TabC w)  (hs : s.size ≤ 9223372036854775807) (cs : 200 < s.size) :
    Calls Tryd.prog 8 #[.string s] w fun e w' => e = .returned (.bool true) ∧ Below w.heap.size w w' := by
  have H0 := Lib.hid (HeldC.start ht)
  clear ht
  go_enter Tryd.func8, Tryd.ntmps8
  go_wp2_with fail
  have hXs : (s.extract 0 200).size = 200 := by rw [ByteArray.size_extract]; omega
  generalize s.extract 0 200 = X at hXs ⊢
  have HX := Lib.hid (show X.size ≤ 200 by omega)
  clear hXs
  by_cases h3 : X.size < 3
  · obtain ⟨e1, e2⟩ := openB_short h3
    have E1 := Lib.hid e1
    have E2 := Lib.hid e2
    have z0 := str_eq (rfl : (ByteArray.mk #[]) = ⟨#[]⟩)
    clear e1 e2
    refine (open_k X ⟨#[]⟩ 2 _ H0.out.2 (by have := HX.out; omega) E1.out E2.out).mono ?_
    rintro e w1 ⟨rfl, hb⟩
    have H1 := Lib.hid (H0.out.call hb)
    clear hb H0
    go_wp2_with fail
    refine (fixed_any _ H1.out.2).mono ?_
    rintro e w2 ⟨rfl, hb⟩
    have H2 := Lib.hid (H1.out.call hb)
    clear hb H1
    go_wp2
    go_ret
    exact ⟨rfl, H2.out.1⟩
  · by_cases hz : ofB X = 0
    · obtain ⟨e1, e2, e3⟩ := open_zero X (by omega) hz
      have E1 := Lib.hid e1
      have E2 := Lib.hid e2
      have E3 := Lib.hid e3
      have HZ := Lib.hid hz
      have ZS := Lib.hid (show (X.extract 0 (X.size - 3)).size = X.size - 3 by rw [ByteArray.size_extract]; omega)
      have z0 := str_eq (rfl : X = X)
      clear e1 e2 e3 hz
      generalize X.extract 0 (X.size - 3) = Z at E1 E3 ZS
      have zp : (Z.size : Int) = (X.size : Int) - 3 := by have := ZS.out; omega
      have xw : wrap64 ((X.size : Int) - 3) = (X.size : Int) - 3 := by have := HX.out; unfold wrap64; omega
      refine (open_k X Z 0 _ H0.out.2 (by have := HX.out; omega) E1.out E2.out).mono ?_
      rintro e w1 ⟨rfl, hb⟩
      have H1 := Lib.hid (H0.out.call hb)
      clear hb H0
      go_wp2_with fail
      refine (seal_k X Z _ H1.out.2 (by have := HX.out; have := ZS.out; omega) E3.out).mono ?_
      rintro e w2 ⟨rfl, hb⟩
      have H2 := Lib.hid (H1.out.call hb)
      clear hb H1
      go_wp2_with fail
      refine (of_k 0 X _ H2.out.2 (by have := HX.out; omega) HZ.out).mono ?_
      rintro e w3 ⟨rfl, hb⟩
      have H3 := Lib.hid (H2.out.call hb)
      clear hb H2
      go_wp2_with fail
      refine (fixed_any _ H3.out.2).mono ?_
      rintro e w4 ⟨rfl, hb⟩
      have H4 := Lib.hid (H3.out.call hb)
      clear hb H3
      go_wp2
      go_ret
      exact ⟨rfl, H4.out.1⟩
    · obtain ⟨e1, e2⟩ := open_some X (by omega) hz
      have E1 := Lib.hid e1
      have E2 := Lib.hid e2
      have z0 := str_eq (rfl : (ByteArray.mk #[]) = ⟨#[]⟩)
      obtain ⟨q, hq⟩ : ∃ q, ofB X = q := ⟨_, rfl⟩
      have HQ := Lib.hid hq
      have qb : ((q : Int) != 0) = true := by rw [← hq]; simp; omega
      clear e1 e2 hz hq
      refine (open_k X ⟨#[]⟩ 8 _ H0.out.2 (by have := HX.out; omega) E1.out E2.out).mono ?_
      rintro e w1 ⟨rfl, hb⟩
      have H1 := Lib.hid (H0.out.call hb)
      clear hb H0
      go_wp2_with fail
      refine (of_k q X _ H1.out.2 (by have := HX.out; omega) HQ.out).mono ?_
      rintro e w2 ⟨rfl, hb⟩
      have H2 := Lib.hid (H1.out.call hb)
      clear hb H1
      go_wp2_with fail
      refine (fixed_any _ H2.out.2).mono ?_
      rintro e w3 ⟨rfl, hb⟩
      have H3 := Lib.hid (H2.out.call hb)
      clear hb H2
      go_wp2
      go_ret
      exact ⟨rfl, H3.out.1⟩

theorem crcFew_walk (s : ByteArray) (w : World) (ht : TabC w)  (hs : s.size ≤ 9223372036854775807) :
    Calls Tryd.prog 8 #[.string s] w fun e w' => e = .returned (.bool true) ∧ Below w.heap.size w w' := by
  by_cases c : s.size ≤ 200
  · exact crcFew_s s w ht hs c
  · exact crcFew_l s w ht hs (by omega)
end Go.Proofs.YtdpdokjoinhjpaaDoor
