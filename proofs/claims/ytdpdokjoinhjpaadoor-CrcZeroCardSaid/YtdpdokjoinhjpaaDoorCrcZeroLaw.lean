/-
  The statement CrcZero: what its walk comes to.
-/
import Derived.Test.YtdpdokjoinhjpaaDoorCrcBytes
namespace Go.Proofs.YtdpdokjoinhjpaaDoor
open Go.RowKit


set_option maxHeartbeats 4000000 in
theorem crcZero_s (s : ByteArray) (x y : Nat) (w : World) (ht : TabC w) (hx : x < 256) (hy : y < 256) (hs : s.size ≤ 9223372036854775807) (cs : s.size ≤ 200) :
    Calls Tryd.prog 7 #[.string s, .int .u8 (x : Int), .int .u8 (y : Int)] w fun e w' => e = .returned (.bool true) ∧ Below w.heap.size w w' := by
  have H0 := Lib.hid (HeldC.start ht)
  clear ht
  go_enter Tryd.func7, Tryd.ntmps7
  go_wp2_with fail
  have HX := Lib.hid cs
  obtain ⟨X, rfl⟩ : ∃ X, X = s := ⟨_, rfl⟩
  obtain ⟨T, hT⟩ : ∃ T, sealB X = T := ⟨_, rfl⟩
  have TS := Lib.hid (show T.size = X.size + 3 by rw [← hT, sealB_size])
  have TX := Lib.hid (show T.extract 0 X.size = X by rw [← hT, sealB_cut])
  have TZ := Lib.hid (show ofB T = 0 by rw [← hT, sealB_of])
  have TO := Lib.hid (show openB T = X ∧ openE T = 0 by rw [← hT]; exact open_seal X)
  have HT := Lib.hid hT
  clear hT
  have xs : (X.size : Int) ≤ 200 := by have := HX.out; omega
  have tn : (T.size : Int) = (X.size : Int) + 3 := by have := TS.out; omega
  have z0 := str_eq (rfl : X = X)
  have tx : T.extract 0 X.size = X := TX.out
  refine (seal_k T X _ H0.out.2 (by have := HX.out; omega) HT.out).mono ?_
  rintro e w1 ⟨rfl, hb⟩
  have H1 := Lib.hid (H0.out.call hb)
  clear hb H0
  go_wp2_with fail
  refine (of_k 0 T _ H1.out.2 (by have := HX.out; have := TS.out; omega) TZ.out).mono ?_
  rintro e w2 ⟨rfl, hb⟩
  have H2 := Lib.hid (H1.out.call hb)
  clear hb H1
  have hi : x % (X.size + 3) < T.size := by rw [TS.out]; exact Nat.mod_lt _ (by omega)
  obtain ⟨c, hc1, hc2⟩ := spoil_ne (T[x % (X.size + 3)]).toNat y (UInt8.toNat_lt _)
  obtain ⟨cp, w3, cv, cell, fr, cb, hb3⟩ := bytes_spoil w2 T (x % (X.size + 3)) hi c _ rfl
  have H3 := Lib.hid (H2.out.call hb3)
  have hne := of_set T (x % (X.size + 3)) hi c (fun e => hc2 (by rw [e]))
  rw [TZ.out] at hne
  have US := Lib.hid (show (ByteArray.mk (T.data.set (x % (X.size + 3)) c hi)).size = X.size + 3 from (Array.size_set hi).trans TS.out)
  generalize ByteArray.mk (T.data.set (x % (X.size + 3)) c hi) = U at cb US hne
  generalize (T[x % (X.size + 3)]).toNat = bb at hc1 hc2 cell
  have m0 : (0 : Int) ≤ (x : Int) % ((X.size : Int) + 3) := Int.emod_nonneg _ (by omega)
  have m1 : (x : Int) % ((X.size : Int) + 3) < (X.size : Int) + 3 := Int.emod_lt_of_pos _ (by omega)
  have HC := Lib.hid hc2
  have NE := Lib.hid hne
  have XB := Lib.hid hx
  have YB := Lib.hid hy
  clear hb3 H2 hc2 hi hne
  obtain ⟨q, hq⟩ : ∃ q, ofB U = q := ⟨_, rfl⟩
  have HQ := Lib.hid hq
  have qb : ((q : Int) != 0) = true := by rw [← hq]; have := NE.out; simp; omega
  clear hq
  go_wp2_with fail
  refine (of_k q U _ H3.out.2 (by have := HX.out; have := US.out; omega) HQ.out).mono ?_
  rintro e w4 ⟨rfl, hb⟩
  have H4 := Lib.hid (H3.out.call hb)
  clear hb H3
  go_wp2_with fail
  refine (fixed_any _ H4.out.2).mono ?_
  rintro e w5 ⟨rfl, hb⟩
  have H5 := Lib.hid (H4.out.call hb)
  clear hb H4
  go_wp2
  go_ret
  exact ⟨rfl, H5.out.1⟩

set_option maxHeartbeats 4000000 in
theorem crcZero_l (s : ByteArray) (x y : Nat) (w : World) (ht : TabC w) (hx : x < 256) (hy : y < 256) (hs : s.size ≤ 9223372036854775807) (cs : 200 < s.size) :
    Calls Tryd.prog 7 #[.string s, .int .u8 (x : Int), .int .u8 (y : Int)] w fun e w' => e = .returned (.bool true) ∧ Below w.heap.size w w' := by
  have H0 := Lib.hid (HeldC.start ht)
  clear ht
  go_enter Tryd.func7, Tryd.ntmps7
  go_wp2_with fail
  have hXs : (s.extract 0 200).size = 200 := by rw [ByteArray.size_extract]; omega
  generalize s.extract 0 200 = X at hXs ⊢
  have HX := Lib.hid (show X.size ≤ 200 by omega)
  clear hXs
  obtain ⟨T, hT⟩ : ∃ T, sealB X = T := ⟨_, rfl⟩
  have TS := Lib.hid (show T.size = X.size + 3 by rw [← hT, sealB_size])
  have TX := Lib.hid (show T.extract 0 X.size = X by rw [← hT, sealB_cut])
  have TZ := Lib.hid (show ofB T = 0 by rw [← hT, sealB_of])
  have TO := Lib.hid (show openB T = X ∧ openE T = 0 by rw [← hT]; exact open_seal X)
  have HT := Lib.hid hT
  clear hT
  have xs : (X.size : Int) ≤ 200 := by have := HX.out; omega
  have tn : (T.size : Int) = (X.size : Int) + 3 := by have := TS.out; omega
  have z0 := str_eq (rfl : X = X)
  have tx : T.extract 0 X.size = X := TX.out
  refine (seal_k T X _ H0.out.2 (by have := HX.out; omega) HT.out).mono ?_
  rintro e w1 ⟨rfl, hb⟩
  have H1 := Lib.hid (H0.out.call hb)
  clear hb H0
  go_wp2_with fail
  refine (of_k 0 T _ H1.out.2 (by have := HX.out; have := TS.out; omega) TZ.out).mono ?_
  rintro e w2 ⟨rfl, hb⟩
  have H2 := Lib.hid (H1.out.call hb)
  clear hb H1
  have hi : x % (X.size + 3) < T.size := by rw [TS.out]; exact Nat.mod_lt _ (by omega)
  obtain ⟨c, hc1, hc2⟩ := spoil_ne (T[x % (X.size + 3)]).toNat y (UInt8.toNat_lt _)
  obtain ⟨cp, w3, cv, cell, fr, cb, hb3⟩ := bytes_spoil w2 T (x % (X.size + 3)) hi c _ rfl
  have H3 := Lib.hid (H2.out.call hb3)
  have hne := of_set T (x % (X.size + 3)) hi c (fun e => hc2 (by rw [e]))
  rw [TZ.out] at hne
  have US := Lib.hid (show (ByteArray.mk (T.data.set (x % (X.size + 3)) c hi)).size = X.size + 3 from (Array.size_set hi).trans TS.out)
  generalize ByteArray.mk (T.data.set (x % (X.size + 3)) c hi) = U at cb US hne
  generalize (T[x % (X.size + 3)]).toNat = bb at hc1 hc2 cell
  have m0 : (0 : Int) ≤ (x : Int) % ((X.size : Int) + 3) := Int.emod_nonneg _ (by omega)
  have m1 : (x : Int) % ((X.size : Int) + 3) < (X.size : Int) + 3 := Int.emod_lt_of_pos _ (by omega)
  have HC := Lib.hid hc2
  have NE := Lib.hid hne
  have XB := Lib.hid hx
  have YB := Lib.hid hy
  clear hb3 H2 hc2 hi hne
  obtain ⟨q, hq⟩ : ∃ q, ofB U = q := ⟨_, rfl⟩
  have HQ := Lib.hid hq
  have qb : ((q : Int) != 0) = true := by rw [← hq]; have := NE.out; simp; omega
  clear hq
  go_wp2_with fail
  refine (of_k q U _ H3.out.2 (by have := HX.out; have := US.out; omega) HQ.out).mono ?_
  rintro e w4 ⟨rfl, hb⟩
  have H4 := Lib.hid (H3.out.call hb)
  clear hb H3
  go_wp2_with fail
  refine (fixed_any _ H4.out.2).mono ?_
  rintro e w5 ⟨rfl, hb⟩
  have H5 := Lib.hid (H4.out.call hb)
  clear hb H4
  go_wp2
  go_ret
  exact ⟨rfl, H5.out.1⟩

theorem crcZero_walk (s : ByteArray) (x y : Nat) (w : World) (ht : TabC w) (hx : x < 256) (hy : y < 256) (hs : s.size ≤ 9223372036854775807) :
    Calls Tryd.prog 7 #[.string s, .int .u8 (x : Int), .int .u8 (y : Int)] w fun e w' => e = .returned (.bool true) ∧ Below w.heap.size w w' := by
  by_cases c : s.size ≤ 200
  · exact crcZero_s s x y w ht hx hy hs c
  · exact crcZero_l s x y w ht hx hy hs (by omega)
end Go.Proofs.YtdpdokjoinhjpaaDoor
