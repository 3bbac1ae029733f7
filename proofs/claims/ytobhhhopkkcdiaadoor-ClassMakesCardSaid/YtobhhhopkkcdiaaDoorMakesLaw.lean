/-
  The statement ClassMakes: what its walk comes to.
-/
import Derived.Test.YtobhhhopkkcdiaaDoorRegionB
import Derived.Test.YtobhhhopkkcdiaaDoorRefE
namespace Go.Proofs.YtobhhhopkkcdiaaDoor
open Go.RowKit

theorem one_span (x : Nat) (hx : x < 256) : oneS x = span x (x + 1) := by
  apply ext_bit
  intro k hk
  unfold oneS
  rw [addB_bit _ _ _ hx, span_bit]
  have e : decide (x = k) = (decide (x ≤ k) && decide (k < x + 1)) := by
    rw [Bool.eq_iff_iff]; simp; omega
  simp [hk, e]
theorem all_span : allS = span 0 256 := by decide +kernel
theorem oneM_k (n : Int) (x : Nat) (w : World) (h : n = x) (hx : x < 256) : Calls Tryd.prog 33 #[.int .u8 n] w fun e w' => e = .returned (setV (span x (x + 1))) ∧ Below w.heap.size w w' := by
  have h2 := oneAt_k n x w h hx
  rwa [one_span x hx] at h2
theorem allM_k (w : World) : Calls Tryd.prog 34 #[] w fun e w' => e = .returned (setV (span 0 256)) ∧ Below w.heap.size w w' := by
  have h2 := all_k w
  rwa [all_span] at h2
theorem rrangeM (w : World) : Calls Tryd.prog 32 #[.int .u8 0, .int .u8 255] w fun e w' => e = .returned (.agg (bitsA (span 0 256))) ∧ Below w.heap.size w w' := rrange_any 0 255 w (by decide) (by decide)

theorem fieldSet (a b c d : Value) (w : World) : (Instr.field 25 (.agg #[a, b, c, d]) 0).run Tryd.prog w = .ok (.agg #[a, b, c, d]) w := by kernel_rfl

set_option maxHeartbeats 4000000 in
set_option maxRecDepth 100000 in
theorem classMakes_short (hfix : FixedOk) (s : ByteArray) (x y : Nat) (w : World) (ht : TabOk w) (hx : x < 256) (hy : y < 256) (hs : s.size ≤ 9223372036854775807) (hl : s.size ≤ 300) :
    Calls Tryd.prog 4 #[.string s, .int .u8 (x : Int), .int .u8 (y : Int)] w fun e w' => e = .returned (.bool true) ∧ Below w.heap.size w w' := by
  have HF := Lib.hid hfix
  have H0 := Lib.hid (Held.start ht)
  clear hfix ht
  have fs := fieldSet
  go_enter Tryd.func4, Tryd.ntmps4
  go_wp2_with fail
  have HX := Lib.hid hl
  obtain ⟨X, rfl⟩ : ∃ X, X = s := ⟨_, rfl⟩
  refine (of_any X _ (by have := HX.out; omega)).mono ?_
  rintro e w1 ⟨rfl, hb⟩
  have H1 := Lib.hid (H0.out.call hb)
  clear hb H0
  go_wp2_with fail
  refine (rtext_any X _ (by have := HX.out; omega)).mono ?_
  rintro e w2 ⟨rfl, hb⟩
  have H2 := Lib.hid (H1.out.call hb)
  clear hb H1
  go_wp2_with fail
  refine (rwords_any _ _).mono ?_
  rintro e w3 ⟨rfl, hb⟩
  have H3 := Lib.hid (H2.out.call hb)
  clear hb H2
  go_wp2_with fail
  refine (range_k _ _ x y _ rfl rfl (by omega) (by omega)).mono ?_
  rintro e w4 ⟨rfl, hb⟩
  have H4 := Lib.hid (H3.out.call hb)
  clear hb H3
  go_wp2_with fail
  refine (rrange_any x y _ (by omega) (by omega)).mono ?_
  rintro e w5 ⟨rfl, hb⟩
  have H5 := Lib.hid (H4.out.call hb)
  clear hb H4
  go_wp2_with fail
  refine (rwords_any _ _).mono ?_
  rintro e w6 ⟨rfl, hb⟩
  have H6 := Lib.hid (H5.out.call hb)
  clear hb H5
  go_wp2_with fail
  refine (oneM_k _ x _ rfl (by omega)).mono ?_
  rintro e w7 ⟨rfl, hb⟩
  have H7 := Lib.hid (H6.out.call hb)
  clear hb H6
  go_wp2_with fail
  refine (rrange_any x x _ (by omega) (by omega)).mono ?_
  rintro e w8 ⟨rfl, hb⟩
  have H8 := Lib.hid (H7.out.call hb)
  clear hb H7
  go_wp2_with fail
  refine (rwords_any _ _).mono ?_
  rintro e w9 ⟨rfl, hb⟩
  have H9 := Lib.hid (H8.out.call hb)
  clear hb H8
  go_wp2_with fail
  refine (allM_k _).mono ?_
  rintro e w10 ⟨rfl, hb⟩
  have H10 := Lib.hid (H9.out.call hb)
  clear hb H9
  go_wp2_with fail
  refine (rrangeM _).mono ?_
  rintro e w11 ⟨rfl, hb⟩
  have H11 := Lib.hid (H10.out.call hb)
  clear hb H10
  go_wp2_with fail
  refine (rwords_any _ _).mono ?_
  rintro e w12 ⟨rfl, hb⟩
  have H12 := Lib.hid (H11.out.call hb)
  clear hb H11
  go_wp2_with fail
  refine (H12.out.fix HF.out).mono ?_
  rintro e w13 ⟨rfl, hb⟩
  have H13 := Lib.hid (H12.out.call hb)
  clear hb H12
  go_wp2
  go_ret
  exact ⟨rfl, H13.out.2.1⟩

set_option maxHeartbeats 4000000 in
set_option maxRecDepth 100000 in
theorem classMakes_long (hfix : FixedOk) (s : ByteArray) (x y : Nat) (w : World) (ht : TabOk w) (hx : x < 256) (hy : y < 256) (hs : s.size ≤ 9223372036854775807) (hl : 300 < s.size) :
    Calls Tryd.prog 4 #[.string s, .int .u8 (x : Int), .int .u8 (y : Int)] w fun e w' => e = .returned (.bool true) ∧ Below w.heap.size w w' := by
  have HF := Lib.hid hfix
  have H0 := Lib.hid (Held.start ht)
  clear hfix ht
  have fs := fieldSet
  go_enter Tryd.func4, Tryd.ntmps4
  go_wp2_with fail
  have hXs : (s.extract 0 300).size = 300 := by rw [ByteArray.size_extract]; omega
  generalize s.extract 0 300 = X at hXs ⊢
  have HX := Lib.hid (show X.size ≤ 300 by omega)
  clear hXs
  refine (of_any X _ (by have := HX.out; omega)).mono ?_
  rintro e w1 ⟨rfl, hb⟩
  have H1 := Lib.hid (H0.out.call hb)
  clear hb H0
  go_wp2_with fail
  refine (rtext_any X _ (by have := HX.out; omega)).mono ?_
  rintro e w2 ⟨rfl, hb⟩
  have H2 := Lib.hid (H1.out.call hb)
  clear hb H1
  go_wp2_with fail
  refine (rwords_any _ _).mono ?_
  rintro e w3 ⟨rfl, hb⟩
  have H3 := Lib.hid (H2.out.call hb)
  clear hb H2
  go_wp2_with fail
  refine (range_k _ _ x y _ rfl rfl (by omega) (by omega)).mono ?_
  rintro e w4 ⟨rfl, hb⟩
  have H4 := Lib.hid (H3.out.call hb)
  clear hb H3
  go_wp2_with fail
  refine (rrange_any x y _ (by omega) (by omega)).mono ?_
  rintro e w5 ⟨rfl, hb⟩
  have H5 := Lib.hid (H4.out.call hb)
  clear hb H4
  go_wp2_with fail
  refine (rwords_any _ _).mono ?_
  rintro e w6 ⟨rfl, hb⟩
  have H6 := Lib.hid (H5.out.call hb)
  clear hb H5
  go_wp2_with fail
  refine (oneM_k _ x _ rfl (by omega)).mono ?_
  rintro e w7 ⟨rfl, hb⟩
  have H7 := Lib.hid (H6.out.call hb)
  clear hb H6
  go_wp2_with fail
  refine (rrange_any x x _ (by omega) (by omega)).mono ?_
  rintro e w8 ⟨rfl, hb⟩
  have H8 := Lib.hid (H7.out.call hb)
  clear hb H7
  go_wp2_with fail
  refine (rwords_any _ _).mono ?_
  rintro e w9 ⟨rfl, hb⟩
  have H9 := Lib.hid (H8.out.call hb)
  clear hb H8
  go_wp2_with fail
  refine (allM_k _).mono ?_
  rintro e w10 ⟨rfl, hb⟩
  have H10 := Lib.hid (H9.out.call hb)
  clear hb H9
  go_wp2_with fail
  refine (rrangeM _).mono ?_
  rintro e w11 ⟨rfl, hb⟩
  have H11 := Lib.hid (H10.out.call hb)
  clear hb H10
  go_wp2_with fail
  refine (rwords_any _ _).mono ?_
  rintro e w12 ⟨rfl, hb⟩
  have H12 := Lib.hid (H11.out.call hb)
  clear hb H11
  go_wp2_with fail
  refine (H12.out.fix HF.out).mono ?_
  rintro e w13 ⟨rfl, hb⟩
  have H13 := Lib.hid (H12.out.call hb)
  clear hb H12
  go_wp2
  go_ret
  exact ⟨rfl, H13.out.2.1⟩

theorem classMakes_walk (hfix : FixedOk) (s : ByteArray) (x y : Nat) (w : World) (ht : TabOk w) (hs : s.size ≤ 9223372036854775807) (hx : x < 256) (hy : y < 256) :
    Calls Tryd.prog 4 #[.string s, .int .u8 (x : Int), .int .u8 (y : Int)] w fun e w' => e = .returned (.bool true) ∧ Below w.heap.size w w' := by
  by_cases h : s.size ≤ 300
  · exact classMakes_short hfix s x y w ht hx hy hs h
  · exact classMakes_long hfix s x y w ht hx hy hs (by omega)
end Go.Proofs.YtobhhhopkkcdiaaDoor
