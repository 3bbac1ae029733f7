/-
  What the calls of package crc do: Of, On, Seal, Open.
-/
import Derived.Test.YtdpdokjoinhjpaaDoorCrcRef
import Derived.Test.YtdpdokjoinhjpaaDoorCrcHalf
import Derived.Test.YtdpdokjoinhjpaaDoorTake
namespace Go.Proofs.YtdpdokjoinhjpaaDoor
open Go.RowKit

/-- What strings.Clone does: the same bytes, and nothing that was there has turned. (Said here, shown in CrcShelf: the library's contract is imported there alone, since its imports make the walks slow.) -/
def CloneOk : Prop := ∀ (s : ByteArray) (w : World), s.size ≤ 281474976710656 → Calls Tryd.prog 19 #[.string s] w fun e w' => e = .returned (.string s) ∧ Below w.heap.size w w'

/-- The table is there. -/
def TabC (w : World) : Prop := CloneOk ∧ ∀ j, j < 16 → w.cell? ⟨0, j, none⟩ = some (.int .u32 ((tabN.getD j 0 : Nat) : Int))
theorem TabC.lt {w : World} (h : TabC w) : 0 < w.heap.size := block_lt_of_cell (h.2 0 (by decide))
theorem TabC.call {w w' : World} (h : TabC w) (hb : Below w.heap.size w w') : TabC w' := ⟨h.1, fun j hj => (hb.cell (p := ⟨0, j, none⟩) h.lt).trans (h.2 j hj)⟩

theorem half_bits (n t : Nat) (hn : n < 16777216) (ht : t < 16777216) : bits BinOp.xor IntKind.u32 (bits BinOp.and IntKind.u32 ((n : Int) * 16) 16777215) (t : Int) = ((n * 16 % 16777216 ^^^ t : Nat) : Int) := by
  have h1 := u32_and_nat (n * 16) 16777215 (by omega) (by decide)
  rw [Int.natCast_mul] at h1
  have h2 : n * 16 &&& 16777215 = n * 16 % 16777216 := by
    have := Nat.and_two_pow_sub_one_eq_mod (n * 16) 24
    simpa using this
  rw [h2] at h1
  have h3 := u32_xor_nat (n * 16 % 16777216) t (by omega) (by omega)
  rw [← h3, ← h1]
  rfl

theorem half_ix (n h : Nat) (hn : n < 16777216) (hh : h < 16) : bits BinOp.xor IntKind.u32 ((n : Int) / 1048576) (h : Int) = ((n / 1048576 ^^^ h : Nat) : Int) := by
  rw [← u32_xor_nat (n / 1048576) h (by omega) (by omega)]
  rfl

set_option maxHeartbeats 1000000 in
theorem half_any (n h : Nat) (w : World) (ht : TabC w) (hn : n < 16777216) (hh : h < 16) :
    Calls Tryd.prog 20 #[.int .u32 (n : Int), .int .u8 (h : Int)] w fun e w' => e = .returned (.int .u32 (hf n h : Int)) ∧ w = w' := by
  have hj := hix_lt n h hn hh
  have hc := ht.2 (n / 1048576 ^^^ h) hj
  have HT := Lib.hid (tabN_lt (n / 1048576 ^^^ h) hj)
  have HS := Lib.hid (hf_tab n h hn hh)
  have hx := half_ix n h hn hh
  obtain ⟨t, hte⟩ : ∃ t, t = tabN.getD (n / 1048576 ^^^ h) 0 := ⟨_, rfl⟩
  rw [← hte] at hc HT HS
  clear hte ht
  obtain ⟨j, hje⟩ : ∃ j, j = n / 1048576 ^^^ h := ⟨_, rfl⟩
  rw [← hje] at hc hx hj
  clear hje
  have j0 : (0 : Int) ≤ j := by omega
  have j1 : (j : Int) < 16 := by omega
  have n0 : (0 : Int) ≤ n := by omega
  have n1 : (n : Int) < 16777216 := by omega
  have h0 : (0 : Int) ≤ h := by omega
  have h1 : (h : Int) < 16 := by omega
  go_enter Tryd.func20, Tryd.ntmps20
  go_wp2
  go_ret
  exact ⟨congrArg (fun n => Ending.returned (.int .u32 n)) ((half_bits n t hn HT.out).trans (by rw [HS.out])), rfl⟩

set_option maxHeartbeats 2000000 in
theorem on_any (n : Nat) (s : ByteArray) (w : World) (ht : TabC w) (hn : n < 4294967296) (hlen : s.size ≤ 9223372036854775807) :
    Calls Tryd.prog 13 #[.int .u32 (n : Int), .string s] w fun e w' => e = .returned (.int .u32 ((onL (n % 16777216) s.data.toList : Nat) : Int)) ∧ Below w.heap.size w w' := by
  have hm : bits BinOp.and IntKind.u32 (n : Int) 16777215 = ((n % 16777216 : Nat) : Int) := by
    have h1 := u32_and_nat n 16777215 hn (by decide)
    have h2 : n &&& 16777215 = n % 16777216 := by
      have := Nat.and_two_pow_sub_one_eq_mod n 24
      simpa using this
    rw [h2] at h1
    exact h1
  obtain ⟨n0, hn0⟩ : ∃ n0, n0 = n % 16777216 := ⟨_, rfl⟩
  have HN0 := Lib.hid (show n0 < 16777216 by omega)
  rw [← hn0] at hm ⊢
  have HT := Lib.hid ht
  clear ht hn0 hn
  go_enter Tryd.func13, Tryd.ntmps13
  go_wp2
  go_loop [0, 10] (fun a i => ∃ k : Nat, i = .int .i64 k ∧ k ≤ s.size ∧ a = .int .u32 ((onL n0 (s.data.toList.take k) : Nat) : Int)) (fun _ i => s.size - (intOf i).toNat)
  case atStart => exact ⟨0, rfl, Nat.zero_le _, by simp [onL_nil]⟩
  case round =>
    obtain ⟨k, rfl, hk, rfl⟩ := hrel
    by_cases hlt : k < s.size
    · have hc : (s[k].toNat : Int) < 256 := by have := s[k].toNat_lt; omega
      have HK := Lib.hid (take_succ' s k hlt)
      have kk : (0 : Int) ≤ k := by omega
      have HN := Lib.hid (onL_lt (s.data.toList.take k) n0 HN0.out)
      obtain ⟨m, hme⟩ : ∃ m, m = onL n0 (s.data.toList.take k) := ⟨_, rfl⟩
      rw [← hme] at HN ⊢
      have HM := Lib.hid hme
      clear hme hm
      have hx : bits BinOp.and IntKind.u8 (s[k].toNat : Int) 15 = ((s[k].toNat % 16 : Nat) : Int) := by
        have h1 := u8_and_nat s[k].toNat 15 s[k].toNat_lt (by decide)
        have h2 : s[k].toNat &&& 15 = s[k].toNat % 16 := by
          have := Nat.and_two_pow_sub_one_eq_mod s[k].toNat 4
          simpa using this
        rw [h2] at h1
        exact h1
      have HB := Lib.hid (s[k].toNat_lt)
      have HS := Lib.hid (stB_hf m s[k].toNat HN.out s[k].toNat_lt)
      have c1 := half_any m (s[k].toNat / 16) w HT.out HN.out (by have := HB.out; omega)
      rw [show ((s[k].toNat / 16 : Nat) : Int) = (s[k].toNat : Int) / 16 from rfl] at c1
      have C1 := Lib.hid c1
      have C2 := Lib.hid (half_any (hf m (s[k].toNat / 16)) (s[k].toNat % 16) w HT.out (hf_lt m _ HN.out (by have := HB.out; omega)) (by omega))
      clear c1
      go_wp2_with fail
      refine C1.out.mono ?_
      rintro e w1 ⟨rfl, rfl⟩
      go_wp2_with fail
      refine C2.out.mono ?_
      rintro e w1 ⟨rfl, rfl⟩
      go_wp2
      go_round
      case rel => exact ⟨k + 1, by go_num, by omega, by rw [HK.out, onL_snoc, ← HM.out, HS.out]⟩
      case measure => simp [intOf]; omega
    · obtain rfl : k = s.size := by omega
      have e : s.data.toList.take s.size = s.data.toList := List.take_of_length_le (by rw [Array.length_toList]; exact Nat.le_refl _)
      rw [e]
      clear e
      go_wp2
      go_ret
      exact ⟨rfl, by go_grown⟩

theorem of_any (s : ByteArray) (w : World) (ht : TabC w) (hlen : s.size ≤ 9223372036854775807) :
    Calls Tryd.prog 11 #[.string s] w fun e w' => e = .returned (.int .u32 (ofB s : Int)) ∧ Below w.heap.size w w' := by
  go_enter Tryd.func11, Tryd.ntmps11
  go_wp2_with fail
  refine (on_any 11994318 s _ ht (by decide) hlen).mono ?_
  rintro e w1 ⟨rfl, hb⟩
  have HB := Lib.hid hb
  clear hb ht
  go_wp2
  go_ret
  exact ⟨rfl, HB.out⟩

/-- The three bytes of a text's sum. -/
def tailB (s : ByteArray) : ByteArray := ⟨(tail3 (ofB s)).toArray⟩
theorem tailB_size (s : ByteArray) : (tailB s).size = 3 := rfl
theorem sealB_tail (s : ByteArray) : sealB s = s ++ tailB s := rfl
theorem seal_tail (s : ByteArray) (h : 3 ≤ s.size) : sealB (s.extract 0 (s.size - 3)) = s ↔ s.extract (s.size - 3) s.size = tailB (s.extract 0 (s.size - 3)) := by
  have e : s = s.extract 0 (s.size - 3) ++ s.extract (s.size - 3) s.size := by
    rw [ByteArray.extract_append_extract, Nat.min_eq_left (by omega), Nat.max_eq_right (by omega), ByteArray.extract_zero_size]
  rw [sealB_tail]
  generalize s.extract 0 (s.size - 3) = x at e
  generalize s.extract (s.size - 3) s.size = t at e
  subst e
  constructor
  · intro h2
    have h3 := congrArg (fun b : ByteArray => b.data.toList) h2
    simp only [ByteArray.data_append, Array.toList_append] at h3
    have h4 := List.append_cancel_left h3
    exact ByteArray.ext (Array.ext' h4.symm)
  · intro h2
    rw [h2]

set_option maxHeartbeats 1000000 in
theorem sum_any (s : ByteArray) (w : World) (ht : TabC w) (hlen : s.size ≤ 9223372036854775000) :
    Calls Tryd.prog 18 #[.string s] w fun e w' => e = .returned (.string (tailB s)) ∧ Below w.heap.size w w' := by
  go_enter Tryd.func18, Tryd.ntmps18
  go_wp2_with fail
  refine (of_any s _ ht (by omega)).mono ?_
  rintro e w1 ⟨rfl, hb⟩
  have HB := Lib.hid hb
  have HL := Lib.hid (ofB_lt s)
  obtain ⟨q, hq⟩ : ∃ q, q = ofB s := ⟨_, rfl⟩
  rw [← hq] at HL ⊢
  have HQ := Lib.hid hq
  clear hq hb ht
  have c3 := fun w => conv_tail q w _ _ _ (by2_int q) (by1_int q) (by0_int q)
  go_wp2
  go_ret
  refine ⟨?_, HB.out.alloc HB.out.size _⟩
  rw [tailB, ← HQ.out]
  rfl

set_option maxHeartbeats 1000000 in
theorem seal_any (s : ByteArray) (w : World) (ht : TabC w) (hlen : s.size ≤ 9223372036854775000) :
    Calls Tryd.prog 15 #[.string s] w fun e w' => e = .returned (.string (sealB s)) ∧ Below w.heap.size w w' := by
  go_enter Tryd.func15, Tryd.ntmps15
  go_wp2_with fail
  refine (sum_any s _ ht hlen).mono ?_
  rintro e w1 ⟨rfl, hb⟩
  have HB := Lib.hid hb
  have hT := tailB_size s
  have HE := Lib.hid (sealB_tail s)
  obtain ⟨T, hTe⟩ : ∃ T, T = tailB s := ⟨_, rfl⟩
  rw [← hTe] at hT HE ⊢
  clear hTe hb ht
  have hno : ¬ 9223372036854775807 < s.size + T.size := by omega
  go_wp2
  go_ret
  refine ⟨?_, HB.out⟩
  rw [HE.out]
  rfl

section
variable {ops : Array Oper} {a : Act} {o : Oper} {x y : Operand} {R : World → Prop}
theorem strFrom_y (s : ByteArray) (k : Nat) (hk : k ≤ s.size) (ho : o.op = .slice 9 x (some y) none none) (hx : a.eval x = .string s) (hy : a.eval y = .int .i64 (k : Int)) (hw : Region.wanted o (yielded ops a.tmps) = true) : YieldsIf Tryd.prog ops R o (.string (s.extract k s.size)) a := by
  refine Or.inl ⟨hw, fun w _ => ?_⟩
  have k0 : (0 : Int) ≤ k := by omega
  have k1 : (k : Int) ≤ s.size := by omega
  unfold execOp
  simp only [ho, hx, hy, Option.map_some, Option.map_none]
  go_simp
theorem strNeq_y (s t : ByteArray) (b : Bool) (ho : o.op = .binOp .neq 9 x y 9) (hx : a.eval x = .string s) (hy : a.eval y = .string t) (hb : (!(s.toList == t.toList)) = b) (hw : Region.wanted o (yielded ops a.tmps) = true) : YieldsIf Tryd.prog ops R o (.bool b) a := by
  refine Or.inl ⟨hw, fun w _ => ?_⟩
  subst hb
  unfold execOp
  simp only [ho, hx, hy]
  go_simp
end
/-- What is held while a text is opened. -/
def OpenS (w0 w : World) : Prop := Below w0.heap.size w0 w

set_option maxHeartbeats 1000000 in
theorem open_any (s : ByteArray) (w : World) (ht : TabC w) (hlen : s.size ≤ 281474976710656) :
    Calls Tryd.prog 9 #[.string s] w fun e w' => e = .returned (.tuple #[.string (openB s), .int .i64 (openE s)]) ∧ Below w.heap.size w w' := by
  have HT := Lib.hid ht
  clear ht
  by_cases h3 : s.size < 3
  · obtain ⟨e1, e2⟩ := openB_short h3
    rw [e1, e2]
    clear e1 e2
    go_enter Tryd.func9, Tryd.ntmps9
    go_wp2
    go_ret2
    exact ⟨rfl, by go_grown⟩
  · obtain ⟨k, hk⟩ : ∃ k, k = s.size - 3 := ⟨_, rfl⟩
    have hki : (s.size : Int) - 3 = (k : Int) := by omega
    have HK := Lib.hid (show k ≤ s.size by omega)
    have hS : OpenS w w.drew := (Below.refl _ w).drew
    have HX := Lib.hid (show (s.extract 0 k).size ≤ 281474976710656 by rw [ByteArray.size_extract]; omega)
    by_cases hs : sealB (s.extract 0 (s.size - 3)) = s
    · obtain ⟨e1, e2⟩ := openB_yes h3 hs
      rw [e1, e2]
      clear e1 e2
      have HS := Lib.hid (str_eq ((seal_tail s (by omega)).1 hs))
      rw [← hk] at HS
      rw [← hk]
      clear hs hk
      go_enter Tryd.func9, Tryd.ntmps9
      go_wp2_with fail
      refine wp_region_held_drew (S := OpenS w) (by kernel_rfl) hS (fun _ => ?_)
      refine takeAt 0 11 (.string s) rfl rfl (by kernel_rfl) (by kernel_rfl) (by kernel_rfl) (fun _ _ _ h => h) (yields (by rfl) (fun w => by kernel_rfl)) hS ?_
      simp only [Act.put, List.setIfInBounds_toArray, List.set_cons_zero, List.set_cons_succ]
      refine takeAt 1 12 (.int .i64 (k : Int)) rfl rfl (by kernel_rfl) (by kernel_rfl) (by kernel_rfl) (fun _ _ _ h => h) (yields (by rfl) (fun w => by kernel_rfl)) hS ?_
      simp only [Act.put, List.setIfInBounds_toArray, List.set_cons_zero, List.set_cons_succ]
      refine takeAt 2 13 (.string (s.extract k s.size)) rfl rfl (by kernel_rfl) (by kernel_rfl) (by kernel_rfl) (fun _ _ _ h => h) (strFrom_y s k HK.out rfl rfl rfl (by rfl)) hS ?_
      simp only [Act.put, List.setIfInBounds_toArray, List.set_cons_zero, List.set_cons_succ]
      refine takeAt 3 14 (.string s) rfl rfl (by kernel_rfl) (by kernel_rfl) (by kernel_rfl) (fun _ _ _ h => h) (yields (by rfl) (fun w => by kernel_rfl)) hS ?_
      simp only [Act.put, List.setIfInBounds_toArray, List.set_cons_zero, List.set_cons_succ]
      refine takeAt 4 15 (.int .i64 (k : Int)) rfl rfl (by kernel_rfl) (by kernel_rfl) (by kernel_rfl) (fun _ _ _ h => h) (yields (by rfl) (fun w => by kernel_rfl)) hS ?_
      simp only [Act.put, List.setIfInBounds_toArray, List.set_cons_zero, List.set_cons_succ]
      refine takeAt 5 16 (.string (s.extract 0 k)) rfl rfl (by kernel_rfl) (by kernel_rfl) (by kernel_rfl) (fun _ _ _ h => h) (strSlice_y s k HK.out rfl rfl rfl (by rfl)) hS ?_
      simp only [Act.put, List.setIfInBounds_toArray, List.set_cons_zero, List.set_cons_succ]
      refine callAt 6 17 rfl rfl (by kernel_rfl) (by rfl) (by kernel_rfl) (sum_any (s.extract 0 k) _ (HT.out.call (Below.refl _ w).drew) (by have := HX.out; omega)) ?_
      rintro e w1 ⟨rfl, hb⟩
      have hT : OpenS w w1 := thenB hS hb (by simp)
      refine ⟨_, rfl, hT, ?_⟩
      clear hb
      simp only [Act.put, List.setIfInBounds_toArray, List.set_cons_zero, List.set_cons_succ]
      refine takeAt 7 18 (.bool false) rfl rfl (by kernel_rfl) (by kernel_rfl) (by kernel_rfl) (fun _ _ _ h => h) (strNeq_y _ _ _ rfl rfl rfl (by rw [HS.out]; rfl) (by rfl)) hT ?_
      simp only [Act.put, List.setIfInBounds_toArray, List.set_cons_zero, List.set_cons_succ]
      refine wpAnyH_done (by kernel_rfl) ?_ _
      have hk1 : (k : Int) ≤ s.size := by have := HK.out; omega
      have hk0 : (0 : Int) ≤ k := by omega
      clear hki h3
      go_wp2_with fail
      refine (HT.out.1 _ _ HX.out).mono ?_
      rintro e w2 ⟨rfl, hb⟩
      have HB := Lib.hid (thenB hT hb hT.size)
      clear hb hT hS
      go_wp2
      go_ret2
      exact ⟨rfl, HB.out⟩
    · obtain ⟨e1, e2⟩ := openB_no h3 hs
      rw [e1, e2]
      clear e1 e2
      have HS := Lib.hid (str_ne fun h => hs ((seal_tail s (by omega)).2 h))
      rw [← hk] at HS
      clear hs hk
      go_enter Tryd.func9, Tryd.ntmps9
      go_wp2_with fail
      refine wp_region_held_drew (S := OpenS w) (by kernel_rfl) hS (fun _ => ?_)
      refine takeAt 0 11 (.string s) rfl rfl (by kernel_rfl) (by kernel_rfl) (by kernel_rfl) (fun _ _ _ h => h) (yields (by rfl) (fun w => by kernel_rfl)) hS ?_
      simp only [Act.put, List.setIfInBounds_toArray, List.set_cons_zero, List.set_cons_succ]
      refine takeAt 1 12 (.int .i64 (k : Int)) rfl rfl (by kernel_rfl) (by kernel_rfl) (by kernel_rfl) (fun _ _ _ h => h) (yields (by rfl) (fun w => by kernel_rfl)) hS ?_
      simp only [Act.put, List.setIfInBounds_toArray, List.set_cons_zero, List.set_cons_succ]
      refine takeAt 2 13 (.string (s.extract k s.size)) rfl rfl (by kernel_rfl) (by kernel_rfl) (by kernel_rfl) (fun _ _ _ h => h) (strFrom_y s k HK.out rfl rfl rfl (by rfl)) hS ?_
      simp only [Act.put, List.setIfInBounds_toArray, List.set_cons_zero, List.set_cons_succ]
      refine takeAt 3 14 (.string s) rfl rfl (by kernel_rfl) (by kernel_rfl) (by kernel_rfl) (fun _ _ _ h => h) (yields (by rfl) (fun w => by kernel_rfl)) hS ?_
      simp only [Act.put, List.setIfInBounds_toArray, List.set_cons_zero, List.set_cons_succ]
      refine takeAt 4 15 (.int .i64 (k : Int)) rfl rfl (by kernel_rfl) (by kernel_rfl) (by kernel_rfl) (fun _ _ _ h => h) (yields (by rfl) (fun w => by kernel_rfl)) hS ?_
      simp only [Act.put, List.setIfInBounds_toArray, List.set_cons_zero, List.set_cons_succ]
      refine takeAt 5 16 (.string (s.extract 0 k)) rfl rfl (by kernel_rfl) (by kernel_rfl) (by kernel_rfl) (fun _ _ _ h => h) (strSlice_y s k HK.out rfl rfl rfl (by rfl)) hS ?_
      simp only [Act.put, List.setIfInBounds_toArray, List.set_cons_zero, List.set_cons_succ]
      refine callAt 6 17 rfl rfl (by kernel_rfl) (by rfl) (by kernel_rfl) (sum_any (s.extract 0 k) _ (HT.out.call (Below.refl _ w).drew) (by have := HX.out; omega)) ?_
      rintro e w1 ⟨rfl, hb⟩
      have hT : OpenS w w1 := thenB hS hb (by simp)
      refine ⟨_, rfl, hT, ?_⟩
      clear hb
      simp only [Act.put, List.setIfInBounds_toArray, List.set_cons_zero, List.set_cons_succ]
      refine takeAt 7 18 (.bool true) rfl rfl (by kernel_rfl) (by kernel_rfl) (by kernel_rfl) (fun _ _ _ h => h) (strNeq_y _ _ _ rfl rfl rfl (by rw [HS.out]; rfl) (by rfl)) hT ?_
      simp only [Act.put, List.setIfInBounds_toArray, List.set_cons_zero, List.set_cons_succ]
      refine wpAnyH_done (by kernel_rfl) ?_ _
      go_wp2
      go_ret2
      exact ⟨rfl, hT⟩
end Go.Proofs.YtdpdokjoinhjpaaDoor
