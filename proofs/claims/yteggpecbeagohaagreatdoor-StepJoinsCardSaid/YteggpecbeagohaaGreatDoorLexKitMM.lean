import Derived.Test.YteggpecbeagohaaGreatDoorClassMM
import Derived.Laws.RangeAny
import Derived.Laws.Runes
import Derived.RegionTactic
import Derived.Deep.MidRow
namespace Go.Proofs.YteggpecbeagohaaGreatDoor
open Go.RowKit
theorem bt_ext {p : ByteArray} {a : Nat} (i : Nat) (ha : a ≤ p.size) : bt (p.extract a p.size) i = bt p (a + i) := by
 unfold bt
 have hs : (p.extract a p.size).size = p.size - a := by simp
 by_cases h : i < p.size - a
 ·rw [dif_pos (by omega), dif_pos (by omega), ByteArray.getElem_extract]
 ·rw [dif_neg (by omega), dif_neg (by omega)]
theorem bt_ext2 {p : ByteArray} {a b i : Nat} (hb : b ≤ p.size) (hi : a + i < b) : bt (p.extract a b) i = bt p (a + i) := by
 unfold bt
 have hs : (p.extract a b).size = b - a := by simp; omega
 rw [dif_pos (by omega), dif_pos (by omega), ByteArray.getElem_extract]
theorem head_ext {p : ByteArray} {a : Nat} (ha : a ≤ p.size) : ∀ (l : List Nat) (i : Nat), headB (p.extract a p.size) i l = headB p (a + i) l
 | [], _ => rfl
 | c :: r, i => by rw [headB, headB, bt_ext i ha, head_ext ha r (i + 1), Nat.add_assoc]
theorem first_cases (s : ByteArray) (c : UInt8) : (firstIdx s c = -1 ∧ ∀ j, bt s j ≠ c.toNat) ∨ ∃ i : Nat, firstIdx s c = (i : Int) ∧ i < s.size ∧ bt s i = c.toNat ∧ ∀ j, j < i → bt s j ≠ c.toNat := by
 have he : ∀ j, j < s.size → ((s[j]! == c) = true ↔ bt s j = c.toNat) := fun j hj => by
  rw [bt_at hj, getElem!_pos s j hj, beq_iff_eq]
  exact UInt8.toNat_inj.symm
 unfold firstIdx
 cases hf : (List.range s.size).find? (fun i => s[i]! == c) with
 | none =>
   refine .inl ⟨rfl, fun j => ?_⟩
   rw [List.find?_eq_none] at hf
   by_cases hj : j < s.size
   ·exact fun h => hf j (List.mem_range.2 hj) ((he j hj).2 h)
   ·rw [bt_no (by omega)]
    have := c.toNat_lt
    omega
 | some i =>
   have h1 := List.find?_some hf
   have h2 := List.mem_range.1 (List.mem_of_find?_eq_some hf)
   refine .inr ⟨i, rfl, h2, (he i h2).1 h1, fun j hj => ?_⟩
   have h3 := List.find?_range_eq_some.1 hf
   have := h3.2.2 j hj
   intro hb
   have h4 := (he j (by omega)).2 hb
   simp [h4] at this
theorem first_at {s : ByteArray} {c : UInt8} {i : Nat} (hb : bt s i = c.toNat) (hn : ∀ j, j < i → bt s j ≠ c.toNat) : firstIdx s c = (i : Int) := by
 rcases first_cases s c with ⟨-, h⟩ | ⟨k, h1, -, h3, h4⟩
 ·exact absurd hb (h i)
 ·rcases Nat.lt_trichotomy k i with h | h | h
  ·exact absurd h3 (hn k h)
  ·rw [h1, h]
  ·exact absurd hb (h4 i h)
theorem first_no {s : ByteArray} {c : UInt8} (hn : ∀ j, bt s j ≠ c.toNat) : firstIdx s c = -1 := by
 rcases first_cases s c with ⟨h, -⟩ | ⟨k, -, -, h3, -⟩
 ·exact h
 ·exact absurd h3 (hn k)
theorem slHasPrefix_any (s h : ByteArray) (w : World) : Calls Tryz.prog 99 #[.string s, .string h] w fun e w' => e = .returned (.bool (startB s 0 h)) ∧ w = w' := by
 by_cases h2 : h.size ≤ s.size
 ·have h3 : (h.size : Int) ≤ (s.size : Int) := by omega
  go_enter Tryz.func99, Tryz.ntmps99
  go_wp2_with fail
  go_ret
  exact ⟨ret_b (by unfold startB; rw [decide_eq_true (Nat.zero_le _), decide_eq_true (show h.size ≤ s.size - 0 by omega), Nat.zero_add]; rfl), rfl⟩
 ·have h3 : ¬ (h.size : Int) ≤ (s.size : Int) := by omega
  go_enter Tryz.func99, Tryz.ntmps99
  go_wp2_with fail
  go_ret
  exact ⟨ret_b (by unfold startB; rw [decide_eq_false (show ¬ h.size ≤ s.size - 0 by omega)]; simp), rfl⟩
theorem prefix_any (s h : ByteArray) (l : List Nat) (w : World) (hl : h.data.toList.map (·.toNat) = l) : Calls Tryz.prog 71 #[.string s, .string h] w fun e w' => e = .returned (.bool (headB s 0 l)) ∧ w = w' := by
 have HS := Lib.hid (start_head s h 0 (Nat.zero_le _))
 subst hl
 go_enter Tryz.func71, Tryz.ntmps71
 go_wp2_with fail
 refine (slHasPrefix_any s h _).mono ?_
 rintro e w1 ⟨rfl, rfl⟩
 go_wp2_with fail
 go_ret
 exact ⟨ret_b HS.out, rfl⟩
set_option maxRecDepth 100000 in
theorem slIndexByte_any (s : ByteArray) (c : Int) (w : World) : Calls Tryz.prog 153 #[.string s, .int .u8 c] w fun e w' => e = .returned (.int .i64 (firstIdx s c.toNat.toUInt8)) ∧ w = w' := by
 go_enter Tryz.func153, Tryz.ntmps153
 go_wp2_with fail
 rw [run_callFunc_extern Tryz.func165 (by kernel_rfl) (by kernel_rfl) (by kernel_rfl) (e := Extern.BytealgIndexByte.indexByte) (by kernel_rfl), run_indexByte_string]
 simp only [Result.andThen]
 rw [Oper.upon_value]
 go_wp2_with fail
 go_ret
 exact ⟨rfl, rfl⟩
set_option maxRecDepth 100000 in
theorem indexByte_any (s : ByteArray) (c : Int) (w : World) : Calls Tryz.prog 128 #[.string s, .int .u8 c] w fun e w' => e = .returned (.int .i64 (firstIdx s c.toNat.toUInt8)) ∧ w = w' := by
 go_enter Tryz.func128, Tryz.ntmps128
 go_wp2_with fail
 refine (slIndexByte_any s c _).mono ?_
 rintro e w1 ⟨rfl, rfl⟩
 go_wp2_with fail
 go_ret
 exact ⟨rfl, rfl⟩
theorem bt_one (s : ByteArray) (c : UInt8) (h : ([c] == s.toList) = true) : s.size = 1 ∧ bt s 0 = c.toNat := by
 have h1 : s.toList = [c] := (beq_iff_eq.1 h).symm
 have h2 : s.data.toList = [c] := by rw [← ByteArray.toList_eq, h1]
 have h3 : s = ⟨#[c]⟩ := by
  cases s with
  | mk d => congr 1; cases d; simpa using h2
 subst h3
 exact ⟨rfl, rfl⟩
set_option maxRecDepth 100000 in
theorem slIndex_any (s : ByteArray) (c : UInt8) (w : World) : Calls Tryz.prog 127 #[.string s, .string ⟨#[c]⟩] w fun e w' => e = .returned (.int .i64 (firstIdx s c)) ∧ w = w' := by
 go_enter Tryz.func127, Tryz.ntmps127
 go_wp2_with (go_at_call 153; refine (slIndexByte_any _ _ _).mono ?_; rintro e w' ⟨rfl, rfl⟩)
 ·have h : ([c] == s.toList) = true := by assumption
  go_ret
  have h1 := bt_one s c h
  exact ⟨by rw [first_at (i := 0) h1.2 (fun j hj => by omega)]; rfl, rfl⟩
 ·go_ret
  exact ⟨rfl, rfl⟩
theorem slCut_at (s : ByteArray) (c : UInt8) (i : Nat) (w : World) (hs : s.size ≤ 2000000) (hi : i < s.size) (hb : bt s i = c.toNat) (hn : ∀ j, j < i → bt s j ≠ c.toNat) : Calls Tryz.prog 101 #[.string s, .string ⟨#[c]⟩] w fun e w' => e = .returned (.tuple #[.string (s.extract 0 i), .string (s.extract (i + 1) s.size), .bool true]) ∧ Below w.heap.size w w' := by
 have HF := Lib.hid (first_at hb hn)
 have hsz : (ByteArray.mk #[c]).size = 1 := rfl
 have c1 : (0 : Int) ≤ ↑i := by omega
 have c2 : (↑i : Int) ≤ ↑s.size := by omega
 have c3 : (0 : Int) ≤ ↑i + 1 := by omega
 have c4 : (↑i + 1 : Int) ≤ ↑s.size := by omega
 clear hb hn
 go_enter Tryz.func101, Tryz.ntmps101
 go_wp2_with fail
 refine (slIndex_any s c _).mono ?_
 rintro e w1 ⟨rfl, rfl⟩
 rw [HF.out]
 go_wp2_with fail
 go_region
 go_wp2
 go_ret3
 exact ⟨rfl, (Below.refl _ _).drew⟩
theorem slCut_no (s : ByteArray) (c : UInt8) (w : World) (hn : ∀ j, bt s j ≠ c.toNat) : Calls Tryz.prog 101 #[.string s, .string ⟨#[c]⟩] w fun e w' => e = .returned (.tuple #[.string s, .string ByteArray.empty, .bool false]) ∧ Below w.heap.size w w' := by
 have HF := Lib.hid (first_no hn)
 clear hn
 go_enter Tryz.func101, Tryz.ntmps101
 go_wp2_with fail
 refine (slIndex_any s c _).mono ?_
 rintro e w1 ⟨rfl, rfl⟩
 rw [HF.out]
 go_wp2_with fail
 go_ret3
 exact ⟨rfl, Below.refl _ _⟩
theorem cut_at (s : ByteArray) (c : UInt8) (i : Nat) (w : World) (hs : s.size ≤ 2000000) (hi : i < s.size) (hb : bt s i = c.toNat) (hn : ∀ j, j < i → bt s j ≠ c.toNat) : Calls Tryz.prog 73 #[.string s, .string ⟨#[c]⟩] w fun e w' => e = .returned (.tuple #[.string (s.extract 0 i), .string (s.extract (i + 1) s.size), .bool true]) ∧ Below w.heap.size w w' := by
 have HC := Lib.hid (slCut_at s c i w hs hi hb hn)
 clear hb hn
 go_enter Tryz.func73, Tryz.ntmps73
 go_wp2_with fail
 refine HC.out.mono ?_
 rintro e w1 ⟨rfl, hb⟩
 have HB := Lib.hid hb
 clear hb
 go_wp2_with fail
 go_ret3
 exact ⟨rfl, HB.out⟩
theorem cut_no (s : ByteArray) (c : UInt8) (w : World) (hn : ∀ j, bt s j ≠ c.toNat) : Calls Tryz.prog 73 #[.string s, .string ⟨#[c]⟩] w fun e w' => e = .returned (.tuple #[.string s, .string ByteArray.empty, .bool false]) ∧ Below w.heap.size w w' := by
 have HC := Lib.hid (slCut_no s c w hn)
 clear hn
 go_enter Tryz.func73, Tryz.ntmps73
 go_wp2_with fail
 refine HC.out.mono ?_
 rintro e w1 ⟨rfl, hb⟩
 have HB := Lib.hid hb
 clear hb
 go_wp2_with fail
 go_ret3
 exact ⟨rfl, HB.out⟩
end Go.Proofs.YteggpecbeagohaaGreatDoor
namespace Go.Proofs.YteggpecbeagohaaGreatDoor
open Go.RowKit
def numB (s : ByteArray) : Bool := decide (1 ≤ s.size ∧ s.size ≤ 3 ∧ ∀ j, j < s.size → isD s j = true)
def numV (s : ByteArray) : Nat := if numB s = true then cntV s 0 s.size else 0
theorem numB_yes {s : ByteArray} (h1 : 1 ≤ s.size) (h3 : s.size ≤ 3) (h : ∀ j, j < s.size → isD s j = true) : numB s = true := decide_eq_true ⟨h1, h3, h⟩
theorem numB_no {s : ByteArray} {j : Nat} (hj : j < s.size) (h : isD s j = false) : numB s = false := decide_eq_false fun ⟨_, _, a⟩ => by have := a j hj; rw [h] at this; cases this
theorem iterPos_at (w : World) (s : ByteArray) (k : Nat) : (w.iter s k).iterPos w.heap.size = k := World.iterPos_iter w s k
theorem below_iter (w : World) (s : ByteArray) (k : Nat) : Below w.heap.size w (w.iter s k) := (Below.refl _ w).alloc (Nat.le_refl _) _
set_option maxHeartbeats 2000000 in
theorem number_any (s : ByteArray) (w : World) (hs : s.size ≤ 2000000) : Calls Tryz.prog 102 #[.string s] w fun e w' => e = .returned (.tuple #[.int .i64 (numV s : Nat), .bool (numB s)]) ∧ Below w.heap.size w w' := by
 by_cases h0 : s.size = 0
 ·have hn : numB s = false := decide_eq_false (by omega)
  have hv : numV s = 0 := by unfold numV; rw [hn]; rfl
  have he : s = ByteArray.empty := by
   cases s with
   | mk d => congr 1; exact Array.eq_empty_of_size_eq_zero h0
  rw [hn, hv]
  subst he
  clear hn hv h0 hs
  go_enter Tryz.func102, Tryz.ntmps102
  go_wp2_with fail
  go_ret2
  exact ⟨rfl, Below.refl _ _⟩
 ·have hne : (s.toList == []) = false := by
   rw [Bool.eq_false_iff]
   intro h
   have h1 : s.toList = [] := by simpa using h
   rw [ByteArray.toList_eq] at h1
   apply h0
   show s.data.size = 0
   rw [← Array.length_toList, h1]
   rfl
  by_cases h3 : 3 < s.size
  ·have hn : numB s = false := decide_eq_false (by omega)
   have hv : numV s = 0 := by unfold numV; rw [hn]; rfl
   have h3' : (3 : Int) < (s.size : Int) := by omega
   rw [hn, hv]
   clear hn hv h0
   go_enter Tryz.func102, Tryz.ntmps102
   go_wp2_with fail
   go_ret2
   exact ⟨rfl, Below.refl _ _⟩
  ·have h3' : ¬ (3 : Int) < (s.size : Int) := by omega
   go_enter Tryz.func102, Tryz.ntmps102
   go_wp2_with fail
   go_loopw [4] (fun a wr => ∃ k n : Nat, k ≤ s.size ∧ a = .int .i64 n ∧ (∀ j, j < k → isD s j = true) ∧ n = cntV s 0 k ∧ wr = w.iter s k) (fun _ wr => s.size - wr.iterPos w.heap.size)
   case atStart => exact ⟨0, 0, by omega, rfl, fun j hj => by omega, rfl, rfl⟩
   case round =>
    obtain ⟨k, n, hk, rfl, hd, hn, rfl⟩ := hrel
    have hn3 : n < 1000 := by
     rw [hn]
     exact Nat.lt_of_lt_of_le (cntV_lt k fun j hj => by rw [Nat.zero_add]; exact hd j hj) (Nat.pow_le_pow_right (n := 10) (by decide) (show k ≤ 3 by omega))
    have HD := Lib.hid hd
    have HN := Lib.hid hn
    clear hd hn
    by_cases hp : k < s.size
    ·obtain ⟨c, hc⟩ : ∃ c, c = (s[k]'hp).toNat := ⟨_, rfl⟩
     have HC := Lib.hid (show bt s k = c by rw [hc]; exact bt_at hp)
     by_cases ha : c < 128
     ·have hnx : ∀ ty, (Instr.next (.pointer (some ⟨w.heap.size, 0, none⟩)) true ty).run Tryz.prog (w.iter s k) = .ok (.tuple #[.bool true, .int .i64 k, .int .i32 (c : Nat)]) (w.iter s (k + 1)) := fun ty => by rw [hc]; exact run_next_ascii w s k ty hp (by rw [← hc]; exact ha)
      clear hc
      by_cases h48 : 48 ≤ c
      ·by_cases h57 : c ≤ 57
       ·have q1 : ¬ (c : Int) < 48 := by omega
        have q2 : ¬ (57 : Int) < (c : Int) := by omega
        have HI := Lib.hid (show isD s k = true by unfold isD; rw [HC.out]; exact decide_eq_true ⟨h48, h57⟩)
        go_wp2_with fail
        go_roundw
        case rel =>
         refine ⟨k + 1, 10 * n + (c - 48), by omega, by go_num, fun j hj => ?_, ?_, rfl⟩
         ·by_cases e : j = k
          ·rw [e]; exact HI.out
          ·exact HD.out j (by omega)
         ·rw [cntV, Nat.zero_add, HC.out, HN.out]
        case measure => rw [iterPos_at, iterPos_at]; omega
       ·have q1 : ¬ (c : Int) < 48 := by omega
        have q2 : (57 : Int) < (c : Int) := by omega
        have HI := Lib.hid (numB_no hp (show isD s k = false by unfold isD; rw [HC.out]; exact decide_eq_false (by omega)))
        go_wp2_with fail
        go_ret2
        refine ⟨?_, below_iter w s _⟩
        unfold numV; rw [HI.out]; rfl
      ·have q1 : (c : Int) < 48 := by omega
       have HI := Lib.hid (numB_no hp (show isD s k = false by unfold isD; rw [HC.out]; exact decide_eq_false (by omega)))
       go_wp2_with fail
       go_ret2
       refine ⟨?_, below_iter w s _⟩
       unfold numV; rw [HI.out]; rfl
     ·have hnx : ∀ ty, (Instr.next (.pointer (some ⟨w.heap.size, 0, none⟩)) true ty).run Tryz.prog (w.iter s k) = _ := fun ty => run_next_any w s k ty hp
      have hr := (decode_high s k hp (by omega)).1
      clear hc
      have q1 : ¬ ((Utf8.decode s k).1 : Int) < 48 := by omega
      have q2 : (57 : Int) < ((Utf8.decode s k).1 : Int) := by omega
      have HI := Lib.hid (numB_no hp (show isD s k = false by unfold isD; rw [HC.out]; exact decide_eq_false (by omega)))
      go_wp2_with fail
      go_ret2
      refine ⟨?_, below_iter w s _⟩
      unfold numV; rw [HI.out]; rfl
    ·obtain rfl : k = s.size := by omega
     have hnx : ∀ ty, (Instr.next (.pointer (some ⟨w.heap.size, 0, none⟩)) true ty).run Tryz.prog (w.iter s s.size) = _ := fun ty => run_next_end w s s.size ty hp
     have HI := Lib.hid (numB_yes (s := s) (by omega) (by omega) HD.out)
     go_wp2_with fail
     go_ret2
     refine ⟨?_, below_iter w s _⟩
     unfold numV; rw [HI.out, if_pos rfl, ← HN.out]; rfl
end Go.Proofs.YteggpecbeagohaaGreatDoor
namespace Go.Proofs.YteggpecbeagohaaGreatDoor
open Go.RowKit
def fstI (s : ByteArray) (c : Nat) : Nat := ((List.range s.size).find? fun i => bt s i == c).getD s.size
theorem fstI_cases (s : ByteArray) (c : Nat) (hc : c < 256) : (fstI s c = s.size ∧ ∀ j, bt s j ≠ c) ∨ (fstI s c < s.size ∧ bt s (fstI s c) = c ∧ ∀ j, j < fstI s c → bt s j ≠ c) := by
 unfold fstI
 cases hf : (List.range s.size).find? (fun i => bt s i == c) with
 | none =>
   refine .inl ⟨rfl, fun j => ?_⟩
   rw [List.find?_eq_none] at hf
   by_cases hj : j < s.size
   ·exact fun h => hf j (List.mem_range.2 hj) (by simpa using h)
   ·rw [bt_no (by omega)]
    omega
 | some i =>
   have h1 := List.find?_some hf
   have h2 := List.mem_range.1 (List.mem_of_find?_eq_some hf)
   have h3 := List.find?_range_eq_some.1 hf
   refine .inr ⟨h2, by simpa using h1, fun j hj => ?_⟩
   have := h3.2.2 j hj
   simpa using this
theorem ext_all (s : ByteArray) : s.extract 0 s.size = s := by simp
theorem ext_size {s : ByteArray} {a b : Nat} (hb : b ≤ s.size) : (s.extract a b).size = b - a := by simp; omega
def cntsV (a : Nat) (most : Int) (ok : Bool) : Int × Int × Int :=
 if ok = false then (0, 0, 3) else if 100 < a ∨ 100 < most then (0, 0, 4) else if most ≠ -1 ∧ most < a then (0, 0, 3) else (a, most, 0)
def mostZ (s : ByteArray) : Int := if fstI s 44 < s.size then (if s.size = fstI s 44 + 1 then -1 else (numV (s.extract (fstI s 44 + 1) s.size) : Int)) else (numV (s.extract 0 (fstI s 44)) : Int)
def okZ (s : ByteArray) : Bool := numB (s.extract 0 (fstI s 44)) && (!decide (fstI s 44 + 1 < s.size) || numB (s.extract (fstI s 44 + 1) s.size))
def cntsZ (s : ByteArray) : Int × Int × Int := cntsV (numV (s.extract 0 (fstI s 44))) (mostZ s) (okZ s)
theorem cntV_le (s : ByteArray) (h : numB s = true) : numV s < 1000 := by
 have h1 := of_decide_eq_true h
 unfold numV; rw [h, if_pos rfl]
 exact Nat.lt_of_lt_of_le (cntV_lt s.size fun j hj => by rw [Nat.zero_add]; exact h1.2.2 j hj) (Nat.pow_le_pow_right (n := 10) (by decide) h1.2.1)
theorem numV_le (s : ByteArray) : numV s < 1000 := by
 cases h : numB s with
 | true => exact cntV_le s h
 | false => unfold numV; rw [h]; simp
theorem str_ne {s : ByteArray} (h : s.size ≠ 0) : (s.toList == []) = false := by
 rw [Bool.eq_false_iff]
 intro h2
 have h1 : s.toList = [] := by simpa using h2
 rw [ByteArray.toList_eq] at h1
 apply h
 show s.data.size = 0
 rw [← Array.length_toList, h1]
 rfl
theorem str_empty {s : ByteArray} (h : s.size = 0) : s = ByteArray.empty := by
 cases s with
 | mk d => congr 1; exact Array.eq_empty_of_size_eq_zero h
set_option maxHeartbeats 8000000 in
theorem counts_any (s : ByteArray) (w : World) (hs : s.size ≤ 1000000) : Calls Tryz.prog 74 #[.string s] w fun e w' => e = .returned (.tuple #[.int .i64 (cntsZ s).1, .int .i64 (cntsZ s).2.1, .int .i64 (cntsZ s).2.2]) ∧ Below w.heap.size w w' := by
 rcases fstI_cases s 44 (by omega) with ⟨hf, hn⟩ | ⟨hlt, hb, hn⟩
 ·have h1 : cntsZ s = cntsV (numV s) (numV s : Int) (numB s) := by
   unfold cntsZ mostZ okZ
   rw [hf, ext_all, if_neg (by omega), decide_eq_false (by omega)]
   simp
  rw [h1]
  have HC := Lib.hid (cut_no s 44 w hn)
  have HN1 := Lib.hid (fun w => number_any s w (by omega))
  have hx := numV_le s
  clear h1 hn hf
  revert hx HN1
  generalize numV s = x
  generalize numB s = f
  intro HN1 hx
  cases f with
  | false =>
    rw [show cntsV x (x : Int) false = (0, 0, 3) from rfl]
    go_enter Tryz.func74, Tryz.ntmps74
    go_wp2_with fail
    refine HC.out.mono ?_
    rintro e w1 ⟨rfl, hb1⟩
    have HB1 := Lib.hid hb1
    clear hb1
    go_wp2_with fail
    refine (HN1.out _).mono ?_
    rintro e w2 ⟨rfl, hb2⟩
    have HB2 := Lib.hid (thenB HB1.out hb2 HB1.out.size)
    clear hb2
    go_wp2_with fail
    go_ret3
    exact ⟨rfl, HB2.out⟩
  | true =>
    by_cases h100 : 100 < x
    ·have q : (100 : Int) < (x : Int) := by omega
     rw [show cntsV x (x : Int) true = (0, 0, 4) by unfold cntsV; rw [if_neg (by decide), if_pos (.inl h100)]]
     go_enter Tryz.func74, Tryz.ntmps74
     go_wp2_with fail
     refine HC.out.mono ?_
     rintro e w1 ⟨rfl, hb1⟩
     have HB1 := Lib.hid hb1
     clear hb1
     go_wp2_with fail
     refine (HN1.out _).mono ?_
     rintro e w2 ⟨rfl, hb2⟩
     have HB2 := Lib.hid (thenB HB1.out hb2 HB1.out.size)
     clear hb2
     go_wp2_with fail
     go_ret3
     exact ⟨rfl, HB2.out⟩
    ·have q : ¬ (100 : Int) < (x : Int) := by omega
     have q2 : ¬ (x : Int) = -1 := by omega
     have q3 : ¬ (x : Int) < (x : Int) := by omega
     rw [show cntsV x (x : Int) true = ((x : Int), (x : Int), (0 : Int)) by unfold cntsV; rw [if_neg (by decide), if_neg (by omega), if_neg (by omega)]]
     go_enter Tryz.func74, Tryz.ntmps74
     go_wp2_with fail
     refine HC.out.mono ?_
     rintro e w1 ⟨rfl, hb1⟩
     have HB1 := Lib.hid hb1
     clear hb1
     go_wp2_with fail
     refine (HN1.out _).mono ?_
     rintro e w2 ⟨rfl, hb2⟩
     have HB2 := Lib.hid (thenB HB1.out hb2 HB1.out.size)
     clear hb2
     go_wp2_with fail
     go_ret3
     exact ⟨rfl, HB2.out⟩
 ·have h1s : (s.extract 0 (fstI s 44)).size ≤ 1000000 := by rw [ext_size (by omega)]; omega
  have HC := Lib.hid (cut_at s 44 (fstI s 44) w (by omega) hlt hb hn)
  have HN1 := Lib.hid (fun w => number_any (s.extract 0 (fstI s 44)) w (by omega))
  have hx := numV_le (s.extract 0 (fstI s 44))
  have hbs : (s.extract (fstI s 44 + 1) s.size).size = s.size - (fstI s 44 + 1) := ext_size (Nat.le_refl _)
  by_cases hem : s.size = fstI s 44 + 1
  ·have h1 : cntsZ s = cntsV (numV (s.extract 0 (fstI s 44))) (-1) (numB (s.extract 0 (fstI s 44))) := by
    unfold cntsZ mostZ okZ
    rw [if_pos hlt, if_pos hem, decide_eq_false (by omega)]
    simp
   rw [h1]
   have hbe : s.extract (fstI s 44 + 1) s.size = ByteArray.empty := str_empty (by omega)
   rw [hbe] at HC
   clear h1 hn hb hlt hbe hbs hem
   revert h1s HC HN1 hx
   generalize s.extract 0 (fstI s 44) = a
   generalize numV a = x
   generalize numB a = f
   intro h1s HC HN1 hx
   cases f with
   | false =>
     rw [show cntsV x (-1) false = (0, 0, 3) from rfl]
     go_enter Tryz.func74, Tryz.ntmps74
     go_wp2_with fail
     refine HC.out.mono ?_
     rintro e w1 ⟨rfl, hb1⟩
     have HB1 := Lib.hid hb1
     clear hb1
     go_wp2_with fail
     refine (HN1.out _).mono ?_
     rintro e w2 ⟨rfl, hb2⟩
     have HB2 := Lib.hid (thenB HB1.out hb2 HB1.out.size)
     clear hb2
     go_wp2_with fail
     go_ret3
     exact ⟨rfl, HB2.out⟩
   | true =>
     by_cases h100 : 100 < x
     ·have q : (100 : Int) < (x : Int) := by omega
      rw [show cntsV x (-1) true = (0, 0, 4) by unfold cntsV; rw [if_neg (by decide), if_pos (.inl h100)]]
      go_enter Tryz.func74, Tryz.ntmps74
      go_wp2_with fail
      refine HC.out.mono ?_
      rintro e w1 ⟨rfl, hb1⟩
      have HB1 := Lib.hid hb1
      clear hb1
      go_wp2_with fail
      refine (HN1.out _).mono ?_
      rintro e w2 ⟨rfl, hb2⟩
      have HB2 := Lib.hid (thenB HB1.out hb2 HB1.out.size)
      clear hb2
      go_wp2_with fail
      go_ret3
      exact ⟨rfl, HB2.out⟩
     ·have q : ¬ (100 : Int) < (x : Int) := by omega
      rw [show cntsV x (-1) true = ((x : Int), (-1 : Int), (0 : Int)) by unfold cntsV; rw [if_neg (by decide), if_neg (by omega), if_neg (by omega)]]
      go_enter Tryz.func74, Tryz.ntmps74
      go_wp2_with fail
      refine HC.out.mono ?_
      rintro e w1 ⟨rfl, hb1⟩
      have HB1 := Lib.hid hb1
      clear hb1
      go_wp2_with fail
      refine (HN1.out _).mono ?_
      rintro e w2 ⟨rfl, hb2⟩
      have HB2 := Lib.hid (thenB HB1.out hb2 HB1.out.size)
      clear hb2
      go_wp2_with fail
      go_ret3
      exact ⟨rfl, HB2.out⟩
  ·have h2s : (s.extract (fstI s 44 + 1) s.size).size ≤ 1000000 := by omega
   have hne := str_ne (s := s.extract (fstI s 44 + 1) s.size) (by omega)
   have h1 : cntsZ s = cntsV (numV (s.extract 0 (fstI s 44))) (numV (s.extract (fstI s 44 + 1) s.size) : Int) (numB (s.extract 0 (fstI s 44)) && numB (s.extract (fstI s 44 + 1) s.size)) := by
    unfold cntsZ mostZ okZ
    rw [if_pos hlt, if_neg hem, decide_eq_true (by omega)]
    simp
   rw [h1]
   have hy := numV_le (s.extract (fstI s 44 + 1) s.size)
   have HN2 := Lib.hid (fun w => number_any (s.extract (fstI s 44 + 1) s.size) w (by omega))
   clear h1 hn hb hlt hbs hem
   revert h1s HC HN1 hx h2s hne hy HN2
   generalize s.extract 0 (fstI s 44) = a
   generalize s.extract (fstI s 44 + 1) s.size = b
   generalize numV a = x
   generalize numB a = f
   generalize numV b = y
   generalize numB b = g
   intro h1s HC HN1 hx h2s hne hy HN2
   cases f with
   | false =>
     rw [show cntsV x (y : Int) (false && g) = (0, 0, 3) from rfl]
     go_enter Tryz.func74, Tryz.ntmps74
     go_wp2_with fail
     refine HC.out.mono ?_
     rintro e w1 ⟨rfl, hb1⟩
     have HB1 := Lib.hid hb1
     clear hb1
     go_wp2_with fail
     refine (HN1.out _).mono ?_
     rintro e w2 ⟨rfl, hb2⟩
     have HB2 := Lib.hid (thenB HB1.out hb2 HB1.out.size)
     clear hb2
     go_wp2_with fail
     refine (HN2.out _).mono ?_
     rintro e w3 ⟨rfl, hb3⟩
     have HB3 := Lib.hid (thenB HB2.out hb3 HB2.out.size)
     clear hb3
     go_wp2_with fail
     go_ret3
     exact ⟨rfl, HB3.out⟩
   | true =>
     cases g with
     | false =>
       rw [show cntsV x (y : Int) (true && false) = (0, 0, 3) from rfl]
       go_enter Tryz.func74, Tryz.ntmps74
       go_wp2_with fail
       refine HC.out.mono ?_
       rintro e w1 ⟨rfl, hb1⟩
       have HB1 := Lib.hid hb1
       clear hb1
       go_wp2_with fail
       refine (HN1.out _).mono ?_
       rintro e w2 ⟨rfl, hb2⟩
       have HB2 := Lib.hid (thenB HB1.out hb2 HB1.out.size)
       clear hb2
       go_wp2_with fail
       refine (HN2.out _).mono ?_
       rintro e w3 ⟨rfl, hb3⟩
       have HB3 := Lib.hid (thenB HB2.out hb3 HB2.out.size)
       clear hb3
       go_wp2_with fail
       go_ret3
       exact ⟨rfl, HB3.out⟩
     | true =>
       by_cases h100 : 100 < x
       ·have q : (100 : Int) < (x : Int) := by omega
        rw [show cntsV x (y : Int) (true && true) = (0, 0, 4) by unfold cntsV; rw [if_neg (by decide), if_pos (.inl h100)]]
        go_enter Tryz.func74, Tryz.ntmps74
        go_wp2_with fail
        refine HC.out.mono ?_
        rintro e w1 ⟨rfl, hb1⟩
        have HB1 := Lib.hid hb1
        clear hb1
        go_wp2_with fail
        refine (HN1.out _).mono ?_
        rintro e w2 ⟨rfl, hb2⟩
        have HB2 := Lib.hid (thenB HB1.out hb2 HB1.out.size)
        clear hb2
        go_wp2_with fail
        refine (HN2.out _).mono ?_
        rintro e w3 ⟨rfl, hb3⟩
        have HB3 := Lib.hid (thenB HB2.out hb3 HB2.out.size)
        clear hb3
        go_wp2_with fail
        go_ret3
        exact ⟨rfl, HB3.out⟩
       ·have q : ¬ (100 : Int) < (x : Int) := by omega
        by_cases y100 : 100 < y
        ·have q2 : (100 : Int) < (y : Int) := by omega
         rw [show cntsV x (y : Int) (true && true) = (0, 0, 4) by unfold cntsV; rw [if_neg (by decide), if_pos (.inr (by omega))]]
         go_enter Tryz.func74, Tryz.ntmps74
         go_wp2_with fail
         refine HC.out.mono ?_
         rintro e w1 ⟨rfl, hb1⟩
         have HB1 := Lib.hid hb1
         clear hb1
         go_wp2_with fail
         refine (HN1.out _).mono ?_
         rintro e w2 ⟨rfl, hb2⟩
         have HB2 := Lib.hid (thenB HB1.out hb2 HB1.out.size)
         clear hb2
         go_wp2_with fail
         refine (HN2.out _).mono ?_
         rintro e w3 ⟨rfl, hb3⟩
         have HB3 := Lib.hid (thenB HB2.out hb3 HB2.out.size)
         clear hb3
         go_wp2_with fail
         go_ret3
         exact ⟨rfl, HB3.out⟩
        ·have q2 : ¬ (100 : Int) < (y : Int) := by omega
         have q3 : ¬ (y : Int) = -1 := by omega
         by_cases hyx : y < x
         ·have q4 : (y : Int) < (x : Int) := by omega
          rw [show cntsV x (y : Int) (true && true) = (0, 0, 3) by unfold cntsV; rw [if_neg (by decide), if_neg (by omega), if_pos (by omega)]]
          go_enter Tryz.func74, Tryz.ntmps74
          go_wp2_with fail
          refine HC.out.mono ?_
          rintro e w1 ⟨rfl, hb1⟩
          have HB1 := Lib.hid hb1
          clear hb1
          go_wp2_with fail
          refine (HN1.out _).mono ?_
          rintro e w2 ⟨rfl, hb2⟩
          have HB2 := Lib.hid (thenB HB1.out hb2 HB1.out.size)
          clear hb2
          go_wp2_with fail
          refine (HN2.out _).mono ?_
          rintro e w3 ⟨rfl, hb3⟩
          have HB3 := Lib.hid (thenB HB2.out hb3 HB2.out.size)
          clear hb3
          go_wp2_with fail
          go_ret3
          exact ⟨rfl, HB3.out⟩
         ·have q4 : ¬ (y : Int) < (x : Int) := by omega
          rw [show cntsV x (y : Int) (true && true) = ((x : Int), (y : Int), (0 : Int)) by unfold cntsV; rw [if_neg (by decide), if_neg (by omega), if_neg (by omega)]]
          go_enter Tryz.func74, Tryz.ntmps74
          go_wp2_with fail
          refine HC.out.mono ?_
          rintro e w1 ⟨rfl, hb1⟩
          have HB1 := Lib.hid hb1
          clear hb1
          go_wp2_with fail
          refine (HN1.out _).mono ?_
          rintro e w2 ⟨rfl, hb2⟩
          have HB2 := Lib.hid (thenB HB1.out hb2 HB1.out.size)
          clear hb2
          go_wp2_with fail
          refine (HN2.out _).mono ?_
          rintro e w3 ⟨rfl, hb3⟩
          have HB3 := Lib.hid (thenB HB2.out hb3 HB2.out.size)
          clear hb3
          go_wp2_with fail
          go_ret3
          exact ⟨rfl, HB3.out⟩
end Go.Proofs.YteggpecbeagohaaGreatDoor
namespace Go.Proofs.YteggpecbeagohaaGreatDoor
structure Win (t p : ByteArray) (a n : Nat) : Prop where
 size : t.size = n
 bt : ∀ j, j < n → bt t j = bt p (a + j)
theorem Win.of (p : ByteArray) {a b : Nat} (hb : b ≤ p.size) : Win (p.extract a b) p a (b - a) := ⟨ext_size hb, fun _ hj => bt_ext2 hb (by omega)⟩
theorem Win.sub {s p : ByteArray} {a n : Nat} (h : Win s p a n) {x y : Nat} (hy : y ≤ n) : Win (s.extract x y) p (a + x) (y - x) := by
 refine ⟨ext_size (by rw [h.size]; exact hy), fun j hj => ?_⟩
 rw [bt_ext2 (by rw [h.size]; exact hy) (by omega), h.bt _ (by omega), Nat.add_assoc]
theorem Win.dig {t p : ByteArray} {a n : Nat} (h : Win t p a n) {j : Nat} (hj : j < n) : isD t j = isD p (a + j) := by unfold isD; rw [h.bt j hj]
theorem Win.cnt {t p : ByteArray} {a n : Nat} (h : Win t p a n) : ∀ k, k ≤ n → cntV t 0 k = cntV p a k
 | 0, _ => rfl
 | k + 1, hk => by rw [cntV, cntV, h.cnt k (by omega), Nat.zero_add, h.bt k (by omega)]
theorem Win.yes {t p : ByteArray} {a n : Nat} (h : Win t p a n) (hn : numB t = true) (he : isD p (a + n) = false) : 1 ≤ n ∧ countZ p a = (numV t, a + n) := by
 have h1 := of_decide_eq_true hn
 rw [h.size] at h1
 refine ⟨h1.1, ?_⟩
 unfold numV
 rw [hn, if_pos rfl, h.size, h.cnt n (Nat.le_refl _)]
 exact count_at h1.2.1 (fun j hj => by rw [← h.dig hj]; exact h1.2.2 j hj) (.inr he)
theorem count_spec (p : ByteArray) (a : Nat) : ∃ k, k ≤ 3 ∧ (countZ p a).2 = a + k ∧ ∀ j, j < k → isD p (a + j) = true := by
 unfold countZ
 split
 ·exact ⟨0, by omega, rfl, fun j hj => by omega⟩
 ·rename_i h0
  split
  ·refine ⟨1, by omega, rfl, fun j hj => ?_⟩
   obtain rfl : j = 0 := by omega
   simpa using h0
  ·rename_i h1
   split
   ·refine ⟨2, by omega, rfl, fun j hj => ?_⟩
    rcases (show j = 0 ∨ j = 1 by omega) with rfl | rfl
    ·simpa using h0
    ·simpa using h1
   ·rename_i h2
    refine ⟨3, by omega, rfl, fun j hj => ?_⟩
    rcases (show j = 0 ∨ j = 1 ∨ j = 2 by omega) with rfl | rfl | rfl
    ·simpa using h0
    ·simpa using h1
    ·simpa using h2
theorem Win.no {t p : ByteArray} {a n : Nat} (h : Win t p a n) (hn : numB t = false) (he : isD p (a + n) = false) : (countZ p a).2 = a ∨ (a < (countZ p a).2 ∧ (countZ p a).2 < a + n) := by
 obtain ⟨k, hk, h2, hd⟩ := count_spec p a
 rw [h2]
 by_cases h0 : k = 0
 ·exact .inl (by omega)
 ·refine .inr ⟨by omega, ?_⟩
  rcases Nat.lt_trichotomy k n with hlt | rfl | hgt
  ·omega
  ·have := numB_yes (s := t) (by rw [h.size]; omega) (by rw [h.size]; exact hk) (fun j hj => by rw [h.size] at hj; rw [h.dig hj]; exact hd j hj)
   rw [hn] at this
   cases this
  ·have := hd n hgt
   rw [he] at this
   cases this
theorem isD_of {p : ByteArray} {i c : Nat} (h : bt p i = c) (hc : c < 48 ∨ 57 < c) : isD p i = false := by unfold isD; rw [h]; exact decide_eq_false (by omega)
def braceT (c : Int × Int × Int) (e : Nat) : TokR := if c.2.2 ≠ 0 then wrongT c.2.2 else ({ tok0 16 with mn := c.1, mx := c.2.1 }, e + 1, 0)
theorem braceT_bad (a : Nat) (m : Int) (e : Nat) : braceT (cntsV a m false) e = wrongT 3 := rfl
theorem braceT_ok (a : Nat) (m : Int) (e : Nat) : braceT (cntsV a m true) e = (if 100 < a ∨ 100 < m then wrongT 4 else if m ≠ -1 ∧ m < a then wrongT 3 else ({ tok0 16 with mn := a, mx := m }, e + 1, 0)) := by
 unfold cntsV
 rw [if_neg (by decide)]
 split
 ·rfl
 ·split
  ·rfl
  ·rfl
theorem braces_no {p : ByteArray} {i : Nat} (hn : ∀ j, i + 1 ≤ j → bt p j ≠ 125) : bracesZ p i = wrongT 3 := by
 obtain ⟨k, hk, h2, -⟩ := count_spec p (i + 1)
 unfold bracesZ
 simp only []
 split
 ·rfl
 ·have hb : bt p (if bt p (countZ p (i + 1)).2 = 44 then (if (countZ p ((countZ p (i + 1)).2 + 1)).2 = (countZ p (i + 1)).2 + 1 then (-1 : Int) else ((countZ p ((countZ p (i + 1)).2 + 1)).1 : Int), (countZ p ((countZ p (i + 1)).2 + 1)).2) else (((countZ p (i + 1)).1 : Int), (countZ p (i + 1)).2)).2 ≠ 125 := by
   split
   ·obtain ⟨k', -, h3, -⟩ := count_spec p ((countZ p (i + 1)).2 + 1)
    exact hn _ (by simp only []; omega)
   ·exact hn _ (by simp only []; omega)
  rw [if_pos hb]
theorem braces_eq {p : ByteArray} {i e : Nat} (hie : i + 1 ≤ e) (hep : e < p.size) (he : bt p e = 125) (hn : ∀ j, i + 1 ≤ j → j < e → bt p j ≠ 125) : bracesZ p i = braceT (cntsZ (p.extract (i + 1) e)) e := by
 have hw := Win.of p (a := i + 1) (b := e) (by omega)
 have hde := isD_of he (by omega)
 have hee : i + 1 + (e - (i + 1)) = e := by omega
 generalize hs : p.extract (i + 1) e = s at hw ⊢
 rcases fstI_cases s 44 (by omega) with ⟨hf, hnc⟩ | ⟨hlt, hb, hnc⟩
 ·have h1 : cntsZ s = cntsV (numV s) (numV s : Int) (numB s) := by
   unfold cntsZ mostZ okZ
   rw [hf, ext_all, if_neg (by omega), decide_eq_false (by omega)]
   simp
  rw [h1]
  have hcom : ∀ j, i + 1 ≤ j → j < e → bt p j ≠ 44 := fun j h2 h3 => by
   have := hnc (j - (i + 1))
   rw [hw.bt _ (by omega), show i + 1 + (j - (i + 1)) = j by omega] at this
   exact this
  cases hB : numB s with
  | true =>
    obtain ⟨h2, h3⟩ := hw.yes hB (by rw [hee]; exact hde)
    rw [hee] at h3
    rw [braceT_ok]
    unfold bracesZ
    simp only [h3]
    rw [if_neg (by omega)]
    simp only [he]
    rw [if_neg (show ¬ (125 : Nat) = 44 by decide)]
    simp only [he, ne_eq, not_true_eq_false, if_false]
    split
    ·rfl
    ·rw [if_neg (by omega), if_neg (by omega)]
  | false =>
    rw [braceT_bad]
    unfold bracesZ
    simp only []
    rcases hw.no hB (by rw [hee]; exact hde) with h2 | ⟨h2, h3⟩
    ·rw [if_pos h2]
    ·rw [hee] at h3
     rw [if_neg (by omega), if_neg (hcom _ (by omega) h3)]
     simp only []
     rw [if_pos (hn _ (by omega) h3)]
 ·have hsz := hw.size
  have hm : bt p (i + 1 + fstI s 44) = 44 := by rw [← hw.bt _ (by omega)]; exact hb
  have hwa := hw.sub (x := 0) (y := fstI s 44) (by omega)
  have hwb := hw.sub (x := fstI s 44 + 1) (y := s.size) (by omega)
  have hcom : ∀ j, i + 1 ≤ j → j < i + 1 + fstI s 44 → bt p j ≠ 44 := fun j h2 h3 => by
   have := hnc (j - (i + 1)) (by omega)
   rw [hw.bt _ (by omega), show i + 1 + (j - (i + 1)) = j by omega] at this
   exact this
  have hz : cntsZ s = cntsV (numV (s.extract 0 (fstI s 44))) (mostZ s) (okZ s) := rfl
  have hok : okZ s = (numB (s.extract 0 (fstI s 44)) && (!decide (fstI s 44 + 1 < s.size) || numB (s.extract (fstI s 44 + 1) s.size))) := rfl
  have hmo : mostZ s = if fstI s 44 < s.size then (if s.size = fstI s 44 + 1 then -1 else (numV (s.extract (fstI s 44 + 1) s.size) : Int)) else (numV (s.extract 0 (fstI s 44)) : Int) := rfl
  rw [if_pos hlt] at hmo
  rw [hz]
  generalize okZ s = ok at hok ⊢
  generalize mostZ s = mo at hmo ⊢
  generalize hm0 : fstI s 44 = m at *
  generalize s.extract 0 m = ta at *
  generalize s.extract (m + 1) s.size = tb at *
  rw [Nat.add_zero, Nat.sub_zero] at hwa
  rw [show i + 1 + (m + 1) = i + 1 + m + 1 by omega, show s.size - (m + 1) = e - (i + 1 + m + 1) by omega] at hwb
  have hdm := isD_of hm (by omega)
  cases hA : numB ta with
  | false =>
    rw [hA, Bool.false_and] at hok
    subst hok
    rw [braceT_bad]
    unfold bracesZ
    simp only []
    rcases hwa.no hA hdm with h2 | ⟨h2, h3⟩
    ·rw [if_pos h2]
    ·rw [if_neg (by omega), if_neg (hcom _ (by omega) h3)]
     simp only []
     rw [if_pos (hn _ (by omega) (by omega))]
  | true =>
    obtain ⟨h2, h3⟩ := hwa.yes hA hdm
    rw [hA, Bool.true_and] at hok
    by_cases hem : s.size = m + 1
    ·rw [decide_eq_false (by omega)] at hok
     rw [if_pos hem] at hmo
     simp at hok
     subst hok hmo
     have hc2 : countZ p (i + 1 + m + 1) = (0, i + 1 + m + 1) := by
      unfold countZ
      rw [if_pos (by rw [show i + 1 + m + 1 = e by omega]; exact hde)]
     rw [braceT_ok]
     unfold bracesZ
     simp only [h3, hm, if_true, hc2]
     rw [if_neg (by omega)]
     have he' : bt p (i + 1 + m + 1) = 125 := by rw [show i + 1 + m + 1 = e by omega]; exact he
     simp only [he', ne_eq, not_true_eq_false, if_false, false_and]
     split
     ·rfl
     ·rw [if_neg (by omega), show i + 1 + m + 1 = e by omega]
    ·rw [decide_eq_true (by omega), Bool.not_true, Bool.false_or] at hok
     rw [if_neg hem] at hmo
     have heb : i + 1 + m + 1 + (e - (i + 1 + m + 1)) = e := by omega
     subst hok hmo
     cases hB : numB tb with
     | true =>
       obtain ⟨h4, h5⟩ := hwb.yes hB (by rw [heb]; exact hde)
       rw [heb] at h5
       rw [braceT_ok]
       unfold bracesZ
       simp only [h3, hm, if_true, h5]
       rw [if_neg (by omega), if_neg (show ¬ e = i + 1 + m + 1 by omega)]
       simp only [he, ne_eq, not_true_eq_false, if_false]
       split
       ·rfl
       ·by_cases h6 : (numV tb : Int) < (numV ta : Int)
        ·rw [if_pos (by omega), if_pos (by omega)]
        ·rw [if_neg (by omega), if_neg (by omega)]
     | false =>
       rw [braceT_bad]
       unfold bracesZ
       simp only [h3, hm, if_true]
       rw [if_neg (by omega)]
       rcases hwb.no hB (by rw [heb]; exact hde) with h4 | ⟨h4, h5⟩
       ·rw [h4, if_pos (hn _ (by omega) (by omega))]
       ·rw [heb] at h5
        rw [if_pos (hn _ (by omega) h5)]
end Go.Proofs.YteggpecbeagohaaGreatDoor
namespace Go.Proofs.YteggpecbeagohaaGreatDoor
open Go.RowKit
def tokC (t : Tok) : Array Value := #[.int .i64 t.k, .int .u64 (W t.S 0), .int .u64 (W t.S 1), .int .u64 (W t.S 2), .int .u64 (W t.S 3), .int .i64 t.mn, .int .i64 t.mx, .int .i64 t.md, .int .i64 t.n, .string t.f]
abbrev tokV (t : Tok) : Value := .agg (tokC t)
theorem tokC_size (t : Tok) : (tokC t).size = 10 := rfl
theorem tokC_one (t : Tok) : (tokC t).all (·.oneCell') = true := by simp [tokC, Value.oneCell']
def BoxT (T : TypeId) (w : World) (g : Nat) (t : Tok) : Prop := w.heap[g]? = some (.cells (tokC t) T (0, 0))
section
variable {T : TypeId} {w w' : World} {g : Nat} {t : Tok}
theorem BoxT.lt (h : BoxT T w g t) : g < w.heap.size := lt_of_block h
theorem BoxT.below {B : Nat} (h : BoxT T w g t) (hb : Below B w w') (hg : g < B) : BoxT T w' g t := (hb.block g hg).trans h
theorem BoxT.alloc (h : BoxT T w g t) (o : Obj) : BoxT T (w.alloc o) g t := (Below.heap_alloc _ _ _ h.lt).trans h
theorem BoxT.row (h : BoxT T w g t) {k : Nat} (cs : Array Value) (hk : g ≠ k) : BoxT T (w.setRow k cs) g t := (setRow_other w k g cs hk).trans h
theorem BoxT.rowSame (h : BoxT T w g t) (u : Tok) : BoxT T (w.setRow g (tokC u)) g u := setRow_heap w g _ _ _ _ h
theorem BoxT.new (w : World) (t : Tok) : BoxT T (w.alloc (.cells (tokC t) T)) w.heap.size t := heap_alloc_new _ _
end
theorem sizeTok : (Tryz.prog.info? 115).map (·.size) = some 10 := by kernel_rfl
theorem sizeSet : (Tryz.prog.info? 74).map (·.size) = some 4 := by kernel_rfl
theorem resT2 {fn : Func} {p u : Tmp} (h : fn.results = #[.cell p 115, .tmp u]) (tmps : Array Value) {w : World} {g : Nat} {t : Tok} {v : Value} (hp : tmps.getD p undef = .pointer (some ⟨g, 0, none⟩)) (hv : tmps.getD u undef = v) (hg : BoxT 115 w g t) :
  (results fn tmps).run Tryz.prog w = .ok (.tuple #[tokV t, v]) w := by
 have hp' : tmps[p]?.getD undef = .pointer (some ⟨g, 0, none⟩) := by simpa using hp
 have hv' : tmps[u]?.getD undef = v := by simpa using hv
 have hl := run_loadVar_row w g 115 115 (tokC t) (0, 0) _ hg Tryz.underlying115 rfl (by rw [tokC_size]; exact sizeTok)
 simp [results, h, hp', hv', asAddr, hl]
theorem resT3 {fn : Func} {p u u2 : Tmp} (h : fn.results = #[.cell p 115, .tmp u, .tmp u2]) (tmps : Array Value) {w : World} {g : Nat} {t : Tok} {v v2 : Value} (hp : tmps.getD p undef = .pointer (some ⟨g, 0, none⟩)) (hv : tmps.getD u undef = v) (hv2 : tmps.getD u2 undef = v2) (hg : BoxT 115 w g t) :
  (results fn tmps).run Tryz.prog w = .ok (.tuple #[tokV t, v, v2]) w := by
 have hp' : tmps[p]?.getD undef = .pointer (some ⟨g, 0, none⟩) := by simpa using hp
 have hv' : tmps[u]?.getD undef = v := by simpa using hv
 have hv2' : tmps[u2]?.getD undef = v2 := by simpa using hv2
 have hl := run_loadVar_row w g 115 115 (tokC t) (0, 0) _ hg Tryz.underlying115 rfl (by rw [tokC_size]; exact sizeTok)
 simp [results, h, hp', hv', hv2', asAddr, hl]
theorem resS2 {fn : Func} {p u : Tmp} (h : fn.results = #[.cell p 74, .tmp u]) (tmps : Array Value) {w : World} {g : Nat} {S : BitVec 256} {v : Value} (hp : tmps.getD p undef = .pointer (some ⟨g, 0, none⟩)) (hv : tmps.getD u undef = v) (hg : Box w g S) :
  (results fn tmps).run Tryz.prog w = .ok (.tuple #[setV S, v]) w := by
 have hp' : tmps[p]?.getD undef = .pointer (some ⟨g, 0, none⟩) := by simpa using hp
 have hv' : tmps[u]?.getD undef = v := by simpa using hv
 have hl := run_loadVar_row w g 74 74 _ (0, 0) _ hg Tryz.underlying74 rfl sizeSet
 simp [results, h, hp', hv', asAddr, hl, setV]
theorem resS3 {fn : Func} {p u u2 : Tmp} (h : fn.results = #[.cell p 74, .tmp u, .tmp u2]) (tmps : Array Value) {w : World} {g : Nat} {S : BitVec 256} {v v2 : Value} (hp : tmps.getD p undef = .pointer (some ⟨g, 0, none⟩)) (hv : tmps.getD u undef = v) (hv2 : tmps.getD u2 undef = v2) (hg : Box w g S) :
  (results fn tmps).run Tryz.prog w = .ok (.tuple #[setV S, v, v2]) w := by
 have hp' : tmps[p]?.getD undef = .pointer (some ⟨g, 0, none⟩) := by simpa using hp
 have hv' : tmps[u]?.getD undef = v := by simpa using hv
 have hv2' : tmps[u2]?.getD undef = v2 := by simpa using hv2
 have hl := run_loadVar_row w g 74 74 _ (0, 0) _ hg Tryz.underlying74 rfl sizeSet
 simp [results, h, hp', hv', hv2', asAddr, hl, setV]
section
variable {ops : Array Oper} {rest : List Oper} {o : Oper} {a : Act} {w : World} {Q : Exit → Act → World → Prop}
theorem loadT (hgd : o.guard = none) (x : Operand) (ho : o.op = .load 115 x) (g : Nat) (t : Tok) (hx : a.eval x = .pointer (some ⟨g, 0, none⟩)) (hg : BoxT 115 w g t)
  (h : wpList Tryz.prog ops Q rest (a.put o.dst (tokV t)) w) : wpList Tryz.prog ops Q (o :: rest) a w :=
 wpList_load_row hgd 115 x ho g hx _ _ _ _ hg Tryz.underlying115 rfl sizeTok h
theorem storeT (hgd : o.guard = none) (x y : Operand) (ho : o.op = .store 115 x y) (g : Nat) (s t : Tok) (hx : a.eval x = .pointer (some ⟨g, 0, none⟩)) (cs : Array Value) (hy : a.eval y = .agg cs) (hcs : cs = tokC t) (hg : BoxT 115 w g s)
  (h : wpList Tryz.prog ops Q rest (a.put o.dst undef) (w.setRow g (tokC t))) : wpList Tryz.prog ops Q (o :: rest) a w := by
 subst hcs
 exact wpList_store_row hgd 115 x y ho g _ hx hy _ _ hg sizeTok rfl (tokC_one t) h
end
end Go.Proofs.YteggpecbeagohaaGreatDoor
namespace Go.Proofs.YteggpecbeagohaaGreatDoor
section
variable {p : ByteArray} {i : Nat}
theorem tok_46 (h : bt p i = 46) : tokZ p i = (tok0 1, i + 1, 0) := by simp [tokZ, headsL, headF, headB, h]
theorem tok_94 (h : bt p i = 94) : tokZ p i = (tok0 2, i + 1, 0) := by simp [tokZ, headsL, headF, headB, h]
theorem tok_36 (h : bt p i = 36) : tokZ p i = (tok0 3, i + 1, 0) := by simp [tokZ, headsL, headF, headB, h]
theorem tok_124 (h : bt p i = 124) : tokZ p i = (tok0 6, i + 1, 0) := by simp [tokZ, headsL, headF, headB, h]
theorem tok_41 (h : bt p i = 41) : tokZ p i = (tok0 15, i + 1, 0) := by simp [tokZ, headsL, headF, headB, h]
theorem tok_93 (h : bt p i = 93) : tokZ p i = wrongT 3 := by simp [tokZ, headsL, headF, headB, h]
theorem tok_125 (h : bt p i = 125) : tokZ p i = wrongT 3 := by simp [tokZ, headsL, headF, headB, h]
theorem tok_91 (h : bt p i = 91) : tokZ p i = ({ tok0 0 with S := (classZ p i).1 }, (classZ p i).2.1, (classZ p i).2.2) := by simp [tokZ, headsL, headF, headB, h]
theorem tok_quant (h : bt p i = 42 ∨ bt p i = 43 ∨ bt p i = 63 ∨ bt p i = 123) : tokZ p i = quantZ p i := by
 rcases h with h | h | h | h <;> simp [tokZ, headsL, headF, headB, h]
theorem tok_open (h : bt p i = 40) (h2 : bt p (i + 1) ≠ 63) : tokZ p i = (tok0 7, i + 1, 0) := by simp [tokZ, headsL, headF, headB, h, h2]
theorem tok_open2 (h : bt p i = 40) (h2 : bt p (i + 1) = 63) : tokZ p i =
  if bt p (i + 2) = 58 then (tok0 8, i + 3, 0) else if bt p (i + 2) = 61 then (tok0 9, i + 3, 0) else if bt p (i + 2) = 33 then (tok0 10, i + 3, 0)
  else if bt p (i + 2) = 60 ∧ bt p (i + 3) = 61 then (tok0 11, i + 4, 0) else if bt p (i + 2) = 60 ∧ bt p (i + 3) = 33 then (tok0 12, i + 4, 0)
  else if bt p (i + 2) = 62 then (tok0 13, i + 3, 0) else flagsF p (p.size + 1) (i + 2) [] := by
 simp only [tokZ, headsL, headF, headB, h, h2, Nat.add_assoc, Nat.reduceAdd]
 by_cases a : bt p (i + 2) = 58
 ·simp [a]
 ·by_cases b : bt p (i + 2) = 61
  ·simp [b]
  ·by_cases c : bt p (i + 2) = 33
   ·simp [c]
   ·by_cases d : bt p (i + 2) = 60
    ·by_cases e : bt p (i + 3) = 61
     ·simp [d, e]
     ·by_cases f : bt p (i + 3) = 33
      ·simp [d, f]
      ·simp [d, e, f]
    ·by_cases e : bt p (i + 2) = 62
     ·simp [e]
     ·simp [a, b, c, d, e]
theorem tok_esc (h : bt p i = 92) : tokZ p i =
  if bt p (i + 1) = 98 then (tok0 4, i + 2, 0) else if bt p (i + 1) = 66 then (tok0 5, i + 2, 0)
  else if 49 ≤ bt p (i + 1) ∧ bt p (i + 1) ≤ 57 then ({ tok0 17 with n := (bt p (i + 1) : Int) - 48 }, i + 2, 0)
  else if (escZ p i).2 = 0 then wrongT 3 else ({ tok0 0 with S := (escZ p i).1 }, (escZ p i).2, 0) := by
 by_cases a : bt p (i + 1) = 98
 ·simp [tokZ, headsL, headF, headB, h, a]
 ·by_cases b : bt p (i + 1) = 66
  ·simp [tokZ, headsL, headF, headB, h, b]
  ·simp [tokZ, headsL, headF, headB, h, a, b]
theorem tok_byte (h : ∀ c ∈ [46, 94, 36, 124, 41, 40, 42, 43, 63, 123, 91, 93, 125, 92], bt p i ≠ c) : tokZ p i = ({ tok0 0 with S := oneS (bt p i) }, i + 1, 0) := by
 simp only [List.mem_cons, List.mem_nil_iff, or_false, forall_eq_or_imp, forall_eq] at h
 simp [tokZ, headsL, headF, headB, h]
end
def isF (c : Nat) : Bool := c == 105 || c == 109 || c == 115
theorem flags_colon {p : ByteArray} {f i : Nat} {l : List UInt8} (hi : i < p.size) (hb : bt p i = 58) (hl : l ≠ []) : flagsF p (f + 1) i l = ({ tok0 14 with f := ⟨l.toArray⟩ }, i + 1, 0) := by
 rw [flagsF, dif_pos hi, if_pos ⟨hb, hl⟩]
theorem flags_bad {p : ByteArray} {f i : Nat} {l : List UInt8} (hb : isF (bt p i) = false) (hc : bt p i ≠ 58) : flagsF p (f + 1) i l = wrongT 3 := by
 rw [flagsF]
 split
 ·rw [if_neg (by omega)]
  simp only [isF, Bool.or_eq_false_iff, beq_eq_false_iff_ne] at hb
  rw [if_pos ⟨hb.1.1, hb.1.2, hb.2⟩]
 ·rfl
theorem flags_twice {p : ByteArray} {f i : Nat} {l : List UInt8} (hi : i < p.size) (hc : bt p i ≠ 58) (hm : p[i] ∈ l) : flagsF p (f + 1) i l = wrongT 3 := by
 rw [flagsF, dif_pos hi, if_neg (by omega), if_pos hm]
 split <;> rfl
theorem flags_next {p : ByteArray} {f i : Nat} {l : List UInt8} (hi : i < p.size) (hb : isF (bt p i) = true) (hm : ¬ p[i] ∈ l) : flagsF p (f + 1) i l = flagsF p f (i + 1) (l ++ [p[i]]) := by
 have h1 : bt p i = 105 ∨ bt p i = 109 ∨ bt p i = 115 := by
  simp only [isF, Bool.or_eq_true, beq_iff_eq] at hb
  omega
 rw [flagsF, dif_pos hi, if_neg (by omega), if_neg (by omega), if_neg hm]
theorem flags_end {p : ByteArray} {f i : Nat} {l : List UInt8} (hi : p.size ≤ i) : flagsF p f i l = wrongT 3 := by
 cases f with
 | zero => rfl
 | succ f => rw [flagsF, dif_neg (by omega)]
theorem flags_colon0 {p : ByteArray} {f i : Nat} (hb : bt p i = 58) : flagsF p (f + 1) i [] = wrongT 3 := by
 rw [flagsF]
 split
 ·rw [if_neg (by simp), if_pos (by omega)]
 ·rfl
theorem mem_pre {s : ByteArray} {k : Nat} {c : UInt8} (hk : k ≤ s.size) : c ∈ (s.extract 0 k).data.toList ↔ ∃ j, j < k ∧ bt s j = c.toNat := by
 rw [List.mem_iff_getElem]
 constructor
 ·rintro ⟨j, hj, he⟩
  have hj' : j < k := by simp at hj; omega
  refine ⟨j, hj', ?_⟩
  rw [bt_at (by omega), ← he]
  simp
  rfl
 ·rintro ⟨j, hj, he⟩
  refine ⟨j, by simp; omega, ?_⟩
  rw [bt_at (by omega)] at he
  have := UInt8.toNat_inj.1 he
  rw [← this]
  simp
  rfl
theorem pre_snoc {s : ByteArray} {k : Nat} (hk : k < s.size) : (s.extract 0 (k + 1)).data.toList = (s.extract 0 k).data.toList ++ [s[k]] := by
 apply List.ext_getElem
 ·simp; omega
 ·intro j h1 h2
  have hj : j < k + 1 := by simp at h1; omega
  rw [List.getElem_append]
  split
  ·simp
  ·rename_i h3
   have : j = k := by simp at h3; omega
   subst this
   simp
   rfl
def leadT (x : TokR) : ByteArray × Bool := if x.2.2 = 0 then (x.1.f, true) else (ByteArray.empty, false)
end Go.Proofs.YteggpecbeagohaaGreatDoor
namespace Go.Proofs.YteggpecbeagohaaGreatDoor
open Go.RowKit
def mdV (c : Nat) : Int := if c = 63 then 1 else if c = 43 then 2 else 0
def mdN (c : Nat) : Nat := if c = 63 ∨ c = 43 then 1 else 0
theorem ret_i2 {a b c d : Int} (h : a = b) (h2 : c = d) : Ending.returned (.tuple #[.int .i64 a, .int .i64 c]) = .returned (.tuple #[.int .i64 b, .int .i64 d]) := by rw [h, h2]
theorem mode_eq (p : ByteArray) (t : Tok) (i : Nat) (ht : t.md = 0) : modeZ p (t, i, 0) = ({ t with md := mdV (bt p i) }, i + mdN (bt p i), 0) := by
 unfold modeZ mdV mdN
 simp only []
 by_cases a : bt p i = 63
 ·simp [a]
 ·by_cases b : bt p i = 43
  ·simp [b]
  ·simp only [a, b, if_false, or_false, Nat.add_zero]
   rw [← ht]
theorem modeAt_any (p : ByteArray) (i : Nat) (w : World) (hp : p.size ≤ 1000000) (hi : i ≤ p.size) : Calls Tryz.prog 75 #[.string p, .int .i64 (i : Int)] w fun e w' => e = .returned (.tuple #[.int .i64 (mdV (bt p i)), .int .i64 ((i + mdN (bt p i) : Nat) : Int)]) ∧ w = w' := by
 have g1 : (0 : Int) ≤ (i : Int) := by omega
 have g2 : (i : Int) ≤ (p.size : Int) := by omega
 have HP := Lib.hid (fun w => prefix_any (p.extract i p.size) ⟨#[63]⟩ [63] w rfl)
 have HQ := Lib.hid (fun w => prefix_any (p.extract i p.size) ⟨#[43]⟩ [43] w rfl)
 have e1 : headB (p.extract i p.size) 0 [63] = (bt p i == 63) := by rw [head_ext hi]; simp [headB]
 have e2 : headB (p.extract i p.size) 0 [43] = (bt p i == 43) := by rw [head_ext hi]; simp [headB]
 rw [e1] at HP
 rw [e2] at HQ
 clear e1 e2
 revert HP HQ
 generalize bt p i = c
 intro HP HQ
 by_cases a : c = 63
 ·rw [beq_iff_eq.2 a] at HP
  rw [show mdV c = 1 by unfold mdV; rw [if_pos a], show mdN c = 1 by unfold mdN; rw [if_pos (.inl a)]]
  clear a HQ
  go_enter Tryz.func75, Tryz.ntmps75
  go_wp2_with fail
  refine (HP.out _).mono ?_
  rintro e w1 ⟨rfl, rfl⟩
  go_wp2_with fail
  go_ret2
  exact ⟨ret_i2 rfl (by omega), rfl⟩
 ·rw [beq_eq_false_iff_ne.2 a] at HP
  by_cases b : c = 43
  ·rw [beq_iff_eq.2 b] at HQ
   rw [show mdV c = 2 by unfold mdV; rw [if_neg a, if_pos b], show mdN c = 1 by unfold mdN; rw [if_pos (.inr b)]]
   clear a b
   go_enter Tryz.func75, Tryz.ntmps75
   go_wp2_with fail
   refine (HP.out _).mono ?_
   rintro e w1 ⟨rfl, rfl⟩
   go_wp2_with fail
   refine (HQ.out _).mono ?_
   rintro e w1 ⟨rfl, rfl⟩
   go_wp2_with fail
   go_ret2
   exact ⟨ret_i2 rfl (by omega), rfl⟩
  ·rw [beq_eq_false_iff_ne.2 b] at HQ
   rw [show mdV c = 0 by unfold mdV; rw [if_neg a, if_neg b], show mdN c = 0 by unfold mdN; rw [if_neg (by omega)]]
   clear a b
   go_enter Tryz.func75, Tryz.ntmps75
   go_wp2_with fail
   refine (HP.out _).mono ?_
   rintro e w1 ⟨rfl, rfl⟩
   go_wp2_with fail
   refine (HQ.out _).mono ?_
   rintro e w1 ⟨rfl, rfl⟩
   go_wp2_with fail
   go_ret2
   exact ⟨ret_i2 rfl (by omega), rfl⟩
def askT (c : Nat) : Tok × Bool := if c = 98 then (tok0 4, true) else if c = 66 then (tok0 5, true) else if 49 ≤ c ∧ c ≤ 57 then ({ tok0 17 with n := (c : Int) - 48 }, true) else (tok0 0, false)
theorem newT {w : World} {cs : Array Value} {t : Tok} (h : cs = tokC t) : BoxT 115 (w.alloc (.cells cs 115)) w.heap.size t := by rw [h]; exact BoxT.new _ _
set_option maxHeartbeats 2000000 in
theorem asking_any (s : ByteArray) (w : World) (hs : s.size ≤ 1000000) : Calls Tryz.prog 50 #[.string s] w fun e w' => e = .returned (.tuple #[tokV (askT (bt s 0)).1, .bool (askT (bt s 0)).2]) ∧ Below w.heap.size w w' := by
 by_cases h0 : s.size = 0
 ·have he := str_empty h0
  subst he
  clear h0 hs
  rw [show askT (bt ByteArray.empty 0) = (tok0 0, false) from rfl]
  have hE : (ByteArray.empty.toList == []) = true := by rw [ByteArray.toList_eq]; rfl
  go_enter Tryz.func50, Tryz.ntmps50
  go_wp2_with fail
  refine bodyPost_ret (resT2 (p := 2) (u := 3) (t := tok0 0) (v := .bool false) rfl _ (g := w.heap.size) rfl rfl (newT (by first | rfl | (simp [tokC, tok0, W_zero]; rfl) | simp [tokC, tok0, W_zero]))) rfl ⟨rfl, (Below.refl _ w).alloc (Nat.le_refl _) _⟩
 ·have hne := str_ne h0
  have h1 : 0 < s.size := by omega
  obtain ⟨c, hc⟩ : ∃ c, c = (s[0]'h1).toNat := ⟨_, rfl⟩
  have hb : bt s 0 = c := by rw [hc]; exact bt_at h1
  rw [hb]
  have h256 : c < 256 := by rw [hc]; exact (s[0]'h1).toNat_lt
  clear hb h0
  by_cases a : c = 98
  ·rw [show askT c = (tok0 4, true) by unfold askT; rw [if_pos a]]
   have q : (c : Int) = 98 := by omega
   rw [hc] at q
   clear hc a h256
   go_enter Tryz.func50, Tryz.ntmps50
   go_wp2_with fail
   refine bodyPost_ret (resT2 (p := 2) (u := 3) (t := tok0 4) (v := .bool true) rfl _ (g := w.heap.size) rfl rfl (newT (by first | rfl | (simp [tokC, tok0, W_zero]; rfl) | simp [tokC, tok0, W_zero]))) rfl ⟨rfl, (Below.refl _ w).alloc (Nat.le_refl _) _⟩
  ·have q : ¬ (c : Int) = 98 := by omega
   by_cases b : c = 66
   ·rw [show askT c = (tok0 5, true) by unfold askT; rw [if_neg a, if_pos b]]
    have q2 : (c : Int) = 66 := by omega
    rw [hc] at q q2
    clear hc a b h256
    go_enter Tryz.func50, Tryz.ntmps50
    go_wp2_with fail
    refine bodyPost_ret (resT2 (p := 2) (u := 3) (t := tok0 5) (v := .bool true) rfl _ (g := w.heap.size) rfl rfl (newT (by first | rfl | (simp [tokC, tok0, W_zero]; rfl) | simp [tokC, tok0, W_zero]))) rfl ⟨rfl, (Below.refl _ w).alloc (Nat.le_refl _) _⟩
   ·have q2 : ¬ (c : Int) = 66 := by omega
    by_cases d : 49 ≤ c ∧ c ≤ 57
    ·rw [show askT c = ({ tok0 17 with n := (c : Int) - 48 }, true) by unfold askT; rw [if_neg a, if_neg b, if_pos d]]
     have q3 : (49 : Int) ≤ (c : Int) := by omega
     have q4 : (c : Int) ≤ 57 := by omega
     rw [hc] at q q2 q3 q4
     clear a b d h256
     rw [hc]
     clear hc
     go_enter Tryz.func50, Tryz.ntmps50
     go_wp2_with fail
     refine bodyPost_ret (resT2 (p := 2) (u := 3) (t := { tok0 17 with n := ((s[0]'h1).toNat : Int) - 48 }) (v := .bool true) rfl _ (g := w.heap.size) rfl rfl (newT (by first | rfl | (simp [tokC, tok0, W_zero]; rfl) | simp [tokC, tok0, W_zero]))) rfl ⟨rfl, (Below.refl _ w).alloc (Nat.le_refl _) _⟩
    ·rw [show askT c = (tok0 0, false) by unfold askT; rw [if_neg a, if_neg b, if_neg d]]
     rcases (show c < 49 ∨ 57 < c by omega) with d | d
     ·have q3 : ¬ (49 : Int) ≤ (c : Int) := by omega
      rw [hc] at q q2 q3
      clear a b d h256 hc
      go_enter Tryz.func50, Tryz.ntmps50
      go_wp2_with fail
      refine bodyPost_ret (resT2 (p := 2) (u := 3) (t := tok0 0) (v := .bool false) rfl _ (g := w.heap.size) rfl rfl (newT (by first | rfl | (simp [tokC, tok0, W_zero]; rfl) | simp [tokC, tok0, W_zero]))) rfl ⟨rfl, (Below.refl _ w).alloc (Nat.le_refl _) _⟩
     ·have q3 : (49 : Int) ≤ (c : Int) := by omega
      have q4 : ¬ (c : Int) ≤ 57 := by omega
      rw [hc] at q q2 q3 q4
      clear a b d h256 hc
      go_enter Tryz.func50, Tryz.ntmps50
      go_wp2_with fail
      refine bodyPost_ret (resT2 (p := 2) (u := 3) (t := tok0 0) (v := .bool false) rfl _ (g := w.heap.size) rfl rfl (newT (by first | rfl | (simp [tokC, tok0, W_zero]; rfl) | simp [tokC, tok0, W_zero]))) rfl ⟨rfl, (Below.refl _ w).alloc (Nat.le_refl _) _⟩
end Go.Proofs.YteggpecbeagohaaGreatDoor
namespace Go.Proofs.YteggpecbeagohaaGreatDoor
open Go.RowKit
theorem quant_63 {p : ByteArray} {i : Nat} (h : bt p i = 63) : quantZ p i = ({ tok0 16 with mx := 1, md := mdV (bt p (i + 1)) }, i + 1 + mdN (bt p (i + 1)), 0) := by
 unfold quantZ
 rw [if_neg (by omega), mode_eq _ _ _ rfl, if_neg (by omega), if_pos h]
 rfl
theorem quant_43 {p : ByteArray} {i : Nat} (h : bt p i = 43) : quantZ p i = ({ tok0 16 with mn := 1, mx := -1, md := mdV (bt p (i + 1)) }, i + 1 + mdN (bt p (i + 1)), 0) := by
 unfold quantZ
 rw [if_neg (by omega), mode_eq _ _ _ rfl, if_pos h, if_neg (by omega)]
theorem quant_42 {p : ByteArray} {i : Nat} (h : bt p i = 42) : quantZ p i = ({ tok0 16 with mx := -1, md := mdV (bt p (i + 1)) }, i + 1 + mdN (bt p (i + 1)), 0) := by
 unfold quantZ
 rw [if_neg (by omega), mode_eq _ _ _ rfl, if_neg (by omega), if_neg (by omega)]
 rfl
abbrev tenW (w : World) (g : Nat) (v0 v1 v2 v3 v4 v5 v6 v7 v8 v9 : Value) : World := (((((((((w.setCell ⟨g, 0, none⟩ v0).setCell ⟨g, 1, none⟩ v1).setCell ⟨g, 2, none⟩ v2).setCell ⟨g, 3, none⟩ v3).setCell ⟨g, 4, none⟩ v4).setCell ⟨g, 5, none⟩ v5).setCell ⟨g, 6, none⟩ v6).setCell ⟨g, 7, none⟩ v7).setCell ⟨g, 8, none⟩ v8).setCell ⟨g, 9, none⟩ v9
theorem ten_set {cs : Array Value} (h : cs.size = 10) (v0 v1 v2 v3 v4 v5 v6 v7 v8 v9 : Value) :
  (((((((((cs.setIfInBounds 0 v0).setIfInBounds 1 v1).setIfInBounds 2 v2).setIfInBounds 3 v3).setIfInBounds 4 v4).setIfInBounds 5 v5).setIfInBounds 6 v6).setIfInBounds 7 v7).setIfInBounds 8 v8).setIfInBounds 9 v9 = #[v0, v1, v2, v3, v4, v5, v6, v7, v8, v9] := by
 cases cs with
 | mk l => match l, h with
   | [a0, a1, a2, a3, a4, a5, a6, a7, a8, a9], _ => simp
theorem row_ten {T : TypeId} {w : World} {g : Nat} {cs : Array Value} (hs : cs.size = 10) (h : w.heap[g]? = some (.cells cs T (0, 0))) (v0 v1 v2 v3 v4 v5 v6 v7 v8 v9 : Value) : (tenW w g v0 v1 v2 v3 v4 v5 v6 v7 v8 v9).heap[g]? = some (.cells #[v0, v1, v2, v3, v4, v5, v6, v7, v8, v9] T (0, 0)) := by
 rw [← ten_set hs v0 v1 v2 v3 v4 v5 v6 v7 v8 v9]
 exact heap_setCell_same _ g 9 _ _ v9 (heap_setCell_same _ g 8 _ _ v8 (heap_setCell_same _ g 7 _ _ v7 (heap_setCell_same _ g 6 _ _ v6 (heap_setCell_same _ g 5 _ _ v5 (heap_setCell_same _ g 4 _ _ v4 (heap_setCell_same _ g 3 _ _ v3 (heap_setCell_same _ g 2 _ _ v2 (heap_setCell_same _ g 1 _ _ v1 (heap_setCell_same _ g 0 _ _ v0 h)))))))))
theorem BoxT.ten {T : TypeId} {w : World} {g : Nat} {t u : Tok} {v0 v1 v2 v3 v4 v5 v6 v7 v8 v9 : Value} (h : BoxT T w g t) (hu : #[v0, v1, v2, v3, v4, v5, v6, v7, v8, v9] = tokC u) : BoxT T (tenW w g v0 v1 v2 v3 v4 v5 v6 v7 v8 v9) g u := by
 unfold BoxT
 rw [← hu]
 exact row_ten (tokC_size t) h _ _ _ _ _ _ _ _ _ _
theorem below_ten {B : Nat} {a w : World} (h : Below B a w) {g : Nat} (hg : B ≤ g) (v0 v1 v2 v3 v4 v5 v6 v7 v8 v9 : Value) : Below B a (tenW w g v0 v1 v2 v3 v4 v5 v6 v7 v8 v9) :=
 (((((((((h.setCell (p := ⟨g, 0, none⟩) hg _).setCell (p := ⟨g, 1, none⟩) hg _).setCell (p := ⟨g, 2, none⟩) hg _).setCell (p := ⟨g, 3, none⟩) hg _).setCell (p := ⟨g, 4, none⟩) hg _).setCell (p := ⟨g, 5, none⟩) hg _).setCell (p := ⟨g, 6, none⟩) hg _).setCell (p := ⟨g, 7, none⟩) hg _).setCell (p := ⟨g, 8, none⟩) hg _).setCell (p := ⟨g, 9, none⟩) hg _
theorem BoxT.cell {T : TypeId} {w : World} {g k : Nat} {t : Tok} (h : BoxT T w g t) (v : Value) (hg : g ≠ k) (j : Nat) : BoxT T (w.setCell ⟨k, j, none⟩ v) g t := (heap_setCell_other w ⟨k, j, none⟩ g v hg).trans h
theorem quant_brace {p : ByteArray} {i e : Nat} {C : Int × Int × Int} (h : bt p i = 123) (he : bracesZ p i = braceT C e) : quantZ p i = if C.2.2 = 0 then ({ tok0 16 with mn := C.1, mx := C.2.1, md := mdV (bt p (e + 1)) }, e + 1 + mdN (bt p (e + 1)), 0) else wrongT C.2.2 := by
 obtain ⟨a, b, c⟩ := C
 unfold quantZ
 rw [if_pos h, he]
 by_cases h0 : c = 0
 ·subst h0
  have h1 : braceT (a, b, 0) e = ({ tok0 16 with mn := a, mx := b }, e + 1, 0) := by unfold braceT; rw [if_neg (by simp)]
  rw [h1, if_pos rfl, mode_eq _ _ _ rfl, if_pos rfl]
 ·have h1 : braceT (a, b, c) e = wrongT c := by unfold braceT; rw [if_pos h0]
  rw [h1, if_neg (show ¬ (wrongT c).2.2 = 0 from h0), if_neg (show ¬ (a, b, c).2.2 = 0 from h0)]
  rfl
theorem newT2 {w : World} {cs : Array Value} {t : Tok} {o : Obj} (h : cs = tokC t) : BoxT 115 ((w.alloc (.cells cs 115)).alloc o) w.heap.size t := (newT h).alloc o
theorem below2 (w : World) (a b : Obj) : Below w.heap.size w ((w.alloc a).alloc b) := ((Below.refl _ w).alloc (Nat.le_refl _) _).alloc (by simp) _
set_option maxHeartbeats 2000000 in
theorem quant_any (p : ByteArray) (i : Nat) (w : World) (hp : p.size ≤ 1000000) (hi : i < p.size) (hq : bt p i = 42 ∨ bt p i = 43 ∨ bt p i = 63 ∨ bt p i = 123) :
  Calls Tryz.prog 48 #[.string p, .int .i64 (i : Int)] w fun e w' => e = .returned (.tuple #[tokV (quantZ p i).1, .int .i64 ((quantZ p i).2.1 : Nat), .int .i64 (quantZ p i).2.2]) ∧ Below w.heap.size w w' := by
 have hii : (i : Int) < (p.size : Int) := by omega
 have hbt : bt p i = (p[i]'hi).toNat := bt_at hi
 rcases hq with h | h | h | h
 ·have HM : Hid (∀ w, Calls Tryz.prog 75 #[.string p, .int .i64 ((i : Int) + 1)] w fun e w' => e = .returned (.tuple #[.int .i64 (mdV (bt p (i + 1))), .int .i64 ((i : Int) + 1 + (mdN (bt p (i + 1)) : Nat))]) ∧ w = w') := Lib.hid (fun w => modeAt_any p (i + 1) w hp (by omega))
  rw [quant_42 h]
  rw [hbt] at h
  have q : ((p[i]'hi).toNat : Int) = 42 := by omega
  clear h hbt
  simp only []
  revert HM
  generalize mdV (bt p (i + 1)) = mv
  generalize mdN (bt p (i + 1)) = mn
  intro HM
  go_enter Tryz.func48, Tryz.ntmps48
  go_wp2_with fail
  refine (HM.out _).mono ?_
  rintro e w1 ⟨rfl, rfl⟩
  go_wp2_with fail
  refine bodyPost_ret (resT3 (p := 4) (u := 5) (u2 := 6) (t := { tok0 16 with mx := -1, md := mv }) (v := .int .i64 ((i : Int) + 1 + (mn : Nat))) (v2 := .int .i64 0) rfl _ (g := w.heap.size) rfl rfl rfl (newT2 (by simp [tokC, tok0, W_zero]; rfl))) rfl ⟨rfl, below2 w _ _⟩
 ·have HM : Hid (∀ w, Calls Tryz.prog 75 #[.string p, .int .i64 ((i : Int) + 1)] w fun e w' => e = .returned (.tuple #[.int .i64 (mdV (bt p (i + 1))), .int .i64 ((i : Int) + 1 + (mdN (bt p (i + 1)) : Nat))]) ∧ w = w') := Lib.hid (fun w => modeAt_any p (i + 1) w hp (by omega))
  rw [quant_43 h]
  rw [hbt] at h
  have q : ((p[i]'hi).toNat : Int) = 43 := by omega
  clear h hbt
  simp only []
  revert HM
  generalize mdV (bt p (i + 1)) = mv
  generalize mdN (bt p (i + 1)) = mn
  intro HM
  go_enter Tryz.func48, Tryz.ntmps48
  go_wp2_with fail
  refine (HM.out _).mono ?_
  rintro e w1 ⟨rfl, rfl⟩
  go_wp2_with fail
  refine bodyPost_ret (resT3 (p := 4) (u := 5) (u2 := 6) (t := { tok0 16 with mn := 1, mx := -1, md := mv }) (v := .int .i64 ((i : Int) + 1 + (mn : Nat))) (v2 := .int .i64 0) rfl _ (g := w.heap.size) rfl rfl rfl (newT2 (by simp [tokC, tok0, W_zero]; rfl))) rfl ⟨rfl, below2 w _ _⟩
 ·have HM : Hid (∀ w, Calls Tryz.prog 75 #[.string p, .int .i64 ((i : Int) + 1)] w fun e w' => e = .returned (.tuple #[.int .i64 (mdV (bt p (i + 1))), .int .i64 ((i : Int) + 1 + (mdN (bt p (i + 1)) : Nat))]) ∧ w = w') := Lib.hid (fun w => modeAt_any p (i + 1) w hp (by omega))
  rw [quant_63 h]
  rw [hbt] at h
  have q : ((p[i]'hi).toNat : Int) = 63 := by omega
  clear h hbt
  simp only []
  revert HM
  generalize mdV (bt p (i + 1)) = mv
  generalize mdN (bt p (i + 1)) = mn
  intro HM
  go_enter Tryz.func48, Tryz.ntmps48
  go_wp2_with fail
  refine (HM.out _).mono ?_
  rintro e w1 ⟨rfl, rfl⟩
  go_wp2_with fail
  refine bodyPost_ret (resT3 (p := 4) (u := 5) (u2 := 6) (t := { tok0 16 with mx := 1, md := mv }) (v := .int .i64 ((i : Int) + 1 + (mn : Nat))) (v2 := .int .i64 0) rfl _ (g := w.heap.size) rfl rfl rfl (newT2 (by simp [tokC, tok0, W_zero]; rfl))) rfl ⟨rfl, below2 w _ _⟩
 ·have hB := first_cases (p.extract (i + 1) p.size) 125
  rw [hbt] at h
  have q : ((p[i]'hi).toNat : Int) = 123 := by omega
  rw [← hbt] at h
  clear hbt
  have hes : (p.extract (i + 1) p.size).size = p.size - (i + 1) := ext_size (Nat.le_refl _)
  rcases hB with ⟨-, hn⟩ | ⟨k, -, hk, hbk, hn⟩
  ·have hz : quantZ p i = wrongT 3 := by
    unfold quantZ
    rw [if_pos h, braces_no (fun j hj => by have := hn (j - (i + 1)); rw [bt_ext _ (by omega), show i + 1 + (j - (i + 1)) = j by omega] at this; exact this)]
    rfl
   rw [hz]
   have HC := Lib.hid (fun w => cut_no (p.extract (i + 1) p.size) 125 w hn)
   have g3 : (0 : Int) ≤ (i : Int) + 1 := by omega
   have g4 : (i : Int) + 1 ≤ (p.size : Int) := by omega
   clear hz hn h hes
   go_enter Tryz.func48, Tryz.ntmps48
   go_wp2_with fail
   refine (HC.out _).mono ?_
   rintro e w1 ⟨rfl, hb1⟩
   obtain ⟨hc, hf⟩ := bcell hb1
   have HB1 := Lib.hid hb1
   clear hb1
   go_wp2_with fail
   have h0 : BoxT 115 w1 w.heap.size (tok0 0) := by
    refine BoxT.below (newT2 ?_) HB1.out ?_
    ·simp [tokC, tok0, W_zero]; rfl
    ·simp; omega
   refine bodyPost_ret (resT3 (p := 4) (u := 5) (u2 := 6) (t := tok0 0) (v := .int .i64 0) (v2 := .int .i64 3) rfl _ (g := w.heap.size) rfl rfl rfl (h0.ten (by simp [tokC, tok0, W_zero]; rfl))) rfl ⟨rfl, ?_⟩
   exact below_ten ((below2 w _ _).trans (HB1.out.mono (by simp; omega))) (Nat.le_refl _) _ _ _ _ _ _ _ _ _ _
  ·rw [hes] at hk
   have hbk' : bt p (i + 1 + k) = 125 := by rw [← bt_ext _ (by omega)]; exact hbk
   have he := braces_eq (p := p) (i := i) (e := i + 1 + k) (by omega) (by omega) hbk' (fun j h1 h2 => by have := hn (j - (i + 1)) (by omega); rw [bt_ext _ (by omega), show i + 1 + (j - (i + 1)) = j by omega] at this; exact this)
   have hx : (p.extract (i + 1) p.size).extract 0 k = p.extract (i + 1) (i + 1 + k) := by
    rw [ByteArray.extract_extract]; congr 1; omega
   have HC := Lib.hid (fun w => cut_at (p.extract (i + 1) p.size) 125 k w (by omega) (by omega) hbk hn)
   rw [hx] at HC
   have hins : (p.extract (i + 1) (i + 1 + k)).size = k := by rw [ext_size (by omega)]; omega
   have HN := Lib.hid (fun w => counts_any (p.extract (i + 1) (i + 1 + k)) w (by omega))
   have hz := quant_brace h he
   rw [hz]
   have HM : Hid (∀ w, Calls Tryz.prog 75 #[.string p, .int .i64 ((i : Int) + 1 + ((k : Int) + 1))] w fun e w' => e = .returned (.tuple #[.int .i64 (mdV (bt p (i + 1 + k + 1))), .int .i64 ((i : Int) + 1 + (k + 1) + (mdN (bt p (i + 1 + k + 1)) : Nat))]) ∧ w = w') := Lib.hid (fun w => by
    have := modeAt_any p (i + 1 + k + 1) w hp (by omega)
    rwa [show ((i + 1 + k + 1 + mdN (bt p (i + 1 + k + 1)) : Nat) : Int) = (i : Int) + 1 + (k + 1) + (mdN (bt p (i + 1 + k + 1)) : Nat) by omega, show ((i + 1 + k + 1 : Nat) : Int) = (i : Int) + 1 + ((k : Int) + 1) by omega] at this)
   clear hz hx he hbk hbk' hn h hes
   have hb0 : (mdN (bt p (i + 1 + k + 1))) ≤ 1 := by unfold mdN; split <;> omega
   revert HM HN HC hins hb0
   generalize mdV (bt p (i + 1 + k + 1)) = mv
   generalize mdN (bt p (i + 1 + k + 1)) = mn
   generalize cntsZ (p.extract (i + 1) (i + 1 + k)) = C
   generalize p.extract (i + 1) (i + 1 + k) = ins
   generalize (p.extract (i + 1) p.size).extract (k + 1) (p.extract (i + 1) p.size).size = rest
   intro HC hins HN HM hb0
   obtain ⟨a, b, e⟩ := C
   simp only [] at HN ⊢
   have g3 : (0 : Int) ≤ (i : Int) + 1 := by omega
   have g4 : (i : Int) + 1 ≤ (p.size : Int) := by omega
   have hki : k + 1 + i ≤ 1000000 := by omega
   by_cases h0 : e = 0
   ·rw [if_pos h0]
    subst h0
    have hx : ((i + 1 + k + 1 + mn : Nat) : Int) = (i : Int) + 1 + (k + 1) + (mn : Nat) := by omega
    rw [hx]
    clear hx
    go_enter Tryz.func48, Tryz.ntmps48
    go_wp2_with fail
    refine (HC.out _).mono ?_
    rintro e w1 ⟨rfl, hb1⟩
    obtain ⟨hc, hf⟩ := bcell hb1
    have HB1 := Lib.hid hb1
    clear hb1
    go_wp2_with fail
    refine (HN.out _).mono ?_
    rintro e w2 ⟨rfl, hb2⟩
    obtain ⟨hc2, hf2⟩ := bcell (thenB HB1.out hb2 HB1.out.size)
    have HB2 := Lib.hid (thenB HB1.out hb2 HB1.out.size)
    clear hb2 hc hf
    go_wp2_with fail
    refine (HM.out _).mono ?_
    rintro e w3 ⟨rfl, rfl⟩
    go_wp2_with fail
    have h0 : BoxT 115 w2 w.heap.size (tok0 0) := by
     refine BoxT.below (newT2 ?_) HB2.out ?_
     ·simp [tokC, tok0, W_zero]; rfl
     ·simp; omega
    have h1 := ((h0.cell (.int .i64 a) (show w.heap.size ≠ w.heap.size + 1 by omega) 5).cell (.int .i64 b) (show w.heap.size ≠ w.heap.size + 1 by omega) 6).cell (.int .i64 mv) (show w.heap.size ≠ w.heap.size + 1 by omega) 7
    refine bodyPost_ret (resT3 (p := 4) (u := 5) (u2 := 6) (t := { tok0 16 with mn := a, mx := b, md := mv }) (v := .int .i64 ((i : Int) + 1 + ((k : Int) + 1) + (mn : Nat))) (v2 := .int .i64 0) rfl _ (g := w.heap.size) rfl rfl rfl (h1.ten (by simp [tokC, tok0, W_zero]; rfl))) rfl ⟨rfl, ?_⟩
    exact below_ten (((((below2 w _ _).trans (HB2.out.mono (by simp; omega))).setCell (p := ⟨w.heap.size + 1, 5, none⟩) (by simp) _).setCell (p := ⟨w.heap.size + 1, 6, none⟩) (by simp) _).setCell (p := ⟨w.heap.size + 1, 7, none⟩) (by simp) _) (Nat.le_refl _) _ _ _ _ _ _ _ _ _ _
   ·rw [if_neg h0]
    go_enter Tryz.func48, Tryz.ntmps48
    go_wp2_with fail
    refine (HC.out _).mono ?_
    rintro e w1 ⟨rfl, hb1⟩
    obtain ⟨hc, hf⟩ := bcell hb1
    have HB1 := Lib.hid hb1
    clear hb1
    go_wp2_with fail
    refine (HN.out _).mono ?_
    rintro e w2 ⟨rfl, hb2⟩
    obtain ⟨hc2, hf2⟩ := bcell (thenB HB1.out hb2 HB1.out.size)
    have HB2 := Lib.hid (thenB HB1.out hb2 HB1.out.size)
    clear hb2 hc hf
    go_wp2_with fail
    have h0 : BoxT 115 w2 w.heap.size (tok0 0) := by
     refine BoxT.below (newT2 ?_) HB2.out ?_
     ·simp [tokC, tok0, W_zero]; rfl
     ·simp; omega
    have h1 := (h0.cell (.int .i64 a) (show w.heap.size ≠ w.heap.size + 1 by omega) 5).cell (.int .i64 b) (show w.heap.size ≠ w.heap.size + 1 by omega) 6
    refine bodyPost_ret (resT3 (p := 4) (u := 5) (u2 := 6) (t := tok0 0) (v := .int .i64 0) (v2 := .int .i64 e) rfl _ (g := w.heap.size) rfl rfl rfl (h1.ten (by simp [tokC, tok0, W_zero]; rfl))) rfl ⟨rfl, ?_⟩
    exact below_ten ((((below2 w _ _).trans (HB2.out.mono (by simp; omega))).setCell (p := ⟨w.heap.size + 1, 5, none⟩) (by simp) _).setCell (p := ⟨w.heap.size + 1, 6, none⟩) (by simp) _) (Nat.le_refl _) _ _ _ _ _ _ _ _ _ _
end Go.Proofs.YteggpecbeagohaaGreatDoor
