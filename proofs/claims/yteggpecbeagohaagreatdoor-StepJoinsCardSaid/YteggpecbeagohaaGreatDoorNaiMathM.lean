import Derived.Test.YteggpecbeagohaaGreatDoorCapAgain
import Derived.Test.YteggpecbeagohaaGreatDoorAstAM
import Derived.Test.YteggpecbeagohaaGreatDoorClassMM
import Derived.IntWalk
namespace Go.Proofs.YteggpecbeagohaaGreatDoor.Nai
open Ast (Nd)
open Cap (Cp withZ agB agN pcS pcB begB begB_iff)
def setN (x : Nd) : BitVec 256 := BitVec.ofNat 256 (x.s0.toNat + 2 ^ 64 * x.s1.toNat + 2 ^ 128 * x.s2.toNat + 2 ^ 192 * x.s3.toNat)
def hasN (x : Nd) (c : Nat) : Bool := mem (setN x) c
theorem ag_le (c : Cp) (s : ByteArray) (g : Int) (z : Nat) (fold : Bool) (h : agB c s g z fold = true) : z + agN c s g z fold ≤ s.size ∧ 0 ≤ agN c s g z fold := by
 unfold agN
 rw [if_pos h]
 unfold agB at h
 simp only [Bool.and_eq_true, decide_eq_true_eq] at h
 obtain ⟨_, h1, h2, h3⟩ := h
 have h4 := ((begB_iff _ _ _).1 h3).1
 rw [ByteArray.size_extract] at h4
 omega
abbrev Sp := Nat × Cp
def RepOk (mn mx : Int) : Prop := mx < 0 ∨ mn ≤ mx
inductive Re where
 | leaf (x : Nd)
 | one (x : Nd) (bk : Nat) (a : Re)
 | two (x : Nd) (a b : Re)
def wordB (c : Nat) : Bool := (decide (97 ≤ c) && decide (c ≤ 122)) || ((decide (65 ≤ c) && decide (c ≤ 90)) || ((decide (48 ≤ c) && decide (c ≤ 57)) || decide (c = 95)))
abbrev byteN (s : ByteArray) (i : Nat) : Nat := Cap.byB s i
def edgeB (s : ByteArray) (p : Nat) : Bool := (decide (0 < p) && wordB (byteN s (p - 1))) != (decide (p < s.size) && wordB (byteN s p))
def holdB (s : ByteArray) (k : Int) (p : Nat) : Bool :=
 if k = 2 then decide (p = 0)
 else if k = 3 then decide (p = s.size)
 else if k = 4 then decide (p = 0) || decide (byteN s (p - 1) = 10)
 else if k = 5 then decide (p = s.size) || decide (byteN s p = 10)
 else if k = 6 then edgeB s p
 else if k = 7 then !edgeB s p
 else false
def most (n : Nat) (mn mx : Int) : Nat := if 0 ≤ mx then min (mn.toNat + n) mx.toNat else mn.toNat + n
end Go.Proofs.YteggpecbeagohaaGreatDoor.Nai
namespace Go.Proofs.YteggpecbeagohaaGreatDoor.Nai
open Go.RowKit
open Cap (ret_b byB byB_eq)
theorem word_any (c : Nat) (hc : c < 256) (w : World) : Calls Tryz.prog 149 #[.int .u8 (c : Int)] w fun e w' => e = .returned (.bool (wordB c)) ∧ w = w' := by
 go_enter Tryz.func149, Tryz.ntmps149
 go_wp2
 all_goals
  go_ret
  exact ⟨ret_b (by unfold wordB; rw [Bool.eq_iff_iff]; simp; omega), rfl⟩
set_option maxRecDepth 20000 in
theorem edge_any (s : ByteArray) (p : Nat) (hp : p ≤ s.size) (hs : s.size ≤ 1000000000) (w : World) : Calls Tryz.prog 125 #[.string s, .int .i64 (p : Int)] w fun e w' => e = .returned (.bool (edgeB s p)) ∧ w = w' := by
 unfold edgeB byteN
 by_cases h0 : 0 < p
 ·by_cases h1 : p < s.size
  ·have c0 : decide ((0 : Int) < (p : Int)) = true := decide_eq_true (by omega)
   have c1 : decide ((p : Int) < (s.size : Int)) = true := decide_eq_true (by omega)
   rw [decide_eq_true h0, decide_eq_true h1]
   have k0 : p - 1 < s.size := by omega
   have e0 := byB_eq k0
   obtain ⟨j, rfl⟩ : ∃ j, p = j + 1 := ⟨p - 1, by omega⟩
   simp only [Nat.add_sub_cancel] at k0 e0 ⊢
   have W0 := Lib.hid (fun w => word_any (byB s j) (by rw [e0]; exact s[j].toNat_lt) w)
   rw [e0] at W0 ⊢
   have i0 : (j : Int) < (s.size : Int) := by omega
   have k1 := h1
   have e1 := byB_eq h1
   have W1 := Lib.hid (fun w => word_any (byB s (j + 1)) (by rw [e1]; exact s[(j + 1)].toNat_lt) w)
   rw [e1] at W1 ⊢
   have i1 : ((j : Int) + 1) < (s.size : Int) := by omega
   have hz : (s.size : Int) ≤ 1000000000 := by omega
   clear hs hp
   go_enter Tryz.func125, Tryz.ntmps125
   go_wp2_with fail
   refine (W0.out _).mono ?_
   rintro e w' ⟨rfl, rfl⟩
   go_wp2_with fail
   refine (W1.out _).mono ?_
   rintro e w' ⟨rfl, rfl⟩
   go_wp2_with fail
   go_ret
   exact ⟨ret_b (by cases wordB s[j].toNat <;> cases wordB s[j + 1].toNat <;> rfl), rfl⟩
  ·have c0 : decide ((0 : Int) < (p : Int)) = true := decide_eq_true (by omega)
   have c1 : decide ((p : Int) < (s.size : Int)) = false := decide_eq_false (by omega)
   rw [decide_eq_true h0, decide_eq_false h1]
   have k0 : p - 1 < s.size := by omega
   have e0 := byB_eq k0
   obtain ⟨j, rfl⟩ : ∃ j, p = j + 1 := ⟨p - 1, by omega⟩
   simp only [Nat.add_sub_cancel] at k0 e0 ⊢
   have W0 := Lib.hid (fun w => word_any (byB s j) (by rw [e0]; exact s[j].toNat_lt) w)
   rw [e0] at W0 ⊢
   have i0 : (j : Int) < (s.size : Int) := by omega
   have hz : (s.size : Int) ≤ 1000000000 := by omega
   clear hs hp
   go_enter Tryz.func125, Tryz.ntmps125
   go_wp2_with fail
   refine (W0.out _).mono ?_
   rintro e w' ⟨rfl, rfl⟩
   go_wp2_with fail
   go_ret
   exact ⟨ret_b (by simp), rfl⟩
 ·by_cases h1 : p < s.size
  ·have c0 : decide ((0 : Int) < (p : Int)) = false := decide_eq_false (by omega)
   have c1 : decide ((p : Int) < (s.size : Int)) = true := decide_eq_true (by omega)
   rw [decide_eq_false h0, decide_eq_true h1]
   have k1 := h1
   have e1 := byB_eq h1
   have W1 := Lib.hid (fun w => word_any (byB s p) (by rw [e1]; exact s[p].toNat_lt) w)
   rw [e1] at W1 ⊢
   have i1 : (p : Int) < (s.size : Int) := by omega
   have hz : (s.size : Int) ≤ 1000000000 := by omega
   clear hs hp
   go_enter Tryz.func125, Tryz.ntmps125
   go_wp2_with fail
   refine (W1.out _).mono ?_
   rintro e w' ⟨rfl, rfl⟩
   go_wp2_with fail
   go_ret
   exact ⟨ret_b (by simp), rfl⟩
  ·have c0 : decide ((0 : Int) < (p : Int)) = false := decide_eq_false (by omega)
   have c1 : decide ((p : Int) < (s.size : Int)) = false := decide_eq_false (by omega)
   rw [decide_eq_false h0, decide_eq_false h1]
   have hz : (s.size : Int) ≤ 1000000000 := by omega
   clear hs hp
   go_enter Tryz.func125, Tryz.ntmps125
   go_wp2_with fail
   go_ret
   exact ⟨ret_b (by simp), rfl⟩
set_option maxRecDepth 20000 in
theorem hold_2 (s : ByteArray) (p : Nat) (hp : p ≤ s.size) (hs : s.size ≤ 1000000000) (w : World) : Calls Tryz.prog 97 #[.int .i64 2, .string s, .int .i64 (p : Int)] w fun e w' => e = .returned (.bool (holdB s 2 p)) ∧ w = w' := by
 have i0 : (0 : Int) ≤ (p : Int) := by omega
 have i1 : (p : Int) ≤ (s.size : Int) := by omega
 have hz : (s.size : Int) ≤ 1000000000 := by omega
 unfold holdB byteN
 by_cases h0 : p = 0
 ·subst h0
  go_enter Tryz.func97, Tryz.ntmps97
  go_wp2_with fail
  go_ret
  exact ⟨ret_b (by simp), rfl⟩
 ·have q : ((p : Int) == 0) = false := beq_eq_false_iff_ne.2 (by omega)
  clear hp hs
  go_enter Tryz.func97, Tryz.ntmps97
  go_wp2_with fail
  go_ret
  exact ⟨ret_b (by simp), rfl⟩
set_option maxRecDepth 20000 in
theorem hold_3 (s : ByteArray) (p : Nat) (hp : p ≤ s.size) (hs : s.size ≤ 1000000000) (w : World) : Calls Tryz.prog 97 #[.int .i64 3, .string s, .int .i64 (p : Int)] w fun e w' => e = .returned (.bool (holdB s 3 p)) ∧ w = w' := by
 have i0 : (0 : Int) ≤ (p : Int) := by omega
 have i1 : (p : Int) ≤ (s.size : Int) := by omega
 have hz : (s.size : Int) ≤ 1000000000 := by omega
 unfold holdB byteN
 by_cases h0 : p = s.size
 ·subst h0
  clear hp hs
  go_enter Tryz.func97, Tryz.ntmps97
  go_wp2_with fail
  go_ret
  exact ⟨ret_b (by simp), rfl⟩
 ·have q : ((p : Int) == (s.size : Int)) = false := beq_eq_false_iff_ne.2 (by omega)
  have H0 := Lib.hid h0
  clear hp hs h0
  go_enter Tryz.func97, Tryz.ntmps97
  go_wp2_with fail
  go_ret
  exact ⟨ret_b (by simp [H0.out]), rfl⟩
set_option maxRecDepth 20000 in
theorem hold_4 (s : ByteArray) (p : Nat) (hp : p ≤ s.size) (hs : s.size ≤ 1000000000) (w : World) : Calls Tryz.prog 97 #[.int .i64 4, .string s, .int .i64 (p : Int)] w fun e w' => e = .returned (.bool (holdB s 4 p)) ∧ w = w' := by
 have i0 : (0 : Int) ≤ (p : Int) := by omega
 have i1 : (p : Int) ≤ (s.size : Int) := by omega
 have hz : (s.size : Int) ≤ 1000000000 := by omega
 unfold holdB byteN
 by_cases h0 : p = 0
 ·subst h0
  go_enter Tryz.func97, Tryz.ntmps97
  go_wp2_with fail
  go_ret
  exact ⟨ret_b (by simp), rfl⟩
 ·obtain ⟨j, rfl⟩ : ∃ j, p = j + 1 := ⟨p - 1, by omega⟩
  have k0 : j < s.size := by omega
  have j1 : (j : Int) < (s.size : Int) := by omega
  have e0 := byB_eq k0
  rw [show j + 1 - 1 = j by omega, e0]
  have q : (((j + 1 : Nat) : Int) == 0) = false := beq_eq_false_iff_ne.2 (by omega)
  have q2 : ((j : Int) + 1 == 0) = false := beq_eq_false_iff_ne.2 (by omega)
  clear hp hs e0 h0
  go_enter Tryz.func97, Tryz.ntmps97
  go_wp2_with fail
  go_ret
  exact ⟨ret_b (by rw [Bool.eq_iff_iff]; simp; omega), rfl⟩
set_option maxRecDepth 20000 in
theorem hold_5 (s : ByteArray) (p : Nat) (hp : p ≤ s.size) (hs : s.size ≤ 1000000000) (w : World) : Calls Tryz.prog 97 #[.int .i64 5, .string s, .int .i64 (p : Int)] w fun e w' => e = .returned (.bool (holdB s 5 p)) ∧ w = w' := by
 have i0 : (0 : Int) ≤ (p : Int) := by omega
 have i1 : (p : Int) ≤ (s.size : Int) := by omega
 have hz : (s.size : Int) ≤ 1000000000 := by omega
 unfold holdB byteN
 by_cases h0 : p = s.size
 ·subst h0
  clear hp hs
  go_enter Tryz.func97, Tryz.ntmps97
  go_wp2_with fail
  go_ret
  exact ⟨ret_b (by simp), rfl⟩
 ·have k0 : p < s.size := by omega
  have j1 : (p : Int) < (s.size : Int) := by omega
  have e0 := byB_eq k0
  rw [e0]
  have q : ((p : Int) == (s.size : Int)) = false := beq_eq_false_iff_ne.2 (by omega)
  have H0 := Lib.hid h0
  clear hp hs e0 h0
  go_enter Tryz.func97, Tryz.ntmps97
  go_wp2_with fail
  go_ret
  exact ⟨ret_b (by have := H0.out; rw [Bool.eq_iff_iff]; simp [H0.out]; omega), rfl⟩
set_option maxRecDepth 20000 in
theorem hold_6 (s : ByteArray) (p : Nat) (hp : p ≤ s.size) (hs : s.size ≤ 1000000000) (w : World) : Calls Tryz.prog 97 #[.int .i64 6, .string s, .int .i64 (p : Int)] w fun e w' => e = .returned (.bool (holdB s 6 p)) ∧ w = w' := by
 have i0 : (0 : Int) ≤ (p : Int) := by omega
 have i1 : (p : Int) ≤ (s.size : Int) := by omega
 have hz : (s.size : Int) ≤ 1000000000 := by omega
 unfold holdB byteN
 have HE := Lib.hid (fun w => edge_any s p hp hs w)
 simp only [show ((6 : Int) = 2) = False from by decide, show ((6 : Int) = 3) = False from by decide, show ((6 : Int) = 4) = False from by decide, show ((6 : Int) = 5) = False from by decide, if_false, if_true]
 generalize edgeB s p = z at HE ⊢
 clear hp hs
 go_enter Tryz.func97, Tryz.ntmps97
 go_wp2_with fail
 refine (HE.out _).mono ?_
 rintro e w' ⟨rfl, rfl⟩
 go_wp2_with fail
 go_ret
 exact ⟨ret_b (by simp), rfl⟩
set_option maxRecDepth 20000 in
theorem hold_7 (s : ByteArray) (p : Nat) (hp : p ≤ s.size) (hs : s.size ≤ 1000000000) (w : World) : Calls Tryz.prog 97 #[.int .i64 7, .string s, .int .i64 (p : Int)] w fun e w' => e = .returned (.bool (holdB s 7 p)) ∧ w = w' := by
 have i0 : (0 : Int) ≤ (p : Int) := by omega
 have i1 : (p : Int) ≤ (s.size : Int) := by omega
 have hz : (s.size : Int) ≤ 1000000000 := by omega
 unfold holdB byteN
 have HE := Lib.hid (fun w => edge_any s p hp hs w)
 simp only [show ((7 : Int) = 2) = False from by decide, show ((7 : Int) = 3) = False from by decide, show ((7 : Int) = 4) = False from by decide, show ((7 : Int) = 5) = False from by decide, show ((7 : Int) = 6) = False from by decide, if_false, if_true]
 generalize edgeB s p = z at HE ⊢
 clear hp hs
 go_enter Tryz.func97, Tryz.ntmps97
 go_wp2_with fail
 refine (HE.out _).mono ?_
 rintro e w' ⟨rfl, rfl⟩
 go_wp2_with fail
 go_ret
 exact ⟨ret_b (by simp), rfl⟩
theorem hold_no (k : Int) (h2 : k ≠ 2) (h3 : k ≠ 3) (h4 : k ≠ 4) (h5 : k ≠ 5) (h6 : k ≠ 6) (h7 : k ≠ 7) (s : ByteArray) (p : Nat) (hp : p ≤ s.size) (_hs : s.size ≤ 1000000000) (w : World) : Calls Tryz.prog 97 #[.int .i64 k, .string s, .int .i64 (p : Int)] w fun e w' => e = .returned (.bool (holdB s k p)) ∧ w = w' := by
 have i0 : (0 : Int) ≤ (p : Int) := by omega
 have i1 : (p : Int) ≤ (s.size : Int) := by omega
 have q2 : (k == 2) = false := beq_eq_false_iff_ne.2 h2
 have q3 : (k == 3) = false := beq_eq_false_iff_ne.2 h3
 have q4 : (k == 4) = false := beq_eq_false_iff_ne.2 h4
 have q5 : (k == 5) = false := beq_eq_false_iff_ne.2 h5
 have q6 : (k == 6) = false := beq_eq_false_iff_ne.2 h6
 have q7 : (k == 7) = false := beq_eq_false_iff_ne.2 h7
 have e : holdB s k p = false := by unfold holdB; simp [h2, h3, h4, h5, h6, h7]
 rw [e]
 clear h2 h3 h4 h5 h6 h7 e hp _hs
 go_enter Tryz.func97, Tryz.ntmps97
 go_wp2_with fail
 go_ret
 exact ⟨rfl, rfl⟩
theorem hold_any (k : Int) (s : ByteArray) (p : Nat) (hp : p ≤ s.size) (hs : s.size ≤ 1000000000) (w : World) : Calls Tryz.prog 97 #[.int .i64 k, .string s, .int .i64 (p : Int)] w fun e w' => e = .returned (.bool (holdB s k p)) ∧ w = w' := by
 by_cases h2 : k = 2
 ·subst h2; exact hold_2 s p hp hs w
 ·by_cases h3 : k = 3
  ·subst h3; exact hold_3 s p hp hs w
  ·by_cases h4 : k = 4
   ·subst h4; exact hold_4 s p hp hs w
   ·by_cases h5 : k = 5
    ·subst h5; exact hold_5 s p hp hs w
    ·by_cases h6 : k = 6
     ·subst h6; exact hold_6 s p hp hs w
     ·by_cases h7 : k = 7
      ·subst h7; exact hold_7 s p hp hs w
      ·exact hold_no k h2 h3 h4 h5 h6 h7 s p hp hs w
end Go.Proofs.YteggpecbeagohaaGreatDoor.Nai
