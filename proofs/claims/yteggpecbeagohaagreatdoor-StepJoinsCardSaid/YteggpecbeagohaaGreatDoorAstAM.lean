import Derived.Test.YteggpecbeagohaaGreatDoorProg
import Derived.WalkSpells
import Derived.WalkLawsBesides
import Derived.Handy
import Derived.Lib.Hide
import Derived.Laws.StructEq
import Derived.ChangeKeysEq
namespace Go.Proofs.YteggpecbeagohaaGreatDoor.Ast
open Go.RowKit
theorem thenB {B : Nat} {w u v : World} (h : Below B w u) (hb : Below u.heap.size u v) (hB : B ≤ u.heap.size) : Below B w v := h.trans (hb.mono hB)
structure Nd where
 k : Int
 a : Int
 b : Int
 s0 : Int
 s1 : Int
 s2 : Int
 s3 : Int
 mn : Int
 mx : Int
 md : Int
 n : Int
 f : Bool
deriving DecidableEq
abbrev ndV (x : Nd) : Value := .agg #[.int .i64 x.k, .int .i64 x.a, .int .i64 x.b, .int .u64 x.s0, .int .u64 x.s1, .int .u64 x.s2, .int .u64 x.s3, .int .i64 x.mn, .int .i64 x.mx, .int .i64 x.md, .int .i64 x.n, .bool x.f]
def kidsZ (k : Int) : Int := if k = 8 ∨ k = 9 then 2 else if k = 10 ∨ k = 11 ∨ 13 ≤ k ∧ k ≤ 17 then 1 else 0
theorem ret_i {a b : Int} (h : a = b) : Ending.returned (.int .i64 a) = .returned (.int .i64 b) := by rw [h]
theorem ret_b {a b : Bool} (h : a = b) : Ending.returned (.bool a) = .returned (.bool b) := by rw [h]
theorem children_any (k : Int) (w : World) : Calls Tryz.prog 85 #[.int .i64 k] w fun e w' => e = .returned (.int .i64 (kidsZ k)) ∧ w = w' := by
 go_enter Tryz.func85, Tryz.ntmps85
 go_wp2
 all_goals
  go_ret
  exact ⟨ret_i (by unfold kidsZ; simp_all <;> omega), rfl⟩
def mvN (x : Nd) (n : Int) : Nd := if kidsZ x.k = 2 then { x with a := wrap64 (x.a + n), b := wrap64 (x.b + n) } else if kidsZ x.k = 1 then { x with a := wrap64 (x.a + n) } else x
theorem moved_any (x : Nd) (n : Int) (w : World) : Calls Tryz.prog 135 #[ndV x, .int .i64 n] w fun e w' => e = .returned (ndV (mvN x n)) ∧ Below w.heap.size w w' := by
 unfold mvN
 obtain ⟨k, hk⟩ : ∃ k, k = kidsZ x.k := ⟨_, rfl⟩
 rw [← hk]
 have HK := Lib.hid hk
 clear hk
 by_cases h2 : k = 2
 ·subst h2
  rw [if_pos rfl]
  go_enter Tryz.func135, Tryz.ntmps135
  go_wp2_with fail
  refine (children_any _ _).mono ?_
  rintro e w' ⟨rfl, rfl⟩
  rw [← HK.out]
  go_wp2_with fail
  exact bodyPost_ret (v := ndV _) (by simp [results, Tryz.results135, go_sem]) rfl ⟨rfl, by go_grown⟩
 ·rw [if_neg h2]
  by_cases h1 : k = 1
  ·subst h1
   rw [if_pos rfl]
   clear h2
   go_enter Tryz.func135, Tryz.ntmps135
   go_wp2_with fail
   refine (children_any _ _).mono ?_
   rintro e w' ⟨rfl, rfl⟩
   rw [← HK.out]
   go_wp2_with fail
   exact bodyPost_ret (v := ndV _) (by simp [results, Tryz.results135, go_sem]) rfl ⟨rfl, by go_grown⟩
  ·rw [if_neg h1]
   have q2 : (k == 2) = false := by simpa using h2
   have q1 : (k == 1) = false := by simpa using h1
   clear h1 h2
   go_enter Tryz.func135, Tryz.ntmps135
   go_wp2_with fail
   refine (children_any _ _).mono ?_
   rintro e w' ⟨rfl, rfl⟩
   rw [← HK.out]
   go_wp2_with fail
   exact bodyPost_ret (v := ndV _) (by simp [results, Tryz.results135, go_sem]) rfl ⟨rfl, by go_grown⟩
theorem cellsW : Tryz.prog.cellsOf 71 = 1 := by kernel_rfl
@[go_sem] theorem eqArr (m : Nat) (a b c d a' b' c' d' : Int) (w : World) : (Op.equalIn (m + 2) 72 (.agg #[.int .u64 a, .int .u64 b, .int .u64 c, .int .u64 d]) (.agg #[.int .u64 a', .int .u64 b', .int .u64 c', .int .u64 d'])).run Tryz.prog w = .ok (decide (a = a' ∧ b = b' ∧ c = c' ∧ d = d')) w := by
  obtain ⟨i, hi⟩ : ∃ i, Tryz.prog.info? 71 = some i := Option.isSome_iff_exists.1 (by kernel_rfl)
  rw [show m + 2 = (m + 1) + 1 from rfl, run_equalIn_array w (m + 1) _ _ Tryz.underlying72 hi, cellsW]
  show (Op.eqItems (m + 1) 71 1 _ _ [0, 1, 2, 3]).run Tryz.prog w = _
  simp [go_sem, Op.eqItems]
  by_cases h1 : a = a' <;> by_cases h2 : b = b' <;> by_cases h3 : c = c' <;> by_cases h4 : d = d' <;> simp [h1, h2, h3, h4]
@[go_sem high] theorem neqArr (a b c d : Int) (w : World) : (binOp .neq 72 (.agg #[.int .u64 a, .int .u64 b, .int .u64 c, .int .u64 d]) (.agg #[.int .u64 0, .int .u64 0, .int .u64 0, .int .u64 0])).run Tryz.prog w = .ok (.bool (!decide (a = 0 ∧ b = 0 ∧ c = 0 ∧ d = 0))) w := by
  rw [run_neq_struct, eqArr 9998]
  rfl
theorem Nd.ext_iff' (x y : Nd) : x = y ↔ x.k = y.k ∧ x.a = y.a ∧ x.b = y.b ∧ (x.s0 = y.s0 ∧ x.s1 = y.s1 ∧ x.s2 = y.s2 ∧ x.s3 = y.s3) ∧ x.mn = y.mn ∧ x.mx = y.mx ∧ x.md = y.md ∧ x.n = y.n ∧ x.f = y.f := by
 cases x; cases y; simp [and_assoc]
theorem eqNode (x y : Nd) (w : World) : (Op.equalIn 10000 76 (ndV x) (ndV y)).run Tryz.prog w = .ok (decide (x = y)) w := by
 have hs : decide (x = y) = decide (x.k = y.k ∧ x.a = y.a ∧ x.b = y.b ∧ (x.s0 = y.s0 ∧ x.s1 = y.s1 ∧ x.s2 = y.s2 ∧ x.s3 = y.s3) ∧ x.mn = y.mn ∧ x.mx = y.mx ∧ x.md = y.md ∧ x.n = y.n ∧ x.f = y.f) := by simp only [Nd.ext_iff' x y]
 rw [hs]
 simp [go_sem]
 rcases Decidable.em (x.k = y.k) with h1 | h1
 ·rcases Decidable.em (x.a = y.a) with h2 | h2
  ·rcases Decidable.em (x.b = y.b) with h3 | h3
   ·rcases Decidable.em (x.s0 = y.s0 ∧ x.s1 = y.s1 ∧ x.s2 = y.s2 ∧ x.s3 = y.s3) with h4 | h4
    ·simp [h1, h2, h3, h4]
     by_cases h5 : x.mn = y.mn <;> by_cases h6 : x.mx = y.mx <;> by_cases h7 : x.md = y.md <;> by_cases h8 : x.n = y.n <;> by_cases h9 : x.f = y.f <;> simp [h5, h6, h7, h8, h9]
    ·have h5 : decide (x.s0 = y.s0 ∧ x.s1 = y.s1 ∧ x.s2 = y.s2 ∧ x.s3 = y.s3) = false := decide_eq_false h4
     have h6 : x.s0 = y.s0 → x.s1 = y.s1 → x.s2 = y.s2 → ¬x.s3 = y.s3 := fun a b c d => h4 ⟨a, b, c, d⟩
     rw [if_pos h1, if_pos h2, if_pos h3, if_pos h6]
     simp only [Bool.decide_and] at h5
     rw [h5]
     simp
   ·simp [h1, h2, h3]
  ·simp [h1, h2]
 ·simp [h1]
@[go_sem high] theorem neqNode (x y : Nd) (w : World) : (binOp .neq 76 (ndV x) (ndV y)).run Tryz.prog w = .ok (.bool (!decide (x = y))) w := by
  rw [run_neq_struct, eqNode]
  rfl
@[go_sem high] theorem eqlNode (x y : Nd) (w : World) : (binOp .eql 76 (ndV x) (ndV y)).run Tryz.prog w = .ok (.bool (decide (x = y))) w := by
  rw [run_eql_struct, eqNode]
  rfl
def mayB (x : Nd) : Bool := if x.k = 10 then decide ((x.mx = -1 ∨ x.mn ≤ x.mx ∧ x.mx ≤ 100) ∧ 0 ≤ x.mn ∧ x.mn ≤ 100 ∧ 0 ≤ x.md ∧ x.md ≤ 2) else decide (0 ≤ x.k ∧ x.k < 18)
theorem may_any (x : Nd) (w : World) : Calls Tryz.prog 119 #[ndV x] w fun e w' => e = .returned (.bool (mayB x)) ∧ Below w.heap.size w w' := by
 go_enter Tryz.func119, Tryz.ntmps119
 go_wp2
 all_goals
  go_ret
  exact ⟨ret_b (by unfold mayB; simp_all <;> omega), by go_grown⟩
end Go.Proofs.YteggpecbeagohaaGreatDoor.Ast
namespace Go.Proofs.YteggpecbeagohaaGreatDoor.Ast
open Go.RowKit
def bareN (x : Nd) : Nd :=
 if x.k = 1 then ⟨x.k, 0, 0, x.s0, x.s1, x.s2, x.s3, 0, 0, 0, 0, false⟩
 else if x.k = 10 then ⟨x.k, 0, 0, 0, 0, 0, 0, x.mn, x.mx, x.md, 0, false⟩
 else if x.k = 11 then ⟨x.k, 0, 0, 0, 0, 0, 0, 0, 0, 0, x.n, false⟩
 else if x.k = 12 then ⟨x.k, 0, 0, 0, 0, 0, 0, 0, 0, 0, x.n, x.f⟩
 else ⟨x.k, 0, 0, 0, 0, 0, 0, 0, 0, 0, 0, false⟩
theorem bare_set (x : Nd) (w : World) (h : x.k = 1) : Calls Tryz.prog 118 #[ndV x] w fun e w' => e = .returned (ndV ⟨1, 0, 0, x.s0, x.s1, x.s2, x.s3, 0, 0, 0, 0, false⟩) ∧ Below w.heap.size w w' := by
 obtain ⟨k, a, b, s0, s1, s2, s3, mn, mx, md, n, f⟩ := x
 dsimp only at h
 subst h
 go_enter Tryz.func118, Tryz.ntmps118
 go_wp2_with fail
 exact bodyPost_ret (v := ndV _) (by simp [results, Tryz.results118, go_sem]) rfl ⟨rfl, by go_grown⟩
theorem bare_rep (x : Nd) (w : World) (h : x.k = 10) : Calls Tryz.prog 118 #[ndV x] w fun e w' => e = .returned (ndV ⟨10, 0, 0, 0, 0, 0, 0, x.mn, x.mx, x.md, 0, false⟩) ∧ Below w.heap.size w w' := by
 obtain ⟨k, a, b, s0, s1, s2, s3, mn, mx, md, n, f⟩ := x
 dsimp only at h
 subst h
 go_enter Tryz.func118, Tryz.ntmps118
 go_wp2_with fail
 go_region
 go_wp2_with fail
 exact bodyPost_ret (v := ndV _) (by simp [results, Tryz.results118, go_sem]) rfl ⟨rfl, by go_grown⟩
theorem bare_grp (x : Nd) (w : World) (h : x.k = 11) : Calls Tryz.prog 118 #[ndV x] w fun e w' => e = .returned (ndV ⟨11, 0, 0, 0, 0, 0, 0, 0, 0, 0, x.n, false⟩) ∧ Below w.heap.size w w' := by
 obtain ⟨k, a, b, s0, s1, s2, s3, mn, mx, md, n, f⟩ := x
 dsimp only at h
 subst h
 go_enter Tryz.func118, Tryz.ntmps118
 go_wp2_with fail
 exact bodyPost_ret (v := ndV _) (by simp [results, Tryz.results118, go_sem]) rfl ⟨rfl, by go_grown⟩
theorem bare_back (x : Nd) (w : World) (h : x.k = 12) : Calls Tryz.prog 118 #[ndV x] w fun e w' => e = .returned (ndV ⟨12, 0, 0, 0, 0, 0, 0, 0, 0, 0, x.n, x.f⟩) ∧ Below w.heap.size w w' := by
 obtain ⟨k, a, b, s0, s1, s2, s3, mn, mx, md, n, f⟩ := x
 dsimp only at h
 subst h
 go_enter Tryz.func118, Tryz.ntmps118
 go_wp2_with fail
 go_region
 go_wp2_with fail
 exact bodyPost_ret (v := ndV _) (by simp [results, Tryz.results118, go_sem]) rfl ⟨rfl, by go_grown⟩
theorem bare_other (x : Nd) (w : World) (h1 : x.k ≠ 1) (h10 : x.k ≠ 10) (h11 : x.k ≠ 11) (h12 : x.k ≠ 12) : Calls Tryz.prog 118 #[ndV x] w fun e w' => e = .returned (ndV ⟨x.k, 0, 0, 0, 0, 0, 0, 0, 0, 0, 0, false⟩) ∧ Below w.heap.size w w' := by
 obtain ⟨k, a, b, s0, s1, s2, s3, mn, mx, md, n, f⟩ := x
 dsimp only at h1 h10 h11 h12
 have q1 : (k == 1) = false := by simpa using h1
 have q10 : (k == 10) = false := by simpa using h10
 have q11 : (k == 11) = false := by simpa using h11
 have q12 : (k == 12) = false := by simpa using h12
 clear h1 h10 h11 h12
 go_enter Tryz.func118, Tryz.ntmps118
 go_wp2_with fail
 exact bodyPost_ret (v := ndV _) (by simp [results, Tryz.results118, go_sem]) rfl ⟨rfl, by go_grown⟩
theorem bare_any (x : Nd) (w : World) : Calls Tryz.prog 118 #[ndV x] w fun e w' => e = .returned (ndV (bareN x)) ∧ Below w.heap.size w w' := by
 unfold bareN
 by_cases h1 : x.k = 1
 ·rw [if_pos h1, h1]; exact bare_set x w h1
 ·rw [if_neg h1]
  by_cases h10 : x.k = 10
  ·rw [if_pos h10, h10]; exact bare_rep x w h10
  ·rw [if_neg h10]
   by_cases h11 : x.k = 11
   ·rw [if_pos h11, h11]; exact bare_grp x w h11
   ·rw [if_neg h11]
    by_cases h12 : x.k = 12
    ·rw [if_pos h12, h12]; exact bare_back x w h12
    ·rw [if_neg h12]; exact bare_other x w h1 h10 h11 h12
end Go.Proofs.YteggpecbeagohaaGreatDoor.Ast
namespace Go.Proofs.YteggpecbeagohaaGreatDoor.Ast
open Go.RowKit
def plusZ (a b : Int) : Int := if a < 0 ∨ b < 0 then -1 else min (a + b) 1048576
def timesZ (a k : Int) : Int := if a = 0 ∨ k = 0 then 0 else if a < 0 ∨ k < 0 then -1 else min (a * k) 1048576
theorem sum_any (a b : Int) (w : World) (ha : -1 ≤ a ∧ a ≤ 1048576) (hb : -1 ≤ b ∧ b ≤ 1048576) : Calls Tryz.prog 90 #[.int .i64 a, .int .i64 b] w fun e w' => e = .returned (.int .i64 (plusZ a b)) ∧ w = w' := by
 obtain ⟨ha, ha'⟩ := ha
 obtain ⟨hb, hb'⟩ := hb
 by_cases h1 : a = -1
 ·subst h1
  go_enter Tryz.func90, Tryz.ntmps90
  go_wp2
  go_ret
  exact ⟨ret_i (by unfold plusZ; simp), rfl⟩
 ·by_cases h2 : b = -1
  ·subst h2
   have q1 : (a == -1) = false := by simpa using h1
   go_enter Tryz.func90, Tryz.ntmps90
   go_wp2
   go_ret
   exact ⟨ret_i (by unfold plusZ; simp), rfl⟩
  ·have q1 : (a == -1) = false := by simpa using h1
   have q2 : (b == -1) = false := by simpa using h2
   have a0 : 0 ≤ a := by omega
   have b0 : 0 ≤ b := by omega
   clear h1 h2 ha hb
   go_enter Tryz.func90, Tryz.ntmps90
   go_wp2
   all_goals
    go_ret
    exact ⟨ret_i (by unfold plusZ; rw [if_neg (by omega)]; omega), rfl⟩
def moreZ (a b : Int) : Int := if a < 0 ∨ b < 0 then -1 else max a b
theorem greater_any (a b : Int) (w : World) (ha : -1 ≤ a ∧ a ≤ 1048576) (hb : -1 ≤ b ∧ b ≤ 1048576) : Calls Tryz.prog 91 #[.int .i64 a, .int .i64 b] w fun e w' => e = .returned (.int .i64 (moreZ a b)) ∧ w = w' := by
 obtain ⟨ha, ha'⟩ := ha
 obtain ⟨hb, hb'⟩ := hb
 by_cases h1 : a = -1
 ·subst h1
  go_enter Tryz.func91, Tryz.ntmps91
  go_wp2
  go_ret
  exact ⟨ret_i (by unfold moreZ; simp), rfl⟩
 ·by_cases h2 : b = -1
  ·subst h2
   have q1 : (a == -1) = false := by simpa using h1
   go_enter Tryz.func91, Tryz.ntmps91
   go_wp2
   go_ret
   exact ⟨ret_i (by unfold moreZ; simp), rfl⟩
  ·have q1 : (a == -1) = false := by simpa using h1
   have q2 : (b == -1) = false := by simpa using h2
   have a0 : 0 ≤ a := by omega
   have b0 : 0 ≤ b := by omega
   clear h1 h2 ha hb
   go_enter Tryz.func91, Tryz.ntmps91
   go_wp2
   all_goals
    go_ret
    exact ⟨ret_i (by unfold moreZ; rw [if_neg (by omega)]; omega), rfl⟩
theorem times_any (a k : Int) (w : World) (ha : -1 ≤ a ∧ a ≤ 1048576) (hk : -1 ≤ k ∧ k ≤ 100) : Calls Tryz.prog 92 #[.int .i64 a, .int .i64 k] w fun e w' => e = .returned (.int .i64 (timesZ a k)) ∧ w = w' := by
 obtain ⟨ha, ha'⟩ := ha
 obtain ⟨hk, hk'⟩ := hk
 by_cases h1 : a = 0
 ·subst h1
  go_enter Tryz.func92, Tryz.ntmps92
  go_wp2
  go_ret
  exact ⟨ret_i (by unfold timesZ; simp), rfl⟩
 ·by_cases h2 : k = 0
  ·subst h2
   have q1 : (a == 0) = false := by simpa using h1
   clear h1
   go_enter Tryz.func92, Tryz.ntmps92
   go_wp2
   go_ret
   exact ⟨ret_i (by unfold timesZ; simp), rfl⟩
  ·have q1 : (a == 0) = false := by simpa using h1
   have q2 : (k == 0) = false := by simpa using h2
   by_cases h3 : a = -1
   ·subst h3
    clear h1 h2
    go_enter Tryz.func92, Tryz.ntmps92
    go_wp2
    go_ret
    exact ⟨ret_i (by unfold timesZ; simp_all), rfl⟩
   ·by_cases h4 : k = -1
    ·subst h4
     have q3 : (a == -1) = false := by simpa using h3
     clear h1 h2 h3
     go_enter Tryz.func92, Tryz.ntmps92
     go_wp2
     go_ret
     exact ⟨ret_i (by unfold timesZ; simp_all), rfl⟩
    ·have q3 : (a == -1) = false := by simpa using h3
     have q4 : (k == -1) = false := by simpa using h4
     have a0 : 0 < a := by omega
     have k0 : 0 < k := by omega
     obtain ⟨m, hm⟩ : ∃ m, m = a * k := ⟨_, rfl⟩
     have m0 : 0 ≤ m := by rw [hm]; exact Int.mul_nonneg (by omega) (by omega)
     have m1 : m ≤ 104857600 := by
      rw [hm]
      exact Int.le_trans (Int.mul_le_mul_of_nonneg_right ha' (by omega)) (by omega)
     have wm : wrap64 (a * k) = m := by rw [← hm, wrap64]; omega
     have HV := Lib.hid (show timesZ a k = min m 1048576 by unfold timesZ; rw [if_neg (by omega), if_neg (by omega), ← hm])
     clear h1 h2 h3 h4 ha hk hm
     go_enter Tryz.func92, Tryz.ntmps92
     go_wp2
     all_goals
      go_ret
      exact ⟨ret_i (by rw [HV.out]; omega), rfl⟩
end Go.Proofs.YteggpecbeagohaaGreatDoor.Ast
namespace Go.Proofs.YteggpecbeagohaaGreatDoor.Ast
open Go.RowKit
def At12 (w : World) (b o : Nat) (x : Nd) : Prop :=
 w.cell? ⟨b, o, none⟩ = some (.int .i64 x.k) ∧ w.cell? ⟨b, o + 1, none⟩ = some (.int .i64 x.a) ∧ w.cell? ⟨b, o + 2, none⟩ = some (.int .i64 x.b) ∧
 w.cell? ⟨b, o + 3, none⟩ = some (.int .u64 x.s0) ∧ w.cell? ⟨b, o + 4, none⟩ = some (.int .u64 x.s1) ∧ w.cell? ⟨b, o + 5, none⟩ = some (.int .u64 x.s2) ∧ w.cell? ⟨b, o + 6, none⟩ = some (.int .u64 x.s3) ∧
 w.cell? ⟨b, o + 7, none⟩ = some (.int .i64 x.mn) ∧ w.cell? ⟨b, o + 8, none⟩ = some (.int .i64 x.mx) ∧ w.cell? ⟨b, o + 9, none⟩ = some (.int .i64 x.md) ∧ w.cell? ⟨b, o + 10, none⟩ = some (.int .i64 x.n) ∧ w.cell? ⟨b, o + 11, none⟩ = some (.bool x.f)
theorem At12.keep {w u : World} {b o : Nat} {x : Nd} (h : At12 w b o x) (hk : ∀ j, u.cell? ⟨b, j, none⟩ = w.cell? ⟨b, j, none⟩) : At12 u b o x := by
 unfold At12 at h ⊢
 simp only [hk]
 exact h
def Nodes (w : World) (A : Option Addr) (n : Nat) (l : Nat → Nd) : Prop := ∀ i, i < n → ∃ b o, A = some ⟨b, o, none⟩ ∧ b < w.heap.size ∧ At12 w b (o + i * 12) (l i)
theorem Nodes.below {w u : World} {A : Option Addr} {n : Nat} {l : Nat → Nd} {B : Nat} (h : Nodes w A n l) (hb : Below B w u) (hB : w.heap.size ≤ B) : Nodes u A n l := fun i hi => by
 obtain ⟨b, o, h1, h2, h3⟩ := h i hi
 exact ⟨b, o, h1, Nat.lt_of_lt_of_le h2 hb.size, h3.keep fun j => hb.cell (p := ⟨b, j, none⟩) (Nat.lt_of_lt_of_le h2 hB)⟩
def NodesAt (w : World) (b o n : Nat) (l : Nat → Nd) : Prop := b < w.heap.size ∧ ∀ i, i < n → At12 w b (o + i * 12) (l i)
theorem Nodes.at_ {w : World} {A : Option Addr} {n : Nat} {l : Nat → Nd} (h : Nodes w A n l) (h0 : 0 < n) : ∃ b o, A = some ⟨b, o, none⟩ ∧ NodesAt w b o n l := by
 obtain ⟨b, o, rfl, hb, _⟩ := h 0 h0
 refine ⟨b, o, rfl, hb, fun i hi => ?_⟩
 obtain ⟨b', o', e, _, h3⟩ := h i hi
 cases e
 exact h3
theorem NodesAt.nodes {w : World} {b o n : Nat} {l : Nat → Nd} (h : NodesAt w b o n l) : Nodes w (some ⟨b, o, none⟩) n l := fun i hi => ⟨b, o, rfl, h.1, h.2 i hi⟩
theorem NodesAt.below {w u : World} {b o n : Nat} {l : Nat → Nd} {B : Nat} (h : NodesAt w b o n l) (hb : Below B w u) (hB : w.heap.size ≤ B) : NodesAt u b o n l :=
 ⟨Nat.lt_of_lt_of_le h.1 hb.size, fun i hi => (h.2 i hi).keep fun j => hb.cell (p := ⟨b, j, none⟩) (Nat.lt_of_lt_of_le h.1 hB)⟩
def cntG (l : Nat → Nd) : Nat → Nat
 | 0 => 0
 | k + 1 => cntG l k + if (l k).k = 11 then 1 else 0
end Go.Proofs.YteggpecbeagohaaGreatDoor.Ast
namespace Go.Proofs.YteggpecbeagohaaGreatDoor.Ast
open Go.RowKit
theorem below_drewN {B : Nat} {w u : World} (h : Below B w u) (q : Nat) : Below B w (u.drewN q) := ⟨h.os, h.tape, h.output, h.size, h.block⟩
def Box12 (u : World) (T : TypeId) (g : Nat) (k a b s0 s1 s2 s3 mn mx md n : Int) (f : Bool) : Prop :=
 u.heap[g]? = some (.cells #[.int .i64 k, .int .i64 a, .int .i64 b, .int .u64 s0, .int .u64 s1, .int .u64 s2, .int .u64 s3, .int .i64 mn, .int .i64 mx, .int .i64 md, .int .i64 n, .bool f] T (0, 0))
section
variable {u v : World} {T : TypeId} {g : Nat} {k a b s0 s1 s2 s3 mn mx md n : Int} {f : Bool}
theorem Box12.lt (h : Box12 u T g k a b s0 s1 s2 s3 mn mx md n f) : g < u.heap.size := (Array.getElem?_eq_some_iff.1 h).1
theorem Box12.cells (h : Box12 u T g k a b s0 s1 s2 s3 mn mx md n f) :
  u.cell? ⟨g, 0, none⟩ = some (.int .i64 k) ∧ u.cell? ⟨g, 1, none⟩ = some (.int .i64 a) ∧ u.cell? ⟨g, 2, none⟩ = some (.int .i64 b) ∧
  u.cell? ⟨g, 3, none⟩ = some (.int .u64 s0) ∧ u.cell? ⟨g, 4, none⟩ = some (.int .u64 s1) ∧ u.cell? ⟨g, 5, none⟩ = some (.int .u64 s2) ∧ u.cell? ⟨g, 6, none⟩ = some (.int .u64 s3) ∧
  u.cell? ⟨g, 7, none⟩ = some (.int .i64 mn) ∧ u.cell? ⟨g, 8, none⟩ = some (.int .i64 mx) ∧ u.cell? ⟨g, 9, none⟩ = some (.int .i64 md) ∧ u.cell? ⟨g, 10, none⟩ = some (.int .i64 n) ∧ u.cell? ⟨g, 11, none⟩ = some (.bool f) := by
 unfold Box12 at h
 unfold World.cell?
 simp [h]
theorem Box12.free (h : Box12 u T g k a b s0 s1 s2 s3 mn mx md n f) (j : Nat) : u.frozen? ⟨g, j, none⟩ = false := frozen_of_row u g j _ _ h
theorem Box12.call (h : Box12 u T g k a b s0 s1 s2 s3 mn mx md n f) (hb : Below u.heap.size u v) : Box12 v T g k a b s0 s1 s2 s3 mn mx md n f := (hb.block g h.lt).trans h
theorem Box12.of_block (h : Box12 u T g k a b s0 s1 s2 s3 mn mx md n f) (hb : v.heap[g]? = u.heap[g]?) : Box12 v T g k a b s0 s1 s2 s3 mn mx md n f := hb.trans h
theorem Box12.alloc (h : Box12 u T g k a b s0 s1 s2 s3 mn mx md n f) (o : Obj) : Box12 (u.alloc o) T g k a b s0 s1 s2 s3 mn mx md n f := (Below.heap_alloc _ _ _ h.lt).trans h
theorem Box12.new (u : World) (T : TypeId) (k a b s0 s1 s2 s3 mn mx md n : Int) (f : Bool) : Box12 (u.alloc (.cells #[.int .i64 k, .int .i64 a, .int .i64 b, .int .u64 s0, .int .u64 s1, .int .u64 s2, .int .u64 s3, .int .i64 mn, .int .i64 mx, .int .i64 md, .int .i64 n, .bool f] T)) T u.heap.size k a b s0 s1 s2 s3 mn mx md n f := heap_alloc_new _ _
end
end Go.Proofs.YteggpecbeagohaaGreatDoor.Ast
namespace Go.Proofs.YteggpecbeagohaaGreatDoor.Ast
open Go.RowKit
def fitsB (x : Nd) : Bool := decide (0 ≤ x.k ∧ x.k ≤ 17 ∧ (x.k = 1 ∨ x.s0 = 0 ∧ x.s1 = 0 ∧ x.s2 = 0 ∧ x.s3 = 0) ∧ (x.k = 10 ∨ x.mn = 0 ∧ x.mx = 0 ∧ x.md = 0) ∧ (x.k = 11 ∨ x.k = 12 ∨ x.n = 0) ∧ (x.k = 12 ∨ x.f = false) ∧
 (x.k ≠ 10 ∨ 0 ≤ x.mn ∧ x.mn ≤ 100 ∧ x.mx ≤ 100 ∧ (x.mx = -1 ∨ x.mn ≤ x.mx) ∧ 0 ≤ x.md ∧ x.md ≤ 2))
end Go.Proofs.YteggpecbeagohaaGreatDoor.Ast
