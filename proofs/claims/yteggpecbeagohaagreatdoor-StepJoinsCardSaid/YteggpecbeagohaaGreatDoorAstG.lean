import Derived.Test.YteggpecbeagohaaGreatDoorAstBM
import Derived.Test.YteggpecbeagohaaGreatDoorAstEM
import Derived.Sort.Grow
import Derived.Sort.Row
import Derived.Test.YteggpecbeagohaaGreatDoorMz
namespace Go.Proofs.YteggpecbeagohaaGreatDoor.Ast
def gix (l : Nat → Nd) : Nat → List Nat
 | 0 => []
 | k + 1 => gix l k ++ (if (l k).k = 11 then [k] else [])
theorem gix_perm (l : Nat → Nd) : ∀ m, siz l m ≠ 0 → (gix l m).Perm (gix l (m - siz l m) ++ grp l m) := by
 intro m
 induction m using Nat.strongRecOn with
 | _ m ih =>
   intro hs
   cases m with
   | zero => exact absurd (siz_zero l) hs
   | succ k =>
     obtain ⟨hf, hp⟩ := siz_pos hs
     have hki := fits_kind hf
     rw [grp_succ]
     show (gix l k ++ (if (l k).k = 11 then [k] else [])).Perm _
     rcases hp with ⟨hk, -, -, hz⟩ | ⟨hk, h0, -, -, hz⟩ | ⟨hk, h0, h1, -, -, hz⟩
     ·obtain ⟨-, -, -, q11, -⟩ := kids0 hk hki
      rw [if_neg (by simpa using q11), if_pos hk, hz, show k + 1 - 1 = k by omega]
     ·rw [hk, if_neg (show ¬ (1 : Int) = 0 by decide), if_pos rfl, hz, show k + 1 - (siz l k + 1) = k - siz l k by omega]
      have h := ih k (by omega) h0
      split
      ·refine (h.append_right [k]).trans ?_
       rw [List.append_assoc]
       refine List.Perm.append_left _ ?_
       exact List.perm_append_comm
      ·rw [List.append_nil]; exact h
     ·have hk2 := kids2 hk
      rw [if_neg (show ¬ (l k).k = 11 by omega), hk, if_neg (show ¬ (2 : Int) = 0 by decide), if_neg (show ¬ (2 : Int) = 1 by decide), hz, List.append_nil, show k + 1 - (siz l (k - siz l k) + siz l k + 1) = k - siz l k - siz l (k - siz l k) by omega, ← List.append_assoc]
      exact (ih k (by omega) h0).trans ((ih (k - siz l k) (by omega) h1).append_right _)
theorem beg_in (l : Nat → Nd) : ∀ m, siz l m ≠ 0 → ∀ x, m - siz l m ≤ x → x < m → m - siz l m ≤ beg l x := by
 intro m
 induction m using Nat.strongRecOn with
 | _ m ih =>
   intro hs x h1 h2
   cases m with
   | zero => exact absurd (siz_zero l) hs
   | succ k =>
     by_cases hx : x = k
     ·subst hx; exact Nat.le_refl _
     ·obtain ⟨-, hp⟩ := siz_pos hs
      have hle := siz_le l k
      rcases hp with ⟨hk, -, -, hz⟩ | ⟨hk, h0, -, -, hz⟩ | ⟨hk, h0, h1', -, -, hz⟩
      ·omega
      ·have := ih k (by omega) h0 x (by omega) (by omega)
       omega
      ·have hle2 := siz_le l (k - siz l k)
       by_cases hc : k - siz l k ≤ x
       ·have := ih k (by omega) h0 x hc (by omega)
        omega
       ·have := ih (k - siz l k) (by omega) h1' x (by omega) (by omega)
        omega
theorem grp_mem (l : Nat → Nd) : ∀ m, siz l m ≠ 0 → ∀ x, x ∈ grp l m → m - siz l m ≤ x ∧ x < m ∧ (l x).k = 11 := by
 intro m
 induction m using Nat.strongRecOn with
 | _ m ih =>
   intro hs x hx
   cases m with
   | zero => exact absurd (siz_zero l) hs
   | succ k =>
     obtain ⟨-, hp⟩ := siz_pos hs
     rw [grp_succ] at hx
     rcases hp with ⟨hk, -, -, hz⟩ | ⟨hk, h0, -, -, hz⟩ | ⟨hk, h0, h1, -, -, hz⟩
     ·rw [if_pos hk] at hx; simp at hx
     ·rw [hk, if_neg (show ¬ (1 : Int) = 0 by decide), if_pos rfl] at hx
      split at hx
      ·rename_i h11
       rcases List.mem_cons.1 hx with rfl | hx
       ·exact ⟨by omega, by omega, h11⟩
       ·have := ih k (by omega) h0 x hx
        exact ⟨by omega, by omega, this.2.2⟩
      ·have := ih k (by omega) h0 x hx
       exact ⟨by omega, by omega, this.2.2⟩
     ·rw [hk, if_neg (show ¬ (2 : Int) = 0 by decide), if_neg (show ¬ (2 : Int) = 1 by decide)] at hx
      rcases List.mem_append.1 hx with hx | hx
      ·have := ih (k - siz l k) (by omega) h1 x hx
       exact ⟨by omega, by omega, this.2.2⟩
      ·have := ih k (by omega) h0 x hx
       exact ⟨by omega, by omega, this.2.2⟩
def ahead (l : Nat → Nd) (i j : Nat) : Prop := beg l i < beg l j ∨ beg l i = beg l j ∧ j < i
instance (l : Nat → Nd) (i j : Nat) : Decidable (ahead l i j) := by unfold ahead; exact inferInstance
theorem ahead_total {l : Nat → Nd} {i j : Nat} (h1 : ¬ ahead l i j) (h2 : ¬ ahead l j i) : i = j := by unfold ahead at h1 h2; omega
theorem ahead_anti {l : Nat → Nd} {i j : Nat} (h1 : ahead l i j) : ¬ ahead l j i := by unfold ahead at h1 ⊢; omega
theorem grp_sorted (l : Nat → Nd) : ∀ m, siz l m ≠ 0 → (grp l m).Pairwise (ahead l) := by
 intro m
 induction m using Nat.strongRecOn with
 | _ m ih =>
   intro hs
   cases m with
   | zero => exact absurd (siz_zero l) hs
   | succ k =>
     obtain ⟨-, hp⟩ := siz_pos hs
     rw [grp_succ]
     rcases hp with ⟨hk, -, -, hz⟩ | ⟨hk, h0, -, -, hz⟩ | ⟨hk, h0, h1, -, -, hz⟩
     ·rw [if_pos hk]; exact List.Pairwise.nil
     ·rw [hk, if_neg (show ¬ (1 : Int) = 0 by decide), if_pos rfl]
      have h := ih k (by omega) h0
      split
      ·refine List.Pairwise.cons (fun x hx => ?_) h
       obtain ⟨m1, m2, -⟩ := grp_mem l k h0 x hx
       have hb := beg_in l k h0 x m1 m2
       have hk' : beg l k = k - siz l k := by unfold beg; rw [hz]; omega
       unfold ahead
       omega
      ·exact h
     ·rw [hk, if_neg (show ¬ (2 : Int) = 0 by decide), if_neg (show ¬ (2 : Int) = 1 by decide)]
      refine List.pairwise_append.2 ⟨ih (k - siz l k) (by omega) h1, ih k (by omega) h0, fun x hx y hy => ?_⟩
      obtain ⟨-, m2, -⟩ := grp_mem l (k - siz l k) h1 x hx
      obtain ⟨n1, n2, -⟩ := grp_mem l k h0 y hy
      have hb := beg_in l k h0 y n1 n2
      have hbx : beg l x ≤ x := by
       have hle := siz_le l k
       have : siz l (x + 1) ≠ 0 := by
        obtain ⟨m1, m2, -⟩ := grp_mem l (k - siz l k) h1 x hx
        exact siz_all l _ x m1 m2
       unfold beg; omega
      left
      omega
theorem grp_unique {l : Nat → Nd} {n : Nat} (hs : siz l n = n) (h0 : 0 < n) {L : List Nat} (hp : L.Perm (gix l n)) (hso : L.Pairwise fun x y => ¬ ahead l y x) : L = grp l n := by
 have hs' : siz l n ≠ 0 := by omega
 have hg := gix_perm l n hs'
 rw [hs, show n - n = 0 by omega] at hg
 refine List.Perm.eq_of_pairwise (le := fun x y => ¬ ahead l y x) ?_ hso ?_ (hp.trans (by simpa [gix] using hg))
 ·intro a b _ _ h1 h2
  exact ahead_total h2 h1
 ·exact (grp_sorted l n hs').imp fun h => ahead_anti h
theorem gix_lt (l : Nat → Nd) (n : Nat) : ∀ x, x ∈ gix l n → x < n ∧ (l x).k = 11 := by
 induction n with
 | zero => intro x hx; simp [gix] at hx
 | succ n ih =>
   intro x hx
   rcases List.mem_append.1 (show x ∈ gix l n ++ (if (l n).k = 11 then [n] else []) from hx) with h | h
   ·have := ih x h; exact ⟨by omega, this.2⟩
   ·split at h
    ·rename_i h11
     simp at h; subst h
     exact ⟨by omega, h11⟩
    ·simp at h
theorem gix_len (l : Nat → Nd) (n : Nat) : (gix l n).length ≤ n := by
 induction n with
 | zero => simp [gix]
 | succ n ih =>
   show (gix l n ++ (if (l n).k = 11 then [n] else [])).length ≤ _
   rw [List.length_append]
   split <;> simp <;> omega
end Go.Proofs.YteggpecbeagohaaGreatDoor.Ast
namespace Go.Proofs.YteggpecbeagohaaGreatDoor.Ast
open Go.RowKit
def cmpZ (x y : Int) : Int := if x < y then -1 else if y < x then 1 else 0
def orZ (a b : Int) : Int := if a = 0 then b else a
def grpZ (l : Nat → Nd) (i j : Nat) : Int := orZ (cmpZ (beg l i : Nat) (beg l j : Nat)) (cmpZ (j : Int) (i : Int))
theorem compare_any (x y : Int) (w : World) : Calls Tryz.prog 89 #[.int .i64 x, .int .i64 y] w fun e w' => e = .returned (.int .i64 (cmpZ x y)) ∧ w = w' := by
 go_enter Tryz.func89, Tryz.ntmps89
 go_wp2
 all_goals
  go_ret
  exact ⟨ret_i (by unfold cmpZ; simp_all <;> omega), rfl⟩
theorem or_any (g cap : Nat) (a b : Int) (w : World) (h0 : w.cell? ⟨g, 0, none⟩ = some (.int .i64 a)) (h1 : w.cell? ⟨g, 1, none⟩ = some (.int .i64 b)) :
  Calls Tryz.prog 88 #[.slice (some ⟨g, 0, none⟩) 2 cap] w fun e w' => e = .returned (.int .i64 (orZ a b)) ∧ w = w' := by
 by_cases ha : a = 0
 ·subst ha
  by_cases hb : b = 0
  ·subst hb
   go_enter Tryz.func88, Tryz.ntmps88
   go_wp2_with fail
   refine Go.wp_loop_rounds 3 ?_
   rw [Go.rounds_succ]
   go_wp2_with fail
   rw [Go.rounds_succ]
   go_wp2_with fail
   rw [Go.rounds_succ]
   go_wp2_with fail
   go_ret
   exact ⟨rfl, rfl⟩
  ·have q : (b != 0) = true := by simpa using hb
   have q1 : (b == 0) = false := by simpa using hb
   have q2 : decide (b = 0) = false := by simpa using hb
   go_enter Tryz.func88, Tryz.ntmps88
   go_wp2_with fail
   refine Go.wp_loop_rounds 2 ?_
   rw [Go.rounds_succ]
   go_wp2_with fail
   rw [Go.rounds_succ]
   go_wp2_with fail
   go_ret
   exact ⟨ret_i (by unfold orZ; rfl), rfl⟩
 ·have q : (a != 0) = true := by simpa using ha
  have q1 : (a == 0) = false := by simpa using ha
  have q2 : decide (a = 0) = false := by simpa using ha
  go_enter Tryz.func88, Tryz.ntmps88
  go_wp2_with fail
  refine Go.wp_loop_rounds 1 ?_
  rw [Go.rounds_succ]
  go_wp2_with fail
  go_ret
  exact ⟨ret_i (by unfold orZ; rw [if_neg ha]), rfl⟩
section
variable {ops : Array Oper} {a : Act} {o : Oper} {x y : Operand} {R : World → Prop}
theorem idxI0_y (g n m : Nat) (hm : m < n) (ho : o.op = .indexAddr 77 x y) (hx : a.eval x = .slice (some ⟨g, 0, none⟩) n n) (hy : a.eval y = .int .i64 (m : Int)) (hw : Region.wanted o (yielded ops a.tmps) = true) : YieldsIf Tryz.prog ops R o (.pointer (some ⟨g, m, none⟩)) a := by
 refine Or.inl ⟨hw, fun w _ => ?_⟩
 have k0 : (0 : Int) ≤ m := by omega
 have k1 : (m : Int) < n := by omega
 unfold execOp
 simp only [ho, hx, hy]
 go_simp
theorem loadS_y (g : Nat) (v : Value) (hR : ∀ u, R u → u.cell? ⟨g, 0, none⟩ = some v) (ho : o.op = .load 77 x) (hx : a.eval x = .pointer (some ⟨g, 0, none⟩)) (hw : Region.wanted o (yielded ops a.tmps) = true) : YieldsIf Tryz.prog ops R o v a := by
 refine Or.inl ⟨hw, fun u h => ?_⟩
 have hc := hR u h
 unfold execOp
 simp only [ho, hx]
 go_simp
end
set_option maxHeartbeats 1000000 in
theorem closure_any (L g n i j : Nat) (l : Nat → Nd) (w : World) (hi : i < n) (hj : j < n) (hL : L < w.heap.size) (hg : g < w.heap.size) (cL : w.cell? ⟨L, 0, none⟩ = some (.slice (some ⟨g, 0, none⟩) n n))
  (ci : w.cell? ⟨g, i, none⟩ = some (.int .i64 (beg l i : Nat))) (cj : w.cell? ⟨g, j, none⟩ = some (.int .i64 (beg l j : Nat))) :
  Calls Tryz.prog 87 #[.int .i64 (i : Int), .int .i64 (j : Int), .pointer (some ⟨L, 0, none⟩)] w fun e w' => e = .returned (.int .i64 (grpZ l i j)) ∧ ∃ q os, w' = Go.Sort.grow (w.drewN q) os := by
 go_enter Tryz.func87, Tryz.ntmps87
 go_wp2_with fail
 have hS : Below w.heap.size w w.drew := (Below.refl _ w).drew
 have hS2 : Below w.heap.size w (w.drew.alloc (.cells #[.int .i64 (cmpZ (beg l i : Nat) (beg l j : Nat)), .int .i64 (cmpZ (j : Int) (i : Int))] 3)) := hS.alloc (Nat.le_refl _) _
 have h20 : (w.drew.alloc (.cells #[.int .i64 (cmpZ (beg l i : Nat) (beg l j : Nat)), .int .i64 (cmpZ (j : Int) (i : Int))] 3)).cell? ⟨w.heap.size, 0, none⟩ = some (.int .i64 (cmpZ (beg l i : Nat) (beg l j : Nat))) := by
  unfold World.cell?; rw [show w.heap.size = w.drew.heap.size from rfl, heap_alloc_new]; rfl
 have h21 : (w.drew.alloc (.cells #[.int .i64 (cmpZ (beg l i : Nat) (beg l j : Nat)), .int .i64 (cmpZ (j : Int) (i : Int))] 3)).cell? ⟨w.heap.size, 1, none⟩ = some (.int .i64 (cmpZ (j : Int) (i : Int))) := by
  unfold World.cell?; rw [show w.heap.size = w.drew.heap.size from rfl, heap_alloc_new]; rfl
 refine wp_region_held_drew (S := Below w.heap.size w) (by kernel_rfl) hS (fun _ => ?_)
 refine takeAt 0 6 (.slice (some ⟨g, 0, none⟩) n n) rfl rfl (by kernel_rfl) (by kernel_rfl) (by kernel_rfl) i_ (loadS_y L _ (fun u h => (h.cell (p := ⟨L, 0, none⟩) hL).trans cL) rfl rfl (by rfl)) hS ?_
 simp only [Act.put, sA_, s0_, sS_]
 refine takeAt 1 7 (.int .i64 (i : Int)) rfl rfl (by kernel_rfl) (by kernel_rfl) (by kernel_rfl) i_ (yields (by rfl) (fun w => by kernel_rfl)) hS ?_
 simp only [Act.put, sA_, s0_, sS_]
 refine takeAt 2 8 (.pointer (some ⟨g, i, none⟩)) rfl rfl (by kernel_rfl) (by kernel_rfl) (by kernel_rfl) i_ (idxI0_y g n i hi rfl rfl rfl (by rfl)) hS ?_
 simp only [Act.put, sA_, s0_, sS_]
 refine takeAt 3 9 (.int .i64 (beg l i : Nat)) rfl rfl (by kernel_rfl) (by kernel_rfl) (by kernel_rfl) i_ (loadI_y g i _ (fun u h => (h.cell (p := ⟨g, i, none⟩) hg).trans ci) rfl rfl (by rfl)) hS ?_
 simp only [Act.put, sA_, s0_, sS_]
 refine takeAt 4 10 (.slice (some ⟨g, 0, none⟩) n n) rfl rfl (by kernel_rfl) (by kernel_rfl) (by kernel_rfl) i_ (loadS_y L _ (fun u h => (h.cell (p := ⟨L, 0, none⟩) hL).trans cL) rfl rfl (by rfl)) hS ?_
 simp only [Act.put, sA_, s0_, sS_]
 refine takeAt 5 11 (.int .i64 (j : Int)) rfl rfl (by kernel_rfl) (by kernel_rfl) (by kernel_rfl) i_ (yields (by rfl) (fun w => by kernel_rfl)) hS ?_
 simp only [Act.put, sA_, s0_, sS_]
 refine takeAt 6 12 (.pointer (some ⟨g, j, none⟩)) rfl rfl (by kernel_rfl) (by kernel_rfl) (by kernel_rfl) i_ (idxI0_y g n j hj rfl rfl rfl (by rfl)) hS ?_
 simp only [Act.put, sA_, s0_, sS_]
 refine takeAt 7 13 (.int .i64 (beg l j : Nat)) rfl rfl (by kernel_rfl) (by kernel_rfl) (by kernel_rfl) i_ (loadI_y g j _ (fun u h => (h.cell (p := ⟨g, j, none⟩) hg).trans cj) rfl rfl (by rfl)) hS ?_
 simp only [Act.put, sA_, s0_, sS_]
 refine takeAt 9 15 (.int .i64 (j : Int)) rfl rfl (by kernel_rfl) (by kernel_rfl) (by kernel_rfl) i_ (yields (by rfl) (fun w => by kernel_rfl)) hS ?_
 simp only [Act.put, sA_, s0_, sS_]
 refine takeAt 10 16 (.int .i64 (i : Int)) rfl rfl (by kernel_rfl) (by kernel_rfl) (by kernel_rfl) i_ (yields (by rfl) (fun w => by kernel_rfl)) hS ?_
 simp only [Act.put, sA_, s0_, sS_]
 refine callAt 8 14 rfl rfl (by kernel_rfl) (by rfl) (by kernel_rfl) (compare_any (beg l i : Nat) (beg l j : Nat) _) ?_
 rintro e w' ⟨rfl, rfl⟩
 refine ⟨_, rfl, hS, ?_⟩
 simp only [Act.put, sA_, s0_, sS_]
 refine callAt 11 17 rfl rfl (by kernel_rfl) (by rfl) (by kernel_rfl) (compare_any (j : Int) (i : Int) _) ?_
 rintro e w' ⟨rfl, rfl⟩
 refine ⟨_, rfl, hS, ?_⟩
 simp only [Act.put, sA_, s0_, sS_]
 refine valAt 12 18 (.slice (some ⟨w.heap.size, 0, none⟩) 2 2) (w.drew.alloc (.cells #[.int .i64 (cmpZ (beg l i : Nat) (beg l j : Nat)), .int .i64 (cmpZ (j : Int) (i : Int))] 3)) rfl rfl (by kernel_rfl) (by rfl) (by kernel_rfl) hS2 ?_
 simp only [Act.put, sA_, s0_, sS_]
 refine callAt 13 19 rfl rfl (by kernel_rfl) (by rfl) (by kernel_rfl) (or_any w.heap.size 2 _ _ _ h20 h21) ?_
 rintro e w' ⟨rfl, rfl⟩
 refine ⟨_, rfl, hS2, ?_⟩
 simp only [Act.put, sA_, s0_, sS_]
 refine takeAt 14 5 (.int .i64 (orZ (cmpZ (beg l i : Nat) (beg l j : Nat)) (cmpZ (j : Int) (i : Int)))) rfl rfl (by kernel_rfl) (by kernel_rfl) (by kernel_rfl) i_ (yields (by rfl) (fun w => by kernel_rfl)) hS2 ?_
 simp only [Act.put, sA_, s0_, sS_]
 refine wpAnyH_done (by kernel_rfl) ?_ _
 clear hS hS2 h20 h21
 go_wp2_with fail
 go_ret
 refine ⟨rfl, 1, #[.cells #[.int .i64 (cmpZ (beg l i : Nat) (beg l j : Nat)), .int .i64 (cmpZ (j : Int) (i : Int))] 3 (0, 0)], ?_⟩
 unfold Go.Sort.grow World.alloc
 simp [World.drewN]
end Go.Proofs.YteggpecbeagohaaGreatDoor.Ast
namespace Go.Proofs.YteggpecbeagohaaGreatDoor.Ast
open Go.RowKit
def idxL (L : List Nat) : List Value := L.map fun i : Nat => .int .i64 (i : Int)
def SortOk : Prop := ∀ (l : Nat → Nd) (n L g b cap : Nat) (w : World), 0 < n → n ≤ 1000000 → siz l n = n → L < w.heap.size → w.cell? ⟨L, 0, none⟩ = some (.slice (some ⟨g, 0, none⟩) n n) → w.rowIs g 3 n (begV l n) → b < w.heap.size → b ≠ L → b ≠ g →
 (∀ j, j < (gix l n).length → w.cell? ⟨b, j, none⟩ = (idxL (gix l n))[j]? ∧ w.frozen? ⟨b, j, none⟩ = false) →
 Calls Tryz.prog 86 #[.slice (some ⟨b, 0, none⟩) (gix l n).length cap, .func (.func 87) #[] #[.pointer (some ⟨L, 0, none⟩)]] w fun e w' =>
  e = .returned (.tuple #[]) ∧ w.grownBy w' (some b) ∧ ∀ j, j < (gix l n).length → w'.cell? ⟨b, j, none⟩ = (idxL (grp l n))[j]?
def SortNone : Prop := ∀ (A : Option Addr) (cap : Nat) (f : Value) (w : World), Calls Tryz.prog 86 #[.slice A 0 cap, f] w fun e w' => e = .returned (.tuple #[]) ∧ w = w'
theorem grpZ_neg (l : Nat → Nd) (i j : Nat) : grpZ l i j < 0 ↔ ahead l i j := by
 unfold grpZ orZ cmpZ ahead
 (repeat' split) <;> omega
end Go.Proofs.YteggpecbeagohaaGreatDoor.Ast
namespace Go.Proofs.YteggpecbeagohaaGreatDoor.Ast
open Go.RowKit
def IdxS (w : World) (A : Option Addr) (L : List Nat) : Prop := ∀ j, j < L.length → ∃ g, A = some ⟨g, 0, none⟩ ∧ g < w.heap.size ∧ w.cell? ⟨g, j, none⟩ = some (.int .i64 (L.getD j 0 : Nat))
theorem idx_succ (l : Nat → Nd) (k : Nat) (h : (l k).k = 11) : idxL (gix l (k + 1)) = idxL (gix l k) ++ [.int .i64 (k : Int)] := by
 unfold idxL
 show ((gix l k ++ (if (l k).k = 11 then [k] else [])).map _) = _
 rw [if_pos h, List.map_append]
 rfl
theorem idx_same (l : Nat → Nd) (k : Nat) (h : (l k).k ≠ 11) : gix l (k + 1) = gix l k := by
 show gix l k ++ (if (l k).k = 11 then [k] else []) = _
 rw [if_neg h, List.append_nil]
theorem grp_gix {l : Nat → Nd} {n : Nat} (hs : siz l n = n) (h0 : 0 < n) : (grp l n).length = (gix l n).length := by
 have hg := gix_perm l n (by omega)
 rw [hs, show n - n = 0 by omega] at hg
 have := hg.length_eq
 simpa [gix] using this.symm
def GrpPost (l : Nat → Nd) (n : Nat) (w : World) (e : Ending) (w' : World) : Prop := ∃ A cap, e = .returned (.slice A (grp l n).length cap) ∧ IdxS w' A (grp l n) ∧ Below w.heap.size w w'
set_option maxHeartbeats 4000000 in
theorem groupsBegin_any (hS : SortOk) (hN : SortNone) (A : Option Addr) (n cap : Nat) (l : Nat → Nd) (w : World) (hn : n ≤ 1000000) (h0 : 0 < n) (hs : siz l n = n) (hl : Nodes w A n l) :
  Calls Tryz.prog 58 #[.slice A n cap] w (GrpPost l n w) := by
 have HL := Lib.hid hl
 have HS := Lib.hid hs
 have HH := Lib.hid hS
 have HN := Lib.hid hN
 have H0 := Lib.hid h0
 obtain ⟨i0, hi, hz0, hz1, hz2⟩ := info_parts infoI
 have HI := Lib.hid (And.intro hi (And.intro hz0 (And.intro hz1 hz2)))
 clear hl hs hS hN hi hz0 hz1 hz2
 go_enter Tryz.func58, Tryz.ntmps58
 go_wp2_with fail
 go_loopw [3, 10] (fun v i wr => ∃ k : Nat, k ≤ n ∧ i = .int .i64 k ∧ wr.ownsRow w.heap.size 3 1 v (gix l k).length (idxL (gix l k)) ∧ Below w.heap.size w wr) (fun _ i _ => n - (intOf i).toNat)
 case atStart => exact ⟨0, Nat.zero_le _, rfl, World.ownsRow_nil _ _ _ _, Below.refl _ _⟩
 case round =>
  obtain ⟨k, hk, rfl, hown, hb⟩ := hrel
  have HO := Lib.hid hown
  have HB := Lib.hid hb
  clear hown hb
  by_cases hlt : k < n
  ·obtain ⟨b, o, rfl, hx⟩ := (HL.out.below HB.out (Nat.le_refl _)).at_ (by omega)
   obtain ⟨c0, c1, c2, c3, c4, c5, c6, c7, c8, c9, c10, c11⟩ := hx.2 k hlt
   clear hx
   by_cases h11 : (l k).k = 11
   ·have HE := Lib.hid (idx_succ l k h11)
    have HLN := Lib.hid (gix_len l k)
    have HL1 := Lib.hid (show (gix l (k + 1)).length = (gix l k).length + 1 by have := congrArg List.length (idx_succ l k h11); simpa [idxL] using this)
    rw [h11] at c0
    clear h11
    go_wp2_with (at_builtin; refine wpList_append_own _ rfl _ _ 77 rfl w.heap.size 3 i0 _ 1 8 Tryz.underlying77 HI.out.1 HI.out.2.1 HI.out.2.2.1 HI.out.2.2.2 rfl (by decide) _ _ _ rfl ((HO.out.alloc _).alloc _) ⟨wr.heap.size + 1, 0, none⟩ 1 1 [.int .i64 (k : Int)] rfl rfl (by simpa using nums_one (wr.alloc _) (k : Int)) (by intro u hu; simp at hu; subst hu; rfl) (by unfold maxLen; have := HLN.out; omega) (by have := HLN.out; omega) (by have := HB.out.size; simp; omega) ?_)
    intro v2 w2 hown2 hgrow2 _
    have HO2 := Lib.hid (show w2.ownsRow w.heap.size 3 1 v2 (gix l (k + 1)).length (idxL (gix l (k + 1))) by rw [HE.out, HL1.out]; exact hown2)
    have HB2 := Lib.hid (((HB.out.alloc HB.out.size _).alloc (by simp; have := HB.out.size; omega) _).grown hgrow2 (by simp; have := HB.out.size; omega) (fun g hg => (HO.out.lt g hg).1))
    clear hown2 hgrow2
    go_wp2_with fail
    go_roundw
    case rel => exact ⟨k + 1, by omega, by go_num, HO2.out, HB2.out⟩
    case measure => simp [intOf]; omega
   ·have q : ((l k).k == 11) = false := by simpa using h11
    have HE := Lib.hid (idx_same l k h11)
    clear h11
    go_wp2_with fail
    go_roundw
    case rel => exact ⟨k + 1, by omega, by go_num, by rw [HE.out]; exact HO.out.alloc _, HB.out.alloc HB.out.size _⟩
    case measure => simp [intOf]; omega
  ·obtain rfl : n = k := by omega
   go_wp2_with fail
   (with_reducible refine (begins_any A n cap l _ hn (HL.out.below HB.out (Nat.le_refl _))).mono ?_)
   rintro e w1 ⟨hb1, h⟩
   have hg : goodB l n = true := by unfold goodB; simp; exact ⟨h0, HS.out⟩
   rcases h with ⟨-, rfl, hrow⟩ | ⟨hg', -⟩
   ·have B1 := Lib.hid (thenB HB.out hb1 HB.out.size)
    have O1 := Lib.hid (own_call HO.out hb1)
    have R1 := Lib.hid (hrow.alloc (.cells #[.slice (some ⟨wr.heap.size, 0, none⟩) n n] 77))
    have HLT := Lib.hid (show ∀ k, u3.ownBlock = some k → w.heap.size ≤ k ∧ k < wr.heap.size from HO.out.lt)
    have HLT1 := Lib.hid (show wr.heap.size < w1.heap.size from hrow.lt)
    clear hb1 hrow hg
    have BL := Lib.hid (show Below w.heap.size w (w1.alloc (.cells #[.slice (some ⟨wr.heap.size, 0, none⟩) n n] 77)) from B1.out.alloc B1.out.size _)
    have GG := Lib.hid (grp_gix HS.out h0)
    rcases HO.out.2 with ⟨rfl, hz⟩ | ⟨g, cp, cur, rfl, hbase, -⟩
    ·go_wp2_with fail
     refine (HN.out none 0 _ _).mono ?_
     rintro e w2 ⟨rfl, rfl⟩
     go_wp2_with fail
     go_ret
     exact ⟨none, 0, by rw [GG.out, hz]; rfl, fun j hj => by rw [GG.out, hz] at hj; omega, BL.out⟩
    ·have hgl : g < wr.heap.size := (HLT.out g rfl).2
     have O2 := Lib.hid (O1.out.alloc (.cells #[.slice (some ⟨wr.heap.size, 0, none⟩) n n] 77))
     have CON := Lib.hid (HH.out l n w1.heap.size wr.heap.size g cp (w1.alloc (.cells #[.slice (some ⟨wr.heap.size, 0, none⟩) n n] 77)) h0 hn HS.out (by simp) (cell_of_one (heap_alloc_new w1 _)) R1.out (by have := HLT1.out; simp; omega) (by have := HLT1.out; omega) (by omega) (fun j hj => ⟨O2.out.cellAt j (by omega), O2.out.frozenAt j⟩))
     go_wp2_with fail
     refine CON.out.mono ?_
     rintro e w2 ⟨rfl, hgr, hcell⟩
     have B2 := Lib.hid (BL.out.grown hgr BL.out.size (fun k hk => by cases hk; exact hbase))
     have SZ := Lib.hid (show w1.heap.size < w2.heap.size by have := hgr.size; simp at this; omega)
     have HC := Lib.hid hcell
     clear hgr hcell
     go_wp2_with fail
     go_ret
     refine ⟨some ⟨g, 0, none⟩, cp, by rw [GG.out]; rfl, fun j hj => ⟨g, rfl, by have := SZ.out; have := HLT1.out; omega, ?_⟩, B2.out⟩
     rw [HC.out j (by rw [← GG.out]; exact hj)]
     unfold idxL
     rw [List.getElem?_map, List.getElem?_eq_getElem hj]
     simp only [List.getD, List.getElem?_eq_getElem hj]
     rfl
   ·rw [hg] at hg'; cases hg'
end Go.Proofs.YteggpecbeagohaaGreatDoor.Ast
namespace Go.Proofs.YteggpecbeagohaaGreatDoor.Ast
open Go.RowKit
def numB (l : Nat → Nd) (L : List Nat) : Nat → Bool
 | 0 => true
 | k + 1 => numB l L k && decide ((l (L.getD k 0)).n = (k : Int) + 1)
def backB (l : Nat → Nd) (m : Nat) : Nat → Bool
 | 0 => true
 | k + 1 => backB l m k && (if (l k).k = 12 then decide (1 ≤ (l k).n ∧ (l k).n ≤ (m : Int)) else true)
def groupsB (l : Nat → Nd) (n : Nat) : Bool := numB l (grp l n) (grp l n).length && backB l (grp l n).length n && decide ((grp l n).length ≤ 9)
theorem num_none {l : Nat → Nd} {L : List Nat} {k : Nat} (h : numB l L k = false) : ∀ d, numB l L (k + d) = false
 | 0 => h
 | d + 1 => by rw [← Nat.add_assoc, numB, num_none h d]; rfl
theorem back_none {l : Nat → Nd} {m k : Nat} (h : backB l m k = false) : ∀ d, backB l m (k + d) = false
 | 0 => h
 | d + 1 => by rw [← Nat.add_assoc, backB, back_none h d]; rfl
theorem groups_no1 {l : Nat → Nd} {n k : Nat} (h : numB l (grp l n) k = false) (hk : k ≤ (grp l n).length) : groupsB l n = false := by
 have := num_none h ((grp l n).length - k)
 rw [show k + ((grp l n).length - k) = (grp l n).length by omega] at this
 unfold groupsB; rw [this]; rfl
theorem groups_no2 {l : Nat → Nd} {n k : Nat} (h : backB l (grp l n).length k = false) (hk : k ≤ n) : groupsB l n = false := by
 have := back_none h (n - k)
 rw [show k + (n - k) = n by omega] at this
 unfold groupsB; rw [this]; simp
set_option maxHeartbeats 4000000 in
theorem rightGroups_any (hS : SortOk) (hN : SortNone) (A : Option Addr) (n cap : Nat) (l : Nat → Nd) (w : World) (hn : n ≤ 1000000) (h0 : 0 < n) (hs : siz l n = n) (hl : Nodes w A n l) :
  Calls Tryz.prog 37 #[.slice A n cap] w fun e w' => e = .returned (.bool (groupsB l n)) ∧ Below w.heap.size w w' := by
 have HL := Lib.hid hl
 have HS := Lib.hid hs
 have HC := Lib.hid (show ∀ w, Nodes w A n l → Calls Tryz.prog 58 #[.slice A n cap] w (GrpPost l n w) from fun w hw => groupsBegin_any hS hN A n cap l w hn h0 hs hw)
 have HM := Lib.hid (show ∀ x, x ∈ grp l n → x < n from fun x hx => (grp_mem l n (by omega) x hx).2.1)
 have HLE := Lib.hid (show (grp l n).length ≤ n by have := grp_len l n (by omega); omega)
 have HNO1 := Lib.hid (show ∀ k, numB l (grp l n) k = false → k ≤ (grp l n).length → groupsB l n = false from fun k => groups_no1)
 have HNO2 := Lib.hid (show ∀ k, backB l (grp l n).length k = false → k ≤ n → groupsB l n = false from fun k => groups_no2)
 have HGB := Lib.hid (show groupsB l n = (numB l (grp l n) (grp l n).length && backB l (grp l n).length n && decide ((grp l n).length ≤ 9)) from rfl)
 clear hl hs hS hN
 go_enter Tryz.func37, Tryz.ntmps37
 go_wp2_with fail
 refine (HC.out _ HL.out).mono ?_
 rintro e w0 ⟨G, gc, rfl, hix, hb0⟩
 have I0 := Lib.hid hix
 have B0 := Lib.hid hb0
 clear hix hb0 HC
 generalize hgg : groupsB l n = gb at HGB HNO1 HNO2
 generalize grp l n = L at HM HLE HNO1 HNO2 HGB I0
 obtain ⟨m, hm⟩ : ∃ m, m = L.length := ⟨_, rfl⟩
 rw [← hm] at HLE HNO1 HNO2 HGB
 have HML := Lib.hid hm
 rw [show L.length = m from hm.symm]
 have HGG := Lib.hid hgg
 clear hm hgg
 have mle : m ≤ 1000000 := by have := HLE.out; omega
 go_wp2_with fail
 go_loopw [12] (fun i wr => ∃ k : Nat, k ≤ m ∧ i = .int .i64 k ∧ numB l L k = true ∧ IdxS wr G L ∧ Below w.heap.size w wr) (fun i _ => m - (intOf i).toNat)
 case atStart => exact ⟨0, Nat.zero_le _, rfl, rfl, I0.out, B0.out⟩
 case round =>
  obtain ⟨k, hk, rfl, hnum, hix, hb⟩ := hrel
  have HU := Lib.hid hnum
  have HB := Lib.hid hb
  have HIX := Lib.hid hix
  clear hnum hb hix I0 B0
  by_cases hlt : k < m
  ·obtain ⟨g, rfl, hgl, hgc⟩ := HIX.out k (by have := HML.out; omega)
   obtain ⟨i, hi⟩ : ∃ i, i = L.getD k 0 := ⟨_, rfl⟩
   rw [← hi] at hgc
   have hin : i < n := HM.out i (by
    rw [hi]
    have hk' : k < L.length := by have := HML.out; omega
    rw [show L.getD k 0 = L[k] by simp [List.getD, hk']]
    exact List.getElem_mem hk')
   have HX := Lib.hid (show numB l L (k + 1) = decide ((l i).n = (k : Int) + 1) by
    show (numB l L k && decide ((l (L.getD k 0)).n = (k : Int) + 1)) = _
    rw [HU.out, ← hi]; rfl)
   obtain ⟨b, o, rfl, hx⟩ := (HL.out.below HB.out (Nat.le_refl _)).at_ (by omega)
   obtain ⟨-, -, -, -, -, -, -, -, -, -, c10, -⟩ := hx.2 i hin
   have i0 : (0 : Int) ≤ (i : Int) := by omega
   have i1 : (i : Int) < (n : Int) := by omega
   clear hx hi
   by_cases he : (l i).n = (k : Int) + 1
   ·have HZ := Lib.hid (show numB l L (k + 1) = true by rw [HX.out]; simpa using he)
    rw [he] at c10
    clear he
    go_wp2_with fail
    go_roundw
    case rel => exact ⟨k + 1, by omega, by go_num, HZ.out, HIX.out, HB.out⟩
    case measure => simp [intOf]; omega
   ·have HZ := Lib.hid (show gb = false from HNO1.out (k + 1) (by rw [HX.out]; simpa using he) (by omega))
    have q1 : ((l i).n != (k : Int) + 1) = true := by simpa using he
    have q2 : ((l i).n == (k : Int) + 1) = false := by simpa using he
    have q3 : decide ((l i).n = (k : Int) + 1) = false := by simpa using he
    go_wp2_with fail
    go_ret
    exact ⟨by rw [HGG.out, HZ.out]; rfl, HB.out⟩
  ·obtain rfl : m = k := by omega
   have HUN := Lib.hid HU.out
   clear HU HIX
   go_wp2_with fail
   go_loopw [28] (fun i ws => ∃ k : Nat, k ≤ n ∧ i = .int .i64 k ∧ backB l m k = true ∧ Below w.heap.size w ws) (fun i _ => n - (intOf i).toNat)
   case atStart => exact ⟨0, Nat.zero_le _, rfl, rfl, HB.out⟩
   case round =>
    obtain ⟨k, hk, rfl, hbk, hb⟩ := hrel
    have HU := Lib.hid hbk
    have HB2 := Lib.hid hb
    clear hbk hb HB
    by_cases hlt2 : k < n
    ·obtain ⟨b, o, rfl, hx⟩ := (HL.out.below HB2.out (Nat.le_refl _)).at_ (by omega)
     obtain ⟨c0, c1, c2, c3, c4, c5, c6, c7, c8, c9, c10, c11⟩ := hx.2 k hlt2
     have HX := Lib.hid (show backB l m (k + 1) = (if (l k).k = 12 then decide (1 ≤ (l k).n ∧ (l k).n ≤ (m : Int)) else true) by
      show (backB l m k && _) = _
      rw [HU.out]; rfl)
     clear hx
     by_cases h12 : (l k).k = 12
     ·rw [if_pos h12] at HX
      rw [h12] at c0
      clear h12
      by_cases hlo : (l k).n < 1
      ·have HZ := Lib.hid (show gb = false from HNO2.out (k + 1) (by rw [HX.out]; simp; omega) (by omega))
       go_wp2_with fail
       go_ret
       exact ⟨by rw [HGG.out, HZ.out]; rfl, HB2.out.alloc HB2.out.size _⟩
      ·by_cases hhi : (m : Int) < (l k).n
       ·have HZ := Lib.hid (show gb = false from HNO2.out (k + 1) (by rw [HX.out]; simp; omega) (by omega))
        go_wp2_with fail
        go_ret
        exact ⟨by rw [HGG.out, HZ.out]; rfl, HB2.out.alloc HB2.out.size _⟩
       ·have HZ := Lib.hid (show backB l m (k + 1) = true by rw [HX.out]; simp; omega)
        go_wp2_with fail
        go_roundw
        case rel => exact ⟨k + 1, by omega, by go_num, HZ.out, HB2.out.alloc HB2.out.size _⟩
        case measure => simp [intOf]; omega
     ·have HZ := Lib.hid (show backB l m (k + 1) = true by rw [HX.out, if_neg h12])
      have q : ((l k).k == 12) = false := by simpa using h12
      clear h12
      go_wp2_with fail
      go_roundw
      case rel => exact ⟨k + 1, by omega, by go_num, HZ.out, HB2.out.alloc HB2.out.size _⟩
      case measure => simp [intOf]; omega
    ·obtain rfl : n = k := by omega
     have HV := Lib.hid (show gb = decide (m ≤ 9) by rw [HGB.out, HUN.out, HU.out]; rfl)
     go_wp2_with fail
     go_ret
     exact ⟨ret_b (by rw [HGG.out, HV.out]; exact decide_eq_decide.2 (by omega)), HB2.out⟩
def rightZ (l : Nat → Nd) (n : Nat) : Int := if shapeZ l n ≠ 0 then shapeZ l n else if groupsB l n = false then 6 else if behB l n = false then 7 else 0
set_option maxHeartbeats 1000000 in
theorem right_any (hS : SortOk) (hN : SortNone) (A : Option Addr) (n cap : Nat) (l : Nat → Nd) (w : World) (hn : n ≤ 1000000) (hl : Nodes w A n l) :
  Calls Tryz.prog 20 #[.agg #[.slice A n cap]] w fun e w' => e = .returned (.int .i64 (rightZ l n)) ∧ Below w.heap.size w w' := by
 have HL := Lib.hid hl
 have HH := Lib.hid (And.intro hS hN)
 clear hl hS hN
 go_enter Tryz.func20, Tryz.ntmps20
 go_wp2_with fail
 refine (rightShape_any A n cap l _ hn (HL.out.below (B := w.heap.size) (by go_grown) (Nat.le_refl _))).mono ?_
 rintro e w1 ⟨rfl, hb⟩
 have T1 := Lib.hid ((TreeBox.new w A n cap).call hb)
 have B1 := Lib.hid (thenB (B := w.heap.size) (w := w) (by go_grown) hb (by simp))
 clear hb
 have c0 := T1.out.cell
 by_cases h0 : shapeZ l n = 0
 ·obtain ⟨h5, hpos, hs⟩ := form_0 (shape_0 h0).1
  have HV := Lib.hid (show rightZ l n = if groupsB l n = false then 6 else if behB l n = false then 7 else 0 by unfold rightZ; rw [if_neg (by omega)])
  have HS := Lib.hid hs
  rw [h0]
  clear h0 hs
  go_wp2_with fail
  refine (rightGroups_any HH.out.1 HH.out.2 A n cap l _ hn hpos HS.out (HL.out.below B1.out (Nat.le_refl _))).mono ?_
  rintro e w2 ⟨rfl, hb⟩
  have T2 := Lib.hid (T1.out.call hb)
  have B2 := Lib.hid (thenB B1.out hb B1.out.size)
  clear hb c0
  have c0 := T2.out.cell
  cases hg : groupsB l n with
  | false =>
    have HV' := Lib.hid (show rightZ l n = 6 by rw [HV.out, if_pos hg])
    clear hg HV
    go_wp2_with fail
    go_ret
    exact ⟨by rw [HV'.out]; rfl, B2.out⟩
  | true =>
    have HV1 := Lib.hid (show rightZ l n = if behB l n = false then 7 else 0 by rw [HV.out, if_neg (by rw [hg]; decide)])
    clear hg HV
    go_wp2_with fail
    refine (rightBehinds_any A n cap l _ hn HS.out (HL.out.below B2.out (Nat.le_refl _))).mono ?_
    rintro e w3 ⟨rfl, hb⟩
    have B3 := Lib.hid (thenB B2.out hb B2.out.size)
    clear hb c0
    cases hbh : behB l n with
    | false =>
      have HV' := Lib.hid (show rightZ l n = 7 by rw [HV1.out, if_pos hbh])
      clear hbh HV1
      go_wp2_with fail
      go_ret
      exact ⟨by rw [HV'.out]; rfl, B3.out⟩
    | true =>
      have HV' := Lib.hid (show rightZ l n = 0 by rw [HV1.out, if_neg (by rw [hbh]; decide)])
      clear hbh HV1
      go_wp2_with fail
      go_ret
      exact ⟨by rw [HV'.out]; rfl, B3.out⟩
 ·have HV := Lib.hid (show rightZ l n = shapeZ l n by unfold rightZ; rw [if_pos h0])
  have q1 : (shapeZ l n != 0) = true := by simpa using h0
  have q : (shapeZ l n == 0) = false := by simpa using h0
  clear h0
  go_wp2_with fail
  go_ret
  exact ⟨by rw [HV.out]; rfl, B1.out⟩
end Go.Proofs.YteggpecbeagohaaGreatDoor.Ast
