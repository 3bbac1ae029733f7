import Derived.Test.YteggpecbeagohaaGreatDoorCapDefM
import Derived.RegionTactic
import Derived.BigQuiet
import Derived.Deep.QuietTactic
namespace Go.Proofs.YteggpecbeagohaaGreatDoor.Cap
open Go.RowKit
theorem group_yes (g : Int) (h : grpP g) (w : World) : Calls Tryz.prog 55 #[.int .i64 g] w fun e w' => e = .returned (.bool true) ∧ w = w' := by
 obtain ⟨h1, h2⟩ := h
 go_enter Tryz.func55, Tryz.ntmps55
 go_wp2
 go_ret
 exact ⟨rfl, rfl⟩
theorem group_no (g : Int) (h : ¬ grpP g) (w : World) : Calls Tryz.prog 55 #[.int .i64 g] w fun e w' => e = .returned (.bool false) ∧ w = w' := by
 by_cases h1 : 1 ≤ g
 ·have h2 : 9 < g := by unfold grpP at h; omega
  have h3 : decide (g ≤ 9) = false := decide_eq_false (by omega)
  go_enter Tryz.func55, Tryz.ntmps55
  go_wp2
  go_ret
  exact ⟨rfl, rfl⟩
 ·have h3 : decide (1 ≤ g) = false := decide_eq_false (by omega)
  go_enter Tryz.func55, Tryz.ntmps55
  go_wp2
  go_ret
  exact ⟨rfl, rfl⟩
theorem fits_yes (x y m : Int) (h0 : 0 ≤ x) (h1 : x ≤ y) (h2 : y ≤ m) (w : World) : Calls Tryz.prog 98 #[.agg #[.int .i64 x, .int .i64 y], .int .i64 m] w fun e w' => e = .returned (.bool true) ∧ Below w.heap.size w w' := by
 go_enter Tryz.func98, Tryz.ntmps98
 go_wp2
 go_ret
 exact ⟨rfl, by go_grown⟩
theorem fits_no (x y m : Int) (h : ¬ (0 ≤ x ∧ x ≤ y ∧ y ≤ m)) (w : World) : Calls Tryz.prog 98 #[.agg #[.int .i64 x, .int .i64 y], .int .i64 m] w fun e w' => e = .returned (.bool false) ∧ Below w.heap.size w w' := by
 by_cases h0 : 0 ≤ x
 ·by_cases h2 : y ≤ m
  ·have h3 : decide (x ≤ y) = false := decide_eq_false (by omega)
   clear h
   go_enter Tryz.func98, Tryz.ntmps98
   go_wp2
   go_ret
   exact ⟨rfl, by go_grown⟩
  ·have h3 : (y == m) = false := beq_eq_false_iff_ne.2 (by omega)
   have h4 : m < y := by omega
   clear h
   go_enter Tryz.func98, Tryz.ntmps98
   go_wp2
   go_ret
   exact ⟨rfl, by go_grown⟩
 ·have h3 : (x == 0) = false := beq_eq_false_iff_ne.2 (by omega)
  have h4 : x < 0 := by omega
  clear h
  go_enter Tryz.func98, Tryz.ntmps98
  go_wp2
  all_goals
   go_ret
   exact ⟨rfl, by go_grown⟩
end Go.Proofs.YteggpecbeagohaaGreatDoor.Cap
namespace Go.Proofs.YteggpecbeagohaaGreatDoor.Cap
open Go.RowKit
theorem box_is (c : Cp) (T : TypeId) (k : Nat) (h : k < 9) (w : World) (o : Obj) : ((w.alloc (.cells (cpC c) T)).alloc o).cell? ⟨w.heap.size, k, none⟩ = some (.bool (c.is k)) :=
 ((BoxV.new (T := T) w (cpC c)).alloc o).get k (cpC_is c k h)
theorem box_fr (c : Cp) (T : TypeId) (k : Nat) (h : k < 9) (w : World) (o : Obj) : ((w.alloc (.cells (cpC c) T)).alloc o).cell? ⟨w.heap.size, 9 + k * 2, none⟩ = some (.int .i64 (c.fr k)) := by
 rw [Nat.mul_comm]; exact ((BoxV.new (T := T) w (cpC c)).alloc o).get _ (cpC_fr c k h)
theorem box_to (c : Cp) (T : TypeId) (k : Nat) (h : k < 9) (w : World) (o : Obj) : ((w.alloc (.cells (cpC c) T)).alloc o).cell? ⟨w.heap.size, 9 + k * 2 + 1, none⟩ = some (.int .i64 (c.to k)) := by
 rw [Nat.mul_comm]; exact ((BoxV.new (T := T) w (cpC c)).alloc o).get _ (cpC_to c k h)
abbrev twoV (x y : Int) (b : Bool) : Value := .tuple #[.agg #[.int .i64 x, .int .i64 y], .bool b]
set_option maxRecDepth 20000 in
theorem place_none (c : Cp) (g : Int) (h : ¬ grpP g) (w : World) : Calls Tryz.prog 35 #[.agg (cpC c), .int .i64 g] w fun e w' => e = .returned (twoV 0 0 false) ∧ Below w.heap.size w w' := by
 have HG := Lib.hid (fun w => group_no g h w)
 clear h
 go_enter Tryz.func35, Tryz.ntmps35
 go_wp2_with fail
 refine (HG.out _).mono ?_
 rintro e w' ⟨rfl, rfl⟩
 go_wp2_with fail
 exact bodyPost_ret (v := twoV 0 0 false) (by simp [results, Tryz.results35, go_sem]) rfl ⟨rfl, by go_grown⟩
set_option maxRecDepth 20000 in
theorem place_off (c : Cp) (k : Nat) (h : k < 9) (hi : c.is k = false) (w : World) : Calls Tryz.prog 35 #[.agg (cpC c), .int .i64 ((k : Int) + 1)] w fun e w' => e = .returned (twoV 0 0 false) ∧ Below w.heap.size w w' := by
 have HG := Lib.hid (fun w => group_yes ((k : Int) + 1) ⟨by omega, by omega⟩ w)
 have hc := fun o => (box_is c 26 k h w o)
 rw [hi] at hc
 clear hi
 go_enter Tryz.func35, Tryz.ntmps35
 go_wp2_with fail
 refine (HG.out _).mono ?_
 rintro e w' ⟨rfl, rfl⟩
 go_wp2_with fail
 exact bodyPost_ret (v := twoV 0 0 false) (by simp [results, Tryz.results35, go_sem]) rfl ⟨rfl, by go_grown⟩
set_option maxRecDepth 20000 in
theorem place_on (c : Cp) (k : Nat) (h : k < 9) (hi : c.is k = true) (w : World) : Calls Tryz.prog 35 #[.agg (cpC c), .int .i64 ((k : Int) + 1)] w fun e w' => e = .returned (twoV (c.fr k) (c.to k) true) ∧ Below w.heap.size w w' := by
 have HG := Lib.hid (fun w => group_yes ((k : Int) + 1) ⟨by omega, by omega⟩ w)
 have hc := fun o => (box_is c 26 k h w o)
 have hf := fun o => (box_fr c 26 k h w o)
 have ht := fun o => (box_to c 26 k h w o)
 rw [hi] at hc
 clear hi
 go_enter Tryz.func35, Tryz.ntmps35
 go_wp2_with fail
 refine (HG.out _).mono ?_
 rintro e w' ⟨rfl, rfl⟩
 go_wp2_with fail
 exact bodyPost_ret (v := twoV (c.fr k) (c.to k) true) (by simp [results, Tryz.results35, go_sem]) rfl ⟨rfl, by go_grown⟩
theorem place_no (c : Cp) (g : Int) (h : getZ c g = none) (w : World) : Calls Tryz.prog 35 #[.agg (cpC c), .int .i64 g] w fun e w' => e = .returned (twoV 0 0 false) ∧ Below w.heap.size w w' := by
 rcases getZ_none h with hg | ⟨k, hk, rfl, hi⟩
 ·exact place_none c g hg w
 ·exact place_off c k hk hi w
theorem place_yes (c : Cp) (g x y : Int) (h : getZ c g = some (x, y)) (w : World) : Calls Tryz.prog 35 #[.agg (cpC c), .int .i64 g] w fun e w' => e = .returned (twoV x y true) ∧ Below w.heap.size w w' := by
 obtain ⟨k, hk, rfl, hi, rfl, rfl⟩ := getZ_some h
 exact place_on c k hk hi w
def plX (c : Cp) (g : Int) : Int := match getZ c g with | some (x, _) => x | none => 0
def plY (c : Cp) (g : Int) : Int := match getZ c g with | some (_, y) => y | none => 0
def plB (c : Cp) (g : Int) : Bool := (getZ c g).isSome
theorem place_any (c : Cp) (g : Int) (w : World) : Calls Tryz.prog 35 #[.agg (cpC c), .int .i64 g] w fun e w' => e = .returned (twoV (plX c g) (plY c g) (plB c g)) ∧ Below w.heap.size w w' := by
 unfold plX plY plB
 cases h : getZ c g with
 | none => exact place_no c g h w
 | some p => obtain ⟨x, y⟩ := p; exact place_yes c g x y h w
set_option maxRecDepth 20000 in
theorem get_any (c : Cp) (g : Int) (w : World) : Calls Tryz.prog 19 #[.agg (cpC c), .int .i64 g] w fun e w' => e = .returned (.tuple #[.int .i64 (plX c g), .int .i64 (plY c g), .bool (plB c g)]) ∧ Below w.heap.size w w' := by
 have HP := Lib.hid (fun w => place_any c g w)
 have HX := Lib.hid (BoxV.new (T := 26) w (cpC c))
 generalize plX c g = x at HP ⊢
 generalize plY c g = y at HP ⊢
 generalize plB c g = b at HP ⊢
 go_enter Tryz.func19, Tryz.ntmps19
 go_wp2_with (refine loadC rfl _ rfl w.heap.size c rfl HX.out ?_)
 refine (HP.out _).mono ?_
 rintro e w1 ⟨rfl, hb⟩
 have HB := Lib.hid hb
 clear hb
 go_wp2_with fail
 go_quiet (fail)
 go_wp2_with fail
 go_ret3
 exact ⟨rfl, below_drewN (newB (afterBox HB.out) (afterBox HB.out).size _) _⟩
def pcS (c : Cp) (s : ByteArray) (g : Int) : ByteArray := match pieceZ c s.size g with | some (a, b) => s.extract a b | none => ⟨#[]⟩
def pcB (c : Cp) (s : ByteArray) (g : Int) : Bool := (pieceZ c s.size g).isSome
theorem pair_cells {w w2 : World} {T : TypeId} {x y : Value} (hb : Below (w.alloc (.cells #[x, y] T)).heap.size (w.alloc (.cells #[x, y] T)) w2) : w2.cell? ⟨w.heap.size, 0, none⟩ = some x ∧ w2.cell? ⟨w.heap.size, 1, none⟩ = some y :=
 ⟨((BoxV.new w #[x, y]).below hb (by simp)).get 0 rfl, ((BoxV.new w #[x, y]).below hb (by simp)).get 1 rfl⟩
set_option maxRecDepth 20000 in
theorem piece_any (c : Cp) (s : ByteArray) (hs : s.size ≤ maxLen) (g : Int) (w : World) : Calls Tryz.prog 123 #[.agg (cpC c), .string s, .int .i64 g] w fun e w' => e = .returned (.tuple #[.string (pcS c s g), .bool (pcB c s g)]) ∧ Below w.heap.size w w' := by
 unfold maxLen at hs
 have HX := Lib.hid (BoxV.new (T := 26) w (cpC c))
 unfold pcS pcB
 cases hp : pieceZ c s.size g with
 | some p =>
   obtain ⟨a, b⟩ := p
   obtain ⟨hg, h1, h2, h3⟩ := pieceZ_some hp
   have HP := Lib.hid (fun w => place_yes c g _ _ hg w)
   clear hp hg
   by_cases hm : 10000 < s.size
   all_goals
    go_enter Tryz.func123, Tryz.ntmps123
    go_wp2_with (refine loadC rfl _ rfl w.heap.size c rfl HX.out ?_)
    refine (HP.out _).mono ?_
    rintro e w1 ⟨rfl, hb⟩
    have HB := Lib.hid hb
    clear hb
    go_wp2_with fail
    refine (fits_yes _ _ _ (by omega) (by omega) (by omega) _).mono ?_
    rintro e w2 ⟨rfl, hb⟩
    obtain ⟨c0, c1⟩ := pair_cells hb
    have HB2 := Lib.hid (thenB (newB (afterBox HB.out) (afterBox HB.out).size _) hb (by have := (afterBox HB.out).size; simp; omega))
    clear hb
    go_wp2_with fail
    go_ret2
    exact ⟨rfl, HB2.out⟩
 | none =>
   rcases pieceZ_none hp with hg | ⟨x, y, hg, hn⟩
   ·have HP := Lib.hid (fun w => place_no c g hg w)
    clear hp hg
    go_enter Tryz.func123, Tryz.ntmps123
    go_wp2_with (refine loadC rfl _ rfl w.heap.size c rfl HX.out ?_)
    refine (HP.out _).mono ?_
    rintro e w1 ⟨rfl, hb⟩
    have HB := Lib.hid hb
    clear hb
    go_wp2_with fail
    go_ret2
    exact ⟨rfl, newB (afterBox HB.out) (afterBox HB.out).size _⟩
   ·have HP := Lib.hid (fun w => place_yes c g _ _ hg w)
    have HN := Lib.hid hn
    clear hp hg hn
    by_cases hm : 10000 < s.size
    all_goals
     go_enter Tryz.func123, Tryz.ntmps123
     go_wp2_with (refine loadC rfl _ rfl w.heap.size c rfl HX.out ?_)
     refine (HP.out _).mono ?_
     rintro e w1 ⟨rfl, hb⟩
     have HB := Lib.hid hb
     clear hb
     go_wp2_with fail
     refine (fits_no _ _ _ (by have := HN.out; unfold mayP at this; omega) _).mono ?_
     rintro e w2 ⟨rfl, hb⟩
     have HB2 := Lib.hid (thenB (newB (afterBox HB.out) (afterBox HB.out).size _) hb (by have := (afterBox HB.out).size; simp; omega))
     clear hb
     go_wp2_with fail
     go_ret2
     exact ⟨rfl, HB2.out⟩
end Go.Proofs.YteggpecbeagohaaGreatDoor.Cap
namespace Go.Proofs.YteggpecbeagohaaGreatDoor.Cap
open Go.RowKit
section
variable {P : Program} {ops : Array Oper} {Q : Exit → Act → World → Prop} {md : Region.Mode} {S : World → Prop} {fuel : Nat} {listed : Array Bool} {a : Act} {w : World}
theorem skipAt (i : Nat) (w' : World) {oi : Oper} (hi : ops[i]? = some oi) (hd : oi.dst = none) (hr : Region.ready md ops listed = [i]) (hw : Region.wanted oi (yielded ops a.tmps) = true)
  (hrun : (execOp a.eval oi).run P w = .ok .skip w') (hS : S w') (hgo : wpAnyH P md ops Q S fuel (listed.setIfInBounds i true) a w') : wpAnyH P md ops Q S (fuel + 1) listed a w := by
 refine wpAnyH_ready (rs := [i]) hr (by simp) (AllReadyH.cons hi (fun K hK => ?_) AllReadyH.nil)
 rw [if_pos hw]
 have hK2 := Lib.hid (hK.out _ _ hS (fun _ => hgo))
 unfold Oper.wp
 rw [hrun]
 unfold Oper.upon
 rw [hd]
 exact hK2.out
end
section
variable {ops : Array Oper} {R : World → Prop} {a : Act} {o : Oper} {x y : Operand} {w : World}
theorem idxIs_y (g j k : Nat) (h : k < 9) (ho : o.op = .indexAddr 22 x y) (hx : a.eval x = .pointer (some ⟨g, j, none⟩)) (hy : a.eval y = .int .i64 (k : Int)) (hw : Region.wanted o (yielded ops a.tmps) = true) : YieldsIf Tryz.prog ops R o (.pointer (some ⟨g, j + k, none⟩)) a := by
 refine Or.inl ⟨hw, fun u _ => ?_⟩
 unfold execOp
 simp only [ho, hx, hy]
 go_simp
 exact fun h9 => absurd h9 (by omega)
theorem idxAt_y (g j k : Nat) (h : k < 9) (ho : o.op = .indexAddr 24 x y) (hx : a.eval x = .pointer (some ⟨g, j, none⟩)) (hy : a.eval y = .int .i64 (k : Int)) (hw : Region.wanted o (yielded ops a.tmps) = true) : YieldsIf Tryz.prog ops R o (.pointer (some ⟨g, j + k * 2, none⟩)) a := by
 refine Or.inl ⟨hw, fun u _ => ?_⟩
 unfold execOp
 simp only [ho, hx, hy]
 go_simp
 exact fun h9 => absurd h9 (by omega)
theorem dec_y (k : Nat) (h : k < 9) (ho : o.op = .binOp .sub 3 x y 3) (hx : a.eval x = .int .i64 ((k : Int) + 1)) (hy : a.eval y = .int .i64 1) (hw : Region.wanted o (yielded ops a.tmps) = true) : YieldsIf Tryz.prog ops R o (.int .i64 (k : Int)) a := by
 refine Or.inl ⟨hw, fun u _ => ?_⟩
 unfold execOp
 simp only [ho, hx, hy]
 go_simp
 rw [IntKind.wrap_i64] <;> omega
theorem loadPair_y (g : Nat) (p q : Int) (hR : ∀ u, R u → BoxV 23 u g #[.int .i64 p, .int .i64 q]) (ho : o.op = .load 23 x) (hx : a.eval x = .pointer (some ⟨g, 0, none⟩)) (hw : Region.wanted o (yielded ops a.tmps) = true) : YieldsIf Tryz.prog ops R o (.agg #[.int .i64 p, .int .i64 q]) a := by
 refine Or.inl ⟨hw, fun u hu => ?_⟩
 have c0 := (hR u hu).get 0 rfl
 have c1 := (hR u hu).get 1 rfl
 unfold execOp
 simp only [ho, hx]
 go_simp
theorem exec_is (T : TypeId) (g k : Nat) (cs : Array Value) (hk : k < 9) (c : Cp) (hcs : cs = cpC c) (ho : o.op = .store 4 x y) (hx : a.eval x = .pointer (some ⟨g, k, none⟩)) (hy : a.eval y = .bool true) (hg : BoxV T w g cs) :
  (execOp a.eval o).run Tryz.prog w = .ok .skip (w.setCell ⟨g, k, none⟩ (.bool true)) := by
 subst hcs
 have hf := hg.free k
 have hc := hg.get k (cpC_is c k hk)
 unfold execOp
 simp only [ho, hx, hy]
 simp [go_sem, hf, hc]
theorem exec_pair (T : TypeId) (g j : Nat) (p q p0 q0 : Int) (cs : Array Value) (ho : o.op = .store 23 x y) (hx : a.eval x = .pointer (some ⟨g, j, none⟩)) (hy : a.eval y = .agg #[.int .i64 p, .int .i64 q]) (hg : BoxV T w g cs) (h0 : cs[j]? = some (.int .i64 p0)) (h1 : cs[j + 1]? = some (.int .i64 q0)) :
  (execOp a.eval o).run Tryz.prog w = .ok .skip ((w.setCell ⟨g, j, none⟩ (.int .i64 p)).setCell ⟨g, j + 1, none⟩ (.int .i64 q)) := by
 have hf0 := hg.free j
 have hf1 := hg.free (j + 1)
 have hc0 := hg.get j h0
 have hc1 := hg.get (j + 1) h1
 unfold execOp
 simp only [ho, hx, hy]
 simp [go_sem, hf0, hc0, hf1, hc1]
end
end Go.Proofs.YteggpecbeagohaaGreatDoor.Cap
