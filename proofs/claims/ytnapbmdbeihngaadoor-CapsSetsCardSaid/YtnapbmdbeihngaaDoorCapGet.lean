/-
  Layer 10, the landed code: place, Get, piece; the document's Get, Text.
-/
import Derived.Test.YtnapbmdbeihngaaDoorCapKit
namespace Go.Proofs.YtnapbmdbeihngaaDoor
open Go.RowKit

/-- The cells of a box of groups, past a new block. -/
theorem box_is (c : Cp) (T : TypeId) (k : Nat) (h : k < 9) (w : World) (o : Obj) : ((w.alloc (.cells (cpC c) T)).alloc o).cell? ⟨w.heap.size, k, none⟩ = some (.bool (c.is k)) :=
  ((BoxV.new (T := T) w (cpC c)).alloc o).get k (cpC_is c k h)
theorem box_fr (c : Cp) (T : TypeId) (k : Nat) (h : k < 9) (w : World) (o : Obj) : ((w.alloc (.cells (cpC c) T)).alloc o).cell? ⟨w.heap.size, 9 + k * 2, none⟩ = some (.int .i64 (c.fr k)) := by
  rw [Nat.mul_comm]; exact ((BoxV.new (T := T) w (cpC c)).alloc o).get _ (cpC_fr c k h)
theorem box_to (c : Cp) (T : TypeId) (k : Nat) (h : k < 9) (w : World) (o : Obj) : ((w.alloc (.cells (cpC c) T)).alloc o).cell? ⟨w.heap.size, 9 + k * 2 + 1, none⟩ = some (.int .i64 (c.to k)) := by
  rw [Nat.mul_comm]; exact ((BoxV.new (T := T) w (cpC c)).alloc o).get _ (cpC_to c k h)
abbrev twoV (x y : Int) (b : Bool) : Value := .tuple #[.agg #[.int .i64 x, .int .i64 y], .bool b]
set_option maxRecDepth 20000 in
theorem place_none (c : Cp) (g : Int) (h : ¬ grpP g) (w : World) : Calls Tryd.prog 23 #[.agg (cpC c), .int .i64 g] w fun e w' => e = .returned (twoV 0 0 false) ∧ Below w.heap.size w w' := by
  have HG := Lib.hid (fun w => group_no g h w)
  clear h
  go_enter Tryd.func23, Tryd.ntmps23
  go_wp2_with fail
  refine (HG.out _).mono ?_
  rintro e w' ⟨rfl, rfl⟩
  go_wp2_with fail
  exact bodyPost_ret (v := twoV 0 0 false) (by simp [results, Tryd.results23, go_sem]) rfl ⟨rfl, by go_grown⟩
set_option maxRecDepth 20000 in
theorem place_off (c : Cp) (k : Nat) (h : k < 9) (hi : c.is k = false) (w : World) : Calls Tryd.prog 23 #[.agg (cpC c), .int .i64 ((k : Int) + 1)] w fun e w' => e = .returned (twoV 0 0 false) ∧ Below w.heap.size w w' := by
  have HG := Lib.hid (fun w => group_yes ((k : Int) + 1) ⟨by omega, by omega⟩ w)
  have hc := fun o => (box_is c 26 k h w o)
  rw [hi] at hc
  clear hi
  go_enter Tryd.func23, Tryd.ntmps23
  go_wp2_with fail
  refine (HG.out _).mono ?_
  rintro e w' ⟨rfl, rfl⟩
  go_wp2_with fail
  exact bodyPost_ret (v := twoV 0 0 false) (by simp [results, Tryd.results23, go_sem]) rfl ⟨rfl, by go_grown⟩
set_option maxRecDepth 20000 in
theorem place_on (c : Cp) (k : Nat) (h : k < 9) (hi : c.is k = true) (w : World) : Calls Tryd.prog 23 #[.agg (cpC c), .int .i64 ((k : Int) + 1)] w fun e w' => e = .returned (twoV (c.fr k) (c.to k) true) ∧ Below w.heap.size w w' := by
  have HG := Lib.hid (fun w => group_yes ((k : Int) + 1) ⟨by omega, by omega⟩ w)
  have hc := fun o => (box_is c 26 k h w o)
  have hf := fun o => (box_fr c 26 k h w o)
  have ht := fun o => (box_to c 26 k h w o)
  rw [hi] at hc
  clear hi
  go_enter Tryd.func23, Tryd.ntmps23
  go_wp2_with fail
  refine (HG.out _).mono ?_
  rintro e w' ⟨rfl, rfl⟩
  go_wp2_with fail
  exact bodyPost_ret (v := twoV (c.fr k) (c.to k) true) (by simp [results, Tryd.results23, go_sem]) rfl ⟨rfl, by go_grown⟩
theorem place_no (c : Cp) (g : Int) (h : getZ c g = none) (w : World) : Calls Tryd.prog 23 #[.agg (cpC c), .int .i64 g] w fun e w' => e = .returned (twoV 0 0 false) ∧ Below w.heap.size w w' := by
  rcases getZ_none h with hg | ⟨k, hk, rfl, hi⟩
  · exact place_none c g hg w
  · exact place_off c k hk hi w
theorem place_yes (c : Cp) (g x y : Int) (h : getZ c g = some (x, y)) (w : World) : Calls Tryd.prog 23 #[.agg (cpC c), .int .i64 g] w fun e w' => e = .returned (twoV x y true) ∧ Below w.heap.size w w' := by
  obtain ⟨k, hk, rfl, hi, rfl, rfl⟩ := getZ_some h
  exact place_on c k hk hi w
/-- What place answers. -/
def plX (c : Cp) (g : Int) : Int := match getZ c g with | some (x, _) => x | none => 0
def plY (c : Cp) (g : Int) : Int := match getZ c g with | some (_, y) => y | none => 0
def plB (c : Cp) (g : Int) : Bool := (getZ c g).isSome
theorem place_any (c : Cp) (g : Int) (w : World) : Calls Tryd.prog 23 #[.agg (cpC c), .int .i64 g] w fun e w' => e = .returned (twoV (plX c g) (plY c g) (plB c g)) ∧ Below w.heap.size w w' := by
  unfold plX plY plB
  cases h : getZ c g with
  | none => exact place_no c g h w
  | some p => obtain ⟨x, y⟩ := p; exact place_yes c g x y h w
set_option maxRecDepth 20000 in
theorem get_any (c : Cp) (g : Int) (w : World) : Calls Tryd.prog 11 #[.agg (cpC c), .int .i64 g] w fun e w' => e = .returned (.tuple #[.int .i64 (plX c g), .int .i64 (plY c g), .bool (plB c g)]) ∧ Below w.heap.size w w' := by
  have HP := Lib.hid (fun w => place_any c g w)
  have HX := Lib.hid (BoxV.new (T := 26) w (cpC c))
  generalize plX c g = x at HP ⊢
  generalize plY c g = y at HP ⊢
  generalize plB c g = b at HP ⊢
  go_enter Tryd.func11, Tryd.ntmps11
  go_wp2_with (refine loadC rfl _ rfl w.heap.size c rfl HX.out ?_)
  refine (HP.out _).mono ?_
  rintro e w1 ⟨rfl, hb⟩
  have HB := Lib.hid hb
  clear hb
  go_wp2_with fail
  go_quiet (fail)
  go_wp2_with fail
  go_ret3
  exact ⟨rfl, below_drewN (newB (afterBox HB.out) (afterBox HB.out).size _) _⟩
/-- Which bytes a text's piece has. -/
def pcS (c : Cp) (s : ByteArray) (g : Int) : ByteArray := match pieceZ c s.size g with | some (a, b) => s.extract a b | none => ⟨#[]⟩
def pcB (c : Cp) (s : ByteArray) (g : Int) : Bool := (pieceZ c s.size g).isSome
/-- A pair's cells, behind a call. -/
theorem pair_cells {w w2 : World} {T : TypeId} {x y : Value} (hb : Below (w.alloc (.cells #[x, y] T)).heap.size (w.alloc (.cells #[x, y] T)) w2) : w2.cell? ⟨w.heap.size, 0, none⟩ = some x ∧ w2.cell? ⟨w.heap.size, 1, none⟩ = some y :=
  ⟨((BoxV.new w #[x, y]).below hb (by simp)).get 0 rfl, ((BoxV.new w #[x, y]).below hb (by simp)).get 1 rfl⟩
set_option maxRecDepth 20000 in
theorem piece_any (c : Cp) (s : ByteArray) (hs : s.size ≤ maxLen) (g : Int) (w : World) : Calls Tryd.prog 24 #[.agg (cpC c), .string s, .int .i64 g] w fun e w' => e = .returned (.tuple #[.string (pcS c s g), .bool (pcB c s g)]) ∧ Below w.heap.size w w' := by
  unfold maxLen at hs
  have HX := Lib.hid (BoxV.new (T := 26) w (cpC c))
  unfold pcS pcB
  cases hp : pieceZ c s.size g with
  | some p =>
    obtain ⟨a, b⟩ := p
    obtain ⟨hg, h1, h2, h3⟩ := pieceZ_some hp
    have HP := Lib.hid (fun w => place_yes c g _ _ hg w)
    clear hp hg
    by_cases hm : 10000 < s.size
    all_goals
      go_enter Tryd.func24, Tryd.ntmps24
      go_wp2_with (refine loadC rfl _ rfl w.heap.size c rfl HX.out ?_)
      refine (HP.out _).mono ?_
      rintro e w1 ⟨rfl, hb⟩
      have HB := Lib.hid hb
      clear hb
      go_wp2_with fail
      refine (fits_yes _ _ _ (by omega) (by omega) (by omega) _).mono ?_
      rintro e w2 ⟨rfl, hb⟩
      obtain ⟨c0, c1⟩ := pair_cells hb
      have HB2 := Lib.hid (thenB (newB (afterBox HB.out) (afterBox HB.out).size _) hb (by have := (afterBox HB.out).size; simp; omega))
      clear hb
      go_wp2_with fail
      go_ret2
      exact ⟨rfl, HB2.out⟩
  | none =>
    rcases pieceZ_none hp with hg | ⟨x, y, hg, hn⟩
    · have HP := Lib.hid (fun w => place_no c g hg w)
      clear hp hg
      go_enter Tryd.func24, Tryd.ntmps24
      go_wp2_with (refine loadC rfl _ rfl w.heap.size c rfl HX.out ?_)
      refine (HP.out _).mono ?_
      rintro e w1 ⟨rfl, hb⟩
      have HB := Lib.hid hb
      clear hb
      go_wp2_with fail
      go_ret2
      exact ⟨rfl, newB (afterBox HB.out) (afterBox HB.out).size _⟩
    · have HP := Lib.hid (fun w => place_yes c g _ _ hg w)
      have HN := Lib.hid hn
      clear hp hg hn
      by_cases hm : 10000 < s.size
      all_goals
        go_enter Tryd.func24, Tryd.ntmps24
        go_wp2_with (refine loadC rfl _ rfl w.heap.size c rfl HX.out ?_)
        refine (HP.out _).mono ?_
        rintro e w1 ⟨rfl, hb⟩
        have HB := Lib.hid hb
        clear hb
        go_wp2_with fail
        refine (fits_no _ _ _ (by have := HN.out; unfold mayP at this; omega) _).mono ?_
        rintro e w2 ⟨rfl, hb⟩
        have HB2 := Lib.hid (thenB (newB (afterBox HB.out) (afterBox HB.out).size _) hb (by have := (afterBox HB.out).size; simp; omega))
        clear hb
        go_wp2_with fail
        go_ret2
        exact ⟨rfl, HB2.out⟩
end Go.Proofs.YtnapbmdbeihngaaDoor
