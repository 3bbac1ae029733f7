/-
  ShoFix, ShoLawKit
-/
import Derived.Test.YtfejdengpnikeaaGreatDoorShoB
import Derived.Test.YtfejdengpnikeaaGreatDoorAstH
import Derived.Test.YtfejdengpnikeaaGreatDoorClassM
import Derived.Deep.DeepCutAuto
import Derived.Test.YtfejdengpnikeaaGreatDoorAstCut
import Derived.Test.YtfejdengpnikeaaGreatDoorRows
import Derived.ProofKit
import Derived.OpenShut
import Derived.Carry
import Derived.Lib.LaidTab
namespace Go.Proofs.YtfejdengpnikeaaGreatDoor
open Go.RowKit
open Ast (Nd ndV ndC joinL wrapL rightZ Nodes TreeBox)

theorem sizeTree : (Tryz.prog.info? 24).map (·.size) = some 1 := by kernel_rfl
section
variable {ops : Array Oper} {rest : List Oper} {o : Oper} {a : Act} {w : World} {Q : Exit → Act → World → Prop}
/-- A tree is stored in a block of the call's own. -/
theorem putTree (hgd : o.guard = none) (x y : Operand) (ho : o.op = .store 24 x y) (g : Nat) (c : Value) (A : Option Addr) (n cap : Nat) (hx : a.eval x = .pointer (some ⟨g, 0, none⟩)) (hy : a.eval y = .agg #[.slice A n cap]) (hg : w.heap[g]? = some (.cells #[c] 24 (0, 0)))
    (h : ∀ u : World, Hid (TreeBox u g A n cap) → Hid (∀ B, B ≤ g → Below B w u) → Hid (∀ k, k ≠ g → u.heap[k]? = w.heap[k]?) → wpList Tryz.prog ops Q rest (a.put o.dst undef) u) : wpList Tryz.prog ops Q (o :: rest) a w := by
  refine wpList_store_row hgd 24 x y ho g _ hx hy _ _ hg sizeTree rfl (by simp [Value.oneCell']) ?_
  exact h _ (Lib.hid (setRow_heap w g _ _ _ _ hg)) (Lib.hid fun B hB => (Below.refl _ w).trans ⟨rfl, rfl, rfl, by simp, fun k hk => setRow_other w g k _ (by omega)⟩) (Lib.hid fun k hk => setRow_other w g k _ hk)
theorem newTree (hgd : o.guard = none) (x y : Operand) (ho : o.op = .store 24 x y) (wr : World) (A : Option Addr) (n cap : Nat) (hx : a.eval x = .pointer (some ⟨wr.heap.size, 0, none⟩)) (hy : a.eval y = .agg #[.slice A n cap]) (hw : w = wr.alloc (.cells #[.slice none 0 0] 24))
    (h : ∀ u : World, Hid (TreeBox u wr.heap.size A n cap) → Hid (Below wr.heap.size wr u) → wpList Tryz.prog ops Q rest (a.put o.dst undef) u) : wpList Tryz.prog ops Q (o :: rest) a w := by
  subst hw
  refine putTree hgd x y ho wr.heap.size _ A n cap hx hy (heap_alloc_new _ _) fun u h1 h2 _ => ?_
  exact h u h1 (Lib.hid (((Below.refl _ wr).alloc (Nat.le_refl _) _).trans (h2.out _ (Nat.le_refl _))))
end
theorem tree_made {w w' : World} {l : Nat → Nd} {n : Nat} {e : Ending} (h : Ast.TreeRes l n w e w') (h1 : 1 ≤ n) : ∃ A cap, e = .returned (.agg #[.slice A n cap]) ∧ Nodes w' A n l ∧ (A = none → n = 0 ∧ cap = 0) ∧ Below w.heap.size w w' := by
  obtain ⟨A, cap, rfl, ho, hb⟩ := h
  obtain ⟨A', cap', he, hle, hn, hnew⟩ := Ast.own_nodes ho
  cases he
  refine ⟨A, cap, rfl, hn, fun h0 => ?_, hb⟩
  obtain ⟨b, o, h2, -⟩ := hn 0 h1
  rw [h0] at h2
  cases h2
theorem right_none (l : Nat → Nd) : rightZ l 0 ≠ 0 := by
  have h : Ast.goodB l 0 = false := by unfold Ast.goodB; simp
  unfold rightZ Ast.shapeZ Ast.formZ
  simp [h]

/-! The trees that are given. -/
def f8A : Nd := ⟨1, 0, 0, 0, 8589934594, 0, 0, 0, 0, 0, 0, false⟩
def f8R : Nd := ⟨10, 0, 0, 0, 0, 0, 0, 0, -1, 1, 0, false⟩
def f8E : Nd := ⟨5, 0, 0, 0, 0, 0, 0, 0, 0, 0, 0, false⟩
def f8Z : Nd := ⟨0, 0, 0, 0, 0, 0, 0, 0, 0, 0, 0, false⟩
def g8A : Nat → Nd := fun _ => f8A
def g8R : Nat → Nd := wrapL g8A 1 f8R
def g8J : Nat → Nd := joinL g8R 2 g8A 1 9
def g8E : Nat → Nd := fun _ => f8E
def g8T : Nat → Nd := joinL g8J 4 g8E 1 8
def g8Z : Nat → Nd := fun _ => f8Z
abbrev s8R : ByteArray := ⟨#[91, 65, 97, 93, 42, 63]⟩
abbrev s8T : ByteArray := ⟨#[40, 63, 58, 91, 65, 97, 93, 42, 63, 124, 91, 65, 97, 93, 41, 40, 63, 109, 58, 36, 41]⟩
abbrev s8X : ByteArray := ⟨#[91, 97, 45, 99, 120, 93]⟩
abbrev s8D : ByteArray := ⟨#[92, 120, 50, 101]⟩
abbrev s8Z : ByteArray := ⟨#[40, 63, 58, 41]⟩
theorem e8R : rightZ g8R 2 = 0 ∧ showT g8R 2 = s8R := ⟨by kernel_rfl, by kernel_rfl⟩
theorem e8T : rightZ g8T 6 = 0 ∧ showT g8T 6 = s8T := ⟨by kernel_rfl, by kernel_rfl⟩
theorem e8Z : rightZ g8Z 1 = 0 ∧ showT g8Z 1 = s8Z := ⟨by kernel_rfl, by kernel_rfl⟩
theorem e8X : setP (ofBytes [97, 98, 99, 120]) = s8X := by kernel_rfl
theorem e8D : setP (addB 0#256 46) = s8D := by kernel_rfl
abbrev s8N : ByteArray := ⟨#[91, 94, 92, 120, 48, 48, 45, 92, 120, 102, 102, 93]⟩
theorem e8N : setP 0#256 = s8N := by kernel_rfl
theorem v8A : setV (ofBytes [97, 65]) = .agg #[.int .u64 0, .int .u64 8589934594, .int .u64 0, .int .u64 0] := by
  have h0 : W (ofBytes [97, 65]) 0 = 0 := by kernel_rfl
  have h1 : W (ofBytes [97, 65]) 1 = 8589934594 := by kernel_rfl
  have h2 : W (ofBytes [97, 65]) 2 = 0 := by kernel_rfl
  have h3 : W (ofBytes [97, 65]) 3 = 0 := by kernel_rfl
  show Value.agg #[.int .u64 (W (ofBytes [97, 65]) 0 : Nat), .int .u64 (W (ofBytes [97, 65]) 1 : Nat), .int .u64 (W (ofBytes [97, 65]) 2 : Nat), .int .u64 (W (ofBytes [97, 65]) 3 : Nat)] = _
  rw [h0, h1, h2, h3]
  rfl
theorem v8N : setV 0#256 = .agg #[.int .u64 0, .int .u64 0, .int .u64 0, .int .u64 0] := by
  show Value.agg #[.int .u64 (W 0#256 0 : Nat), .int .u64 (W 0#256 1 : Nat), .int .u64 (W 0#256 2 : Nat), .int .u64 (W 0#256 3 : Nat)] = _
  rw [W_zero, W_zero, W_zero, W_zero]
  rfl
theorem w8A : f8A.s0 = W (setOf f8A) 0 ∧ f8A.s1 = W (setOf f8A) 1 ∧ f8A.s2 = W (setOf f8A) 2 ∧ f8A.s3 = W (setOf f8A) 3 := ⟨by kernel_rfl, by kernel_rfl, by kernel_rfl, by kernel_rfl⟩
theorem l8R : LitOkS g8R 2 := fun i hi h => by
  rcases (show i = 0 ∨ i = 1 by omega) with rfl | rfl
  · exact w8A
  · exact absurd h (by decide)
theorem l8T : LitOkS g8T 6 := fun i hi h => by
  rcases (show i = 0 ∨ i = 1 ∨ i = 2 ∨ i = 3 ∨ i = 4 ∨ i = 5 by omega) with rfl | rfl | rfl | rfl | rfl | rfl
  · exact w8A
  · exact absurd h (by decide)
  · exact w8A
  · exact absurd h (by decide)
  · exact absurd h (by decide)
  · exact absurd h (by decide)
theorem l8Z : LitOkS g8Z 1 := fun i hi h => absurd h (by show ¬ (0 : Int) = 1; decide)
theorem b8R : BackOk g8R 2 := fun i hi h => by
  rcases (show i = 0 ∨ i = 1 by omega) with rfl | rfl <;> exact absurd h (by decide)
theorem b8T : BackOk g8T 6 := fun i hi h => by
  rcases (show i = 0 ∨ i = 1 ∨ i = 2 ∨ i = 3 ∨ i = 4 ∨ i = 5 by omega) with rfl | rfl | rfl | rfl | rfl | rfl <;> exact absurd h (by decide)
theorem b8Z : BackOk g8Z 1 := fun i hi h => absurd h (by show ¬ (0 : Int) = 12; decide)
/-- What the walks ask of a world. -/
def TP (w : World) : Prop := TabOk w ∧ PowOk w
theorem TP.call {w w' : World} (h : TP w) (hb : Below w.heap.size w w') : TP w' := ⟨h.1.call hb, h.2.call hb⟩
/-- What is asked of the library's sort. -/
def SortK : Prop := Ast.SortOk ∧ Ast.SortNone
theorem show_at (K : SortK) (n : Nat) (l : Nat → Nd) (s : ByteArray) (hn : n ≤ 1000000) (hr : rightZ l n = 0) (hs : showT l n = s) (hL : LitOkS l n) (hB : BackOk l n) (A : Option Addr) (cap : Nat) (w : World) (hl : Nodes w A n l) (hw : TP w) : Calls Tryz.prog 8 #[.agg #[.slice A n cap]] w fun e w' => e = .returned (.string s) ∧ Below w.heap.size w w' := by
  have h := show_any K.1 K.2 A n cap l w hn hl hL (fun _ => hB) hw.1 hw.2
  rw [if_pos hr, hs] at h
  exact h
theorem show_none (K : SortK) (w : World) (hw : TP w) : Calls Tryz.prog 8 #[.agg #[.slice none 0 0]] w fun e w' => e = .returned (.string ByteArray.empty) ∧ Below w.heap.size w w' := by
  have h := show_any K.1 K.2 none 0 0 g8Z w (by omega) (fun i hi => absurd hi (Nat.not_lt_zero _)) (fun i hi => absurd hi (Nat.not_lt_zero _)) (fun h => absurd h (right_none _)) hw.1 hw.2
  rw [if_neg (right_none _)] at h
  exact h
theorem set_at (S : BitVec 256) (s : ByteArray) (hs : setP S = s) (w : World) (hw : TP w) : Calls Tryz.prog 11 #[setV S] w fun e w' => e = .returned (.string s) ∧ Below w.heap.size w w' := by
  rw [← hs]
  exact set_any S w hw.1
theorem TreeBox.to {u v : World} {g : Nat} {A : Option Addr} {n cap : Nat} {B : Nat} (h : TreeBox u g A n cap) (hb : Below B u v) (hg : g < B) : TreeBox v g A n cap := (hb.block g hg).trans h
set_option maxRecDepth 100000 in
set_option maxHeartbeats 32000000 in
theorem fixed_any (K : SortK) (w : World) (hw : TP w) : Calls Tryz.prog 13 #[] w fun e w' => e = .returned (.bool true) ∧ Below w.heap.size w w' := by
  have HO1 := Lib.hid (fun w => of_any ⟨#[97, 65]⟩ w (by show 2 ≤ 9223372036854775807; decide))
  have HO2 := Lib.hid (fun w => of_any ⟨#[97, 98, 99, 120]⟩ w (by show 4 ≤ 9223372036854775807; decide))
  rw [show setV (ofBytes (⟨#[97, 65]⟩ : ByteArray).data.toList) = .agg #[.int .u64 0, .int .u64 8589934594, .int .u64 0, .int .u64 0] from v8A] at HO1
  rw [show (⟨#[97, 98, 99, 120]⟩ : ByteArray).data.toList = [97, 98, 99, 120] from rfl] at HO2
  have HSx := Lib.hid (fun w h => set_at (ofBytes [97, 98, 99, 120]) _ e8X w h)
  generalize ofBytes [97, 98, 99, 120] = X at HO2 HSx
  have HO3 := Lib.hid (fun w => one_at 46 46 w rfl (by decide))
  have HSd := Lib.hid (fun w h => set_at (addB 0#256 46) _ e8D w h)
  generalize addB 0#256 46 = D at HO3 HSd
  have HSn := Lib.hid (fun w h => set_at 0#256 _ e8N w h)
  rw [v8N] at HSn
  have HR := Lib.hid (fun A cap w h hw => show_at K 2 g8R _ (by omega) e8R.1 e8R.2 l8R b8R A cap w h hw)
  have HTt := Lib.hid (fun A cap w h hw => show_at K 6 g8T _ (by omega) e8T.1 e8T.2 l8T b8T A cap w h hw)
  have HZ := Lib.hid (fun A cap w h hw => show_at K 1 g8Z _ (by omega) e8Z.1 e8Z.2 l8Z b8Z A cap w h hw)
  have HE := Lib.hid (fun w hw => show_none K w hw)
  have HT := Lib.hid hw
  have HB := Lib.hid (Below.refl w.heap.size w)
  clear hw K
  go_enter Tryz.func13, Tryz.ntmps13
  go_wp2_with fail
  with_reducible refine (HO1.out _).mono ?_
  rintro e w1 ⟨rfl, hb⟩
  replace HB := Lib.hid (thenB HB.out hb HB.out.size)
  clear hb
  go_wp2_with fail
  refine (Ast.leaf_any f8A _).mono ?_
  rintro e w2 hr
  obtain ⟨B1, cap1, rfl, hn, hz1, hb⟩ := tree_made hr (by omega)
  have HZ1 := Lib.hid hz1
  clear hz1 hr
  have HN1 := Lib.hid hn
  replace HB := Lib.hid (thenB HB.out hb HB.out.size)
  clear hb hn
  go_wp2_with (refine newTree rfl _ _ rfl w2 B1 1 cap1 rfl rfl rfl ?_; intro w3 hx hN; refine StopS.out ?_)
  refine ⟨?_⟩
  replace HN1 := Lib.hid (HN1.out.below hN.out (Nat.le_refl _))
  have HX1 := Lib.hid hx.out
  replace HB := Lib.hid (thenB HB.out hN.out HB.out.size)
  clear hx hN
  have cHX1 := HX1.out.cell
  go_wp2_with fail
  refine (Ast.wrap_any B1 1 cap1 g8A f8R _ (by omega) HZ1.out HN1.out).mono ?_
  rintro e w4 hr
  obtain ⟨B2, cap2, rfl, hn, hz2, hb⟩ := tree_made hr (by omega)
  have HZ2 := Lib.hid hz2
  clear hz2 hr
  replace HN1 := Lib.hid (HN1.out.below hb (Nat.le_refl _))
  replace HX1 := Lib.hid (TreeBox.to HX1.out hb HX1.out.lt)
  have HN2 := Lib.hid hn
  replace HB := Lib.hid (thenB HB.out hb HB.out.size)
  clear hb hn
  clear cHX1
  go_wp2_with (refine newTree rfl _ _ rfl w4 B2 2 cap2 rfl rfl rfl ?_; intro w5 hx hN; refine StopS.out ?_)
  refine ⟨?_⟩
  replace HN1 := Lib.hid (HN1.out.below hN.out (Nat.le_refl _))
  replace HX1 := Lib.hid (TreeBox.to HX1.out hN.out HX1.out.lt)
  replace HN2 := Lib.hid (HN2.out.below hN.out (Nat.le_refl _))
  have HX2 := Lib.hid hx.out
  replace HB := Lib.hid (thenB HB.out hN.out HB.out.size)
  clear hx hN
  have cHX1 := HX1.out.cell
  have cHX2 := HX2.out.cell
  go_wp2_with fail
  refine (Ast.join_any B2 2 cap2 g8R B1 1 cap1 g8A 9 _ (by omega) (by omega) HZ2.out HZ1.out HN2.out HN1.out).mono ?_
  rintro e w6 hr
  obtain ⟨B3, cap3, rfl, hn, hz3, hb⟩ := tree_made hr (by omega)
  have HZ3 := Lib.hid hz3
  clear hz3 hr
  replace HN1 := Lib.hid (HN1.out.below hb (Nat.le_refl _))
  replace HX1 := Lib.hid (TreeBox.to HX1.out hb HX1.out.lt)
  replace HN2 := Lib.hid (HN2.out.below hb (Nat.le_refl _))
  replace HX2 := Lib.hid (TreeBox.to HX2.out hb HX2.out.lt)
  have HN3 := Lib.hid hn
  replace HB := Lib.hid (thenB HB.out hb HB.out.size)
  clear hb hn
  clear cHX1 cHX2
  have cHX1 := HX1.out.cell
  have cHX2 := HX2.out.cell
  go_wp2_with fail
  refine (Ast.leaf_any f8E _).mono ?_
  rintro e w7 hr
  obtain ⟨B4, cap4, rfl, hn, hz4, hb⟩ := tree_made hr (by omega)
  have HZ4 := Lib.hid hz4
  clear hz4 hr
  replace HN1 := Lib.hid (HN1.out.below hb (Nat.le_refl _))
  replace HX1 := Lib.hid (TreeBox.to HX1.out hb HX1.out.lt)
  replace HN2 := Lib.hid (HN2.out.below hb (Nat.le_refl _))
  replace HX2 := Lib.hid (TreeBox.to HX2.out hb HX2.out.lt)
  replace HN3 := Lib.hid (HN3.out.below hb (Nat.le_refl _))
  have HN4 := Lib.hid hn
  replace HB := Lib.hid (thenB HB.out hb HB.out.size)
  clear hb hn
  clear cHX1 cHX2
  have cHX1 := HX1.out.cell
  have cHX2 := HX2.out.cell
  go_wp2_with fail
  refine (Ast.join_any B3 4 cap3 g8J B4 1 cap4 g8E 8 _ (by omega) (by omega) HZ3.out HZ4.out HN3.out HN4.out).mono ?_
  rintro e w8 hr
  obtain ⟨B5, cap5, rfl, hn, hz5, hb⟩ := tree_made hr (by omega)
  have HZ5 := Lib.hid hz5
  clear hz5 hr
  replace HN1 := Lib.hid (HN1.out.below hb (Nat.le_refl _))
  replace HX1 := Lib.hid (TreeBox.to HX1.out hb HX1.out.lt)
  replace HN2 := Lib.hid (HN2.out.below hb (Nat.le_refl _))
  replace HX2 := Lib.hid (TreeBox.to HX2.out hb HX2.out.lt)
  replace HN3 := Lib.hid (HN3.out.below hb (Nat.le_refl _))
  replace HN4 := Lib.hid (HN4.out.below hb (Nat.le_refl _))
  have HN5 := Lib.hid hn
  replace HB := Lib.hid (thenB HB.out hb HB.out.size)
  clear hb hn
  clear cHX1 cHX2
  go_wp2_with (refine newTree rfl _ _ rfl w8 B5 6 cap5 rfl rfl rfl ?_; intro w9 hx hN; refine StopS.out ?_)
  refine ⟨?_⟩
  replace HN1 := Lib.hid (HN1.out.below hN.out (Nat.le_refl _))
  replace HX1 := Lib.hid (TreeBox.to HX1.out hN.out HX1.out.lt)
  replace HN2 := Lib.hid (HN2.out.below hN.out (Nat.le_refl _))
  replace HX2 := Lib.hid (TreeBox.to HX2.out hN.out HX2.out.lt)
  replace HN3 := Lib.hid (HN3.out.below hN.out (Nat.le_refl _))
  replace HN4 := Lib.hid (HN4.out.below hN.out (Nat.le_refl _))
  replace HN5 := Lib.hid (HN5.out.below hN.out (Nat.le_refl _))
  have HX5 := Lib.hid hx.out
  replace HB := Lib.hid (thenB HB.out hN.out HB.out.size)
  clear hx hN
  have cHX1 := HX1.out.cell
  have cHX2 := HX2.out.cell
  have cHX5 := HX5.out.cell
  go_wp2_with fail
  with_reducible refine (HR.out B2 cap2 _ HN2.out (HT.out.call HB.out)).mono ?_
  rintro e w10 ⟨rfl, hb⟩
  replace HN1 := Lib.hid (HN1.out.below hb (Nat.le_refl _))
  replace HX1 := Lib.hid (TreeBox.to HX1.out hb HX1.out.lt)
  replace HN2 := Lib.hid (HN2.out.below hb (Nat.le_refl _))
  replace HX2 := Lib.hid (TreeBox.to HX2.out hb HX2.out.lt)
  replace HN3 := Lib.hid (HN3.out.below hb (Nat.le_refl _))
  replace HN4 := Lib.hid (HN4.out.below hb (Nat.le_refl _))
  replace HN5 := Lib.hid (HN5.out.below hb (Nat.le_refl _))
  replace HX5 := Lib.hid (TreeBox.to HX5.out hb HX5.out.lt)
  replace HB := Lib.hid (thenB HB.out hb HB.out.size)
  clear hb
  clear cHX1 cHX2 cHX5
  have cHX1 := HX1.out.cell
  have cHX2 := HX2.out.cell
  have cHX5 := HX5.out.cell
  go_wp2_with fail
  with_reducible refine (HTt.out B5 cap5 _ HN5.out (HT.out.call HB.out)).mono ?_
  rintro e w11 ⟨rfl, hb⟩
  replace HN1 := Lib.hid (HN1.out.below hb (Nat.le_refl _))
  replace HX1 := Lib.hid (TreeBox.to HX1.out hb HX1.out.lt)
  replace HN2 := Lib.hid (HN2.out.below hb (Nat.le_refl _))
  replace HX2 := Lib.hid (TreeBox.to HX2.out hb HX2.out.lt)
  replace HN3 := Lib.hid (HN3.out.below hb (Nat.le_refl _))
  replace HN4 := Lib.hid (HN4.out.below hb (Nat.le_refl _))
  replace HN5 := Lib.hid (HN5.out.below hb (Nat.le_refl _))
  replace HX5 := Lib.hid (TreeBox.to HX5.out hb HX5.out.lt)
  replace HB := Lib.hid (thenB HB.out hb HB.out.size)
  clear hb
  clear cHX1 cHX2 cHX5
  go_wp2_with fail
  with_reducible refine (HO2.out _).mono ?_
  rintro e w12 ⟨rfl, hb⟩
  replace HN1 := Lib.hid (HN1.out.below hb (Nat.le_refl _))
  replace HX1 := Lib.hid (TreeBox.to HX1.out hb HX1.out.lt)
  replace HN2 := Lib.hid (HN2.out.below hb (Nat.le_refl _))
  replace HX2 := Lib.hid (TreeBox.to HX2.out hb HX2.out.lt)
  replace HN3 := Lib.hid (HN3.out.below hb (Nat.le_refl _))
  replace HN4 := Lib.hid (HN4.out.below hb (Nat.le_refl _))
  replace HN5 := Lib.hid (HN5.out.below hb (Nat.le_refl _))
  replace HX5 := Lib.hid (TreeBox.to HX5.out hb HX5.out.lt)
  replace HB := Lib.hid (thenB HB.out hb HB.out.size)
  clear hb
  go_wp2_with fail
  with_reducible refine (HSx.out _ (HT.out.call HB.out)).mono ?_
  rintro e w13 ⟨rfl, hb⟩
  replace HN1 := Lib.hid (HN1.out.below hb (Nat.le_refl _))
  replace HX1 := Lib.hid (TreeBox.to HX1.out hb HX1.out.lt)
  replace HN2 := Lib.hid (HN2.out.below hb (Nat.le_refl _))
  replace HX2 := Lib.hid (TreeBox.to HX2.out hb HX2.out.lt)
  replace HN3 := Lib.hid (HN3.out.below hb (Nat.le_refl _))
  replace HN4 := Lib.hid (HN4.out.below hb (Nat.le_refl _))
  replace HN5 := Lib.hid (HN5.out.below hb (Nat.le_refl _))
  replace HX5 := Lib.hid (TreeBox.to HX5.out hb HX5.out.lt)
  replace HB := Lib.hid (thenB HB.out hb HB.out.size)
  clear hb
  go_wp2_with fail
  with_reducible refine (HSn.out _ (HT.out.call HB.out)).mono ?_
  rintro e w14 ⟨rfl, hb⟩
  replace HN1 := Lib.hid (HN1.out.below hb (Nat.le_refl _))
  replace HX1 := Lib.hid (TreeBox.to HX1.out hb HX1.out.lt)
  replace HN2 := Lib.hid (HN2.out.below hb (Nat.le_refl _))
  replace HX2 := Lib.hid (TreeBox.to HX2.out hb HX2.out.lt)
  replace HN3 := Lib.hid (HN3.out.below hb (Nat.le_refl _))
  replace HN4 := Lib.hid (HN4.out.below hb (Nat.le_refl _))
  replace HN5 := Lib.hid (HN5.out.below hb (Nat.le_refl _))
  replace HX5 := Lib.hid (TreeBox.to HX5.out hb HX5.out.lt)
  replace HB := Lib.hid (thenB HB.out hb HB.out.size)
  clear hb
  go_wp2_with fail
  with_reducible refine (HO3.out _).mono ?_
  rintro e w15 ⟨rfl, hb⟩
  replace HN1 := Lib.hid (HN1.out.below hb (Nat.le_refl _))
  replace HX1 := Lib.hid (TreeBox.to HX1.out hb HX1.out.lt)
  replace HN2 := Lib.hid (HN2.out.below hb (Nat.le_refl _))
  replace HX2 := Lib.hid (TreeBox.to HX2.out hb HX2.out.lt)
  replace HN3 := Lib.hid (HN3.out.below hb (Nat.le_refl _))
  replace HN4 := Lib.hid (HN4.out.below hb (Nat.le_refl _))
  replace HN5 := Lib.hid (HN5.out.below hb (Nat.le_refl _))
  replace HX5 := Lib.hid (TreeBox.to HX5.out hb HX5.out.lt)
  replace HB := Lib.hid (thenB HB.out hb HB.out.size)
  clear hb
  go_wp2_with fail
  with_reducible refine (HSd.out _ (HT.out.call HB.out)).mono ?_
  rintro e w16 ⟨rfl, hb⟩
  replace HN1 := Lib.hid (HN1.out.below hb (Nat.le_refl _))
  replace HX1 := Lib.hid (TreeBox.to HX1.out hb HX1.out.lt)
  replace HN2 := Lib.hid (HN2.out.below hb (Nat.le_refl _))
  replace HX2 := Lib.hid (TreeBox.to HX2.out hb HX2.out.lt)
  replace HN3 := Lib.hid (HN3.out.below hb (Nat.le_refl _))
  replace HN4 := Lib.hid (HN4.out.below hb (Nat.le_refl _))
  replace HN5 := Lib.hid (HN5.out.below hb (Nat.le_refl _))
  replace HX5 := Lib.hid (TreeBox.to HX5.out hb HX5.out.lt)
  replace HB := Lib.hid (thenB HB.out hb HB.out.size)
  clear hb
  go_wp2_with fail
  with_reducible refine (HE.out _ (HT.out.call HB.out)).mono ?_
  rintro e w17 ⟨rfl, hb⟩
  replace HN1 := Lib.hid (HN1.out.below hb (Nat.le_refl _))
  replace HX1 := Lib.hid (TreeBox.to HX1.out hb HX1.out.lt)
  replace HN2 := Lib.hid (HN2.out.below hb (Nat.le_refl _))
  replace HX2 := Lib.hid (TreeBox.to HX2.out hb HX2.out.lt)
  replace HN3 := Lib.hid (HN3.out.below hb (Nat.le_refl _))
  replace HN4 := Lib.hid (HN4.out.below hb (Nat.le_refl _))
  replace HN5 := Lib.hid (HN5.out.below hb (Nat.le_refl _))
  replace HX5 := Lib.hid (TreeBox.to HX5.out hb HX5.out.lt)
  replace HB := Lib.hid (thenB HB.out hb HB.out.size)
  clear hb
  go_wp2_with fail
  refine (Ast.leaf_any f8Z _).mono ?_
  rintro e w18 hr
  obtain ⟨B6, cap6, rfl, hn, hz6, hb⟩ := tree_made hr (by omega)
  have HZ6 := Lib.hid hz6
  clear hz6 hr
  replace HN1 := Lib.hid (HN1.out.below hb (Nat.le_refl _))
  replace HX1 := Lib.hid (TreeBox.to HX1.out hb HX1.out.lt)
  replace HN2 := Lib.hid (HN2.out.below hb (Nat.le_refl _))
  replace HX2 := Lib.hid (TreeBox.to HX2.out hb HX2.out.lt)
  replace HN3 := Lib.hid (HN3.out.below hb (Nat.le_refl _))
  replace HN4 := Lib.hid (HN4.out.below hb (Nat.le_refl _))
  replace HN5 := Lib.hid (HN5.out.below hb (Nat.le_refl _))
  replace HX5 := Lib.hid (TreeBox.to HX5.out hb HX5.out.lt)
  have HN6 := Lib.hid hn
  replace HB := Lib.hid (thenB HB.out hb HB.out.size)
  clear hb hn
  go_wp2_with fail
  with_reducible refine (HZ.out B6 cap6 _ HN6.out (HT.out.call HB.out)).mono ?_
  rintro e w19 ⟨rfl, hb⟩
  replace HN1 := Lib.hid (HN1.out.below hb (Nat.le_refl _))
  replace HX1 := Lib.hid (TreeBox.to HX1.out hb HX1.out.lt)
  replace HN2 := Lib.hid (HN2.out.below hb (Nat.le_refl _))
  replace HX2 := Lib.hid (TreeBox.to HX2.out hb HX2.out.lt)
  replace HN3 := Lib.hid (HN3.out.below hb (Nat.le_refl _))
  replace HN4 := Lib.hid (HN4.out.below hb (Nat.le_refl _))
  replace HN5 := Lib.hid (HN5.out.below hb (Nat.le_refl _))
  replace HX5 := Lib.hid (TreeBox.to HX5.out hb HX5.out.lt)
  replace HN6 := Lib.hid (HN6.out.below hb (Nat.le_refl _))
  replace HB := Lib.hid (thenB HB.out hb HB.out.size)
  clear hb
  go_wp2_with fail
  go_ret
  exact ⟨rfl, HB.out⟩
end Go.Proofs.YtfejdengpnikeaaGreatDoor

namespace Go.Proofs.YtfejdengpnikeaaGreatDoor
open Go.ChangeShapes Go.WideShapes Go.ChangeAt Go.RowKit
open Ast (Nd ndV ndC Nodes rightZ)

theorem cellsNode8 : Tryz.prog.cellsOf 55 = 12 := by kernel_rfl
theorem cellsSet8 : Tryz.prog.cellsOf 28 = 4 := by kernel_rfl
theorem cellsArr8 : Tryz.prog.cellsOf 26 = 4 := by kernel_rfl
theorem cellsU648 : Tryz.prog.cellsOf 25 = 1 := by kernel_rfl
theorem cellsInt8 : Tryz.prog.cellsOf 3 = 1 := by kernel_rfl
theorem cellsBool8 : Tryz.prog.cellsOf 4 = 1 := by kernel_rfl
theorem cellsTree8 : Tryz.prog.cellsOf 24 = 1 := by kernel_rfl
theorem cellsSl8 : Tryz.prog.cellsOf 22 = 1 := by kernel_rfl
/-- A word. -/
def Wd (z : Int) : Prop := 0 ≤ z ∧ z < 18446744073709551616
theorem wd_of {n : Int} (h : (Lit.int .u64 n).wf = true) : Wd n := by
  simp [Lit.wf, IntKind.min, IntKind.max, IntKind.signed, IntKind.bits] at h
  exact ⟨h.1, by omega⟩
/-- The words of a node's set. -/
def Wds (x : Nd) : Prop := Wd x.s0 ∧ Wd x.s1 ∧ Wd x.s2 ∧ Wd x.s3
theorem words_of {x : Nd} (h : Wds x) : x.s0 = W (setOf x) 0 ∧ x.s1 = W (setOf x) 1 ∧ x.s2 = W (setOf x) 2 ∧ x.s3 = W (setOf x) 3 := by
  obtain ⟨⟨a0, a1⟩, ⟨b0, b1⟩, ⟨c0, c1⟩, d0, d1⟩ := h
  have e : setOf x = ofWords x.s0.toNat x.s1.toNat x.s2.toNat x.s3.toNat := by unfold setOf ofWords; rw [Nat.mul_comm (2 ^ 64), Nat.mul_comm (2 ^ 128), Nat.mul_comm (2 ^ 192)]
  have hW := W_ofWords (a := x.s0.toNat) (b := x.s1.toNat) (c := x.s2.toNat) (d := x.s3.toNat) (by omega) (by omega) (by omega) (by omega)
  rw [e, hW.1, hW.2.1, hW.2.2.1, hW.2.2.2]
  omega
section
variable {H : Type} {enc : TypeId × Value → H} {w : World} {base : Nat} {spare : Nat → Bool} {held : Bool}
set_option maxRecDepth 100000 in
theorem setCells8 {n : Nat} {cs : List Value} {x : DataW H × List MemPlace} (h : DataW.trod enc Tryz.prog w base spare held n 28 cs = some x) :
    ∃ a b c d : Int, cs = [.int .u64 a, .int .u64 b, .int .u64 c, .int .u64 d] ∧ Wd a ∧ Wd b ∧ Wd c ∧ Wd d := by
  obtain ⟨ys, m, -, -, hl, hsz, hf⟩ := DataW.trod_struct Tryz.underlying28 h
  rw [cellsSet8] at hl
  match cs, hl with
  | [c0, c1, c2, c3], _ =>
    have e : DataW.trod enc Tryz.prog w base spare held m 26 (List.take (Tryz.prog.cellsOf 26) (List.drop 0 [c0, c1, c2, c3])) = ys[0]? := hf 0 _ rfl
    rw [cellsArr8] at e
    simp only [List.drop_zero, List.take_succ_cons, List.take_zero] at e
    match ys, hsz with
    | [y0], _ =>
      simp only [List.getElem?_cons_zero] at e
      obtain ⟨xs, k, -, -, -, hlen, he⟩ := DataW.trod_array Tryz.underlying26 e
      match xs, hlen with
      | [x0, x1, x2, x3], _ =>
        have e0 := he 0 (by decide)
        have e1 := he 1 (by decide)
        have e2 := he 2 (by decide)
        have e3 := he 3 (by decide)
        simp [cellsU648] at e0 e1 e2 e3
        obtain ⟨n0, f0, -, w0⟩ := DataW.trod_int Tryz.underlying25 e0
        obtain ⟨n1, f1, -, w1⟩ := DataW.trod_int Tryz.underlying25 e1
        obtain ⟨n2, f2, -, w2⟩ := DataW.trod_int Tryz.underlying25 e2
        obtain ⟨n3, f3, -, w3⟩ := DataW.trod_int Tryz.underlying25 e3
        simp at f0 f1 f2 f3
        subst f0 f1 f2 f3
        exact ⟨_, _, _, _, rfl, wd_of w0, wd_of w1, wd_of w2, wd_of w3⟩
set_option maxRecDepth 100000 in
theorem nodeCells8 {n : Nat} {cs : List Value} {x : DataW H × List MemPlace} (h : DataW.trod enc Tryz.prog w base spare held n 55 cs = some x) : ∃ y : Nd, cs = ndC y ∧ Wds y := by
  obtain ⟨ys, m, -, -, hl, hsz, hf⟩ := DataW.trod_struct Tryz.underlying55 h
  rw [cellsNode8] at hl
  match cs, hl with
  | [c0, c1, c2, c3, c4, c5, c6, c7, c8, c9, c10, c11], _ =>
    match ys, hsz with
    | [y0, y1, y2, y3, y4, y5, y6, y7, y8], _ =>
      have e0 := hf 0 _ rfl
      have e1 := hf 1 _ rfl
      have e2 := hf 2 _ rfl
      have e3 := hf 3 _ rfl
      have e4 := hf 4 _ rfl
      have e5 := hf 5 _ rfl
      have e6 := hf 6 _ rfl
      have e7 := hf 7 _ rfl
      have e8 := hf 8 _ rfl
      simp [cellsInt8, cellsBool8, cellsSet8] at e0 e1 e2 e3 e4 e5 e6 e7 e8
      obtain ⟨n0, f0, -, -⟩ := DataW.trod_int Tryz.underlying3 e0
      obtain ⟨n1, f1, -, -⟩ := DataW.trod_int Tryz.underlying3 e1
      obtain ⟨n2, f2, -, -⟩ := DataW.trod_int Tryz.underlying3 e2
      obtain ⟨s0, s1, s2, s3, f3, k0, k1, k2, k3⟩ := setCells8 e3
      obtain ⟨n4, f4, -, -⟩ := DataW.trod_int Tryz.underlying3 e4
      obtain ⟨n5, f5, -, -⟩ := DataW.trod_int Tryz.underlying3 e5
      obtain ⟨n6, f6, -, -⟩ := DataW.trod_int Tryz.underlying3 e6
      obtain ⟨n7, f7, -, -⟩ := DataW.trod_int Tryz.underlying3 e7
      obtain ⟨n8, f8, -⟩ := DataW.trod_bool Tryz.underlying4 e8
      simp at f0 f1 f2 f3 f4 f5 f6 f7 f8
      obtain ⟨g0, g1, g2, g3⟩ := f3
      subst f0 f1 f2 f4 f5 f6 f7 f8 g0 g1 g2 g3
      exact ⟨⟨n0, n1, n2, s0, s1, s2, s3, n4, n5, n6, n7, n8⟩, rfl, k0, k1, k2, k3⟩
end
set_option maxRecDepth 100000 in
/-- A tree that came in. -/
theorem openTree8 {H : Type} {enc : TypeId × Value → H} {w : World} {base b0 : Nat} {r : Reach} {spare : Nat → Bool} {held : Bool} {v : Value} {d : DataW H} {p : List MemPlace}
    (hv : Value.okWide Tryz.prog w r b0 24 v) (h : DataW.Trod enc Tryz.prog w base spare held 24 v d p) :
    ∃ (A : Option Addr) (n cap : Nat) (l : Nat → Nd), v = .agg #[.slice A n cap] ∧ n ≤ cap ∧ cap ≤ maxLen ∧ (A = none → n = 0 ∧ cap = 0) ∧ Nodes w A n l ∧ ∀ i, i < n → Wds (l i) := by
  obtain ⟨cs, rfl, hsz⟩ := okWide_struct Tryz.underlying24 hv
  rw [cellsTree8] at hsz
  obtain ⟨fuel, hf⟩ := h
  obtain ⟨ys, m, -, -, -, hys, hfl⟩ := DataW.trod_struct Tryz.underlying24 hf
  match cs, hsz with
  | ⟨[c0]⟩, _ =>
    match ys, hys with
    | [y0], _ =>
      have e : DataW.trod enc Tryz.prog w base spare held m 22 (List.take (Tryz.prog.cellsOf 22) (List.drop 0 [c0])) = [y0][0]? := hfl 0 _ rfl
      rw [cellsSl8] at e
      simp only [List.drop_zero, List.take_succ_cons, List.take_zero, List.getElem?_cons_zero] at e
      rcases DataW.trod_slice Tryz.underlying22 e with ⟨h1, -⟩ | ⟨a, len, cap, elems, rest, k, -, h1, -, hb, hle, hmax, hlen, hel, -, -⟩
      · cases h1
        exact ⟨none, 0, 0, fun _ => ⟨0, 0, 0, 0, 0, 0, 0, 0, 0, 0, 0, false⟩, rfl, Nat.le_refl _, Nat.zero_le _, fun _ => ⟨rfl, rfl⟩, fun i hi => by omega, fun i hi => by omega⟩
      · cases h1
        rw [cellsNode8] at hel
        have hnd : ∀ i, i < len → ∃ y : Nd, w.cells? base (a.add (i * 12)) 12 = some (ndC y) ∧ Wds y := fun i hi => by
          have h2 := hel i hi
          rw [List.getElem?_eq_getElem (by omega)] at h2
          obtain ⟨cs, h3, h4⟩ := Option.bind_eq_some_iff.1 h2
          obtain ⟨y, rfl, hw⟩ := nodeCells8 h4
          exact ⟨y, h3, hw⟩
        obtain ⟨l, hL⟩ : ∃ l : Nat → Nd, ∀ i, i < len → w.cells? base (a.add (i * 12)) 12 = some (ndC (l i)) ∧ Wds (l i) :=
          ⟨fun i => if hi : i < len then Classical.choose (hnd i hi) else ⟨0, 0, 0, 0, 0, 0, 0, 0, 0, 0, 0, false⟩, fun i hi => by
            simp only [dif_pos hi]; exact Classical.choose_spec (hnd i hi)⟩
        refine ⟨some a, len, cap, l, rfl, hle, hmax, (fun h => by cases h), fun i hi => ?_, fun i hi => (hL i hi).2⟩
        obtain ⟨-, -, hc⟩ := World.cells?_some (hL i hi).1
        obtain ⟨b, off, spot⟩ := a
        have hspot : spot = none := by
          obtain ⟨-, -, hc0⟩ := World.cells?_some (hL 0 (by omega)).1
          have h1 : w.cell? (((⟨b, off, spot⟩ : Addr).add (0 * 12)).add 0) = some (.int .i64 (l 0).k) := hc0 0 (by decide)
          simpa [Addr.add] using World.cell?_spot h1
        subst hspot
        have hcell : ∀ j, j < 12 → w.cell? ⟨b, off + i * 12 + j, none⟩ = (ndC (l i))[j]? := fun j hj => by
          rw [← hc j hj, add_plain, add_plain]
        exact ⟨b, off, rfl, block_lt_of_cell (hcell 0 (by decide)), Ast.at12_of hcell⟩
set_option maxRecDepth 100000 in
/-- It reads behind the call as before it. -/
theorem againTree8 {H : Type} {enc : TypeId × Value → H} {W W' : World} {v : Value} {d : DataW H} {ps : List MemPlace} (h : DataW.Trod enc Tryz.prog W 0 (fun _ => true) true 24 v d ps) (hb : Below W.heap.size W W') (hlt : ∀ x ∈ ps, x.block < W.heap.size) :
    DataW.Trod enc Tryz.prog W' 0 (fun b => decide (b < W.heap.size)) true 24 v d ps := Below.trod (by kernel_rfl) (by kernel_rfl) (of_decide_eq_true (by kernel_rfl)) h hb hlt
set_option maxRecDepth 100000 in
/-- A set that came in. -/
theorem openSet8 {H : Type} {enc : TypeId × Value → H} {w : World} {base b0 : Nat} {r : Reach} {spare : Nat → Bool} {held : Bool} {v : Value} {d : DataW H} {p : List MemPlace}
    (hv : Value.okWide Tryz.prog w r b0 28 v) (h : DataW.Trod enc Tryz.prog w base spare held 28 v d p) : ∃ S : BitVec 256, v = setV S := by
  obtain ⟨cs, rfl, hsz⟩ := okWide_struct Tryz.underlying28 hv
  obtain ⟨fuel, hf⟩ := h
  obtain ⟨a, b, c, d, hc, ⟨a0, a1⟩, ⟨b0, b1⟩, ⟨c0, c1⟩, d0, d1⟩ := setCells8 hf
  have hW := W_ofWords (a := a.toNat) (b := b.toNat) (c := c.toNat) (d := d.toNat) (by omega) (by omega) (by omega) (by omega)
  refine ⟨ofWords a.toNat b.toNat c.toNat d.toNat, ?_⟩
  obtain rfl : cs = #[.int .u64 a, .int .u64 b, .int .u64 c, .int .u64 d] := by
    have : cs.toList = [.int .u64 a, .int .u64 b, .int .u64 c, .int .u64 d] := hc
    cases cs
    simp at this
    rw [this]
  show _ = Value.agg #[.int .u64 (W _ 0 : Nat), .int .u64 (W _ 1 : Nat), .int .u64 (W _ 2 : Nat), .int .u64 (W _ 3 : Nat)]
  rw [hW.1, hW.2.1, hW.2.2.1, hW.2.2.2, Int.toNat_of_nonneg a0, Int.toNat_of_nonneg b0, Int.toNat_of_nonneg c0, Int.toNat_of_nonneg d0]
set_option maxRecDepth 100000 in
theorem againSet8 {H : Type} {enc : TypeId × Value → H} {W W' : World} {v : Value} {d : DataW H} {ps : List MemPlace} (h : DataW.Trod enc Tryz.prog W 0 (fun _ => true) true 28 v d ps) (hb : Below W.heap.size W W') (hlt : ∀ x ∈ ps, x.block < W.heap.size) :
    DataW.Trod enc Tryz.prog W' 0 (fun b => decide (b < W.heap.size)) true 28 v d ps := Below.trod (by kernel_rfl) (by kernel_rfl) (of_decide_eq_true (by kernel_rfl)) h hb hlt
theorem sortK : Ast.SortOk → Ast.SortNone → SortK := fun a b => ⟨a, b⟩
/-! The listed tables. -/
theorem gTab8 : Tryz.prog.globalNamed "math/bits.deBruijn64tab" = some 1 := by kernel_rfl
theorem gTabT8 : (Tryz.prog.globals[1]?).map (·.type) = some 152 := by kernel_rfl
theorem cellsTab8 : Tryz.prog.cellsOf 152 = 64 := by kernel_rfl
theorem cellsU88 : Tryz.prog.cellsOf 5 = 1 := by kernel_rfl
theorem gPowT8 : (Tryz.prog.globals[3]?).map (·.type) = some 218 := by kernel_rfl
theorem cellsPow8 : Tryz.prog.cellsOf 218 = 20 := by kernel_rfl
def tabZ8 : List Int := Lib.deBruijn64tab.map fun (n : Nat) => (n : Int)
theorem tab_of8 {w : World} (h1 : laidMetH Tryz.prog [("math/bits.deBruijn64tab", (Rows.laid_math_bits_deBruijn64tab : DataW Unit))] w) : TabOk w := by
  have ht : Lib.TabIs Tryz.prog w "math/bits.deBruijn64tab" .u8 tabZ8 := Lib.tabIs_of_head (rest := []) gTab8 gTabT8 Tryz.underlying152 Tryz.underlying5 cellsU88 cellsTab8 h1
  intro j hj
  have e : tabZ8.getD j 0 = ((Lib.deBruijn64tab.getD j 0 : Nat) : Int) := (show ∀ j, j < 64 → tabZ8.getD j 0 = ((Lib.deBruijn64tab.getD j 0 : Nat) : Int) by decide +kernel) j hj
  have hc := ht.cell gTab8 j (by exact hj)
  rw [hc, ← e]
theorem pow_of8 {w : World} (h1 : laidMetH Tryz.prog [("internal/strconv.uint64pow10", (Rows.laid_internal_strconv_uint64pow10 : DataW Unit))] w) : PowOk w :=
  Lib.tabIs_of_head (rest := []) gPow gPowT8 Tryz.underlying218 Tryz.underlying25 cellsU648 cellsPow8 h1
theorem like_backs {l : Nat → Nd} {n : Nat} (hr : rightZ l n = 0) : BackOk l n := fun i hi h12 => by
  have hg : Ast.groupsB l n = true := by
    unfold rightZ at hr
    by_cases h : Ast.shapeZ l n ≠ 0
    · rw [if_pos h] at hr; exact absurd hr h
    · rw [if_neg h] at hr
      by_cases h2 : Ast.groupsB l n = false
      · rw [if_pos h2] at hr; exact absurd hr (by decide)
      · simpa using h2
  unfold Ast.groupsB at hg
  rw [Bool.and_eq_true, Bool.and_eq_true] at hg
  have key : ∀ (m k : Nat), Ast.backB l m k = true → ∀ i, i < k → (l i).k = 12 → 1 ≤ (l i).n ∧ (l i).n ≤ (m : Int) := by
    intro m k
    induction k with
    | zero => intro _ i hi; exact absurd hi (Nat.not_lt_zero _)
    | succ k ih =>
      intro h i hi h12
      rw [Ast.backB, Bool.and_eq_true] at h
      by_cases e : i = k
      · subst e
        have := h.2
        rw [if_pos h12] at this
        exact of_decide_eq_true this
      · exact ih h.1 i (by omega) h12
  have h1 := key _ n hg.1.2 i hi h12
  have h2 := of_decide_eq_true hg.2
  omega
end Go.Proofs.YtfejdengpnikeaaGreatDoor
