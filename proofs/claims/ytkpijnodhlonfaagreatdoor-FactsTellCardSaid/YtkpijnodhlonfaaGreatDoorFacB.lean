/-
  FacTwo, FacNode, FacOf
-/
import Derived.Test.YtkpijnodhlonfaaGreatDoorFacA
import Derived.Test.YtkpijnodhlonfaaGreatDoorAstF
import Derived.Test.YtkpijnodhlonfaaGreatDoorAstG
import Derived.Laws.MakeOwn
namespace Go.Proofs.YtkpijnodhlonfaaGreatDoor
open Go.RowKit
open Ast (Nd ndV Nodes siz len)

set_option maxHeartbeats 1000000 in
theorem none_any9 (A : Option Addr) (n cap : Nat) (l : Nat → Nd) (i : Nat) (w : World) (hn : n ≤ 1000000) (hl : Nodes w A n l) (hi : i < n) (hz : Ast.shapeZ l n = 0) :
    Calls Tryz.prog 66 #[.agg (trC A n cap), .int .i64 (i : Int)] w fun e w' => e = .returned (.bool (decide ((len l (i + 1)).2 = 0))) ∧ Below w.heap.size w w' := by
  have HL := Lib.hid (fun w h => Ast.lenZ_any A n cap l (i : Int) w hn h)
  have e1 : Ast.lenZ l n (i : Int) = ((len l (i + 1)).1, (len l (i + 1)).2, 0) := by
    unfold Ast.lenZ
    rw [if_neg (by omega), if_neg (by omega)]
    rfl
  rw [show Ast.lenV (Ast.lenZ l n (i : Int)) = .tuple #[.int .i64 (len l (i + 1)).1, .int .i64 (len l (i + 1)).2, .int .i64 0] by rw [e1]] at HL
  rw [show decide ((len l (i + 1)).2 = 0) = ((len l (i + 1)).2 == 0) from rfl]
  generalize (len l (i + 1)).1 = p at HL
  generalize (len l (i + 1)).2 = q at HL ⊢
  have HN := Lib.hid (hl.below ((Below.refl _ w).alloc (Nat.le_refl _) (.cells (trC A n cap) 24)) (Nat.le_refl _))
  clear hl e1
  go_enter Tryz.func66, Tryz.ntmps66
  go_wp2_with fail
  refine (HL.out _ HN.out).mono ?_
  rintro e w1 ⟨rfl, hb⟩
  have HB := Lib.hid (((Below.refl _ w).alloc (Nat.le_refl _) (.cells (trC A n cap) 24)).trans (hb.mono (by simp)))
  clear hb
  go_wp2
  go_ret
  exact ⟨rfl, HB.out⟩
/-- The boxes of ofTwo, but for the last one, which is told beside. -/
structure Two (w0 : World) (A : Option Addr) (n cap : Nat) (x : Nd) (a b : FK) (w : World) : Prop where
  below : Below w0.heap.size w0 w
  tree : BoxV 24 w w0.heap.size (trC A n cap)
  node : BoxV 59 w (w0.heap.size + 1) (ndC x)
  first : BoxK w (w0.heap.size + 1 + 1) a
  second : BoxK w (w0.heap.size + 1 + 1 + 1) b
  res : BoxV 64 w (w0.heap.size + 1 + 1 + 1 + 1) (knoC zrK)
  more : w0.heap.size + 1 + 1 + 1 + 1 + 1 < w.heap.size
section
variable {w0 w w' : World} {A : Option Addr} {n cap : Nat} {x : Nd} {a b : FK}
theorem Two.call (h : Two w0 A n cap x a b w) (hb : Below w.heap.size w w') : Two w0 A n cap x a b w' :=
  ⟨thenB h.below hb h.below.size, h.tree.below hb h.tree.lt, h.node.below hb h.node.lt, h.first.below hb h.first.lt, h.second.below hb h.second.lt, h.res.below hb h.res.lt, Nat.lt_of_lt_of_le h.more hb.size⟩
theorem Two.but (h : Two w0 A n cap x a b w) (hb : ButR (w0.heap.size + 1 + 1 + 1 + 1 + 1) w.heap.size w w') : Two w0 A n cap x a b w' :=
  ⟨h.below.trans (hb.below h.below.size (by omega)), h.tree.but hb h.tree.lt (by omega), h.node.but hb h.node.lt (by omega), h.first.but hb h.first.lt (by omega), h.second.but hb h.second.lt (by omega), h.res.but hb h.res.lt (by omega), Nat.lt_of_lt_of_le h.more hb.size⟩
theorem Two.drew (h : Two w0 A n cap x a b w) : Two w0 A n cap x a b w.drew := h.call (Below.refl _ w).drew
theorem Two.new (w : World) (A : Option Addr) (n cap : Nat) (x : Nd) (a b : FK) : Two w A n cap x a b ((((((w.alloc (.cells (trC A n cap) 24)).alloc (.cells (ndC x) 59)).alloc (.cells (knoC a) 64)).alloc (.cells (knoC b) 64)).alloc (.cells (knoC zrK) 64)).alloc (.cells (knoC zrK) 64)) ∧
    BoxV 64 ((((((w.alloc (.cells (trC A n cap) 24)).alloc (.cells (ndC x) 59)).alloc (.cells (knoC a) 64)).alloc (.cells (knoC b) 64)).alloc (.cells (knoC zrK) 64)).alloc (.cells (knoC zrK) 64)) (w.heap.size + 1 + 1 + 1 + 1 + 1) (knoC zrK) := by
  refine ⟨⟨by go_grown, ((((BoxV.new _ _).alloc _).alloc _).alloc _).alloc _ |>.alloc _, (((BoxV.new2 _ _ _).alloc _).alloc _).alloc _ |>.alloc _, ((BoxV.new3 _ _ _ _).alloc _).alloc _ |>.alloc _, ?_, ?_, by simp⟩, ?_⟩
  · have h := BoxV.new (T := 64) (((w.alloc (.cells (trC A n cap) 24)).alloc (.cells (ndC x) 59)).alloc (.cells (knoC a) 64)) (knoC b)
    rw [World.size_alloc, World.size_alloc, World.size_alloc] at h
    exact (h.alloc _).alloc _
  · have h := BoxV.new (T := 64) ((((w.alloc (.cells (trC A n cap) 24)).alloc (.cells (ndC x) 59)).alloc (.cells (knoC a) 64)).alloc (.cells (knoC b) 64)) (knoC zrK)
    rw [World.size_alloc, World.size_alloc, World.size_alloc, World.size_alloc] at h
    exact h.alloc _
  · have h := BoxV.new (T := 64) (((((w.alloc (.cells (trC A n cap) 24)).alloc (.cells (ndC x) 59)).alloc (.cells (knoC a) 64)).alloc (.cells (knoC b) 64)).alloc (.cells (knoC zrK) 64)) (knoC zrK)
    rwa [World.size_alloc, World.size_alloc, World.size_alloc, World.size_alloc, World.size_alloc] at h
end
set_option maxRecDepth 20000 in
set_option maxHeartbeats 8000000 in
theorem two_alt (A : Option Addr) (n cap : Nat) (x : Nd) (F1 F2 : BitVec 256) (op1 op2 fa1 fa2 : Bool) (pr1 pr2 : ByteArray) (wh1 wh2 : Bool) (w : World) (hk : x.k = 9) :
    Calls Tryz.prog 44 #[.agg (trC A n cap), .agg (ndC x), .agg (knoC ⟨F1, op1, fa1, pr1, wh1⟩), .agg (knoC ⟨F2, op2, fa2, pr2, wh2⟩)] w fun e w' => e = .returned (.agg (knoC (altK ⟨F1, op1, fa1, pr1, wh1⟩ ⟨F2, op2, fa2, pr2, wh2⟩))) ∧ Below w.heap.size w w' := by
  have HT0 := Lib.hid (Two.new w A n cap x ⟨F1, op1, fa1, pr1, wh1⟩ ⟨F2, op2, fa2, pr2, wh2⟩)
  rw [zrC] at HT0
  have HO := Lib.hid (fun w => or_any F1 F2 w)
  obtain ⟨xk, xa, xb, t0, t1, t2, t3, mn, mx, md, nn, ff⟩ := x
  simp only at hk
  subst hk
  go_enter Tryz.func44, Tryz.ntmps44
  go_wp2_with fail
  refine wp_scope_once 0 rfl ?_
  go_wp2_with fail
  refine (HO.out _).mono ?_
  rintro e w1 ⟨rfl, hb⟩
  have HT1 := Lib.hid (HT0.out.1.call hb)
  have HX1 := Lib.hid (HT0.out.2.below hb (by simp))
  rw [← zrC] at HX1
  clear hb HT0
  go_wp2_with (refine storeS9 rfl _ _ rfl (w.heap.size + 1 + 1 + 1 + 1 + 1) (knoC zrK) (knoC ⟨F1 ||| F2, false, false, ByteArray.empty, false⟩) (F1 ||| F2) 0#256 rfl rfl HX1.out rfl rfl rfl rfl rfl ?_; intro w2 hx2 hN2; refine StopS.out ?_)
  refine ⟨?_⟩
  have HT2 := Lib.hid (HT1.out.but hN2.out)
  clear HT1 HX1 hN2
  go_wp2_with fail
  refine wp_region_held_drew (S := fun u => Two w A n cap ⟨9, xa, xb, t0, t1, t2, t3, mn, mx, md, nn, ff⟩ ⟨F1, op1, fa1, pr1, wh1⟩ ⟨F2, op2, fa2, pr2, wh2⟩ u) (by kernel_rfl) (show _ from HT2.out.drew) (fun hS => ?_)
  have hx3 : BoxK w2.drew (w.heap.size + 1 + 1 + 1 + 1 + 1) ⟨F1 ||| F2, false, false, ByteArray.empty, false⟩ := hx2.out.drew
  clear hx2 HT2
  generalize World.drew w2 = u0 at hS hx3 ⊢
  refine takeAt 0 22 (.pointer (some ⟨w.heap.size + 1 + 1, 0, none⟩)) rfl rfl (by kernel_rfl) (by kernel_rfl) (by kernel_rfl) (fun _ _ _ h => h) (yields (by rfl) (fun w => by kernel_rfl)) hS ?_
  simp only [Act.put, List.setIfInBounds_toArray, List.set_cons_zero, List.set_cons_succ]
  refine takeAt 1 23 (.pointer (some ⟨w.heap.size + 1 + 1, 4, none⟩)) rfl rfl (by kernel_rfl) (by kernel_rfl) (by kernel_rfl) (fun _ _ _ h => h) (yields (by rfl) (fun w => by kernel_rfl)) hS ?_
  simp only [Act.put, List.setIfInBounds_toArray, List.set_cons_zero, List.set_cons_succ]
  refine takeAt 2 24 (.bool op1) rfl rfl (by kernel_rfl) (by kernel_rfl) (by kernel_rfl) (fun _ _ _ h => h) (loadB9_y (w.heap.size + 1 + 1) 4 op1 (fun _ h => h.first.get 4 rfl) rfl rfl (by rfl)) hS ?_
  simp only [Act.put, List.setIfInBounds_toArray, List.set_cons_zero, List.set_cons_succ]
  refine takeAt 3 25 (.bool op1) rfl rfl (by kernel_rfl) (by kernel_rfl) (by kernel_rfl) (fun _ _ _ h => h) (yields (by rfl) (fun w => by kernel_rfl)) hS ?_
  simp only [Act.put, List.setIfInBounds_toArray, List.set_cons_zero, List.set_cons_succ]
  refine takeAt 4 26 ((cond op1 undef (.pointer (some ⟨w.heap.size + 1 + 1 + 1, 0, none⟩)))) rfl rfl (by kernel_rfl) (by kernel_rfl) (by kernel_rfl) (fun _ _ _ h => h) (by cases op1 <;> first | exact yields (by rfl) (fun w => by kernel_rfl) | exact skipped (by rfl)) hS ?_
  simp only [Act.put, List.setIfInBounds_toArray, List.set_cons_zero, List.set_cons_succ]
  refine takeAt 5 27 ((cond op1 undef (.pointer (some ⟨w.heap.size + 1 + 1 + 1, 4, none⟩)))) rfl rfl (by kernel_rfl) (by kernel_rfl) (by kernel_rfl) (fun _ _ _ h => h) (by cases op1 <;> first | exact yields (by rfl) (fun w => by kernel_rfl) | exact skipped (by rfl)) hS ?_
  simp only [Act.put, List.setIfInBounds_toArray, List.set_cons_zero, List.set_cons_succ]
  refine takeAt 6 28 ((cond op1 undef (.bool op2))) rfl rfl (by kernel_rfl) (by kernel_rfl) (by kernel_rfl) (fun _ _ _ h => h) (by cases op1 <;> first | exact loadB9_y (w.heap.size + 1 + 1 + 1) 4 op2 (fun _ h => h.second.get 4 rfl) rfl rfl (by rfl) | exact skipped (by rfl)) hS ?_
  simp only [Act.put, List.setIfInBounds_toArray, List.set_cons_zero, List.set_cons_succ]
  refine takeAt 7 29 (.bool (op1 || op2)) rfl rfl (by kernel_rfl) (by kernel_rfl) (by kernel_rfl) (fun _ _ _ h => h) (by cases op1 <;> first | exact yields (by rfl) (fun w => by kernel_rfl) | exact skipped (by rfl)) hS ?_
  simp only [Act.put, List.setIfInBounds_toArray, List.set_cons_zero, List.set_cons_succ]
  refine takeAt 8 30 (.pointer (some ⟨w.heap.size + 1 + 1, 0, none⟩)) rfl rfl (by kernel_rfl) (by kernel_rfl) (by kernel_rfl) (fun _ _ _ h => h) (yields (by rfl) (fun w => by kernel_rfl)) hS ?_
  simp only [Act.put, List.setIfInBounds_toArray, List.set_cons_zero, List.set_cons_succ]
  refine takeAt 9 31 (.pointer (some ⟨w.heap.size + 1 + 1, 5, none⟩)) rfl rfl (by kernel_rfl) (by kernel_rfl) (by kernel_rfl) (fun _ _ _ h => h) (yields (by rfl) (fun w => by kernel_rfl)) hS ?_
  simp only [Act.put, List.setIfInBounds_toArray, List.set_cons_zero, List.set_cons_succ]
  refine takeAt 10 32 (.bool fa1) rfl rfl (by kernel_rfl) (by kernel_rfl) (by kernel_rfl) (fun _ _ _ h => h) (loadB9_y (w.heap.size + 1 + 1) 5 fa1 (fun _ h => h.first.get 5 rfl) rfl rfl (by rfl)) hS ?_
  simp only [Act.put, List.setIfInBounds_toArray, List.set_cons_zero, List.set_cons_succ]
  refine takeAt 11 33 (.bool fa1) rfl rfl (by kernel_rfl) (by kernel_rfl) (by kernel_rfl) (fun _ _ _ h => h) (yields (by rfl) (fun w => by kernel_rfl)) hS ?_
  simp only [Act.put, List.setIfInBounds_toArray, List.set_cons_zero, List.set_cons_succ]
  as_aux_lemma =>
    refine takeAt 12 34 ((cond fa1 (.pointer (some ⟨w.heap.size + 1 + 1 + 1, 0, none⟩)) undef)) rfl rfl (by kernel_rfl) (by kernel_rfl) (by kernel_rfl) (fun _ _ _ h => h) (by cases fa1 <;> first | exact yields (by rfl) (fun w => by kernel_rfl) | exact skipped (by rfl)) hS ?_
    simp only [Act.put, List.setIfInBounds_toArray, List.set_cons_zero, List.set_cons_succ]
    refine takeAt 13 35 ((cond fa1 (.pointer (some ⟨w.heap.size + 1 + 1 + 1, 5, none⟩)) undef)) rfl rfl (by kernel_rfl) (by kernel_rfl) (by kernel_rfl) (fun _ _ _ h => h) (by cases fa1 <;> first | exact yields (by rfl) (fun w => by kernel_rfl) | exact skipped (by rfl)) hS ?_
    simp only [Act.put, List.setIfInBounds_toArray, List.set_cons_zero, List.set_cons_succ]
    refine takeAt 14 36 ((cond fa1 (.bool fa2) undef)) rfl rfl (by kernel_rfl) (by kernel_rfl) (by kernel_rfl) (fun _ _ _ h => h) (by cases fa1 <;> first | exact loadB9_y (w.heap.size + 1 + 1 + 1) 5 fa2 (fun _ h => h.second.get 5 rfl) rfl rfl (by rfl) | exact skipped (by rfl)) hS ?_
    simp only [Act.put, List.setIfInBounds_toArray, List.set_cons_zero, List.set_cons_succ]
    refine takeAt 15 37 (.bool (fa1 && fa2)) rfl rfl (by kernel_rfl) (by kernel_rfl) (by kernel_rfl) (fun _ _ _ h => h) (by cases fa1 <;> first | exact yields (by rfl) (fun w => by kernel_rfl) | exact skipped (by rfl)) hS ?_
    simp only [Act.put, List.setIfInBounds_toArray, List.set_cons_zero, List.set_cons_succ]
    refine takeAt 16 38 (.pointer (some ⟨w.heap.size + 1 + 1 + 1 + 1 + 1, 0, none⟩)) rfl rfl (by kernel_rfl) (by kernel_rfl) (by kernel_rfl) (fun _ _ _ h => h) (yields (by rfl) (fun w => by kernel_rfl)) hS ?_
    simp only [Act.put, List.setIfInBounds_toArray, List.set_cons_zero, List.set_cons_succ]
    refine takeAt 17 39 (.pointer (some ⟨w.heap.size + 1 + 1 + 1 + 1 + 1, 4, none⟩)) rfl rfl (by kernel_rfl) (by kernel_rfl) (by kernel_rfl) (fun _ _ _ h => h) (yields (by rfl) (fun w => by kernel_rfl)) hS ?_
    simp only [Act.put, List.setIfInBounds_toArray, List.set_cons_zero, List.set_cons_succ]
    have hx4 : BoxK (u0.setCell ⟨w.heap.size + 1 + 1 + 1 + 1 + 1, 4, none⟩ (.bool (op1 || op2))) (w.heap.size + 1 + 1 + 1 + 1 + 1) ⟨F1 ||| F2, op1 || op2, false, ByteArray.empty, false⟩ := BoxV.put hx3 4 (.bool (op1 || op2))
    refine skipAt 18 (u0.setCell ⟨w.heap.size + 1 + 1 + 1 + 1 + 1, 4, none⟩ (.bool (op1 || op2))) rfl rfl (by kernel_rfl) (by rfl) (putB_run hx3 rfl rfl rfl rfl) (hS.but ((ButR.refl _ u0.heap.size u0).setCell 4 (.bool (op1 || op2)))) ?_
    have hS := hS.but ((ButR.refl _ u0.heap.size u0).setCell 4 (.bool (op1 || op2)))
    generalize u0.setCell ⟨w.heap.size + 1 + 1 + 1 + 1 + 1, 4, none⟩ (.bool (op1 || op2)) = u1 at hS hx4 ⊢
    refine takeAt 19 40 (.pointer (some ⟨w.heap.size + 1 + 1 + 1 + 1 + 1, 0, none⟩)) rfl rfl (by kernel_rfl) (by kernel_rfl) (by kernel_rfl) (fun _ _ _ h => h) (yields (by rfl) (fun w => by kernel_rfl)) hS ?_
    simp only [Act.put, List.setIfInBounds_toArray, List.set_cons_zero, List.set_cons_succ]
    refine takeAt 20 41 (.pointer (some ⟨w.heap.size + 1 + 1 + 1 + 1 + 1, 5, none⟩)) rfl rfl (by kernel_rfl) (by kernel_rfl) (by kernel_rfl) (fun _ _ _ h => h) (yields (by rfl) (fun w => by kernel_rfl)) hS ?_
    simp only [Act.put, List.setIfInBounds_toArray, List.set_cons_zero, List.set_cons_succ]
    have hx5 : BoxK (u1.setCell ⟨w.heap.size + 1 + 1 + 1 + 1 + 1, 5, none⟩ (.bool (fa1 && fa2))) (w.heap.size + 1 + 1 + 1 + 1 + 1) ⟨F1 ||| F2, op1 || op2, fa1 && fa2, ByteArray.empty, false⟩ := BoxV.put hx4 5 (.bool (fa1 && fa2))
    refine skipAt 21 (u1.setCell ⟨w.heap.size + 1 + 1 + 1 + 1 + 1, 5, none⟩ (.bool (fa1 && fa2))) rfl rfl (by kernel_rfl) (by rfl) (putB_run hx4 rfl rfl rfl rfl) (hS.but ((ButR.refl _ u1.heap.size u1).setCell 5 (.bool (fa1 && fa2)))) ?_
    have hS := hS.but ((ButR.refl _ u1.heap.size u1).setCell 5 (.bool (fa1 && fa2)))
    generalize u1.setCell ⟨w.heap.size + 1 + 1 + 1 + 1 + 1, 5, none⟩ (.bool (fa1 && fa2)) = u2 at hS hx5 ⊢
    refine wpAnyH_done (by kernel_rfl) ?_ _
    have HT2 := Lib.hid hS
    have HX2 := Lib.hid hx5
    have hsz : (ByteArray.empty).size ≤ 1000000 := by decide
    clear hS hx3 hx4 hx5
    go_wp2_with fail
    go_step3
    refine ⟨rfl, ?_⟩
    go_wp2_with (refine loadKn rfl _ rfl (w.heap.size + 1 + 1 + 1 + 1 + 1) (⟨F1 ||| F2, op1 || op2, fa1 && fa2, ByteArray.empty, false⟩) rfl HX2.out (StopS.out ?_))
    refine ⟨?_⟩
    have HCut := Lib.hid (fun w h => cut_any9 (⟨F1 ||| F2, op1 || op2, fa1 && fa2, ByteArray.empty, false⟩) w h)
    go_wp2_with fail
    refine (HCut.out _ hsz).mono ?_
    rintro e w9 ⟨rfl, hb⟩
    have HT9 := Lib.hid (HT2.out.call hb)
    clear hb
    go_wp2_with (refine storeKn rfl _ _ rfl (w.heap.size + 1 + 1 + 1 + 1) (cutK (⟨F1 ||| F2, op1 || op2, fa1 && fa2, ByteArray.empty, false⟩)) _ rfl rfl (by rfl) HT9.out.res ?_; intro u9 hx9 hB9 _; refine StopS.out ?_)
    refine ⟨?_⟩
    go_wp2
    simp only [Exit.jump]
    refine bodyPost_ret (resV (p := 8) rfl _ (g := w.heap.size + 1 + 1 + 1 + 1) rfl (by rfl) hx9.out) rfl ⟨rfl, ?_⟩
    exact HT9.out.below.trans (hB9.out _ (by omega))
theorem BoxK.zr {w : World} {g : Nat} (h : BoxV 64 w g #[.int .u64 0, .int .u64 0, .int .u64 0, .int .u64 0, .bool false, .bool false, .string ⟨#[]⟩, .bool false]) : BoxK w g zrK := by
  unfold BoxK
  rw [zrC]
  exact h
theorem ButR.row9 {g : Nat} {w u : World} (hB : ∀ B, B ≤ g → Below B w u) (h : ∀ j, j ≠ g → u.heap[j]? = w.heap[j]?) : ButR g w.heap.size w u :=
  ⟨(hB 0 (Nat.zero_le _)).os, (hB 0 (Nat.zero_le _)).tape, (hB 0 (Nat.zero_le _)).output, (hB 0 (Nat.zero_le _)).size, fun k _ hk => h k hk⟩
set_option maxRecDepth 20000 in
set_option maxHeartbeats 8000000 in
theorem two_one (A : Option Addr) (n cap : Nat) (x : Nd) (F1 F2 : BitVec 256) (op1 op2 fa1 fa2 : Bool) (pr1 pr2 : ByteArray) (wh1 wh2 : Bool) (w : World) (hk : (x.k == 9) = false) (he1 : isEm ⟨F1, op1, fa1, pr1, wh1⟩ = true) (hsz : pr2.size ≤ 1000000) :
    Calls Tryz.prog 44 #[.agg (trC A n cap), .agg (ndC x), .agg (knoC ⟨F1, op1, fa1, pr1, wh1⟩), .agg (knoC ⟨F2, op2, fa2, pr2, wh2⟩)] w fun e w' => e = .returned (.agg (knoC (cutK ⟨F2, op2, fa2, pr2, wh2⟩))) ∧ Below w.heap.size w w' := by
  have HT0 := Lib.hid (Two.new w A n cap x ⟨F1, op1, fa1, pr1, wh1⟩ ⟨F2, op2, fa2, pr2, wh2⟩)
  rw [zrC] at HT0
  obtain ⟨xk, xa, xb, t0, t1, t2, t3, mn, mx, md, nn, ff⟩ := x
  simp only at hk
  have HE := Lib.hid (fun w => empty9_any w)
  go_enter Tryz.func44, Tryz.ntmps44
  go_wp2_with fail
  refine wp_scope_once 0 rfl ?_
  go_wp2_with fail
  have HT1 := Lib.hid HT0.out.1
  have HX1 := Lib.hid (BoxK.zr HT0.out.2)
  clear HT0
  refine wp_region_held_drew (S := fun u => Two w A n cap ⟨xk, xa, xb, t0, t1, t2, t3, mn, mx, md, nn, ff⟩ ⟨F1, op1, fa1, pr1, wh1⟩ ⟨F2, op2, fa2, pr2, wh2⟩ u ∧ BoxK u (w.heap.size + 1 + 1 + 1 + 1 + 1) zrK) (by kernel_rfl) (show _ from ⟨HT1.out.drew, HX1.out.drew⟩) (fun hS => ?_)
  clear HT1 HX1
  generalize World.drew _ = v0 at hS ⊢
  refine takeAt 0 42 (.agg (knoC ⟨F1, op1, fa1, pr1, wh1⟩)) rfl rfl (by kernel_rfl) (by kernel_rfl) (by kernel_rfl) (fun _ _ _ h => h) (loadK_y (w.heap.size + 1 + 1) ⟨F1, op1, fa1, pr1, wh1⟩ (fun _ h => h.1.first) rfl rfl (by rfl)) hS ?_
  simp only [Act.put, List.setIfInBounds_toArray, List.set_cons_zero, List.set_cons_succ]
  refine callAt 1 43 rfl rfl (by kernel_rfl) (by rfl) (by kernel_rfl) (HE.out _) ?_
  rintro e v1 ⟨rfl, hb⟩
  have hS := And.intro (hS.1.call hb) (hS.2.below hb hS.2.lt)
  clear hb
  refine ⟨_, rfl, hS, ?_⟩
  simp only [Act.put, List.setIfInBounds_toArray, List.set_cons_zero, List.set_cons_succ]
  refine takeAt 2 44 (.bool true) rfl rfl (by kernel_rfl) (by kernel_rfl) (by kernel_rfl) (fun _ _ _ h => h) (eqK_y ⟨F1, op1, fa1, pr1, wh1⟩ true he1 rfl rfl rfl (by rfl)) hS ?_
  simp only [Act.put, List.setIfInBounds_toArray, List.set_cons_zero, List.set_cons_succ]
  refine wpAnyH_done (by kernel_rfl) ?_ _
  have HT2 := Lib.hid hS.1
  have HX2 := Lib.hid hS.2
  clear hS
  go_wp2_with (refine loadKn rfl _ rfl (w.heap.size + 1 + 1 + 1) ⟨F2, op2, fa2, pr2, wh2⟩ rfl HT2.out.second (StopS.out ?_))
  refine ⟨?_⟩
  go_wp2_with (refine storeKn rfl _ _ rfl (w.heap.size + 1 + 1 + 1 + 1 + 1) ⟨F2, op2, fa2, pr2, wh2⟩ _ rfl rfl (by rfl) HX2.out ?_; intro u3 hx3 hB3 ho3; refine StopS.out ?_)
  refine ⟨?_⟩
  have HT3 := Lib.hid (HT2.out.but (ButR.row9 hB3.out ho3.out))
  clear HT2 HX2 hB3 ho3
  go_wp2_with fail
  go_step3
  refine ⟨rfl, ?_⟩
  go_wp2_with (refine loadKn rfl _ rfl (w.heap.size + 1 + 1 + 1 + 1 + 1) (⟨F2, op2, fa2, pr2, wh2⟩) rfl hx3.out (StopS.out ?_))
  refine ⟨?_⟩
  have HCut := Lib.hid (fun w h => cut_any9 (⟨F2, op2, fa2, pr2, wh2⟩) w h)
  go_wp2_with fail
  refine (HCut.out _ hsz).mono ?_
  rintro e w9 ⟨rfl, hb⟩
  have HT9 := Lib.hid (HT3.out.call hb)
  clear hb
  go_wp2_with (refine storeKn rfl _ _ rfl (w.heap.size + 1 + 1 + 1 + 1) (cutK (⟨F2, op2, fa2, pr2, wh2⟩)) _ rfl rfl (by rfl) HT9.out.res ?_; intro u9 hx9 hB9 _; refine StopS.out ?_)
  refine ⟨?_⟩
  go_wp2
  simp only [Exit.jump]
  refine bodyPost_ret (resV (p := 8) rfl _ (g := w.heap.size + 1 + 1 + 1 + 1) rfl (by rfl) hx9.out) rfl ⟨rfl, ?_⟩
  exact HT9.out.below.trans (hB9.out _ (by omega))
set_option maxRecDepth 20000 in
set_option maxHeartbeats 8000000 in
theorem two_other (A : Option Addr) (n cap : Nat) (x : Nd) (F1 F2 : BitVec 256) (op1 op2 fa1 fa2 : Bool) (pr1 pr2 : ByteArray) (wh1 wh2 : Bool) (w : World) (hk : (x.k == 9) = false) (he1 : isEm ⟨F1, op1, fa1, pr1, wh1⟩ = false) (he2 : isEm ⟨F2, op2, fa2, pr2, wh2⟩ = true) (hsz : pr1.size ≤ 1000000) :
    Calls Tryz.prog 44 #[.agg (trC A n cap), .agg (ndC x), .agg (knoC ⟨F1, op1, fa1, pr1, wh1⟩), .agg (knoC ⟨F2, op2, fa2, pr2, wh2⟩)] w fun e w' => e = .returned (.agg (knoC (cutK ⟨F1, op1, fa1, pr1, wh1⟩))) ∧ Below w.heap.size w w' := by
  have HT0 := Lib.hid (Two.new w A n cap x ⟨F1, op1, fa1, pr1, wh1⟩ ⟨F2, op2, fa2, pr2, wh2⟩)
  rw [zrC] at HT0
  obtain ⟨xk, xa, xb, t0, t1, t2, t3, mn, mx, md, nn, ff⟩ := x
  simp only at hk
  have HE := Lib.hid (fun w => empty9_any w)
  go_enter Tryz.func44, Tryz.ntmps44
  go_wp2_with fail
  refine wp_scope_once 0 rfl ?_
  go_wp2_with fail
  have HT1 := Lib.hid HT0.out.1
  have HX1 := Lib.hid (BoxK.zr HT0.out.2)
  clear HT0
  refine wp_region_held_drew (S := fun u => Two w A n cap ⟨xk, xa, xb, t0, t1, t2, t3, mn, mx, md, nn, ff⟩ ⟨F1, op1, fa1, pr1, wh1⟩ ⟨F2, op2, fa2, pr2, wh2⟩ u ∧ BoxK u (w.heap.size + 1 + 1 + 1 + 1 + 1) zrK) (by kernel_rfl) (show _ from ⟨HT1.out.drew, HX1.out.drew⟩) (fun hS => ?_)
  clear HT1 HX1
  generalize World.drew _ = v0 at hS ⊢
  refine takeAt 0 42 (.agg (knoC ⟨F1, op1, fa1, pr1, wh1⟩)) rfl rfl (by kernel_rfl) (by kernel_rfl) (by kernel_rfl) (fun _ _ _ h => h) (loadK_y (w.heap.size + 1 + 1) ⟨F1, op1, fa1, pr1, wh1⟩ (fun _ h => h.1.first) rfl rfl (by rfl)) hS ?_
  simp only [Act.put, List.setIfInBounds_toArray, List.set_cons_zero, List.set_cons_succ]
  refine callAt 1 43 rfl rfl (by kernel_rfl) (by rfl) (by kernel_rfl) (HE.out _) ?_
  rintro e v1 ⟨rfl, hb⟩
  have hS := And.intro (hS.1.call hb) (hS.2.below hb hS.2.lt)
  clear hb
  refine ⟨_, rfl, hS, ?_⟩
  simp only [Act.put, List.setIfInBounds_toArray, List.set_cons_zero, List.set_cons_succ]
  refine takeAt 2 44 (.bool false) rfl rfl (by kernel_rfl) (by kernel_rfl) (by kernel_rfl) (fun _ _ _ h => h) (eqK_y ⟨F1, op1, fa1, pr1, wh1⟩ false he1 rfl rfl rfl (by rfl)) hS ?_
  simp only [Act.put, List.setIfInBounds_toArray, List.set_cons_zero, List.set_cons_succ]
  refine wpAnyH_done (by kernel_rfl) ?_ _
  have HT2 := Lib.hid hS.1
  have HX2 := Lib.hid hS.2
  clear hS
  go_wp2_with fail
  refine wp_region_held_drew (S := fun u => Two w A n cap ⟨xk, xa, xb, t0, t1, t2, t3, mn, mx, md, nn, ff⟩ ⟨F1, op1, fa1, pr1, wh1⟩ ⟨F2, op2, fa2, pr2, wh2⟩ u ∧ BoxK u (w.heap.size + 1 + 1 + 1 + 1 + 1) zrK) (by kernel_rfl) (show _ from ⟨HT2.out.drew, HX2.out.drew⟩) (fun hS => ?_)
  clear HT2 HX2
  generalize World.drew _ = v0 at hS ⊢
  refine takeAt 0 46 (.agg (knoC ⟨F2, op2, fa2, pr2, wh2⟩)) rfl rfl (by kernel_rfl) (by kernel_rfl) (by kernel_rfl) (fun _ _ _ h => h) (loadK_y (w.heap.size + 1 + 1 + 1) ⟨F2, op2, fa2, pr2, wh2⟩ (fun _ h => h.1.second) rfl rfl (by rfl)) hS ?_
  simp only [Act.put, List.setIfInBounds_toArray, List.set_cons_zero, List.set_cons_succ]
  refine callAt 1 47 rfl rfl (by kernel_rfl) (by rfl) (by kernel_rfl) (HE.out _) ?_
  rintro e v1 ⟨rfl, hb⟩
  have hS := And.intro (hS.1.call hb) (hS.2.below hb hS.2.lt)
  clear hb
  refine ⟨_, rfl, hS, ?_⟩
  simp only [Act.put, List.setIfInBounds_toArray, List.set_cons_zero, List.set_cons_succ]
  refine takeAt 2 48 (.bool true) rfl rfl (by kernel_rfl) (by kernel_rfl) (by kernel_rfl) (fun _ _ _ h => h) (eqK_y ⟨F2, op2, fa2, pr2, wh2⟩ true he2 rfl rfl rfl (by rfl)) hS ?_
  simp only [Act.put, List.setIfInBounds_toArray, List.set_cons_zero, List.set_cons_succ]
  refine wpAnyH_done (by kernel_rfl) ?_ _
  have HT4 := Lib.hid hS.1
  have HX4 := Lib.hid hS.2
  clear hS
  go_wp2_with (refine loadKn rfl _ rfl (w.heap.size + 1 + 1) ⟨F1, op1, fa1, pr1, wh1⟩ rfl HT4.out.first (StopS.out ?_))
  refine ⟨?_⟩
  go_wp2_with (refine storeKn rfl _ _ rfl (w.heap.size + 1 + 1 + 1 + 1 + 1) ⟨F1, op1, fa1, pr1, wh1⟩ _ rfl rfl (by rfl) HX4.out ?_; intro u3 hx3 hB3 ho3; refine StopS.out ?_)
  refine ⟨?_⟩
  have HT3 := Lib.hid (HT4.out.but (ButR.row9 hB3.out ho3.out))
  clear HT4 HX4 hB3 ho3
  go_wp2_with fail
  go_step3
  refine ⟨rfl, ?_⟩
  go_wp2_with (refine loadKn rfl _ rfl (w.heap.size + 1 + 1 + 1 + 1 + 1) (⟨F1, op1, fa1, pr1, wh1⟩) rfl hx3.out (StopS.out ?_))
  refine ⟨?_⟩
  have HCut := Lib.hid (fun w h => cut_any9 (⟨F1, op1, fa1, pr1, wh1⟩) w h)
  go_wp2_with fail
  refine (HCut.out _ hsz).mono ?_
  rintro e w9 ⟨rfl, hb⟩
  have HT9 := Lib.hid (HT3.out.call hb)
  clear hb
  go_wp2_with (refine storeKn rfl _ _ rfl (w.heap.size + 1 + 1 + 1 + 1) (cutK (⟨F1, op1, fa1, pr1, wh1⟩)) _ rfl rfl (by rfl) HT9.out.res ?_; intro u9 hx9 hB9 _; refine StopS.out ?_)
  refine ⟨?_⟩
  go_wp2
  simp only [Exit.jump]
  refine bodyPost_ret (resV (p := 8) rfl _ (g := w.heap.size + 1 + 1 + 1 + 1) rfl (by rfl) hx9.out) rfl ⟨rfl, ?_⟩
  exact HT9.out.below.trans (hB9.out _ (by omega))
theorem catK_cut (z : Bool) {F1 F2 : BitVec 256} {op1 op2 fa1 fa2 : Bool} {pr1 pr2 : ByteArray} {wh1 wh2 : Bool} (h : pr1.size ≤ 100) : catK z ⟨F1, op1, fa1, pr1, wh1⟩ ⟨F2, op2, fa2, pr2, wh2⟩ = cutK ⟨cond op1 (F1 ||| F2) F1, op1 && op2, fa1 || (fa2 && z), cond wh1 (pr1 ++ pr2) pr1, cond wh1 wh2 wh1⟩ := by
  unfold catK firK
  cases wh1
  · rw [if_neg (fun h => ft h), cut_id (show pr1.size ≤ 100 from h)]
    cases op1 <;> rfl
  · rw [if_pos rfl]
    cases op1 <;> rfl
set_option maxRecDepth 20000 in
set_option maxHeartbeats 8000000 in
theorem two_cat (A : Option Addr) (n cap : Nat) (x : Nd) (F1 F2 : BitVec 256) (op1 op2 fa1 fa2 : Bool) (pr1 pr2 : ByteArray) (wh1 wh2 : Bool) (w : World) (z : Bool) (hk : (x.k == 9) = false) (he1 : isEm ⟨F1, op1, fa1, pr1, wh1⟩ = false) (he2 : isEm ⟨F2, op2, fa2, pr2, wh2⟩ = false) (hsz : pr1.size ≤ 500000 ∧ pr2.size ≤ 500000) (hz : ∀ u, Below w.heap.size w u → Calls Tryz.prog 66 #[.agg (trC A n cap), .int .i64 x.a] u fun e w' => e = .returned (.bool z) ∧ Below u.heap.size u w') :
    Calls Tryz.prog 44 #[.agg (trC A n cap), .agg (ndC x), .agg (knoC ⟨F1, op1, fa1, pr1, wh1⟩), .agg (knoC ⟨F2, op2, fa2, pr2, wh2⟩)] w fun e w' => e = .returned (.agg (knoC (cutK ⟨cond op1 (F1 ||| F2) F1, op1 && op2, fa1 || (fa2 && z), cond wh1 (pr1 ++ pr2) pr1, cond wh1 wh2 wh1⟩))) ∧ Below w.heap.size w w' := by
  have HZ := Lib.hid hz
  have HO := Lib.hid (fun w => or_any F1 F2 w)
  have HC := Lib.hid (fun k w h => cut_any9 k w h)
  have HP := Lib.hid hsz
  clear hz hsz
  have HT0 := Lib.hid (Two.new w A n cap x ⟨F1, op1, fa1, pr1, wh1⟩ ⟨F2, op2, fa2, pr2, wh2⟩)
  rw [zrC] at HT0
  obtain ⟨xk, xa, xb, t0, t1, t2, t3, mn, mx, md, nn, ff⟩ := x
  simp only at hk
  have HE := Lib.hid (fun w => empty9_any w)
  go_enter Tryz.func44, Tryz.ntmps44
  go_wp2_with fail
  refine wp_scope_once 0 rfl ?_
  go_wp2_with fail
  have HT1 := Lib.hid HT0.out.1
  have HX1 := Lib.hid (BoxK.zr HT0.out.2)
  clear HT0
  refine wp_region_held_drew (S := fun u => Two w A n cap ⟨xk, xa, xb, t0, t1, t2, t3, mn, mx, md, nn, ff⟩ ⟨F1, op1, fa1, pr1, wh1⟩ ⟨F2, op2, fa2, pr2, wh2⟩ u ∧ BoxK u (w.heap.size + 1 + 1 + 1 + 1 + 1) zrK) (by kernel_rfl) (show _ from ⟨HT1.out.drew, HX1.out.drew⟩) (fun hS => ?_)
  clear HT1 HX1
  generalize World.drew _ = v0 at hS ⊢
  refine takeAt 0 42 (.agg (knoC ⟨F1, op1, fa1, pr1, wh1⟩)) rfl rfl (by kernel_rfl) (by kernel_rfl) (by kernel_rfl) (fun _ _ _ h => h) (loadK_y (w.heap.size + 1 + 1) ⟨F1, op1, fa1, pr1, wh1⟩ (fun _ h => h.1.first) rfl rfl (by rfl)) hS ?_
  simp only [Act.put, List.setIfInBounds_toArray, List.set_cons_zero, List.set_cons_succ]
  refine callAt 1 43 rfl rfl (by kernel_rfl) (by rfl) (by kernel_rfl) (HE.out _) ?_
  rintro e v1 ⟨rfl, hb⟩
  have hS := And.intro (hS.1.call hb) (hS.2.below hb hS.2.lt)
  clear hb
  refine ⟨_, rfl, hS, ?_⟩
  simp only [Act.put, List.setIfInBounds_toArray, List.set_cons_zero, List.set_cons_succ]
  refine takeAt 2 44 (.bool false) rfl rfl (by kernel_rfl) (by kernel_rfl) (by kernel_rfl) (fun _ _ _ h => h) (eqK_y ⟨F1, op1, fa1, pr1, wh1⟩ false he1 rfl rfl rfl (by rfl)) hS ?_
  simp only [Act.put, List.setIfInBounds_toArray, List.set_cons_zero, List.set_cons_succ]
  refine wpAnyH_done (by kernel_rfl) ?_ _
  have HT2 := Lib.hid hS.1
  have HX2 := Lib.hid hS.2
  clear hS
  go_wp2_with fail
  refine wp_region_held_drew (S := fun u => Two w A n cap ⟨xk, xa, xb, t0, t1, t2, t3, mn, mx, md, nn, ff⟩ ⟨F1, op1, fa1, pr1, wh1⟩ ⟨F2, op2, fa2, pr2, wh2⟩ u ∧ BoxK u (w.heap.size + 1 + 1 + 1 + 1 + 1) zrK) (by kernel_rfl) (show _ from ⟨HT2.out.drew, HX2.out.drew⟩) (fun hS => ?_)
  clear HT2 HX2
  generalize World.drew _ = v0 at hS ⊢
  refine takeAt 0 46 (.agg (knoC ⟨F2, op2, fa2, pr2, wh2⟩)) rfl rfl (by kernel_rfl) (by kernel_rfl) (by kernel_rfl) (fun _ _ _ h => h) (loadK_y (w.heap.size + 1 + 1 + 1) ⟨F2, op2, fa2, pr2, wh2⟩ (fun _ h => h.1.second) rfl rfl (by rfl)) hS ?_
  simp only [Act.put, List.setIfInBounds_toArray, List.set_cons_zero, List.set_cons_succ]
  refine callAt 1 47 rfl rfl (by kernel_rfl) (by rfl) (by kernel_rfl) (HE.out _) ?_
  rintro e v1 ⟨rfl, hb⟩
  have hS := And.intro (hS.1.call hb) (hS.2.below hb hS.2.lt)
  clear hb
  refine ⟨_, rfl, hS, ?_⟩
  simp only [Act.put, List.setIfInBounds_toArray, List.set_cons_zero, List.set_cons_succ]
  refine takeAt 2 48 (.bool false) rfl rfl (by kernel_rfl) (by kernel_rfl) (by kernel_rfl) (fun _ _ _ h => h) (eqK_y ⟨F2, op2, fa2, pr2, wh2⟩ false he2 rfl rfl rfl (by rfl)) hS ?_
  simp only [Act.put, List.setIfInBounds_toArray, List.set_cons_zero, List.set_cons_succ]
  refine wpAnyH_done (by kernel_rfl) ?_ _
  have HT4 := Lib.hid hS.1
  have HX4 := Lib.hid hS.2
  clear hS
  clear HE he1 he2
  go_wp2_with (refine loadKn rfl _ rfl (w.heap.size + 1 + 1) ⟨F1, op1, fa1, pr1, wh1⟩ rfl HT4.out.first (StopS.out ?_))
  refine ⟨?_⟩
  go_wp2_with (refine storeKn rfl _ _ rfl (w.heap.size + 1 + 1 + 1 + 1 + 1) ⟨F1, op1, fa1, pr1, wh1⟩ _ rfl rfl (by rfl) HX4.out ?_; intro u5 hx hB3 ho3; refine StopS.out ?_)
  refine ⟨?_⟩
  have HT5 := Lib.hid (HT4.out.but (ButR.row9 hB3.out ho3.out))
  have HX5 := Lib.hid hx.out
  clear HT4 HX4 hx hB3 ho3
  go_wp2_with (refine lineY (S := fun u => Two w A n cap ⟨xk, xa, xb, t0, t1, t2, t3, mn, mx, md, nn, ff⟩ ⟨F1, op1, fa1, pr1, wh1⟩ ⟨F2, op2, fa2, pr2, wh2⟩ u) (.pointer (some ⟨w.heap.size + 1 + 1, 0, none⟩)) (yields (by rfl) (fun w => by kernel_rfl)) HT5.out ?_; refine StopS.out ?_)
  refine ⟨?_⟩
  try simp only [Act.put, List.setIfInBounds_toArray, List.set_cons_zero, List.set_cons_succ]
  refine lineY (S := fun u => Two w A n cap ⟨xk, xa, xb, t0, t1, t2, t3, mn, mx, md, nn, ff⟩ ⟨F1, op1, fa1, pr1, wh1⟩ ⟨F2, op2, fa2, pr2, wh2⟩ u) (.pointer (some ⟨w.heap.size + 1 + 1, 4, none⟩)) (yields (by rfl) (fun w => by kernel_rfl)) HT5.out ?_
  simp only [Act.put, List.setIfInBounds_toArray, List.set_cons_zero, List.set_cons_succ]
  refine lineY (S := fun u => Two w A n cap ⟨xk, xa, xb, t0, t1, t2, t3, mn, mx, md, nn, ff⟩ ⟨F1, op1, fa1, pr1, wh1⟩ ⟨F2, op2, fa2, pr2, wh2⟩ u) (.bool op1) (loadB9_y (w.heap.size + 1 + 1) 4 op1 (fun _ h => h.first.get 4 rfl) rfl rfl (by rfl)) HT5.out ?_
  simp only [Act.put, List.setIfInBounds_toArray, List.set_cons_zero, List.set_cons_succ]
  refine lineY (S := fun u => Two w A n cap ⟨xk, xa, xb, t0, t1, t2, t3, mn, mx, md, nn, ff⟩ ⟨F1, op1, fa1, pr1, wh1⟩ ⟨F2, op2, fa2, pr2, wh2⟩ u) (.bool op1) (yields (by rfl) (fun w => by kernel_rfl)) HT5.out ?_
  simp only [Act.put, List.setIfInBounds_toArray, List.set_cons_zero, List.set_cons_succ]
  refine lineY (S := fun u => Two w A n cap ⟨xk, xa, xb, t0, t1, t2, t3, mn, mx, md, nn, ff⟩ ⟨F1, op1, fa1, pr1, wh1⟩ ⟨F2, op2, fa2, pr2, wh2⟩ u) ((cond op1 (.pointer (some ⟨w.heap.size + 1 + 1 + 1, 0, none⟩)) undef)) (by cases op1 <;> first | exact yields (by rfl) (fun w => by kernel_rfl) | exact skipped (by rfl)) HT5.out ?_
  simp only [Act.put, List.setIfInBounds_toArray, List.set_cons_zero, List.set_cons_succ]
  refine lineY (S := fun u => Two w A n cap ⟨xk, xa, xb, t0, t1, t2, t3, mn, mx, md, nn, ff⟩ ⟨F1, op1, fa1, pr1, wh1⟩ ⟨F2, op2, fa2, pr2, wh2⟩ u) ((cond op1 (.pointer (some ⟨w.heap.size + 1 + 1 + 1, 4, none⟩)) undef)) (by cases op1 <;> first | exact yields (by rfl) (fun w => by kernel_rfl) | exact skipped (by rfl)) HT5.out ?_
  simp only [Act.put, List.setIfInBounds_toArray, List.set_cons_zero, List.set_cons_succ]
  refine lineY (S := fun u => Two w A n cap ⟨xk, xa, xb, t0, t1, t2, t3, mn, mx, md, nn, ff⟩ ⟨F1, op1, fa1, pr1, wh1⟩ ⟨F2, op2, fa2, pr2, wh2⟩ u) ((cond op1 (.bool op2) undef)) (by cases op1 <;> first | exact loadB9_y (w.heap.size + 1 + 1 + 1) 4 op2 (fun _ h => h.second.get 4 rfl) rfl rfl (by rfl) | exact skipped (by rfl)) HT5.out ?_
  simp only [Act.put, List.setIfInBounds_toArray, List.set_cons_zero, List.set_cons_succ]
  refine lineY (S := fun u => Two w A n cap ⟨xk, xa, xb, t0, t1, t2, t3, mn, mx, md, nn, ff⟩ ⟨F1, op1, fa1, pr1, wh1⟩ ⟨F2, op2, fa2, pr2, wh2⟩ u) (.bool (op1 && op2)) (by cases op1 <;> first | exact yields (by rfl) (fun w => by kernel_rfl) | exact skipped (by rfl)) HT5.out ?_
  simp only [Act.put, List.setIfInBounds_toArray, List.set_cons_zero, List.set_cons_succ]
  refine lineY (S := fun u => Two w A n cap ⟨xk, xa, xb, t0, t1, t2, t3, mn, mx, md, nn, ff⟩ ⟨F1, op1, fa1, pr1, wh1⟩ ⟨F2, op2, fa2, pr2, wh2⟩ u) (.pointer (some ⟨w.heap.size + 1 + 1 + 1 + 1 + 1, 0, none⟩)) (yields (by rfl) (fun w => by kernel_rfl)) HT5.out ?_
  simp only [Act.put, List.setIfInBounds_toArray, List.set_cons_zero, List.set_cons_succ]
  refine lineY (S := fun u => Two w A n cap ⟨xk, xa, xb, t0, t1, t2, t3, mn, mx, md, nn, ff⟩ ⟨F1, op1, fa1, pr1, wh1⟩ ⟨F2, op2, fa2, pr2, wh2⟩ u) (.pointer (some ⟨w.heap.size + 1 + 1 + 1 + 1 + 1, 4, none⟩)) (yields (by rfl) (fun w => by kernel_rfl)) HT5.out ?_
  simp only [Act.put, List.setIfInBounds_toArray, List.set_cons_zero, List.set_cons_succ]
  refine storeB9 rfl _ _ rfl (w.heap.size + 1 + 1 + 1 + 1 + 1) 4 _ (knoC ⟨F1, op1 && op2, fa1, pr1, wh1⟩) _ (op1 && op2) rfl rfl HX5.out rfl rfl ?_
  intro u6 hx hN
  have HT6 := Lib.hid (HT5.out.but hN.out)
  have HX6 := Lib.hid hx.out
  clear HT5 HX5 hx hN
  go_wp2_with (refine lineY (S := fun u => Two w A n cap ⟨xk, xa, xb, t0, t1, t2, t3, mn, mx, md, nn, ff⟩ ⟨F1, op1, fa1, pr1, wh1⟩ ⟨F2, op2, fa2, pr2, wh2⟩ u) (.pointer (some ⟨w.heap.size + 1 + 1, 0, none⟩)) (yields (by rfl) (fun w => by kernel_rfl)) HT6.out ?_; refine StopS.out ?_)
  refine ⟨?_⟩
  try simp only [Act.put, List.setIfInBounds_toArray, List.set_cons_zero, List.set_cons_succ]
  refine lineY (S := fun u => Two w A n cap ⟨xk, xa, xb, t0, t1, t2, t3, mn, mx, md, nn, ff⟩ ⟨F1, op1, fa1, pr1, wh1⟩ ⟨F2, op2, fa2, pr2, wh2⟩ u) (.pointer (some ⟨w.heap.size + 1 + 1, 5, none⟩)) (yields (by rfl) (fun w => by kernel_rfl)) HT6.out ?_
  simp only [Act.put, List.setIfInBounds_toArray, List.set_cons_zero, List.set_cons_succ]
  refine lineY (S := fun u => Two w A n cap ⟨xk, xa, xb, t0, t1, t2, t3, mn, mx, md, nn, ff⟩ ⟨F1, op1, fa1, pr1, wh1⟩ ⟨F2, op2, fa2, pr2, wh2⟩ u) (.bool fa1) (loadB9_y (w.heap.size + 1 + 1) 5 fa1 (fun _ h => h.first.get 5 rfl) rfl rfl (by rfl)) HT6.out ?_
  simp only [Act.put, List.setIfInBounds_toArray, List.set_cons_zero, List.set_cons_succ]
  refine lineY (S := fun u => Two w A n cap ⟨xk, xa, xb, t0, t1, t2, t3, mn, mx, md, nn, ff⟩ ⟨F1, op1, fa1, pr1, wh1⟩ ⟨F2, op2, fa2, pr2, wh2⟩ u) (.bool fa1) (yields (by rfl) (fun w => by kernel_rfl)) HT6.out ?_
  simp only [Act.put, List.setIfInBounds_toArray, List.set_cons_zero, List.set_cons_succ]
  refine lineY (S := fun u => Two w A n cap ⟨xk, xa, xb, t0, t1, t2, t3, mn, mx, md, nn, ff⟩ ⟨F1, op1, fa1, pr1, wh1⟩ ⟨F2, op2, fa2, pr2, wh2⟩ u) ((cond fa1 undef (.pointer (some ⟨w.heap.size + 1 + 1 + 1, 0, none⟩)))) (by cases fa1 <;> first | exact yields (by rfl) (fun w => by kernel_rfl) | exact skipped (by rfl)) HT6.out ?_
  simp only [Act.put, List.setIfInBounds_toArray, List.set_cons_zero, List.set_cons_succ]
  refine lineY (S := fun u => Two w A n cap ⟨xk, xa, xb, t0, t1, t2, t3, mn, mx, md, nn, ff⟩ ⟨F1, op1, fa1, pr1, wh1⟩ ⟨F2, op2, fa2, pr2, wh2⟩ u) ((cond fa1 undef (.pointer (some ⟨w.heap.size + 1 + 1 + 1, 5, none⟩)))) (by cases fa1 <;> first | exact yields (by rfl) (fun w => by kernel_rfl) | exact skipped (by rfl)) HT6.out ?_
  simp only [Act.put, List.setIfInBounds_toArray, List.set_cons_zero, List.set_cons_succ]
  refine lineY (S := fun u => Two w A n cap ⟨xk, xa, xb, t0, t1, t2, t3, mn, mx, md, nn, ff⟩ ⟨F1, op1, fa1, pr1, wh1⟩ ⟨F2, op2, fa2, pr2, wh2⟩ u) ((cond fa1 undef (.bool fa2))) (by cases fa1 <;> first | exact loadB9_y (w.heap.size + 1 + 1 + 1) 5 fa2 (fun _ h => h.second.get 5 rfl) rfl rfl (by rfl) | exact skipped (by rfl)) HT6.out ?_
  simp only [Act.put, List.setIfInBounds_toArray, List.set_cons_zero, List.set_cons_succ]
  refine lineY (S := fun u => Two w A n cap ⟨xk, xa, xb, t0, t1, t2, t3, mn, mx, md, nn, ff⟩ ⟨F1, op1, fa1, pr1, wh1⟩ ⟨F2, op2, fa2, pr2, wh2⟩ u) ((cond fa1 undef (.bool fa2))) (by cases fa1 <;> first | exact yields (by rfl) (fun w => by kernel_rfl) | exact skipped (by rfl)) HT6.out ?_
  simp only [Act.put, List.setIfInBounds_toArray, List.set_cons_zero, List.set_cons_succ]
  refine lineY (S := fun u => Two w A n cap ⟨xk, xa, xb, t0, t1, t2, t3, mn, mx, md, nn, ff⟩ ⟨F1, op1, fa1, pr1, wh1⟩ ⟨F2, op2, fa2, pr2, wh2⟩ u) ((cond fa1 undef ((cond fa2 (.agg (trC A n cap)) undef)))) (by cases fa1 <;> cases fa2 <;> first | exact loadT9_y (w.heap.size) A n cap (fun _ h => h.tree) rfl rfl (by rfl) | exact skipped (by rfl)) HT6.out ?_
  simp only [Act.put, List.setIfInBounds_toArray, List.set_cons_zero, List.set_cons_succ]
  refine lineY (S := fun u => Two w A n cap ⟨xk, xa, xb, t0, t1, t2, t3, mn, mx, md, nn, ff⟩ ⟨F1, op1, fa1, pr1, wh1⟩ ⟨F2, op2, fa2, pr2, wh2⟩ u) ((cond fa1 undef ((cond fa2 (.pointer (some ⟨w.heap.size + 1, 1, none⟩)) undef)))) (by cases fa1 <;> cases fa2 <;> first | exact yields (by rfl) (fun w => by kernel_rfl) | exact skipped (by rfl)) HT6.out ?_
  simp only [Act.put, List.setIfInBounds_toArray, List.set_cons_zero, List.set_cons_succ]
  refine lineY (S := fun u => Two w A n cap ⟨xk, xa, xb, t0, t1, t2, t3, mn, mx, md, nn, ff⟩ ⟨F1, op1, fa1, pr1, wh1⟩ ⟨F2, op2, fa2, pr2, wh2⟩ u) ((cond fa1 undef ((cond fa2 (.int .i64 xa) undef)))) (by cases fa1 <;> cases fa2 <;> first | exact loadI9_y (w.heap.size + 1) 1 xa (fun _ h => h.node.get 1 rfl) rfl rfl (by rfl) | exact skipped (by rfl)) HT6.out ?_
  simp only [Act.put, List.setIfInBounds_toArray, List.set_cons_zero, List.set_cons_succ]
  refine lineCall (!fa1 && fa2) (.bool z) (by cases fa1 <;> cases fa2 <;> rfl) (by cases fa1 <;> cases fa2 <;> intro hc <;> first | exact ft hc | kernel_rfl) (HZ.out _ HT6.out.below) ?_
  intro u7 hb
  have HT7 := Lib.hid (HT6.out.call hb)
  have HX7 := Lib.hid (HX6.out.below hb HX6.out.lt)
  clear HT6 HX6 hb
  simp only [Act.put, List.setIfInBounds_toArray, List.set_cons_zero, List.set_cons_succ]
  refine lineY (S := fun u => Two w A n cap ⟨xk, xa, xb, t0, t1, t2, t3, mn, mx, md, nn, ff⟩ ⟨F1, op1, fa1, pr1, wh1⟩ ⟨F2, op2, fa2, pr2, wh2⟩ u) ((cond fa1 undef (.bool (fa2 && z)))) (by cases fa1 <;> cases fa2 <;> first | exact yields (by rfl) (fun w => by kernel_rfl) | exact skipped (by rfl)) HT7.out ?_
  simp only [Act.put, List.setIfInBounds_toArray, List.set_cons_zero, List.set_cons_succ]
  refine lineY (S := fun u => Two w A n cap ⟨xk, xa, xb, t0, t1, t2, t3, mn, mx, md, nn, ff⟩ ⟨F1, op1, fa1, pr1, wh1⟩ ⟨F2, op2, fa2, pr2, wh2⟩ u) (.bool (fa1 || (fa2 && z))) (by cases fa1 <;> first | exact yields (by rfl) (fun w => by kernel_rfl) | exact skipped (by rfl)) HT7.out ?_
  simp only [Act.put, List.setIfInBounds_toArray, List.set_cons_zero, List.set_cons_succ]
  refine lineY (S := fun u => Two w A n cap ⟨xk, xa, xb, t0, t1, t2, t3, mn, mx, md, nn, ff⟩ ⟨F1, op1, fa1, pr1, wh1⟩ ⟨F2, op2, fa2, pr2, wh2⟩ u) (.pointer (some ⟨w.heap.size + 1 + 1 + 1 + 1 + 1, 0, none⟩)) (yields (by rfl) (fun w => by kernel_rfl)) HT7.out ?_
  simp only [Act.put, List.setIfInBounds_toArray, List.set_cons_zero, List.set_cons_succ]
  refine lineY (S := fun u => Two w A n cap ⟨xk, xa, xb, t0, t1, t2, t3, mn, mx, md, nn, ff⟩ ⟨F1, op1, fa1, pr1, wh1⟩ ⟨F2, op2, fa2, pr2, wh2⟩ u) (.pointer (some ⟨w.heap.size + 1 + 1 + 1 + 1 + 1, 5, none⟩)) (yields (by rfl) (fun w => by kernel_rfl)) HT7.out ?_
  simp only [Act.put, List.setIfInBounds_toArray, List.set_cons_zero, List.set_cons_succ]
  refine storeB9 rfl _ _ rfl (w.heap.size + 1 + 1 + 1 + 1 + 1) 5 _ (knoC ⟨F1, op1 && op2, fa1 || (fa2 && z), pr1, wh1⟩) _ (fa1 || (fa2 && z)) rfl rfl HX7.out rfl rfl ?_
  intro u8 hx hN
  have HT8 := Lib.hid (HT7.out.but hN.out)
  have HX8 := Lib.hid hx.out
  clear HT7 HX7 hx hN
  clear HZ
  cases op1
  · have a4 := BoxK.c4 HT8.out.first
    dsimp only at a4
    cases wh1
    · have a7 := BoxK.c7 HT8.out.first
      dsimp only at a7
      go_wp2_with fail
      go_step3
      go_wp2_with (refine loadKn rfl _ rfl (w.heap.size + 1 + 1 + 1 + 1 + 1) (⟨F1, false && op2, fa1 || (fa2 && z), pr1, false⟩) rfl HX8.out (StopS.out ?_))
      refine ⟨?_⟩
      have HCut := Lib.hid (fun w h => cut_any9 (⟨F1, false && op2, fa1 || (fa2 && z), pr1, false⟩) w h)
      go_wp2_with fail
      refine (HCut.out _ (Nat.le_trans HP.out.1 (by omega))).mono ?_
      rintro e w9 ⟨rfl, hb⟩
      have HT9 := Lib.hid (HT8.out.call hb)
      clear hb
      go_wp2_with (refine storeKn rfl _ _ rfl (w.heap.size + 1 + 1 + 1 + 1) (cutK (⟨F1, false && op2, fa1 || (fa2 && z), pr1, false⟩)) _ rfl rfl (by rfl) HT9.out.res ?_; intro u9 hx9 hB9 _; refine StopS.out ?_)
      refine ⟨?_⟩
      go_wp2
      simp only [Exit.jump]
      refine bodyPost_ret (resV (p := 8) rfl _ (g := w.heap.size + 1 + 1 + 1 + 1) rfl (by rfl) hx9.out) rfl ⟨rfl, ?_⟩
      exact HT9.out.below.trans (hB9.out _ (by omega))
    · have a7 := BoxK.c7 HT8.out.first
      dsimp only at a7
      go_wp2_with fail
      refine wp_region_held_drew (S := fun u => Two w A n cap ⟨xk, xa, xb, t0, t1, t2, t3, mn, mx, md, nn, ff⟩ ⟨F1, false, fa1, pr1, true⟩ ⟨F2, op2, fa2, pr2, wh2⟩ u) (by kernel_rfl) (show _ from HT8.out.drew) (fun hS => ?_)
      have hx3 : BoxK _ (w.heap.size + 1 + 1 + 1 + 1 + 1) ⟨F1, false && op2, fa1 || (fa2 && z), pr1, true⟩ := HX8.out.drew
      clear HT8 HX8 a7
      generalize World.drew _ = u0 at hS hx3 ⊢
      refine takeAt 0 91 (.pointer (some ⟨w.heap.size + 1 + 1, 0, none⟩)) rfl rfl (by kernel_rfl) (by kernel_rfl) (by kernel_rfl) (fun _ _ _ h => h) (yields (by rfl) (fun w => by kernel_rfl)) hS ?_
      simp only [Act.put, List.setIfInBounds_toArray, List.set_cons_zero, List.set_cons_succ]
      refine takeAt 1 92 (.pointer (some ⟨w.heap.size + 1 + 1, 6, none⟩)) rfl rfl (by kernel_rfl) (by kernel_rfl) (by kernel_rfl) (fun _ _ _ h => h) (yields (by rfl) (fun w => by kernel_rfl)) hS ?_
      simp only [Act.put, List.setIfInBounds_toArray, List.set_cons_zero, List.set_cons_succ]
      refine takeAt 2 93 (.string pr1) rfl rfl (by kernel_rfl) (by kernel_rfl) (by kernel_rfl) (fun _ _ _ h => h) (loadP9_y (w.heap.size + 1 + 1) 6 pr1 (fun _ h => h.first.get 6 rfl) rfl rfl (by rfl)) hS ?_
      simp only [Act.put, List.setIfInBounds_toArray, List.set_cons_zero, List.set_cons_succ]
      refine takeAt 3 94 (.pointer (some ⟨w.heap.size + 1 + 1 + 1, 0, none⟩)) rfl rfl (by kernel_rfl) (by kernel_rfl) (by kernel_rfl) (fun _ _ _ h => h) (yields (by rfl) (fun w => by kernel_rfl)) hS ?_
      simp only [Act.put, List.setIfInBounds_toArray, List.set_cons_zero, List.set_cons_succ]
      refine takeAt 4 95 (.pointer (some ⟨w.heap.size + 1 + 1 + 1, 6, none⟩)) rfl rfl (by kernel_rfl) (by kernel_rfl) (by kernel_rfl) (fun _ _ _ h => h) (yields (by rfl) (fun w => by kernel_rfl)) hS ?_
      simp only [Act.put, List.setIfInBounds_toArray, List.set_cons_zero, List.set_cons_succ]
      refine takeAt 5 96 (.string pr2) rfl rfl (by kernel_rfl) (by kernel_rfl) (by kernel_rfl) (fun _ _ _ h => h) (loadP9_y (w.heap.size + 1 + 1 + 1) 6 pr2 (fun _ h => h.second.get 6 rfl) rfl rfl (by rfl)) hS ?_
      simp only [Act.put, List.setIfInBounds_toArray, List.set_cons_zero, List.set_cons_succ]
      refine takeAt 6 97 (.string (pr1 ++ pr2)) rfl rfl (by kernel_rfl) (by kernel_rfl) (by kernel_rfl) (fun _ _ _ h => h) (addP9_y pr1 pr2 (by have := HP.out; omega) rfl rfl rfl (by rfl)) hS ?_
      simp only [Act.put, List.setIfInBounds_toArray, List.set_cons_zero, List.set_cons_succ]
      refine takeAt 7 98 (.pointer (some ⟨w.heap.size + 1 + 1 + 1, 7, none⟩)) rfl rfl (by kernel_rfl) (by kernel_rfl) (by kernel_rfl) (fun _ _ _ h => h) (yields (by rfl) (fun w => by kernel_rfl)) hS ?_
      simp only [Act.put, List.setIfInBounds_toArray, List.set_cons_zero, List.set_cons_succ]
      refine takeAt 8 99 (.bool wh2) rfl rfl (by kernel_rfl) (by kernel_rfl) (by kernel_rfl) (fun _ _ _ h => h) (loadB9_y (w.heap.size + 1 + 1 + 1) 7 wh2 (fun _ h => h.second.get 7 rfl) rfl rfl (by rfl)) hS ?_
      simp only [Act.put, List.setIfInBounds_toArray, List.set_cons_zero, List.set_cons_succ]
      refine takeAt 9 100 (.pointer (some ⟨w.heap.size + 1 + 1 + 1 + 1 + 1, 0, none⟩)) rfl rfl (by kernel_rfl) (by kernel_rfl) (by kernel_rfl) (fun _ _ _ h => h) (yields (by rfl) (fun w => by kernel_rfl)) hS ?_
      simp only [Act.put, List.setIfInBounds_toArray, List.set_cons_zero, List.set_cons_succ]
      refine takeAt 10 101 (.pointer (some ⟨w.heap.size + 1 + 1 + 1 + 1 + 1, 6, none⟩)) rfl rfl (by kernel_rfl) (by kernel_rfl) (by kernel_rfl) (fun _ _ _ h => h) (yields (by rfl) (fun w => by kernel_rfl)) hS ?_
      simp only [Act.put, List.setIfInBounds_toArray, List.set_cons_zero, List.set_cons_succ]
      have hx4 : BoxK (u0.setCell ⟨w.heap.size + 1 + 1 + 1 + 1 + 1, 6, none⟩ (.string (pr1 ++ pr2))) (w.heap.size + 1 + 1 + 1 + 1 + 1) ⟨F1, false && op2, fa1 || (fa2 && z), pr1 ++ pr2, true⟩ := BoxV.put hx3 6 (.string (pr1 ++ pr2))
      refine skipAt 11 (u0.setCell ⟨w.heap.size + 1 + 1 + 1 + 1 + 1, 6, none⟩ (.string (pr1 ++ pr2))) rfl rfl (by kernel_rfl) (by rfl) (putP_run hx3 rfl rfl rfl rfl) (hS.but ((ButR.refl _ u0.heap.size u0).setCell 6 (.string (pr1 ++ pr2)))) ?_
      have hS := hS.but ((ButR.refl _ u0.heap.size u0).setCell 6 (.string (pr1 ++ pr2)))
      generalize u0.setCell ⟨w.heap.size + 1 + 1 + 1 + 1 + 1, 6, none⟩ (.string (pr1 ++ pr2)) = u1 at hS hx4 ⊢
      refine takeAt 12 102 (.pointer (some ⟨w.heap.size + 1 + 1 + 1 + 1 + 1, 7, none⟩)) rfl rfl (by kernel_rfl) (by kernel_rfl) (by kernel_rfl) (fun _ _ _ h => h) (yields (by rfl) (fun w => by kernel_rfl)) hS ?_
      simp only [Act.put, List.setIfInBounds_toArray, List.set_cons_zero, List.set_cons_succ]
      have hx5 : BoxK (u1.setCell ⟨w.heap.size + 1 + 1 + 1 + 1 + 1, 7, none⟩ (.bool (wh2))) (w.heap.size + 1 + 1 + 1 + 1 + 1) ⟨F1, false && op2, fa1 || (fa2 && z), pr1 ++ pr2, wh2⟩ := BoxV.put hx4 7 (.bool (wh2))
      refine skipAt 13 (u1.setCell ⟨w.heap.size + 1 + 1 + 1 + 1 + 1, 7, none⟩ (.bool (wh2))) rfl rfl (by kernel_rfl) (by rfl) (putB_run hx4 rfl rfl rfl rfl) (hS.but ((ButR.refl _ u1.heap.size u1).setCell 7 (.bool (wh2)))) ?_
      have hS := hS.but ((ButR.refl _ u1.heap.size u1).setCell 7 (.bool (wh2)))
      generalize u1.setCell ⟨w.heap.size + 1 + 1 + 1 + 1 + 1, 7, none⟩ (.bool (wh2)) = u2 at hS hx5 ⊢
      refine wpAnyH_done (by kernel_rfl) ?_ _
      have HT12 := Lib.hid hS
      have HX12 := Lib.hid hx5
      clear hS hx3 hx4 hx5
      go_wp2_with fail
      go_step3
      go_wp2_with (refine loadKn rfl _ rfl (w.heap.size + 1 + 1 + 1 + 1 + 1) (⟨F1, false && op2, fa1 || (fa2 && z), pr1 ++ pr2, wh2⟩) rfl HX12.out (StopS.out ?_))
      refine ⟨?_⟩
      have HCut := Lib.hid (fun w h => cut_any9 (⟨F1, false && op2, fa1 || (fa2 && z), pr1 ++ pr2, wh2⟩) w h)
      go_wp2_with fail
      refine (HCut.out _ (show (pr1 ++ pr2).size ≤ 1000000 by rw [size_app]; have := HP.out; omega)).mono ?_
      rintro e w9 ⟨rfl, hb⟩
      have HT9 := Lib.hid (HT12.out.call hb)
      clear hb
      go_wp2_with (refine storeKn rfl _ _ rfl (w.heap.size + 1 + 1 + 1 + 1) (cutK (⟨F1, false && op2, fa1 || (fa2 && z), pr1 ++ pr2, wh2⟩)) _ rfl rfl (by rfl) HT9.out.res ?_; intro u9 hx9 hB9 _; refine StopS.out ?_)
      refine ⟨?_⟩
      go_wp2
      simp only [Exit.jump]
      refine bodyPost_ret (resV (p := 8) rfl _ (g := w.heap.size + 1 + 1 + 1 + 1) rfl (by rfl) hx9.out) rfl ⟨rfl, ?_⟩
      exact HT9.out.below.trans (hB9.out _ (by omega))
  · have a4 := BoxK.c4 HT8.out.first
    dsimp only at a4
    have e0 := BoxK.c0 HT8.out.first
    have e1 := BoxK.c1 HT8.out.first
    have e2 := BoxK.c2 HT8.out.first
    have e3 := BoxK.c3 HT8.out.first
    have g0 := BoxK.c0 HT8.out.second
    have g1 := BoxK.c1 HT8.out.second
    have g2 := BoxK.c2 HT8.out.second
    have g3 := BoxK.c3 HT8.out.second
    dsimp only at e0 e1 e2 e3 g0 g1 g2 g3
    go_wp2_with fail
    refine (HO.out _).mono ?_
    rintro e u9 ⟨rfl, hb⟩
    have HT9 := Lib.hid (HT8.out.call hb)
    have HX9 := Lib.hid (HX8.out.below hb HX8.out.lt)
    clear HT8 HX8 hb e0 e1 e2 e3 g0 g1 g2 g3 a4 HO
    go_wp2_with (refine storeS9 rfl _ _ rfl (w.heap.size + 1 + 1 + 1 + 1 + 1) _ (knoC ⟨F1 ||| F2, true && op2, fa1 || (fa2 && z), pr1, wh1⟩) (F1 ||| F2) F1 rfl rfl HX9.out rfl rfl rfl rfl rfl ?_; intro u10 hx hN; refine StopS.out ?_)
    refine ⟨?_⟩
    have HT10 := Lib.hid (HT9.out.but hN.out)
    have HX10 := Lib.hid hx.out
    clear HT9 HX9 hx hN
    cases wh1
    · have a7 := BoxK.c7 HT10.out.first
      dsimp only at a7
      go_wp2_with fail
      go_step3
      go_wp2_with (refine loadKn rfl _ rfl (w.heap.size + 1 + 1 + 1 + 1 + 1) (⟨F1 ||| F2, true && op2, fa1 || (fa2 && z), pr1, false⟩) rfl HX10.out (StopS.out ?_))
      refine ⟨?_⟩
      have HCut := Lib.hid (fun w h => cut_any9 (⟨F1 ||| F2, true && op2, fa1 || (fa2 && z), pr1, false⟩) w h)
      go_wp2_with fail
      refine (HCut.out _ (Nat.le_trans HP.out.1 (by omega))).mono ?_
      rintro e w9 ⟨rfl, hb⟩
      have HT9 := Lib.hid (HT10.out.call hb)
      clear hb
      go_wp2_with (refine storeKn rfl _ _ rfl (w.heap.size + 1 + 1 + 1 + 1) (cutK (⟨F1 ||| F2, true && op2, fa1 || (fa2 && z), pr1, false⟩)) _ rfl rfl (by rfl) HT9.out.res ?_; intro u9 hx9 hB9 _; refine StopS.out ?_)
      refine ⟨?_⟩
      go_wp2
      simp only [Exit.jump]
      refine bodyPost_ret (resV (p := 8) rfl _ (g := w.heap.size + 1 + 1 + 1 + 1) rfl (by rfl) hx9.out) rfl ⟨rfl, ?_⟩
      exact HT9.out.below.trans (hB9.out _ (by omega))
    · have a7 := BoxK.c7 HT10.out.first
      dsimp only at a7
      go_wp2_with fail
      refine wp_region_held_drew (S := fun u => Two w A n cap ⟨xk, xa, xb, t0, t1, t2, t3, mn, mx, md, nn, ff⟩ ⟨F1, true, fa1, pr1, true⟩ ⟨F2, op2, fa2, pr2, wh2⟩ u) (by kernel_rfl) (show _ from HT10.out.drew) (fun hS => ?_)
      have hx3 : BoxK _ (w.heap.size + 1 + 1 + 1 + 1 + 1) ⟨F1 ||| F2, true && op2, fa1 || (fa2 && z), pr1, true⟩ := HX10.out.drew
      clear HT10 HX10 a7
      generalize World.drew _ = u0 at hS hx3 ⊢
      refine takeAt 0 91 (.pointer (some ⟨w.heap.size + 1 + 1, 0, none⟩)) rfl rfl (by kernel_rfl) (by kernel_rfl) (by kernel_rfl) (fun _ _ _ h => h) (yields (by rfl) (fun w => by kernel_rfl)) hS ?_
      simp only [Act.put, List.setIfInBounds_toArray, List.set_cons_zero, List.set_cons_succ]
      refine takeAt 1 92 (.pointer (some ⟨w.heap.size + 1 + 1, 6, none⟩)) rfl rfl (by kernel_rfl) (by kernel_rfl) (by kernel_rfl) (fun _ _ _ h => h) (yields (by rfl) (fun w => by kernel_rfl)) hS ?_
      simp only [Act.put, List.setIfInBounds_toArray, List.set_cons_zero, List.set_cons_succ]
      refine takeAt 2 93 (.string pr1) rfl rfl (by kernel_rfl) (by kernel_rfl) (by kernel_rfl) (fun _ _ _ h => h) (loadP9_y (w.heap.size + 1 + 1) 6 pr1 (fun _ h => h.first.get 6 rfl) rfl rfl (by rfl)) hS ?_
      simp only [Act.put, List.setIfInBounds_toArray, List.set_cons_zero, List.set_cons_succ]
      refine takeAt 3 94 (.pointer (some ⟨w.heap.size + 1 + 1 + 1, 0, none⟩)) rfl rfl (by kernel_rfl) (by kernel_rfl) (by kernel_rfl) (fun _ _ _ h => h) (yields (by rfl) (fun w => by kernel_rfl)) hS ?_
      simp only [Act.put, List.setIfInBounds_toArray, List.set_cons_zero, List.set_cons_succ]
      refine takeAt 4 95 (.pointer (some ⟨w.heap.size + 1 + 1 + 1, 6, none⟩)) rfl rfl (by kernel_rfl) (by kernel_rfl) (by kernel_rfl) (fun _ _ _ h => h) (yields (by rfl) (fun w => by kernel_rfl)) hS ?_
      simp only [Act.put, List.setIfInBounds_toArray, List.set_cons_zero, List.set_cons_succ]
      refine takeAt 5 96 (.string pr2) rfl rfl (by kernel_rfl) (by kernel_rfl) (by kernel_rfl) (fun _ _ _ h => h) (loadP9_y (w.heap.size + 1 + 1 + 1) 6 pr2 (fun _ h => h.second.get 6 rfl) rfl rfl (by rfl)) hS ?_
      simp only [Act.put, List.setIfInBounds_toArray, List.set_cons_zero, List.set_cons_succ]
      refine takeAt 6 97 (.string (pr1 ++ pr2)) rfl rfl (by kernel_rfl) (by kernel_rfl) (by kernel_rfl) (fun _ _ _ h => h) (addP9_y pr1 pr2 (by have := HP.out; omega) rfl rfl rfl (by rfl)) hS ?_
      simp only [Act.put, List.setIfInBounds_toArray, List.set_cons_zero, List.set_cons_succ]
      refine takeAt 7 98 (.pointer (some ⟨w.heap.size + 1 + 1 + 1, 7, none⟩)) rfl rfl (by kernel_rfl) (by kernel_rfl) (by kernel_rfl) (fun _ _ _ h => h) (yields (by rfl) (fun w => by kernel_rfl)) hS ?_
      simp only [Act.put, List.setIfInBounds_toArray, List.set_cons_zero, List.set_cons_succ]
      refine takeAt 8 99 (.bool wh2) rfl rfl (by kernel_rfl) (by kernel_rfl) (by kernel_rfl) (fun _ _ _ h => h) (loadB9_y (w.heap.size + 1 + 1 + 1) 7 wh2 (fun _ h => h.second.get 7 rfl) rfl rfl (by rfl)) hS ?_
      simp only [Act.put, List.setIfInBounds_toArray, List.set_cons_zero, List.set_cons_succ]
      refine takeAt 9 100 (.pointer (some ⟨w.heap.size + 1 + 1 + 1 + 1 + 1, 0, none⟩)) rfl rfl (by kernel_rfl) (by kernel_rfl) (by kernel_rfl) (fun _ _ _ h => h) (yields (by rfl) (fun w => by kernel_rfl)) hS ?_
      simp only [Act.put, List.setIfInBounds_toArray, List.set_cons_zero, List.set_cons_succ]
      refine takeAt 10 101 (.pointer (some ⟨w.heap.size + 1 + 1 + 1 + 1 + 1, 6, none⟩)) rfl rfl (by kernel_rfl) (by kernel_rfl) (by kernel_rfl) (fun _ _ _ h => h) (yields (by rfl) (fun w => by kernel_rfl)) hS ?_
      simp only [Act.put, List.setIfInBounds_toArray, List.set_cons_zero, List.set_cons_succ]
      have hx4 : BoxK (u0.setCell ⟨w.heap.size + 1 + 1 + 1 + 1 + 1, 6, none⟩ (.string (pr1 ++ pr2))) (w.heap.size + 1 + 1 + 1 + 1 + 1) ⟨F1 ||| F2, true && op2, fa1 || (fa2 && z), pr1 ++ pr2, true⟩ := BoxV.put hx3 6 (.string (pr1 ++ pr2))
      refine skipAt 11 (u0.setCell ⟨w.heap.size + 1 + 1 + 1 + 1 + 1, 6, none⟩ (.string (pr1 ++ pr2))) rfl rfl (by kernel_rfl) (by rfl) (putP_run hx3 rfl rfl rfl rfl) (hS.but ((ButR.refl _ u0.heap.size u0).setCell 6 (.string (pr1 ++ pr2)))) ?_
      have hS := hS.but ((ButR.refl _ u0.heap.size u0).setCell 6 (.string (pr1 ++ pr2)))
      generalize u0.setCell ⟨w.heap.size + 1 + 1 + 1 + 1 + 1, 6, none⟩ (.string (pr1 ++ pr2)) = u1 at hS hx4 ⊢
      refine takeAt 12 102 (.pointer (some ⟨w.heap.size + 1 + 1 + 1 + 1 + 1, 7, none⟩)) rfl rfl (by kernel_rfl) (by kernel_rfl) (by kernel_rfl) (fun _ _ _ h => h) (yields (by rfl) (fun w => by kernel_rfl)) hS ?_
      simp only [Act.put, List.setIfInBounds_toArray, List.set_cons_zero, List.set_cons_succ]
      have hx5 : BoxK (u1.setCell ⟨w.heap.size + 1 + 1 + 1 + 1 + 1, 7, none⟩ (.bool (wh2))) (w.heap.size + 1 + 1 + 1 + 1 + 1) ⟨F1 ||| F2, true && op2, fa1 || (fa2 && z), pr1 ++ pr2, wh2⟩ := BoxV.put hx4 7 (.bool (wh2))
      refine skipAt 13 (u1.setCell ⟨w.heap.size + 1 + 1 + 1 + 1 + 1, 7, none⟩ (.bool (wh2))) rfl rfl (by kernel_rfl) (by rfl) (putB_run hx4 rfl rfl rfl rfl) (hS.but ((ButR.refl _ u1.heap.size u1).setCell 7 (.bool (wh2)))) ?_
      have hS := hS.but ((ButR.refl _ u1.heap.size u1).setCell 7 (.bool (wh2)))
      generalize u1.setCell ⟨w.heap.size + 1 + 1 + 1 + 1 + 1, 7, none⟩ (.bool (wh2)) = u2 at hS hx5 ⊢
      refine wpAnyH_done (by kernel_rfl) ?_ _
      have HT12 := Lib.hid hS
      have HX12 := Lib.hid hx5
      clear hS hx3 hx4 hx5
      go_wp2_with fail
      go_step3
      go_wp2_with (refine loadKn rfl _ rfl (w.heap.size + 1 + 1 + 1 + 1 + 1) (⟨F1 ||| F2, true && op2, fa1 || (fa2 && z), pr1 ++ pr2, wh2⟩) rfl HX12.out (StopS.out ?_))
      refine ⟨?_⟩
      have HCut := Lib.hid (fun w h => cut_any9 (⟨F1 ||| F2, true && op2, fa1 || (fa2 && z), pr1 ++ pr2, wh2⟩) w h)
      go_wp2_with fail
      refine (HCut.out _ (show (pr1 ++ pr2).size ≤ 1000000 by rw [size_app]; have := HP.out; omega)).mono ?_
      rintro e w9 ⟨rfl, hb⟩
      have HT9 := Lib.hid (HT12.out.call hb)
      clear hb
      go_wp2_with (refine storeKn rfl _ _ rfl (w.heap.size + 1 + 1 + 1 + 1) (cutK (⟨F1 ||| F2, true && op2, fa1 || (fa2 && z), pr1 ++ pr2, wh2⟩)) _ rfl rfl (by rfl) HT9.out.res ?_; intro u9 hx9 hB9 _; refine StopS.out ?_)
      refine ⟨?_⟩
      go_wp2
      simp only [Exit.jump]
      refine bodyPost_ret (resV (p := 8) rfl _ (g := w.heap.size + 1 + 1 + 1 + 1) rfl (by rfl) hx9.out) rfl ⟨rfl, ?_⟩
      exact HT9.out.below.trans (hB9.out _ (by omega))
theorem two9_any (A : Option Addr) (n cap : Nat) (x : Nd) (a b : FK) (w : World) (z : Bool) (hx : x.k = 8 ∨ x.k = 9) (ha : a.pr.size ≤ 100) (hb : b.pr.size ≤ 100) (he : a = emK → z = true) (hz : ∀ u, Below w.heap.size w u → Calls Tryz.prog 66 #[.agg (trC A n cap), .int .i64 x.a] u fun e w' => e = .returned (.bool z) ∧ Below u.heap.size u w') :
    Calls Tryz.prog 44 #[.agg (trC A n cap), .agg (ndC x), .agg (knoC a), .agg (knoC b)] w fun e w' => e = .returned (.agg (knoC (twoK x.k z a b))) ∧ Below w.heap.size w w' := by
  obtain ⟨F1, op1, fa1, pr1, wh1⟩ := a
  obtain ⟨F2, op2, fa2, pr2, wh2⟩ := b
  simp only at ha hb
  rcases hx with hk | hk
  · rw [show twoK x.k z ⟨F1, op1, fa1, pr1, wh1⟩ ⟨F2, op2, fa2, pr2, wh2⟩ = catK z ⟨F1, op1, fa1, pr1, wh1⟩ ⟨F2, op2, fa2, pr2, wh2⟩ from if_pos hk]
    have q : (x.k == 9) = false := by rw [hk]; rfl
    cases h1 : isEm ⟨F1, op1, fa1, pr1, wh1⟩ with
    | true =>
      have e := isEm_eq h1
      rw [show catK z ⟨F1, op1, fa1, pr1, wh1⟩ ⟨F2, op2, fa2, pr2, wh2⟩ = cutK ⟨F2, op2, fa2, pr2, wh2⟩ by rw [e]; exact em_first (he e)]
      exact two_one A n cap x F1 F2 op1 op2 fa1 fa2 pr1 pr2 wh1 wh2 w q h1 (by omega)
    | false =>
      cases h2 : isEm ⟨F2, op2, fa2, pr2, wh2⟩ with
      | true =>
        have e := isEm_eq h2
        rw [show catK z ⟨F1, op1, fa1, pr1, wh1⟩ ⟨F2, op2, fa2, pr2, wh2⟩ = cutK ⟨F1, op1, fa1, pr1, wh1⟩ by rw [e]; exact em_second ha]
        exact two_other A n cap x F1 F2 op1 op2 fa1 fa2 pr1 pr2 wh1 wh2 w q h1 h2 (by omega)
      | false =>
        rw [catK_cut z ha]
        exact two_cat A n cap x F1 F2 op1 op2 fa1 fa2 pr1 pr2 wh1 wh2 w z q h1 h2 ⟨by omega, by omega⟩ hz
  · rw [show twoK x.k z ⟨F1, op1, fa1, pr1, wh1⟩ ⟨F2, op2, fa2, pr2, wh2⟩ = altK ⟨F1, op1, fa1, pr1, wh1⟩ ⟨F2, op2, fa2, pr2, wh2⟩ from if_neg (by omega)]
    exact two_alt A n cap x F1 F2 op1 op2 fa1 fa2 pr1 pr2 wh1 wh2 w hk
end Go.Proofs.YtkpijnodhlonfaaGreatDoor

namespace Go.Proofs.YtkpijnodhlonfaaGreatDoor
open Go.RowKit
open Ast (Nd ndV Nodes siz len)

/-- What is known lies at a place of a row; of the first nodes. -/
def KnAt (w : World) (r o : Nat) (k : FK) : Prop := ∀ j v, (knoC k)[j]? = some v → w.cell? ⟨r, o + j, none⟩ = some v
def KnsAt (w : World) (r n : Nat) (f : Nat → FK) : Prop := r < w.heap.size ∧ ∀ i, i < n → KnAt w r (i * 8) (f i)
theorem KnAt.call {w w' : World} {r o : Nat} {k : FK} (h : KnAt w r o k) (hr : r < w.heap.size) (hb : Below w.heap.size w w') : KnAt w' r o k := fun j v hv => (hb.cell (p := ⟨r, o + j, none⟩) hr).trans (h j v hv)
theorem KnsAt.call {w w' : World} {r n : Nat} {f : Nat → FK} (h : KnsAt w r n f) (hb : Below w.heap.size w w') : KnsAt w' r n f := ⟨Nat.lt_of_lt_of_le h.1 hb.size, fun i hi => (h.2 i hi).call h.1 hb⟩
section
variable {ops : Array Oper} {R : World → Prop} {a : Act} {o : Oper} {x y : Operand}
theorem loadKAt_y (r i : Nat) (k : FK) (hR : ∀ u, R u → KnAt u r i k) (ho : o.op = .load 64 x) (hx : a.eval x = .pointer (some ⟨r, i, none⟩)) (hw : Region.wanted o (yielded ops a.tmps) = true) : YieldsIf Tryz.prog ops R o (.agg (knoC k)) a := by
  refine Or.inl ⟨hw, fun u h => ?_⟩
  have h' := hR u h
  have c0 : u.cell? ⟨r, i, none⟩ = _ := h' 0 _ rfl
  have c1 := h' 1 _ rfl
  have c2 := h' 2 _ rfl
  have c3 := h' 3 _ rfl
  have c4 := h' 4 _ rfl
  have c5 := h' 5 _ rfl
  have c6 := h' 6 _ rfl
  have c7 := h' 7 _ rfl
  unfold execOp
  simp only [ho, hx]
  simp [go_sem, c0, c1, c2, c3, c4, c5, c6, c7]
theorem idxK_y {r n cap i : Nat} (hi : i < n) (ho : o.op = .indexAddr 62 x y) (hx : a.eval x = .slice (some ⟨r, 0, none⟩) n cap) (hy : a.eval y = .int .i64 (i : Int)) (hw : Region.wanted o (yielded ops a.tmps) = true) : YieldsIf Tryz.prog ops R o (.pointer (some ⟨r, i * 8, none⟩)) a := by
  refine Or.inl ⟨hw, fun u _ => ?_⟩
  have i0 : (0 : Int) ≤ i := by omega
  have i1 : (i : Int) < n := by omega
  unfold execOp
  simp only [ho, hx, hy]
  go_simp
end
/-- The boxes of ofNode. -/
structure NBx (w0 : World) (A : Option Addr) (n cap : Nat) (x : Nd) (w : World) : Prop where
  below : Below w0.heap.size w0 w
  tree : BoxV 24 w w0.heap.size (trC A n cap)
  node : BoxV 59 w (w0.heap.size + 1) (ndC x)
  res : BoxV 64 w (w0.heap.size + 1 + 1) (knoC zrK)
theorem NBx.call {w0 w w' : World} {A : Option Addr} {n cap : Nat} {x : Nd} (h : NBx w0 A n cap x w) (hb : Below w.heap.size w w') : NBx w0 A n cap x w' :=
  ⟨thenB h.below hb h.below.size, h.tree.below hb h.tree.lt, h.node.below hb h.node.lt, h.res.below hb h.res.lt⟩
theorem NBx.new (w : World) (A : Option Addr) (n cap : Nat) (x : Nd) : NBx w A n cap x (((w.alloc (.cells (trC A n cap) 24)).alloc (.cells (ndC x) 59)).alloc (.cells #[.int .u64 0, .int .u64 0, .int .u64 0, .int .u64 0, .bool false, .bool false, .string ⟨#[]⟩, .bool false] 64)) :=
  ⟨by go_grown, ((BoxV.new _ _).alloc _).alloc _, (BoxV.new2 _ _ _).alloc _, BoxK.zr (BoxV.new3 _ _ _ _)⟩
set_option maxRecDepth 20000 in
set_option maxHeartbeats 8000000 in
theorem node_1 (A : Option Addr) (n cap : Nat) (x : Nd) (v : Value) (w : World) (S : BitVec 256) (hk : x.k = 1) (h0 : x.s0 = W S 0) (h1 : x.s1 = W S 1) (h2 : x.s2 = W S 2) (h3 : x.s3 = W S 3) (ht : TabOk w) :
    Calls Tryz.prog 25 #[.agg (trC A n cap), .agg (ndC x), v] w fun e w' => e = .returned (.agg (knoC (bytK S))) ∧ Below w.heap.size w w' := by
  obtain ⟨xk, xa, xb, t0, t1, t2, t3, mn, mx, md, nn, ff⟩ := x
  simp only at hk h0 h1 h2 h3
  subst hk h0 h1 h2 h3
  have HY := Lib.hid (fun w h => bytes9_any S w h)
  obtain ⟨K, hK⟩ : ∃ K, K = bytK S := ⟨_, rfl⟩
  rw [← hK] at HY ⊢
  clear hK
  have HT := Lib.hid ht
  clear ht
  have HX := Lib.hid (NBx.new w A n cap ⟨1, xa, xb, W S 0, W S 1, W S 2, W S 3, mn, mx, md, nn, ff⟩)
  go_enter Tryz.func25, Tryz.ntmps25
  go_wp2_with fail
  refine (HY.out _ (HT.out.call HX.out.below)).mono ?_
  rintro e u1 ⟨rfl, hb⟩
  have HX1 := Lib.hid (HX.out.call hb)
  clear hb HX
  go_wp2_with (refine storeKn rfl _ _ rfl (w.heap.size + 1 + 1) (K) _ rfl rfl (by rfl) HX1.out.res ?_; intro u9 hx9 hB9 _; refine StopS.out ?_)
  refine ⟨?_⟩
  go_wp2
  refine bodyPost_ret (resV (p := 6) rfl _ (g := w.heap.size + 1 + 1) rfl (by rfl) hx9.out) rfl ⟨rfl, ?_⟩
  exact HX1.out.below.trans (hB9.out _ (by omega))
set_option maxRecDepth 20000 in
set_option maxHeartbeats 8000000 in
theorem node_2 (A : Option Addr) (n cap : Nat) (x : Nd) (v : Value) (w : World) (hk : x.k = 2) :
    Calls Tryz.prog 25 #[.agg (trC A n cap), .agg (ndC x), v] w fun e w' => e = .returned (.agg (knoC (⟨0#256, true, true, ByteArray.empty, true⟩))) ∧ Below w.heap.size w w' := by
  obtain ⟨xk, xa, xb, t0, t1, t2, t3, mn, mx, md, nn, ff⟩ := x
  simp only at *
  subst hk
  rw [knoC_F _ rfl]
  go_enter Tryz.func25, Tryz.ntmps25
  go_wp2
  refine bodyPost_ret (resV (p := 6) rfl _ (g := w.heap.size + 1 + 1) rfl (by rfl) (BoxV.new3 _ _ _ _)) rfl ⟨rfl, ?_⟩
  go_grown
set_option maxRecDepth 20000 in
set_option maxHeartbeats 8000000 in
theorem node_12 (A : Option Addr) (n cap : Nat) (x : Nd) (v : Value) (w : World) (hk : x.k = 12) :
    Calls Tryz.prog 25 #[.agg (trC A n cap), .agg (ndC x), v] w fun e w' => e = .returned (.agg (knoC (⟨~~~0#256, true, false, ByteArray.empty, false⟩))) ∧ Below w.heap.size w w' := by
  obtain ⟨xk, xa, xb, t0, t1, t2, t3, mn, mx, md, nn, ff⟩ := x
  simp only at *
  subst hk
  have HY := Lib.hid (fun w => all_any w)
  generalize ~~~0#256 = S at HY ⊢
  have HX := Lib.hid (NBx.new w A n cap ⟨12, xa, xb, t0, t1, t2, t3, mn, mx, md, nn, ff⟩)
  go_enter Tryz.func25, Tryz.ntmps25
  go_wp2_with fail
  refine (HY.out _).mono ?_
  rintro e u1 ⟨rfl, hb⟩
  have HX1 := Lib.hid (HX.out.call hb)
  clear hb HX
  go_wp2_with (refine storeKn rfl _ _ rfl (w.heap.size + 1 + 1) (⟨S, true, false, ByteArray.empty, false⟩) _ rfl rfl (by rfl) HX1.out.res ?_; intro u9 hx9 hB9 _; refine StopS.out ?_)
  refine ⟨?_⟩
  go_wp2
  refine bodyPost_ret (resV (p := 6) rfl _ (g := w.heap.size + 1 + 1) rfl (by rfl) hx9.out) rfl ⟨rfl, ?_⟩
  exact HX1.out.below.trans (hB9.out _ (by omega))
set_option maxRecDepth 20000 in
set_option maxHeartbeats 8000000 in
theorem node_else (A : Option Addr) (n cap : Nat) (x : Nd) (v : Value) (w : World) (h1 : (x.k == 1) = false) (h2 : (x.k == 2) = false) (h12 : (x.k == 12) = false) (h8 : (x.k == 8) = false) (h9 : (x.k == 9) = false) (h10 : (x.k == 10) = false) (h11 : (x.k == 11) = false) (h17 : (x.k == 17) = false) :
    Calls Tryz.prog 25 #[.agg (trC A n cap), .agg (ndC x), v] w fun e w' => e = .returned (.agg (knoC (emK))) ∧ Below w.heap.size w w' := by
  obtain ⟨xk, xa, xb, t0, t1, t2, t3, mn, mx, md, nn, ff⟩ := x
  simp only at *
  have HY := Lib.hid (fun w => empty9_any w)
  have HX := Lib.hid (NBx.new w A n cap ⟨xk, xa, xb, t0, t1, t2, t3, mn, mx, md, nn, ff⟩)
  go_enter Tryz.func25, Tryz.ntmps25
  go_wp2_with fail
  refine (HY.out _).mono ?_
  rintro e u1 ⟨rfl, hb⟩
  have HX1 := Lib.hid (HX.out.call hb)
  clear hb HX
  go_wp2_with (refine storeKn rfl _ _ rfl (w.heap.size + 1 + 1) (emK) _ rfl rfl (by rfl) HX1.out.res ?_; intro u9 hx9 hB9 _; refine StopS.out ?_)
  refine ⟨?_⟩
  go_wp2
  refine bodyPost_ret (resV (p := 6) rfl _ (g := w.heap.size + 1 + 1) rfl (by rfl) hx9.out) rfl ⟨rfl, ?_⟩
  exact HX1.out.below.trans (hB9.out _ (by omega))
set_option maxRecDepth 20000 in
set_option maxHeartbeats 8000000 in
theorem node_in11 (A : Option Addr) (n cap : Nat) (x : Nd) (v : Value) (w : World) (r m c p : Nat) (f : Nat → FK) (hv : v = .slice (some ⟨r, 0, none⟩) m c) (hP : KnsAt w r m f) (hp : p < m) (hk : x.k = 11) (ha : x.a = (p : Int)) :
    Calls Tryz.prog 25 #[.agg (trC A n cap), .agg (ndC x), v] w fun e w' => e = .returned (.agg (knoC (f p))) ∧ Below w.heap.size w w' := by
  subst hv
  obtain ⟨xk, xa, xb, t0, t1, t2, t3, mn, mx, md, nn, ff⟩ := x
  simp only at *
  subst hk
  subst ha
  have HX := Lib.hid (NBx.new w A n cap ⟨11, (p : Int), xb, t0, t1, t2, t3, mn, mx, md, nn, ff⟩)
  have HP := Lib.hid (hP.call HX.out.below)
  have z0 : (0 : Int) ≤ (p : Int) := by omega
  have z1 : (p : Int) < (m : Int) := by omega
  clear hP
  go_enter Tryz.func25, Tryz.ntmps25
  go_wp2_with (refine lineY (S := fun u => KnsAt u r m f) (.agg (knoC (f p))) (loadKAt_y r (p * 8) (f p) (fun _ h => h.2 p hp) rfl rfl (by rfl)) HP.out ?_; refine StopS.out ?_)
  refine ⟨?_⟩
  try simp only [Act.put, List.setIfInBounds_toArray, List.set_cons_zero, List.set_cons_succ]
  go_wp2_with (refine storeKn rfl _ _ rfl (w.heap.size + 1 + 1) (f p) _ rfl rfl (by rfl) HX.out.res ?_; intro u9 hx9 hB9 _; refine StopS.out ?_)
  refine ⟨?_⟩
  go_wp2
  refine bodyPost_ret (resV (p := 6) rfl _ (g := w.heap.size + 1 + 1) rfl (by rfl) hx9.out) rfl ⟨rfl, ?_⟩
  exact HX.out.below.trans (hB9.out _ (by omega))
set_option maxRecDepth 20000 in
set_option maxHeartbeats 8000000 in
theorem node_in17 (A : Option Addr) (n cap : Nat) (x : Nd) (v : Value) (w : World) (r m c p : Nat) (f : Nat → FK) (hv : v = .slice (some ⟨r, 0, none⟩) m c) (hP : KnsAt w r m f) (hp : p < m) (hk : x.k = 17) (ha : x.a = (p : Int)) :
    Calls Tryz.prog 25 #[.agg (trC A n cap), .agg (ndC x), v] w fun e w' => e = .returned (.agg (knoC (f p))) ∧ Below w.heap.size w w' := by
  subst hv
  obtain ⟨xk, xa, xb, t0, t1, t2, t3, mn, mx, md, nn, ff⟩ := x
  simp only at *
  subst hk
  subst ha
  have HX := Lib.hid (NBx.new w A n cap ⟨17, (p : Int), xb, t0, t1, t2, t3, mn, mx, md, nn, ff⟩)
  have HP := Lib.hid (hP.call HX.out.below)
  have z0 : (0 : Int) ≤ (p : Int) := by omega
  have z1 : (p : Int) < (m : Int) := by omega
  clear hP
  go_enter Tryz.func25, Tryz.ntmps25
  go_wp2_with (refine lineY (S := fun u => KnsAt u r m f) (.agg (knoC (f p))) (loadKAt_y r (p * 8) (f p) (fun _ h => h.2 p hp) rfl rfl (by rfl)) HP.out ?_; refine StopS.out ?_)
  refine ⟨?_⟩
  try simp only [Act.put, List.setIfInBounds_toArray, List.set_cons_zero, List.set_cons_succ]
  go_wp2_with (refine storeKn rfl _ _ rfl (w.heap.size + 1 + 1) (f p) _ rfl rfl (by rfl) HX.out.res ?_; intro u9 hx9 hB9 _; refine StopS.out ?_)
  refine ⟨?_⟩
  go_wp2
  refine bodyPost_ret (resV (p := 6) rfl _ (g := w.heap.size + 1 + 1) rfl (by rfl) hx9.out) rfl ⟨rfl, ?_⟩
  exact HX.out.below.trans (hB9.out _ (by omega))
/-- The boxes of ofNode but the last, and the row of what is known. -/
structure NBy (w0 : World) (A : Option Addr) (n cap : Nat) (x : Nd) (r m : Nat) (f : Nat → FK) (w : World) : Prop where
  below : Below w0.heap.size w0 w
  tree : BoxV 24 w w0.heap.size (trC A n cap)
  node : BoxV 59 w (w0.heap.size + 1) (ndC x)
  kns : KnsAt w r m f
theorem NBy.call {w0 w w' : World} {A : Option Addr} {n cap : Nat} {x : Nd} {r m : Nat} {f : Nat → FK} (h : NBy w0 A n cap x r m f w) (hb : Below w.heap.size w w') : NBy w0 A n cap x r m f w' :=
  ⟨thenB h.below hb h.below.size, h.tree.below hb h.tree.lt, h.node.below hb h.node.lt, h.kns.call hb⟩
theorem NBy.row {w0 w : World} {A : Option Addr} {n cap : Nat} {x : Nd} {r m : Nat} {f : Nat → FK} (h : NBy w0 A n cap x r m f w) (hr : r < w0.heap.size) (cs : Array Value) : NBy w0 A n cap x r m f (w.setRow (w0.heap.size + 1 + 1) cs) :=
  ⟨below_row h.below (by omega) _, h.tree.row _ (by omega), h.node.row _ (by omega), by simp [World.setRow, h.kns.1], fun i hi j v hv => (World.cell?_of_block (setRow_other _ _ r _ (by omega))).trans (h.kns.2 i hi j v hv)⟩
set_option maxRecDepth 20000 in
set_option maxHeartbeats 8000000 in
theorem node_8 (A : Option Addr) (n cap : Nat) (x : Nd) (v : Value) (w : World) (r m c p : Nat) (f : Nat → FK) (hv : v = .slice (some ⟨r, 0, none⟩) m c) (hP : KnsAt w r m f) (hp : p < m) (hk : x.k = 8) (ha : x.a = (p : Int)) (q : Nat) (hq : q < m) (hb : x.b = (q : Int)) (K : FK) (hC : ∀ u, Below w.heap.size w u → Calls Tryz.prog 44 #[.agg (trC A n cap), .agg (ndC x), .agg (knoC (f p)), .agg (knoC (f q))] u fun e w' => e = .returned (.agg (knoC K)) ∧ Below u.heap.size u w') :
    Calls Tryz.prog 25 #[.agg (trC A n cap), .agg (ndC x), v] w fun e w' => e = .returned (.agg (knoC (K))) ∧ Below w.heap.size w w' := by
  subst hv
  obtain ⟨xk, xa, xb, t0, t1, t2, t3, mn, mx, md, nn, ff⟩ := x
  simp only at *
  subst hk
  subst ha
  subst hb
  have HC := Lib.hid hC
  have HX := Lib.hid (NBx.new w A n cap ⟨8, (p : Int), (q : Int), t0, t1, t2, t3, mn, mx, md, nn, ff⟩)
  have HP := Lib.hid (hP.call HX.out.below)
  have hr := hP.1
  clear hP hC
  go_enter Tryz.func25, Tryz.ntmps25
  go_wp2_with fail
  refine wp_region_held_drew (S := fun u => NBy w A n cap ⟨8, (p : Int), (q : Int), t0, t1, t2, t3, mn, mx, md, nn, ff⟩ r m f u) (by kernel_rfl) (show _ from NBy.call ⟨HX.out.below, HX.out.tree, HX.out.node, HP.out⟩ (Below.refl _ _).drew) (fun hS => ?_)
  have hg := HX.out.res.drew
  clear HX HP
  generalize World.drew _ = v0 at hS hg ⊢
  refine takeAt 0 27 (.agg (trC A n cap)) rfl rfl (by kernel_rfl) (by kernel_rfl) (by kernel_rfl) (fun _ _ _ h => h) (loadT9_y w.heap.size A n cap (fun _ h => h.tree) rfl rfl (by rfl)) hS ?_
  simp only [Act.put, List.setIfInBounds_toArray, List.set_cons_zero, List.set_cons_succ]
  refine takeAt 1 28 (.agg (ndC ⟨8, (p : Int), (q : Int), t0, t1, t2, t3, mn, mx, md, nn, ff⟩)) rfl rfl (by kernel_rfl) (by kernel_rfl) (by kernel_rfl) (fun _ _ _ h => h) (loadN9_y (w.heap.size + 1) ⟨8, (p : Int), (q : Int), t0, t1, t2, t3, mn, mx, md, nn, ff⟩ (fun _ h => h.node) rfl rfl (by rfl)) hS ?_
  simp only [Act.put, List.setIfInBounds_toArray, List.set_cons_zero, List.set_cons_succ]
  refine takeAt 2 29 (.slice (some ⟨r, 0, none⟩) m c) rfl rfl (by kernel_rfl) (by kernel_rfl) (by kernel_rfl) (fun _ _ _ h => h) (yields (by rfl) (fun w => by kernel_rfl)) hS ?_
  simp only [Act.put, List.setIfInBounds_toArray, List.set_cons_zero, List.set_cons_succ]
  refine takeAt 3 30 (.pointer (some ⟨w.heap.size + 1, 1, none⟩)) rfl rfl (by kernel_rfl) (by kernel_rfl) (by kernel_rfl) (fun _ _ _ h => h) (yields (by rfl) (fun w => by kernel_rfl)) hS ?_
  simp only [Act.put, List.setIfInBounds_toArray, List.set_cons_zero, List.set_cons_succ]
  refine takeAt 4 31 (.int .i64 (p : Int)) rfl rfl (by kernel_rfl) (by kernel_rfl) (by kernel_rfl) (fun _ _ _ h => h) (loadI9_y (w.heap.size + 1) 1 (p : Int) (fun _ h => h.node.get 1 rfl) rfl rfl (by rfl)) hS ?_
  simp only [Act.put, List.setIfInBounds_toArray, List.set_cons_zero, List.set_cons_succ]
  refine takeAt 5 32 (.pointer (some ⟨r, p * 8, none⟩)) rfl rfl (by kernel_rfl) (by kernel_rfl) (by kernel_rfl) (fun _ _ _ h => h) (idxK_y hp rfl rfl rfl (by rfl)) hS ?_
  simp only [Act.put, List.setIfInBounds_toArray, List.set_cons_zero, List.set_cons_succ]
  refine takeAt 6 33 (.agg (knoC (f p))) rfl rfl (by kernel_rfl) (by kernel_rfl) (by kernel_rfl) (fun _ _ _ h => h) (loadKAt_y r (p * 8) (f p) (fun _ h => h.kns.2 p hp) rfl rfl (by rfl)) hS ?_
  simp only [Act.put, List.setIfInBounds_toArray, List.set_cons_zero, List.set_cons_succ]
  refine takeAt 7 34 (.slice (some ⟨r, 0, none⟩) m c) rfl rfl (by kernel_rfl) (by kernel_rfl) (by kernel_rfl) (fun _ _ _ h => h) (yields (by rfl) (fun w => by kernel_rfl)) hS ?_
  simp only [Act.put, List.setIfInBounds_toArray, List.set_cons_zero, List.set_cons_succ]
  refine takeAt 8 35 (.pointer (some ⟨w.heap.size + 1, 2, none⟩)) rfl rfl (by kernel_rfl) (by kernel_rfl) (by kernel_rfl) (fun _ _ _ h => h) (yields (by rfl) (fun w => by kernel_rfl)) hS ?_
  simp only [Act.put, List.setIfInBounds_toArray, List.set_cons_zero, List.set_cons_succ]
  refine takeAt 9 36 (.int .i64 (q : Int)) rfl rfl (by kernel_rfl) (by kernel_rfl) (by kernel_rfl) (fun _ _ _ h => h) (loadI9_y (w.heap.size + 1) 2 (q : Int) (fun _ h => h.node.get 2 rfl) rfl rfl (by rfl)) hS ?_
  simp only [Act.put, List.setIfInBounds_toArray, List.set_cons_zero, List.set_cons_succ]
  refine takeAt 10 37 (.pointer (some ⟨r, q * 8, none⟩)) rfl rfl (by kernel_rfl) (by kernel_rfl) (by kernel_rfl) (fun _ _ _ h => h) (idxK_y hq rfl rfl rfl (by rfl)) hS ?_
  simp only [Act.put, List.setIfInBounds_toArray, List.set_cons_zero, List.set_cons_succ]
  refine takeAt 11 38 (.agg (knoC (f q))) rfl rfl (by kernel_rfl) (by kernel_rfl) (by kernel_rfl) (fun _ _ _ h => h) (loadKAt_y r (q * 8) (f q) (fun _ h => h.kns.2 q hq) rfl rfl (by rfl)) hS ?_
  simp only [Act.put, List.setIfInBounds_toArray, List.set_cons_zero, List.set_cons_succ]
  refine callAt 12 39 rfl rfl (by kernel_rfl) (by rfl) (by kernel_rfl) (HC.out _ hS.below) ?_
  rintro e v1 ⟨rfl, hb⟩
  have hS := hS.call hb
  have hg := hg.below hb hg.lt
  clear hb
  refine ⟨_, rfl, hS, ?_⟩
  simp only [Act.put, List.setIfInBounds_toArray, List.set_cons_zero, List.set_cons_succ]
  have hx9 : BoxK (v1.setRow (w.heap.size + 1 + 1) (knoC K)) (w.heap.size + 1 + 1) K := hg.rowSame _
  refine rowAt 13 64 (w.heap.size + 1 + 1) (knoC zrK) (knoC K) rfl rfl rfl (by kernel_rfl) (by rfl) rfl rfl hg sizeKn rfl (by simp [Value.oneCell']) (hS.row hr _) ?_
  have hS := hS.row hr (knoC K)
  generalize v1.setRow (w.heap.size + 1 + 1) (knoC K) = v2 at hS hx9 ⊢
  refine wpAnyH_done (by kernel_rfl) ?_ _
  have HS := Lib.hid hS
  have HX9 := Lib.hid hx9
  clear hS hx9 hg
  go_wp2
  refine bodyPost_ret (resV (p := 6) rfl _ (g := w.heap.size + 1 + 1) rfl (by rfl) HX9.out) rfl ⟨rfl, ?_⟩
  exact HS.out.below
set_option maxRecDepth 20000 in
set_option maxHeartbeats 8000000 in
theorem node_9 (A : Option Addr) (n cap : Nat) (x : Nd) (v : Value) (w : World) (r m c p : Nat) (f : Nat → FK) (hv : v = .slice (some ⟨r, 0, none⟩) m c) (hP : KnsAt w r m f) (hp : p < m) (hk : x.k = 9) (ha : x.a = (p : Int)) (q : Nat) (hq : q < m) (hb : x.b = (q : Int)) (K : FK) (hC : ∀ u, Below w.heap.size w u → Calls Tryz.prog 44 #[.agg (trC A n cap), .agg (ndC x), .agg (knoC (f p)), .agg (knoC (f q))] u fun e w' => e = .returned (.agg (knoC K)) ∧ Below u.heap.size u w') :
    Calls Tryz.prog 25 #[.agg (trC A n cap), .agg (ndC x), v] w fun e w' => e = .returned (.agg (knoC (K))) ∧ Below w.heap.size w w' := by
  subst hv
  obtain ⟨xk, xa, xb, t0, t1, t2, t3, mn, mx, md, nn, ff⟩ := x
  simp only at *
  subst hk
  subst ha
  subst hb
  have HC := Lib.hid hC
  have HX := Lib.hid (NBx.new w A n cap ⟨9, (p : Int), (q : Int), t0, t1, t2, t3, mn, mx, md, nn, ff⟩)
  have HP := Lib.hid (hP.call HX.out.below)
  have hr := hP.1
  clear hP hC
  go_enter Tryz.func25, Tryz.ntmps25
  go_wp2_with fail
  refine wp_region_held_drew (S := fun u => NBy w A n cap ⟨9, (p : Int), (q : Int), t0, t1, t2, t3, mn, mx, md, nn, ff⟩ r m f u) (by kernel_rfl) (show _ from NBy.call ⟨HX.out.below, HX.out.tree, HX.out.node, HP.out⟩ (Below.refl _ _).drew) (fun hS => ?_)
  have hg := HX.out.res.drew
  clear HX HP
  generalize World.drew _ = v0 at hS hg ⊢
  refine takeAt 0 27 (.agg (trC A n cap)) rfl rfl (by kernel_rfl) (by kernel_rfl) (by kernel_rfl) (fun _ _ _ h => h) (loadT9_y w.heap.size A n cap (fun _ h => h.tree) rfl rfl (by rfl)) hS ?_
  simp only [Act.put, List.setIfInBounds_toArray, List.set_cons_zero, List.set_cons_succ]
  refine takeAt 1 28 (.agg (ndC ⟨9, (p : Int), (q : Int), t0, t1, t2, t3, mn, mx, md, nn, ff⟩)) rfl rfl (by kernel_rfl) (by kernel_rfl) (by kernel_rfl) (fun _ _ _ h => h) (loadN9_y (w.heap.size + 1) ⟨9, (p : Int), (q : Int), t0, t1, t2, t3, mn, mx, md, nn, ff⟩ (fun _ h => h.node) rfl rfl (by rfl)) hS ?_
  simp only [Act.put, List.setIfInBounds_toArray, List.set_cons_zero, List.set_cons_succ]
  refine takeAt 2 29 (.slice (some ⟨r, 0, none⟩) m c) rfl rfl (by kernel_rfl) (by kernel_rfl) (by kernel_rfl) (fun _ _ _ h => h) (yields (by rfl) (fun w => by kernel_rfl)) hS ?_
  simp only [Act.put, List.setIfInBounds_toArray, List.set_cons_zero, List.set_cons_succ]
  refine takeAt 3 30 (.pointer (some ⟨w.heap.size + 1, 1, none⟩)) rfl rfl (by kernel_rfl) (by kernel_rfl) (by kernel_rfl) (fun _ _ _ h => h) (yields (by rfl) (fun w => by kernel_rfl)) hS ?_
  simp only [Act.put, List.setIfInBounds_toArray, List.set_cons_zero, List.set_cons_succ]
  refine takeAt 4 31 (.int .i64 (p : Int)) rfl rfl (by kernel_rfl) (by kernel_rfl) (by kernel_rfl) (fun _ _ _ h => h) (loadI9_y (w.heap.size + 1) 1 (p : Int) (fun _ h => h.node.get 1 rfl) rfl rfl (by rfl)) hS ?_
  simp only [Act.put, List.setIfInBounds_toArray, List.set_cons_zero, List.set_cons_succ]
  refine takeAt 5 32 (.pointer (some ⟨r, p * 8, none⟩)) rfl rfl (by kernel_rfl) (by kernel_rfl) (by kernel_rfl) (fun _ _ _ h => h) (idxK_y hp rfl rfl rfl (by rfl)) hS ?_
  simp only [Act.put, List.setIfInBounds_toArray, List.set_cons_zero, List.set_cons_succ]
  refine takeAt 6 33 (.agg (knoC (f p))) rfl rfl (by kernel_rfl) (by kernel_rfl) (by kernel_rfl) (fun _ _ _ h => h) (loadKAt_y r (p * 8) (f p) (fun _ h => h.kns.2 p hp) rfl rfl (by rfl)) hS ?_
  simp only [Act.put, List.setIfInBounds_toArray, List.set_cons_zero, List.set_cons_succ]
  refine takeAt 7 34 (.slice (some ⟨r, 0, none⟩) m c) rfl rfl (by kernel_rfl) (by kernel_rfl) (by kernel_rfl) (fun _ _ _ h => h) (yields (by rfl) (fun w => by kernel_rfl)) hS ?_
  simp only [Act.put, List.setIfInBounds_toArray, List.set_cons_zero, List.set_cons_succ]
  refine takeAt 8 35 (.pointer (some ⟨w.heap.size + 1, 2, none⟩)) rfl rfl (by kernel_rfl) (by kernel_rfl) (by kernel_rfl) (fun _ _ _ h => h) (yields (by rfl) (fun w => by kernel_rfl)) hS ?_
  simp only [Act.put, List.setIfInBounds_toArray, List.set_cons_zero, List.set_cons_succ]
  refine takeAt 9 36 (.int .i64 (q : Int)) rfl rfl (by kernel_rfl) (by kernel_rfl) (by kernel_rfl) (fun _ _ _ h => h) (loadI9_y (w.heap.size + 1) 2 (q : Int) (fun _ h => h.node.get 2 rfl) rfl rfl (by rfl)) hS ?_
  simp only [Act.put, List.setIfInBounds_toArray, List.set_cons_zero, List.set_cons_succ]
  refine takeAt 10 37 (.pointer (some ⟨r, q * 8, none⟩)) rfl rfl (by kernel_rfl) (by kernel_rfl) (by kernel_rfl) (fun _ _ _ h => h) (idxK_y hq rfl rfl rfl (by rfl)) hS ?_
  simp only [Act.put, List.setIfInBounds_toArray, List.set_cons_zero, List.set_cons_succ]
  refine takeAt 11 38 (.agg (knoC (f q))) rfl rfl (by kernel_rfl) (by kernel_rfl) (by kernel_rfl) (fun _ _ _ h => h) (loadKAt_y r (q * 8) (f q) (fun _ h => h.kns.2 q hq) rfl rfl (by rfl)) hS ?_
  simp only [Act.put, List.setIfInBounds_toArray, List.set_cons_zero, List.set_cons_succ]
  refine callAt 12 39 rfl rfl (by kernel_rfl) (by rfl) (by kernel_rfl) (HC.out _ hS.below) ?_
  rintro e v1 ⟨rfl, hb⟩
  have hS := hS.call hb
  have hg := hg.below hb hg.lt
  clear hb
  refine ⟨_, rfl, hS, ?_⟩
  simp only [Act.put, List.setIfInBounds_toArray, List.set_cons_zero, List.set_cons_succ]
  have hx9 : BoxK (v1.setRow (w.heap.size + 1 + 1) (knoC K)) (w.heap.size + 1 + 1) K := hg.rowSame _
  refine rowAt 13 64 (w.heap.size + 1 + 1) (knoC zrK) (knoC K) rfl rfl rfl (by kernel_rfl) (by rfl) rfl rfl hg sizeKn rfl (by simp [Value.oneCell']) (hS.row hr _) ?_
  have hS := hS.row hr (knoC K)
  generalize v1.setRow (w.heap.size + 1 + 1) (knoC K) = v2 at hS hx9 ⊢
  refine wpAnyH_done (by kernel_rfl) ?_ _
  have HS := Lib.hid hS
  have HX9 := Lib.hid hx9
  clear hS hx9 hg
  go_wp2
  refine bodyPost_ret (resV (p := 6) rfl _ (g := w.heap.size + 1 + 1) rfl (by rfl) HX9.out) rfl ⟨rfl, ?_⟩
  exact HS.out.below
set_option maxRecDepth 20000 in
set_option maxHeartbeats 8000000 in
theorem node_10 (A : Option Addr) (n cap : Nat) (x : Nd) (v : Value) (w : World) (r m c p : Nat) (f : Nat → FK) (hv : v = .slice (some ⟨r, 0, none⟩) m c) (hP : KnsAt w r m f) (hp : p < m) (hk : x.k = 10) (ha : x.a = (p : Int)) (K : FK) (hC : ∀ u, Below w.heap.size w u → Calls Tryz.prog 45 #[.agg (ndC x), .agg (knoC (f p))] u fun e w' => e = .returned (.agg (knoC K)) ∧ Below u.heap.size u w') :
    Calls Tryz.prog 25 #[.agg (trC A n cap), .agg (ndC x), v] w fun e w' => e = .returned (.agg (knoC (K))) ∧ Below w.heap.size w w' := by
  subst hv
  obtain ⟨xk, xa, xb, t0, t1, t2, t3, mn, mx, md, nn, ff⟩ := x
  simp only at *
  subst hk
  subst ha
  have HC := Lib.hid hC
  have HX := Lib.hid (NBx.new w A n cap ⟨10, (p : Int), xb, t0, t1, t2, t3, mn, mx, md, nn, ff⟩)
  have HP := Lib.hid (hP.call HX.out.below)
  have hr := hP.1
  clear hP hC
  go_enter Tryz.func25, Tryz.ntmps25
  go_wp2_with fail
  refine wp_region_held_drew (S := fun u => NBy w A n cap ⟨10, (p : Int), xb, t0, t1, t2, t3, mn, mx, md, nn, ff⟩ r m f u) (by kernel_rfl) (show _ from NBy.call ⟨HX.out.below, HX.out.tree, HX.out.node, HP.out⟩ (Below.refl _ _).drew) (fun hS => ?_)
  have hg := HX.out.res.drew
  clear HX HP
  generalize World.drew _ = v0 at hS hg ⊢
  refine takeAt 0 42 (.agg (ndC ⟨10, (p : Int), xb, t0, t1, t2, t3, mn, mx, md, nn, ff⟩)) rfl rfl (by kernel_rfl) (by kernel_rfl) (by kernel_rfl) (fun _ _ _ h => h) (loadN9_y (w.heap.size + 1) ⟨10, (p : Int), xb, t0, t1, t2, t3, mn, mx, md, nn, ff⟩ (fun _ h => h.node) rfl rfl (by rfl)) hS ?_
  simp only [Act.put, List.setIfInBounds_toArray, List.set_cons_zero, List.set_cons_succ]
  refine takeAt 1 43 (.slice (some ⟨r, 0, none⟩) m c) rfl rfl (by kernel_rfl) (by kernel_rfl) (by kernel_rfl) (fun _ _ _ h => h) (yields (by rfl) (fun w => by kernel_rfl)) hS ?_
  simp only [Act.put, List.setIfInBounds_toArray, List.set_cons_zero, List.set_cons_succ]
  refine takeAt 2 44 (.pointer (some ⟨w.heap.size + 1, 1, none⟩)) rfl rfl (by kernel_rfl) (by kernel_rfl) (by kernel_rfl) (fun _ _ _ h => h) (yields (by rfl) (fun w => by kernel_rfl)) hS ?_
  simp only [Act.put, List.setIfInBounds_toArray, List.set_cons_zero, List.set_cons_succ]
  refine takeAt 3 45 (.int .i64 (p : Int)) rfl rfl (by kernel_rfl) (by kernel_rfl) (by kernel_rfl) (fun _ _ _ h => h) (loadI9_y (w.heap.size + 1) 1 (p : Int) (fun _ h => h.node.get 1 rfl) rfl rfl (by rfl)) hS ?_
  simp only [Act.put, List.setIfInBounds_toArray, List.set_cons_zero, List.set_cons_succ]
  refine takeAt 4 46 (.pointer (some ⟨r, p * 8, none⟩)) rfl rfl (by kernel_rfl) (by kernel_rfl) (by kernel_rfl) (fun _ _ _ h => h) (idxK_y hp rfl rfl rfl (by rfl)) hS ?_
  simp only [Act.put, List.setIfInBounds_toArray, List.set_cons_zero, List.set_cons_succ]
  refine takeAt 5 47 (.agg (knoC (f p))) rfl rfl (by kernel_rfl) (by kernel_rfl) (by kernel_rfl) (fun _ _ _ h => h) (loadKAt_y r (p * 8) (f p) (fun _ h => h.kns.2 p hp) rfl rfl (by rfl)) hS ?_
  simp only [Act.put, List.setIfInBounds_toArray, List.set_cons_zero, List.set_cons_succ]
  refine callAt 6 48 rfl rfl (by kernel_rfl) (by rfl) (by kernel_rfl) (HC.out _ hS.below) ?_
  rintro e v1 ⟨rfl, hb⟩
  have hS := hS.call hb
  have hg := hg.below hb hg.lt
  clear hb
  refine ⟨_, rfl, hS, ?_⟩
  simp only [Act.put, List.setIfInBounds_toArray, List.set_cons_zero, List.set_cons_succ]
  have hx9 : BoxK (v1.setRow (w.heap.size + 1 + 1) (knoC K)) (w.heap.size + 1 + 1) K := hg.rowSame _
  refine rowAt 7 64 (w.heap.size + 1 + 1) (knoC zrK) (knoC K) rfl rfl rfl (by kernel_rfl) (by rfl) rfl rfl hg sizeKn rfl (by simp [Value.oneCell']) (hS.row hr _) ?_
  have hS := hS.row hr (knoC K)
  generalize v1.setRow (w.heap.size + 1 + 1) (knoC K) = v2 at hS hx9 ⊢
  refine wpAnyH_done (by kernel_rfl) ?_ _
  have HS := Lib.hid hS
  have HX9 := Lib.hid hx9
  clear hS hx9 hg
  go_wp2
  refine bodyPost_ret (resV (p := 6) rfl _ (g := w.heap.size + 1 + 1) rfl (by rfl) HX9.out) rfl ⟨rfl, ?_⟩
  exact HS.out.below
/-- The words of a node's set. -/
def LitOk9 (l : Nat → Nd) (n : Nat) : Prop := ∀ i, i < n → (l i).k = 1 → (l i).s0 = W (setOf (l i)) 0 ∧ (l i).s1 = W (setOf (l i)) 1 ∧ (l i).s2 = W (setOf (l i)) 2 ∧ (l i).s3 = W (setOf (l i)) 3
/-- What is known of a node's tree is what the code says of it, of what is known of those ahead. -/
theorem node9_any (A : Option Addr) (n cap : Nat) (l : Nat → Nd) (i r c : Nat) (w : World) (hn : n ≤ 1000000) (hl : Nodes w A n l) (hz : Ast.shapeZ l n = 0) (hi : i < n) (hs : siz l (i + 1) ≠ 0) (hL : LitOk9 l n) (ht : TabOk w) (hP : KnsAt w r i (fun j => factZ l (j + 1))) :
    Calls Tryz.prog 25 #[.agg (trC A n cap), .agg (ndC (l i)), .slice (some ⟨r, 0, none⟩) i c] w fun e w' => e = .returned (.agg (knoC (factZ l (i + 1)))) ∧ Below w.heap.size w w' := by
  have hle := Ast.siz_le l i
  have ne : ∀ {a b : Int}, ¬ a = b → (a == b) = false := fun h => beq_eq_false_iff_ne.2 h
  obtain ⟨hf, ⟨hk, ha, hb, he⟩ | ⟨hk, h0, ha, hb, he⟩ | ⟨hk, h0, h1, ha, hb, he⟩⟩ := Ast.siz_pos hs
  · rw [fact_k0 hk]
    unfold leafK
    by_cases h1 : (l i).k = 1
    · rw [if_pos h1]
      obtain ⟨e0, e1, e2, e3⟩ := hL i hi h1
      exact node_1 A n cap (l i) _ w _ h1 e0 e1 e2 e3 ht
    · rw [if_neg h1]
      by_cases h2 : (l i).k = 2
      · rw [if_pos h2]
        exact node_2 A n cap (l i) _ w h2
      · rw [if_neg h2]
        by_cases h12 : (l i).k = 12
        · rw [if_pos h12]
          exact node_12 A n cap (l i) _ w h12
        · rw [if_neg h12]
          have hq : ¬ (l i).k = 8 ∧ ¬ (l i).k = 9 ∧ ¬ (l i).k = 10 ∧ ¬ (l i).k = 11 ∧ ¬ (l i).k = 17 := by
            refine ⟨?_, ?_, ?_, ?_, ?_⟩ <;> intro h <;> rw [h] at hk <;> exact absurd hk (by decide)
          exact node_else A n cap (l i) _ w (ne h1) (ne h2) (ne h12) (ne hq.1) (ne hq.2.1) (ne hq.2.2.1) (ne hq.2.2.2.1) (ne hq.2.2.2.2)
  · have hp : 0 < i := by
      rcases Nat.eq_zero_or_pos i with e | e
      · rw [e] at h0; exact absurd (by simp [siz, Ast.sizF]) h0
      · exact e
    have ha' : (l i).a = ((i - 1 : Nat) : Int) := by omega
    have e1 : factZ l i = factZ l (i - 1 + 1) := by rw [show i - 1 + 1 = i by omega]
    rw [fact_k1 hk]
    unfold oneK
    by_cases h10 : (l i).k = 10
    · rw [if_pos h10, e1]
      exact node_10 A n cap (l i) _ w r i c (i - 1) (fun j => factZ l (j + 1)) rfl hP (by omega) h10 ha' (repK (l i).mn (l i).mx (factZ l (i - 1 + 1))) (fun u _ => rep9_any (l i) (factZ l (i - 1 + 1)) u)
    · rw [if_neg h10]
      by_cases h11 : (l i).k = 11
      · rw [if_pos (.inl h11), e1]
        exact node_in11 A n cap (l i) _ w r i c (i - 1) (fun j => factZ l (j + 1)) rfl hP (by omega) h11 ha'
      · by_cases h17 : (l i).k = 17
        · rw [if_pos (.inr h17), e1]
          exact node_in17 A n cap (l i) _ w r i c (i - 1) (fun j => factZ l (j + 1)) rfl hP (by omega) h17 ha'
        · rw [if_neg (by omega)]
          have hq : ¬ (l i).k = 1 ∧ ¬ (l i).k = 2 ∧ ¬ (l i).k = 12 ∧ ¬ (l i).k = 8 ∧ ¬ (l i).k = 9 := by
            refine ⟨?_, ?_, ?_, ?_, ?_⟩ <;> intro h <;> rw [h] at hk <;> exact absurd hk (by decide)
          exact node_else A n cap (l i) _ w (ne hq.1) (ne hq.2.1) (ne hq.2.2.1) (ne hq.2.2.2.1) (ne hq.2.2.2.2) (ne h10) (ne h11) (ne h17)
  · have hp1 : 0 < i - siz l i := by
      rcases Nat.eq_zero_or_pos (i - siz l i) with e | e
      · rw [e] at h1; exact absurd (by simp [siz, Ast.sizF]) h1
      · exact e
    have ha' : (l i).a = ((i - siz l i - 1 : Nat) : Int) := by omega
    have hb' : (l i).b = ((i - 1 : Nat) : Int) := by omega
    have e1 : factZ l i = factZ l (i - 1 + 1) := by rw [show i - 1 + 1 = i by omega]
    have e2 : factZ l (i - siz l i) = factZ l (i - siz l i - 1 + 1) := by rw [show i - siz l i - 1 + 1 = i - siz l i by omega]
    have h89 : (l i).k = 8 ∨ (l i).k = 9 := by
      unfold Ast.kidsZ at hk
      by_cases h : (l i).k = 8 ∨ (l i).k = 9
      · exact h
      · rw [if_neg h] at hk; split at hk <;> exact absurd hk (by decide)
    rw [fact_k2 hk]
    have hC : ∀ u, Below w.heap.size w u → Calls Tryz.prog 44 #[.agg (trC A n cap), .agg (ndC (l i)), .agg (knoC (factZ l (i - siz l i - 1 + 1))), .agg (knoC (factZ l (i - 1 + 1)))] u fun e w' => e = .returned (.agg (knoC (twoK (l i).k (decide ((len l (i - siz l i)).2 = 0)) (factZ l (i - siz l i)) (factZ l i)))) ∧ Below u.heap.size u w' := fun u hu => by
      rw [← e1, ← e2]
      refine two9_any A n cap (l i) _ _ u _ h89 (fact_le l _) (fact_le l _) (fun h => decide_eq_true (fact_em l _ h1 h)) fun v hv => ?_
      rw [ha']
      have h := none_any9 A n cap l (i - siz l i - 1) v hn ((hl.below hu (Nat.le_refl _)).below hv (Nat.le_refl _)) (by omega) hz
      rw [show i - siz l i - 1 + 1 = i - siz l i by omega] at h
      exact h
    rcases h89 with h | h
    · exact node_8 A n cap (l i) _ w r i c (i - siz l i - 1) (fun j => factZ l (j + 1)) rfl hP (by omega) h ha' (i - 1) (by omega) hb' (twoK (l i).k (decide ((len l (i - siz l i)).2 = 0)) (factZ l (i - siz l i)) (factZ l i)) hC
    · exact node_9 A n cap (l i) _ w r i c (i - siz l i - 1) (fun j => factZ l (j + 1)) rfl hP (by omega) h ha' (i - 1) (by omega) hb' (twoK (l i).k (decide ((len l (i - siz l i)).2 = 0)) (factZ l (i - siz l i)) (factZ l i)) hC
end Go.Proofs.YtkpijnodhlonfaaGreatDoor

namespace Go.Proofs.YtkpijnodhlonfaaGreatDoor
open Go.RowKit
open Ast (Nd ndV Nodes siz rightZ)

def knC (f : Nat → FK) (k : Nat) : List Value := (List.range k).flatMap fun i => (knoC (f i)).toList
theorem knC_succ (f : Nat → FK) (k : Nat) : knC f (k + 1) = knC f k ++ (knoC (f k)).toList := by
  unfold knC
  rw [List.range_succ, List.flatMap_append]
  simp
theorem knC_len (f : Nat → FK) : ∀ k, (knC f k).length = k * 8
  | 0 => rfl
  | k + 1 => by rw [knC_succ, List.length_append, knC_len f k]; show k * 8 + 8 = _; omega
theorem knC_at (f : Nat → FK) : ∀ k i j, i < k → j < 8 → (knC f k)[i * 8 + j]? = (knoC (f i))[j]?
  | 0, i, j, h, _ => absurd h (Nat.not_lt_zero _)
  | k + 1, i, j, h, hj => by
    have hl := knC_len f k
    rw [knC_succ]
    by_cases e : i = k
    · subst e
      rw [List.getElem?_append_right (by omega), hl, show i * 8 + j - i * 8 = j by omega, Array.getElem?_toList]
    · rw [List.getElem?_append_left (by omega)]
      exact knC_at f k i j (by omega) hj
theorem KnsAt.of_own {w : World} {base : Nat} {v : Value} {k : Nat} {f : Nat → FK} (h : w.ownsRow base 64 8 v k (knC f k)) (hk : 0 < k) : ∃ r cap, v = .slice (some ⟨r, 0, none⟩) k cap ∧ KnsAt w r k f := by
  obtain ⟨h1, h2⟩ := h
  rcases h2 with ⟨-, h0⟩ | ⟨r, cap, cur, rfl, _, hr, _, _, hsz, hcur⟩
  · omega
  · refine ⟨r, cap, rfl, (Array.getElem?_eq_some_iff.1 hr).1, fun i hi j u hu => ?_⟩
    have hj : j < 8 := (Array.getElem?_eq_some_iff.1 hu).1
    have hc := knC_at f k i j hi hj
    rw [← hcur, List.getElem?_take_of_lt (by omega), Array.getElem?_toList] at hc
    rw [cell_of_row w r _ _ _ _ hr, hc]
    exact hu
theorem own9_call {w w' : World} {base : Nat} {T : TypeId} {size : Nat} {v : Value} {n : Nat} {xs : List Value} (h : w.ownsRow base T size v n xs) (hb : Below w.heap.size w w') : w'.ownsRow base T size v n xs := by
  refine ⟨h.1, ?_⟩
  rcases h.2 with h2 | ⟨r, cap, cur, hv, hr, hh, rest⟩
  · exact .inl h2
  · exact .inr ⟨r, cap, cur, hv, hr, (hb.block r (Array.getElem?_eq_some_iff.1 hh).1).trans hh, rest⟩
theorem kn_cells (w : World) (k : FK) : ∀ j u, ((knoC k).toList)[j]? = some u → (w.alloc (.cells (knoC k) 64)).cell? (Addr.add ⟨w.heap.size, 0, none⟩ j) = some u := by
  intro j u hj
  rw [Addr.add_lit, ← hj]
  unfold World.cell?
  rw [heap_alloc_new]
  simp
theorem infoKn : (Tryz.prog.info? 64).map (fun i => (i.zero, i.size, i.bytes)) = some (some (.agg #[.int .u64 0, .int .u64 0, .int .u64 0, .int .u64 0, .bool false, .bool false, .string ⟨#[]⟩, .bool false]), 8, 64) := by kernel_rfl
theorem make_kns (n : Nat) (hn : n ≤ 1000000) : ∃ Z : Array Value, Z.size = n * 8 ∧ ∀ w, (Instr.makeSlice 62 (.int .i64 0) (.int .i64 (n : Int))).run Tryz.prog w = .ok (.slice (some ⟨w.heap.size, 0, none⟩) 0 n) (w.alloc (.cells Z 64)) := by
  obtain ⟨i, hi, hz, hs, hb⟩ := info_parts infoKn
  refine ⟨madeCells (Value.agg #[.int .u64 0, .int .u64 0, .int .u64 0, .int .u64 0, .bool false, .bool false, .string ⟨#[]⟩, .bool false]).cells (n * 8), size_madeCells _ _, fun w => ?_⟩
  have hr := run_make (P := Tryz.prog) w 62 64 i _ Tryz.underlying62 hi hz .i64 .i64 0 (n : Int) (by omega) (by omega) (by rw [hb]; omega) (by omega)
  rw [hs] at hr
  exact hr
section
variable {P : Program} {ops : Array Oper} {rest : List Oper} {o : Oper} {a : Act} {w : World} {Q : Exit → Act → World → Prop}
/-- The next operation yields v, and leaves another world. -/
theorem lineV (v : Value) (w' : World) (hw : Region.wanted o (yielded ops a.tmps) = true) (hr : (execOp a.eval o).run P w = .ok (.value v) w') (h : wpList P ops Q rest (a.put o.dst v) w') : wpList P ops Q (o :: rest) a w := by
  refine wpList_step fun K hK => ?_
  rw [if_pos hw]
  unfold Oper.wp
  rw [hr, Oper.upon_value]
  exact hK _ _ h
theorem append9_run {w w' : World} {s t : Operand} {T : TypeId} {v v' z : Value} (ho : o.op = .call { callee := .builtin .append, args := #[s, t], argTypes := #[T, T] }) (hs : a.eval s = v) (hx : a.eval t = z) (hr : (Builtin.append_ #[T, T] o.type #[v, z]).run Tryz.prog w = .ok v' w') : (execOp a.eval o).run Tryz.prog w = .ok (.value v') w' := by
  unfold execOp
  simp only [ho, resolve, invoke, builtin, Sem.run_bind, Sem.run_pure, Result.andThen_ok, List.map_toArray, List.map_cons, List.map_nil, hs, hx, hr]
/-- Facts are read out of what is known, and stored. -/
theorem storeFc (hgd : o.guard = none) (x y : Operand) (ho : o.op = .store 31 x y) (g : Nat) (k : FK) (cs : Array Value) (hx : a.eval x = .pointer (some ⟨g, 0, none⟩)) (hy : a.eval y = .agg (facC k)) (hs : cs.size = 7) (hg : BoxV 31 w g cs)
    (h : ∀ u : World, Hid (BoxF u g k) → Hid (∀ B, B ≤ g → Below B w u) → Hid (∀ j, j ≠ g → u.heap[j]? = w.heap[j]?) → wpList Tryz.prog ops Q rest (a.put o.dst undef) u) : wpList Tryz.prog ops Q (o :: rest) a w := by
  refine wpList_store_row hgd 31 x y ho g _ hx hy _ _ hg sizeFc (by rw [hs]; rfl) (by simp [Value.oneCell']) ?_
  exact h _ (Lib.hid (setRow_heap w g _ _ _ _ hg)) (Lib.hid fun B hB => (Below.refl _ w).trans ⟨rfl, rfl, rfl, by simp, fun k hk => setRow_other w g k _ (by omega)⟩) (Lib.hid fun k hk => setRow_other w g k _ hk)
theorem loadFAt_y {R : World → Prop} {x : Operand} (r i : Nat) (k : FK) (hR : ∀ u, R u → KnAt u r i k) (ho : o.op = .load 31 x) (hx : a.eval x = .pointer (some ⟨r, i, none⟩)) (hw : Region.wanted o (yielded ops a.tmps) = true) : YieldsIf Tryz.prog ops R o (.agg (facC k)) a := by
  refine Or.inl ⟨hw, fun u h => ?_⟩
  have h' := hR u h
  have c0 : u.cell? ⟨r, i, none⟩ = _ := h' 0 _ rfl
  have c1 := h' 1 _ rfl
  have c2 := h' 2 _ rfl
  have c3 := h' 3 _ rfl
  have c4 := h' 4 _ rfl
  have c5 := h' 5 _ rfl
  have c6 := h' 6 _ rfl
  unfold execOp
  simp only [ho, hx]
  simp [go_sem, c0, c1, c2, c3, c4, c5, c6]
end
theorem resFI {fn : Func} {p q : Tmp} {k : FK} {v : Value} (h : fn.results = #[.cell p 31, .tmp q]) (tmps : Array Value) {w : World} {g : Nat} (hp : tmps.getD p undef = .pointer (some ⟨g, 0, none⟩)) (hq : tmps.getD q undef = v) (hg : BoxF w g k) :
    (results fn tmps).run Tryz.prog w = .ok (.tuple #[.agg (facC k), v]) w := by
  have hp' : tmps[p]?.getD undef = .pointer (some ⟨g, 0, none⟩) := by simpa using hp
  have hq' : tmps[q]?.getD undef = v := by simpa using hq
  have c0 : w.cell? ⟨g, 0, none⟩ = some (.int .u64 (W k.F 0 : Nat)) := BoxV.get hg 0 rfl
  have c1 : w.cell? ⟨g, 1, none⟩ = some (.int .u64 (W k.F 1 : Nat)) := BoxV.get hg 1 rfl
  have c2 : w.cell? ⟨g, 2, none⟩ = some (.int .u64 (W k.F 2 : Nat)) := BoxV.get hg 2 rfl
  have c3 : w.cell? ⟨g, 3, none⟩ = some (.int .u64 (W k.F 3 : Nat)) := BoxV.get hg 3 rfl
  have c4 : w.cell? ⟨g, 4, none⟩ = some (.bool k.op) := BoxV.get hg 4 rfl
  have c5 : w.cell? ⟨g, 5, none⟩ = some (.bool k.fa) := BoxV.get hg 5 rfl
  have c6 : w.cell? ⟨g, 6, none⟩ = some (.string k.pr) := BoxV.get hg 6 rfl
  simp [results, h, hp', hq', asAddr, go_sem, c0, c1, c2, c3, c4, c5, c6]
/-- The boxes of Of. -/
structure OBx (w0 : World) (A : Option Addr) (n cap : Nat) (w : World) : Prop where
  below : Below w0.heap.size w0 w
  tree : BoxV 24 w w0.heap.size (trC A n cap)
  res : BoxV 31 w (w0.heap.size + 1) (facC zrK)
theorem OBx.call {w0 w w' : World} {A : Option Addr} {n cap : Nat} (h : OBx w0 A n cap w) (hb : Below w.heap.size w w') : OBx w0 A n cap w' :=
  ⟨thenB h.below hb h.below.size, h.tree.below hb h.tree.lt, h.res.below hb h.res.lt⟩
theorem zrF : facC zrK = #[.int .u64 0, .int .u64 0, .int .u64 0, .int .u64 0, .bool false, .bool false, .string ⟨#[]⟩] := by
  show (#[_, _, _, _, _, _, _] : Array Value) = _
  unfold zrK
  simp only [W_zero]
  rfl
theorem OBx.new (w : World) (A : Option Addr) (n cap : Nat) : OBx w A n cap ((w.alloc (.cells (trC A n cap) 24)).alloc (.cells #[.int .u64 0, .int .u64 0, .int .u64 0, .int .u64 0, .bool false, .bool false, .string ⟨#[]⟩] 31)) :=
  ⟨by go_grown, (BoxV.new _ _).alloc _, by rw [zrF]; exact BoxV.new2 _ _ _⟩
/-- What Of tells. -/
abbrev ofV (l : Nat → Nd) (n : Nat) : Value := .tuple #[.agg (facC (if rightZ l n = 0 then factZ l n else zrK)), .int .i64 (rightZ l n)]
set_option maxRecDepth 20000 in
set_option maxHeartbeats 8000000 in
theorem of9_any (hS : Ast.SortOk) (hN : Ast.SortNone) (A : Option Addr) (n cap : Nat) (l : Nat → Nd) (w : World) (hn : n ≤ 1000000) (hl : Nodes w A n l) (hL : LitOk9 l n) (ht : TabOk w) :
    Calls Tryz.prog 10 #[.agg (trC A n cap)] w fun e w' => e = .returned (ofV l n) ∧ Below w.heap.size w w' := by
  have HR := Lib.hid (fun w h => Ast.right_any hS hN A n cap l w hn h)
  have HL := Lib.hid hl
  have HT := Lib.hid ht
  have HX := Lib.hid (OBx.new w A n cap)
  clear hS hN hl ht
  unfold ofV
  by_cases h0 : rightZ l n = 0
  · rw [if_pos h0, h0]
    rw [h0] at HR
    have hz0 : Ast.shapeZ l n = 0 := by
      unfold rightZ at h0
      by_cases h : Ast.shapeZ l n ≠ 0
      · rw [if_pos h] at h0; exact absurd h0 h
      · omega
    obtain ⟨hpos, hsz, hn5⟩ : 0 < n ∧ siz l n = n ∧ n ≤ 500 := by
      have h2 : Ast.formZ l n = 0 := by have h1 := hz0; unfold Ast.shapeZ at h1; split at h1 <;> omega
      have h3 := Ast.form_0 h2
      exact ⟨h3.2.1, h3.2.2, h3.1⟩
    have HSz := Lib.hid (fun j (hj : j < n) => Ast.siz_of_whole hsz hj)
    obtain ⟨Z, hZ, hmk⟩ := make_kns n hn
    obtain ⟨ip, hip⟩ : ∃ i, Hid (Tryz.prog.info? 64 = some i ∧ i.zero = some (.agg #[.int .u64 0, .int .u64 0, .int .u64 0, .int .u64 0, .bool false, .bool false, .string ⟨#[]⟩, .bool false]) ∧ i.size = 8 ∧ i.bytes = 64) := by
      obtain ⟨i, h⟩ := info_parts infoKn
      exact ⟨i, Lib.hid h⟩
    clear h0 hsz
    have HZ0 := Lib.hid hz0
    obtain ⟨K0, hK0⟩ : ∃ K, K = factZ l n := ⟨_, rfl⟩
    rw [← hK0]
    have HK0 := Lib.hid hK0
    clear hz0 hK0
    go_enter Tryz.func10, Tryz.ntmps10
    go_wp2_with fail
    refine (HR.out _ (HL.out.below HX.out.below (Nat.le_refl _))).mono ?_
    rintro e w1 ⟨rfl, h1⟩
    have HX1 := Lib.hid (HX.out.call h1)
    have hc1 : w1.cell? ⟨w.heap.size, 0, none⟩ = some (.slice A n cap) := HX1.out.tree.get 0 rfl
    have hlt1 : w.heap.size < w1.heap.size := HX1.out.tree.lt
    have hc3 := fun o => (((Below.refl w1.heap.size w1).alloc (Nat.le_refl _) o).cell (p := ⟨w.heap.size, 0, none⟩) hlt1).trans hc1
    clear h1 HX
    have HO := Lib.hid (World.ownsRow_made (base := w1.heap.size) (e := 64) (size := 8) w1 Z n (Nat.le_refl _) (by unfold maxLen; omega) hZ)
    go_wp2_with fail
    go_loopw [5, 21] (fun s5 s21 wr => ∃ k : Nat, s21 = .int .i64 k ∧ k ≤ n ∧ (∃ r c, s5 = .slice (some ⟨r, 0, none⟩) k c) ∧ wr.ownsRow w1.heap.size 64 8 s5 k (knC (fun j => factZ l (j + 1)) k) ∧ Below w1.heap.size w1 wr) (fun _ s21 _ => n - (intOf s21).toNat)
    case atStart => exact ⟨0, rfl, Nat.zero_le _, ⟨_, _, rfl⟩, HO.out, (Below.refl _ w1).alloc (Nat.le_refl _) _⟩
    case round =>
      obtain ⟨k, rfl, hk, ⟨r, c, rfl⟩, hown, hb⟩ := hrel
      have HOw := Lib.hid hown
      have HBr := Lib.hid hb
      have HXr := Lib.hid (HX1.out.call hb)
      have HNr := Lib.hid (HL.out.below (HX1.out.below.trans (hb.mono HX1.out.below.size)) (Nat.le_refl _))
      have tc : wr.cell? ⟨w.heap.size, 0, none⟩ = some (.slice A n cap) := HXr.out.tree.get 0 rfl
      clear hown hb
      by_cases hlt : k < n
      · obtain ⟨b, o, rfl, hbw, hx⟩ := HNr.out k hlt
        have r1 : (k : Int) < (n : Int) := by omega
        obtain ⟨c0, c1, c2, c3, c4, c5, c6, c7, c8, c9, c10, c11⟩ := hx
        have tlt : w.heap.size < wr.heap.size := HXr.out.tree.lt
        have tc3 := fun o => (((Below.refl wr.heap.size wr).alloc (Nat.le_refl _) o).cell (p := ⟨w.heap.size, 0, none⟩) tlt).trans tc
        clear hbw
        go_wp2_with fail
        have hbx : Below wr.heap.size wr (wr.alloc (.cells (ndC (l k)) 59)) := (Below.refl _ wr).alloc (Nat.le_refl _) _
        have HBA := Lib.hid (HXr.out.below.trans (hbx.mono HXr.out.below.size))
        have HP : Hid (KnsAt (wr.alloc (.cells (ndC (l k)) 59)) r k (fun j => factZ l (j + 1))) := Lib.hid (by
          by_cases hk0 : 0 < k
          · obtain ⟨r', c', e, h⟩ := KnsAt.of_own HOw.out hk0
            cases e
            exact h.call hbx
          · refine ⟨?_, fun i hi => by omega⟩
            have h := HOw.out.lt r rfl
            exact Nat.lt_of_lt_of_le h.2 hbx.size)
        refine (node9_any _ n cap l k r c _ hn (HL.out.below HBA.out (Nat.le_refl _)) HZ0.out hlt (HSz.out k hlt) hL (HT.out.call HBA.out) HP.out).mono ?_
        rintro e u1 ⟨rfl, hb⟩
        have HXu := Lib.hid ((HXr.out.call hbx).call hb)
        have HOu := Lib.hid (own9_call (own9_call HOw.out hbx) hb)
        have HBu := Lib.hid ((HBr.out.trans (hbx.mono HBr.out.size)).trans (hb.mono (Nat.le_trans HBr.out.size hbx.size)))
        have hKs := knC_succ (fun j => factZ l (j + 1)) k
        simp only at hKs
        clear hb hbx HP HBA HBr HOw HXr tc tlt tc3 c0 c1 c2 c3 c4 c5 c6 c7 c8 c9 c10 c11
        generalize factZ l (k + 1) = K at hKs ⊢
        have HKs := Lib.hid hKs
        clear hKs
        have hSa : Below u1.heap.size u1 (u1.alloc (.cells (knoC K) 64)) := (Below.refl _ u1).alloc (Nat.le_refl _) _
        have hOa := own9_call HOu.out hSa
        obtain ⟨v2, w3, hrun, hown2, hgr, -⟩ := run_append_own (w := u1.alloc (.cells (knoC K) 64)) w1.heap.size 62 62 64 ip _ 8 64 Tryz.underlying62 hip.out.1 hip.out.2.1 hip.out.2.2.1 hip.out.2.2.2 rfl (by decide) (.slice (some ⟨r, 0, none⟩) k c) k (knC (fun j => factZ l (j + 1)) k) hOa ⟨u1.heap.size, 0, none⟩ 1 1 (knoC K).toList rfl
          (kn_cells u1 K) (by intro v hv; simp at hv; rcases hv with rfl | rfl | rfl | rfl | rfl | rfl | rfl | rfl <;> rfl) (by unfold maxLen; omega) (by omega) (Nat.le_trans HBu.out.size hSa.size)
        have HS2 := Lib.hid (show Below w1.heap.size w1 w3 from (HBu.out.trans (hSa.mono HBu.out.size)).grown hgr (Nat.le_trans HBu.out.size hSa.size) (fun g hg => (hOa.lt g hg).1))
        have HO2 := Lib.hid (show w3.ownsRow w1.heap.size 64 8 v2 (k + 1) (knC (fun j => factZ l (j + 1)) (k + 1)) by rw [HKs.out]; exact hown2)
        obtain ⟨r2, cp2, e2, -⟩ := KnsAt.of_own HO2.out (Nat.succ_pos k)
        subst e2
        clear hown2 hgr hOa hSa HOu HBu HXu HKs
        go_wp2_with (refine lineV (.slice (some ⟨u1.heap.size, 0, none⟩) 1 1) (u1.alloc (.cells (knoC K) 64)) (by rfl) (by kernel_rfl) ?_; refine lineV _ w3 (by rfl) (append9_run rfl rfl rfl hrun) ?_; refine StopS.out ?_)
        refine ⟨?_⟩
        clear hrun
        go_wp2_with fail
        refine ⟨⟨k + 1, rfl, hlt, ⟨_, _, rfl⟩, HO2.out, HS2.out⟩, ?_⟩
        simp [intOf]; omega
      · obtain rfl : k = n := by omega
        obtain ⟨r', cp, hv, hP⟩ := KnsAt.of_own HOw.out hpos
        cases hv
        have q1 : (k : Int) - 1 = ((k - 1 : Nat) : Int) := by omega
        have z0 : (0 : Int) ≤ ((k - 1 : Nat) : Int) := by omega
        have z1 : ((k - 1 : Nat) : Int) < (k : Int) := by omega
        have hK := hP.2 (k - 1) (by omega)
        simp only [show k - 1 + 1 = k by omega] at hK
        rw [← HK0.out] at hK
        have HK := Lib.hid hK
        clear hK hP tc
        go_wp2_with (refine lineY (S := fun u => KnAt u r ((k - 1) * 8) K0) (.agg (facC K0)) (loadFAt_y r ((k - 1) * 8) K0 (fun _ h => h) rfl rfl (by rfl)) HK.out ?_; refine StopS.out ?_)
        refine ⟨?_⟩
        try simp only [Act.put, List.setIfInBounds_toArray, List.set_cons_zero, List.set_cons_succ]
        go_wp2_with (refine storeFc rfl _ _ rfl (w.heap.size + 1) K0 _ rfl rfl (by rfl) HXr.out.res ?_; intro u9 hx9 hB9 _; refine StopS.out ?_)
        refine ⟨?_⟩
        go_wp2
        refine bodyPost_ret (resFI (p := 2) (q := 3) (v := .int .i64 0) rfl _ (g := w.heap.size + 1) rfl rfl hx9.out) rfl ⟨rfl, ?_⟩
        exact HXr.out.below.trans (hB9.out _ (by omega))
  · rw [if_neg h0]
    have q : (rightZ l n == 0) = false := beq_eq_false_iff_ne.2 h0
    generalize rightZ l n = z at HR q ⊢
    clear h0
    go_enter Tryz.func10, Tryz.ntmps10
    go_wp2_with fail
    refine (HR.out _ (HL.out.below HX.out.below (Nat.le_refl _))).mono ?_
    rintro e w1 ⟨rfl, h1⟩
    have HX1 := Lib.hid (HX.out.call h1)
    clear h1 HX
    have hy : ∀ a : Act, (Value.agg #[Value.int .u64 0, Value.int .u64 0, Value.int .u64 0, Value.int .u64 0, Value.bool false, Value.bool false, Value.string ⟨#[]⟩]) = .agg (facC zrK) := fun _ => by rw [zrF]
    go_wp2_with (refine storeFc rfl _ _ rfl (w.heap.size + 1) zrK _ rfl (hy ⟨#[], []⟩) (by rfl) HX1.out.res ?_; intro u9 hx9 hB9 _; refine StopS.out ?_)
    refine ⟨?_⟩
    go_wp2
    refine bodyPost_ret (resFI (p := 2) (q := 3) (v := .int .i64 z) rfl _ (g := w.heap.size + 1) rfl rfl hx9.out) rfl ⟨rfl, ?_⟩
    exact HX1.out.below.trans (hB9.out _ (by omega))
end Go.Proofs.YtkpijnodhlonfaaGreatDoor
