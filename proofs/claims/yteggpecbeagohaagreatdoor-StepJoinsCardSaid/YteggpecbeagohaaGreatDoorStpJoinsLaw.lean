import Derived.Test.YteggpecbeagohaaGreatDoorStpTreeM
import Derived.Test.YteggpecbeagohaaGreatDoorStpOpen
import Derived.Test.YteggpecbeagohaaGreatDoorStpFix
import Derived.Test.YteggpecbeagohaaGreatDoorMz
namespace Go.Proofs.YteggpecbeagohaaGreatDoor.Stp
open Go.RowKit
open Frm (Fr Pl frC frL frI dpI putF zF Wf mayF idF I64 ptr slc plL plC loadFr storeFr resFB getF sizeFr owns_block)
open Cap (Cp cpC zrC withZ agN agB byB)
open Ast (Nd At12 NodesAt kidsZ Nodes)
theorem c2_0 (x y : Cf) {j : Nat} {v : Value} (h : (cfL x)[j]? = some v) : (cf2A x y)[0 + j]? = some v := by
 rw [Nat.zero_add, cf2A, List.getElem?_toArray, List.getElem?_append_left (by
  rcases Nat.lt_or_ge j (cfL x).length with q | q
  ·exact q
  ·rw [List.getElem?_eq_none q] at h; cases h)]
 exact h
theorem c2_1 (x y : Cf) {j : Nat} {v : Value} (h : (cfL y)[j]? = some v) : (cf2A x y)[29 + j]? = some v := by
 rw [cf2A, List.getElem?_toArray, List.getElem?_append_right (by rw [cfL_len]; omega), cfL_len, show 29 + j - 29 = j by omega]
 exact h
section
variable {ops : Array Oper} {rest : List Oper} {o : Oper} {a : Act} {w : World} {Q : Exit → Act → World → Prop} {x y : Operand} {R : World → Prop}
theorem boxC2 (x : Operand) (ho : o.op = .box 29 x) (c d : Cf) (hx : a.eval x = .agg (cf2A c d)) (hw : Region.wanted o (yielded ops a.tmps) = true)
  (h : ∀ u, Hid (New 29 (cf2A c d) w u) → wpList Tryz.prog ops Q rest (a.put o.dst (.pointer (some ⟨w.heap.size, 0, none⟩))) u) : wpList Tryz.prog ops Q (o :: rest) a w :=
 lineW _ _ hw (by unfold execOp; simp only [ho, hx]; rfl) (h _ (Lib.hid (New.of _ _ _)))
theorem load0 (hgd : o.guard = none) (x : Operand) (ho : o.op = .load 28 x) (g : Nat) (c d : Cf) (hx : a.eval x = .pointer (some ⟨g, 0, none⟩)) (hg : Frm.BoxV 29 w g (cf2A c d))
  (h : wpList Tryz.prog ops Q rest (a.put o.dst (.agg (cfA c))) w) : wpList Tryz.prog ops Q (o :: rest) a w :=
 wpList_load_mid hgd 28 x ho g 0 hx (cfL c) _ (fun _ _ hv => hg.get _ (c2_0 c d hv)) Tryz.underlying28 rfl sizeCf h
theorem load1 (hgd : o.guard = none) (x : Operand) (ho : o.op = .load 28 x) (g : Nat) (c d : Cf) (hx : a.eval x = .pointer (some ⟨g, 29, none⟩)) (hg : Frm.BoxV 29 w g (cf2A c d))
  (h : wpList Tryz.prog ops Q rest (a.put o.dst (.agg (cfA d))) w) : wpList Tryz.prog ops Q (o :: rest) a w :=
 wpList_load_mid hgd 28 x ho g 29 hx (cfL d) _ (fun _ _ hv => hg.get _ (c2_1 c d hv)) Tryz.underlying28 rfl sizeCf h
theorem ld0_y (g : Nat) (c d : Cf) (hR : ∀ u, R u → Frm.BoxV 29 u g (cf2A c d)) (ho : o.op = .load 28 x) (hx : a.eval x = .pointer (some ⟨g, 0, none⟩)) (hw : Region.wanted o (yielded ops a.tmps) = true) : YieldsIf Tryz.prog ops R o (.agg (cfA c)) a :=
 yieldsIf_load_mid hw 28 x ho g 0 hx (cfL c) _ (fun u h _ _ hv => (hR u h).get _ (c2_0 c d hv)) Tryz.underlying28 rfl sizeCf
theorem ld1_y (g : Nat) (c d : Cf) (hR : ∀ u, R u → Frm.BoxV 29 u g (cf2A c d)) (ho : o.op = .load 28 x) (hx : a.eval x = .pointer (some ⟨g, 29, none⟩)) (hw : Region.wanted o (yielded ops a.tmps) = true) : YieldsIf Tryz.prog ops R o (.agg (cfA d)) a :=
 yieldsIf_load_mid hw 28 x ho g 29 hx (cfL d) _ (fun u h _ _ hv => (hR u h).get _ (c2_1 c d hv)) Tryz.underlying28 rfl sizeCf
theorem ldRf_y (g : Nat) (c : Cf) (hR : ∀ u, R u → Frm.BoxV 34 u g (cfA c)) (ho : o.op = .load 34 x) (hx : a.eval x = .pointer (some ⟨g, 0, none⟩)) (hw : Region.wanted o (yielded ops a.tmps) = true) : YieldsIf Tryz.prog ops R o (.agg (cfA c)) a := by
 refine Or.inl ⟨hw, fun u h => ?_⟩
 unfold execOp
 simp only [ho, hx, Instr.loadAt, Instr.sureAddr, Sem.run_bind, Sem.run_pure, Result.andThen_ok, run_loadVar_row u g _ _ _ _ _ (hR u h) Tryz.underlying34 rfl sizeRf]
theorem eqRf_y (c : Cf) (ho : o.op = .binOp .eql 34 x y 34) (hx : a.eval x = .agg (cfA c)) (hy : a.eval y = .agg (cfA c)) (hw : Region.wanted o (yielded ops a.tmps) = true) : YieldsIf Tryz.prog ops R o (.bool true) a := by
 refine Or.inl ⟨hw, fun u _ => ?_⟩
 unfold execOp
 simp only [ho, hx, hy]
 simp [go_sem, eqlRf]
theorem eqBo_y (z : Bool) (ho : o.op = .binOp .eql 4 x y 4) (hx : a.eval x = .bool z) (hy : a.eval y = .bool z) (hw : Region.wanted o (yielded ops a.tmps) = true) : YieldsIf Tryz.prog ops R o (.bool true) a := by
 refine Or.inl ⟨hw, fun u _ => ?_⟩
 unfold execOp
 simp only [ho, hx, hy]
 simp [go_sem]
end
set_option maxRecDepth 100000 in
set_option maxHeartbeats 8000000 in
theorem joins_any (K : PKit) (hLib : Cap.LibA) (hCl : Cap.CloneOk) (h : Int) (x y : Cf) (is : Bool) (w : World) (hw : Tabs w) : Calls Tryz.prog 3 #[.int .i64 h, .agg (cf2A x y), .bool is] w fun e w' => e = .returned (.bool true) ∧ Below w.heap.size w w' := by
 have FX := Lib.hid (fun u hu => fixed_any K hLib hCl u hu)
 have HW := Lib.hid hw
 clear K hLib hCl hw
 go_enter Tryz.func3, Tryz.ntmps3
 go_wp2_with (refine boxC2 _ rfl x y rfl (by rfl) ?_)
 intro u1 X1
 go_wp2_with (first | refine load0 rfl _ rfl w.heap.size x y rfl X1.out.box ?_ | refine load1 rfl _ rfl w.heap.size x y rfl X1.out.box ?_)
 refine (join_any h x y is u1).mono ?_
 rintro e u2 ⟨rfl, hB⟩
 obtain ⟨J, hJ⟩ : ∃ J, joinZ h x y is = J := ⟨_, rfl⟩
 rw [hJ]
 have HJ := Lib.hid hJ
 have L2 := Lib.hid (X1.out.low.trans (hB.mono (by have := X1.out.size; omega)))
 have B2 := Lib.hid (X1.out.box.below hB X1.out.box.lt)
 have Z2 := Lib.hid (show w.heap.size < u2.heap.size by have := X1.out.size; have := hB.size; omega)
 clear hB hJ X1
 obtain ⟨j, g⟩ := J
 go_wp2_with (refine allocCf rfl (by rfl) ?_)
 intro u3 X3
 go_wp2_with (refine putCf rfl _ _ rfl u2.heap.size j (cfA zCf) rfl rfl (cfA_size _) X3.out.box ?_)
 intro u4 X4
 have H4 := Lib.hid (show Has [(28, u2.heap.size, cfA j), (29, w.heap.size, cf2A x y)] u4 from Has.more ⟨B2.out, trivial⟩ X3.out X4.out)
 have L4 := Lib.hid ((L2.out.trans (X3.out.low.mono (by have := Z2.out; omega))).trans (X4.out.low _ (by have := Z2.out; omega)))
 have Z4 := Lib.hid (show u2.heap.size < u4.heap.size by have := X3.out.size; have := X4.out.size; omega)
 clear B2 L2 X3 X4
 go_wp2_with fail
 have hS : Has [(28, u2.heap.size, cfA j), (29, w.heap.size, cf2A x y)] u4.drew := H4.out.call (Below.refl _ u4).drew
 have L5 := Lib.hid (show Below w.heap.size w u4.drew from L4.out.trans ((Below.refl u4.heap.size u4).drew.mono L4.out.size))
 have Z5 := Lib.hid (show u2.heap.size < u4.drew.heap.size from Z4.out)
 clear H4 L4
 refine wp_region_held_drew (S := Has [(28, u2.heap.size, cfA j), (29, w.heap.size, cf2A x y)]) (by kernel_rfl) hS (fun _ => ?_)
 refine takeAt 0 22 (.int .i64 h) rfl rfl (by kernel_rfl) (by kernel_rfl) (by kernel_rfl) i_ (yields (by rfl) (fun w => by kernel_rfl)) hS ?_
 simp only [Act.put, sA_, s0_, sS_]
 refine takeAt 1 23 (.pointer (some ⟨w.heap.size, 0, none⟩)) rfl rfl (by kernel_rfl) (by kernel_rfl) (by kernel_rfl) i_ (yields (by rfl) (fun w => by kernel_rfl)) hS ?_
 simp only [Act.put, sA_, s0_, sS_]
 refine takeAt 2 24 (.agg (cfA x)) rfl rfl (by kernel_rfl) (by kernel_rfl) (by kernel_rfl) i_ (ld0_y w.heap.size x y (fun _ h => h.2.1) rfl rfl (by rfl)) hS ?_
 simp only [Act.put, sA_, s0_, sS_]
 refine takeAt 4 26 (.pointer (some ⟨w.heap.size, 29, none⟩)) rfl rfl (by kernel_rfl) (by kernel_rfl) (by kernel_rfl) i_ (yields (by rfl) (fun w => by kernel_rfl)) hS ?_
 simp only [Act.put, sA_, s0_, sS_]
 refine takeAt 5 27 (.agg (cfA y)) rfl rfl (by kernel_rfl) (by kernel_rfl) (by kernel_rfl) i_ (ld1_y w.heap.size x y (fun _ h => h.2.1) rfl rfl (by rfl)) hS ?_
 simp only [Act.put, sA_, s0_, sS_]
 refine takeAt 7 29 (.bool is) rfl rfl (by kernel_rfl) (by kernel_rfl) (by kernel_rfl) i_ (yields (by rfl) (fun w => by kernel_rfl)) hS ?_
 simp only [Act.put, sA_, s0_, sS_]
 obtain ⟨wA1, eA⟩ : ∃ q, u4.drew.alloc (.cells (cfA zCf) 34) = q := ⟨_, rfl⟩
 have NA := Lib.hid (show New 34 _ u4.drew wA1 from eA ▸ New.of _ _ _)
 refine wpAnyH_ready (rs := [3, 12]) (by kernel_rfl) (by simp) (AllReadyH.cons rfl (callStep 3 25 rfl (by rfl) (by kernel_rfl) (conf_any x _) ?_) (AllReadyH.cons rfl (valStep 12 9 (.pointer (some ⟨u4.drew.heap.size, 0, none⟩)) wA1 rfl (by rfl) (by rw [← eA]; kernel_rfl) (hS.call NA.out.low) ?_) AllReadyH.nil))
 ·clear NA eA
  rintro e v1 ⟨rfl, hB⟩
  have hS1 := hS.call hB
  have L1x := Lib.hid (L5.out.trans (hB.mono L5.out.size))
  clear hB
  refine ⟨_, rfl, hS1, ?_⟩
  simp only [Act.put, sA_, s0_, sS_]
  obtain ⟨wA2, eA⟩ : ∃ q, v1.alloc (.cells (cfA zCf) 34) = q := ⟨_, rfl⟩
  have NA := Lib.hid (show New 34 _ v1 wA2 from eA ▸ New.of _ _ _)
  refine wpAnyH_ready (rs := [6, 12]) (by kernel_rfl) (by simp) (AllReadyH.cons rfl (callStep 6 28 rfl (by rfl) (by kernel_rfl) (conf_any y _) ?_) (AllReadyH.cons rfl (valStep 12 9 (.pointer (some ⟨v1.heap.size, 0, none⟩)) wA2 rfl (by rfl) (by rw [← eA]; kernel_rfl) (hS1.call NA.out.low) ?_) AllReadyH.nil))
  ·clear NA eA
   rintro e v2 ⟨rfl, hB⟩
   have hS2 := hS1.call hB
   have L2x := Lib.hid (L1x.out.trans (hB.mono L1x.out.size))
   clear hB
   refine ⟨_, rfl, hS2, ?_⟩
   simp only [Act.put, sA_, s0_, sS_]
   obtain ⟨wA3, eA⟩ : ∃ q, v2.alloc (.cells (cfA zCf) 34) = q := ⟨_, rfl⟩
   have NA := Lib.hid (show New 34 _ v2 wA3 from eA ▸ New.of _ _ _)
   refine wpAnyH_ready (rs := [8, 12]) (by kernel_rfl) (by simp) (AllReadyH.cons rfl (callStep 8 30 rfl (by rfl) (by kernel_rfl) (rjoin_any h x y is _) ?_) (AllReadyH.cons rfl (valStep 12 9 (.pointer (some ⟨v2.heap.size, 0, none⟩)) wA3 rfl (by rfl) (by rw [← eA]; kernel_rfl) (hS2.call NA.out.low) ?_) AllReadyH.nil))
   ·clear NA eA
    rintro e v3 ⟨rfl, hB⟩
    rw [HJ.out]
    have hS3 := hS2.call hB
    have L3x := Lib.hid (L2x.out.trans (hB.mono L2x.out.size))
    clear hB
    refine ⟨_, rfl, hS3, ?_⟩
    simp only [Act.put, sA_, s0_, sS_]
    obtain ⟨wA4, eA⟩ : ∃ q, v3.alloc (.cells (cfA zCf) 34) = q := ⟨_, rfl⟩
    have NA := Lib.hid (show New 34 _ v3 wA4 from eA ▸ New.of _ _ _)
    refine takeAt 9 21 (.tuple #[.agg (cfA j), .bool g]) rfl rfl (by kernel_rfl) (by kernel_rfl) (by kernel_rfl) i_ (yields (by rfl) (fun w => by kernel_rfl)) hS3 ?_
    simp only [Act.put, sA_, s0_, sS_]
    refine takeAt 10 31 (.agg (cfA j)) rfl rfl (by kernel_rfl) (by kernel_rfl) (by kernel_rfl) i_ (yields (by rfl) (fun w => by kernel_rfl)) hS3 ?_
    simp only [Act.put, sA_, s0_, sS_]
    refine takeAt 11 32 (.bool g) rfl rfl (by kernel_rfl) (by kernel_rfl) (by kernel_rfl) i_ (yields (by rfl) (fun w => by kernel_rfl)) hS3 ?_
    simp only [Act.put, sA_, s0_, sS_]
    have hSq : Has [(28, u2.heap.size, cfA j), (29, w.heap.size, cf2A x y)] wA4 := hS3.call NA.out.low
    refine valAt 12 9 (.pointer (some ⟨v3.heap.size, 0, none⟩)) wA4 rfl rfl (by kernel_rfl) (by rfl) (by rw [← eA]; kernel_rfl) hSq ?_
    simp only [Act.put, sA_, s0_, sS_]
    clear hSq
    have FA := Lib.hid NA.out.box
    have hSA : Has [(28, u2.heap.size, cfA j), (29, w.heap.size, cf2A x y)] wA4 := hS3.call NA.out.low
    have LAx := Lib.hid (L3x.out.trans (NA.out.low.mono L3x.out.size))
    have GA := Lib.hid (And.intro hS3.lt L3x.out.size)
    clear NA eA
    obtain ⟨uz, ez, PZ⟩ := stRf_run v3.heap.size zCf j FA.out
    have hSz : Has [(28, u2.heap.size, cfA j), (29, w.heap.size, cf2A x y)] uz := has_put PZ GA.out.1 hSA
    refine skipAt 13 uz rfl rfl (by kernel_rfl) (by rfl) (ez _ _ _ _ rfl rfl rfl) hSz ?_
    refine takeAt 14 10 (.bool g) rfl rfl (by kernel_rfl) (by kernel_rfl) (by kernel_rfl) i_ (yields (by rfl) (fun w => by kernel_rfl)) hSz ?_
    simp only [Act.put, sA_, s0_, sS_]
    refine wpAnyH_done (by kernel_rfl) ?_ _
    have H9 := Lib.hid (show Has [(34, v3.heap.size, cfA j), (28, u2.heap.size, cfA j)] uz from ⟨PZ.box, hSz.1, trivial⟩)
    have L9 := Lib.hid (LAx.out.trans (PZ.low _ GA.out.2))
    clear hSz PZ ez HJ
    go_wp2_with fail
    have hSy : Has [(34, v3.heap.size, cfA j), (28, u2.heap.size, cfA j)] uz.drew := H9.out.call (Below.refl _ uz).drew
    have LA := Lib.hid (show Below w.heap.size w uz.drew from L9.out.trans ((Below.refl uz.heap.size uz).drew.mono L9.out.size))
    clear H9 L9
    refine wp_region_held_drew (S := Has [(34, v3.heap.size, cfA j), (28, u2.heap.size, cfA j)]) (by kernel_rfl) hSy (fun _ => ?_)
    refine takeAt 0 33 (.agg (cfA j)) rfl rfl (by kernel_rfl) (by kernel_rfl) (by kernel_rfl) i_ (ldCf_y u2.heap.size j (fun _ h => h.2.1) rfl rfl (by rfl)) hSy ?_
    simp only [Act.put, sA_, s0_, sS_]
    refine takeAt 2 35 (.agg (cfA j)) rfl rfl (by kernel_rfl) (by kernel_rfl) (by kernel_rfl) i_ (ldRf_y v3.heap.size j (fun _ h => h.1) rfl rfl (by rfl)) hSy ?_
    simp only [Act.put, sA_, s0_, sS_]
    refine callAt 1 34 rfl rfl (by kernel_rfl) (by rfl) (by kernel_rfl) (conf_any j _) ?_
    rintro e ua ⟨rfl, hB⟩
    have hSa := hSy.call hB
    have LB := Lib.hid (LA.out.trans (hB.mono LA.out.size))
    clear hB
    refine ⟨_, rfl, hSa, ?_⟩
    simp only [Act.put, sA_, s0_, sS_]
    refine takeAt 3 36 (.bool true) rfl rfl (by kernel_rfl) (by kernel_rfl) (by kernel_rfl) i_ (eqRf_y j rfl rfl rfl (by rfl)) hSa ?_
    simp only [Act.put, sA_, s0_, sS_]
    refine takeAt 4 37 (.bool true) rfl rfl (by kernel_rfl) (by kernel_rfl) (by kernel_rfl) i_ (yields (by rfl) (fun w => by kernel_rfl)) hSa ?_
    simp only [Act.put, sA_, s0_, sS_]
    refine takeAt 5 38 (.bool g) rfl rfl (by kernel_rfl) (by kernel_rfl) (by kernel_rfl) i_ (yields (by rfl) (fun w => by kernel_rfl)) hSa ?_
    simp only [Act.put, sA_, s0_, sS_]
    refine takeAt 6 39 (.bool g) rfl rfl (by kernel_rfl) (by kernel_rfl) (by kernel_rfl) i_ (yields (by rfl) (fun w => by kernel_rfl)) hSa ?_
    simp only [Act.put, sA_, s0_, sS_]
    refine takeAt 7 40 (.bool true) rfl rfl (by kernel_rfl) (by kernel_rfl) (by kernel_rfl) i_ (eqBo_y g rfl rfl rfl (by rfl)) hSa ?_
    simp only [Act.put, sA_, s0_, sS_]
    refine takeAt 8 41 (.bool true) rfl rfl (by kernel_rfl) (by kernel_rfl) (by kernel_rfl) i_ (yields (by rfl) (fun w => by kernel_rfl)) hSa ?_
    simp only [Act.put, sA_, s0_, sS_]
    refine takeAt 9 42 (.bool true) rfl rfl (by kernel_rfl) (by kernel_rfl) (by kernel_rfl) i_ (yields (by rfl) (fun w => by kernel_rfl)) hSa ?_
    simp only [Act.put, sA_, s0_, sS_]
    refine callAt 10 43 rfl rfl (by kernel_rfl) (by rfl) (by kernel_rfl) (FX.out ua (HW.out.call LB.out)) ?_
    rintro e ub ⟨rfl, hB⟩
    have hSb := hSa.call hB
    have LC := Lib.hid (LB.out.trans (hB.mono LB.out.size))
    clear hB
    refine ⟨_, rfl, hSb, ?_⟩
    simp only [Act.put, sA_, s0_, sS_]
    refine takeAt 11 44 (.bool true) rfl rfl (by kernel_rfl) (by kernel_rfl) (by kernel_rfl) i_ (yields (by rfl) (fun w => by kernel_rfl)) hSb ?_
    simp only [Act.put, sA_, s0_, sS_]
    refine takeAt 12 6 (.bool true) rfl rfl (by kernel_rfl) (by kernel_rfl) (by kernel_rfl) i_ (yields (by rfl) (fun w => by kernel_rfl)) hSb ?_
    simp only [Act.put, sA_, s0_, sS_]
    refine wpAnyH_done (by kernel_rfl) ?_ _
    clear hSy hSa hSb
    go_wp2_with fail
    go_ret
    exact ⟨rfl, LC.out⟩
   ·have FA := Lib.hid NA.out.box
    have hSA : Has [(28, u2.heap.size, cfA j), (29, w.heap.size, cf2A x y)] wA3 := hS2.call NA.out.low
    have LAx := Lib.hid (L2x.out.trans (NA.out.low.mono L2x.out.size))
    have GA := Lib.hid (And.intro hS2.lt L2x.out.size)
    clear NA eA
    simp only [Act.put, sA_, s0_, sS_]
    refine callAt 8 30 rfl rfl (by kernel_rfl) (by rfl) (by kernel_rfl) (rjoin_any h x y is _) ?_
    rintro e v4 ⟨rfl, hB⟩
    rw [HJ.out]
    have hS4 := hSA.call hB
    have L4x := Lib.hid (LAx.out.trans (hB.mono LAx.out.size))
    have F4 := Lib.hid (FA.out.below hB FA.out.lt)
    clear hB
    refine ⟨_, rfl, hS4, ?_⟩
    simp only [Act.put, sA_, s0_, sS_]
    refine takeAt 9 21 (.tuple #[.agg (cfA j), .bool g]) rfl rfl (by kernel_rfl) (by kernel_rfl) (by kernel_rfl) i_ (yields (by rfl) (fun w => by kernel_rfl)) hS4 ?_
    simp only [Act.put, sA_, s0_, sS_]
    refine takeAt 10 31 (.agg (cfA j)) rfl rfl (by kernel_rfl) (by kernel_rfl) (by kernel_rfl) i_ (yields (by rfl) (fun w => by kernel_rfl)) hS4 ?_
    simp only [Act.put, sA_, s0_, sS_]
    refine takeAt 11 32 (.bool g) rfl rfl (by kernel_rfl) (by kernel_rfl) (by kernel_rfl) i_ (yields (by rfl) (fun w => by kernel_rfl)) hS4 ?_
    simp only [Act.put, sA_, s0_, sS_]
    obtain ⟨uz, ez, PZ⟩ := stRf_run v2.heap.size zCf j F4.out
    have hSz : Has [(28, u2.heap.size, cfA j), (29, w.heap.size, cf2A x y)] uz := has_put PZ GA.out.1 hS4
    refine skipAt 13 uz rfl rfl (by kernel_rfl) (by rfl) (ez _ _ _ _ rfl rfl rfl) hSz ?_
    refine takeAt 14 10 (.bool g) rfl rfl (by kernel_rfl) (by kernel_rfl) (by kernel_rfl) i_ (yields (by rfl) (fun w => by kernel_rfl)) hSz ?_
    simp only [Act.put, sA_, s0_, sS_]
    refine wpAnyH_done (by kernel_rfl) ?_ _
    have H9 := Lib.hid (show Has [(34, v2.heap.size, cfA j), (28, u2.heap.size, cfA j)] uz from ⟨PZ.box, hSz.1, trivial⟩)
    have L9 := Lib.hid (L4x.out.trans (PZ.low _ GA.out.2))
    clear hSz PZ ez HJ
    go_wp2_with fail
    have hSy : Has [(34, v2.heap.size, cfA j), (28, u2.heap.size, cfA j)] uz.drew := H9.out.call (Below.refl _ uz).drew
    have LA := Lib.hid (show Below w.heap.size w uz.drew from L9.out.trans ((Below.refl uz.heap.size uz).drew.mono L9.out.size))
    clear H9 L9
    refine wp_region_held_drew (S := Has [(34, v2.heap.size, cfA j), (28, u2.heap.size, cfA j)]) (by kernel_rfl) hSy (fun _ => ?_)
    refine takeAt 0 33 (.agg (cfA j)) rfl rfl (by kernel_rfl) (by kernel_rfl) (by kernel_rfl) i_ (ldCf_y u2.heap.size j (fun _ h => h.2.1) rfl rfl (by rfl)) hSy ?_
    simp only [Act.put, sA_, s0_, sS_]
    refine takeAt 2 35 (.agg (cfA j)) rfl rfl (by kernel_rfl) (by kernel_rfl) (by kernel_rfl) i_ (ldRf_y v2.heap.size j (fun _ h => h.1) rfl rfl (by rfl)) hSy ?_
    simp only [Act.put, sA_, s0_, sS_]
    refine callAt 1 34 rfl rfl (by kernel_rfl) (by rfl) (by kernel_rfl) (conf_any j _) ?_
    rintro e ua ⟨rfl, hB⟩
    have hSa := hSy.call hB
    have LB := Lib.hid (LA.out.trans (hB.mono LA.out.size))
    clear hB
    refine ⟨_, rfl, hSa, ?_⟩
    simp only [Act.put, sA_, s0_, sS_]
    refine takeAt 3 36 (.bool true) rfl rfl (by kernel_rfl) (by kernel_rfl) (by kernel_rfl) i_ (eqRf_y j rfl rfl rfl (by rfl)) hSa ?_
    simp only [Act.put, sA_, s0_, sS_]
    refine takeAt 4 37 (.bool true) rfl rfl (by kernel_rfl) (by kernel_rfl) (by kernel_rfl) i_ (yields (by rfl) (fun w => by kernel_rfl)) hSa ?_
    simp only [Act.put, sA_, s0_, sS_]
    refine takeAt 5 38 (.bool g) rfl rfl (by kernel_rfl) (by kernel_rfl) (by kernel_rfl) i_ (yields (by rfl) (fun w => by kernel_rfl)) hSa ?_
    simp only [Act.put, sA_, s0_, sS_]
    refine takeAt 6 39 (.bool g) rfl rfl (by kernel_rfl) (by kernel_rfl) (by kernel_rfl) i_ (yields (by rfl) (fun w => by kernel_rfl)) hSa ?_
    simp only [Act.put, sA_, s0_, sS_]
    refine takeAt 7 40 (.bool true) rfl rfl (by kernel_rfl) (by kernel_rfl) (by kernel_rfl) i_ (eqBo_y g rfl rfl rfl (by rfl)) hSa ?_
    simp only [Act.put, sA_, s0_, sS_]
    refine takeAt 8 41 (.bool true) rfl rfl (by kernel_rfl) (by kernel_rfl) (by kernel_rfl) i_ (yields (by rfl) (fun w => by kernel_rfl)) hSa ?_
    simp only [Act.put, sA_, s0_, sS_]
    refine takeAt 9 42 (.bool true) rfl rfl (by kernel_rfl) (by kernel_rfl) (by kernel_rfl) i_ (yields (by rfl) (fun w => by kernel_rfl)) hSa ?_
    simp only [Act.put, sA_, s0_, sS_]
    refine callAt 10 43 rfl rfl (by kernel_rfl) (by rfl) (by kernel_rfl) (FX.out ua (HW.out.call LB.out)) ?_
    rintro e ub ⟨rfl, hB⟩
    have hSb := hSa.call hB
    have LC := Lib.hid (LB.out.trans (hB.mono LB.out.size))
    clear hB
    refine ⟨_, rfl, hSb, ?_⟩
    simp only [Act.put, sA_, s0_, sS_]
    refine takeAt 11 44 (.bool true) rfl rfl (by kernel_rfl) (by kernel_rfl) (by kernel_rfl) i_ (yields (by rfl) (fun w => by kernel_rfl)) hSb ?_
    simp only [Act.put, sA_, s0_, sS_]
    refine takeAt 12 6 (.bool true) rfl rfl (by kernel_rfl) (by kernel_rfl) (by kernel_rfl) i_ (yields (by rfl) (fun w => by kernel_rfl)) hSb ?_
    simp only [Act.put, sA_, s0_, sS_]
    refine wpAnyH_done (by kernel_rfl) ?_ _
    clear hSy hSa hSb
    go_wp2_with fail
    go_ret
    exact ⟨rfl, LC.out⟩
  ·have FA := Lib.hid NA.out.box
   have hSA : Has [(28, u2.heap.size, cfA j), (29, w.heap.size, cf2A x y)] wA2 := hS1.call NA.out.low
   have LAx := Lib.hid (L1x.out.trans (NA.out.low.mono L1x.out.size))
   have GA := Lib.hid (And.intro hS1.lt L1x.out.size)
   clear NA eA
   simp only [Act.put, sA_, s0_, sS_]
   refine callAt 6 28 rfl rfl (by kernel_rfl) (by rfl) (by kernel_rfl) (conf_any y _) ?_
   rintro e v3 ⟨rfl, hB⟩
   have hS3 := hSA.call hB
   have L3x := Lib.hid (LAx.out.trans (hB.mono LAx.out.size))
   have F3 := Lib.hid (FA.out.below hB FA.out.lt)
   clear hB
   refine ⟨_, rfl, hS3, ?_⟩
   simp only [Act.put, sA_, s0_, sS_]
   refine callAt 8 30 rfl rfl (by kernel_rfl) (by rfl) (by kernel_rfl) (rjoin_any h x y is _) ?_
   rintro e v4 ⟨rfl, hB⟩
   rw [HJ.out]
   have hS4 := hS3.call hB
   have L4x := Lib.hid (L3x.out.trans (hB.mono L3x.out.size))
   have F4 := Lib.hid (F3.out.below hB F3.out.lt)
   clear hB
   refine ⟨_, rfl, hS4, ?_⟩
   simp only [Act.put, sA_, s0_, sS_]
   refine takeAt 9 21 (.tuple #[.agg (cfA j), .bool g]) rfl rfl (by kernel_rfl) (by kernel_rfl) (by kernel_rfl) i_ (yields (by rfl) (fun w => by kernel_rfl)) hS4 ?_
   simp only [Act.put, sA_, s0_, sS_]
   refine takeAt 10 31 (.agg (cfA j)) rfl rfl (by kernel_rfl) (by kernel_rfl) (by kernel_rfl) i_ (yields (by rfl) (fun w => by kernel_rfl)) hS4 ?_
   simp only [Act.put, sA_, s0_, sS_]
   refine takeAt 11 32 (.bool g) rfl rfl (by kernel_rfl) (by kernel_rfl) (by kernel_rfl) i_ (yields (by rfl) (fun w => by kernel_rfl)) hS4 ?_
   simp only [Act.put, sA_, s0_, sS_]
   obtain ⟨uz, ez, PZ⟩ := stRf_run v1.heap.size zCf j F4.out
   have hSz : Has [(28, u2.heap.size, cfA j), (29, w.heap.size, cf2A x y)] uz := has_put PZ GA.out.1 hS4
   refine skipAt 13 uz rfl rfl (by kernel_rfl) (by rfl) (ez _ _ _ _ rfl rfl rfl) hSz ?_
   refine takeAt 14 10 (.bool g) rfl rfl (by kernel_rfl) (by kernel_rfl) (by kernel_rfl) i_ (yields (by rfl) (fun w => by kernel_rfl)) hSz ?_
   simp only [Act.put, sA_, s0_, sS_]
   refine wpAnyH_done (by kernel_rfl) ?_ _
   have H9 := Lib.hid (show Has [(34, v1.heap.size, cfA j), (28, u2.heap.size, cfA j)] uz from ⟨PZ.box, hSz.1, trivial⟩)
   have L9 := Lib.hid (L4x.out.trans (PZ.low _ GA.out.2))
   clear hSz PZ ez HJ
   go_wp2_with fail
   have hSy : Has [(34, v1.heap.size, cfA j), (28, u2.heap.size, cfA j)] uz.drew := H9.out.call (Below.refl _ uz).drew
   have LA := Lib.hid (show Below w.heap.size w uz.drew from L9.out.trans ((Below.refl uz.heap.size uz).drew.mono L9.out.size))
   clear H9 L9
   refine wp_region_held_drew (S := Has [(34, v1.heap.size, cfA j), (28, u2.heap.size, cfA j)]) (by kernel_rfl) hSy (fun _ => ?_)
   refine takeAt 0 33 (.agg (cfA j)) rfl rfl (by kernel_rfl) (by kernel_rfl) (by kernel_rfl) i_ (ldCf_y u2.heap.size j (fun _ h => h.2.1) rfl rfl (by rfl)) hSy ?_
   simp only [Act.put, sA_, s0_, sS_]
   refine takeAt 2 35 (.agg (cfA j)) rfl rfl (by kernel_rfl) (by kernel_rfl) (by kernel_rfl) i_ (ldRf_y v1.heap.size j (fun _ h => h.1) rfl rfl (by rfl)) hSy ?_
   simp only [Act.put, sA_, s0_, sS_]
   refine callAt 1 34 rfl rfl (by kernel_rfl) (by rfl) (by kernel_rfl) (conf_any j _) ?_
   rintro e ua ⟨rfl, hB⟩
   have hSa := hSy.call hB
   have LB := Lib.hid (LA.out.trans (hB.mono LA.out.size))
   clear hB
   refine ⟨_, rfl, hSa, ?_⟩
   simp only [Act.put, sA_, s0_, sS_]
   refine takeAt 3 36 (.bool true) rfl rfl (by kernel_rfl) (by kernel_rfl) (by kernel_rfl) i_ (eqRf_y j rfl rfl rfl (by rfl)) hSa ?_
   simp only [Act.put, sA_, s0_, sS_]
   refine takeAt 4 37 (.bool true) rfl rfl (by kernel_rfl) (by kernel_rfl) (by kernel_rfl) i_ (yields (by rfl) (fun w => by kernel_rfl)) hSa ?_
   simp only [Act.put, sA_, s0_, sS_]
   refine takeAt 5 38 (.bool g) rfl rfl (by kernel_rfl) (by kernel_rfl) (by kernel_rfl) i_ (yields (by rfl) (fun w => by kernel_rfl)) hSa ?_
   simp only [Act.put, sA_, s0_, sS_]
   refine takeAt 6 39 (.bool g) rfl rfl (by kernel_rfl) (by kernel_rfl) (by kernel_rfl) i_ (yields (by rfl) (fun w => by kernel_rfl)) hSa ?_
   simp only [Act.put, sA_, s0_, sS_]
   refine takeAt 7 40 (.bool true) rfl rfl (by kernel_rfl) (by kernel_rfl) (by kernel_rfl) i_ (eqBo_y g rfl rfl rfl (by rfl)) hSa ?_
   simp only [Act.put, sA_, s0_, sS_]
   refine takeAt 8 41 (.bool true) rfl rfl (by kernel_rfl) (by kernel_rfl) (by kernel_rfl) i_ (yields (by rfl) (fun w => by kernel_rfl)) hSa ?_
   simp only [Act.put, sA_, s0_, sS_]
   refine takeAt 9 42 (.bool true) rfl rfl (by kernel_rfl) (by kernel_rfl) (by kernel_rfl) i_ (yields (by rfl) (fun w => by kernel_rfl)) hSa ?_
   simp only [Act.put, sA_, s0_, sS_]
   refine callAt 10 43 rfl rfl (by kernel_rfl) (by rfl) (by kernel_rfl) (FX.out ua (HW.out.call LB.out)) ?_
   rintro e ub ⟨rfl, hB⟩
   have hSb := hSa.call hB
   have LC := Lib.hid (LB.out.trans (hB.mono LB.out.size))
   clear hB
   refine ⟨_, rfl, hSb, ?_⟩
   simp only [Act.put, sA_, s0_, sS_]
   refine takeAt 11 44 (.bool true) rfl rfl (by kernel_rfl) (by kernel_rfl) (by kernel_rfl) i_ (yields (by rfl) (fun w => by kernel_rfl)) hSb ?_
   simp only [Act.put, sA_, s0_, sS_]
   refine takeAt 12 6 (.bool true) rfl rfl (by kernel_rfl) (by kernel_rfl) (by kernel_rfl) i_ (yields (by rfl) (fun w => by kernel_rfl)) hSb ?_
   simp only [Act.put, sA_, s0_, sS_]
   refine wpAnyH_done (by kernel_rfl) ?_ _
   clear hSy hSa hSb
   go_wp2_with fail
   go_ret
   exact ⟨rfl, LC.out⟩
 ·have FA := Lib.hid NA.out.box
  have hSA : Has [(28, u2.heap.size, cfA j), (29, w.heap.size, cf2A x y)] wA1 := hS.call NA.out.low
  have LAx := Lib.hid (L5.out.trans (NA.out.low.mono L5.out.size))
  have GA := Lib.hid (And.intro hS.lt L5.out.size)
  clear NA eA
  simp only [Act.put, sA_, s0_, sS_]
  refine callAt 3 25 rfl rfl (by kernel_rfl) (by rfl) (by kernel_rfl) (conf_any x _) ?_
  rintro e v2 ⟨rfl, hB⟩
  have hS2 := hSA.call hB
  have L2x := Lib.hid (LAx.out.trans (hB.mono LAx.out.size))
  have F2 := Lib.hid (FA.out.below hB FA.out.lt)
  clear hB
  refine ⟨_, rfl, hS2, ?_⟩
  simp only [Act.put, sA_, s0_, sS_]
  refine callAt 6 28 rfl rfl (by kernel_rfl) (by rfl) (by kernel_rfl) (conf_any y _) ?_
  rintro e v3 ⟨rfl, hB⟩
  have hS3 := hS2.call hB
  have L3x := Lib.hid (L2x.out.trans (hB.mono L2x.out.size))
  have F3 := Lib.hid (F2.out.below hB F2.out.lt)
  clear hB
  refine ⟨_, rfl, hS3, ?_⟩
  simp only [Act.put, sA_, s0_, sS_]
  refine callAt 8 30 rfl rfl (by kernel_rfl) (by rfl) (by kernel_rfl) (rjoin_any h x y is _) ?_
  rintro e v4 ⟨rfl, hB⟩
  rw [HJ.out]
  have hS4 := hS3.call hB
  have L4x := Lib.hid (L3x.out.trans (hB.mono L3x.out.size))
  have F4 := Lib.hid (F3.out.below hB F3.out.lt)
  clear hB
  refine ⟨_, rfl, hS4, ?_⟩
  simp only [Act.put, sA_, s0_, sS_]
  refine takeAt 9 21 (.tuple #[.agg (cfA j), .bool g]) rfl rfl (by kernel_rfl) (by kernel_rfl) (by kernel_rfl) i_ (yields (by rfl) (fun w => by kernel_rfl)) hS4 ?_
  simp only [Act.put, sA_, s0_, sS_]
  refine takeAt 10 31 (.agg (cfA j)) rfl rfl (by kernel_rfl) (by kernel_rfl) (by kernel_rfl) i_ (yields (by rfl) (fun w => by kernel_rfl)) hS4 ?_
  simp only [Act.put, sA_, s0_, sS_]
  refine takeAt 11 32 (.bool g) rfl rfl (by kernel_rfl) (by kernel_rfl) (by kernel_rfl) i_ (yields (by rfl) (fun w => by kernel_rfl)) hS4 ?_
  simp only [Act.put, sA_, s0_, sS_]
  obtain ⟨uz, ez, PZ⟩ := stRf_run u4.drew.heap.size zCf j F4.out
  have hSz : Has [(28, u2.heap.size, cfA j), (29, w.heap.size, cf2A x y)] uz := has_put PZ GA.out.1 hS4
  refine skipAt 13 uz rfl rfl (by kernel_rfl) (by rfl) (ez _ _ _ _ rfl rfl rfl) hSz ?_
  refine takeAt 14 10 (.bool g) rfl rfl (by kernel_rfl) (by kernel_rfl) (by kernel_rfl) i_ (yields (by rfl) (fun w => by kernel_rfl)) hSz ?_
  simp only [Act.put, sA_, s0_, sS_]
  refine wpAnyH_done (by kernel_rfl) ?_ _
  have H9 := Lib.hid (show Has [(34, u4.drew.heap.size, cfA j), (28, u2.heap.size, cfA j)] uz from ⟨PZ.box, hSz.1, trivial⟩)
  have L9 := Lib.hid (L4x.out.trans (PZ.low _ GA.out.2))
  clear hSz PZ ez HJ
  go_wp2_with fail
  have hSy : Has [(34, u4.drew.heap.size, cfA j), (28, u2.heap.size, cfA j)] uz.drew := H9.out.call (Below.refl _ uz).drew
  have LA := Lib.hid (show Below w.heap.size w uz.drew from L9.out.trans ((Below.refl uz.heap.size uz).drew.mono L9.out.size))
  clear H9 L9
  refine wp_region_held_drew (S := Has [(34, u4.drew.heap.size, cfA j), (28, u2.heap.size, cfA j)]) (by kernel_rfl) hSy (fun _ => ?_)
  refine takeAt 0 33 (.agg (cfA j)) rfl rfl (by kernel_rfl) (by kernel_rfl) (by kernel_rfl) i_ (ldCf_y u2.heap.size j (fun _ h => h.2.1) rfl rfl (by rfl)) hSy ?_
  simp only [Act.put, sA_, s0_, sS_]
  refine takeAt 2 35 (.agg (cfA j)) rfl rfl (by kernel_rfl) (by kernel_rfl) (by kernel_rfl) i_ (ldRf_y u4.drew.heap.size j (fun _ h => h.1) rfl rfl (by rfl)) hSy ?_
  simp only [Act.put, sA_, s0_, sS_]
  refine callAt 1 34 rfl rfl (by kernel_rfl) (by rfl) (by kernel_rfl) (conf_any j _) ?_
  rintro e ua ⟨rfl, hB⟩
  have hSa := hSy.call hB
  have LB := Lib.hid (LA.out.trans (hB.mono LA.out.size))
  clear hB
  refine ⟨_, rfl, hSa, ?_⟩
  simp only [Act.put, sA_, s0_, sS_]
  refine takeAt 3 36 (.bool true) rfl rfl (by kernel_rfl) (by kernel_rfl) (by kernel_rfl) i_ (eqRf_y j rfl rfl rfl (by rfl)) hSa ?_
  simp only [Act.put, sA_, s0_, sS_]
  refine takeAt 4 37 (.bool true) rfl rfl (by kernel_rfl) (by kernel_rfl) (by kernel_rfl) i_ (yields (by rfl) (fun w => by kernel_rfl)) hSa ?_
  simp only [Act.put, sA_, s0_, sS_]
  refine takeAt 5 38 (.bool g) rfl rfl (by kernel_rfl) (by kernel_rfl) (by kernel_rfl) i_ (yields (by rfl) (fun w => by kernel_rfl)) hSa ?_
  simp only [Act.put, sA_, s0_, sS_]
  refine takeAt 6 39 (.bool g) rfl rfl (by kernel_rfl) (by kernel_rfl) (by kernel_rfl) i_ (yields (by rfl) (fun w => by kernel_rfl)) hSa ?_
  simp only [Act.put, sA_, s0_, sS_]
  refine takeAt 7 40 (.bool true) rfl rfl (by kernel_rfl) (by kernel_rfl) (by kernel_rfl) i_ (eqBo_y g rfl rfl rfl (by rfl)) hSa ?_
  simp only [Act.put, sA_, s0_, sS_]
  refine takeAt 8 41 (.bool true) rfl rfl (by kernel_rfl) (by kernel_rfl) (by kernel_rfl) i_ (yields (by rfl) (fun w => by kernel_rfl)) hSa ?_
  simp only [Act.put, sA_, s0_, sS_]
  refine takeAt 9 42 (.bool true) rfl rfl (by kernel_rfl) (by kernel_rfl) (by kernel_rfl) i_ (yields (by rfl) (fun w => by kernel_rfl)) hSa ?_
  simp only [Act.put, sA_, s0_, sS_]
  refine callAt 10 43 rfl rfl (by kernel_rfl) (by rfl) (by kernel_rfl) (FX.out ua (HW.out.call LB.out)) ?_
  rintro e ub ⟨rfl, hB⟩
  have hSb := hSa.call hB
  have LC := Lib.hid (LB.out.trans (hB.mono LB.out.size))
  clear hB
  refine ⟨_, rfl, hSb, ?_⟩
  simp only [Act.put, sA_, s0_, sS_]
  refine takeAt 11 44 (.bool true) rfl rfl (by kernel_rfl) (by kernel_rfl) (by kernel_rfl) i_ (yields (by rfl) (fun w => by kernel_rfl)) hSb ?_
  simp only [Act.put, sA_, s0_, sS_]
  refine takeAt 12 6 (.bool true) rfl rfl (by kernel_rfl) (by kernel_rfl) (by kernel_rfl) i_ (yields (by rfl) (fun w => by kernel_rfl)) hSb ?_
  simp only [Act.put, sA_, s0_, sS_]
  refine wpAnyH_done (by kernel_rfl) ?_ _
  clear hSy hSa hSb
  go_wp2_with fail
  go_ret
  exact ⟨rfl, LC.out⟩
end Go.Proofs.YteggpecbeagohaaGreatDoor.Stp
