/-
  Layer 10, the statement CapsTell: its walk.
-/
import Derived.Test.YtnapbmdbeihngaaDoorCapLine
namespace Go.Proofs.YtnapbmdbeihngaaDoor
open Go.RowKit

section
variable {ops : Array Oper} {R : World → Prop} {a : Act} {o : Oper} {x y : Operand} {w : World}
theorem loadC2_y (g : Nat) (c : Cp) (hR : ∀ u, R u → BoxV 26 u g (cpC c)) (ho : o.op = .load 26 x) (hx : a.eval x = .pointer (some ⟨g, 0, none⟩)) (hw : Region.wanted o (yielded ops a.tmps) = true) : YieldsIf Tryd.prog ops R o (.agg (cpC c)) a := by
  refine Or.inl ⟨hw, fun u hu => ?_⟩
  have hl := run_loadVar_row u g _ 26 _ _ _ (hR u hu) Tryd.underlying26 rfl sizeCaps
  unfold execOp
  simp only [ho, hx, Instr.loadAt, Instr.sureAddr, Sem.run_bind, Sem.run_pure, Result.andThen_ok, hl]
theorem loadR_y (g : Nat) (c : Cp) (hR : ∀ u, R u → BoxV 28 u g (cpC c)) (ho : o.op = .load 28 x) (hx : a.eval x = .pointer (some ⟨g, 0, none⟩)) (hw : Region.wanted o (yielded ops a.tmps) = true) : YieldsIf Tryd.prog ops R o (.agg (cpC c)) a := by
  refine Or.inl ⟨hw, fun u hu => ?_⟩
  have hl := run_loadVar_row u g _ 28 _ _ _ (hR u hu) Tryd.underlying28 rfl sizeRef
  unfold execOp
  simp only [ho, hx, Instr.loadAt, Instr.sureAddr, Sem.run_bind, Sem.run_pure, Result.andThen_ok, hl]
theorem neR_y (c : Cp) (ho : o.op = .binOp .neq 28 x y 28) (hx : a.eval x = .agg (cpC c)) (hy : a.eval y = .agg (cpC c)) (hw : Region.wanted o (yielded ops a.tmps) = true) : YieldsIf Tryd.prog ops R o (.bool false) a := by
  refine Or.inl ⟨hw, fun u _ => ?_⟩
  have h := eqC_refl c
  unfold execOp
  simp only [ho, hx, hy]
  go_simp

theorem neI_y (T : TypeId) (hT : T = 3 ∨ T = 30) (n : Int) (ho : o.op = .binOp .neq T x y T) (hx : a.eval x = .int .i64 n) (hy : a.eval y = .int .i64 n) (hw : Region.wanted o (yielded ops a.tmps) = true) : YieldsIf Tryd.prog ops R o (.bool false) a := by
  refine Or.inl ⟨hw, fun u _ => ?_⟩
  unfold execOp
  rcases hT with rfl | rfl
  · simp only [ho, hx, hy]
    go_simp
  · simp only [ho, hx, hy]
    go_simp
theorem neB_y (b : Bool) (ho : o.op = .binOp .neq 4 x y 4) (hx : a.eval x = .bool b) (hy : a.eval y = .bool b) (hw : Region.wanted o (yielded ops a.tmps) = true) : YieldsIf Tryd.prog ops R o (.bool false) a := by
  refine Or.inl ⟨hw, fun u _ => ?_⟩
  unfold execOp
  simp only [ho, hx, hy]
  go_simp
theorem neS_y (s : ByteArray) (ho : o.op = .binOp .neq 9 x y 9) (hx : a.eval x = .string s) (hy : a.eval y = .string s) (hw : Region.wanted o (yielded ops a.tmps) = true) : YieldsIf Tryd.prog ops R o (.bool false) a := by
  refine Or.inl ⟨hw, fun u _ => ?_⟩
  unfold execOp
  simp only [ho, hx, hy]
  go_simp
end
/-- What came in: the groups, the numbers; the table. -/
def TSt (c : Cp) (z0 z1 z2 z3 : Int) (w0 w : World) : Prop := Below w0.heap.size w0 w ∧ BoxV 26 w w0.heap.size (cpC c) ∧ BoxV 27 w (w0.heap.size + 1) #[.int .i64 z0, .int .i64 z1, .int .i64 z2, .int .i64 z3] ∧ PowOk w
theorem TSt.call {c : Cp} {z0 z1 z2 z3 : Int} {w0 w w' : World} (h : TSt c z0 z1 z2 z3 w0 w) (hb : Below w.heap.size w w') : TSt c z0 z1 z2 z3 w0 w' := ⟨thenB h.1 hb h.1.size, h.2.1.below hb h.2.1.lt, h.2.2.1.below hb h.2.2.1.lt, h.2.2.2.call hb⟩
theorem TSt.start (c : Cp) (z0 z1 z2 z3 : Int) (w : World) (hw : PowOk w) : TSt c z0 z1 z2 z3 w ((w.alloc (.cells (cpC c) 26)).alloc (.cells #[.int .i64 z0, .int .i64 z1, .int .i64 z2, .int .i64 z3] 27)) := by
  have hb : Below w.heap.size w ((w.alloc (.cells (cpC c) 26)).alloc (.cells #[.int .i64 z0, .int .i64 z1, .int .i64 z2, .int .i64 z3] 27)) := by go_grown
  refine ⟨hb, (BoxV.new w _).alloc _, ?_, hw.call hb⟩
  have h := BoxV.new (T := 27) (w.alloc (.cells (cpC c) 26)) #[.int .i64 z0, .int .i64 z1, .int .i64 z2, .int .i64 z3]
  simpa using h
set_option maxRecDepth 100000 in
set_option maxHeartbeats 16000000 in
theorem capsTell_core (L : LibOk) (c : Cp) (hc : c.fits) (z0 z1 z2 z3 : Int) (s t : ByteArray) (hts : t = s.extract 0 (min s.size 60)) (w : World) (hw : PowOk w) :
    Calls Tryd.prog 3 #[.agg (cpC c), .agg #[.int .i64 z0, .int .i64 z1, .int .i64 z2, .int .i64 z3], .string s] w fun e w' => e = .returned (.bool true) ∧ Below w.heap.size w w' := by
  have hmin : min s.size 60 ≤ s.size := Nat.min_le_left _ _
  have htz : t.size ≤ 60 := by rw [hts, ByteArray.size_extract]; omega
  obtain ⟨m, hm9, hm⟩ : ∃ m : Nat, m ≤ 9 ∧ (z0 < 1 ∧ m ≤ 0 ∨ z0 = (m : Int) ∧ 1 ≤ m ∨ 9 < z0 ∧ 9 ≤ m) := by
    by_cases h1 : z0 < 1
    · exact ⟨0, by omega, .inl ⟨h1, by omega⟩⟩
    · by_cases h9 : 9 < z0
      · exact ⟨9, by omega, .inr (.inr ⟨h9, by omega⟩)⟩
      · exact ⟨z0.toNat, by omega, .inr (.inl ⟨by omega, by omega⟩)⟩
  have H1 := Lib.hid (fun w => ref_any c w)
  have H2 := Lib.hid (fun w => with_any c z0 z1 z2 w)
  have H3 := Lib.hid (fun w => rwith_any c z0 z1 z2 w)
  have H4 := Lib.hid (fun w => get_any c z0 w)
  have H5 := Lib.hid (fun w => rget_any c z0 w)
  have H6 := Lib.hid (fun w => text_any L c t (by omega) z0 w)
  have H7 := Lib.hid (fun w => rtext_any c t z0 w)
  have H8 := Lib.hid (fun w => ref_any (withZ c z0 z1 z2).1 w)
  have H9 := Lib.hid (fun w h => shows_any L c hc z0 m hm9 hm w h)
  have H10 := Lib.hid (fun w => rshow_any c hc z0 m hm9 hm w)
  have H11 := Lib.hid (fun w => again_any L c t (by omega) z0 z3 (decide (z2 < z1)) w)
  have H12 := Lib.hid (fun w => ragain_any c t (by omega) z0 z3 (decide (z2 < z1)) w)
  have HF := Lib.hid (fun w h => fixed_any L w h)
  have HS := Lib.hid (TSt.start c z0 z1 z2 z3 w hw)
  have Ht := Lib.hid hts
  clear hw L hc hm hm9 hts
  generalize showS c m = U at H9 H10
  generalize agN c t z0 z3 (decide (z2 < z1)) = N at H11 H12
  generalize agB c t z0 z3 (decide (z2 < z1)) = AB at H11 H12
  generalize pcS c t z0 = T at H6 H7
  generalize pcB c t z0 = TB at H6 H7
  generalize plX c z0 = X at H4 H5
  generalize plY c z0 = Y at H4 H5
  generalize plB c z0 = B at H4 H5
  generalize (withZ c z0 z1 z2).2 = E at H2 H3
  generalize (withZ c z0 z1 z2).1 = A at H2 H3 H8
  clear htz m
  go_enter Tryd.func3, Tryd.ntmps3
  go_wp2_with (refine lineY (S := fun _ => True) (.int .i64 ((min s.size 60 : Nat) : Int)) (min_y s.size 60 rfl rfl (by rfl)) trivial ?_; refine StopS.out ?_)
  refine ⟨?_⟩
  refine lineY (S := fun _ => True) (.string t) (by rw [Ht.out]; exact sliceTo_y s (min s.size 60) hmin rfl rfl rfl (by rfl)) trivial ?_
  clear Ht hmin
  go_wp2_with (refine loadC rfl _ rfl w.heap.size c rfl HS.out.2.1 ?_)
  refine (H1.out _).mono ?_
  rintro e w1 ⟨rfl, hb⟩
  replace HS := Lib.hid (HS.out.call hb)
  clear hb H1
  go_wp2_with (refine storeR rfl _ _ rfl w1.heap.size c (cpC zrC) rfl rfl (by rfl) (BoxV.new w1 _) ?_; intro u1 hu hbu ho; refine StopS.out ?_)
  have hb := ((Below.refl w1.heap.size w1).alloc (Nat.le_refl _) _).trans (hbu.out _ (Nat.le_refl _))
  replace HS := Lib.hid (HS.out.call hb)
  have HR := Lib.hid hu.out
  clear hb hbu hu ho
  refine ⟨?_⟩
  have d0 := HS.out.2.2.1.get 0 rfl
  have d1 := HS.out.2.2.1.get 1 rfl
  have d2 := HS.out.2.2.1.get 2 rfl
  have d3 := HS.out.2.2.1.get 3 rfl
  go_wp2_with (refine loadC rfl _ rfl w.heap.size c rfl HS.out.2.1 ?_)
  refine (H2.out _).mono ?_
  rintro e w2 ⟨rfl, hb⟩
  replace HS := Lib.hid (HS.out.call hb)
  replace HR := Lib.hid (HR.out.below hb HR.out.lt)
  clear hb d0 d1 d2 d3 H2
  go_wp2_with (refine storeC rfl _ _ rfl w2.heap.size A (cpC zrC) rfl rfl (by rfl) (BoxV.new w2 _) ?_; intro u2 hu hbu ho; refine StopS.out ?_)
  have hb := ((Below.refl w2.heap.size w2).alloc (Nat.le_refl _) _).trans (hbu.out _ (Nat.le_refl _))
  replace HS := Lib.hid (HS.out.call hb)
  replace HR := Lib.hid (HR.out.below hb HR.out.lt)
  have HA := Lib.hid hu.out
  clear hb hbu hu ho
  refine ⟨?_⟩
  have d0 := HS.out.2.2.1.get 0 rfl
  have d1 := HS.out.2.2.1.get 1 rfl
  have d2 := HS.out.2.2.1.get 2 rfl
  have d3 := HS.out.2.2.1.get 3 rfl
  go_wp2_with (refine loadR rfl _ rfl w1.heap.size c rfl HR.out ?_)
  refine (H3.out _).mono ?_
  rintro e w3 ⟨rfl, hb⟩
  replace HS := Lib.hid (HS.out.call hb)
  replace HR := Lib.hid (HR.out.below hb HR.out.lt)
  replace HA := Lib.hid (HA.out.below hb HA.out.lt)
  clear hb d0 d1 d2 d3 H3
  go_wp2_with (refine storeR rfl _ _ rfl w3.heap.size A (cpC zrC) rfl rfl (by rfl) (BoxV.new w3 _) ?_; intro u3 hu hbu ho; refine StopS.out ?_)
  have hb := ((Below.refl w3.heap.size w3).alloc (Nat.le_refl _) _).trans (hbu.out _ (Nat.le_refl _))
  replace HS := Lib.hid (HS.out.call hb)
  replace HR := Lib.hid (HR.out.below hb HR.out.lt)
  replace HA := Lib.hid (HA.out.below hb HA.out.lt)
  have HBb := Lib.hid hu.out
  clear hb hbu hu ho
  refine ⟨?_⟩
  have d0 := HS.out.2.2.1.get 0 rfl
  have d1 := HS.out.2.2.1.get 1 rfl
  have d2 := HS.out.2.2.1.get 2 rfl
  have d3 := HS.out.2.2.1.get 3 rfl
  go_wp2_with (refine loadC rfl _ rfl w.heap.size c rfl HS.out.2.1 ?_)
  refine (H4.out _).mono ?_
  rintro e w4 ⟨rfl, hb⟩
  replace HS := Lib.hid (HS.out.call hb)
  replace HR := Lib.hid (HR.out.below hb HR.out.lt)
  replace HA := Lib.hid (HA.out.below hb HA.out.lt)
  replace HBb := Lib.hid (HBb.out.below hb HBb.out.lt)
  clear hb d0 d1 d2 d3 H4
  have d0 := HS.out.2.2.1.get 0 rfl
  have d1 := HS.out.2.2.1.get 1 rfl
  have d2 := HS.out.2.2.1.get 2 rfl
  have d3 := HS.out.2.2.1.get 3 rfl
  go_wp2_with (refine loadR rfl _ rfl w1.heap.size c rfl HR.out ?_)
  refine (H5.out _).mono ?_
  rintro e w5 ⟨rfl, hb⟩
  replace HS := Lib.hid (HS.out.call hb)
  replace HR := Lib.hid (HR.out.below hb HR.out.lt)
  replace HA := Lib.hid (HA.out.below hb HA.out.lt)
  replace HBb := Lib.hid (HBb.out.below hb HBb.out.lt)
  clear hb d0 d1 d2 d3 H5
  have d0 := HS.out.2.2.1.get 0 rfl
  have d1 := HS.out.2.2.1.get 1 rfl
  have d2 := HS.out.2.2.1.get 2 rfl
  have d3 := HS.out.2.2.1.get 3 rfl
  go_wp2_with (refine loadC rfl _ rfl w.heap.size c rfl HS.out.2.1 ?_)
  refine (H6.out _).mono ?_
  rintro e w6 ⟨rfl, hb⟩
  replace HS := Lib.hid (HS.out.call hb)
  replace HR := Lib.hid (HR.out.below hb HR.out.lt)
  replace HA := Lib.hid (HA.out.below hb HA.out.lt)
  replace HBb := Lib.hid (HBb.out.below hb HBb.out.lt)
  clear hb d0 d1 d2 d3 H6
  have d0 := HS.out.2.2.1.get 0 rfl
  have d1 := HS.out.2.2.1.get 1 rfl
  have d2 := HS.out.2.2.1.get 2 rfl
  have d3 := HS.out.2.2.1.get 3 rfl
  go_wp2_with (refine loadR rfl _ rfl w1.heap.size c rfl HR.out ?_)
  refine (H7.out _).mono ?_
  rintro e w7 ⟨rfl, hb⟩
  replace HS := Lib.hid (HS.out.call hb)
  replace HR := Lib.hid (HR.out.below hb HR.out.lt)
  replace HA := Lib.hid (HA.out.below hb HA.out.lt)
  replace HBb := Lib.hid (HBb.out.below hb HBb.out.lt)
  clear hb d0 d1 d2 d3 H7
  go_wp2_with fail
  refine wp_region_held_drew (S := fun u => TSt c z0 z1 z2 z3 w u ∧ BoxV 26 u w2.heap.size (cpC A) ∧ BoxV 28 u w3.heap.size (cpC A) ∧ BoxV 28 u w1.heap.size (cpC c)) (by kernel_rfl) (show _ from ⟨HS.out.call (Below.refl _ _).drew, HA.out, HBb.out, HR.out⟩) (fun hS => ?_)
  generalize World.drew _ = v0 at hS ⊢
  refine takeAt 0 87 (.agg (cpC A)) rfl rfl (by kernel_rfl) (by kernel_rfl) (by kernel_rfl) (fun _ _ _ h => h) (loadC2_y (w2.heap.size) A (fun _ h => h.2.1) rfl rfl (by rfl)) hS ?_
  simp only [Act.put, List.setIfInBounds_toArray, List.set_cons_zero, List.set_cons_succ]
  refine takeAt 2 89 (.agg (cpC A)) rfl rfl (by kernel_rfl) (by kernel_rfl) (by kernel_rfl) (fun _ _ _ h => h) (loadR_y (w3.heap.size) A (fun _ h => h.2.2.1) rfl rfl (by rfl)) hS ?_
  simp only [Act.put, List.setIfInBounds_toArray, List.set_cons_zero, List.set_cons_succ]
  refine callAt 1 88 rfl rfl (by kernel_rfl) (by rfl) (by kernel_rfl) (H8.out _) ?_
  rintro e v1 ⟨rfl, hb⟩
  replace hS := (show TSt c z0 z1 z2 z3 w v1 ∧ BoxV 26 v1 w2.heap.size (cpC A) ∧ BoxV 28 v1 w3.heap.size (cpC A) ∧ BoxV 28 v1 w1.heap.size (cpC c) from ⟨hS.1.call hb, hS.2.1.below hb hS.2.1.lt, hS.2.2.1.below hb hS.2.2.1.lt, hS.2.2.2.below hb hS.2.2.2.lt⟩)
  clear hb
  refine ⟨_, rfl, hS, ?_⟩
  simp only [Act.put, List.setIfInBounds_toArray, List.set_cons_zero, List.set_cons_succ]
  refine takeAt 3 90 (.bool false) rfl rfl (by kernel_rfl) (by kernel_rfl) (by kernel_rfl) (fun _ _ _ h => h) (neR_y A rfl rfl rfl (by rfl)) hS ?_
  simp only [Act.put, List.setIfInBounds_toArray, List.set_cons_zero, List.set_cons_succ]
  refine takeAt 4 91 (.bool false) rfl rfl (by kernel_rfl) (by kernel_rfl) (by kernel_rfl) (fun _ _ _ h => h) (yields (by rfl) (fun w => by kernel_rfl)) hS ?_
  simp only [Act.put, List.setIfInBounds_toArray, List.set_cons_zero, List.set_cons_succ]
  refine takeAt 5 92 (.int .i64 E) rfl rfl (by kernel_rfl) (by kernel_rfl) (by kernel_rfl) (fun _ _ _ h => h) (yields (by rfl) (fun w => by kernel_rfl)) hS ?_
  simp only [Act.put, List.setIfInBounds_toArray, List.set_cons_zero, List.set_cons_succ]
  refine takeAt 6 93 (.int .i64 E) rfl rfl (by kernel_rfl) (by kernel_rfl) (by kernel_rfl) (fun _ _ _ h => h) (yields (by rfl) (fun w => by kernel_rfl)) hS ?_
  simp only [Act.put, List.setIfInBounds_toArray, List.set_cons_zero, List.set_cons_succ]
  refine takeAt 7 94 (.bool false) rfl rfl (by kernel_rfl) (by kernel_rfl) (by kernel_rfl) (fun _ _ _ h => h) (neI_y _ (.inr rfl) E rfl rfl rfl (by rfl)) hS ?_
  simp only [Act.put, List.setIfInBounds_toArray, List.set_cons_zero, List.set_cons_succ]
  refine takeAt 8 95 (.bool false) rfl rfl (by kernel_rfl) (by kernel_rfl) (by kernel_rfl) (fun _ _ _ h => h) (yields (by rfl) (fun w => by kernel_rfl)) hS ?_
  simp only [Act.put, List.setIfInBounds_toArray, List.set_cons_zero, List.set_cons_succ]
  refine takeAt 9 96 (.bool false) rfl rfl (by kernel_rfl) (by kernel_rfl) (by kernel_rfl) (fun _ _ _ h => h) (yields (by rfl) (fun w => by kernel_rfl)) hS ?_
  simp only [Act.put, List.setIfInBounds_toArray, List.set_cons_zero, List.set_cons_succ]
  refine takeAt 10 97 (.int .i64 X) rfl rfl (by kernel_rfl) (by kernel_rfl) (by kernel_rfl) (fun _ _ _ h => h) (yields (by rfl) (fun w => by kernel_rfl)) hS ?_
  simp only [Act.put, List.setIfInBounds_toArray, List.set_cons_zero, List.set_cons_succ]
  refine takeAt 11 98 (.int .i64 X) rfl rfl (by kernel_rfl) (by kernel_rfl) (by kernel_rfl) (fun _ _ _ h => h) (yields (by rfl) (fun w => by kernel_rfl)) hS ?_
  simp only [Act.put, List.setIfInBounds_toArray, List.set_cons_zero, List.set_cons_succ]
  refine takeAt 12 99 (.bool false) rfl rfl (by kernel_rfl) (by kernel_rfl) (by kernel_rfl) (fun _ _ _ h => h) (neI_y _ (.inl rfl) X rfl rfl rfl (by rfl)) hS ?_
  simp only [Act.put, List.setIfInBounds_toArray, List.set_cons_zero, List.set_cons_succ]
  refine takeAt 13 100 (.bool false) rfl rfl (by kernel_rfl) (by kernel_rfl) (by kernel_rfl) (fun _ _ _ h => h) (yields (by rfl) (fun w => by kernel_rfl)) hS ?_
  simp only [Act.put, List.setIfInBounds_toArray, List.set_cons_zero, List.set_cons_succ]
  refine takeAt 14 101 (.bool false) rfl rfl (by kernel_rfl) (by kernel_rfl) (by kernel_rfl) (fun _ _ _ h => h) (yields (by rfl) (fun w => by kernel_rfl)) hS ?_
  simp only [Act.put, List.setIfInBounds_toArray, List.set_cons_zero, List.set_cons_succ]
  refine takeAt 15 102 (.int .i64 Y) rfl rfl (by kernel_rfl) (by kernel_rfl) (by kernel_rfl) (fun _ _ _ h => h) (yields (by rfl) (fun w => by kernel_rfl)) hS ?_
  simp only [Act.put, List.setIfInBounds_toArray, List.set_cons_zero, List.set_cons_succ]
  refine takeAt 16 103 (.int .i64 Y) rfl rfl (by kernel_rfl) (by kernel_rfl) (by kernel_rfl) (fun _ _ _ h => h) (yields (by rfl) (fun w => by kernel_rfl)) hS ?_
  simp only [Act.put, List.setIfInBounds_toArray, List.set_cons_zero, List.set_cons_succ]
  refine takeAt 17 104 (.bool false) rfl rfl (by kernel_rfl) (by kernel_rfl) (by kernel_rfl) (fun _ _ _ h => h) (neI_y _ (.inl rfl) Y rfl rfl rfl (by rfl)) hS ?_
  simp only [Act.put, List.setIfInBounds_toArray, List.set_cons_zero, List.set_cons_succ]
  refine takeAt 18 105 (.bool false) rfl rfl (by kernel_rfl) (by kernel_rfl) (by kernel_rfl) (fun _ _ _ h => h) (yields (by rfl) (fun w => by kernel_rfl)) hS ?_
  simp only [Act.put, List.setIfInBounds_toArray, List.set_cons_zero, List.set_cons_succ]
  refine takeAt 19 106 (.bool false) rfl rfl (by kernel_rfl) (by kernel_rfl) (by kernel_rfl) (fun _ _ _ h => h) (yields (by rfl) (fun w => by kernel_rfl)) hS ?_
  simp only [Act.put, List.setIfInBounds_toArray, List.set_cons_zero, List.set_cons_succ]
  refine takeAt 20 107 (.bool B) rfl rfl (by kernel_rfl) (by kernel_rfl) (by kernel_rfl) (fun _ _ _ h => h) (yields (by rfl) (fun w => by kernel_rfl)) hS ?_
  simp only [Act.put, List.setIfInBounds_toArray, List.set_cons_zero, List.set_cons_succ]
  refine takeAt 21 108 (.bool B) rfl rfl (by kernel_rfl) (by kernel_rfl) (by kernel_rfl) (fun _ _ _ h => h) (yields (by rfl) (fun w => by kernel_rfl)) hS ?_
  simp only [Act.put, List.setIfInBounds_toArray, List.set_cons_zero, List.set_cons_succ]
  refine takeAt 22 109 (.bool false) rfl rfl (by kernel_rfl) (by kernel_rfl) (by kernel_rfl) (fun _ _ _ h => h) (neB_y B rfl rfl rfl (by rfl)) hS ?_
  simp only [Act.put, List.setIfInBounds_toArray, List.set_cons_zero, List.set_cons_succ]
  refine takeAt 23 110 (.bool false) rfl rfl (by kernel_rfl) (by kernel_rfl) (by kernel_rfl) (fun _ _ _ h => h) (yields (by rfl) (fun w => by kernel_rfl)) hS ?_
  simp only [Act.put, List.setIfInBounds_toArray, List.set_cons_zero, List.set_cons_succ]
  refine takeAt 24 111 (.bool false) rfl rfl (by kernel_rfl) (by kernel_rfl) (by kernel_rfl) (fun _ _ _ h => h) (yields (by rfl) (fun w => by kernel_rfl)) hS ?_
  simp only [Act.put, List.setIfInBounds_toArray, List.set_cons_zero, List.set_cons_succ]
  refine takeAt 25 112 (.string T) rfl rfl (by kernel_rfl) (by kernel_rfl) (by kernel_rfl) (fun _ _ _ h => h) (yields (by rfl) (fun w => by kernel_rfl)) hS ?_
  simp only [Act.put, List.setIfInBounds_toArray, List.set_cons_zero, List.set_cons_succ]
  refine takeAt 26 113 (.string T) rfl rfl (by kernel_rfl) (by kernel_rfl) (by kernel_rfl) (fun _ _ _ h => h) (yields (by rfl) (fun w => by kernel_rfl)) hS ?_
  simp only [Act.put, List.setIfInBounds_toArray, List.set_cons_zero, List.set_cons_succ]
  refine takeAt 27 114 (.bool false) rfl rfl (by kernel_rfl) (by kernel_rfl) (by kernel_rfl) (fun _ _ _ h => h) (neS_y T rfl rfl rfl (by rfl)) hS ?_
  simp only [Act.put, List.setIfInBounds_toArray, List.set_cons_zero, List.set_cons_succ]
  refine takeAt 28 115 (.bool false) rfl rfl (by kernel_rfl) (by kernel_rfl) (by kernel_rfl) (fun _ _ _ h => h) (yields (by rfl) (fun w => by kernel_rfl)) hS ?_
  simp only [Act.put, List.setIfInBounds_toArray, List.set_cons_zero, List.set_cons_succ]
  refine takeAt 29 116 (.bool false) rfl rfl (by kernel_rfl) (by kernel_rfl) (by kernel_rfl) (fun _ _ _ h => h) (yields (by rfl) (fun w => by kernel_rfl)) hS ?_
  simp only [Act.put, List.setIfInBounds_toArray, List.set_cons_zero, List.set_cons_succ]
  refine takeAt 30 117 (.bool TB) rfl rfl (by kernel_rfl) (by kernel_rfl) (by kernel_rfl) (fun _ _ _ h => h) (yields (by rfl) (fun w => by kernel_rfl)) hS ?_
  simp only [Act.put, List.setIfInBounds_toArray, List.set_cons_zero, List.set_cons_succ]
  refine takeAt 31 118 (.bool TB) rfl rfl (by kernel_rfl) (by kernel_rfl) (by kernel_rfl) (fun _ _ _ h => h) (yields (by rfl) (fun w => by kernel_rfl)) hS ?_
  simp only [Act.put, List.setIfInBounds_toArray, List.set_cons_zero, List.set_cons_succ]
  refine takeAt 32 119 (.bool false) rfl rfl (by kernel_rfl) (by kernel_rfl) (by kernel_rfl) (fun _ _ _ h => h) (neB_y TB rfl rfl rfl (by rfl)) hS ?_
  simp only [Act.put, List.setIfInBounds_toArray, List.set_cons_zero, List.set_cons_succ]
  refine takeAt 33 120 (.bool false) rfl rfl (by kernel_rfl) (by kernel_rfl) (by kernel_rfl) (fun _ _ _ h => h) (yields (by rfl) (fun w => by kernel_rfl)) hS ?_
  simp only [Act.put, List.setIfInBounds_toArray, List.set_cons_zero, List.set_cons_succ]
  refine takeAt 34 121 (.bool false) rfl rfl (by kernel_rfl) (by kernel_rfl) (by kernel_rfl) (fun _ _ _ h => h) (yields (by rfl) (fun w => by kernel_rfl)) hS ?_
  simp only [Act.put, List.setIfInBounds_toArray, List.set_cons_zero, List.set_cons_succ]
  refine takeAt 35 122 (.agg (cpC c)) rfl rfl (by kernel_rfl) (by kernel_rfl) (by kernel_rfl) (fun _ _ _ h => h) (loadC2_y w.heap.size c (fun _ h => h.1.2.1) rfl rfl (by rfl)) hS ?_
  simp only [Act.put, List.setIfInBounds_toArray, List.set_cons_zero, List.set_cons_succ]
  refine takeAt 36 123 (.pointer (some ⟨w.heap.size + 1, 0, none⟩)) rfl rfl (by kernel_rfl) (by kernel_rfl) (by kernel_rfl) (fun _ _ _ h => h) (yields (by rfl) (fun w => by kernel_rfl)) hS ?_
  simp only [Act.put, List.setIfInBounds_toArray, List.set_cons_zero, List.set_cons_succ]
  refine takeAt 37 124 (.int .i64 z0) rfl rfl (by kernel_rfl) (by kernel_rfl) (by kernel_rfl) (fun _ _ _ h => h) (loadInt_y (w.heap.size + 1) 0 z0 (fun _ h => h.1.2.2.1.get 0 rfl) rfl rfl (by rfl)) hS ?_
  simp only [Act.put, List.setIfInBounds_toArray, List.set_cons_zero, List.set_cons_succ]
  refine takeAt 39 126 (.agg (cpC c)) rfl rfl (by kernel_rfl) (by kernel_rfl) (by kernel_rfl) (fun _ _ _ h => h) (loadR_y (w1.heap.size) c (fun _ h => h.2.2.2) rfl rfl (by rfl)) hS ?_
  simp only [Act.put, List.setIfInBounds_toArray, List.set_cons_zero, List.set_cons_succ]
  refine takeAt 40 127 (.pointer (some ⟨w.heap.size + 1, 0, none⟩)) rfl rfl (by kernel_rfl) (by kernel_rfl) (by kernel_rfl) (fun _ _ _ h => h) (yields (by rfl) (fun w => by kernel_rfl)) hS ?_
  simp only [Act.put, List.setIfInBounds_toArray, List.set_cons_zero, List.set_cons_succ]
  refine takeAt 41 128 (.int .i64 z0) rfl rfl (by kernel_rfl) (by kernel_rfl) (by kernel_rfl) (fun _ _ _ h => h) (loadInt_y (w.heap.size + 1) 0 z0 (fun _ h => h.1.2.2.1.get 0 rfl) rfl rfl (by rfl)) hS ?_
  simp only [Act.put, List.setIfInBounds_toArray, List.set_cons_zero, List.set_cons_succ]
  refine callAt 38 125 rfl rfl (by kernel_rfl) (by rfl) (by kernel_rfl) (H9.out _ hS.1.2.2.2) ?_
  rintro e v2 ⟨rfl, hb⟩
  replace hS := (show TSt c z0 z1 z2 z3 w v2 ∧ BoxV 26 v2 w2.heap.size (cpC A) ∧ BoxV 28 v2 w3.heap.size (cpC A) ∧ BoxV 28 v2 w1.heap.size (cpC c) from ⟨hS.1.call hb, hS.2.1.below hb hS.2.1.lt, hS.2.2.1.below hb hS.2.2.1.lt, hS.2.2.2.below hb hS.2.2.2.lt⟩)
  clear hb
  refine ⟨_, rfl, hS, ?_⟩
  simp only [Act.put, List.setIfInBounds_toArray, List.set_cons_zero, List.set_cons_succ]
  refine callAt 42 129 rfl rfl (by kernel_rfl) (by rfl) (by kernel_rfl) (H10.out _) ?_
  rintro e v3 ⟨rfl, hb⟩
  replace hS := (show TSt c z0 z1 z2 z3 w v3 ∧ BoxV 26 v3 w2.heap.size (cpC A) ∧ BoxV 28 v3 w3.heap.size (cpC A) ∧ BoxV 28 v3 w1.heap.size (cpC c) from ⟨hS.1.call hb, hS.2.1.below hb hS.2.1.lt, hS.2.2.1.below hb hS.2.2.1.lt, hS.2.2.2.below hb hS.2.2.2.lt⟩)
  clear hb
  refine ⟨_, rfl, hS, ?_⟩
  simp only [Act.put, List.setIfInBounds_toArray, List.set_cons_zero, List.set_cons_succ]
  refine takeAt 43 130 (.bool false) rfl rfl (by kernel_rfl) (by kernel_rfl) (by kernel_rfl) (fun _ _ _ h => h) (neS_y U rfl rfl rfl (by rfl)) hS ?_
  simp only [Act.put, List.setIfInBounds_toArray, List.set_cons_zero, List.set_cons_succ]
  refine takeAt 44 131 (.bool false) rfl rfl (by kernel_rfl) (by kernel_rfl) (by kernel_rfl) (fun _ _ _ h => h) (yields (by rfl) (fun w => by kernel_rfl)) hS ?_
  simp only [Act.put, List.setIfInBounds_toArray, List.set_cons_zero, List.set_cons_succ]
  refine wpAnyH_done (by kernel_rfl) ?_ _
  replace HS := Lib.hid hS.1
  replace HR := Lib.hid hS.2.2.2
  clear hS HA HBb H8 H9
  have d0 := HS.out.2.2.1.get 0 rfl
  have d1 := HS.out.2.2.1.get 1 rfl
  have d2 := HS.out.2.2.1.get 2 rfl
  have d3 := HS.out.2.2.1.get 3 rfl
  go_wp2_with (refine loadC rfl _ rfl w.heap.size c rfl HS.out.2.1 ?_)
  refine (H11.out _).mono ?_
  rintro e w11 ⟨rfl, hb⟩
  replace HS := Lib.hid (HS.out.call hb)
  replace HR := Lib.hid (HR.out.below hb HR.out.lt)
  clear hb d0 d1 d2 d3 H11
  have d0 := HS.out.2.2.1.get 0 rfl
  have d1 := HS.out.2.2.1.get 1 rfl
  have d2 := HS.out.2.2.1.get 2 rfl
  have d3 := HS.out.2.2.1.get 3 rfl
  go_wp2_with (refine loadR rfl _ rfl w1.heap.size c rfl HR.out ?_)
  refine (H12.out _).mono ?_
  rintro e w12 ⟨rfl, hb⟩
  replace HS := Lib.hid (HS.out.call hb)
  replace HR := Lib.hid (HR.out.below hb HR.out.lt)
  clear hb d0 d1 d2 d3 H12
  go_wp2_with fail
  refine (HF.out _ HS.out.2.2.2).mono ?_
  rintro e w13 ⟨rfl, hb⟩
  replace HS := Lib.hid (HS.out.call hb)
  clear hb
  go_wp2_with fail
  go_ret
  exact ⟨rfl, HS.out.1⟩
theorem capsTell_any (L : LibOk) (c : Cp) (hc : c.fits) (z0 z1 z2 z3 : Int) (s : ByteArray) (w : World) (hw : PowOk w) :
    Calls Tryd.prog 3 #[.agg (cpC c), .agg #[.int .i64 z0, .int .i64 z1, .int .i64 z2, .int .i64 z3], .string s] w fun e w' => e = .returned (.bool true) ∧ Below w.heap.size w w' :=
  capsTell_core L c hc z0 z1 z2 z3 s _ rfl w hw
end Go.Proofs.YtnapbmdbeihngaaDoor
