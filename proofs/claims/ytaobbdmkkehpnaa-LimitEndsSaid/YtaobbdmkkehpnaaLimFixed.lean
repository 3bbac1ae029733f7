/-
  The calls of layer 4 whose answers the document fixes are answered so.
-/
import Derived.Test.YtaobbdmkkehpnaaLimOk
namespace Go.Proofs.Ytaobbdmkkehpnaa
open Go.RowKit

/-- A budget of package limit lies in block g. -/
def RowL (u : World) (g x y : Nat) : Prop := u.heap[g]? = some (.cells #[.float .f64 x, .float .f64 y] 24 (0, 0))
theorem RowL.lt {u : World} {g x y : Nat} (h : RowL u g x y) : g < u.heap.size := (Array.getElem?_eq_some_iff.1 h).1
theorem RowL.cells {u : World} {g x y : Nat} (h : RowL u g x y) : u.cell? ⟨g, 0, none⟩ = some (.float .f64 x) ∧ u.cell? ⟨g, 1, none⟩ = some (.float .f64 y) := by
  unfold RowL at h
  unfold World.cell?
  simp [h]
theorem RowL.call {u v : World} {g x y : Nat} (h : RowL u g x y) (hb : Below u.heap.size u v) : RowL v g x y := (hb.block g h.lt).trans h
theorem RowL.but {u v : World} {g x y p : Nat} (h : RowL u g x y) (hb : But p u v) (hp : g ≠ p) : RowL v g x y := (hb.block g h.lt hp).trans h
theorem RowL.new (u : World) (g x y : Nat) (hg : g = u.heap.size) : RowL (u.alloc (.cells #[.float .f64 x, .float .f64 y] 24)) g x y := by subst hg; exact heap_alloc_new _ _
theorem RowL.alloc {u : World} {g x y : Nat} (h : RowL u g x y) (o : Obj) : RowL (u.alloc o) g x y := (Below.heap_alloc _ _ _ h.lt).trans h

theorem lx0 : scOk 4613937818241073152 9218868437227405312 4611686018427387904 = true := by decide +kernel
theorem lx1 : scV 4613937818241073152 9218868437227405312 4611686018427387904 = bud 4618441417868443648 9218868437227405312 := by
  unfold scV
  rw [lx0, if_pos rfl, show mulV 4613937818241073152 4611686018427387904 = 4618441417868443648 by decide +kernel, show mulV 9218868437227405312 4611686018427387904 = 9218868437227405312 by decide +kernel]
theorem lx2 : scE 4613937818241073152 9218868437227405312 4611686018427387904 = 0 := by decide +kernel
theorem lx3a : scOk 4613937818241073152 9218868437227405312 0 = false := by decide +kernel
theorem lx3 : scE 4613937818241073152 9218868437227405312 0 = 1 := by decide +kernel
theorem lx4 : scV 4613937818241073152 9218868437227405312 0 = bud 0 0 := by unfold scV; rw [lx3a]; rfl
theorem lx5 : (okW 9221120237041090561 && okW 0) = false := by decide +kernel
theorem lx6 : (okW 0 && okW 13830554455654793216) = false := by decide +kernel
theorem lx7 : (okW 4613937818241073152 && okW 4611686018427387904) = true := by decide +kernel
theorem lx8 : allowB 3 4613937818241073152 = true := by decide +kernel
theorem lx9 : allowB 4 4613937818241073152 = false := by decide +kernel
theorem lx10 : allowB 2 4611686018427387904 = true := by decide +kernel
theorem lx11 : allowB 3 4611686018427387904 = false := by decide +kernel
theorem lx12 : allowB 1 4611686018427387904 = true := by decide +kernel
theorem lx13 : kindZ 9223372036854775808 = 3 := by decide +kernel
theorem lx14 : kindZ 9221120237041090561 = 0 := by decide +kernel
theorem lx15 : kindZ 9218868437227405312 = 6 := by decide +kernel
theorem lx16 : (okW 4613937818241073152 && okW 9218868437227405312) = true := by decide +kernel
theorem lx17 : (okW 18442240474082181120 && okW 0) = false := by decide +kernel
theorem lx18 : lessW 4613937818241073152 4617315517961601024 = 4613937818241073152 := by decide +kernel
theorem lx19 : lessW 9218868437227405312 4607182418800017408 = 4607182418800017408 := by decide +kernel
theorem ox1 : (FloatKind.f64.format.order 4618441417868443648 4618441417868443648 == some .eq) = true := by decide +kernel
theorem ox2 : (FloatKind.f64.format.order 9218868437227405312 9218868437227405312 == some .eq) = true := by decide +kernel
theorem ox3 : (FloatKind.f64.format.order 4613937818241073152 4613937818241073152 == some .eq) = true := by decide +kernel
theorem ox4 : (FloatKind.f64.format.order 4607182418800017408 4607182418800017408 == some .eq) = true := by decide +kernel

@[go_sem] theorem eqF (d : Nat) (a b : Nat) (w : World) : (Op.equalIn (d + 1) 22 (.float .f64 a) (.float .f64 b)).run Try.prog w = .ok (FloatKind.f64.format.order a b == some .eq) w := by
  unfold Op.equalIn
  simp [run_underlying Try.underlying22, Op.floatEq]
theorem neg_inf (w : World) : (Op.unary .neg (.float .f64 9218868437227405312)).run Try.prog w = .ok (.float .f64 18442240474082181120) w := by kernel_rfl

set_option maxHeartbeats 4000000 in
set_option maxRecDepth 100000 in
theorem fixed_any (L : LimOk) (w : World) : Calls Try.prog 19 #[] w fun e w' => e = .returned (.bool true) ∧ Below w.heap.size w w' := by
  have o1 := ox1
  have o2 := ox2
  have o3 := ox3
  have o4 := ox4
  have ng := neg_inf
  go_enter Try.func19, Try.ntmps19
  go_wp2_with fail
  refine (inf_any _).mono ?_
  rintro e w' ⟨rfl, rfl⟩
  go_wp2_with fail
  refine (nan_any _).mono ?_
  rintro e w' ⟨rfl, rfl⟩
  go_wp2_with fail
  refine (L.scale_k _ _ _ _ _ _ (by decide) (by decide) (by decide) lx1 lx2).mono ?_
  rintro e w1 ⟨rfl, hb⟩
  have RB := Lib.hid ((RowL.new w w.heap.size 4613937818241073152 9218868437227405312 rfl).call hb)
  have HB := Lib.hid (thenB ((Below.refl _ w).alloc (Nat.le_refl _) _) hb (by simp))
  clear hb
  obtain ⟨b0, b1⟩ := RB.out.cells
  have gl := RB.out.lt
  go_wp2_with fail
  refine (L.scale_k _ _ _ _ _ _ (by decide) (by decide) (by decide) lx4 lx3).mono ?_
  rintro e w2 ⟨rfl, hb⟩
  have RB2 := Lib.hid ((RB.out.alloc _).call hb)
  have RC2 := Lib.hid ((RowL.new w1 w1.heap.size 4618441417868443648 9218868437227405312 rfl).call hb)
  have HB2 := Lib.hid (thenB (HB.out.alloc HB.out.size _) hb (Nat.le_trans HB.out.size (by simp)))
  clear hb RB HB b0 b1
  have GL := Lib.hid gl
  clear gl
  go_wp2_with fail
  refine (L.new_no _ _ _ (by decide) (by decide) lx5).mono ?_
  rintro e w3 ⟨rfl, hb⟩
  have RB3 := Lib.hid ((RB2.out.alloc _).call hb)
  have RC3 := Lib.hid ((RC2.out.alloc _).call hb)
  have HB3 := Lib.hid (thenB (HB2.out.alloc HB2.out.size _) hb (Nat.le_trans HB2.out.size (by simp)))
  clear hb RB2 RC2 HB2
  go_wp2_with fail
  refine (L.new_no _ _ _ (by decide) (by decide) lx6).mono ?_
  rintro e w4 ⟨rfl, hb⟩
  have RB4 := Lib.hid (RB3.out.call hb)
  have RC4 := Lib.hid (RC3.out.call hb)
  have HB4 := Lib.hid (thenB HB3.out hb HB3.out.size)
  clear hb RB3 RC3 HB3
  go_wp2_with fail
  refine (L.new_yes _ _ _ (by decide) (by decide) lx7).mono ?_
  rintro e w5 ⟨p, rfl, hp, hm, hb⟩
  have PB := Lib.hid (show w.heap.size ≠ p by have := RB4.out.lt; omega)
  have PC := Lib.hid (show w1.heap.size ≠ p by have := RC4.out.lt; omega)
  have PW := Lib.hid (show w.heap.size ≤ p by have := RB4.out.lt; omega)
  have RB5 := Lib.hid (RB4.out.call hb)
  have RC5 := Lib.hid (RC4.out.call hb)
  have HB5 := Lib.hid (thenB HB4.out hb HB4.out.size)
  have M5 := Lib.hid hm
  clear hb hm hp RB4 RC4 HB4
  go_wp2_with fail
  refine (L.step_k p _ _ 0 0 0 3 true (3) _ M5.out (by decide) (by decide) (by decide) (by decide) lx8).mono ?_
  rintro e w6 ⟨rfl, hm, hb⟩
  have RB6 := Lib.hid (RB5.out.but hb PB.out)
  have RC6 := Lib.hid (RC5.out.but hb PC.out)
  have HB6 := Lib.hid (But.below HB5.out hb HB5.out.size PW.out)
  have M6 := Lib.hid hm
  clear hb hm RB5 RC5 HB5 M5
  go_wp2_with fail
  refine (L.step_k p _ _ 3 0 0 3 true (-5) _ M6.out (by decide) (by decide) (by decide) (by decide) lx8).mono ?_
  rintro e w7 ⟨rfl, hm, hb⟩
  have RB7 := Lib.hid (RB6.out.but hb PB.out)
  have RC7 := Lib.hid (RC6.out.but hb PC.out)
  have HB7 := Lib.hid (But.below HB6.out hb HB6.out.size PW.out)
  have M7 := Lib.hid hm
  clear hb hm RB6 RC6 HB6 M6
  go_wp2_with fail
  refine (L.step_k p _ _ 3 0 0 4 false (1) _ M7.out (by decide) (by decide) (by decide) (by decide) lx9).mono ?_
  rintro e w8 ⟨rfl, hm, hb⟩
  have RB8 := Lib.hid (RB7.out.but hb PB.out)
  have RC8 := Lib.hid (RC7.out.but hb PC.out)
  have HB8 := Lib.hid (But.below HB7.out hb HB7.out.size PW.out)
  have M8 := Lib.hid hm
  clear hb hm RB7 RC7 HB7 M7
  go_wp2_with fail
  refine (L.hold_k p _ _ 4 0 0 2 2 true (2) _ M8.out (by decide) (by decide) (by decide) (by decide) (by decide) lx10).mono ?_
  rintro e w9 ⟨rfl, hm, hb⟩
  have RB9 := Lib.hid (RB8.out.but hb PB.out)
  have RC9 := Lib.hid (RC8.out.but hb PC.out)
  have HB9 := Lib.hid (But.below HB8.out hb HB8.out.size PW.out)
  have M9 := Lib.hid hm
  clear hb hm RB8 RC8 HB8 M8
  go_wp2_with fail
  refine (L.hold_k p _ _ 4 2 2 3 3 false (1) _ M9.out (by decide) (by decide) (by decide) (by decide) (by decide) lx11).mono ?_
  rintro e w10 ⟨rfl, hm, hb⟩
  have RB10 := Lib.hid (RB9.out.but hb PB.out)
  have RC10 := Lib.hid (RC9.out.but hb PC.out)
  have HB10 := Lib.hid (But.below HB9.out hb HB9.out.size PW.out)
  have M10 := Lib.hid hm
  clear hb hm RB9 RC9 HB9 M9
  go_wp2_with fail
  refine (L.hold_k p _ _ 4 3 3 1 3 true (-2) _ M10.out (by decide) (by decide) (by decide) (by decide) (by decide) lx12).mono ?_
  rintro e w11 ⟨rfl, hm, hb⟩
  have RB11 := Lib.hid (RB10.out.but hb PB.out)
  have RC11 := Lib.hid (RC10.out.but hb PC.out)
  have HB11 := Lib.hid (But.below HB10.out hb HB10.out.size PW.out)
  have M11 := Lib.hid hm
  clear hb hm RB10 RC10 HB10 M10
  go_wp2_with fail
  refine (L.used p _ _ 4 1 3 _ M11.out).mono ?_
  rintro e w12 ⟨rfl, hb⟩
  have RB12 := Lib.hid (RB11.out.call hb)
  have RC12 := Lib.hid (RC11.out.call hb)
  have HB12 := Lib.hid (thenB HB11.out hb HB11.out.size)
  have M12 := Lib.hid (L.call M11.out hb)
  clear hb RB11 RC11 HB11 M11
  obtain ⟨b0, b1⟩ := RB12.out.cells
  obtain ⟨c0, c1⟩ := RC12.out.cells
  go_wp2_with fail
  refine (sign_any _).mono ?_
  rintro e w' ⟨rfl, rfl⟩
  clear b0 b1 c0 c1
  go_wp2_with fail
  refine (L.kind_k _ _ _ (by decide) lx13).mono ?_
  rintro e w13 ⟨rfl, hb⟩
  have RB13 := Lib.hid (RB12.out.call hb)
  have RC13 := Lib.hid (RC12.out.call hb)
  have HB13 := Lib.hid (thenB HB12.out hb HB12.out.size)
  have M13 := Lib.hid (L.call M12.out hb)
  clear hb RB12 RC12 HB12 M12
  go_wp2_with fail
  refine (L.kind_k _ _ _ (by decide) lx14).mono ?_
  rintro e w14 ⟨rfl, hb⟩
  have RB14 := Lib.hid (RB13.out.call hb)
  have RC14 := Lib.hid (RC13.out.call hb)
  have HB14 := Lib.hid (thenB HB13.out hb HB13.out.size)
  have M14 := Lib.hid (L.call M13.out hb)
  clear hb RB13 RC13 HB13 M13
  go_wp2_with fail
  refine (L.kind_k _ _ _ (by decide) lx15).mono ?_
  rintro e w15 ⟨rfl, hb⟩
  have RB15 := Lib.hid (RB14.out.call hb)
  have RC15 := Lib.hid (RC14.out.call hb)
  have HB15 := Lib.hid (thenB HB14.out hb HB14.out.size)
  have M15 := Lib.hid (L.call M14.out hb)
  clear hb RB14 RC14 HB14 M14
  obtain ⟨b0, b1⟩ := RB15.out.cells
  go_wp2_with fail
  refine (L.right_k _ _ _ _ (by decide) (by decide) lx16).mono ?_
  rintro e w16 ⟨rfl, hb⟩
  have RB16 := Lib.hid (RB15.out.call hb)
  have RC16 := Lib.hid (RC15.out.call hb)
  have HB16 := Lib.hid (thenB HB15.out hb HB15.out.size)
  have M16 := Lib.hid (L.call M15.out hb)
  clear hb RB15 RC15 HB15 M15
  clear b0 b1
  go_wp2_with fail
  refine (L.right_k _ _ _ _ (by decide) (by decide) lx17).mono ?_
  rintro e w17 ⟨rfl, hb⟩
  have RB17 := Lib.hid (RB16.out.call hb)
  have RC17 := Lib.hid (RC16.out.call hb)
  have HB17 := Lib.hid (thenB HB16.out hb HB16.out.size)
  have M17 := Lib.hid (L.call M16.out hb)
  clear hb RB16 RC16 HB16 M16
  obtain ⟨b0, b1⟩ := RB17.out.cells
  go_wp2_with fail
  refine (L.least_k _ _ _ _ _ _ _ lx18 lx19).mono ?_
  rintro e w18 ⟨rfl, hb⟩
  have RB18 := Lib.hid (RB17.out.call hb)
  have RC18 := Lib.hid (RC17.out.call hb)
  have HB18 := Lib.hid (thenB HB17.out hb HB17.out.size)
  have M18 := Lib.hid (L.call M17.out hb)
  clear hb RB17 RC17 HB17 M17
  go_wp2_with fail
  go_ret
  exact ⟨rfl, HB18.out⟩
end Go.Proofs.Ytaobbdmkkehpnaa
