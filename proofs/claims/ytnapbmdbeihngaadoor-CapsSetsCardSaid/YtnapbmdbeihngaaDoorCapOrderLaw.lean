/-
  Layer 10, the statement CapsOrder: its walk.
-/
import Derived.Test.YtnapbmdbeihngaaDoorCapFix
namespace Go.Proofs.YtnapbmdbeihngaaDoor
open Go.RowKit

/-- With, of a byte's place and bytes' numbers. -/
theorem withZ_in (c : Cp) (u x y : Nat) (hx : x < 256) (hy : y < 256) : withZ c (1 + (u : Int) % 9) (x : Int) ((x : Int) + (y : Int)) = (c.set (u % 9) x ((x : Int) + (y : Int)), 0) := by
  unfold withZ
  rw [if_pos ⟨⟨by omega, by omega⟩, by omega, by omega, by omega⟩]
  congr 2
  omega
theorem set_same (c : Cp) (k : Nat) (a b a' b' : Int) : eqC ((c.set k a b).set k a' b') (c.set k a' b') = true := by
  rw [eqC_iff]
  intro j _
  unfold Cp.set
  refine ⟨?_, ?_, ?_⟩ <;> (by_cases h : j = k <;> simp [h])
theorem set_swap (c : Cp) (k m : Nat) (hkm : k ≠ m) (a b a' b' : Int) : eqC ((c.set k a b).set m a' b') ((c.set m a' b').set k a b) = true := by
  rw [eqC_iff]
  intro j _
  unfold Cp.set
  by_cases h : j = k
  · subst h; simp [hkm]
  · by_cases h2 : j = m
    · subst h2; simp [h]
    · simp [h, h2]
theorem set_unlike (c d : Cp) (k : Nat) (hk : k < 9) (h : d.is k = false) (a b : Int) : eqC (c.set k a b) d = false := by
  cases hb : eqC (c.set k a b) d with
  | false => rfl
  | true =>
    have := ((eqC_iff _ _).1 hb k hk).1
    rw [h] at this
    unfold Cp.set at this
    simp at this
theorem set_comm (c d : Cp) : eqC c d = eqC d c := by
  rw [Bool.eq_iff_iff, eqC_iff, eqC_iff]
  exact ⟨fun h k hk => ⟨(h k hk).1.symm, (h k hk).2.1.symm, (h k hk).2.2.symm⟩, fun h k hk => ⟨(h k hk).1.symm, (h k hk).2.1.symm, (h k hk).2.2.symm⟩⟩
theorem eqC_no {c d : Cp} (k : Nat) (hk : k < 9) (h1 : c.is k = true) (h2 : d.is k = false) : eqC c d = false := by
  cases hb : eqC c d with
  | false => rfl
  | true =>
    have := ((eqC_iff _ _).1 hb k hk).1
    rw [h1, h2] at this
    cases this
theorem set_is (c : Cp) (k : Nat) (a b : Int) (j : Nat) : (c.set k a b).is j = if j = k then true else c.is j := rfl
set_option maxRecDepth 100000 in
set_option maxHeartbeats 8000000 in
theorem capsOrder_same (L : LibOk) (u0 u1 u2 v0 v1 v2 : Nat) (hu : u0 < 256 ∧ u1 < 256 ∧ u2 < 256) (hv : v0 < 256 ∧ v1 < 256 ∧ v2 < 256) (hk : u0 % 9 = v0 % 9) (w : World) (hw : PowOk w) :
    Calls Tryd.prog 6 #[.agg #[.int .u8 (u0 : Int), .int .u8 (u1 : Int), .int .u8 (u2 : Int), .int .u8 (v0 : Int), .int .u8 (v1 : Int), .int .u8 (v2 : Int)]] w fun e w' => e = .returned (.bool true) ∧ Below w.heap.size w w' := by
  obtain ⟨a0, a1, a2⟩ := hu
  obtain ⟨b0, b1, b2⟩ := hv
  have hk1 : u0 % 9 < 9 := by omega
  have hk2 : v0 % 9 < 9 := by omega
  have H1 := Lib.hid (fun w => with_any zrC (1 + (u0 : Int) % 9) (u1 : Int) ((u1 : Int) + (u2 : Int)) w)
  have H2 := Lib.hid (fun w => with_any (zrC.set (u0 % 9) u1 ((u1 : Int) + (u2 : Int))) (1 + (v0 : Int) % 9) (v1 : Int) ((v1 : Int) + (v2 : Int)) w)
  have H3 := Lib.hid (fun w => with_any zrC (1 + (v0 : Int) % 9) (v1 : Int) ((v1 : Int) + (v2 : Int)) w)
  have H4 := Lib.hid (fun w => with_any (zrC.set (v0 % 9) v1 ((v1 : Int) + (v2 : Int))) (1 + (u0 : Int) % 9) (u1 : Int) ((u1 : Int) + (u2 : Int)) w)
  simp only [withZ_in _ u0 u1 u2 a1 a2] at H1 H4
  simp only [withZ_in _ v0 v1 v2 b1 b2] at H2 H3
  have q1 : eqC ((zrC.set (u0 % 9) u1 ((u1 : Int) + (u2 : Int))).set (v0 % 9) v1 ((v1 : Int) + (v2 : Int))) (zrC.set (v0 % 9) v1 ((v1 : Int) + (v2 : Int))) = true := by rw [hk]; exact set_same _ _ _ _ _ _
  have q2 : eqC ((zrC.set (v0 % 9) v1 ((v1 : Int) + (v2 : Int))).set (u0 % 9) u1 ((u1 : Int) + (u2 : Int))) (zrC.set (u0 % 9) u1 ((u1 : Int) + (u2 : Int))) = true := by rw [← hk]; exact set_same _ _ _ _ _ _
  have qk : ((1 + (u0 : Int) % 9) == (1 + (v0 : Int) % 9)) = true := by rw [beq_iff_eq]; omega
  generalize (zrC.set (u0 % 9) u1 ((u1 : Int) + (u2 : Int))).set (v0 % 9) v1 ((v1 : Int) + (v2 : Int)) = X at H2 q1 q2
  generalize (zrC.set (v0 % 9) v1 ((v1 : Int) + (v2 : Int))).set (u0 % 9) u1 ((u1 : Int) + (u2 : Int)) = Z at H4 q2
  generalize zrC.set (u0 % 9) u1 ((u1 : Int) + (u2 : Int)) = W1 at H1 H2 q2
  generalize zrC.set (v0 % 9) v1 ((v1 : Int) + (v2 : Int)) = Y at H3 H4 q1
  have HF := Lib.hid (fun w h => fixed_any L w h)
  have HW := Lib.hid hw
  clear hw L hk hk1 hk2
  go_enter Tryd.func6, Tryd.ntmps6
  go_wp2_with fail
  go_quiet (fail)
  go_wp2_with fail
  go_quiet (fail)
  go_wp2_with fail
  go_quiet (fail)
  generalize hg : World.drewN _ _ = x0
  have HB := Lib.hid (show Below w.heap.size w x0 by rw [← hg]; exact below_drewN (below_drewN (below_drewN (by go_grown) _) _) _)
  clear hg
  go_wp2_with (fail)
  refine (H1.out _).mono ?_
  rintro e x1 ⟨rfl, hb⟩
  replace HB := Lib.hid (thenB HB.out hb HB.out.size)
  clear hb
  go_wp2_with (refine storeC rfl _ _ rfl x1.heap.size W1 (cpC zrC) rfl rfl (by rfl) (BoxV.new x1 _) ?_; intro u1 hu hb ho; refine StopS.out ?_)
  have hbb := ((Below.refl x1.heap.size x1).alloc (Nat.le_refl _) _).trans (hb.out _ (Nat.le_refl _))
  replace HB := Lib.hid (thenB HB.out hbb HB.out.size)
  have HXW1 := Lib.hid hu.out
  clear hbb hb hu ho
  refine ⟨?_⟩
  go_wp2_with (refine loadC rfl _ rfl x1.heap.size W1 rfl HXW1.out ?_)
  refine (H2.out _).mono ?_
  rintro e x2 ⟨rfl, hb⟩
  replace HB := Lib.hid (thenB HB.out hb HB.out.size)
  replace HXW1 := Lib.hid (HXW1.out.below hb HXW1.out.lt)
  clear hb
  go_wp2_with (refine storeC rfl _ _ rfl x2.heap.size X (cpC zrC) rfl rfl (by rfl) (BoxV.new x2 _) ?_; intro u2 hu hb ho; refine StopS.out ?_)
  have hbb := ((Below.refl x2.heap.size x2).alloc (Nat.le_refl _) _).trans (hb.out _ (Nat.le_refl _))
  replace HB := Lib.hid (thenB HB.out hbb HB.out.size)
  replace HXW1 := Lib.hid (HXW1.out.below hbb HXW1.out.lt)
  have HXX := Lib.hid hu.out
  clear hbb hb hu ho
  refine ⟨?_⟩
  go_wp2_with (fail)
  refine (H3.out _).mono ?_
  rintro e x3 ⟨rfl, hb⟩
  replace HB := Lib.hid (thenB HB.out hb HB.out.size)
  replace HXW1 := Lib.hid (HXW1.out.below hb HXW1.out.lt)
  replace HXX := Lib.hid (HXX.out.below hb HXX.out.lt)
  clear hb
  go_wp2_with (refine storeC rfl _ _ rfl x3.heap.size Y (cpC zrC) rfl rfl (by rfl) (BoxV.new x3 _) ?_; intro u3 hu hb ho; refine StopS.out ?_)
  have hbb := ((Below.refl x3.heap.size x3).alloc (Nat.le_refl _) _).trans (hb.out _ (Nat.le_refl _))
  replace HB := Lib.hid (thenB HB.out hbb HB.out.size)
  replace HXW1 := Lib.hid (HXW1.out.below hbb HXW1.out.lt)
  replace HXX := Lib.hid (HXX.out.below hbb HXX.out.lt)
  have HXY := Lib.hid hu.out
  clear hbb hb hu ho
  refine ⟨?_⟩
  go_wp2_with (refine loadC rfl _ rfl x3.heap.size Y rfl HXY.out ?_)
  refine (H4.out _).mono ?_
  rintro e x4 ⟨rfl, hb⟩
  replace HB := Lib.hid (thenB HB.out hb HB.out.size)
  replace HXW1 := Lib.hid (HXW1.out.below hb HXW1.out.lt)
  replace HXX := Lib.hid (HXX.out.below hb HXX.out.lt)
  replace HXY := Lib.hid (HXY.out.below hb HXY.out.lt)
  clear hb
  go_wp2_with (refine storeC rfl _ _ rfl x4.heap.size Z (cpC zrC) rfl rfl (by rfl) (BoxV.new x4 _) ?_; intro u4 hu hb ho; refine StopS.out ?_)
  have hbb := ((Below.refl x4.heap.size x4).alloc (Nat.le_refl _) _).trans (hb.out _ (Nat.le_refl _))
  replace HB := Lib.hid (thenB HB.out hbb HB.out.size)
  replace HXW1 := Lib.hid (HXW1.out.below hbb HXW1.out.lt)
  replace HXX := Lib.hid (HXX.out.below hbb HXX.out.lt)
  replace HXY := Lib.hid (HXY.out.below hbb HXY.out.lt)
  have HXZ := Lib.hid hu.out
  clear hbb hb hu ho
  refine ⟨?_⟩
  go_wp2_with (first | (refine loadC rfl _ rfl x1.heap.size W1 rfl HXW1.out ?_) | (refine loadC rfl _ rfl x2.heap.size X rfl HXX.out ?_) | (refine loadC rfl _ rfl x3.heap.size Y rfl HXY.out ?_) | (refine loadC rfl _ rfl x4.heap.size Z rfl HXZ.out ?_) | (refine loadCg (by rfl) _ rfl x1.heap.size W1 rfl HXW1.out ?_) | (refine loadCg (by rfl) _ rfl x2.heap.size X rfl HXX.out ?_) | (refine loadCg (by rfl) _ rfl x3.heap.size Y rfl HXY.out ?_) | (refine loadCg (by rfl) _ rfl x4.heap.size Z rfl HXZ.out ?_))
  refine (HF.out _ (HW.out.call HB.out)).mono ?_
  rintro e x5 ⟨rfl, hb⟩
  replace HB := Lib.hid (thenB HB.out hb HB.out.size)
  clear hb
  go_wp2_with fail
  go_ret
  exact ⟨rfl, HB.out⟩
set_option maxRecDepth 100000 in
set_option maxHeartbeats 8000000 in
theorem capsOrder_else (L : LibOk) (u0 u1 u2 v0 v1 v2 : Nat) (hu : u0 < 256 ∧ u1 < 256 ∧ u2 < 256) (hv : v0 < 256 ∧ v1 < 256 ∧ v2 < 256) (hk : u0 % 9 ≠ v0 % 9) (w : World) (hw : PowOk w) :
    Calls Tryd.prog 6 #[.agg #[.int .u8 (u0 : Int), .int .u8 (u1 : Int), .int .u8 (u2 : Int), .int .u8 (v0 : Int), .int .u8 (v1 : Int), .int .u8 (v2 : Int)]] w fun e w' => e = .returned (.bool true) ∧ Below w.heap.size w w' := by
  obtain ⟨a0, a1, a2⟩ := hu
  obtain ⟨b0, b1, b2⟩ := hv
  have hk1 : u0 % 9 < 9 := by omega
  have hk2 : v0 % 9 < 9 := by omega
  have H1 := Lib.hid (fun w => with_any zrC (1 + (u0 : Int) % 9) (u1 : Int) ((u1 : Int) + (u2 : Int)) w)
  have H2 := Lib.hid (fun w => with_any (zrC.set (u0 % 9) u1 ((u1 : Int) + (u2 : Int))) (1 + (v0 : Int) % 9) (v1 : Int) ((v1 : Int) + (v2 : Int)) w)
  have H3 := Lib.hid (fun w => with_any zrC (1 + (v0 : Int) % 9) (v1 : Int) ((v1 : Int) + (v2 : Int)) w)
  have H4 := Lib.hid (fun w => with_any (zrC.set (v0 % 9) v1 ((v1 : Int) + (v2 : Int))) (1 + (u0 : Int) % 9) (u1 : Int) ((u1 : Int) + (u2 : Int)) w)
  simp only [withZ_in _ u0 u1 u2 a1 a2] at H1 H4
  simp only [withZ_in _ v0 v1 v2 b1 b2] at H2 H3
  have q1 : eqC ((zrC.set (u0 % 9) u1 ((u1 : Int) + (u2 : Int))).set (v0 % 9) v1 ((v1 : Int) + (v2 : Int))) ((zrC.set (v0 % 9) v1 ((v1 : Int) + (v2 : Int))).set (u0 % 9) u1 ((u1 : Int) + (u2 : Int))) = true := set_swap _ _ _ hk _ _ _ _
  have q2 : eqC ((zrC.set (u0 % 9) u1 ((u1 : Int) + (u2 : Int))).set (v0 % 9) v1 ((v1 : Int) + (v2 : Int))) (zrC.set (u0 % 9) u1 ((u1 : Int) + (u2 : Int))) = false := eqC_no (v0 % 9) hk2 (by rw [set_is, if_pos rfl]) (by rw [set_is, if_neg (Ne.symm hk)]; rfl)
  have q3 : eqC ((zrC.set (u0 % 9) u1 ((u1 : Int) + (u2 : Int))).set (v0 % 9) v1 ((v1 : Int) + (v2 : Int))) (zrC.set (v0 % 9) v1 ((v1 : Int) + (v2 : Int))) = false := eqC_no (u0 % 9) hk1 (by rw [set_is, if_neg hk, set_is, if_pos rfl]) (by rw [set_is, if_neg hk]; rfl)
  have qk : ((1 + (u0 : Int) % 9) == (1 + (v0 : Int) % 9)) = false := by rw [beq_eq_false_iff_ne]; omega
  generalize (zrC.set (u0 % 9) u1 ((u1 : Int) + (u2 : Int))).set (v0 % 9) v1 ((v1 : Int) + (v2 : Int)) = X at H2 q1 q2 q3
  generalize (zrC.set (v0 % 9) v1 ((v1 : Int) + (v2 : Int))).set (u0 % 9) u1 ((u1 : Int) + (u2 : Int)) = Z at H4 q1
  generalize zrC.set (u0 % 9) u1 ((u1 : Int) + (u2 : Int)) = W1 at H1 H2 q2
  generalize zrC.set (v0 % 9) v1 ((v1 : Int) + (v2 : Int)) = Y at H3 H4 q3
  have HF := Lib.hid (fun w h => fixed_any L w h)
  have HW := Lib.hid hw
  clear hw L hk hk1 hk2
  go_enter Tryd.func6, Tryd.ntmps6
  go_wp2_with fail
  go_quiet (fail)
  go_wp2_with fail
  go_quiet (fail)
  go_wp2_with fail
  go_quiet (fail)
  generalize hg : World.drewN _ _ = x0
  have HB := Lib.hid (show Below w.heap.size w x0 by rw [← hg]; exact below_drewN (below_drewN (below_drewN (by go_grown) _) _) _)
  clear hg
  go_wp2_with (fail)
  refine (H1.out _).mono ?_
  rintro e x1 ⟨rfl, hb⟩
  replace HB := Lib.hid (thenB HB.out hb HB.out.size)
  clear hb
  go_wp2_with (refine storeC rfl _ _ rfl x1.heap.size W1 (cpC zrC) rfl rfl (by rfl) (BoxV.new x1 _) ?_; intro u1 hu hb ho; refine StopS.out ?_)
  have hbb := ((Below.refl x1.heap.size x1).alloc (Nat.le_refl _) _).trans (hb.out _ (Nat.le_refl _))
  replace HB := Lib.hid (thenB HB.out hbb HB.out.size)
  have HXW1 := Lib.hid hu.out
  clear hbb hb hu ho
  refine ⟨?_⟩
  go_wp2_with (refine loadC rfl _ rfl x1.heap.size W1 rfl HXW1.out ?_)
  refine (H2.out _).mono ?_
  rintro e x2 ⟨rfl, hb⟩
  replace HB := Lib.hid (thenB HB.out hb HB.out.size)
  replace HXW1 := Lib.hid (HXW1.out.below hb HXW1.out.lt)
  clear hb
  go_wp2_with (refine storeC rfl _ _ rfl x2.heap.size X (cpC zrC) rfl rfl (by rfl) (BoxV.new x2 _) ?_; intro u2 hu hb ho; refine StopS.out ?_)
  have hbb := ((Below.refl x2.heap.size x2).alloc (Nat.le_refl _) _).trans (hb.out _ (Nat.le_refl _))
  replace HB := Lib.hid (thenB HB.out hbb HB.out.size)
  replace HXW1 := Lib.hid (HXW1.out.below hbb HXW1.out.lt)
  have HXX := Lib.hid hu.out
  clear hbb hb hu ho
  refine ⟨?_⟩
  go_wp2_with (fail)
  refine (H3.out _).mono ?_
  rintro e x3 ⟨rfl, hb⟩
  replace HB := Lib.hid (thenB HB.out hb HB.out.size)
  replace HXW1 := Lib.hid (HXW1.out.below hb HXW1.out.lt)
  replace HXX := Lib.hid (HXX.out.below hb HXX.out.lt)
  clear hb
  go_wp2_with (refine storeC rfl _ _ rfl x3.heap.size Y (cpC zrC) rfl rfl (by rfl) (BoxV.new x3 _) ?_; intro u3 hu hb ho; refine StopS.out ?_)
  have hbb := ((Below.refl x3.heap.size x3).alloc (Nat.le_refl _) _).trans (hb.out _ (Nat.le_refl _))
  replace HB := Lib.hid (thenB HB.out hbb HB.out.size)
  replace HXW1 := Lib.hid (HXW1.out.below hbb HXW1.out.lt)
  replace HXX := Lib.hid (HXX.out.below hbb HXX.out.lt)
  have HXY := Lib.hid hu.out
  clear hbb hb hu ho
  refine ⟨?_⟩
  go_wp2_with (refine loadC rfl _ rfl x3.heap.size Y rfl HXY.out ?_)
  refine (H4.out _).mono ?_
  rintro e x4 ⟨rfl, hb⟩
  replace HB := Lib.hid (thenB HB.out hb HB.out.size)
  replace HXW1 := Lib.hid (HXW1.out.below hb HXW1.out.lt)
  replace HXX := Lib.hid (HXX.out.below hb HXX.out.lt)
  replace HXY := Lib.hid (HXY.out.below hb HXY.out.lt)
  clear hb
  go_wp2_with (refine storeC rfl _ _ rfl x4.heap.size Z (cpC zrC) rfl rfl (by rfl) (BoxV.new x4 _) ?_; intro u4 hu hb ho; refine StopS.out ?_)
  have hbb := ((Below.refl x4.heap.size x4).alloc (Nat.le_refl _) _).trans (hb.out _ (Nat.le_refl _))
  replace HB := Lib.hid (thenB HB.out hbb HB.out.size)
  replace HXW1 := Lib.hid (HXW1.out.below hbb HXW1.out.lt)
  replace HXX := Lib.hid (HXX.out.below hbb HXX.out.lt)
  replace HXY := Lib.hid (HXY.out.below hbb HXY.out.lt)
  have HXZ := Lib.hid hu.out
  clear hbb hb hu ho
  refine ⟨?_⟩
  go_wp2_with (first | (refine loadC rfl _ rfl x1.heap.size W1 rfl HXW1.out ?_) | (refine loadC rfl _ rfl x2.heap.size X rfl HXX.out ?_) | (refine loadC rfl _ rfl x3.heap.size Y rfl HXY.out ?_) | (refine loadC rfl _ rfl x4.heap.size Z rfl HXZ.out ?_) | (refine loadCg (by rfl) _ rfl x1.heap.size W1 rfl HXW1.out ?_) | (refine loadCg (by rfl) _ rfl x2.heap.size X rfl HXX.out ?_) | (refine loadCg (by rfl) _ rfl x3.heap.size Y rfl HXY.out ?_) | (refine loadCg (by rfl) _ rfl x4.heap.size Z rfl HXZ.out ?_))
  refine (HF.out _ (HW.out.call HB.out)).mono ?_
  rintro e x5 ⟨rfl, hb⟩
  replace HB := Lib.hid (thenB HB.out hb HB.out.size)
  clear hb
  go_wp2_with fail
  go_ret
  exact ⟨rfl, HB.out⟩
theorem capsOrder_any (L : LibOk) (u0 u1 u2 v0 v1 v2 : Nat) (hu : u0 < 256 ∧ u1 < 256 ∧ u2 < 256) (hv : v0 < 256 ∧ v1 < 256 ∧ v2 < 256) (w : World) (hw : PowOk w) :
    Calls Tryd.prog 6 #[.agg #[.int .u8 (u0 : Int), .int .u8 (u1 : Int), .int .u8 (u2 : Int), .int .u8 (v0 : Int), .int .u8 (v1 : Int), .int .u8 (v2 : Int)]] w fun e w' => e = .returned (.bool true) ∧ Below w.heap.size w w' := by
  by_cases hk : u0 % 9 = v0 % 9
  · exact capsOrder_same L u0 u1 u2 v0 v1 v2 hu hv hk w hw
  · exact capsOrder_else L u0 u1 u2 v0 v1 v2 hu hv hk w hw
end Go.Proofs.YtnapbmdbeihngaaDoor
