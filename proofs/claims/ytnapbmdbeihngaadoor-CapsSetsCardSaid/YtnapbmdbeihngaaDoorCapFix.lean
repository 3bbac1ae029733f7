/-
  Layer 10: the statements' fixed.
-/
import Derived.Test.YtnapbmdbeihngaaDoorCapRefS
namespace Go.Proofs.YtnapbmdbeihngaaDoor
open Go.RowKit

section
variable {ops : Array Oper} {rest : List Oper} {o : Oper} {a : Act} {w : World} {Q : Exit → Act → World → Prop}
theorem unguard (hw : Region.wanted o (yielded ops a.tmps) = true) (h : wpList Tryd.prog ops Q (⟨o.dst, o.op, o.type, o.pos, o.after, none⟩ :: rest) a w) : wpList Tryd.prog ops Q (o :: rest) a w := by
  unfold wpList at h ⊢
  rw [if_pos hw]
  rw [if_pos (show Region.wanted ⟨o.dst, o.op, o.type, o.pos, o.after, none⟩ (yielded ops a.tmps) = true from rfl)] at h
  exact h
theorem loadCg (hw : Region.wanted o (yielded ops a.tmps) = true) (x : Operand) (ho : o.op = .load 26 x) (g : Nat) (c : Cp) (hx : a.eval x = .pointer (some ⟨g, 0, none⟩)) (hg : BoxV 26 w g (cpC c))
    (h : wpList Tryd.prog ops Q rest (a.put o.dst (.agg (cpC c))) w) : wpList Tryd.prog ops Q (o :: rest) a w := unguard hw (loadC rfl x ho g c hx hg h)
end
/-- What fixed works on. -/
def fxC : Cp := zrC.set 1 0 5
theorem itS_dig (n : Nat) (h : n < 10) : itS (n : Int) = ⟨#[UInt8.ofNat (48 + n)]⟩ := by
  unfold itS Lib.itoa
  rw [if_neg (by omega), Int.toNat_natCast, Lib.decDigits_one h]
theorem part1 : partS fxC 1 = ⟨#[48, 45, 53]⟩ := by
  show itS ((0 : Nat) : Int) ++ ⟨#[45]⟩ ++ itS ((5 : Nat) : Int) = _
  rw [itS_dig 0 (by decide), itS_dig 5 (by decide)]
  rfl
theorem partX (k : Nat) (h : k ≠ 1) : partS fxC k = ⟨#[63]⟩ := by
  unfold partS fxC Cp.set zrC
  simp [h]
theorem fxC_fits : fxC.fits := by
  intro k _
  unfold fxC Cp.set zrC I64
  constructor <;> (simp only; split <;> decide)
theorem show3 : showS fxC 3 = ⟨#[63, 44, 48, 45, 53, 44, 63]⟩ := by
  simp only [showS, part1, partX 0 (by decide), partX 2 (by decide)]
  rfl
theorem show9 : showS fxC 9 = ⟨#[63, 44, 48, 45, 53, 44, 63, 44, 63, 44, 63, 44, 63, 44, 63, 44, 63, 44, 63]⟩ := by
  simp only [showS, part1, partX 0 (by decide), partX 2 (by decide), partX 3 (by decide), partX 4 (by decide), partX 5 (by decide), partX 6 (by decide), partX 7 (by decide), partX 8 (by decide)]
  rfl
/-- The block of the groups, and the table. -/
def FSt (w0 : World) (g : Nat) (c : Cp) (w : World) : Prop := Below w0.heap.size w0 w ∧ BoxV 26 w g (cpC c) ∧ PowOk w
theorem FSt.call {w0 w w' : World} {g : Nat} {c : Cp} (h : FSt w0 g c w) (hb : Below w.heap.size w w') : FSt w0 g c w' := ⟨thenB h.1 hb h.1.size, h.2.1.below hb h.2.1.lt, h.2.2.call hb⟩
abbrev hwS : ByteArray := ⟨#[104, 101, 108, 108, 111, 32, 119, 111, 114, 108, 100]⟩
abbrev heS : ByteArray := ⟨#[104, 101, 108, 108]⟩
abbrev hhS : ByteArray := ⟨#[104, 101, 108, 108, 111, 72, 69, 76, 76, 79]⟩
set_option maxRecDepth 100000 in
set_option maxHeartbeats 8000000 in
theorem fixed_any (L : LibOk) (w : World) (hw : PowOk w) : Calls Tryd.prog 19 #[] w fun e w' => e = .returned (.bool true) ∧ Below w.heap.size w w' := by
  have H1 := Lib.hid (fun w => with_any zrC 2 0 5 w)
  have H2 := Lib.hid (fun w => with_any fxC 10 0 1 w)
  have H3 := Lib.hid (fun w => with_any fxC 1 3 2 w)
  have H4 := Lib.hid (fun w => with_any fxC 1 0 10001 w)
  have H5 := Lib.hid (fun w => get_any fxC 2 w)
  have H6 := Lib.hid (fun w => get_any fxC 1 w)
  have H7 := Lib.hid (fun w => text_any L fxC hwS (by decide) 2 w)
  have H8 := Lib.hid (fun w => text_any L fxC heS (by decide) 2 w)
  have H9 := Lib.hid (fun w => again_any L fxC hhS (by decide) 2 5 true w)
  have H10 := Lib.hid (fun w => again_any L fxC hhS (by decide) 2 5 false w)
  have H11 := Lib.hid (fun w h => shows_any L fxC fxC_fits 3 3 (by decide) (by omega) w h)
  have H12 := Lib.hid (fun w h => shows_any L fxC fxC_fits 0 0 (by decide) (by omega) w h)
  have H13 := Lib.hid (fun w h => shows_any L fxC fxC_fits 99 9 (by decide) (by omega) w h)
  rw [show withZ zrC 2 0 5 = (fxC, 0) from rfl] at H1
  rw [show withZ fxC 10 0 1 = (zrC, 1) from rfl] at H2
  rw [show withZ fxC 1 3 2 = (zrC, 1) from rfl] at H3
  rw [show withZ fxC 1 0 10001 = (zrC, 1) from rfl] at H4
  rw [show plX fxC 2 = 0 from rfl, show plY fxC 2 = 5 from rfl, show plB fxC 2 = true from rfl] at H5
  rw [show plX fxC 1 = 0 from rfl, show plY fxC 1 = 0 from rfl, show plB fxC 1 = false from rfl] at H6
  rw [show pcS fxC hwS 2 = ⟨#[104, 101, 108, 108, 111]⟩ from by kernel_rfl, show pcB fxC hwS 2 = true from by kernel_rfl] at H7
  rw [show pcB fxC heS 2 = false from by kernel_rfl, show pcS fxC heS 2 = ⟨#[]⟩ from by kernel_rfl] at H8
  rw [show agB fxC hhS 2 5 true = true from by kernel_rfl, show agN fxC hhS 2 5 true = 5 from by kernel_rfl] at H9
  rw [show agB fxC hhS 2 5 false = false from by kernel_rfl, show agN fxC hhS 2 5 false = 0 from by kernel_rfl] at H10
  rw [show3] at H11
  rw [show showS fxC 0 = ⟨#[]⟩ from rfl] at H12
  rw [show9] at H13
  have HW := Lib.hid hw
  clear hw L
  generalize fxC = C at H1 H2 H3 H4 H5 H6 H7 H8 H9 H10 H11 H12 H13
  go_enter Tryd.func19, Tryd.ntmps19
  go_wp2_with fail
  refine (H1.out _).mono ?_
  rintro e w1 ⟨rfl, hb⟩
  have HB1 := Lib.hid hb
  clear hb
  go_wp2_with (refine storeC rfl _ _ rfl w1.heap.size C (cpC zrC) rfl rfl (by rfl) (BoxV.new w1 _) ?_; intro u1 hu hb ho; refine StopS.out ?_)
  have HS := Lib.hid (show FSt w w1.heap.size C u1 from ⟨HB1.out.trans ((((Below.refl _ w1).alloc (Nat.le_refl _) _).trans (hb.out _ (Nat.le_refl _))).mono HB1.out.size), hu.out, (HW.out.call HB1.out).call (((Below.refl _ w1).alloc (Nat.le_refl _) _).trans (hb.out _ (Nat.le_refl _)))⟩)
  clear hu hb ho HB1 HW
  refine ⟨?_⟩
  go_wp2_with (refine loadC rfl _ rfl w1.heap.size C rfl HS.out.2.1 ?_)
  refine (H2.out _).mono ?_
  rintro e w2 ⟨rfl, hb⟩
  replace HS := Lib.hid (HS.out.call hb)
  clear hb
  go_wp2_with (refine storeC rfl _ _ rfl w2.heap.size zrC (cpC zrC) rfl rfl (by rfl) (BoxV.new w2 _) ?_; intro u2 hu hb ho; refine StopS.out ?_)
  replace HS := Lib.hid (HS.out.call (((Below.refl _ w2).alloc (Nat.le_refl _) _).trans (hb.out _ (Nat.le_refl _))))
  clear hu hb ho
  refine ⟨?_⟩
  go_wp2_with (refine loadC rfl _ rfl w1.heap.size C rfl HS.out.2.1 ?_)
  refine (H3.out _).mono ?_
  rintro e w3 ⟨rfl, hb⟩
  replace HS := Lib.hid (HS.out.call hb)
  clear hb
  go_wp2_with (refine storeC rfl _ _ rfl w3.heap.size zrC (cpC zrC) rfl rfl (by rfl) (BoxV.new w3 _) ?_; intro u3 hu hb ho; refine StopS.out ?_)
  replace HS := Lib.hid (HS.out.call (((Below.refl _ w3).alloc (Nat.le_refl _) _).trans (hb.out _ (Nat.le_refl _))))
  clear hu hb ho
  refine ⟨?_⟩
  go_wp2_with (refine loadC rfl _ rfl w1.heap.size C rfl HS.out.2.1 ?_)
  refine (H4.out _).mono ?_
  rintro e w4 ⟨rfl, hb⟩
  replace HS := Lib.hid (HS.out.call hb)
  clear hb
  go_wp2_with (refine storeC rfl _ _ rfl w4.heap.size zrC (cpC zrC) rfl rfl (by rfl) (BoxV.new w4 _) ?_; intro u4 hu hb ho; refine StopS.out ?_)
  replace HS := Lib.hid (HS.out.call (((Below.refl _ w4).alloc (Nat.le_refl _) _).trans (hb.out _ (Nat.le_refl _))))
  clear hu hb ho
  refine ⟨?_⟩
  go_wp2_with (refine loadC rfl _ rfl w1.heap.size C rfl HS.out.2.1 ?_)
  refine (H5.out _).mono ?_
  rintro e w5 ⟨rfl, hb⟩
  replace HS := Lib.hid (HS.out.call hb)
  clear hb
  go_wp2_with (refine loadC rfl _ rfl w1.heap.size C rfl HS.out.2.1 ?_)
  refine (H6.out _).mono ?_
  rintro e w6 ⟨rfl, hb⟩
  replace HS := Lib.hid (HS.out.call hb)
  clear hb
  go_wp2_with (refine loadC rfl _ rfl w1.heap.size C rfl HS.out.2.1 ?_)
  refine (H7.out _).mono ?_
  rintro e w7 ⟨rfl, hb⟩
  replace HS := Lib.hid (HS.out.call hb)
  clear hb
  go_wp2_with (refine loadC rfl _ rfl w1.heap.size C rfl HS.out.2.1 ?_)
  refine (H8.out _).mono ?_
  rintro e w8 ⟨rfl, hb⟩
  replace HS := Lib.hid (HS.out.call hb)
  clear hb
  go_wp2_with (refine loadC rfl _ rfl w1.heap.size C rfl HS.out.2.1 ?_)
  refine (H9.out _).mono ?_
  rintro e w9 ⟨rfl, hb⟩
  replace HS := Lib.hid (HS.out.call hb)
  clear hb
  go_wp2_with (refine loadC rfl _ rfl w1.heap.size C rfl HS.out.2.1 ?_)
  refine (H10.out _).mono ?_
  rintro e w10 ⟨rfl, hb⟩
  replace HS := Lib.hid (HS.out.call hb)
  clear hb
  go_wp2_with (refine loadCg (by rfl) _ rfl w1.heap.size C rfl HS.out.2.1 ?_)
  refine (H11.out _ HS.out.2.2).mono ?_
  rintro e w11 ⟨rfl, hb⟩
  replace HS := Lib.hid (HS.out.call hb)
  clear hb
  go_wp2_with (refine loadCg (by rfl) _ rfl w1.heap.size C rfl HS.out.2.1 ?_)
  refine (H12.out _ HS.out.2.2).mono ?_
  rintro e w12 ⟨rfl, hb⟩
  replace HS := Lib.hid (HS.out.call hb)
  clear hb
  go_wp2_with (refine loadCg (by rfl) _ rfl w1.heap.size C rfl HS.out.2.1 ?_)
  refine (H13.out _ HS.out.2.2).mono ?_
  rintro e w13 ⟨rfl, hb⟩
  replace HS := Lib.hid (HS.out.call hb)
  clear hb
  go_wp2_with fail
  go_ret
  exact ⟨rfl, HS.out.1⟩
end Go.Proofs.YtnapbmdbeihngaaDoor
