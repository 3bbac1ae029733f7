import Derived.Test.YteiboobdhjdjkaaGreatDoorNaiKonM
import Derived.Test.YteiboobdhjdjkaaGreatDoorMz
import Derived.Test.YteiboobdhjdjkaaGreatDoorNaiMathM
namespace Go.Proofs.YteiboobdhjdjkaaGreatDoor.Nai
open Go.RowKit
open Ast (Nd At12 NodesAt kidsZ)
open Cap (Cp withZ cpC BoxV)
set_option maxRecDepth 100000 in
set_option maxHeartbeats 400000 in
theorem turns_any {R : Rd} {g : Nat} {rv : Value} {J : List Sp → Bool → (Nat → Prop) → World → Prop} (hJ : Told J) {x : Nd} {ra : Re} {k : Kon} (hB : BehOk R g rv J x ra k) (X : Nat → Prop) (w : World) (S : List Tas) (pre : List Sp) (y : Sp) (q b o : Nat) (f : FuncId) (cs : Array Value) (hb : b < w.heap.size) (hX : ¬ X b) (hn : At12 w b o x) (hc : BoxI X w 44 q (cpC y.2)) (hrep : RepA R x ra 0 y.1) (hv : KAt R g rv X w k (fnV f cs)) (hr : Run R g rv J X w S pre true)
  (hbig : S.length + (evB (turnE R.s.size (outsE R.s ra) x.mn x.mx (lzB x) 0 y) (kE R.s k)).length ≤ Big) :
  Calls Tryz.prog 140 #[ptr g, .pointer (some ⟨b, o, none⟩), spV y q, fnV f cs] w (Does R g rv J X w S pre (evB (turnE R.s.size (outsE R.s ra) x.mn x.mx (lzB x) 0 y) (kE R.s k))) := by
 have HT2 := Lib.hid (TBx.new (tv := fnV f cs) hr hJ hb hX hn hc)
 clear hn
 have hBw : Below w.heap.size w ((((w.alloc (.cells #[ptr g] 169)).alloc (.cells #[.pointer (some ⟨b, o, none⟩)] 129)).alloc (.cells #[.int .i64 (y.1 : Int), ptr q] 93)).alloc (.cells #[fnV f cs] 174)) := by go_grown
 obtain ⟨W1, hW1⟩ : ∃ W1, ((((w.alloc (.cells #[ptr g] 169)).alloc (.cells #[.pointer (some ⟨b, o, none⟩)] 129)).alloc (.cells #[.int .i64 (y.1 : Int), ptr q] 93)).alloc (.cells #[fnV f cs] 174)) = W1 := ⟨_, rfl⟩
 have hs1 : W1.heap.size = w.heap.size + 1 + 1 + 1 + 1 := by rw [← hW1]; simp
 rw [hW1] at hBw HT2
 have hz := BoxV.new (T := 238) W1 #[.nilFunc]
 have hz1 := hz.get 0 rfl
 have hz2 := hz.free 0
 have Hs := Lib.hid hs1
 have hB5 : Below W1.heap.size W1 (W1.alloc (.cells #[fnV 172 #[ptr w.heap.size, ptr (w.heap.size + 1), ptr W1.heap.size, ptr (w.heap.size + 1 + 1 + 1)]] 238)) := (Below.refl _ W1).alloc (Nat.le_refl _) _
 have HZ5 := Lib.hid (BoxV.new (T := 238) W1 #[fnV 172 #[ptr w.heap.size, ptr (w.heap.size + 1), ptr W1.heap.size, ptr (w.heap.size + 1 + 1 + 1)]])
 have hxv := HT2.out.xb.box.below hB5 HT2.out.xb.box.lt
 have hx0 := hxv.get 0 rfl
 have hx1 := hxv.get 1 rfl
 have HB5 := Lib.hid hB5
 clear hz hs1 hxv hB5
 go_enter Tryz.func140, Tryz.ntmps140
 go_wp2_with fail
 have HT := HT2.out
 have HZ := HZ5.out
 have hB5 := HB5.out
 clear hz1 hz2 hx0 hx1 HZ5 HB5 HT2 hW1
 revert HZ hB5
 generalize W1.alloc _ = W5
 intro HZ hB5
 have hE1 := Ext.call (X := X) hBw
 have hE5 := Ext.call (X := X) hB5
 have hR5 := (hr.call hJ hBw).call hJ hB5
 have HT5 := HT.ext hE5 hR5.cell0
 have hXn : ¬ X W1.heap.size := fun e => by have := (hr.call hJ hBw).xlt _ e; omega
 have HC := hB X W5 S pre y q 0 w.heap.size (w.heap.size + 1) W1.heap.size (w.heap.size + 1 + 1 + 1) (fnV f cs) HT5.cb hrep HT5.sb HT5.nbox HT5.tb ((hv.ext hE1).ext hE5) ⟨HZ, hXn⟩ hR5 hbig
 rw [show ((0 : Nat) : Int) = 0 from rfl] at HC
 with_reducible refine HC.mono ?_
 rintro e w' ⟨X', T, o2, m, ⟨z, rfl⟩, hE', hR', h4, h5⟩
 clear hB HC
 go_wp2_with fail
 go_end0
 exact ⟨X', T, o2, m, ⟨_, rfl⟩, (hE1.trans hE5).trans hE', hR', h4, h5⟩
structure ZBx (kb bn b o yb zb q0 q : Nat) (x : Nd) (j : Nat) (y z : Sp) (u : World) : Prop where
 kb : u.cell? ⟨kb, 0, none⟩ = some (.int .i64 (j : Int))
 nb : u.cell? ⟨bn, 0, none⟩ = some (.pointer (some ⟨b, o, none⟩))
 nd : At12 u b o x
 yb : BoxV 93 u yb #[.int .i64 (y.1 : Int), ptr q0]
 zb : BoxV 93 u zb #[.int .i64 (z.1 : Int), ptr q]
set_option maxRecDepth 100000 in
set_option maxHeartbeats 400000 in
theorem kon_turn {R : Rd} {g : Nat} {rv : Value} {J : List Sp → Bool → (Nat → Prop) → World → Prop} (hJ : Told J) (hs1 : R.s.size ≤ 100000000) {x : Nd} {ra : Re} {j p : Nat} {k : Kon} (hB : BehOk R g rv J x ra k) : KonOk R g rv J (.turn x ra j p k) := by
 intro X w S pre z q f cs hc hz hv hr hbig
 obtain ⟨kb, n, yb, bb, y, tv, h1, hkb, hn, hyb, rfl, hbb, hrep, hq, hk⟩ := hv
 cases h1
 obtain ⟨p, hnb, b, o, rfl, hbl, hbX, hbn⟩ := id hn
 obtain ⟨q0, hy1, hy2⟩ := id hyb
 obtain ⟨s2, n2, t2, hbb1, hbb2, hbb3, hbb4⟩ := id hbb
 obtain ⟨hk10, hmd, hkid, hok, hlite, hnum, hjm, hj, hys⟩ := id hrep
 obtain ⟨W1, hW1⟩ : ∃ W1, w.alloc (.cells #[.int .i64 (z.1 : Int), ptr q] 93) = W1 := ⟨_, rfl⟩
 have hB1 : Below w.heap.size w W1 := by rw [← hW1]; exact (Below.refl _ _).alloc (Nat.le_refl _) _
 have hE1 := Ext.call (X := X) hB1
 have hR1 := hr.call hJ hB1
 have hzb : BoxI X W1 93 w.heap.size #[.int .i64 (z.1 : Int), ptr q] := by rw [← hW1]; exact BoxI.new hr.xlt _ _
 have hS0 : ZBx kb n b o yb w.heap.size q0 q x j y z W1 := ⟨(hkb.ext hE1).box.get 0 rfl, (hnb.ext hE1).box.get 0 rfl, hbn.keep fun j => cell_ext hE1 hbl hbX j, (hy1.ext hE1).box, hzb.box⟩
 have hKE : kE R.s (.turn x ra j y.1 k) z = evB (onE R.s.size (outsE R.s ra) x.mn x.mx (lzB x) j y.1 z) (kE R.s k) := rfl
 rw [hKE] at hbig ⊢
 unfold onE at hbig ⊢
 by_cases h1 : (j : Int) < x.mn
 ·have hd : decide ((j : Int) < x.mn) = true := decide_eq_true h1
  rw [if_pos (.inl h1)] at hbig ⊢
  go_enter Tryz.func174, Tryz.ntmps174
  go_wp2_with fail
  try rw [hW1]
  refine wp_region_held (S := ZBx kb n b o yb w.heap.size q0 q x j y z) (by kernel_rfl) ?_
  change wpAnyH _ _ _ _ _ _ _ _ W1.drew
  have hS : ZBx kb n b o yb w.heap.size q0 q x j y z W1.drew := ⟨hS0.kb, hS0.nb, hS0.nd, hS0.yb, hS0.zb⟩
  refine takeAt 0 6 (.int .i64 (j : Int)) rfl rfl (by kernel_rfl) (by kernel_rfl) (by kernel_rfl) (fun _ _ _ h => h) (ldI_y kb 0 _ (fun _ h => ZBx.kb h) rfl rfl (by rfl)) hS ?_
  simp only [Act.put, sA, s0, sS]
  refine takeAt 1 7 (.pointer (some ⟨b, o, none⟩)) rfl rfl (by kernel_rfl) (by kernel_rfl) (by kernel_rfl) (fun _ _ _ h => h) (ldPN_y n 0 _ (fun _ h => ZBx.nb h) rfl rfl (by rfl)) hS ?_
  simp only [Act.put, sA, s0, sS]
  refine takeAt 2 8 (.pointer (some ⟨b, o, none⟩)) rfl rfl (by kernel_rfl) (by kernel_rfl) (by kernel_rfl) (fun _ _ _ h => h) (yields (by rfl) (fun w => by kernel_rfl)) hS ?_
  simp only [Act.put, sA, s0, sS]
  refine takeAt 3 9 (.pointer (some ⟨b, o + 7, none⟩)) rfl rfl (by kernel_rfl) (by kernel_rfl) (by kernel_rfl) (fun _ _ _ h => h) (yields (by rfl) (fun w => by kernel_rfl)) hS ?_
  simp only [Act.put, sA, s0, sS]
  refine takeAt 4 10 (.int .i64 x.mn) rfl rfl (by kernel_rfl) (by kernel_rfl) (by kernel_rfl) (fun _ _ _ h => h) (ldI_y b (o + 7) _ (fun _ h => h.nd.2.2.2.2.2.2.2.1) rfl rfl (by rfl)) hS ?_
  simp only [Act.put, sA, s0, sS]
  refine takeAt 5 11 (.bool true) rfl rfl (by kernel_rfl) (by kernel_rfl) (by kernel_rfl) (fun _ _ _ h => h) (lt_y _ _ true hd rfl rfl rfl (by rfl)) hS ?_
  simp only [Act.put, sA, s0, sS]
  refine takeAt 6 12 (.bool true) rfl rfl (by kernel_rfl) (by kernel_rfl) (by kernel_rfl) (fun _ _ _ h => h) (yields (by rfl) (fun w => by kernel_rfl)) hS ?_
  simp only [Act.put, sA, s0, sS]
  refine takeAt 7 13 (undef) rfl rfl (by kernel_rfl) (by kernel_rfl) (by kernel_rfl) (fun _ _ _ h => h) (skipped (by rfl)) hS ?_
  simp only [Act.put, sA, s0, sS]
  refine takeAt 8 14 (undef) rfl rfl (by kernel_rfl) (by kernel_rfl) (by kernel_rfl) (fun _ _ _ h => h) (skipped (by rfl)) hS ?_
  simp only [Act.put, sA, s0, sS]
  refine takeAt 9 15 (undef) rfl rfl (by kernel_rfl) (by kernel_rfl) (by kernel_rfl) (fun _ _ _ h => h) (skipped (by rfl)) hS ?_
  simp only [Act.put, sA, s0, sS]
  refine takeAt 10 16 (undef) rfl rfl (by kernel_rfl) (by kernel_rfl) (by kernel_rfl) (fun _ _ _ h => h) (skipped (by rfl)) hS ?_
  simp only [Act.put, sA, s0, sS]
  refine takeAt 11 17 (undef) rfl rfl (by kernel_rfl) (by kernel_rfl) (by kernel_rfl) (fun _ _ _ h => h) (skipped (by rfl)) hS ?_
  simp only [Act.put, sA, s0, sS]
  refine takeAt 12 18 (.bool true) rfl rfl (by kernel_rfl) (by kernel_rfl) (by kernel_rfl) (fun _ _ _ h => h) (yields (by rfl) (fun w => by kernel_rfl)) hS ?_
  simp only [Act.put, sA, s0, sS]
  refine wpAnyH_done (by kernel_rfl) ?_ _
  have hBd : Below W1.heap.size W1 W1.drew := below_drewN (Below.refl _ _) 1
  have hEd := Ext.call (X := X) hBd
  have hRd := hR1.call hJ hBd
  have hb0 : W1.drew.cell? ⟨bb, 0, none⟩ = some (fnV 172 #[ptr s2, ptr n2, ptr bb, ptr t2]) := (hbb1.ext hE1).box.get 0 rfl
  have hk0 : W1.drew.cell? ⟨kb, 0, none⟩ = some (.int .i64 (j : Int)) := hS0.kb
  have hz0 : W1.drew.cell? ⟨w.heap.size, 0, none⟩ = some (.int .i64 (z.1 : Int)) := hzb.box.get 0 rfl
  have hz1 : W1.drew.cell? ⟨w.heap.size, 1, none⟩ = some (ptr q) := hzb.box.get 1 rfl
  have hj9 : (j : Int) < 1000000000 := by have := hnum.2.2.1; omega
  clear hS hS0
  go_wp2_with fail
  have HC := hB X W1.drew S pre z q (j + 1) s2 n2 bb t2 tv ((hc.ext hE1).ext hEd) ⟨hk10, hmd, hkid, hok, hlite, hnum, fun h => by have := hq h; omega, by omega, hz⟩ ((hbb2.ext hE1).ext hEd) ((hbb3.ext hE1).ext hEd) ((hbb4.ext hE1).ext hEd) ((hk.ext hE1).ext hEd) ((hbb1.ext hE1).ext hEd) hRd hbig
  rw [show ((j + 1 : Nat) : Int) = (j : Int) + 1 from rfl] at HC
  with_reducible refine HC.mono ?_
  rintro e w' ⟨X', T, o2, m, ⟨z9, rfl⟩, hE', hR', h4, h5⟩
  clear hB HC
  go_wp2_with fail
  go_end0
  exact ⟨X', T, o2, m, ⟨_, rfl⟩, (hE1.trans hEd).trans hE', hR', h4, h5⟩
 ·have hd : decide ((j : Int) < x.mn) = false := decide_eq_false h1
  by_cases h2 : y.1 < z.1
  ·have hg : decide ((y.1 : Int) < (z.1 : Int)) = true := decide_eq_true (by omega)
   rw [if_pos (.inr h2)] at hbig ⊢
   go_enter Tryz.func174, Tryz.ntmps174
   go_wp2_with fail
   try rw [hW1]
   refine wp_region_held (S := ZBx kb n b o yb w.heap.size q0 q x j y z) (by kernel_rfl) ?_
   change wpAnyH _ _ _ _ _ _ _ _ W1.drew
   have hS : ZBx kb n b o yb w.heap.size q0 q x j y z W1.drew := ⟨hS0.kb, hS0.nb, hS0.nd, hS0.yb, hS0.zb⟩
   refine takeAt 0 6 (.int .i64 (j : Int)) rfl rfl (by kernel_rfl) (by kernel_rfl) (by kernel_rfl) (fun _ _ _ h => h) (ldI_y kb 0 _ (fun _ h => ZBx.kb h) rfl rfl (by rfl)) hS ?_
   simp only [Act.put, sA, s0, sS]
   refine takeAt 1 7 (.pointer (some ⟨b, o, none⟩)) rfl rfl (by kernel_rfl) (by kernel_rfl) (by kernel_rfl) (fun _ _ _ h => h) (ldPN_y n 0 _ (fun _ h => ZBx.nb h) rfl rfl (by rfl)) hS ?_
   simp only [Act.put, sA, s0, sS]
   refine takeAt 2 8 (.pointer (some ⟨b, o, none⟩)) rfl rfl (by kernel_rfl) (by kernel_rfl) (by kernel_rfl) (fun _ _ _ h => h) (yields (by rfl) (fun w => by kernel_rfl)) hS ?_
   simp only [Act.put, sA, s0, sS]
   refine takeAt 3 9 (.pointer (some ⟨b, o + 7, none⟩)) rfl rfl (by kernel_rfl) (by kernel_rfl) (by kernel_rfl) (fun _ _ _ h => h) (yields (by rfl) (fun w => by kernel_rfl)) hS ?_
   simp only [Act.put, sA, s0, sS]
   refine takeAt 4 10 (.int .i64 x.mn) rfl rfl (by kernel_rfl) (by kernel_rfl) (by kernel_rfl) (fun _ _ _ h => h) (ldI_y b (o + 7) _ (fun _ h => h.nd.2.2.2.2.2.2.2.1) rfl rfl (by rfl)) hS ?_
   simp only [Act.put, sA, s0, sS]
   refine takeAt 5 11 (.bool false) rfl rfl (by kernel_rfl) (by kernel_rfl) (by kernel_rfl) (fun _ _ _ h => h) (lt_y _ _ false hd rfl rfl rfl (by rfl)) hS ?_
   simp only [Act.put, sA, s0, sS]
   refine takeAt 6 12 (.bool false) rfl rfl (by kernel_rfl) (by kernel_rfl) (by kernel_rfl) (fun _ _ _ h => h) (yields (by rfl) (fun w => by kernel_rfl)) hS ?_
   simp only [Act.put, sA, s0, sS]
   refine takeAt 7 13 (.pointer (some ⟨w.heap.size, 0, none⟩)) rfl rfl (by kernel_rfl) (by kernel_rfl) (by kernel_rfl) (fun _ _ _ h => h) (yields (by rfl) (fun w => by kernel_rfl)) hS ?_
   simp only [Act.put, sA, s0, sS]
   refine takeAt 8 14 (.int .i64 (z.1 : Int)) rfl rfl (by kernel_rfl) (by kernel_rfl) (by kernel_rfl) (fun _ _ _ h => h) (ldI_y w.heap.size 0 _ (fun _ h => h.zb.get 0 rfl) rfl rfl (by rfl)) hS ?_
   simp only [Act.put, sA, s0, sS]
   refine takeAt 9 15 (.pointer (some ⟨yb, 0, none⟩)) rfl rfl (by kernel_rfl) (by kernel_rfl) (by kernel_rfl) (fun _ _ _ h => h) (yields (by rfl) (fun w => by kernel_rfl)) hS ?_
   simp only [Act.put, sA, s0, sS]
   refine takeAt 10 16 (.int .i64 (y.1 : Int)) rfl rfl (by kernel_rfl) (by kernel_rfl) (by kernel_rfl) (fun _ _ _ h => h) (ldI_y yb 0 _ (fun _ h => h.yb.get 0 rfl) rfl rfl (by rfl)) hS ?_
   simp only [Act.put, sA, s0, sS]
   refine takeAt 11 17 (.bool true) rfl rfl (by kernel_rfl) (by kernel_rfl) (by kernel_rfl) (fun _ _ _ h => h) (gt_y _ _ true hg rfl rfl rfl (by rfl)) hS ?_
   simp only [Act.put, sA, s0, sS]
   refine takeAt 12 18 (.bool true) rfl rfl (by kernel_rfl) (by kernel_rfl) (by kernel_rfl) (fun _ _ _ h => h) (yields (by rfl) (fun w => by kernel_rfl)) hS ?_
   simp only [Act.put, sA, s0, sS]
   refine wpAnyH_done (by kernel_rfl) ?_ _
   have hBd : Below W1.heap.size W1 W1.drew := below_drewN (Below.refl _ _) 1
   have hEd := Ext.call (X := X) hBd
   have hRd := hR1.call hJ hBd
   have hb0 : W1.drew.cell? ⟨bb, 0, none⟩ = some (fnV 172 #[ptr s2, ptr n2, ptr bb, ptr t2]) := (hbb1.ext hE1).box.get 0 rfl
   have hk0 : W1.drew.cell? ⟨kb, 0, none⟩ = some (.int .i64 (j : Int)) := hS0.kb
   have hz0 : W1.drew.cell? ⟨w.heap.size, 0, none⟩ = some (.int .i64 (z.1 : Int)) := hzb.box.get 0 rfl
   have hz1 : W1.drew.cell? ⟨w.heap.size, 1, none⟩ = some (ptr q) := hzb.box.get 1 rfl
   have hj9 : (j : Int) < 1000000000 := by have := hnum.2.2.1; omega
   clear hS hS0
   go_wp2_with fail
   have HC := hB X W1.drew S pre z q (j + 1) s2 n2 bb t2 tv ((hc.ext hE1).ext hEd) ⟨hk10, hmd, hkid, hok, hlite, hnum, fun h => by have := hq h; omega, by omega, hz⟩ ((hbb2.ext hE1).ext hEd) ((hbb3.ext hE1).ext hEd) ((hbb4.ext hE1).ext hEd) ((hk.ext hE1).ext hEd) ((hbb1.ext hE1).ext hEd) hRd hbig
   rw [show ((j + 1 : Nat) : Int) = (j : Int) + 1 from rfl] at HC
   with_reducible refine HC.mono ?_
   rintro e w' ⟨X', T, o2, m, ⟨z9, rfl⟩, hE', hR', h4, h5⟩
   clear hB HC
   go_wp2_with fail
   go_end0
   exact ⟨X', T, o2, m, ⟨_, rfl⟩, (hE1.trans hEd).trans hE', hR', h4, h5⟩
  ·have hg : decide ((y.1 : Int) < (z.1 : Int)) = false := decide_eq_false (by omega)
   rw [if_neg (by omega)]
   go_enter Tryz.func174, Tryz.ntmps174
   go_wp2_with fail
   try rw [hW1]
   refine wp_region_held (S := ZBx kb n b o yb w.heap.size q0 q x j y z) (by kernel_rfl) ?_
   change wpAnyH _ _ _ _ _ _ _ _ W1.drew
   have hS : ZBx kb n b o yb w.heap.size q0 q x j y z W1.drew := ⟨hS0.kb, hS0.nb, hS0.nd, hS0.yb, hS0.zb⟩
   refine takeAt 0 6 (.int .i64 (j : Int)) rfl rfl (by kernel_rfl) (by kernel_rfl) (by kernel_rfl) (fun _ _ _ h => h) (ldI_y kb 0 _ (fun _ h => ZBx.kb h) rfl rfl (by rfl)) hS ?_
   simp only [Act.put, sA, s0, sS]
   refine takeAt 1 7 (.pointer (some ⟨b, o, none⟩)) rfl rfl (by kernel_rfl) (by kernel_rfl) (by kernel_rfl) (fun _ _ _ h => h) (ldPN_y n 0 _ (fun _ h => ZBx.nb h) rfl rfl (by rfl)) hS ?_
   simp only [Act.put, sA, s0, sS]
   refine takeAt 2 8 (.pointer (some ⟨b, o, none⟩)) rfl rfl (by kernel_rfl) (by kernel_rfl) (by kernel_rfl) (fun _ _ _ h => h) (yields (by rfl) (fun w => by kernel_rfl)) hS ?_
   simp only [Act.put, sA, s0, sS]
   refine takeAt 3 9 (.pointer (some ⟨b, o + 7, none⟩)) rfl rfl (by kernel_rfl) (by kernel_rfl) (by kernel_rfl) (fun _ _ _ h => h) (yields (by rfl) (fun w => by kernel_rfl)) hS ?_
   simp only [Act.put, sA, s0, sS]
   refine takeAt 4 10 (.int .i64 x.mn) rfl rfl (by kernel_rfl) (by kernel_rfl) (by kernel_rfl) (fun _ _ _ h => h) (ldI_y b (o + 7) _ (fun _ h => h.nd.2.2.2.2.2.2.2.1) rfl rfl (by rfl)) hS ?_
   simp only [Act.put, sA, s0, sS]
   refine takeAt 5 11 (.bool false) rfl rfl (by kernel_rfl) (by kernel_rfl) (by kernel_rfl) (fun _ _ _ h => h) (lt_y _ _ false hd rfl rfl rfl (by rfl)) hS ?_
   simp only [Act.put, sA, s0, sS]
   refine takeAt 6 12 (.bool false) rfl rfl (by kernel_rfl) (by kernel_rfl) (by kernel_rfl) (fun _ _ _ h => h) (yields (by rfl) (fun w => by kernel_rfl)) hS ?_
   simp only [Act.put, sA, s0, sS]
   refine takeAt 7 13 (.pointer (some ⟨w.heap.size, 0, none⟩)) rfl rfl (by kernel_rfl) (by kernel_rfl) (by kernel_rfl) (fun _ _ _ h => h) (yields (by rfl) (fun w => by kernel_rfl)) hS ?_
   simp only [Act.put, sA, s0, sS]
   refine takeAt 8 14 (.int .i64 (z.1 : Int)) rfl rfl (by kernel_rfl) (by kernel_rfl) (by kernel_rfl) (fun _ _ _ h => h) (ldI_y w.heap.size 0 _ (fun _ h => h.zb.get 0 rfl) rfl rfl (by rfl)) hS ?_
   simp only [Act.put, sA, s0, sS]
   refine takeAt 9 15 (.pointer (some ⟨yb, 0, none⟩)) rfl rfl (by kernel_rfl) (by kernel_rfl) (by kernel_rfl) (fun _ _ _ h => h) (yields (by rfl) (fun w => by kernel_rfl)) hS ?_
   simp only [Act.put, sA, s0, sS]
   refine takeAt 10 16 (.int .i64 (y.1 : Int)) rfl rfl (by kernel_rfl) (by kernel_rfl) (by kernel_rfl) (fun _ _ _ h => h) (ldI_y yb 0 _ (fun _ h => h.yb.get 0 rfl) rfl rfl (by rfl)) hS ?_
   simp only [Act.put, sA, s0, sS]
   refine takeAt 11 17 (.bool false) rfl rfl (by kernel_rfl) (by kernel_rfl) (by kernel_rfl) (fun _ _ _ h => h) (gt_y _ _ false hg rfl rfl rfl (by rfl)) hS ?_
   simp only [Act.put, sA, s0, sS]
   refine takeAt 12 18 (.bool false) rfl rfl (by kernel_rfl) (by kernel_rfl) (by kernel_rfl) (fun _ _ _ h => h) (yields (by rfl) (fun w => by kernel_rfl)) hS ?_
   simp only [Act.put, sA, s0, sS]
   refine wpAnyH_done (by kernel_rfl) ?_ _
   have hBd : Below W1.heap.size W1 W1.drew := below_drewN (Below.refl _ _) 1
   clear hS hS0 hB
   go_wp2_with fail
   go_end0
   refine ⟨X, [], none, true, ⟨_, rfl⟩, hE1.trans (Ext.call hBd), ?_, fun _ => rfl, rfl⟩
   simpa using hR1.call hJ hBd
end Go.Proofs.YteiboobdhjdjkaaGreatDoor.Nai
namespace Go.Proofs.YteiboobdhjdjkaaGreatDoor.Nai
open Go.RowKit
open Ast (Nd At12 NodesAt kidsZ)
open Cap (Cp withZ cpC BoxV zrC capE sizeCaps)
section
variable {ops : Array Oper} {R : World → Prop} {a : Act} {o : Oper} {x y : Operand}
theorem ldC_y (b : Nat) (c : Cp) (hR : ∀ u, R u → BoxV 44 u b (cpC c)) (ho : o.op = .load 44 x) (hx : a.eval x = .pointer (some ⟨b, 0, none⟩)) (hw : Region.wanted o (yielded ops a.tmps) = true) : YieldsIf Tryz.prog ops R o (.agg (cpC c)) a := by
 refine Or.inl ⟨hw, fun u h => ?_⟩
 unfold execOp
 simp only [ho, hx, Instr.loadAt, Instr.sureAddr, Sem.run_bind, Sem.run_pure, Result.andThen_ok, run_loadVar_row u b _ _ _ _ _ (hR u h) Tryz.underlying44 rfl sizeCaps]
end
structure GBx (bn b o xb q0 p yb q : Nat) (x : Nd) (y : Sp) (u : World) : Prop where
 nb : u.cell? ⟨bn, 0, none⟩ = some (.pointer (some ⟨b, o, none⟩))
 nd : At12 u b o x
 xb : BoxV 93 u xb #[.int .i64 (p : Int), ptr q0]
 yb : BoxV 93 u yb #[.int .i64 (y.1 : Int), ptr q]
 cb : BoxV 44 u q (cpC y.2)
 nl : b < u.heap.size
 bl : bn < u.heap.size
theorem GBx.call {bn b o xb q0 p yb q : Nat} {x : Nd} {y : Sp} {u u' : World} (h : GBx bn b o xb q0 p yb q x y u) (k : Below u.heap.size u u') : GBx bn b o xb q0 p yb q x y u' where
 nb := (k.cell (p := ⟨bn, 0, none⟩) h.bl).trans h.nb
 nd := h.nd.keep fun j => k.cell (p := ⟨b, j, none⟩) h.nl
 xb := h.xb.below k h.xb.lt
 yb := h.yb.below k h.yb.lt
 cb := h.cb.below k h.cb.lt
 nl := Nat.lt_of_lt_of_le h.nl k.size
 bl := Nat.lt_of_lt_of_le h.bl k.size
set_option maxRecDepth 100000 in
set_option maxHeartbeats 400000 in
theorem kon_grp {R : Rd} {g : Nat} {rv : Value} {J : List Sp → Bool → (Nat → Prop) → World → Prop} (hJ : Told J) (hrv : ∃ f cs, rv = fnV f cs ∧ Ent f) {gn : Int} {p : Nat} {k : Kon} (hK : KonOk R g rv J k) : KonOk R g rv J (.grp gn p k) := by
 intro X w S pre y q f cs hc hy hv hr hbig
 obtain ⟨n, yb, t, x, y0, tv, h1, hn, rfl, hyb, rfl, hp, ht, hk⟩ := hv
 cases h1
 obtain ⟨p0, hnb, b, o, rfl, hbl, hbX, hbn⟩ := id hn
 obtain ⟨q0, hy1, hy2⟩ := id hyb
 obtain ⟨f2, cs2, rfl, hent⟩ := hk.form hrv
 obtain ⟨W1, hW1⟩ : ∃ W1, w.alloc (.cells #[.int .i64 (y.1 : Int), ptr q] 93) = W1 := ⟨_, rfl⟩
 have hB1 : Below w.heap.size w W1 := by rw [← hW1]; exact (Below.refl _ _).alloc (Nat.le_refl _) _
 have hE1 := Ext.call (X := X) hB1
 have hR1 := hr.call hJ hB1
 have hzb : BoxI X W1 93 w.heap.size #[.int .i64 (y.1 : Int), ptr q] := by rw [← hW1]; exact BoxI.new hr.xlt _ _
 have hS0 : GBx n b o yb q0 y0.1 w.heap.size q x y W1 := ⟨(hnb.ext hE1).box.get 0 rfl, hbn.keep fun j => cell_ext hE1 hbl hbX j, (hy1.ext hE1).box, hzb.box, (hc.ext hE1).box, Nat.lt_of_lt_of_le hbl hB1.size, (hnb.ext hE1).box.lt⟩
 have HW := Lib.hid (fun u => Cap.with_any y.2 x.n (y0.1 : Int) (y.1 : Int) u)
 have hKE : kE R.s (.grp x.n y0.1 k) y = kE R.s k (y.1, (withZ y.2 x.n y0.1 y.1).1) := rfl
 rw [hKE] at hbig ⊢
 generalize withZ y.2 x.n (y0.1 : Int) (y.1 : Int) = Z at HW hbig ⊢
 obtain ⟨c1, e1⟩ := Z
 simp only at HW hbig ⊢
 go_enter Tryz.func139, Tryz.ntmps139
 go_wp2_with fail
 try rw [hW1]
 refine wp_region_held (S := GBx n b o yb q0 y0.1 w.heap.size q x y) (by kernel_rfl) ?_
 change wpAnyH _ _ _ _ _ _ _ _ W1.drew
 have hBd : Below W1.heap.size W1 W1.drew := below_drewN (Below.refl _ _) 1
 have hR2 := hR1.call hJ hBd
 have hE2 := hE1.trans (Ext.call (X := X) hBd)
 have hS := hS0.call hBd
 refine takeAt 0 8 (.pointer (some ⟨w.heap.size, 1, none⟩)) rfl rfl (by kernel_rfl) (by kernel_rfl) (by kernel_rfl) (fun _ _ _ h => h) (yields (by rfl) (fun w => by kernel_rfl)) hS ?_
 simp only [Act.put, sA, s0, sS]
 refine takeAt 1 9 (.pointer (some ⟨q, 0, none⟩)) rfl rfl (by kernel_rfl) (by kernel_rfl) (by kernel_rfl) (fun _ _ _ h => h) (ldPC_y w.heap.size 1 _ (fun _ h => h.yb.get 1 rfl) rfl rfl (by rfl)) hS ?_
 simp only [Act.put, sA, s0, sS]
 refine takeAt 2 10 (.pointer (some ⟨q, 0, none⟩)) rfl rfl (by kernel_rfl) (by kernel_rfl) (by kernel_rfl) (fun _ _ _ h => h) (yields (by rfl) (fun w => by kernel_rfl)) hS ?_
 simp only [Act.put, sA, s0, sS]
 refine takeAt 3 11 (.agg (cpC y.2)) rfl rfl (by kernel_rfl) (by kernel_rfl) (by kernel_rfl) (fun _ _ _ h => h) (ldC_y q y.2 (fun _ h => h.cb) rfl rfl (by rfl)) hS ?_
 simp only [Act.put, sA, s0, sS]
 refine takeAt 4 12 (.pointer (some ⟨b, o, none⟩)) rfl rfl (by kernel_rfl) (by kernel_rfl) (by kernel_rfl) (fun _ _ _ h => h) (ldPN_y n 0 _ (fun _ h => GBx.nb h) rfl rfl (by rfl)) hS ?_
 simp only [Act.put, sA, s0, sS]
 refine takeAt 5 13 (.pointer (some ⟨b, o, none⟩)) rfl rfl (by kernel_rfl) (by kernel_rfl) (by kernel_rfl) (fun _ _ _ h => h) (yields (by rfl) (fun w => by kernel_rfl)) hS ?_
 simp only [Act.put, sA, s0, sS]
 refine takeAt 6 14 (.pointer (some ⟨b, o + 10, none⟩)) rfl rfl (by kernel_rfl) (by kernel_rfl) (by kernel_rfl) (fun _ _ _ h => h) (yields (by rfl) (fun w => by kernel_rfl)) hS ?_
 simp only [Act.put, sA, s0, sS]
 refine takeAt 7 15 (.int .i64 x.n) rfl rfl (by kernel_rfl) (by kernel_rfl) (by kernel_rfl) (fun _ _ _ h => h) (ldI_y b (o + 10) _ (fun _ h => h.nd.2.2.2.2.2.2.2.2.2.2.1) rfl rfl (by rfl)) hS ?_
 simp only [Act.put, sA, s0, sS]
 refine takeAt 8 16 (.pointer (some ⟨yb, 0, none⟩)) rfl rfl (by kernel_rfl) (by kernel_rfl) (by kernel_rfl) (fun _ _ _ h => h) (yields (by rfl) (fun w => by kernel_rfl)) hS ?_
 simp only [Act.put, sA, s0, sS]
 refine takeAt 9 17 (.int .i64 (y0.1 : Int)) rfl rfl (by kernel_rfl) (by kernel_rfl) (by kernel_rfl) (fun _ _ _ h => h) (ldI_y yb 0 _ (fun _ h => h.xb.get 0 rfl) rfl rfl (by rfl)) hS ?_
 simp only [Act.put, sA, s0, sS]
 refine takeAt 10 18 (.pointer (some ⟨w.heap.size, 0, none⟩)) rfl rfl (by kernel_rfl) (by kernel_rfl) (by kernel_rfl) (fun _ _ _ h => h) (yields (by rfl) (fun w => by kernel_rfl)) hS ?_
 simp only [Act.put, sA, s0, sS]
 refine takeAt 11 19 (.int .i64 (y.1 : Int)) rfl rfl (by kernel_rfl) (by kernel_rfl) (by kernel_rfl) (fun _ _ _ h => h) (ldI_y w.heap.size 0 _ (fun _ h => h.yb.get 0 rfl) rfl rfl (by rfl)) hS ?_
 simp only [Act.put, sA, s0, sS]
 refine wpAnyH_ready (rs := [12, 16]) (by kernel_rfl) (by simp) (AllReadyH.cons rfl (callStep 12 20 rfl (by rfl) (by kernel_rfl) (HW.out _) ?_) (AllReadyH.cons rfl (valStep 16 5 (ptr W1.drew.heap.size) (W1.drew.alloc (.cells (cpC zrC) 44)) rfl (by rfl) (by kernel_rfl) (hS.call ((Below.refl _ _).alloc (Nat.le_refl _) _)) ?_) AllReadyH.nil))
 ·rintro e wb ⟨rfl, hbb⟩
  have hSb := hS.call hbb
  refine ⟨_, rfl, hSb, ?_⟩
  simp only [Act.put, sA, s0, sS]
  refine takeAt 13 7 (capE c1 e1) rfl rfl (by kernel_rfl) (by kernel_rfl) (by kernel_rfl) (fun _ _ _ h => h) (yields (by rfl) (fun w => by kernel_rfl)) hSb ?_
  simp only [Act.put, sA, s0, sS]
  refine takeAt 14 21 (.agg (cpC c1)) rfl rfl (by kernel_rfl) (by kernel_rfl) (by kernel_rfl) (fun _ _ _ h => h) (yields (by rfl) (fun w => by kernel_rfl)) hSb ?_
  simp only [Act.put, sA, s0, sS]
  refine takeAt 15 22 (.int .i64 e1) rfl rfl (by kernel_rfl) (by kernel_rfl) (by kernel_rfl) (fun _ _ _ h => h) (yields (by rfl) (fun w => by kernel_rfl)) hSb ?_
  simp only [Act.put, sA, s0, sS]
  have hBb : Below W1.drew.heap.size W1.drew (wb.alloc (.cells (cpC zrC) 44)) := hbb.alloc hbb.size _
  have hSc := hS.call hBb
  have hqb : BoxV 44 (wb.alloc (.cells (cpC zrC) 44)) wb.heap.size (cpC zrC) := BoxV.new _ _
  have hq1 : W1.drew.heap.size ≤ wb.heap.size := hbb.size
  refine valAt 16 5 (ptr wb.heap.size) (wb.alloc (.cells (cpC zrC) 44)) rfl rfl (by kernel_rfl) (by rfl) (by kernel_rfl) hSc ?_
  simp only [Act.put, sA, s0, sS]
  obtain ⟨w3, hw3⟩ : ∃ w3, (wb.alloc (.cells (cpC zrC) 44)).setRow wb.heap.size (cpC c1) = w3 := ⟨_, rfl⟩
  have hq3 : BoxV 44 w3 wb.heap.size (cpC c1) := by rw [← hw3]; exact setRow_heap _ _ _ _ _ _ hqb
  have hB3 : Below W1.drew.heap.size W1.drew w3 := by rw [← hw3]; exact hBb.trans ⟨rfl, rfl, rfl, by simp, fun k hk => setRow_other _ _ _ _ (by have := hBb.size; have := hq1; omega)⟩
  have hS3 := hS.call hB3
  refine rowAt 17 44 wb.heap.size (cpC zrC) (cpC c1) rfl rfl rfl (by kernel_rfl) (by rfl) rfl rfl hqb sizeCaps rfl (by simp [Value.oneCell']) (by rw [hw3]; exact hS3) ?_
  rw [hw3]
  refine takeAt 18 6 (.int .i64 e1) rfl rfl (by kernel_rfl) (by kernel_rfl) (by kernel_rfl) (fun _ _ _ h => h) (yields (by rfl) (fun w => by kernel_rfl)) hS3 ?_
  simp only [Act.put, sA, s0, sS]
  refine wpAnyH_done (by kernel_rfl) ?_ _
  have hE3 := hE2.trans (Ext.call (X := X) hB3)
  have hR3 := hR2.call hJ hB3
  have ht3 := (ht.ext hE3).box.get 0 rfl
  have hz0 : w3.cell? ⟨w.heap.size, 0, none⟩ = some (.int .i64 (y.1 : Int)) := hS3.yb.get 0 rfl
  have HC := hK X w3 S pre (y.1, c1) (wb.heap.size) f2 cs2 ⟨hq3, fun e => by have := hR2.xlt _ e; have := hq1; omega⟩ hy (hk.ext hE3) hR3 hbig
  clear hS hS0 hS3 hq3 hw3
  go_wp2_with fail
  rw [hent, Oper.upon_enter]
  with_reducible refine HC.mono ?_
  rintro e w' ⟨X', T, o2, m, ⟨z9, rfl⟩, hE', hR', h4, h5⟩
  clear hK HC hent
  go_wp2_with fail
  go_end0
  exact ⟨X', T, o2, m, ⟨_, rfl⟩, hE3.trans hE', hR', h4, h5⟩
 ·simp only [Act.put, sA, s0, sS]
  have hBa : Below W1.drew.heap.size W1.drew (W1.drew.alloc (.cells (cpC zrC) 44)) := (Below.refl _ _).alloc (Nat.le_refl _) _
  have hSa := hS.call hBa
  have hqa : BoxV 44 (W1.drew.alloc (.cells (cpC zrC) 44)) W1.heap.size (cpC zrC) := BoxV.new W1.drew _
  refine callAt 12 20 rfl rfl (by kernel_rfl) (by rfl) (by kernel_rfl) (HW.out _) ?_
  rintro e wb ⟨rfl, hbb⟩
  have hSb := hSa.call hbb
  have hqb := hqa.below hbb hqa.lt
  have hq1 : W1.drew.heap.size ≤ W1.heap.size := Nat.le_refl _
  have hBb := thenB hBa hbb hBa.size
  refine ⟨_, rfl, hSb, ?_⟩
  simp only [Act.put, sA, s0, sS]
  refine takeAt 13 7 (capE c1 e1) rfl rfl (by kernel_rfl) (by kernel_rfl) (by kernel_rfl) (fun _ _ _ h => h) (yields (by rfl) (fun w => by kernel_rfl)) hSb ?_
  simp only [Act.put, sA, s0, sS]
  refine takeAt 14 21 (.agg (cpC c1)) rfl rfl (by kernel_rfl) (by kernel_rfl) (by kernel_rfl) (fun _ _ _ h => h) (yields (by rfl) (fun w => by kernel_rfl)) hSb ?_
  simp only [Act.put, sA, s0, sS]
  refine takeAt 15 22 (.int .i64 e1) rfl rfl (by kernel_rfl) (by kernel_rfl) (by kernel_rfl) (fun _ _ _ h => h) (yields (by rfl) (fun w => by kernel_rfl)) hSb ?_
  simp only [Act.put, sA, s0, sS]
  obtain ⟨w3, hw3⟩ : ∃ w3, wb.setRow W1.heap.size (cpC c1) = w3 := ⟨_, rfl⟩
  have hq3 : BoxV 44 w3 W1.heap.size (cpC c1) := by rw [← hw3]; exact setRow_heap _ _ _ _ _ _ hqb
  have hB3 : Below W1.drew.heap.size W1.drew w3 := by rw [← hw3]; exact hBb.trans ⟨rfl, rfl, rfl, by simp, fun k hk => setRow_other _ _ _ _ (by have := hBb.size; have := hq1; omega)⟩
  have hS3 := hS.call hB3
  refine rowAt 17 44 W1.heap.size (cpC zrC) (cpC c1) rfl rfl rfl (by kernel_rfl) (by rfl) rfl rfl hqb sizeCaps rfl (by simp [Value.oneCell']) (by rw [hw3]; exact hS3) ?_
  rw [hw3]
  refine takeAt 18 6 (.int .i64 e1) rfl rfl (by kernel_rfl) (by kernel_rfl) (by kernel_rfl) (fun _ _ _ h => h) (yields (by rfl) (fun w => by kernel_rfl)) hS3 ?_
  simp only [Act.put, sA, s0, sS]
  refine wpAnyH_done (by kernel_rfl) ?_ _
  have hE3 := hE2.trans (Ext.call (X := X) hB3)
  have hR3 := hR2.call hJ hB3
  have ht3 := (ht.ext hE3).box.get 0 rfl
  have hz0 : w3.cell? ⟨w.heap.size, 0, none⟩ = some (.int .i64 (y.1 : Int)) := hS3.yb.get 0 rfl
  have HC := hK X w3 S pre (y.1, c1) (W1.heap.size) f2 cs2 ⟨hq3, fun e => by have := hR2.xlt _ e; have := hq1; omega⟩ hy (hk.ext hE3) hR3 hbig
  clear hS hS0 hS3 hq3 hw3
  go_wp2_with fail
  rw [hent, Oper.upon_enter]
  with_reducible refine HC.mono ?_
  rintro e w' ⟨X', T, o2, m, ⟨z9, rfl⟩, hE', hR', h4, h5⟩
  clear hK HC hent
  go_wp2_with fail
  go_end0
  exact ⟨X', T, o2, m, ⟨_, rfl⟩, hE3.trans hE', hR', h4, h5⟩
end Go.Proofs.YteiboobdhjdjkaaGreatDoor.Nai
namespace Go.Proofs.YteiboobdhjdjkaaGreatDoor.Nai
open Go.RowKit
open Ast (Nd At12 NodesAt kidsZ)
open Cap (Cp withZ cpC BoxV zrC)
theorem sizeX : (Tryz.prog.info? 93).map (·.size) = some 2 := by kernel_rfl
abbrev spA (z : Int) (p : Option Addr) : Array Value := #[.int .i64 z, .pointer p]
section
variable {ops : Array Oper} {R : World → Prop} {a : Act} {o : Oper} {x y : Operand} {w : World} {rest : List Oper} {Q : Exit → Act → World → Prop}
theorem ixI_y (b n c : Nat) (i : Nat) (hi : i < n) (ho : o.op = .indexAddr 123 x y) (hx : a.eval x = .slice (some ⟨b, 0, none⟩) n c) (hy : a.eval y = .int .i64 (i : Int)) (hw : Region.wanted o (yielded ops a.tmps) = true) : YieldsIf Tryz.prog ops R o (.pointer (some ⟨b, i, none⟩)) a := by
 refine Or.inl ⟨hw, fun u _ => ?_⟩
 have i0 : (0 : Int) ≤ i := by omega
 have i1 : (i : Int) < n := by omega
 unfold execOp
 simp only [ho, hx, hy]
 go_simp
theorem sub_y (m n : Int) (h : -1000000000 ≤ m - n ∧ m - n ≤ 1000000000) (ho : o.op = .binOp .sub 3 x y 3) (hx : a.eval x = .int .i64 m) (hy : a.eval y = .int .i64 n) (hw : Region.wanted o (yielded ops a.tmps) = true) : YieldsIf Tryz.prog ops R o (.int .i64 (m - n)) a := by
 refine Or.inl ⟨hw, fun u _ => ?_⟩
 unfold execOp
 simp only [ho, hx, hy]
 go_simp
 rw [IntKind.wrap_i64] <;> omega
theorem storeX (hgd : o.guard = none) (x y : Operand) (ho : o.op = .store 93 x y) (g : Nat) (z : Int) (p : Option Addr) (cs : Array Value) (hx : a.eval x = .pointer (some ⟨g, 0, none⟩)) (hy : a.eval y = .agg (spA z p)) (hs : cs.size = 2) (hg : BoxV 93 w g cs)
  (h : wpList Tryz.prog ops Q rest (a.put o.dst undef) (w.setRow g (spA z p))) : wpList Tryz.prog ops Q (o :: rest) a w :=
 wpList_store_row hgd 93 x y ho g _ hx hy _ _ hg sizeX (by rw [hs]; rfl) (by simp [Value.oneCell']) h
theorem loadX (hgd : o.guard = none) (x : Operand) (ho : o.op = .load 93 x) (g : Nat) (z : Int) (p : Option Addr) (hx : a.eval x = .pointer (some ⟨g, 0, none⟩)) (hg : BoxV 93 w g (spA z p))
  (h : wpList Tryz.prog ops Q rest (a.put o.dst (.agg (spA z p))) w) : wpList Tryz.prog ops Q (o :: rest) a w :=
 wpList_load_row hgd 93 x ho g hx _ _ _ _ hg Tryz.underlying93 rfl sizeX h
theorem resXB {fn : Func} {p q : Tmp} {v : Value} {z : Int} {p2 : Option Addr} (h : fn.results = #[.cell p 93, .tmp q]) (tmps : Array Value) {g : Nat} (hp : tmps.getD p undef = .pointer (some ⟨g, 0, none⟩)) (hq : tmps.getD q undef = v) (hg : BoxV 93 w g (spA z p2)) :
  (results fn tmps).run Tryz.prog w = .ok (.tuple #[.agg (spA z p2), v]) w := by
 have hp' : tmps[p]?.getD undef = .pointer (some ⟨g, 0, none⟩) := by simpa using hp
 have hq' : tmps[q]?.getD undef = v := by simpa using hq
 have hl := run_loadVar_row w g _ 93 _ _ _ hg Tryz.underlying93 rfl sizeX
 simp [results, h, hp', hq', asAddr, hl]
end
theorem setRow_below (w : World) (g : Nat) (cs : Array Value) : Below g w (w.setRow g cs) := ⟨rfl, rfl, rfl, by simp, fun k hk => setRow_other w g k cs (by omega)⟩
def SpRes (X : Nat → Prop) (w : World) (r : Option Sp) (e : Ending) (w' : World) : Prop :=
 ∃ z p b, e = .returned (.tuple #[.agg (spA z p), .bool b]) ∧ Below w.heap.size w w' ∧
   match r with
   | some u => b = true ∧ ∃ q', z = (u.1 : Int) ∧ p = some ⟨q', 0, none⟩ ∧ BoxV 44 w' q' (cpC u.2) ∧ ¬ X q'
   | none => b = false
theorem SpRes.fin {X : Nat → Prop} {w w3 : World} {r : Option Sp} {z : Int} {p : Option Addr} {b : Bool} (hB : Below w.heap.size w w3) (h : match r with
  | some u => b = true ∧ ∃ q', z = (u.1 : Int) ∧ p = some ⟨q', 0, none⟩ ∧ BoxV 44 w3 q' (cpC u.2) ∧ ¬ X q'
  | none => b = false) {g : Nat} (hg : BoxV 93 w3 g (spA 0 none)) (hgl : w.heap.size ≤ g) : SpRes X w r (.returned (.tuple #[.agg (spA z p), .bool b])) (w3.setRow g (spA z p)) := by
 refine ⟨z, p, b, rfl, hB.trans ((setRow_below _ _ _).mono hgl), ?_⟩
 cases r with
 | none => exact h
 | some u =>
   obtain ⟨h1, q', h2, h3, h4, h5⟩ := h
   refine ⟨h1, q', h2, h3, (setRow_other _ _ _ _ ?_).trans h4, h5⟩
   rintro rfl
   have e : some (Obj.cells (cpC u.2) 44 (0, 0)) = some (.cells (spA 0 none) 93 (0, 0)) := h4.symm.trans hg
   injection e with e
   injection e with _ e
   exact absurd e (by decide)
def FirstOk (R : Rd) (r : Re) : Prop :=
 ∀ (X : Nat → Prop) (w : World) (y : Sp) (q b o : Nat), b < w.heap.size → ¬ X b → At12 w b o r.root → BoxV 44 w q (cpC y.2) → ¬ X q → y.1 ≤ R.s.size → RdAt R X w → (∀ c, X c → c < w.heap.size) →
   Calls Tryz.prog 178 #[ptr R.rb, .pointer (some ⟨b, o, none⟩), spV y q] w (SpRes X w (outs (outsE R.s r y)).head?)
structure LBx (R : Rd) (X : Nat → Prop) (b o q xb : Nat) (x : Nd) (y : Sp) (u : World) : Prop where
 xb : BoxV 93 u xb (spA (y.1 : Int) (some ⟨q, 0, none⟩))
 cb : BoxV 44 u q (cpC y.2)
 nl : b < u.heap.size
 nd : At12 u b o x
 rd : RdAt R X u
theorem RdAt.call {R : Rd} {X : Nat → Prop} {u u' : World} (h : RdAt R X u) (k : Below u.heap.size u u') : RdAt R X u' := h.ext (Ext.call k)
theorem LBx.call {R : Rd} {X : Nat → Prop} {b o q xb : Nat} {x : Nd} {y : Sp} {u u' : World} (h : LBx R X b o q xb x y u) (k : Below u.heap.size u u') : LBx R X b o q xb x y u' where
 xb := h.xb.below k h.xb.lt
 cb := h.cb.below k h.cb.lt
 nl := Nat.lt_of_lt_of_le h.nl k.size
 nd := h.nd.keep fun j => k.cell (p := ⟨b, j, none⟩) h.nl
 rd := h.rd.call k
theorem LBx.row {R : Rd} {X : Nat → Prop} {b o q xb g : Nat} {x : Nd} {y : Sp} {u : World} (h : LBx R X b o q xb x y u) (hg : xb < g) (hq : q < g) (hb : b < g) (hr : R.rb < g) (hn : R.nb < g) (hk : R.kb < g) (cs : Array Value) : LBx R X b o q xb x y (u.setRow g cs) := by
 have k := setRow_below u g cs
 exact {
  xb := h.xb.below k hg
  cb := h.cb.below k hq
  nl := Nat.lt_of_lt_of_le h.nl k.size
  nd := h.nd.keep fun j => k.cell (p := ⟨b, j, none⟩) hb
  rd := {
   box := ⟨h.rd.box.box.below k hr, h.rd.box.not⟩
   nod := ⟨Nat.lt_of_lt_of_le h.rd.nod.1 k.size, fun i hi => (h.rd.nod.2 i hi).keep fun j => k.cell (p := ⟨R.nb, j, none⟩) hn⟩
   nodX := h.rd.nodX
   bkl := Nat.lt_of_lt_of_le h.rd.bkl k.size
   bkX := h.rd.bkX
   bkc := fun i hi => (k.cell (p := ⟨R.kb, i, none⟩) hk).trans (h.rd.bkc i hi) } }
theorem LBx.new {R : Rd} {X : Nat → Prop} {b o q : Nat} {x : Nd} {y : Sp} {w : World} (hb : b < w.heap.size) (hn : At12 w b o x) (hc : BoxV 44 w q (cpC y.2)) (hR : RdAt R X w) :
  LBx R X b o q w.heap.size x y (w.alloc (.cells (spA (y.1 : Int) (some ⟨q, 0, none⟩)) 93)) := by
 have k : Below w.heap.size w (w.alloc (.cells (spA (y.1 : Int) (some ⟨q, 0, none⟩)) 93)) := (Below.refl _ _).alloc (Nat.le_refl _) _
 exact ⟨BoxV.new _ _, hc.below k hc.lt, Nat.lt_of_lt_of_le hb k.size, hn.keep fun j => k.cell (p := ⟨b, j, none⟩) hb, hR.call k⟩
set_option maxRecDepth 100000 in
set_option maxHeartbeats 400000 in
theorem look_any {R : Rd} {X : Nat → Prop} (hs : R.s.size ≤ 100000000) {x : Nd} {a : Re} {i bk : Nat} (hi : i < R.n) (hi1 : x.a = (i : Int)) (hi2 : R.l i = a.root) (hbk : R.bk i = bk) (hbl : bk ≤ 100000000) (hF : FirstOk R a) (w : World) (y : Sp) (q b o : Nat) (hb : b < w.heap.size) (hn : At12 w b o x) (hc : BoxV 44 w q (cpC y.2)) (hy : y.1 ≤ R.s.size) (hR : RdAt R X w) (hq : ¬ X q) (hxl : ∀ c, X c → c < w.heap.size) :
  Calls Tryz.prog 177 #[ptr R.rb, .pointer (some ⟨b, o, none⟩), spV y q] w (SpRes X w (lookE (outsE R.s a) bk y)) := by
 have HI := Lib.hid hi1
 have HBK := Lib.hid hbk
 clear hi1 hbk
 have H0 := LBx.new hb hn hc hR
 obtain ⟨W1, hW1⟩ : ∃ W1, (w.alloc (.cells (spA (y.1 : Int) (some ⟨q, 0, none⟩)) 93)).alloc (.cells (spA 0 none) 93) = W1 := ⟨_, rfl⟩
 have hB1 : Below w.heap.size w W1 := by rw [← hW1]; go_grown
 have H1 : LBx R X b o q w.heap.size x y W1 := by rw [← hW1]; exact H0.call ((Below.refl _ _).alloc (Nat.le_refl _) _)
 have hres : BoxV 93 W1 (w.heap.size + 1) (spA 0 none) := by rw [← hW1]; have := BoxV.new (T := 93) (w.alloc (.cells (spA (y.1 : Int) (some ⟨q, 0, none⟩)) 93)) (spA 0 none); rwa [World.size_alloc] at this
 have lq := hc.lt
 have lr := hR.box.box.lt
 have ln := hR.nod.1
 have lk := hR.bkl
 clear H0 hn hc
 generalize hL : lookE (outsE R.s a) bk y = rr
 have HL := Lib.hid hL
 clear hL
 go_enter Tryz.func177, Tryz.ntmps177
 go_wp2_with fail
 try rw [hW1]
 refine wp_region_held (S := LBx R X b o q w.heap.size x y) (by kernel_rfl) ?_
 change wpAnyH _ _ _ _ _ _ _ _ W1.drew
 have hS : LBx R X b o q w.heap.size x y W1.drew := H1.call (below_drewN (Below.refl _ _) 1)
 refine takeAt 0 9 (.pointer (some ⟨w.heap.size, 0, none⟩)) rfl rfl (by kernel_rfl) (by kernel_rfl) (by kernel_rfl) (fun _ _ _ h => h) (yields (by rfl) (fun w => by kernel_rfl)) hS ?_
 simp only [Act.put, sA, s0, sS]
 refine takeAt 1 10 (.int .i64 (y.1 : Int)) rfl rfl (by kernel_rfl) (by kernel_rfl) (by kernel_rfl) (fun _ _ _ h => h) (ldI_y w.heap.size 0 _ (fun _ h => h.xb.get 0 rfl) rfl rfl (by rfl)) hS ?_
 simp only [Act.put, sA, s0, sS]
 refine takeAt 2 11 (.pointer (some ⟨R.rb, 0, none⟩)) rfl rfl (by kernel_rfl) (by kernel_rfl) (by kernel_rfl) (fun _ _ _ h => h) (yields (by rfl) (fun w => by kernel_rfl)) hS ?_
 simp only [Act.put, sA, s0, sS]
 refine takeAt 3 12 (.pointer (some ⟨R.rb, 0, none⟩)) rfl rfl (by kernel_rfl) (by kernel_rfl) (by kernel_rfl) (fun _ _ _ h => h) (yields (by rfl) (fun w => by kernel_rfl)) hS ?_
 simp only [Act.put, sA, s0, sS]
 refine takeAt 4 13 (.pointer (some ⟨R.rb, 1, none⟩)) rfl rfl (by kernel_rfl) (by kernel_rfl) (by kernel_rfl) (fun _ _ _ h => h) (yields (by rfl) (fun w => by kernel_rfl)) hS ?_
 simp only [Act.put, sA, s0, sS]
 refine takeAt 5 14 (.slice (some ⟨R.kb, 0, none⟩) R.n R.kc) rfl rfl (by kernel_rfl) (by kernel_rfl) (by kernel_rfl) (fun _ _ _ h => h) (ldSI_y R.rb 1 _ _ _ (fun _ h => h.rd.box.box.get 1 rfl) rfl rfl (by rfl)) hS ?_
 simp only [Act.put, sA, s0, sS]
 refine takeAt 6 15 (.pointer (some ⟨b, o, none⟩)) rfl rfl (by kernel_rfl) (by kernel_rfl) (by kernel_rfl) (fun _ _ _ h => h) (yields (by rfl) (fun w => by kernel_rfl)) hS ?_
 simp only [Act.put, sA, s0, sS]
 refine takeAt 7 16 (.pointer (some ⟨b, o, none⟩)) rfl rfl (by kernel_rfl) (by kernel_rfl) (by kernel_rfl) (fun _ _ _ h => h) (yields (by rfl) (fun w => by kernel_rfl)) hS ?_
 simp only [Act.put, sA, s0, sS]
 refine takeAt 8 17 (.pointer (some ⟨b, o + 1, none⟩)) rfl rfl (by kernel_rfl) (by kernel_rfl) (by kernel_rfl) (fun _ _ _ h => h) (yields (by rfl) (fun w => by kernel_rfl)) hS ?_
 simp only [Act.put, sA, s0, sS]
 refine takeAt 9 18 (.int .i64 (i : Int)) rfl rfl (by kernel_rfl) (by kernel_rfl) (by kernel_rfl) (fun _ _ _ h => h) (ldI_y b (o + 1) _ (fun _ h => by rw [h.nd.2.1, HI.out]) rfl rfl (by rfl)) hS ?_
 simp only [Act.put, sA, s0, sS]
 refine takeAt 10 19 (.pointer (some ⟨R.kb, i, none⟩)) rfl rfl (by kernel_rfl) (by kernel_rfl) (by kernel_rfl) (fun _ _ _ h => h) (ixI_y R.kb R.n R.kc i hi rfl rfl rfl (by rfl)) hS ?_
 simp only [Act.put, sA, s0, sS]
 refine takeAt 11 20 (.int .i64 (bk : Int)) rfl rfl (by kernel_rfl) (by kernel_rfl) (by kernel_rfl) (fun _ _ _ h => h) (ldI_y R.kb i _ (fun _ h => by rw [h.rd.bkc i hi, HBK.out]) rfl rfl (by rfl)) hS ?_
 simp only [Act.put, sA, s0, sS]
 refine takeAt 12 21 (.int .i64 ((y.1 : Int) - bk)) rfl rfl (by kernel_rfl) (by kernel_rfl) (by kernel_rfl) (fun _ _ _ h => h) (sub_y _ _ (by omega) rfl rfl rfl (by rfl)) hS ?_
 simp only [Act.put, sA, s0, sS]
 refine takeAt 13 8 (.int .i64 ((y.1 : Int) - bk)) rfl rfl (by kernel_rfl) (by kernel_rfl) (by kernel_rfl) (fun _ _ _ h => h) (yields (by rfl) (fun w => by kernel_rfl)) hS ?_
 simp only [Act.put, sA, s0, sS]
 refine wpAnyH_done (by kernel_rfl) ?_ _
 have hBd : Below W1.heap.size W1 W1.drew := below_drewN (Below.refl _ _) 1
 have hr1 : BoxV 93 W1.drew (w.heap.size + 1) (spA 0 none) := hres
 have hB2 : Below w.heap.size w W1.drew := hB1.trans (hBd.mono hB1.size)
 have hsz : W1.heap.size = w.heap.size + 2 := by rw [← hW1]; simp
 have Hsz := Lib.hid hsz
 clear hW1 hsz hres H1
 by_cases h1 : y.1 < bk
 ·have hL := HL.out
  unfold lookE at hL
  rw [if_pos h1] at hL
  subst hL
  have c1 : decide ((y.1 : Int) - bk < 0) = true := decide_eq_true (by omega)
  have HS := Lib.hid hS
  clear hS
  go_wp2_with (refine storeX rfl _ _ rfl (w.heap.size + 1) 0 none _ rfl rfl rfl hr1 ?_)
  exact bodyPost_ret (resXB (p := 6) (q := 7) rfl _ (g := w.heap.size + 1) rfl rfl (setRow_heap _ _ _ _ _ _ hr1)) rfl ⟨_, _, _, rfl, hB2.trans ((setRow_below _ _ _).mono (by omega)), rfl⟩
 ·have hL := HL.out
  unfold lookE at hL
  rw [if_neg h1] at hL
  subst hL
  clear HL
  have c1 : decide ((y.1 : Int) - bk < 0) = false := decide_eq_false (by omega)
  have HS := Lib.hid hS
  clear hS
  go_wp2_with fail
  obtain ⟨f, hf⟩ : ∃ f : Nat, y.1 - bk = f := ⟨_, rfl⟩
  rw [show (y.1 : Int) - bk = (f : Int) by omega, hf]
  refine wp_region_held (S := LBx R X b o q w.heap.size x y) (by kernel_rfl) ?_
  change wpAnyH _ _ _ _ _ _ _ _ W1.drew.drew
  have hS2 : LBx R X b o q w.heap.size x y W1.drew.drew := HS.out.call (below_drewN (Below.refl _ _) 1)
  have hB3 : Below w.heap.size w W1.drew.drew := below_drewN hB2 1
  refine takeAt 0 25 (.pointer (some ⟨R.rb, 0, none⟩)) rfl rfl (by kernel_rfl) (by kernel_rfl) (by kernel_rfl) (fun _ _ _ h => h) (yields (by rfl) (fun w => by kernel_rfl)) hS2 ?_
  simp only [Act.put, sA, s0, sS]
  refine takeAt 1 26 (.pointer (some ⟨R.rb, 0, none⟩)) rfl rfl (by kernel_rfl) (by kernel_rfl) (by kernel_rfl) (fun _ _ _ h => h) (yields (by rfl) (fun w => by kernel_rfl)) hS2 ?_
  simp only [Act.put, sA, s0, sS]
  refine takeAt 2 27 (.pointer (some ⟨R.rb, 0, none⟩)) rfl rfl (by kernel_rfl) (by kernel_rfl) (by kernel_rfl) (fun _ _ _ h => h) (yields (by rfl) (fun w => by kernel_rfl)) hS2 ?_
  simp only [Act.put, sA, s0, sS]
  refine takeAt 3 28 (.pointer (some ⟨R.rb, 0, none⟩)) rfl rfl (by kernel_rfl) (by kernel_rfl) (by kernel_rfl) (fun _ _ _ h => h) (yields (by rfl) (fun w => by kernel_rfl)) hS2 ?_
  simp only [Act.put, sA, s0, sS]
  refine takeAt 4 29 (.slice (some ⟨R.nb, R.no, none⟩) R.n R.cap) rfl rfl (by kernel_rfl) (by kernel_rfl) (by kernel_rfl) (fun _ _ _ h => h) (ldSN_y R.rb 0 _ _ _ (fun _ h => h.rd.box.box.get 0 rfl) rfl rfl (by rfl)) hS2 ?_
  simp only [Act.put, sA, s0, sS]
  refine takeAt 5 30 (.pointer (some ⟨b, o, none⟩)) rfl rfl (by kernel_rfl) (by kernel_rfl) (by kernel_rfl) (fun _ _ _ h => h) (yields (by rfl) (fun w => by kernel_rfl)) hS2 ?_
  simp only [Act.put, sA, s0, sS]
  refine takeAt 6 31 (.pointer (some ⟨b, o, none⟩)) rfl rfl (by kernel_rfl) (by kernel_rfl) (by kernel_rfl) (fun _ _ _ h => h) (yields (by rfl) (fun w => by kernel_rfl)) hS2 ?_
  simp only [Act.put, sA, s0, sS]
  refine takeAt 7 32 (.pointer (some ⟨b, o + 1, none⟩)) rfl rfl (by kernel_rfl) (by kernel_rfl) (by kernel_rfl) (fun _ _ _ h => h) (yields (by rfl) (fun w => by kernel_rfl)) hS2 ?_
  simp only [Act.put, sA, s0, sS]
  refine takeAt 8 33 (.int .i64 (i : Int)) rfl rfl (by kernel_rfl) (by kernel_rfl) (by kernel_rfl) (fun _ _ _ h => h) (ldI_y b (o + 1) _ (fun _ h => by rw [h.nd.2.1, HI.out]) rfl rfl (by rfl)) hS2 ?_
  simp only [Act.put, sA, s0, sS]
  refine takeAt 9 34 (.pointer (some ⟨R.nb, R.no + i * 12, none⟩)) rfl rfl (by kernel_rfl) (by kernel_rfl) (by kernel_rfl) (fun _ _ _ h => h) (ixN_y R.nb R.n R.cap R.no i hi rfl rfl rfl (by rfl)) hS2 ?_
  simp only [Act.put, sA, s0, sS]
  refine takeAt 10 35 (.int .i64 (f : Int)) rfl rfl (by kernel_rfl) (by kernel_rfl) (by kernel_rfl) (fun _ _ _ h => h) (yields (by rfl) (fun w => by kernel_rfl)) hS2 ?_
  simp only [Act.put, sA, s0, sS]
  refine takeAt 11 36 (.pointer (some ⟨w.heap.size, 1, none⟩)) rfl rfl (by kernel_rfl) (by kernel_rfl) (by kernel_rfl) (fun _ _ _ h => h) (yields (by rfl) (fun w => by kernel_rfl)) hS2 ?_
  simp only [Act.put, sA, s0, sS]
  refine takeAt 12 37 (.pointer (some ⟨q, 0, none⟩)) rfl rfl (by kernel_rfl) (by kernel_rfl) (by kernel_rfl) (fun _ _ _ h => h) (ldPC_y w.heap.size 1 _ (fun _ h => h.xb.get 1 rfl) rfl rfl (by rfl)) hS2 ?_
  simp only [Act.put, sA, s0, sS]
  refine takeAt 13 38 (.agg (spA (f : Int) (some ⟨q, 0, none⟩))) rfl rfl (by kernel_rfl) (by kernel_rfl) (by kernel_rfl) (fun _ _ _ h => h) (yields (by rfl) (fun w => by kernel_rfl)) hS2 ?_
  simp only [Act.put, sA, s0, sS]
  refine callAt 14 39 rfl rfl (by kernel_rfl) (by rfl) (by kernel_rfl) (hF X W1.drew.drew (f, y.2) q R.nb (R.no + i * 12) hS2.rd.nod.1 hS2.rd.nodX (by rw [← hi2]; exact hS2.rd.nod.2 i hi) hS2.cb hq (by show f ≤ _; omega) hS2.rd (fun c hc => Nat.lt_of_lt_of_le (hxl c hc) hB3.size)) ?_
  rintro e w3 ⟨z, p, bb, rfl, hbb, hm⟩
  have hS3 := hS2.call hbb
  refine ⟨_, rfl, hS3, ?_⟩
  simp only [Act.put, sA, s0, sS]
  refine takeAt 15 40 (.agg (spA z p)) rfl rfl (by kernel_rfl) (by kernel_rfl) (by kernel_rfl) (fun _ _ _ h => h) (yields (by rfl) (fun w => by kernel_rfl)) hS3 ?_
  simp only [Act.put, sA, s0, sS]
  refine takeAt 16 41 (.bool bb) rfl rfl (by kernel_rfl) (by kernel_rfl) (by kernel_rfl) (fun _ _ _ h => h) (yields (by rfl) (fun w => by kernel_rfl)) hS3 ?_
  simp only [Act.put, sA, s0, sS]
  have hr3 : BoxV 93 w3 (w.heap.size + 1) (spA 0 none) := BoxV.below (show BoxV 93 W1.drew.drew (w.heap.size + 1) (spA 0 none) from hr1) hbb (by have := Hsz.out; show _ < W1.heap.size; omega)
  have hS4 : LBx R X b o q w.heap.size x y (w3.setRow (w.heap.size + 1) (spA z p)) := hS3.row (by omega) (by omega) (by omega) (by omega) (by omega) (by omega) _
  refine rowAt 17 93 (w.heap.size + 1) (spA 0 none) (spA z p) rfl rfl rfl (by kernel_rfl) (by rfl) rfl rfl hr3 sizeX rfl (by simp [Value.oneCell']) hS4 ?_
  refine takeAt 18 7 (.bool bb) rfl rfl (by kernel_rfl) (by kernel_rfl) (by kernel_rfl) (fun _ _ _ h => h) (yields (by rfl) (fun w => by kernel_rfl)) hS4 ?_
  simp only [Act.put, sA, s0, sS]
  refine wpAnyH_done (by kernel_rfl) ?_ _
  clear hS2 hS3 hS4 HS
  go_wp2_with fail
  refine bodyPost_ret (resXB (p := 6) (q := 7) rfl _ (g := w.heap.size + 1) rfl rfl (setRow_heap _ _ _ _ _ _ hr3)) rfl (SpRes.fin (hB3.trans (hbb.mono hB3.size)) ?_ hr3 (by omega))
  rw [hf]
  exact hm
end Go.Proofs.YteiboobdhjdjkaaGreatDoor.Nai
