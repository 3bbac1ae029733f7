import Derived.Test.YteggpecbeagohaaGreatDoorStpOneM
import Derived.Test.YteggpecbeagohaaGreatDoorCapWithM
import Derived.Test.YteggpecbeagohaaGreatDoorMz
namespace Go.Proofs.YteggpecbeagohaaGreatDoor.Stp
open Go.RowKit
open Frm (Fr Pl frC frL frI dpI putF zF Wf mayF idF I64 BoxV ptr slc plL plC loadFr storeFr resFB getF sizeFr owns_block)
open Cap (Cp cpC zrC withZ agN agB byB)
open Ast (Nd At12 NodesAt kidsZ)
open Nai (setN hasN holdB hold_any ag_le)
section
variable {ops : Array Oper} {R : World → Prop} {a : Act} {o : Oper} {x y z : Operand} {w : World}
theorem gt_y (p q : Int) (b : Bool) (h : decide (q < p) = b) (ho : o.op = .binOp .gtr 3 x y 3) (hx : a.eval x = .int .i64 p) (hy : a.eval y = .int .i64 q) (hw : Region.wanted o (yielded ops a.tmps) = true) : YieldsIf Tryz.prog ops R o (.bool b) a := by
 refine Or.inl ⟨hw, fun u _ => ?_⟩
 unfold execOp
 simp only [ho, hx, hy]
 go_simp
theorem eqK_y (p q : Int) (b : Bool) (h : (p == q) = b) (ho : o.op = .binOp .eql 3 x y 3) (hx : a.eval x = .int .i64 p) (hy : a.eval y = .int .i64 q) (hw : Region.wanted o (yielded ops a.tmps) = true) : YieldsIf Tryz.prog ops R o (.bool b) a := by
 refine Or.inl ⟨hw, fun u _ => ?_⟩
 unfold execOp
 simp only [ho, hx, hy]
 go_simp
end
set_option maxRecDepth 100000 in
set_option maxHeartbeats 8000000 in
theorem turn_any (H : Wh) (C : Mx) (b m : Nat) (M : List Pl) (f : Fr) (i : Nat) (x : Cf) (w : World) (hM : Mch w H C b m none M) (hT : TOk C) (hF : FOk C f) (hk2 : f.k = 2) (hk : (C.l i).k = 10) (hfi : f.n = (i : Int)) (hi : i < C.n) (hx0 : 0 ≤ f.x) (hx1 : f.x < M.length) (hp : 0 ≤ x.p ∧ x.p ≤ C.s.size) (hl : M.length ≤ 900000) :
  Calls Tryz.prog 45 #[ptr H.p, .agg (frC f), .agg (cfA x)] w (StepRes w H C b m (turnZ C M f x)) := by
 have HM := Lib.hid hM
 have LO := Lib.hid hM.low
 have hr := hT.rep i hi hk
 have ha := hT.one i hi (by rw [hk]; rfl)
 have hn1 := hT.n1
 have hsz := hT.sz
 have hft := hF.t
 have HB := Lib.hid (show (0 ≤ f.t ∧ f.t ≤ 100000) ∧ (0 ≤ (C.l i).mn ∧ (C.l i).mn ≤ 1000000) by omega)
 have HX := Lib.hid (show 0 ≤ f.x ∧ f.x < M.length ∧ M.length ≤ 900000 from ⟨hx0, hx1, hl⟩)
 have HOK := Lib.hid (show ∀ g, g ∈ [⟨f.k, f.n, tK (C.l i) f.t, x.p, f.x⟩, toDo (C.l i).a] → OkF g by
  intro g hg
  simp at hg
  rcases hg with rfl | rfl
  ·refine ⟨.inr (.inl hk2), by show 0 ≤ f.n ∧ f.n ≤ 1000000; omega, ?_, by show 0 ≤ x.p ∧ x.p ≤ 1000000; omega⟩
   show 0 ≤ tK (C.l i) f.t ∧ tK (C.l i) f.t ≤ 1000000
   unfold tK
   split <;> omega
  ·exact okDo (by omega))
 have EF := Lib.hid (show putsF C.most M f.x [⟨f.k, f.n, tK (C.l i) f.t, x.p, f.x⟩, toDo (C.l i).a] = putsF C.most M f.x [⟨2, f.n, tK (C.l i) f.t, x.p, 0⟩, toDo (C.l i).a] by rw [hk2]; rfl)
 have HT := Lib.hid hT
 have EI := Lib.hid (show f.n.toNat = i by omega)
 clear hM hT hF hk2 hk hx0 hx1 hp hl hn1 hsz hr ha hft
 go_enter Tryz.func45, Tryz.ntmps45
 go_wp2_with (refine boxFr _ rfl f rfl (by rfl) ?_)
 intro u1 X1
 go_wp2_with (refine boxCf _ rfl x rfl (by rfl) ?_)
 intro u2 X2
 go_wp2_with (refine allocSq rfl (by rfl) ?_)
 intro u3 X3
 have s1 := Lib.hid X1.out.size
 have s2 := Lib.hid X2.out.size
 have L3 := Lib.hid (show Below w.heap.size w u3 from (X1.out.low.trans (X2.out.low.mono (by have := s1.out; omega))).trans (X3.out.low.mono (by have := s1.out; have := s2.out; omega)))
 have V3 := Lib.hid (show Sv C H [(90, w.heap.size, frC f), (28, u1.heap.size, cfA x)] u3 from ⟨HM.out.rm.call L3.out, (X1.out.box.below X2.out.low (by have := s1.out; omega)).below X3.out.low (by have := s1.out; have := s2.out; omega), X2.out.box.below X3.out.low (by have := s2.out; omega), trivial⟩)
 have T3 := Lib.hid X3.out.box
 have s3 := Lib.hid X3.out.size
 clear X1 X2 X3
 go_wp2_with fail
 have hS : Sv C H [(90, w.heap.size, frC f), (28, u1.heap.size, cfA x)] u3.drew := V3.out.call (Below.refl _ u3).drew
 refine wp_region_held_drew (S := fun u => Sv C H [(90, w.heap.size, frC f), (28, u1.heap.size, cfA x)] u) (by kernel_rfl) hS (fun _ => ?_)
 refine takeAt 0 13 (.pointer (some ⟨H.p, 0, none⟩)) rfl rfl (by kernel_rfl) (by kernel_rfl) (by kernel_rfl) i_ (yields (by rfl) (fun w => by kernel_rfl)) hS ?_
 simp only [Act.put, sA_, s0_, sS_]
 refine takeAt 1 14 (.pointer (some ⟨H.p, 0, none⟩)) rfl rfl (by kernel_rfl) (by kernel_rfl) (by kernel_rfl) i_ (yields (by rfl) (fun w => by kernel_rfl)) hS ?_
 simp only [Act.put, sA_, s0_, sS_]
 refine takeAt 2 15 (.pointer (some ⟨H.p, 0, none⟩)) rfl rfl (by kernel_rfl) (by kernel_rfl) (by kernel_rfl) i_ (yields (by rfl) (fun w => by kernel_rfl)) hS ?_
 simp only [Act.put, sA_, s0_, sS_]
 refine takeAt 3 16 (.slice (some ⟨H.g, 0, none⟩) C.n H.cn) rfl rfl (by kernel_rfl) (by kernel_rfl) (by kernel_rfl) i_ (ldSN_y H.p 0 _ _ _ (fun _ h => h.1.c0) rfl rfl (by rfl)) hS ?_
 simp only [Act.put, sA_, s0_, sS_]
 refine takeAt 4 17 (.pointer (some ⟨w.heap.size, 1, none⟩)) rfl rfl (by kernel_rfl) (by kernel_rfl) (by kernel_rfl) i_ (yields (by rfl) (fun w => by kernel_rfl)) hS ?_
 simp only [Act.put, sA_, s0_, sS_]
 refine takeAt 5 18 (.int .i64 (i : Int)) rfl rfl (by kernel_rfl) (by kernel_rfl) (by kernel_rfl) i_ (ldI_y w.heap.size 1 _ (fun _ h => (h.2.1.get 1 rfl).trans (show some (Value.int .i64 f.n) = some (.int .i64 (i : Int)) by rw [hfi])) rfl rfl (by rfl)) hS ?_
 simp only [Act.put, sA_, s0_, sS_]
 refine takeAt 6 19 (.pointer (some ⟨H.g, i * 12, none⟩)) rfl rfl (by kernel_rfl) (by kernel_rfl) (by kernel_rfl) i_ (ixN_y0 H.g C.n H.cn i hi rfl rfl rfl (by rfl)) hS ?_
 simp only [Act.put, sA_, s0_, sS_]
 refine takeAt 7 8 (.pointer (some ⟨H.g, i * 12, none⟩)) rfl rfl (by kernel_rfl) (by kernel_rfl) (by kernel_rfl) i_ (yields (by rfl) (fun w => by kernel_rfl)) hS ?_
 simp only [Act.put, sA_, s0_, sS_]
 refine wpAnyH_done (by kernel_rfl) ?_ _
 clear hfi
 have hb4 := hS.2.1.get 4 rfl
 have hb5 := hS.2.2.1
 clear hS
 go_wp2_with (refine loadCf rfl _ rfl u1.heap.size x rfl hb5 ?_)
 refine (then_any x f.x _).mono ?_
 rintro e u4 ⟨rfl, hB4⟩
 have hB4' : Below u3.heap.size u3 u4 := (Below.refl _ u3).drew.trans hB4
 have V4 := Lib.hid (V3.out.call hB4')
 have T4 := Lib.hid (T3.out.below hB4' T3.out.lt)
 have L4 := Lib.hid (L3.out.trans (hB4'.mono L3.out.size))
 have s4 := Lib.hid (show u3.heap.size ≤ u4.heap.size from hB4'.size)
 clear hB4 hB4' hb4 hb5 V3 T3 L3
 go_wp2_with (refine allocCf rfl (by rfl) ?_)
 intro u5 X5
 have V5 := Lib.hid (V4.out.call X5.out.low)
 have T5 := Lib.hid (T4.out.below X5.out.low T4.out.lt)
 have L5 := Lib.hid (L4.out.trans (X5.out.low.mono L4.out.size))
 have s5 := Lib.hid X5.out.size
 go_wp2_with (refine putCf rfl _ _ rfl u4.heap.size (x.on f.x) (cfA zCf) rfl rfl (cfA_size _) X5.out.box ?_)
 intro u6 X6
 have SZ := Lib.hid (And.intro s1.out (And.intro s2.out (And.intro s3.out (And.intro s4.out (And.intro s5.out L4.out.size)))))
 have hsz := SZ.out
 have hlo := LO.out
 have V6 := Lib.hid (show Sv C H [(90, w.heap.size, frC f), (28, u1.heap.size, cfA x), (28, u4.heap.size, cfA (x.on f.x))] u6 from by
  have h := V5.out.put (L := [(90, w.heap.size, frC f), (28, u1.heap.size, cfA x)]) X5.out.box X6.out (by
   intro e he
   simp at he
   rcases he with rfl | rfl
   ·simp
   ·exact .inr (by dsimp only; omega)) (by omega)
  exact ⟨h.1, h.2.1, h.2.2.1, X6.out.box, trivial⟩)
 have T6 := Lib.hid (show BoxV 53 u6 u2.heap.size (sqA failQ) from (X6.out.other _ (by omega)).trans T5.out)
 have L6 := Lib.hid (show Below w.heap.size w u6 from L5.out.trans (X6.out.low _ (by omega)))
 clear hsz hlo s1 s2 s3 s4 s5 V4 V5 T4 T5 L4 L5 X5 X6
 by_cases hf0 : (C.l i).mn < f.t ∧ x.p = f.f
 ·have EZ := Lib.hid (show turnZ C M f x = (failQ, 0, M) by unfold turnZ; rw [EI.out, if_pos hf0])
  have h1 : decide ((C.l i).mn < f.t) = true := decide_eq_true hf0.1
  have h2 : (x.p == f.f) = true := by simpa using hf0.2
  go_wp2_with fail
  have hS7 : Sv C H [(90, w.heap.size, frC f), (28, u1.heap.size, cfA x), (28, u4.heap.size, cfA (x.on f.x))] u6.drew := V6.out.call (Below.refl _ u6).drew
  refine wp_region_held_drew (S := fun u => Sv C H [(90, w.heap.size, frC f), (28, u1.heap.size, cfA x), (28, u4.heap.size, cfA (x.on f.x))] u) (by kernel_rfl) hS7 (fun _ => ?_)
  refine takeAt 0 24 (.pointer (some ⟨w.heap.size, 2, none⟩)) rfl rfl (by kernel_rfl) (by kernel_rfl) (by kernel_rfl) i_ (yields (by rfl) (fun w => by kernel_rfl)) hS7 ?_
  simp only [Act.put, sA_, s0_, sS_]
  refine takeAt 1 25 (.int .i64 f.t) rfl rfl (by kernel_rfl) (by kernel_rfl) (by kernel_rfl) i_ (ldI_y w.heap.size 2 _ (fun _ h => h.2.1.get 2 rfl) rfl rfl (by rfl)) hS7 ?_
  simp only [Act.put, sA_, s0_, sS_]
  refine takeAt 2 26 (.pointer (some ⟨H.g, i * 12, none⟩)) rfl rfl (by kernel_rfl) (by kernel_rfl) (by kernel_rfl) i_ (yields (by rfl) (fun w => by kernel_rfl)) hS7 ?_
  simp only [Act.put, sA_, s0_, sS_]
  refine takeAt 3 27 (.pointer (some ⟨H.g, i * 12, none⟩)) rfl rfl (by kernel_rfl) (by kernel_rfl) (by kernel_rfl) i_ (yields (by rfl) (fun w => by kernel_rfl)) hS7 ?_
  simp only [Act.put, sA_, s0_, sS_]
  refine takeAt 4 28 (.pointer (some ⟨H.g, i * 12 + 7, none⟩)) rfl rfl (by kernel_rfl) (by kernel_rfl) (by kernel_rfl) i_ (yields (by rfl) (fun w => by kernel_rfl)) hS7 ?_
  simp only [Act.put, sA_, s0_, sS_]
  refine takeAt 5 29 (.int .i64 (C.l i).mn) rfl rfl (by kernel_rfl) (by kernel_rfl) (by kernel_rfl) i_ (ldI_y H.g (i * 12 + 7) _ (fun _ h => (h.1.node hi).2.2.2.2.2.2.2.1) rfl rfl (by rfl)) hS7 ?_
  simp only [Act.put, sA_, s0_, sS_]
  refine takeAt 6 30 (.bool true) rfl rfl (by kernel_rfl) (by kernel_rfl) (by kernel_rfl) i_ (gt_y _ _ true h1 rfl rfl rfl (by rfl)) hS7 ?_
  simp only [Act.put, sA_, s0_, sS_]
  refine takeAt 7 31 (.bool true) rfl rfl (by kernel_rfl) (by kernel_rfl) (by kernel_rfl) i_ (yields (by rfl) (fun w => by kernel_rfl)) hS7 ?_
  simp only [Act.put, sA_, s0_, sS_]
  refine takeAt 8 32 (.pointer (some ⟨u1.heap.size, 1, none⟩)) rfl rfl (by kernel_rfl) (by kernel_rfl) (by kernel_rfl) i_ (yields (by rfl) (fun w => by kernel_rfl)) hS7 ?_
  simp only [Act.put, sA_, s0_, sS_]
  refine takeAt 9 33 (.int .i64 x.p) rfl rfl (by kernel_rfl) (by kernel_rfl) (by kernel_rfl) i_ (ldI_y u1.heap.size 1 _ (fun _ h => h.2.2.1.get 1 (cf_get1 x)) rfl rfl (by rfl)) hS7 ?_
  simp only [Act.put, sA_, s0_, sS_]
  refine takeAt 10 34 (.pointer (some ⟨w.heap.size, 3, none⟩)) rfl rfl (by kernel_rfl) (by kernel_rfl) (by kernel_rfl) i_ (yields (by rfl) (fun w => by kernel_rfl)) hS7 ?_
  simp only [Act.put, sA_, s0_, sS_]
  refine takeAt 11 35 (.int .i64 f.f) rfl rfl (by kernel_rfl) (by kernel_rfl) (by kernel_rfl) i_ (ldI_y w.heap.size 3 _ (fun _ h => h.2.1.get 3 rfl) rfl rfl (by rfl)) hS7 ?_
  simp only [Act.put, sA_, s0_, sS_]
  refine takeAt 12 36 (.bool true) rfl rfl (by kernel_rfl) (by kernel_rfl) (by kernel_rfl) i_ (eqK_y _ _ true h2 rfl rfl rfl (by rfl)) hS7 ?_
  simp only [Act.put, sA_, s0_, sS_]
  refine takeAt 13 37 (.bool true) rfl rfl (by kernel_rfl) (by kernel_rfl) (by kernel_rfl) i_ (yields (by rfl) (fun w => by kernel_rfl)) hS7 ?_
  simp only [Act.put, sA_, s0_, sS_]
  refine wpAnyH_done (by kernel_rfl) ?_ _
  clear h1 h2 hf0 hS7
  go_wp2_with (first | refine lineW _ _ (by rfl) (bK 0 (.inl rfl) rfl) ?_ | refine putSq rfl _ _ rfl u2.heap.size failQ (sqA failQ) rfl rfl (sqA_size _) T6.out ?_)
  intro u8 X8
  go_wp2_with fail
  refine bodyPost_ret (resSE rfl _ (g := u2.heap.size) rfl rfl X8.out.box) rfl ⟨?_, ?_⟩
  ·rw [EZ.out]; rfl
  ·rw [EZ.out]
   exact ((Goes.refl HM.out).next (L6.out.trans ((Below.refl _ u6).drew.mono L6.out.size))).putSq HM.out (by have := SZ.out; omega) T6.out X8.out
 ·have EZ0 := Lib.hid (show turnZ C M f x = if f.t = (C.l i).mx then (goQ (x.on f.x), 0, M) else if (putsF C.most M f.x [⟨f.k, f.n, tK (C.l i) f.t, x.p, f.x⟩, toDo (C.l i).a]).2.2 = 0 then (if f.t < (C.l i).mn then goQ (x.on (putsF C.most M f.x [⟨f.k, f.n, tK (C.l i) f.t, x.p, f.x⟩, toDo (C.l i).a]).2.1) else if (C.l i).md = 1 then choQ (x.on f.x) (x.on (putsF C.most M f.x [⟨f.k, f.n, tK (C.l i) f.t, x.p, f.x⟩, toDo (C.l i).a]).2.1) else choQ (x.on (putsF C.most M f.x [⟨f.k, f.n, tK (C.l i) f.t, x.p, f.x⟩, toDo (C.l i).a]).2.1) (x.on f.x), 0, (putsF C.most M f.x [⟨f.k, f.n, tK (C.l i) f.t, x.p, f.x⟩, toDo (C.l i).a]).1) else (failQ, (putsF C.most M f.x [⟨f.k, f.n, tK (C.l i) f.t, x.p, f.x⟩, toDo (C.l i).a]).2.2, (putsF C.most M f.x [⟨f.k, f.n, tK (C.l i) f.t, x.p, f.x⟩, toDo (C.l i).a]).1) by unfold turnZ; rw [EI.out, if_neg hf0, EF.out])
  rcases Classical.em ((C.l i).mn < f.t) with hq | hq
  case' inl =>
   have h1 : decide ((C.l i).mn < f.t) = true := decide_eq_true hq
   have h2 : (x.p == f.f) = false := beq_eq_false_iff_ne.2 (fun e => hf0 ⟨hq, e⟩)
   clear hf0 hq
   go_wp2_with fail
   have hS7 : Sv C H [(90, w.heap.size, frC f), (28, u1.heap.size, cfA x), (28, u4.heap.size, cfA (x.on f.x))] u6.drew := V6.out.call (Below.refl _ u6).drew
   refine wp_region_held_drew (S := fun u => Sv C H [(90, w.heap.size, frC f), (28, u1.heap.size, cfA x), (28, u4.heap.size, cfA (x.on f.x))] u) (by kernel_rfl) hS7 (fun _ => ?_)
   refine takeAt 0 24 (.pointer (some ⟨w.heap.size, 2, none⟩)) rfl rfl (by kernel_rfl) (by kernel_rfl) (by kernel_rfl) i_ (yields (by rfl) (fun w => by kernel_rfl)) hS7 ?_
   simp only [Act.put, sA_, s0_, sS_]
   refine takeAt 1 25 (.int .i64 f.t) rfl rfl (by kernel_rfl) (by kernel_rfl) (by kernel_rfl) i_ (ldI_y w.heap.size 2 _ (fun _ h => h.2.1.get 2 rfl) rfl rfl (by rfl)) hS7 ?_
   simp only [Act.put, sA_, s0_, sS_]
   refine takeAt 2 26 (.pointer (some ⟨H.g, i * 12, none⟩)) rfl rfl (by kernel_rfl) (by kernel_rfl) (by kernel_rfl) i_ (yields (by rfl) (fun w => by kernel_rfl)) hS7 ?_
   simp only [Act.put, sA_, s0_, sS_]
   refine takeAt 3 27 (.pointer (some ⟨H.g, i * 12, none⟩)) rfl rfl (by kernel_rfl) (by kernel_rfl) (by kernel_rfl) i_ (yields (by rfl) (fun w => by kernel_rfl)) hS7 ?_
   simp only [Act.put, sA_, s0_, sS_]
   refine takeAt 4 28 (.pointer (some ⟨H.g, i * 12 + 7, none⟩)) rfl rfl (by kernel_rfl) (by kernel_rfl) (by kernel_rfl) i_ (yields (by rfl) (fun w => by kernel_rfl)) hS7 ?_
   simp only [Act.put, sA_, s0_, sS_]
   refine takeAt 5 29 (.int .i64 (C.l i).mn) rfl rfl (by kernel_rfl) (by kernel_rfl) (by kernel_rfl) i_ (ldI_y H.g (i * 12 + 7) _ (fun _ h => (h.1.node hi).2.2.2.2.2.2.2.1) rfl rfl (by rfl)) hS7 ?_
   simp only [Act.put, sA_, s0_, sS_]
   refine takeAt 6 30 (.bool true) rfl rfl (by kernel_rfl) (by kernel_rfl) (by kernel_rfl) i_ (gt_y _ _ true h1 rfl rfl rfl (by rfl)) hS7 ?_
   simp only [Act.put, sA_, s0_, sS_]
   refine takeAt 7 31 (.bool true) rfl rfl (by kernel_rfl) (by kernel_rfl) (by kernel_rfl) i_ (yields (by rfl) (fun w => by kernel_rfl)) hS7 ?_
   simp only [Act.put, sA_, s0_, sS_]
   refine takeAt 8 32 (.pointer (some ⟨u1.heap.size, 1, none⟩)) rfl rfl (by kernel_rfl) (by kernel_rfl) (by kernel_rfl) i_ (yields (by rfl) (fun w => by kernel_rfl)) hS7 ?_
   simp only [Act.put, sA_, s0_, sS_]
   refine takeAt 9 33 (.int .i64 x.p) rfl rfl (by kernel_rfl) (by kernel_rfl) (by kernel_rfl) i_ (ldI_y u1.heap.size 1 _ (fun _ h => h.2.2.1.get 1 (cf_get1 x)) rfl rfl (by rfl)) hS7 ?_
   simp only [Act.put, sA_, s0_, sS_]
   refine takeAt 10 34 (.pointer (some ⟨w.heap.size, 3, none⟩)) rfl rfl (by kernel_rfl) (by kernel_rfl) (by kernel_rfl) i_ (yields (by rfl) (fun w => by kernel_rfl)) hS7 ?_
   simp only [Act.put, sA_, s0_, sS_]
   refine takeAt 11 35 (.int .i64 f.f) rfl rfl (by kernel_rfl) (by kernel_rfl) (by kernel_rfl) i_ (ldI_y w.heap.size 3 _ (fun _ h => h.2.1.get 3 rfl) rfl rfl (by rfl)) hS7 ?_
   simp only [Act.put, sA_, s0_, sS_]
   refine takeAt 12 36 (.bool false) rfl rfl (by kernel_rfl) (by kernel_rfl) (by kernel_rfl) i_ (eqK_y _ _ false h2 rfl rfl rfl (by rfl)) hS7 ?_
   simp only [Act.put, sA_, s0_, sS_]
   refine takeAt 13 37 (.bool false) rfl rfl (by kernel_rfl) (by kernel_rfl) (by kernel_rfl) i_ (yields (by rfl) (fun w => by kernel_rfl)) hS7 ?_
   simp only [Act.put, sA_, s0_, sS_]
   refine wpAnyH_done (by kernel_rfl) ?_ _
   clear h1 h2 hS7
  case' inr =>
   have h1 : decide ((C.l i).mn < f.t) = false := decide_eq_false hq
   clear hf0 hq
   go_wp2_with fail
   have hS7 : Sv C H [(90, w.heap.size, frC f), (28, u1.heap.size, cfA x), (28, u4.heap.size, cfA (x.on f.x))] u6.drew := V6.out.call (Below.refl _ u6).drew
   refine wp_region_held_drew (S := fun u => Sv C H [(90, w.heap.size, frC f), (28, u1.heap.size, cfA x), (28, u4.heap.size, cfA (x.on f.x))] u) (by kernel_rfl) hS7 (fun _ => ?_)
   refine takeAt 0 24 (.pointer (some ⟨w.heap.size, 2, none⟩)) rfl rfl (by kernel_rfl) (by kernel_rfl) (by kernel_rfl) i_ (yields (by rfl) (fun w => by kernel_rfl)) hS7 ?_
   simp only [Act.put, sA_, s0_, sS_]
   refine takeAt 1 25 (.int .i64 f.t) rfl rfl (by kernel_rfl) (by kernel_rfl) (by kernel_rfl) i_ (ldI_y w.heap.size 2 _ (fun _ h => h.2.1.get 2 rfl) rfl rfl (by rfl)) hS7 ?_
   simp only [Act.put, sA_, s0_, sS_]
   refine takeAt 2 26 (.pointer (some ⟨H.g, i * 12, none⟩)) rfl rfl (by kernel_rfl) (by kernel_rfl) (by kernel_rfl) i_ (yields (by rfl) (fun w => by kernel_rfl)) hS7 ?_
   simp only [Act.put, sA_, s0_, sS_]
   refine takeAt 3 27 (.pointer (some ⟨H.g, i * 12, none⟩)) rfl rfl (by kernel_rfl) (by kernel_rfl) (by kernel_rfl) i_ (yields (by rfl) (fun w => by kernel_rfl)) hS7 ?_
   simp only [Act.put, sA_, s0_, sS_]
   refine takeAt 4 28 (.pointer (some ⟨H.g, i * 12 + 7, none⟩)) rfl rfl (by kernel_rfl) (by kernel_rfl) (by kernel_rfl) i_ (yields (by rfl) (fun w => by kernel_rfl)) hS7 ?_
   simp only [Act.put, sA_, s0_, sS_]
   refine takeAt 5 29 (.int .i64 (C.l i).mn) rfl rfl (by kernel_rfl) (by kernel_rfl) (by kernel_rfl) i_ (ldI_y H.g (i * 12 + 7) _ (fun _ h => (h.1.node hi).2.2.2.2.2.2.2.1) rfl rfl (by rfl)) hS7 ?_
   simp only [Act.put, sA_, s0_, sS_]
   refine takeAt 6 30 (.bool false) rfl rfl (by kernel_rfl) (by kernel_rfl) (by kernel_rfl) i_ (gt_y _ _ false h1 rfl rfl rfl (by rfl)) hS7 ?_
   simp only [Act.put, sA_, s0_, sS_]
   refine takeAt 7 31 (.bool false) rfl rfl (by kernel_rfl) (by kernel_rfl) (by kernel_rfl) i_ (yields (by rfl) (fun w => by kernel_rfl)) hS7 ?_
   simp only [Act.put, sA_, s0_, sS_]
   refine takeAt 8 32 (undef) rfl rfl (by kernel_rfl) (by kernel_rfl) (by kernel_rfl) i_ (skipped (by rfl)) hS7 ?_
   simp only [Act.put, sA_, s0_, sS_]
   refine takeAt 9 33 (undef) rfl rfl (by kernel_rfl) (by kernel_rfl) (by kernel_rfl) i_ (skipped (by rfl)) hS7 ?_
   simp only [Act.put, sA_, s0_, sS_]
   refine takeAt 10 34 (undef) rfl rfl (by kernel_rfl) (by kernel_rfl) (by kernel_rfl) i_ (skipped (by rfl)) hS7 ?_
   simp only [Act.put, sA_, s0_, sS_]
   refine takeAt 11 35 (undef) rfl rfl (by kernel_rfl) (by kernel_rfl) (by kernel_rfl) i_ (skipped (by rfl)) hS7 ?_
   simp only [Act.put, sA_, s0_, sS_]
   refine takeAt 12 36 (undef) rfl rfl (by kernel_rfl) (by kernel_rfl) (by kernel_rfl) i_ (skipped (by rfl)) hS7 ?_
   simp only [Act.put, sA_, s0_, sS_]
   refine takeAt 13 37 (.bool false) rfl rfl (by kernel_rfl) (by kernel_rfl) (by kernel_rfl) i_ (yields (by rfl) (fun w => by kernel_rfl)) hS7 ?_
   simp only [Act.put, sA_, s0_, sS_]
   refine wpAnyH_done (by kernel_rfl) ?_ _
   clear h1 hS7
  all_goals
   by_cases hmx : f.t = (C.l i).mx
   ·have EZ := Lib.hid (show turnZ C M f x = (goQ (x.on f.x), 0, M) by rw [EZ0.out, if_pos hmx])
    have h3 : (f.t == (C.l i).mx) = true := by simpa using hmx
    clear hmx
    go_wp2_with fail
    have hS8 : Sv C H [(90, w.heap.size, frC f), (28, u1.heap.size, cfA x), (28, u4.heap.size, cfA (x.on f.x))] u6.drew.drew := V6.out.call (Below.refl _ u6).drew.drew
    refine wp_region_held_drew (S := fun u => Sv C H [(90, w.heap.size, frC f), (28, u1.heap.size, cfA x), (28, u4.heap.size, cfA (x.on f.x))] u) (by kernel_rfl) hS8 (fun _ => ?_)
    refine takeAt 0 39 (.pointer (some ⟨w.heap.size, 2, none⟩)) rfl rfl (by kernel_rfl) (by kernel_rfl) (by kernel_rfl) i_ (yields (by rfl) (fun w => by kernel_rfl)) hS8 ?_
    simp only [Act.put, sA_, s0_, sS_]
    refine takeAt 1 40 (.int .i64 f.t) rfl rfl (by kernel_rfl) (by kernel_rfl) (by kernel_rfl) i_ (ldI_y w.heap.size 2 _ (fun _ h => h.2.1.get 2 rfl) rfl rfl (by rfl)) hS8 ?_
    simp only [Act.put, sA_, s0_, sS_]
    refine takeAt 2 41 (.pointer (some ⟨H.g, i * 12, none⟩)) rfl rfl (by kernel_rfl) (by kernel_rfl) (by kernel_rfl) i_ (yields (by rfl) (fun w => by kernel_rfl)) hS8 ?_
    simp only [Act.put, sA_, s0_, sS_]
    refine takeAt 3 42 (.pointer (some ⟨H.g, i * 12, none⟩)) rfl rfl (by kernel_rfl) (by kernel_rfl) (by kernel_rfl) i_ (yields (by rfl) (fun w => by kernel_rfl)) hS8 ?_
    simp only [Act.put, sA_, s0_, sS_]
    refine takeAt 4 43 (.pointer (some ⟨H.g, i * 12 + 8, none⟩)) rfl rfl (by kernel_rfl) (by kernel_rfl) (by kernel_rfl) i_ (yields (by rfl) (fun w => by kernel_rfl)) hS8 ?_
    simp only [Act.put, sA_, s0_, sS_]
    refine takeAt 5 44 (.int .i64 (C.l i).mx) rfl rfl (by kernel_rfl) (by kernel_rfl) (by kernel_rfl) i_ (ldI_y H.g (i * 12 + 8) _ (fun _ h => (h.1.node hi).2.2.2.2.2.2.2.2.1) rfl rfl (by rfl)) hS8 ?_
    simp only [Act.put, sA_, s0_, sS_]
    refine takeAt 6 45 (.bool true) rfl rfl (by kernel_rfl) (by kernel_rfl) (by kernel_rfl) i_ (eqK_y _ _ true h3 rfl rfl rfl (by rfl)) hS8 ?_
    simp only [Act.put, sA_, s0_, sS_]
    refine wpAnyH_done (by kernel_rfl) ?_ _
    have hb9 := hS8.2.2.2.1
    clear h3 hS8
    go_wp2_with (refine loadCf rfl _ rfl u4.heap.size (x.on f.x) rfl hb9 ?_)
    refine (goTo_any _ _).mono ?_
    rintro e u9 ⟨rfl, hB⟩
    have T9 := Lib.hid (show BoxV 53 u9 u2.heap.size (sqA failQ) from T6.out.below ((Below.refl _ u6).drew.drew.trans hB) T6.out.lt)
    have L9 := Lib.hid (L6.out.trans (((Below.refl _ u6).drew.drew.trans hB).mono L6.out.size))
    clear hB hb9
    go_wp2_with (refine putSq rfl _ _ rfl u2.heap.size (goQ (x.on f.x)) (sqA failQ) rfl rfl (sqA_size _) T9.out ?_)
    intro u10 X10
    go_wp2_with fail
    refine bodyPost_ret (resSE rfl _ (g := u2.heap.size) rfl rfl X10.out.box) rfl ⟨?_, ?_⟩
    ·rw [EZ.out]; rfl
    ·rw [EZ.out]
     exact ((Goes.refl HM.out).next L9.out).putSq HM.out (by have := SZ.out; omega) T9.out X10.out
   ·have h3 : (f.t == (C.l i).mx) = false := by simpa using hmx
    have EZ1 := Lib.hid (EZ0.out.trans (if_neg hmx))
    clear hmx
    go_wp2_with fail
    have hS8 : Sv C H [(90, w.heap.size, frC f), (28, u1.heap.size, cfA x), (28, u4.heap.size, cfA (x.on f.x))] u6.drew.drew := V6.out.call (Below.refl _ u6).drew.drew
    refine wp_region_held_drew (S := fun u => Sv C H [(90, w.heap.size, frC f), (28, u1.heap.size, cfA x), (28, u4.heap.size, cfA (x.on f.x))] u) (by kernel_rfl) hS8 (fun _ => ?_)
    refine takeAt 0 39 (.pointer (some ⟨w.heap.size, 2, none⟩)) rfl rfl (by kernel_rfl) (by kernel_rfl) (by kernel_rfl) i_ (yields (by rfl) (fun w => by kernel_rfl)) hS8 ?_
    simp only [Act.put, sA_, s0_, sS_]
    refine takeAt 1 40 (.int .i64 f.t) rfl rfl (by kernel_rfl) (by kernel_rfl) (by kernel_rfl) i_ (ldI_y w.heap.size 2 _ (fun _ h => h.2.1.get 2 rfl) rfl rfl (by rfl)) hS8 ?_
    simp only [Act.put, sA_, s0_, sS_]
    refine takeAt 2 41 (.pointer (some ⟨H.g, i * 12, none⟩)) rfl rfl (by kernel_rfl) (by kernel_rfl) (by kernel_rfl) i_ (yields (by rfl) (fun w => by kernel_rfl)) hS8 ?_
    simp only [Act.put, sA_, s0_, sS_]
    refine takeAt 3 42 (.pointer (some ⟨H.g, i * 12, none⟩)) rfl rfl (by kernel_rfl) (by kernel_rfl) (by kernel_rfl) i_ (yields (by rfl) (fun w => by kernel_rfl)) hS8 ?_
    simp only [Act.put, sA_, s0_, sS_]
    refine takeAt 4 43 (.pointer (some ⟨H.g, i * 12 + 8, none⟩)) rfl rfl (by kernel_rfl) (by kernel_rfl) (by kernel_rfl) i_ (yields (by rfl) (fun w => by kernel_rfl)) hS8 ?_
    simp only [Act.put, sA_, s0_, sS_]
    refine takeAt 5 44 (.int .i64 (C.l i).mx) rfl rfl (by kernel_rfl) (by kernel_rfl) (by kernel_rfl) i_ (ldI_y H.g (i * 12 + 8) _ (fun _ h => (h.1.node hi).2.2.2.2.2.2.2.2.1) rfl rfl (by rfl)) hS8 ?_
    simp only [Act.put, sA_, s0_, sS_]
    refine takeAt 6 45 (.bool false) rfl rfl (by kernel_rfl) (by kernel_rfl) (by kernel_rfl) i_ (eqK_y _ _ false h3 rfl rfl rfl (by rfl)) hS8 ?_
    simp only [Act.put, sA_, s0_, sS_]
    refine wpAnyH_done (by kernel_rfl) ?_ _
    clear h3 hS8
    go_wp2_with fail
    have hS9 : Sv C H [(90, w.heap.size, frC f), (28, u1.heap.size, cfA x), (28, u4.heap.size, cfA (x.on f.x))] u6.drew.drew.drew := V6.out.call (Below.refl _ u6).drew.drew.drew
    have L9 := Lib.hid (L6.out.trans ((Below.refl _ u6).drew.drew.drew.mono L6.out.size))
    have T9 := Lib.hid (show BoxV 53 u6.drew.drew.drew u2.heap.size (sqA failQ) from T6.out)
    refine wp_region_held_drew (S := fun u => Sv C H [(90, w.heap.size, frC f), (28, u1.heap.size, cfA x), (28, u4.heap.size, cfA (x.on f.x))] u) (by kernel_rfl) hS9 (fun _ => ?_)
    refine takeAt 0 49 (.pointer (some ⟨H.p, 0, none⟩)) rfl rfl (by kernel_rfl) (by kernel_rfl) (by kernel_rfl) i_ (yields (by rfl) (fun w => by kernel_rfl)) hS9 ?_
    simp only [Act.put, sA_, s0_, sS_]
    refine takeAt 1 50 (.pointer (some ⟨w.heap.size, 4, none⟩)) rfl rfl (by kernel_rfl) (by kernel_rfl) (by kernel_rfl) i_ (yields (by rfl) (fun w => by kernel_rfl)) hS9 ?_
    simp only [Act.put, sA_, s0_, sS_]
    refine takeAt 2 51 (.int .i64 f.x) rfl rfl (by kernel_rfl) (by kernel_rfl) (by kernel_rfl) i_ (ldI_y w.heap.size 4 _ (fun _ h => h.2.1.get 4 rfl) rfl rfl (by rfl)) hS9 ?_
    simp only [Act.put, sA_, s0_, sS_]
    refine takeAt 3 52 (.pointer (some ⟨H.g, i * 12, none⟩)) rfl rfl (by kernel_rfl) (by kernel_rfl) (by kernel_rfl) i_ (yields (by rfl) (fun w => by kernel_rfl)) hS9 ?_
    simp only [Act.put, sA_, s0_, sS_]
    refine takeAt 4 53 (.agg (frC f)) rfl rfl (by kernel_rfl) (by kernel_rfl) (by kernel_rfl) i_ (ldFr_y w.heap.size f (fun _ h => h.2.1) rfl rfl (by rfl)) hS9 ?_
    simp only [Act.put, sA_, s0_, sS_]
    refine takeAt 5 54 (.pointer (some ⟨u1.heap.size, 1, none⟩)) rfl rfl (by kernel_rfl) (by kernel_rfl) (by kernel_rfl) i_ (yields (by rfl) (fun w => by kernel_rfl)) hS9 ?_
    simp only [Act.put, sA_, s0_, sS_]
    refine takeAt 6 55 (.int .i64 x.p) rfl rfl (by kernel_rfl) (by kernel_rfl) (by kernel_rfl) i_ (ldI_y u1.heap.size 1 _ (fun _ h => h.2.2.1.get 1 (cf_get1 x)) rfl rfl (by rfl)) hS9 ?_
    simp only [Act.put, sA_, s0_, sS_]
    refine takeAt 8 57 (.pointer (some ⟨H.g, i * 12, none⟩)) rfl rfl (by kernel_rfl) (by kernel_rfl) (by kernel_rfl) i_ (yields (by rfl) (fun w => by kernel_rfl)) hS9 ?_
    simp only [Act.put, sA_, s0_, sS_]
    refine takeAt 9 58 (.pointer (some ⟨H.g, i * 12, none⟩)) rfl rfl (by kernel_rfl) (by kernel_rfl) (by kernel_rfl) i_ (yields (by rfl) (fun w => by kernel_rfl)) hS9 ?_
    simp only [Act.put, sA_, s0_, sS_]
    refine takeAt 10 59 (.pointer (some ⟨H.g, i * 12 + 1, none⟩)) rfl rfl (by kernel_rfl) (by kernel_rfl) (by kernel_rfl) i_ (yields (by rfl) (fun w => by kernel_rfl)) hS9 ?_
    simp only [Act.put, sA_, s0_, sS_]
    refine takeAt 11 60 (.int .i64 (C.l i).a) rfl rfl (by kernel_rfl) (by kernel_rfl) (by kernel_rfl) i_ (ldI_y H.g (i * 12 + 1) _ (fun _ h => (h.1.node hi).2.1) rfl rfl (by rfl)) hS9 ?_
    simp only [Act.put, sA_, s0_, sS_]
    refine callAt 7 56 rfl rfl (by kernel_rfl) (by rfl) (by kernel_rfl) (oneMore_any H.g (i * 12) (C.l i) f x.p _ (hS9.1.node hi) hS9.1.nds.1 HB.out.1 HB.out.2) ?_
    rintro e u10 ⟨rfl, hB⟩
    have hS10 := hS9.call hB
    have L10 := Lib.hid (L9.out.trans (hB.mono L9.out.size))
    have T10 := Lib.hid (T9.out.below hB T9.out.lt)
    clear hB
    refine ⟨_, rfl, hS10, ?_⟩
    simp only [Act.put, sA_, s0_, sS_]
    refine callAt 12 61 rfl rfl (by kernel_rfl) (by rfl) (by kernel_rfl) (toDo_any (C.l i).a _) ?_
    rintro e u11 ⟨rfl, hB⟩
    have hS11 := hS10.call hB
    have L11 := Lib.hid (L10.out.trans (hB.mono L10.out.size))
    have T11 := Lib.hid (T10.out.below hB T10.out.lt)
    clear hB
    refine ⟨_, rfl, hS11, ?_⟩
    simp only [Act.put, sA_, s0_, sS_]
    obtain ⟨u12, e12⟩ : ∃ v, u11.alloc (.cells (frC ⟨f.k, f.n, tK (C.l i) f.t, x.p, f.x⟩ ++ frC (toDo (C.l i).a)) 90) = v := ⟨_, rfl⟩
    have N12 := Lib.hid (show New 90 (frC ⟨f.k, f.n, tK (C.l i) f.t, x.p, f.x⟩ ++ frC (toDo (C.l i).a)) u11 u12 from e12 ▸ New.of _ _ _)
    have hS12 := hS11.call N12.out.low
    have L12 := Lib.hid (L11.out.trans (N12.out.low.mono L11.out.size))
    have T12 := Lib.hid (T11.out.below N12.out.low T11.out.lt)
    refine valAt 13 62 (.slice (some ⟨u11.heap.size, 0, none⟩) 2 2) u12 rfl rfl (by kernel_rfl) (by rfl) (by rw [← e12]; exact twoFr_run ⟨f.k, f.n, tK (C.l i) f.t, x.p, f.x⟩ _ rfl rfl rfl) hS12 ?_
    simp only [Act.put, sA_, s0_, sS_]
    refine callAt 14 63 rfl rfl (by kernel_rfl) (by rfl) (by kernel_rfl) (mput_any H C b m none M f.x u11.heap.size 2 [⟨f.k, f.n, tK (C.l i) f.t, x.p, f.x⟩, toDo (C.l i).a] u12 (HM.out.below L12.out (Nat.le_refl _)) (.two N12.out.box) (by have h := (HM.out.below L12.out (Nat.le_refl _)).not_box N12.out.box (by decide); have h2 := (HM.out.below L12.out (Nat.le_refl _)).not_p N12.out.box (by decide); exact ⟨h2, h.1, h.2⟩) (Nat.le_refl _) HOK.out HX.out.1 HX.out.2.1 (by have := HX.out.2.2; simp; omega) (by simp)) ?_
    rintro e u13 ⟨rfl, hG⟩
    have hS13 := hS12.go hG (HM.out.below L12.out (Nat.le_refl _)) (by intro e he; simp at he; rcases he with rfl | rfl | rfl <;> exact ⟨by simp, by simp⟩)
    have T13 := Lib.hid (hG.box T12.out ((HM.out.below L12.out (Nat.le_refl _)).not_p T12.out (by decide)) ((HM.out.below L12.out (Nat.le_refl _)).not_box T12.out (by decide)).1 ((HM.out.below L12.out (Nat.le_refl _)).not_box T12.out (by decide)).2)
    have G13 := Lib.hid (Goes.first L12.out hG)
    clear hG
    refine ⟨_, rfl, hS13, ?_⟩
    simp only [Act.put, sA_, s0_, sS_]
    refine takeAt 15 48 (.tuple #[.int .i64 (putsF C.most M f.x [⟨f.k, f.n, tK (C.l i) f.t, x.p, f.x⟩, toDo (C.l i).a]).2.1, .int .i64 (putsF C.most M f.x [⟨f.k, f.n, tK (C.l i) f.t, x.p, f.x⟩, toDo (C.l i).a]).2.2]) rfl rfl (by kernel_rfl) (by kernel_rfl) (by kernel_rfl) i_ (yields (by rfl) (fun w => by kernel_rfl)) hS13 ?_
    simp only [Act.put, sA_, s0_, sS_]
    refine takeAt 16 64 (.int .i64 (putsF C.most M f.x [⟨f.k, f.n, tK (C.l i) f.t, x.p, f.x⟩, toDo (C.l i).a]).2.1) rfl rfl (by kernel_rfl) (by kernel_rfl) (by kernel_rfl) i_ (yields (by rfl) (fun w => by kernel_rfl)) hS13 ?_
    simp only [Act.put, sA_, s0_, sS_]
    refine takeAt 17 65 (.int .i64 (putsF C.most M f.x [⟨f.k, f.n, tK (C.l i) f.t, x.p, f.x⟩, toDo (C.l i).a]).2.2) rfl rfl (by kernel_rfl) (by kernel_rfl) (by kernel_rfl) i_ (yields (by rfl) (fun w => by kernel_rfl)) hS13 ?_
    simp only [Act.put, sA_, s0_, sS_]
    refine takeAt 18 10 (.int .i64 (putsF C.most M f.x [⟨f.k, f.n, tK (C.l i) f.t, x.p, f.x⟩, toDo (C.l i).a]).2.1) rfl rfl (by kernel_rfl) (by kernel_rfl) (by kernel_rfl) i_ (yields (by rfl) (fun w => by kernel_rfl)) hS13 ?_
    simp only [Act.put, sA_, s0_, sS_]
    refine takeAt 19 11 (.int .i64 (putsF C.most M f.x [⟨f.k, f.n, tK (C.l i) f.t, x.p, f.x⟩, toDo (C.l i).a]).2.2) rfl rfl (by kernel_rfl) (by kernel_rfl) (by kernel_rfl) i_ (yields (by rfl) (fun w => by kernel_rfl)) hS13 ?_
    simp only [Act.put, sA_, s0_, sS_]
    refine wpAnyH_done (by kernel_rfl) ?_ _
    obtain ⟨r, hr⟩ : ∃ r, (putsF C.most M f.x [⟨f.k, f.n, tK (C.l i) f.t, x.p, f.x⟩, toDo (C.l i).a]) = r := ⟨_, rfl⟩
    rw [hr] at G13 EZ1 ⊢
    have V13 := Lib.hid hS13
    have hb5 := hS13.2.2.1
    clear hS9 hS10 hS11 hS12 hS13 hr e12
    obtain ⟨M1, id, z⟩ := r
    go_wp2_with (refine loadCf rfl _ rfl u1.heap.size x rfl hb5 ?_)
    refine (then_any x id _).mono ?_
    rintro e u14 ⟨rfl, hB⟩
    have V14 := Lib.hid (V13.out.call hB)
    have T14 := Lib.hid (T13.out.below hB T13.out.lt)
    have G14 := Lib.hid (G13.out.next hB)
    clear hB hb5
    go_wp2_with (refine allocCf rfl (by rfl) ?_)
    intro u15 X15
    have V15 := Lib.hid (V14.out.call X15.out.low)
    have T15 := Lib.hid (T14.out.below X15.out.low T14.out.lt)
    have G15 := Lib.hid (G14.out.next X15.out.low)
    go_wp2_with (refine putCf rfl _ _ rfl u14.heap.size (x.on id) (cfA zCf) rfl rfl (cfA_size _) X15.out.box ?_)
    intro u16 X16
    have hlo := LO.out
    have g14 := G14.out.size
    have V16 := Lib.hid (show Sv C H [(90, w.heap.size, frC f), (28, u1.heap.size, cfA x), (28, u4.heap.size, cfA (x.on f.x))] u16 from V15.out.put X15.out.box X16.out (by
     intro e he
     simp at he
     rcases he with rfl | rfl | rfl
     ·simp
     ·exact .inr (Nat.ne_of_lt V14.out.2.2.1.lt)
     ·exact .inr (Nat.ne_of_lt V14.out.2.2.2.1.lt)) (by omega))
    have T16 := Lib.hid (show BoxV 53 u16 u2.heap.size (sqA failQ) from (X16.out.other _ (Nat.ne_of_lt T14.out.lt)).trans T15.out)
    have G16 := Lib.hid (G15.out.put LO.out.1 LO.out.2.2.2.1 LO.out.2.2.2.2 g14 X16.out (fun b' m' _ hm => hm.not_box X15.out.box (by decide)))
    have Y16 := Lib.hid X16.out.box
    clear hlo g14 V13 V14 V15 T13 T14 T15 G13 G14 G15 X15 X16
    by_cases hz : z = 0
    ·subst hz
     go_wp2_with fail
     have hS17 : Sv C H [(90, w.heap.size, frC f), (28, u1.heap.size, cfA x), (28, u4.heap.size, cfA (x.on f.x))] u16.drew := V16.out.call (Below.refl _ u16).drew
     refine wp_region_held_drew (S := fun u => Sv C H [(90, w.heap.size, frC f), (28, u1.heap.size, cfA x), (28, u4.heap.size, cfA (x.on f.x))] u) (by kernel_rfl) hS17 (fun _ => ?_)
     by_cases hlt : f.t < (C.l i).mn
     ·have h4 : decide (f.t < (C.l i).mn) = true := decide_eq_true hlt
      have EZ := Lib.hid (show turnZ C M f x = (goQ (x.on id), 0, M1) by rw [EZ1.out, if_pos trivial, if_pos hlt])
      clear hlt
      refine takeAt 0 75 (.pointer (some ⟨w.heap.size, 2, none⟩)) rfl rfl (by kernel_rfl) (by kernel_rfl) (by kernel_rfl) i_ (yields (by rfl) (fun w => by kernel_rfl)) hS17 ?_
      simp only [Act.put, sA_, s0_, sS_]
      refine takeAt 1 76 (.int .i64 f.t) rfl rfl (by kernel_rfl) (by kernel_rfl) (by kernel_rfl) i_ (ldI_y w.heap.size 2 _ (fun _ h => h.2.1.get 2 rfl) rfl rfl (by rfl)) hS17 ?_
      simp only [Act.put, sA_, s0_, sS_]
      refine takeAt 2 77 (.pointer (some ⟨H.g, i * 12, none⟩)) rfl rfl (by kernel_rfl) (by kernel_rfl) (by kernel_rfl) i_ (yields (by rfl) (fun w => by kernel_rfl)) hS17 ?_
      simp only [Act.put, sA_, s0_, sS_]
      refine takeAt 3 78 (.pointer (some ⟨H.g, i * 12, none⟩)) rfl rfl (by kernel_rfl) (by kernel_rfl) (by kernel_rfl) i_ (yields (by rfl) (fun w => by kernel_rfl)) hS17 ?_
      simp only [Act.put, sA_, s0_, sS_]
      refine takeAt 4 79 (.pointer (some ⟨H.g, i * 12 + 7, none⟩)) rfl rfl (by kernel_rfl) (by kernel_rfl) (by kernel_rfl) i_ (yields (by rfl) (fun w => by kernel_rfl)) hS17 ?_
      simp only [Act.put, sA_, s0_, sS_]
      refine takeAt 5 80 (.int .i64 (C.l i).mn) rfl rfl (by kernel_rfl) (by kernel_rfl) (by kernel_rfl) i_ (ldI_y H.g (i * 12 + 7) _ (fun _ h => (h.1.node hi).2.2.2.2.2.2.2.1) rfl rfl (by rfl)) hS17 ?_
      simp only [Act.put, sA_, s0_, sS_]
      refine takeAt 6 81 (.bool true) rfl rfl (by kernel_rfl) (by kernel_rfl) (by kernel_rfl) i_ (lt_y _ _ true h4 rfl rfl rfl (by rfl)) hS17 ?_
      simp only [Act.put, sA_, s0_, sS_]
      refine takeAt 7 74 (.bool true) rfl rfl (by kernel_rfl) (by kernel_rfl) (by kernel_rfl) i_ (yields (by rfl) (fun w => by kernel_rfl)) hS17 ?_
      simp only [Act.put, sA_, s0_, sS_]
      refine wpAnyH_done (by kernel_rfl) ?_ _
      clear h4 hS17
      have hb12 : BoxV 28 u16.drew u14.heap.size (cfA (x.on id)) := Y16.out
      go_wp2_with (refine loadCf rfl _ rfl u14.heap.size (x.on id) rfl hb12 ?_)
      refine (goTo_any _ _).mono ?_
      rintro e u17 ⟨rfl, hB⟩
      have T17 := Lib.hid (show BoxV 53 u17 u2.heap.size (sqA failQ) from T16.out.below ((Below.refl _ u16).drew.trans hB) T16.out.lt)
      have G17 := Lib.hid (G16.out.next ((Below.refl _ u16).drew.trans hB))
      clear hB hb12
      go_wp2_with (refine putSq rfl _ _ rfl u2.heap.size (goQ (x.on id)) (sqA failQ) rfl rfl (sqA_size _) T17.out ?_)
      intro u18 X18
      go_wp2_with fail
      refine bodyPost_ret (resSE rfl _ (g := u2.heap.size) rfl rfl X18.out.box) rfl ⟨?_, ?_⟩
      ·rw [EZ.out]; rfl
      ·rw [EZ.out]
       exact G17.out.putSq HM.out (by have := SZ.out; omega) T17.out X18.out
     ·have h4 : decide (f.t < (C.l i).mn) = false := decide_eq_false hlt
      have EZ2 := Lib.hid (show turnZ C M f x = (if (C.l i).md = 1 then choQ (x.on f.x) (x.on id) else choQ (x.on id) (x.on f.x), 0, M1) by rw [EZ1.out, if_pos trivial, if_neg hlt])
      clear hlt
      refine takeAt 0 75 (.pointer (some ⟨w.heap.size, 2, none⟩)) rfl rfl (by kernel_rfl) (by kernel_rfl) (by kernel_rfl) i_ (yields (by rfl) (fun w => by kernel_rfl)) hS17 ?_
      simp only [Act.put, sA_, s0_, sS_]
      refine takeAt 1 76 (.int .i64 f.t) rfl rfl (by kernel_rfl) (by kernel_rfl) (by kernel_rfl) i_ (ldI_y w.heap.size 2 _ (fun _ h => h.2.1.get 2 rfl) rfl rfl (by rfl)) hS17 ?_
      simp only [Act.put, sA_, s0_, sS_]
      refine takeAt 2 77 (.pointer (some ⟨H.g, i * 12, none⟩)) rfl rfl (by kernel_rfl) (by kernel_rfl) (by kernel_rfl) i_ (yields (by rfl) (fun w => by kernel_rfl)) hS17 ?_
      simp only [Act.put, sA_, s0_, sS_]
      refine takeAt 3 78 (.pointer (some ⟨H.g, i * 12, none⟩)) rfl rfl (by kernel_rfl) (by kernel_rfl) (by kernel_rfl) i_ (yields (by rfl) (fun w => by kernel_rfl)) hS17 ?_
      simp only [Act.put, sA_, s0_, sS_]
      refine takeAt 4 79 (.pointer (some ⟨H.g, i * 12 + 7, none⟩)) rfl rfl (by kernel_rfl) (by kernel_rfl) (by kernel_rfl) i_ (yields (by rfl) (fun w => by kernel_rfl)) hS17 ?_
      simp only [Act.put, sA_, s0_, sS_]
      refine takeAt 5 80 (.int .i64 (C.l i).mn) rfl rfl (by kernel_rfl) (by kernel_rfl) (by kernel_rfl) i_ (ldI_y H.g (i * 12 + 7) _ (fun _ h => (h.1.node hi).2.2.2.2.2.2.2.1) rfl rfl (by rfl)) hS17 ?_
      simp only [Act.put, sA_, s0_, sS_]
      refine takeAt 6 81 (.bool false) rfl rfl (by kernel_rfl) (by kernel_rfl) (by kernel_rfl) i_ (lt_y _ _ false h4 rfl rfl rfl (by rfl)) hS17 ?_
      simp only [Act.put, sA_, s0_, sS_]
      refine takeAt 7 74 (.bool false) rfl rfl (by kernel_rfl) (by kernel_rfl) (by kernel_rfl) i_ (yields (by rfl) (fun w => by kernel_rfl)) hS17 ?_
      simp only [Act.put, sA_, s0_, sS_]
      refine wpAnyH_done (by kernel_rfl) ?_ _
      have hb12 : BoxV 28 u16.drew u14.heap.size (cfA (x.on id)) := Y16.out
      have hb9 := hS17.2.2.2.1
      have hmd := (hS17.1.node hi).2.2.2.2.2.2.2.2.2.1
      have T17 := Lib.hid (show BoxV 53 u16.drew u2.heap.size (sqA failQ) from T16.out)
      have G17 := Lib.hid (G16.out.next (Below.refl _ u16).drew)
      clear h4 hS17
      by_cases hd : (C.l i).md = 1
      ·rw [hd] at hmd
       have EZ := Lib.hid (show turnZ C M f x = (choQ (x.on f.x) (x.on id), 0, M1) by rw [EZ2.out, if_pos hd])
       clear hd
       go_wp2_with (first | refine loadCf rfl _ rfl u14.heap.size (x.on id) rfl hb12 ?_ | refine loadCf rfl _ rfl u4.heap.size (x.on f.x) rfl hb9 ?_ | refine lineW _ _ (by rfl) (bCho (x.on f.x) (x.on id) rfl rfl rfl) ?_ | refine putSq rfl _ _ rfl u2.heap.size (choQ (x.on f.x) (x.on id)) (sqA failQ) rfl rfl (sqA_size _) T17.out ?_)
       intro u18 X18
       go_wp2_with fail
       refine bodyPost_ret (resSE rfl _ (g := u2.heap.size) rfl rfl X18.out.box) rfl ⟨?_, ?_⟩
       ·rw [EZ.out]; rfl
       ·rw [EZ.out]
        exact G17.out.putSq HM.out (by have := SZ.out; omega) T17.out X18.out
      ·have hd2 : ((C.l i).md == 1) = false := by simpa using hd
       have EZ := Lib.hid (show turnZ C M f x = (choQ (x.on id) (x.on f.x), 0, M1) by rw [EZ2.out, if_neg hd])
       clear hd
       go_wp2_with (first | refine loadCf rfl _ rfl u14.heap.size (x.on id) rfl hb12 ?_ | refine loadCf rfl _ rfl u4.heap.size (x.on f.x) rfl hb9 ?_ | refine lineW _ _ (by rfl) (bCho (x.on id) (x.on f.x) rfl rfl rfl) ?_ | refine putSq rfl _ _ rfl u2.heap.size (choQ (x.on id) (x.on f.x)) (sqA failQ) rfl rfl (sqA_size _) T17.out ?_)
       intro u18 X18
       go_wp2_with fail
       refine bodyPost_ret (resSE rfl _ (g := u2.heap.size) rfl rfl X18.out.box) rfl ⟨?_, ?_⟩
       ·rw [EZ.out]; rfl
       ·rw [EZ.out]
        exact G17.out.putSq HM.out (by have := SZ.out; omega) T17.out X18.out
    ·have hz1 : (z != 0) = true := by simpa using hz
     have hz2 : (z == 0) = false := by simpa using hz
     have EZ := Lib.hid (show turnZ C M f x = (failQ, z, M1) by rw [EZ1.out, if_neg hz])
     clear hz
     go_wp2_with (first | refine lineW _ _ (by rfl) (bNo rfl) ?_ | refine putSq rfl _ _ rfl u2.heap.size failQ (sqA failQ) rfl rfl (sqA_size _) T16.out ?_)
     intro u18 X18
     go_wp2_with fail
     refine bodyPost_ret (resSE rfl _ (g := u2.heap.size) rfl rfl X18.out.box) rfl ⟨?_, ?_⟩
     ·rw [EZ.out]; rfl
     ·rw [EZ.out]
      exact G16.out.putSq HM.out (by have := SZ.out; omega) T16.out X18.out
end Go.Proofs.YteggpecbeagohaaGreatDoor.Stp
namespace Go.Proofs.YteggpecbeagohaaGreatDoor.Stp
open Go.RowKit
open Frm (Fr Pl frC frL frI dpI putF zF Wf mayF idF I64 BoxV ptr slc plL plC loadFr storeFr resFB getF sizeFr owns_block)
open Cap (Cp cpC zrC withZ agN agB byB)
open Ast (Nd At12 NodesAt kidsZ)
open Nai (setN hasN holdB hold_any ag_le)
section
variable {ops : Array Oper} {R : World → Prop} {a : Act} {o : Oper} {x y z : Operand} {w : World}
theorem ldCp_run (g : Nat) (c : Cf) (hg : BoxV 28 w g (cfA c)) (ho : o.op = .load 26 x) (hx : a.eval x = .pointer (some ⟨g, 2, none⟩)) : (execOp a.eval o).run Tryz.prog w = .ok (.value (.agg (cpC c.c))) w := by
 have hr : w.rangeAt g 2 (cpC c.c).toList := fun j v hv => hg.get (2 + j) (by rw [cfA, List.getElem?_toArray]; rw [Nat.add_comm]; exact hv)
 unfold execOp
 simp only [ho, hx, Instr.loadAt, Instr.sureAddr, Sem.run_bind, Sem.run_pure, Result.andThen_ok, run_loadVar_mid w g 2 26 (cpC c.c).toList _ hr Tryz.underlying26 rfl Cap.sizeCaps]
end
theorem Put.trans {T : TypeId} {g : Nat} {c c2 : Array Value} {w u v : World} (h : Put T g c w u) (k : Put T g c2 u v) : Put T g c2 w v :=
 ⟨k.box, fun B hB => (h.low B hB).trans (k.low B hB), fun j hj => (k.other j hj).trans (h.other j hj)⟩
def putMany (cs : Array Value) : Nat → List Value → Array Value
 | _, [] => cs
 | o, v :: r => putMany (cs.setIfInBounds o v) (o + 1) r
theorem box_setCells {T : TypeId} {g : Nat} : ∀ (vs : List Value) (o : Nat) (w : World) (cs : Array Value), BoxV T w g cs → Put T g (putMany cs o vs) w (w.setCells g o vs)
 | [], _, _, _, h => ⟨h, fun _ _ => Below.refl _ _, fun _ _ => rfl⟩
 | v :: r, o, _, _, h => (putOf_cell h o v).trans (box_setCells r (o + 1) _ _ (h.put o v))
theorem stCp_run (g : Nat) (x : Cf) (c : Cp) {w : World} (hg : BoxV 28 w g (cfA x)) :
  ∃ u, (∀ (o : Oper) (a : Act) (y z : Operand), o.op = .store 26 y z → a.eval y = .pointer (some ⟨g, 2, none⟩) → a.eval z = .agg (cpC c) → (execOp a.eval o).run Tryz.prog w = .ok .skip u) ∧ Put 28 g (cfA ⟨x.f, x.p, c⟩) w u := by
 have ht : w.there g 2 (cpC c).size := fun j hj => ⟨by
  obtain ⟨v, hv⟩ : ∃ v, (cfA x)[2 + j]? = some v := ⟨_, Array.getElem?_eq_getElem (by rw [cfA_size]; simp at hj; omega)⟩
  rw [hg.get (2 + j) hv]; rfl, hg.free (2 + j)⟩
 have e : putMany (cfA x) 2 (cpC c).toList = cfA ⟨x.f, x.p, c⟩ := by kernel_rfl
 refine ⟨w.setCells g 2 (cpC c).toList, fun o a y z ho hy hz => ?_, e ▸ box_setCells (cpC c).toList 2 w (cfA x) hg⟩
 unfold execOp
 simp only [ho, hy, hz, Instr.storeAt, Instr.sureAddr, Sem.run_bind, Sem.run_pure, Result.andThen_ok, run_storeVar_mid w g 2 26 (cpC c) ht Cap.sizeCaps (by simp [Value.oneCell'])]
set_option maxRecDepth 100000 in
set_option maxHeartbeats 4000000 in
theorem stop_any (H : Wh) (C : Mx) (b m : Nat) (M : List Pl) (f : Fr) (x : Cf) (w : World) (hM : Mch w H C b m none M) : Calls Tryz.prog 43 #[ptr H.p, .agg (frC f), .agg (cfA x)] w (StepRes w H C b m (doneQ, 0, M)) := by
 have HM := Lib.hid hM
 clear hM
 go_enter Tryz.func43, Tryz.ntmps43
 go_wp2_with (refine boxFr _ rfl f rfl (by rfl) ?_)
 intro u1 X1
 go_wp2_with (refine boxCf _ rfl x rfl (by rfl) ?_)
 intro u2 X2
 go_wp2_with (refine allocSq rfl (by rfl) ?_)
 intro u3 X3
 have hB : Below w.heap.size w u3 := (X1.out.low.trans (X2.out.low.mono (by have := X1.out.size; omega))).trans (X3.out.low.mono (by have := X1.out.size; have := X2.out.size; omega))
 have L3 := Lib.hid hB
 have Z := Lib.hid (show w.heap.size ≤ u2.heap.size by have := X1.out.size; have := X2.out.size; omega)
 clear hB X1 X2
 go_wp2_with (first | refine lineW _ _ (by rfl) (bK 1 (.inr rfl) rfl) ?_ | refine putSq rfl _ _ rfl u2.heap.size doneQ (sqA failQ) rfl rfl (sqA_size _) X3.out.box ?_)
 intro u4 X4
 go_wp2_with fail
 refine bodyPost_ret (resSE rfl _ (g := u2.heap.size) rfl rfl X4.out.box) rfl ⟨rfl, ?_⟩
 exact ((Goes.refl HM.out).next L3.out).putSq HM.out Z.out X3.out.box X4.out
set_option maxRecDepth 100000 in
set_option maxHeartbeats 8000000 in
theorem shut_any (H : Wh) (C : Mx) (b m : Nat) (M : List Pl) (f : Fr) (i : Nat) (x : Cf) (w : World) (hM : Mch w H C b m none M) (hfi : f.n = (i : Int)) (hi : i < C.n) :
  Calls Tryz.prog 46 #[ptr H.p, .agg (frC f), .agg (cfA x)] w (StepRes w H C b m (shutZ C f x, 0, M)) := by
 have HM := Lib.hid hM
 have LO := Lib.hid hM.low
 have EI := Lib.hid (show f.n.toNat = i by omega)
 clear hM
 go_enter Tryz.func46, Tryz.ntmps46
 go_wp2_with (refine boxFr _ rfl f rfl (by rfl) ?_)
 intro u1 X1
 go_wp2_with (refine boxCf _ rfl x rfl (by rfl) ?_)
 intro u2 X2
 go_wp2_with (refine allocSq rfl (by rfl) ?_)
 intro u3 X3
 have s1 := Lib.hid X1.out.size
 have s2 := Lib.hid X2.out.size
 have L2 := Lib.hid (show Below w.heap.size w u3 from (X1.out.low.trans (X2.out.low.mono (by have := s1.out; omega))).trans (X3.out.low.mono (by have := s1.out; have := s2.out; omega)))
 have V3 := Lib.hid (show Sv C H [(90, w.heap.size, frC f)] u3 from ⟨HM.out.rm.call L2.out, (X1.out.box.below X2.out.low (by have := s1.out; omega)).below X3.out.low (by have := s1.out; have := s2.out; omega), trivial⟩)
 have Y2 := Lib.hid (X2.out.box.below X3.out.low (by have := s2.out; omega))
 have T2 := Lib.hid X3.out.box
 have SZ := Lib.hid (And.intro s1.out (And.intro s2.out X3.out.size))
 clear s1 s2 X1 X2 X3
 go_wp2_with fail
 have L3 := Lib.hid (L2.out.trans ((Below.refl _ u3).drew.mono L2.out.size))
 have T3 := Lib.hid (show BoxV 53 u3.drew u2.heap.size (sqA failQ) from T2.out)
 have Y3 := Lib.hid (show BoxV 28 u3.drew u1.heap.size (cfA x) from Y2.out)
 have hS : (fun u => Sv C H [(90, w.heap.size, frC f)] u ∧ ∃ c, BoxV 28 u u1.heap.size (cfA ⟨x.f, x.p, c⟩)) u3.drew := ⟨V3.out.call (Below.refl _ u3).drew, x.c, Y3.out⟩
 refine wp_region_held_drew (S := (fun u => Sv C H [(90, w.heap.size, frC f)] u ∧ ∃ c, BoxV 28 u u1.heap.size (cfA ⟨x.f, x.p, c⟩))) (by kernel_rfl) hS (fun _ => ?_)
 refine takeAt 0 9 (.pointer (some ⟨u1.heap.size, 2, none⟩)) rfl rfl (by kernel_rfl) (by kernel_rfl) (by kernel_rfl) i_ (yields (by rfl) (fun w => by kernel_rfl)) hS ?_
 simp only [Act.put, sA_, s0_, sS_]
 refine takeAt 2 11 (.pointer (some ⟨H.p, 0, none⟩)) rfl rfl (by kernel_rfl) (by kernel_rfl) (by kernel_rfl) i_ (yields (by rfl) (fun w => by kernel_rfl)) hS ?_
 simp only [Act.put, sA_, s0_, sS_]
 refine takeAt 3 12 (.pointer (some ⟨H.p, 0, none⟩)) rfl rfl (by kernel_rfl) (by kernel_rfl) (by kernel_rfl) i_ (yields (by rfl) (fun w => by kernel_rfl)) hS ?_
 simp only [Act.put, sA_, s0_, sS_]
 refine takeAt 4 13 (.pointer (some ⟨H.p, 0, none⟩)) rfl rfl (by kernel_rfl) (by kernel_rfl) (by kernel_rfl) i_ (yields (by rfl) (fun w => by kernel_rfl)) hS ?_
 simp only [Act.put, sA_, s0_, sS_]
 refine takeAt 5 14 (.slice (some ⟨H.g, 0, none⟩) C.n H.cn) rfl rfl (by kernel_rfl) (by kernel_rfl) (by kernel_rfl) i_ (ldSN_y H.p 0 _ _ _ (fun _ h => h.1.1.c0) rfl rfl (by rfl)) hS ?_
 simp only [Act.put, sA_, s0_, sS_]
 refine takeAt 6 15 (.pointer (some ⟨w.heap.size, 1, none⟩)) rfl rfl (by kernel_rfl) (by kernel_rfl) (by kernel_rfl) i_ (yields (by rfl) (fun w => by kernel_rfl)) hS ?_
 simp only [Act.put, sA_, s0_, sS_]
 refine takeAt 7 16 (.int .i64 (i : Int)) rfl rfl (by kernel_rfl) (by kernel_rfl) (by kernel_rfl) i_ (ldI_y w.heap.size 1 _ (fun _ h => (h.1.2.1.get 1 rfl).trans (show some (Value.int .i64 f.n) = some (.int .i64 (i : Int)) by rw [hfi])) rfl rfl (by rfl)) hS ?_
 simp only [Act.put, sA_, s0_, sS_]
 refine takeAt 8 17 (.pointer (some ⟨H.g, i * 12, none⟩)) rfl rfl (by kernel_rfl) (by kernel_rfl) (by kernel_rfl) i_ (ixN_y0 H.g C.n H.cn i hi rfl rfl rfl (by rfl)) hS ?_
 simp only [Act.put, sA_, s0_, sS_]
 refine takeAt 9 18 (.pointer (some ⟨H.g, i * 12 + 10, none⟩)) rfl rfl (by kernel_rfl) (by kernel_rfl) (by kernel_rfl) i_ (yields (by rfl) (fun w => by kernel_rfl)) hS ?_
 simp only [Act.put, sA_, s0_, sS_]
 refine takeAt 10 19 (.int .i64 (C.l i).n) rfl rfl (by kernel_rfl) (by kernel_rfl) (by kernel_rfl) i_ (ldI_y H.g (i * 12 + 10) _ (fun _ h => (h.1.1.node hi).2.2.2.2.2.2.2.2.2.2.1) rfl rfl (by rfl)) hS ?_
 simp only [Act.put, sA_, s0_, sS_]
 refine takeAt 11 20 (.pointer (some ⟨w.heap.size, 3, none⟩)) rfl rfl (by kernel_rfl) (by kernel_rfl) (by kernel_rfl) i_ (yields (by rfl) (fun w => by kernel_rfl)) hS ?_
 simp only [Act.put, sA_, s0_, sS_]
 refine takeAt 12 21 (.int .i64 f.f) rfl rfl (by kernel_rfl) (by kernel_rfl) (by kernel_rfl) i_ (ldI_y w.heap.size 3 _ (fun _ h => h.1.2.1.get 3 rfl) rfl rfl (by rfl)) hS ?_
 simp only [Act.put, sA_, s0_, sS_]
 refine takeAt 13 22 (.pointer (some ⟨u1.heap.size, 1, none⟩)) rfl rfl (by kernel_rfl) (by kernel_rfl) (by kernel_rfl) i_ (yields (by rfl) (fun w => by kernel_rfl)) hS ?_
 simp only [Act.put, sA_, s0_, sS_]
 refine takeAt 14 23 (.int .i64 x.p) rfl rfl (by kernel_rfl) (by kernel_rfl) (by kernel_rfl) i_ (ldI_y u1.heap.size 1 _ (fun _ h => h.2.elim fun c hc => hc.get 1 (cf_get1 ⟨x.f, x.p, c⟩)) rfl rfl (by rfl)) hS ?_
 simp only [Act.put, sA_, s0_, sS_]
 refine valAt 1 10 (.agg (cpC x.c)) u3.drew rfl rfl (by kernel_rfl) (by rfl) (ldCp_run u1.heap.size x Y3.out rfl rfl) hS ?_
 simp only [Act.put, sA_, s0_, sS_]
 refine callAt 15 24 rfl rfl (by kernel_rfl) (by rfl) (by kernel_rfl) (Cap.with_any x.c (C.l i).n f.f x.p _) ?_
 rintro e u4 ⟨rfl, hB⟩
 have hS4 : (fun u => Sv C H [(90, w.heap.size, frC f)] u ∧ ∃ c, BoxV 28 u u1.heap.size (cfA ⟨x.f, x.p, c⟩)) u4 := ⟨hS.1.call hB, x.c, Y3.out.below hB Y3.out.lt⟩
 have L4 := Lib.hid (L3.out.trans (hB.mono L3.out.size))
 have T4 := Lib.hid (T3.out.below hB T3.out.lt)
 have Y4 := Lib.hid (Y3.out.below hB Y3.out.lt)
 clear hB
 refine ⟨_, rfl, hS4, ?_⟩
 simp only [Act.put, sA_, s0_, sS_]
 refine takeAt 16 8 (.tuple #[.agg (cpC (withZ x.c (C.l i).n f.f x.p).1), .int .i64 (withZ x.c (C.l i).n f.f x.p).2]) rfl rfl (by kernel_rfl) (by kernel_rfl) (by kernel_rfl) i_ (yields (by rfl) (fun w => by kernel_rfl)) hS4 ?_
 simp only [Act.put, sA_, s0_, sS_]
 refine takeAt 17 25 (.agg (cpC (withZ x.c (C.l i).n f.f x.p).1)) rfl rfl (by kernel_rfl) (by kernel_rfl) (by kernel_rfl) i_ (yields (by rfl) (fun w => by kernel_rfl)) hS4 ?_
 simp only [Act.put, sA_, s0_, sS_]
 refine takeAt 18 26 (.int .i64 (withZ x.c (C.l i).n f.f x.p).2) rfl rfl (by kernel_rfl) (by kernel_rfl) (by kernel_rfl) i_ (yields (by rfl) (fun w => by kernel_rfl)) hS4 ?_
 simp only [Act.put, sA_, s0_, sS_]
 refine takeAt 19 27 (.pointer (some ⟨u1.heap.size, 2, none⟩)) rfl rfl (by kernel_rfl) (by kernel_rfl) (by kernel_rfl) i_ (yields (by rfl) (fun w => by kernel_rfl)) hS4 ?_
 simp only [Act.put, sA_, s0_, sS_]
 obtain ⟨u5, e5, P5⟩ := stCp_run u1.heap.size x (withZ x.c (C.l i).n f.f x.p).1 Y4.out
 have hS5 : (fun u => Sv C H [(90, w.heap.size, frC f)] u ∧ ∃ c, BoxV 28 u u1.heap.size (cfA ⟨x.f, x.p, c⟩)) u5 := ⟨hS4.1.put (L := [(90, w.heap.size, frC f)]) Y4.out P5 (by intro e he; simp at he; rcases he with rfl; simp) (by have := LO.out; have := SZ.out; omega), _, P5.box⟩
 refine skipAt 20 u5 rfl rfl (by kernel_rfl) (by rfl) (e5 _ _ _ _ rfl rfl rfl) hS5 ?_
 refine wpAnyH_done (by kernel_rfl) ?_ _
 have EZ := Lib.hid (show shutZ C f x = goQ (Cf.on ⟨x.f, x.p, (withZ x.c (C.l i).n f.f x.p).1⟩ f.x) by unfold shutZ Cf.on; rw [EI.out])
 have hb5 := P5.box
 have hx4 := hS5.1.2.1.get 4 rfl
 have T5 := Lib.hid (show BoxV 53 u5 u2.heap.size (sqA failQ) from (P5.other _ (by have := SZ.out; omega)).trans T4.out)
 have L5 := Lib.hid (L4.out.trans (P5.low _ (by have := SZ.out; omega)))
 clear hS hS4 hS5 P5 e5 hfi
 go_wp2_with (refine loadCf rfl _ rfl u1.heap.size ⟨x.f, x.p, (withZ x.c (C.l i).n f.f x.p).1⟩ rfl hb5 ?_)
 refine (then_any ⟨x.f, x.p, (withZ x.c (C.l i).n f.f x.p).1⟩ f.x _).mono ?_
 rintro e u6 ⟨rfl, hB⟩
 have T6 := Lib.hid (T5.out.below hB T5.out.lt)
 have L6 := Lib.hid (L5.out.trans (hB.mono L5.out.size))
 clear hB hb5 hx4
 go_wp2_with fail
 refine (goTo_any _ _).mono ?_
 rintro e u7 ⟨rfl, hB⟩
 have T7 := Lib.hid (T6.out.below hB T6.out.lt)
 have L7 := Lib.hid (L6.out.trans (hB.mono L6.out.size))
 clear hB
 go_wp2_with (refine putSq rfl _ _ rfl u2.heap.size (goQ (Cf.on ⟨x.f, x.p, (withZ x.c (C.l i).n f.f x.p).1⟩ f.x)) (sqA failQ) rfl rfl (sqA_size _) T7.out ?_)
 intro u8 X8
 go_wp2_with fail
 refine bodyPost_ret (resSE rfl _ (g := u2.heap.size) rfl rfl X8.out.box) rfl ⟨?_, ?_⟩
 ·rw [EZ.out]; rfl
 ·exact ((Goes.refl HM.out).next L7.out).putSq HM.out (by have := SZ.out; omega) T7.out X8.out
end Go.Proofs.YteggpecbeagohaaGreatDoor.Stp
