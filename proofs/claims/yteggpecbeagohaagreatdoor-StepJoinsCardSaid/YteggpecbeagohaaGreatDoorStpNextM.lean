import Derived.Test.YteggpecbeagohaaGreatDoorStpTurnM
import Derived.Test.YteggpecbeagohaaGreatDoorCapWithM
import Derived.Test.YteggpecbeagohaaGreatDoorMz
namespace Go.Proofs.YteggpecbeagohaaGreatDoor.Stp
open Go.RowKit
open Frm (Fr Pl frC frL frI dpI putF zF Wf mayF idF I64 BoxV ptr slc plL plC loadFr storeFr resFB getF sizeFr owns_block)
open Cap (Cp cpC zrC withZ agN agB byB)
open Ast (Nd At12 NodesAt kidsZ)
open Nai (setN hasN holdB hold_any ag_le)
section
variable {ops : Array Oper} {R : World → Prop} {a : Act} {o : Oper} {x y z : Operand} {w : World}
theorem le_y (p q : Int) (b : Bool) (h : decide (p ≤ q) = b) (ho : o.op = .binOp .leq 3 x y 3) (hx : a.eval x = .int .i64 p) (hy : a.eval y = .int .i64 q) (hw : Region.wanted o (yielded ops a.tmps) = true) : YieldsIf Tryz.prog ops R o (.bool b) a := by
 refine Or.inl ⟨hw, fun u _ => ?_⟩
 unfold execOp
 simp only [ho, hx, hy]
 go_simp
theorem lenS_y (A : Option Addr) (n c : Nat) {i : Nat} (ho : o.op = .call { callee := .builtin .len, args := #[.tmp i], argTypes := #[41] }) (hx : a.tmps[i]?.getD undef = .slice A n c) (hw : Region.wanted o (yielded ops a.tmps) = true) : YieldsIf Tryz.prog ops R o (.int .i64 (n : Int)) a := by
 refine Or.inl ⟨hw, fun u _ => ?_⟩
 unfold execOp
 simp only [ho]
 go_simp
end
def Fok (C : Mx) (f : Fr) : Prop := f = zF ∨ FOk C f
set_option maxRecDepth 100000 in
set_option maxHeartbeats 8000000 in
theorem mayC_any (H : Wh) (C : Mx) (f : Fr) (z : Int) (w : World) (hR : Rm C H w) (hT : TOk C) (hF : Fok C f) :
  Calls Tryz.prog 29 #[ptr H.p, .agg (frC f), .int .i64 z] w fun e w' => e = .returned (.bool (mayC C f z)) ∧ Below w.heap.size w w' := by
 have HP := Lib.hid (fun u hu => isPlace_any C H z u hu hT.sz)
 have HR := Lib.hid hR
 obtain ⟨i, hfi, hi⟩ : ∃ i : Nat, f.n = (i : Int) ∧ i < C.n := by
  rcases hF with e | h
  ·exact ⟨0, by rw [e]; rfl, hT.n0⟩
  ·exact ⟨f.n.toNat, by have := h.n; omega, by have := h.n; omega⟩
 have EI := Lib.hid (show f.n.toNat = i by omega)
 have hn1 := hT.n1
 have n1 : (C.n : Int) ≤ 500 := by omega
 have HF := Lib.hid hF
 have LI := Lib.hid (show f.n < C.n by omega)
 clear hR hT hF hn1
 go_enter Tryz.func29, Tryz.ntmps29
 go_wp2_with (refine boxFr _ rfl f rfl (by rfl) ?_)
 intro u1 X1
 go_wp2_with fail
 refine (HP.out u1 (HR.out.call X1.out.low)).mono ?_
 rintro e u2 ⟨rfl, rfl⟩
 have V1 := Lib.hid (show Sv C H [(90, w.heap.size, frC f)] u1 from ⟨HR.out.call X1.out.low, X1.out.box, trivial⟩)
 have L1 := Lib.hid X1.out.low
 clear X1 HP
 by_cases hz : 0 ≤ z ∧ z ≤ C.s.size
 ·rw [decide_eq_true hz]
  have HZ := Lib.hid hz
  clear hz
  have hlt : decide ((i : Int) < (C.n : Int)) = true := decide_eq_true (by omega)
  go_wp2_with fail
  have hS : Sv C H [(90, w.heap.size, frC f)] u1.drew := V1.out.call (Below.refl _ u1).drew
  refine wp_region_held_drew (S := fun u => Sv C H [(90, w.heap.size, frC f)] u) (by kernel_rfl) hS (fun _ => ?_)
  refine takeAt 0 12 (.pointer (some ⟨w.heap.size, 1, none⟩)) rfl rfl (by kernel_rfl) (by kernel_rfl) (by kernel_rfl) i_ (yields (by rfl) (fun w => by kernel_rfl)) hS ?_
  simp only [Act.put, sA_, s0_, sS_]
  refine takeAt 1 13 (.int .i64 (i : Int)) rfl rfl (by kernel_rfl) (by kernel_rfl) (by kernel_rfl) i_ (ldI_y w.heap.size 1 _ (fun _ h => (h.2.1.get 1 rfl).trans (show some (Value.int .i64 f.n) = some (.int .i64 (i : Int)) by rw [hfi])) rfl rfl (by rfl)) hS ?_
  simp only [Act.put, sA_, s0_, sS_]
  refine takeAt 2 14 (.pointer (some ⟨H.p, 0, none⟩)) rfl rfl (by kernel_rfl) (by kernel_rfl) (by kernel_rfl) i_ (yields (by rfl) (fun w => by kernel_rfl)) hS ?_
  simp only [Act.put, sA_, s0_, sS_]
  refine takeAt 3 15 (.pointer (some ⟨H.p, 0, none⟩)) rfl rfl (by kernel_rfl) (by kernel_rfl) (by kernel_rfl) i_ (yields (by rfl) (fun w => by kernel_rfl)) hS ?_
  simp only [Act.put, sA_, s0_, sS_]
  refine takeAt 4 16 (.pointer (some ⟨H.p, 0, none⟩)) rfl rfl (by kernel_rfl) (by kernel_rfl) (by kernel_rfl) i_ (yields (by rfl) (fun w => by kernel_rfl)) hS ?_
  simp only [Act.put, sA_, s0_, sS_]
  refine takeAt 5 17 (.slice (some ⟨H.g, 0, none⟩) C.n H.cn) rfl rfl (by kernel_rfl) (by kernel_rfl) (by kernel_rfl) i_ (ldSN_y H.p 0 _ _ _ (fun _ h => h.1.c0) rfl rfl (by rfl)) hS ?_
  simp only [Act.put, sA_, s0_, sS_]
  refine takeAt 6 18 (.int .i64 (C.n : Int)) rfl rfl (by kernel_rfl) (by kernel_rfl) (by kernel_rfl) i_ (lenS_y _ C.n H.cn rfl rfl (by rfl)) hS ?_
  simp only [Act.put, sA_, s0_, sS_]
  refine takeAt 7 19 (.bool true) rfl rfl (by kernel_rfl) (by kernel_rfl) (by kernel_rfl) i_ (lt_y _ _ true hlt rfl rfl rfl (by rfl)) hS ?_
  simp only [Act.put, sA_, s0_, sS_]
  refine takeAt 8 7 (.bool true) rfl rfl (by kernel_rfl) (by kernel_rfl) (by kernel_rfl) i_ (yields (by rfl) (fun w => by kernel_rfl)) hS ?_
  simp only [Act.put, sA_, s0_, sS_]
  refine wpAnyH_done (by kernel_rfl) ?_ _
  clear hlt
  have hk4 := hS.2.1.get 0 rfl
  have hfk : f.k = 0 ∨ f.k = 1 ∨ f.k = 2 ∧ (C.l i).k = 10 ∨ f.k = 3 ∧ (C.l i).k = 11 := by
   rcases HF.out with e | h
   ·exact .inl (by rw [e]; rfl)
   ·have hh := h.k
    rw [EI.out] at hh
    rcases hh with h | h | h
    ·exact .inr (.inl h)
    ·exact .inr (.inr (.inl ⟨h.1, h.2.1⟩))
    ·exact .inr (.inr (.inr h))
  have L2 := Lib.hid (L1.out.trans ((Below.refl _ u1).drew.mono L1.out.size))
  rcases hfk with e | e | ⟨e, hkk⟩ | ⟨e, hkk⟩
  ·have EZ := Lib.hid (show mayC C f z = true from decide_eq_true ⟨HZ.out.1, HZ.out.2, fun q => by omega, fun q => by omega, fun q => by omega⟩)
   replace hk4 : u1.drew.cell? ⟨w.heap.size, 0, none⟩ = some (.int .i64 0) := hk4.trans (show some (Value.int .i64 f.k) = _ by rw [e])
   clear e hS hfi
   go_wp2_with fail
   go_ret
   exact ⟨congrArg (fun b => Ending.returned (.bool b)) EZ.out.symm, L2.out⟩
  ·have EZ := Lib.hid (show mayC C f z = true from decide_eq_true ⟨HZ.out.1, HZ.out.2, fun _ => LI.out, fun q => by omega, fun q => by omega⟩)
   replace hk4 : u1.drew.cell? ⟨w.heap.size, 0, none⟩ = some (.int .i64 1) := hk4.trans (show some (Value.int .i64 f.k) = _ by rw [e])
   clear e hS hfi
   go_wp2_with fail
   go_ret
   exact ⟨congrArg (fun b => Ending.returned (.bool b)) EZ.out.symm, L2.out⟩
  ·obtain ⟨bb, hle⟩ : ∃ bb, decide (f.f ≤ z) = bb := ⟨_, rfl⟩
   have EZ := Lib.hid (show mayC C f z = bb by rw [← hle]; unfold mayC; rw [EI.out]; exact decide_eq_decide.2 ⟨fun q => (q.2.2.2.1 e).2.2, fun q => ⟨HZ.out.1, HZ.out.2, fun q2 => by omega, fun _ => ⟨LI.out, hkk, q⟩, fun q2 => by omega⟩⟩)
   replace hk4 : u1.drew.cell? ⟨w.heap.size, 0, none⟩ = some (.int .i64 2) := hk4.trans (show some (Value.int .i64 f.k) = _ by rw [e])
   clear e
   go_wp2_with fail
   have hS : Sv C H [(90, w.heap.size, frC f)] u1.drew.drew := V1.out.call (Below.refl _ u1).drew.drew
   refine wp_region_held_drew (S := fun u => Sv C H [(90, w.heap.size, frC f)] u) (by kernel_rfl) hS (fun _ => ?_)
   refine takeAt 0 27 (.bool true) rfl rfl (by kernel_rfl) (by kernel_rfl) (by kernel_rfl) i_ (yields (by rfl) (fun w => by kernel_rfl)) hS ?_
   simp only [Act.put, sA_, s0_, sS_]
   refine takeAt 1 28 (.bool true) rfl rfl (by kernel_rfl) (by kernel_rfl) (by kernel_rfl) i_ (yields (by rfl) (fun w => by kernel_rfl)) hS ?_
   simp only [Act.put, sA_, s0_, sS_]
   refine takeAt 2 29 (.pointer (some ⟨H.p, 0, none⟩)) rfl rfl (by kernel_rfl) (by kernel_rfl) (by kernel_rfl) i_ (yields (by rfl) (fun w => by kernel_rfl)) hS ?_
   simp only [Act.put, sA_, s0_, sS_]
   refine takeAt 3 30 (.pointer (some ⟨H.p, 0, none⟩)) rfl rfl (by kernel_rfl) (by kernel_rfl) (by kernel_rfl) i_ (yields (by rfl) (fun w => by kernel_rfl)) hS ?_
   simp only [Act.put, sA_, s0_, sS_]
   refine takeAt 4 31 (.pointer (some ⟨H.p, 0, none⟩)) rfl rfl (by kernel_rfl) (by kernel_rfl) (by kernel_rfl) i_ (yields (by rfl) (fun w => by kernel_rfl)) hS ?_
   simp only [Act.put, sA_, s0_, sS_]
   refine takeAt 5 32 (.slice (some ⟨H.g, 0, none⟩) C.n H.cn) rfl rfl (by kernel_rfl) (by kernel_rfl) (by kernel_rfl) i_ (ldSN_y H.p 0 _ _ _ (fun _ h => h.1.c0) rfl rfl (by rfl)) hS ?_
   simp only [Act.put, sA_, s0_, sS_]
   refine takeAt 6 33 (.pointer (some ⟨w.heap.size, 1, none⟩)) rfl rfl (by kernel_rfl) (by kernel_rfl) (by kernel_rfl) i_ (yields (by rfl) (fun w => by kernel_rfl)) hS ?_
   simp only [Act.put, sA_, s0_, sS_]
   refine takeAt 7 34 (.int .i64 (i : Int)) rfl rfl (by kernel_rfl) (by kernel_rfl) (by kernel_rfl) i_ (ldI_y w.heap.size 1 _ (fun _ h => (h.2.1.get 1 rfl).trans (show some (Value.int .i64 f.n) = some (.int .i64 (i : Int)) by rw [hfi])) rfl rfl (by rfl)) hS ?_
   simp only [Act.put, sA_, s0_, sS_]
   refine takeAt 8 35 (.pointer (some ⟨H.g, i * 12, none⟩)) rfl rfl (by kernel_rfl) (by kernel_rfl) (by kernel_rfl) i_ (ixN_y0 H.g C.n H.cn i hi rfl rfl rfl (by rfl)) hS ?_
   simp only [Act.put, sA_, s0_, sS_]
   refine takeAt 9 36 (.pointer (some ⟨H.g, i * 12, none⟩)) rfl rfl (by kernel_rfl) (by kernel_rfl) (by kernel_rfl) i_ (yields (by rfl) (fun w => by kernel_rfl)) hS ?_
   simp only [Act.put, sA_, s0_, sS_]
   refine takeAt 10 37 (.int .i64 10) rfl rfl (by kernel_rfl) (by kernel_rfl) (by kernel_rfl) i_ (ldI_y H.g (i * 12) _ (fun _ h => (h.1.node hi).1.trans (by rw [hkk])) rfl rfl (by rfl)) hS ?_
   simp only [Act.put, sA_, s0_, sS_]
   refine takeAt 11 38 (.bool true) rfl rfl (by kernel_rfl) (by kernel_rfl) (by kernel_rfl) i_ (eqK_y _ _ true rfl rfl rfl rfl (by rfl)) hS ?_
   simp only [Act.put, sA_, s0_, sS_]
   refine takeAt 12 39 (.bool true) rfl rfl (by kernel_rfl) (by kernel_rfl) (by kernel_rfl) i_ (yields (by rfl) (fun w => by kernel_rfl)) hS ?_
   simp only [Act.put, sA_, s0_, sS_]
   refine takeAt 13 40 (.bool true) rfl rfl (by kernel_rfl) (by kernel_rfl) (by kernel_rfl) i_ (yields (by rfl) (fun w => by kernel_rfl)) hS ?_
   simp only [Act.put, sA_, s0_, sS_]
   refine takeAt 14 41 (.pointer (some ⟨w.heap.size, 3, none⟩)) rfl rfl (by kernel_rfl) (by kernel_rfl) (by kernel_rfl) i_ (yields (by rfl) (fun w => by kernel_rfl)) hS ?_
   simp only [Act.put, sA_, s0_, sS_]
   refine takeAt 15 42 (.int .i64 f.f) rfl rfl (by kernel_rfl) (by kernel_rfl) (by kernel_rfl) i_ (ldI_y w.heap.size 3 _ (fun _ h => h.2.1.get 3 rfl) rfl rfl (by rfl)) hS ?_
   simp only [Act.put, sA_, s0_, sS_]
   refine takeAt 16 43 (.int .i64 z) rfl rfl (by kernel_rfl) (by kernel_rfl) (by kernel_rfl) i_ (yields (by rfl) (fun w => by kernel_rfl)) hS ?_
   simp only [Act.put, sA_, s0_, sS_]
   refine takeAt 17 44 (.bool bb) rfl rfl (by kernel_rfl) (by kernel_rfl) (by kernel_rfl) i_ (le_y _ _ bb hle rfl rfl rfl (by rfl)) hS ?_
   simp only [Act.put, sA_, s0_, sS_]
   refine takeAt 18 45 (.bool bb) rfl rfl (by kernel_rfl) (by kernel_rfl) (by kernel_rfl) i_ (yields (by rfl) (fun w => by kernel_rfl)) hS ?_
   simp only [Act.put, sA_, s0_, sS_]
   refine takeAt 19 6 (.bool bb) rfl rfl (by kernel_rfl) (by kernel_rfl) (by kernel_rfl) i_ (yields (by rfl) (fun w => by kernel_rfl)) hS ?_
   simp only [Act.put, sA_, s0_, sS_]
   refine wpAnyH_done (by kernel_rfl) ?_ _
   clear hS hfi hle hkk hk4
   go_wp2_with fail
   go_ret
   exact ⟨congrArg (fun b => Ending.returned (.bool b)) EZ.out.symm, L1.out.trans ((Below.refl _ u1).drew.drew.mono L1.out.size)⟩
  ·obtain ⟨bb, hle⟩ : ∃ bb, decide (f.f ≤ z) = bb := ⟨_, rfl⟩
   have EZ := Lib.hid (show mayC C f z = bb by rw [← hle]; unfold mayC; rw [EI.out]; exact decide_eq_decide.2 ⟨fun q => (q.2.2.2.2 e).2.2, fun q => ⟨HZ.out.1, HZ.out.2, fun q2 => by omega, fun q2 => by omega, fun _ => ⟨LI.out, hkk, q⟩⟩⟩)
   replace hk4 : u1.drew.cell? ⟨w.heap.size, 0, none⟩ = some (.int .i64 3) := hk4.trans (show some (Value.int .i64 f.k) = _ by rw [e])
   clear e
   go_wp2_with fail
   have hS : Sv C H [(90, w.heap.size, frC f)] u1.drew.drew := V1.out.call (Below.refl _ u1).drew.drew
   refine wp_region_held_drew (S := fun u => Sv C H [(90, w.heap.size, frC f)] u) (by kernel_rfl) hS (fun _ => ?_)
   refine takeAt 0 48 (.bool true) rfl rfl (by kernel_rfl) (by kernel_rfl) (by kernel_rfl) i_ (yields (by rfl) (fun w => by kernel_rfl)) hS ?_
   simp only [Act.put, sA_, s0_, sS_]
   refine takeAt 1 49 (.bool true) rfl rfl (by kernel_rfl) (by kernel_rfl) (by kernel_rfl) i_ (yields (by rfl) (fun w => by kernel_rfl)) hS ?_
   simp only [Act.put, sA_, s0_, sS_]
   refine takeAt 2 50 (.pointer (some ⟨H.p, 0, none⟩)) rfl rfl (by kernel_rfl) (by kernel_rfl) (by kernel_rfl) i_ (yields (by rfl) (fun w => by kernel_rfl)) hS ?_
   simp only [Act.put, sA_, s0_, sS_]
   refine takeAt 3 51 (.pointer (some ⟨H.p, 0, none⟩)) rfl rfl (by kernel_rfl) (by kernel_rfl) (by kernel_rfl) i_ (yields (by rfl) (fun w => by kernel_rfl)) hS ?_
   simp only [Act.put, sA_, s0_, sS_]
   refine takeAt 4 52 (.pointer (some ⟨H.p, 0, none⟩)) rfl rfl (by kernel_rfl) (by kernel_rfl) (by kernel_rfl) i_ (yields (by rfl) (fun w => by kernel_rfl)) hS ?_
   simp only [Act.put, sA_, s0_, sS_]
   refine takeAt 5 53 (.slice (some ⟨H.g, 0, none⟩) C.n H.cn) rfl rfl (by kernel_rfl) (by kernel_rfl) (by kernel_rfl) i_ (ldSN_y H.p 0 _ _ _ (fun _ h => h.1.c0) rfl rfl (by rfl)) hS ?_
   simp only [Act.put, sA_, s0_, sS_]
   refine takeAt 6 54 (.pointer (some ⟨w.heap.size, 1, none⟩)) rfl rfl (by kernel_rfl) (by kernel_rfl) (by kernel_rfl) i_ (yields (by rfl) (fun w => by kernel_rfl)) hS ?_
   simp only [Act.put, sA_, s0_, sS_]
   refine takeAt 7 55 (.int .i64 (i : Int)) rfl rfl (by kernel_rfl) (by kernel_rfl) (by kernel_rfl) i_ (ldI_y w.heap.size 1 _ (fun _ h => (h.2.1.get 1 rfl).trans (show some (Value.int .i64 f.n) = some (.int .i64 (i : Int)) by rw [hfi])) rfl rfl (by rfl)) hS ?_
   simp only [Act.put, sA_, s0_, sS_]
   refine takeAt 8 56 (.pointer (some ⟨H.g, i * 12, none⟩)) rfl rfl (by kernel_rfl) (by kernel_rfl) (by kernel_rfl) i_ (ixN_y0 H.g C.n H.cn i hi rfl rfl rfl (by rfl)) hS ?_
   simp only [Act.put, sA_, s0_, sS_]
   refine takeAt 9 57 (.pointer (some ⟨H.g, i * 12, none⟩)) rfl rfl (by kernel_rfl) (by kernel_rfl) (by kernel_rfl) i_ (yields (by rfl) (fun w => by kernel_rfl)) hS ?_
   simp only [Act.put, sA_, s0_, sS_]
   refine takeAt 10 58 (.int .i64 11) rfl rfl (by kernel_rfl) (by kernel_rfl) (by kernel_rfl) i_ (ldI_y H.g (i * 12) _ (fun _ h => (h.1.node hi).1.trans (by rw [hkk])) rfl rfl (by rfl)) hS ?_
   simp only [Act.put, sA_, s0_, sS_]
   refine takeAt 11 59 (.bool true) rfl rfl (by kernel_rfl) (by kernel_rfl) (by kernel_rfl) i_ (eqK_y _ _ true rfl rfl rfl rfl (by rfl)) hS ?_
   simp only [Act.put, sA_, s0_, sS_]
   refine takeAt 12 60 (.bool true) rfl rfl (by kernel_rfl) (by kernel_rfl) (by kernel_rfl) i_ (yields (by rfl) (fun w => by kernel_rfl)) hS ?_
   simp only [Act.put, sA_, s0_, sS_]
   refine takeAt 13 61 (.bool true) rfl rfl (by kernel_rfl) (by kernel_rfl) (by kernel_rfl) i_ (yields (by rfl) (fun w => by kernel_rfl)) hS ?_
   simp only [Act.put, sA_, s0_, sS_]
   refine takeAt 14 62 (.pointer (some ⟨w.heap.size, 3, none⟩)) rfl rfl (by kernel_rfl) (by kernel_rfl) (by kernel_rfl) i_ (yields (by rfl) (fun w => by kernel_rfl)) hS ?_
   simp only [Act.put, sA_, s0_, sS_]
   refine takeAt 15 63 (.int .i64 f.f) rfl rfl (by kernel_rfl) (by kernel_rfl) (by kernel_rfl) i_ (ldI_y w.heap.size 3 _ (fun _ h => h.2.1.get 3 rfl) rfl rfl (by rfl)) hS ?_
   simp only [Act.put, sA_, s0_, sS_]
   refine takeAt 16 64 (.int .i64 z) rfl rfl (by kernel_rfl) (by kernel_rfl) (by kernel_rfl) i_ (yields (by rfl) (fun w => by kernel_rfl)) hS ?_
   simp only [Act.put, sA_, s0_, sS_]
   refine takeAt 17 65 (.bool bb) rfl rfl (by kernel_rfl) (by kernel_rfl) (by kernel_rfl) i_ (le_y _ _ bb hle rfl rfl rfl (by rfl)) hS ?_
   simp only [Act.put, sA_, s0_, sS_]
   refine takeAt 18 66 (.bool bb) rfl rfl (by kernel_rfl) (by kernel_rfl) (by kernel_rfl) i_ (yields (by rfl) (fun w => by kernel_rfl)) hS ?_
   simp only [Act.put, sA_, s0_, sS_]
   refine takeAt 19 6 (.bool bb) rfl rfl (by kernel_rfl) (by kernel_rfl) (by kernel_rfl) i_ (yields (by rfl) (fun w => by kernel_rfl)) hS ?_
   simp only [Act.put, sA_, s0_, sS_]
   refine wpAnyH_done (by kernel_rfl) ?_ _
   clear hS hfi hle hkk hk4
   go_wp2_with fail
   go_ret
   exact ⟨congrArg (fun b => Ending.returned (.bool b)) EZ.out.symm, L1.out.trans ((Below.refl _ u1).drew.drew.mono L1.out.size)⟩
 ·rw [decide_eq_false hz]
  have EZ := Lib.hid (show mayC C f z = false from decide_eq_false (fun q => hz ⟨q.1, q.2.1⟩))
  clear hz
  go_wp2_with fail
  go_ret
  exact ⟨congrArg (fun b => Ending.returned (.bool b)) EZ.out.symm, L1.out⟩
abbrev fnV (n : FuncId) : Value := .func (.func n) #[] #[]
abbrev doV : Array Value := #[fnV 43, fnV 44, fnV 45, fnV 46]
theorem sizeDo : (Tryz.prog.info? 97).map (·.size) = some 4 := by kernel_rfl
theorem putDo {ops : Array Oper} {rest : List Oper} {o : Oper} {a : Act} {w : World} {Q : Exit → Act → World → Prop} (hgd : o.guard = none) (x y : Operand) (ho : o.op = .store 97 x y) (g : Nat) (cs : Array Value) (hx : a.eval x = .pointer (some ⟨g, 0, none⟩)) (hy : a.eval y = .agg doV) (hs : cs.size = 4) (hg : BoxV 97 w g cs)
  (h : ∀ u, Hid (Put 97 g doV w u) → wpList Tryz.prog ops Q rest (a.put o.dst undef) u) : wpList Tryz.prog ops Q (o :: rest) a w := by
 refine wpList_store_row hgd 97 x y ho g _ hx hy _ _ hg sizeDo (by rw [hs]; rfl) (by simp [Value.oneCell']) ?_
 exact h _ (Lib.hid ⟨setRow_heap w g _ _ _ _ hg, fun B hB => (Below.refl _ w).trans ⟨rfl, rfl, rfl, by simp, fun k hk => setRow_other w g k _ (by omega)⟩, fun k hk => setRow_other w g k _ hk⟩)
theorem resDo {fn : Func} {p : Tmp} (h : fn.results = #[.cell p 97]) (tmps : Array Value) {w : World} {g : Nat} (hp : tmps.getD p undef = .pointer (some ⟨g, 0, none⟩)) (hg : BoxV 97 w g doV) :
  (results fn tmps).run Tryz.prog w = .ok (.agg doV) w := by
 have hp' : tmps[p]?.getD undef = .pointer (some ⟨g, 0, none⟩) := by simpa using hp
 have hl := run_loadVar_row w g _ 97 _ _ _ hg Tryz.underlying97 rfl sizeDo
 simp [results, h, hp', asAddr, hl]
set_option maxRecDepth 100000 in
set_option maxHeartbeats 2000000 in
theorem doings_any (w : World) : Calls Tryz.prog 30 #[] w fun e w' => e = .returned (.agg doV) ∧ Below w.heap.size w w' := by
 have HZ := Lib.hid (BoxV.new (T := 97) w #[.nilFunc, .nilFunc, .nilFunc, .nilFunc])
 have HB := Lib.hid (show Below w.heap.size w (w.alloc (.cells #[.nilFunc, .nilFunc, .nilFunc, .nilFunc] 97)) from (Below.refl _ w).alloc (Nat.le_refl _) _)
 go_enter Tryz.func30, Tryz.ntmps30
 go_wp2_with (refine putDo rfl _ _ rfl w.heap.size _ rfl rfl rfl HZ.out ?_)
 intro u X
 go_wp2_with fail
 refine bodyPost_ret (resDo rfl _ (g := w.heap.size) rfl X.out.box) rfl ⟨rfl, ?_⟩
 exact HB.out.trans (X.out.low _ (Nat.le_refl _))
set_option maxRecDepth 100000 in
set_option maxHeartbeats 8000000 in
theorem next_any (hLib : Cap.LibA) (H : Wh) (C : Mx) (b m : Nat) (M : List Pl) (x : Cf) (w : World) (hM : Mch w H C b m none M) (hT : TOk C) (hwd : ∀ j, j < C.n → (C.l j).k = 1 → WdsN (C.l j)) (hF : FrsOk C M) (hl : M.length ≤ 900000) :
  Calls Tryz.prog 13 #[ptr H.p, .agg (cfA x)] w (StepRes w H C b m (nextZ C M x)) := by
 have HM := Lib.hid hM
 have LO := Lib.hid hM.low
 have HT := Lib.hid hT
 have HWD := Lib.hid hwd
 have HFS := Lib.hid hF
 have HL := Lib.hid hl
 have HLB := Lib.hid hLib
 clear hM hT hwd hF hl
 go_enter Tryz.func13, Tryz.ntmps13
 go_wp2_with (refine boxCf _ rfl x rfl (by rfl) ?_)
 intro u1 X1
 go_wp2_with (refine allocSq rfl (by rfl) ?_)
 intro u2 X2
 have s1 := Lib.hid X1.out.size
 have L2 := Lib.hid (show Below w.heap.size w u2 from X1.out.low.trans (X2.out.low.mono (by have := s1.out; omega)))
 have V2 := Lib.hid (show Sv C H [(28, w.heap.size, cfA x)] u2 from ⟨HM.out.rm.call L2.out, X1.out.box.below X2.out.low (by have := s1.out; omega), trivial⟩)
 have T2 := Lib.hid X2.out.box
 have SZ := Lib.hid (And.intro s1.out X2.out.size)
 clear s1 X1 X2
 go_wp2_with fail
 have hS : Sv C H [(28, w.heap.size, cfA x)] u2.drew := V2.out.call (Below.refl _ u2).drew
 have LD := Lib.hid (L2.out.trans ((Below.refl _ u2).drew.mono L2.out.size))
 refine wp_region_held_drew (S := fun u => Sv C H [(28, w.heap.size, cfA x)] u) (by kernel_rfl) hS (fun _ => ?_)
 refine takeAt 0 9 (.pointer (some ⟨H.p, 0, none⟩)) rfl rfl (by kernel_rfl) (by kernel_rfl) (by kernel_rfl) i_ (yields (by rfl) (fun w => by kernel_rfl)) hS ?_
 simp only [Act.put, sA_, s0_, sS_]
 refine takeAt 1 10 (.pointer (some ⟨H.p, 0, none⟩)) rfl rfl (by kernel_rfl) (by kernel_rfl) (by kernel_rfl) i_ (yields (by rfl) (fun w => by kernel_rfl)) hS ?_
 simp only [Act.put, sA_, s0_, sS_]
 refine takeAt 2 11 (.pointer (some ⟨H.p, 3, none⟩)) rfl rfl (by kernel_rfl) (by kernel_rfl) (by kernel_rfl) i_ (yields (by rfl) (fun w => by kernel_rfl)) hS ?_
 simp only [Act.put, sA_, s0_, sS_]
 refine takeAt 3 12 (.pointer (some ⟨w.heap.size, 0, none⟩)) rfl rfl (by kernel_rfl) (by kernel_rfl) (by kernel_rfl) i_ (yields (by rfl) (fun w => by kernel_rfl)) hS ?_
 simp only [Act.put, sA_, s0_, sS_]
 refine takeAt 4 13 (.int .i64 x.f) rfl rfl (by kernel_rfl) (by kernel_rfl) (by kernel_rfl) i_ (ldI_y w.heap.size 0 _ (fun _ h => h.2.1.get 0 (cf_get0 x)) rfl rfl (by rfl)) hS ?_
 simp only [Act.put, sA_, s0_, sS_]
 obtain ⟨u9, e9⟩ : ∃ v, u2.drew.alloc (.cells (frC zF) 90) = v := ⟨_, rfl⟩
 have N9 := Lib.hid (show New 90 (frC zF) u2.drew u9 from e9 ▸ New.of _ _ _)
 refine wpAnyH_ready (rs := [5, 9]) (by kernel_rfl) (by simp) (AllReadyH.cons rfl (callStep 5 14 rfl (by rfl) (by kernel_rfl) (get_any H.p b m (H.mq C) none M x.f u2.drew (HM.out.below LD.out (Nat.le_refl _)).ms) ?_) (AllReadyH.cons rfl (valStep 9 6 (.pointer (some ⟨u2.drew.heap.size, 0, none⟩)) u9 rfl (by rfl) (by rw [← e9]; kernel_rfl) (hS.call N9.out.low) ?_) AllReadyH.nil))
 case' refine_1 =>
  rintro e u3 ⟨rfl, hB⟩
  have hS3 := hS.call hB
  have L3 := Lib.hid (LD.out.trans (hB.mono LD.out.size))
  have T3 := Lib.hid (show BoxV 53 u3 u1.heap.size (sqA failQ) from T2.out.below ((Below.refl _ u2).drew.trans hB) T2.out.lt)
  refine ⟨_, rfl, hS3, ?_⟩
  simp only [Act.put, sA_, s0_, sS_]
  refine takeAt 6 8 (.tuple #[.agg (frC (getF M x.f)), .bool (decide (0 ≤ x.f ∧ x.f < M.length))]) rfl rfl (by kernel_rfl) (by kernel_rfl) (by kernel_rfl) i_ (yields (by rfl) (fun w => by kernel_rfl)) hS3 ?_
  simp only [Act.put, sA_, s0_, sS_]
  refine takeAt 7 15 (.agg (frC (getF M x.f))) rfl rfl (by kernel_rfl) (by kernel_rfl) (by kernel_rfl) i_ (yields (by rfl) (fun w => by kernel_rfl)) hS3 ?_
  simp only [Act.put, sA_, s0_, sS_]
  refine takeAt 8 16 (.bool (decide (0 ≤ x.f ∧ x.f < M.length))) rfl rfl (by kernel_rfl) (by kernel_rfl) (by kernel_rfl) i_ (yields (by rfl) (fun w => by kernel_rfl)) hS3 ?_
  simp only [Act.put, sA_, s0_, sS_]
  obtain ⟨u4, e4⟩ : ∃ v, u3.alloc (.cells (frC zF) 90) = v := ⟨_, rfl⟩
  have N4 := Lib.hid (show New 90 (frC zF) u3 u4 from e4 ▸ New.of _ _ _)
  have hS4 := hS3.call N4.out.low
  have F4 := Lib.hid N4.out.box
  refine valAt 9 6 (.pointer (some ⟨u3.heap.size, 0, none⟩)) u4 rfl rfl (by kernel_rfl) (by rfl) (by rw [← e4]; kernel_rfl) hS4 ?_
  simp only [Act.put, sA_, s0_, sS_]
  have P5 := putOf_row F4.out (frC (getF M x.f))
  obtain ⟨u5, e5⟩ : ∃ v, u4.setRow u3.heap.size (frC (getF M x.f)) = v := ⟨_, rfl⟩
  rw [e5] at P5
  have hS5 : Sv C H [(28, w.heap.size, cfA x)] u5 := hS4.put F4.out P5 (by intro e he; simp at he; rcases he with rfl; simp) (by have := LO.out; have := LD.out.size; have := L3.out.size; omega)
  refine rowAt 10 90 u3.heap.size (frC zF) (frC (getF M x.f)) rfl rfl rfl (by kernel_rfl) (by rfl) rfl rfl F4.out sizeFr rfl (by simp [Value.oneCell']) (by rw [e5]; exact hS5) ?_
  rw [e5]
  refine takeAt 11 7 (.bool (decide (0 ≤ x.f ∧ x.f < M.length))) rfl rfl (by kernel_rfl) (by kernel_rfl) (by kernel_rfl) i_ (yields (by rfl) (fun w => by kernel_rfl)) hS5 ?_
  simp only [Act.put, sA_, s0_, sS_]
  refine wpAnyH_done (by kernel_rfl) ?_ _
  generalize hg : u3.heap.size = gF
  rw [hg] at P5
  have F5 := Lib.hid P5.box
  have L5 := Lib.hid (show Below w.heap.size w u5 from (L3.out.trans (N4.out.low.mono L3.out.size)).trans (P5.low _ (by rw [← hg]; exact L3.out.size)))
  have T5 := Lib.hid (show BoxV 53 u5 u1.heap.size (sqA failQ) from (P5.other _ (by rw [← hg]; exact Nat.ne_of_lt T3.out.lt)).trans (T3.out.below N4.out.low T3.out.lt))
  have S5 := Lib.hid hS5
  clear hS hS3 hS4 hS5 P5 e5 e4 hg hB e9
 case' refine_2 =>
  have hS3 : Sv C H [(28, w.heap.size, cfA x)] u9 := hS.call N9.out.low
  have F3 := Lib.hid N9.out.box
  have L3 := Lib.hid (LD.out.trans (N9.out.low.mono LD.out.size))
  simp only [Act.put, sA_, s0_, sS_]
  refine callAt 5 14 rfl rfl (by kernel_rfl) (by rfl) (by kernel_rfl) (get_any H.p b m (H.mq C) none M x.f u9 (HM.out.below L3.out (Nat.le_refl _)).ms) ?_
  rintro e u4 ⟨rfl, hB⟩
  have hS4 := hS3.call hB
  have F4 := Lib.hid (F3.out.below hB F3.out.lt)
  have LB := Lib.hid hB
  clear hB
  refine ⟨_, rfl, hS4, ?_⟩
  simp only [Act.put, sA_, s0_, sS_]
  refine takeAt 6 8 (.tuple #[.agg (frC (getF M x.f)), .bool (decide (0 ≤ x.f ∧ x.f < M.length))]) rfl rfl (by kernel_rfl) (by kernel_rfl) (by kernel_rfl) i_ (yields (by rfl) (fun w => by kernel_rfl)) hS4 ?_
  simp only [Act.put, sA_, s0_, sS_]
  refine takeAt 7 15 (.agg (frC (getF M x.f))) rfl rfl (by kernel_rfl) (by kernel_rfl) (by kernel_rfl) i_ (yields (by rfl) (fun w => by kernel_rfl)) hS4 ?_
  simp only [Act.put, sA_, s0_, sS_]
  refine takeAt 8 16 (.bool (decide (0 ≤ x.f ∧ x.f < M.length))) rfl rfl (by kernel_rfl) (by kernel_rfl) (by kernel_rfl) i_ (yields (by rfl) (fun w => by kernel_rfl)) hS4 ?_
  simp only [Act.put, sA_, s0_, sS_]
  have P5 := putOf_row F4.out (frC (getF M x.f))
  obtain ⟨u5, e5⟩ : ∃ v, u4.setRow u2.drew.heap.size (frC (getF M x.f)) = v := ⟨_, rfl⟩
  rw [e5] at P5
  have hS5 : Sv C H [(28, w.heap.size, cfA x)] u5 := hS4.put F4.out P5 (by intro e he; simp at he; rcases he with rfl; simp) (by have := LO.out; have := LD.out.size; have := L3.out.size; omega)
  refine rowAt 10 90 u2.drew.heap.size (frC zF) (frC (getF M x.f)) rfl rfl rfl (by kernel_rfl) (by rfl) rfl rfl F4.out sizeFr rfl (by simp [Value.oneCell']) (by rw [e5]; exact hS5) ?_
  rw [e5]
  refine takeAt 11 7 (.bool (decide (0 ≤ x.f ∧ x.f < M.length))) rfl rfl (by kernel_rfl) (by kernel_rfl) (by kernel_rfl) i_ (yields (by rfl) (fun w => by kernel_rfl)) hS5 ?_
  simp only [Act.put, sA_, s0_, sS_]
  refine wpAnyH_done (by kernel_rfl) ?_ _
  generalize hg : u2.drew.heap.size = gF
  rw [hg] at P5
  have F5 := Lib.hid P5.box
  have L5 := Lib.hid (show Below w.heap.size w u5 from (L3.out.trans (LB.out.mono L3.out.size)).trans (P5.low _ (by rw [← hg]; exact LD.out.size)))
  have T5 := Lib.hid (show BoxV 53 u5 u1.heap.size (sqA failQ) from (P5.other _ (by rw [← hg]; exact Nat.ne_of_lt T2.out.lt)).trans ((T2.out.below ((Below.refl _ u2).drew.trans N9.out.low) T2.out.lt).below LB.out (Nat.lt_of_lt_of_le T2.out.lt N9.out.low.size)))
  have S5 := Lib.hid hS5
  clear hS hS3 hS4 hS5 P5 e5 hg e9
 all_goals
  obtain ⟨F, hFx⟩ : ∃ F, F = getF M x.f := ⟨_, rfl⟩
  rw [← hFx] at F5 ⊢
  have hFr : True := trivial
  have V5 := Lib.hid (show Sv C H [(28, w.heap.size, cfA x), (90, gF, frC F)] u5 from ⟨S5.out.1, S5.out.2.1, F5.out, trivial⟩)
  have HFF := Lib.hid (And.intro hFr hFx)
  cases hb : decide (0 ≤ x.f ∧ x.f < M.length) with
  | false =>
    have EZ := Lib.hid (show nextZ C M x = (failQ, 1, M) by
     unfold nextZ
     rw [if_neg (fun q => of_decide_eq_false hb ⟨q.1, q.2.1⟩)])
    clear hb hFr hFx
    go_wp2_with (first | refine lineW _ _ (by rfl) (bNo rfl) ?_ | refine putSq rfl _ _ rfl u1.heap.size failQ (sqA failQ) rfl rfl (sqA_size _) T5.out ?_)
    intro u7 X7
    go_wp2_with fail
    refine bodyPost_ret (resSE rfl _ (g := u1.heap.size) rfl rfl X7.out.box) rfl ⟨?_, ?_⟩
    ·rw [EZ.out]; rfl
    ·rw [EZ.out]
     exact ((Goes.refl HM.out).next L5.out).putSq HM.out (by have := SZ.out; omega) T5.out X7.out
  | true =>
    have hq := of_decide_eq_true hb
    have HQ := Lib.hid hq
    have FI := Lib.hid (show F = frI M x.f.toNat by rw [HFF.out.2]; unfold getF; rw [if_pos hq])
    have FO := Lib.hid (show Fok C F by
     rw [FI.out]
     by_cases h0 : 1 ≤ x.f.toNat
     ·exact .inr (HFS.out _ h0 (by omega))
     ·exact .inl (by rw [show x.f.toNat = 0 by omega]; exact HM.out.ms.wf.zero.1))
    have hx1 := V5.out.2.1.get 1 (cf_get1 x)
    have g0 := V5.out.2.2.1.get 0 rfl
    have g1 := V5.out.2.2.1.get 1 rfl
    have g2 := V5.out.2.2.1.get 2 rfl
    have g3 := V5.out.2.2.1.get 3 rfl
    have g4 := V5.out.2.2.1.get 4 rfl
    clear hb hq hFr hFx
    go_wp2_with fail
    refine (mayC_any H C F x.p _ V5.out.1 HT.out FO.out).mono ?_
    rintro e u6 ⟨rfl, hB⟩
    have L6 := Lib.hid (L5.out.trans (hB.mono L5.out.size))
    have T6 := Lib.hid (T5.out.below hB T5.out.lt)
    have V6 := Lib.hid (V5.out.call hB)
    clear hB hx1 g0 g1 g2 g3 g4
    cases hm : mayC C F x.p with
    | false =>
      have EZ := Lib.hid (show nextZ C M x = (failQ, 1, M) by
       unfold nextZ
       rw [if_neg (fun q => by rw [← FI.out, hm] at q; exact absurd q.2.2 (by decide))])
      clear hm
      go_wp2_with (first | refine lineW _ _ (by rfl) (bNo rfl) ?_ | refine putSq rfl _ _ rfl u1.heap.size failQ (sqA failQ) rfl rfl (sqA_size _) T6.out ?_)
      intro u7 X7
      go_wp2_with fail
      refine bodyPost_ret (resSE rfl _ (g := u1.heap.size) rfl rfl X7.out.box) rfl ⟨?_, ?_⟩
      ·rw [EZ.out]; rfl
      ·rw [EZ.out]
       exact ((Goes.refl HM.out).next L6.out).putSq HM.out (by have := SZ.out; omega) T6.out X7.out
    | true =>
      have hcond : 0 ≤ x.f ∧ x.f < M.length ∧ mayC C (frI M x.f.toNat) x.p = true := ⟨HQ.out.1, HQ.out.2, by rw [← FI.out]; exact hm⟩
      have EN := Lib.hid (show nextZ C M x = if F.k = 0 then (doneQ, 0, M) else if F.k = 1 then doZ C M F x else if F.k = 2 then turnZ C M F x else (shutZ C F x, 0, M) by unfold nextZ; rw [if_pos hcond, ← FI.out])
      have MP := Lib.hid (of_decide_eq_true (show decide _ = true from hm))
      clear hm hcond
      go_wp2_with fail
      have hS7 : Sv C H [(28, w.heap.size, cfA x), (90, gF, frC F)] u6.drew := V6.out.call (Below.refl _ u6).drew
      have L7 := Lib.hid (L6.out.trans ((Below.refl _ u6).drew.mono L6.out.size))
      have T7 := Lib.hid (show BoxV 53 u6.drew u1.heap.size (sqA failQ) from T6.out)
      refine wp_region_held_drew (S := fun u => Sv C H [(28, w.heap.size, cfA x), (90, gF, frC F)] u) (by kernel_rfl) hS7 (fun _ => ?_)
      have hFk : F.k = 0 ∨ FOk C F ∧ ∃ i : Nat, F.n = (i : Int) ∧ i < C.n ∧ (F.k = 1 ∨ F.k = 2 ∧ (C.l i).k = 10 ∨ F.k = 3) ∧ 0 ≤ F.x ∧ F.x < M.length := by
       rcases FO.out with e | h
       ·exact .inl (by rw [e]; rfl)
       ·by_cases h0 : 1 ≤ x.f.toNat
        ·have hx := Frm.mayF_x (HM.out.ms.wf.may _ h0 (by have := HQ.out; omega)).1
         rw [← FI.out] at hx
         refine .inr ⟨h, F.n.toNat, by have := h.n; omega, by have := h.n; omega, ?_, hx.1, by have := HQ.out; omega⟩
         rcases h.k with e | e | e
         ·exact .inl e
         ·exact .inr (.inl ⟨e.1, e.2.1⟩)
         ·exact .inr (.inr e.1)
        ·exact .inl (by rw [FI.out, show x.f.toNat = 0 by omega, HM.out.ms.wf.zero.1]; rfl)
      rcases hFk with ek | ⟨hFO, i, hfi, hi, hk3, hx0, hx1⟩
      ·have EZ := Lib.hid (show nextZ C M x = (doneQ, 0, M) by rw [EN.out, if_pos ek])
       refine takeAt 1 29 (.pointer (some ⟨gF, 0, none⟩)) rfl rfl (by kernel_rfl) (by kernel_rfl) (by kernel_rfl) i_ (yields (by rfl) (fun w => by kernel_rfl)) hS7 ?_
       simp only [Act.put, sA_, s0_, sS_]
       refine takeAt 2 30 (.int .i64 0) rfl rfl (by kernel_rfl) (by kernel_rfl) (by kernel_rfl) i_ (ldI_y gF 0 _ (fun _ h => (h.2.2.1.get 0 rfl).trans (show some (Value.int .i64 F.k) = _ by rw [ek])) rfl rfl (by rfl)) hS7 ?_
       simp only [Act.put, sA_, s0_, sS_]
       refine takeAt 4 32 (.pointer (some ⟨H.p, 0, none⟩)) rfl rfl (by kernel_rfl) (by kernel_rfl) (by kernel_rfl) i_ (yields (by rfl) (fun w => by kernel_rfl)) hS7 ?_
       simp only [Act.put, sA_, s0_, sS_]
       refine takeAt 5 33 (.agg (frC F)) rfl rfl (by kernel_rfl) (by kernel_rfl) (by kernel_rfl) i_ (ldFr_y gF F (fun _ h => h.2.2.1) rfl rfl (by rfl)) hS7 ?_
       simp only [Act.put, sA_, s0_, sS_]
       refine takeAt 6 34 (.agg (cfA x)) rfl rfl (by kernel_rfl) (by kernel_rfl) (by kernel_rfl) i_ (ldCf_y w.heap.size x (fun _ h => h.2.1) rfl rfl (by rfl)) hS7 ?_
       simp only [Act.put, sA_, s0_, sS_]
       refine callAt 0 28 rfl rfl (by kernel_rfl) (by rfl) (by kernel_rfl) (doings_any _) ?_
       rintro e u8 ⟨rfl, hB⟩
       have hS8 := hS7.call hB
       have L8 := Lib.hid (L7.out.trans (hB.mono L7.out.size))
       have T8 := Lib.hid (T7.out.below hB T7.out.lt)
       clear hB
       refine ⟨_, rfl, hS8, ?_⟩
       simp only [Act.put, sA_, s0_, sS_]
       refine takeAt 3 31 (fnV 43) rfl rfl (by kernel_rfl) (by kernel_rfl) (by kernel_rfl) i_ (yields (by rfl) (fun w => by kernel_rfl)) hS8 ?_
       simp only [Act.put, sA_, s0_, sS_]
       refine callAt 7 35 rfl rfl (by kernel_rfl) (by rfl) (by kernel_rfl) (stop_any H C b m M F x u8 (HM.out.below L8.out (Nat.le_refl _))) ?_
       rintro e u9 ⟨rfl, hG⟩
       have hS9 := hS8.go hG (HM.out.below L8.out (Nat.le_refl _)) (by intro e he; simp at he; rcases he with rfl | rfl <;> exact ⟨by simp, by simp⟩)
       have T9 := Lib.hid (hG.box T8.out ((HM.out.below L8.out (Nat.le_refl _)).not_p T8.out (by decide)) ((HM.out.below L8.out (Nat.le_refl _)).not_box T8.out (by decide)).1 ((HM.out.below L8.out (Nat.le_refl _)).not_box T8.out (by decide)).2)
       have G9 := Lib.hid (Goes.first L8.out hG)
       clear hG
       refine ⟨_, rfl, hS9, ?_⟩
       simp only [Act.put, sA_, s0_, sS_]
       refine takeAt 8 36 (.agg (sqA ((doneQ, 0, M) : Ans).1)) rfl rfl (by kernel_rfl) (by kernel_rfl) (by kernel_rfl) i_ (yields (by rfl) (fun w => by kernel_rfl)) hS9 ?_
       simp only [Act.put, sA_, s0_, sS_]
       refine takeAt 9 37 (.int .i64 ((doneQ, 0, M) : Ans).2.1) rfl rfl (by kernel_rfl) (by kernel_rfl) (by kernel_rfl) i_ (yields (by rfl) (fun w => by kernel_rfl)) hS9 ?_
       simp only [Act.put, sA_, s0_, sS_]
       have P10 := putOf_row T9.out (sqA ((doneQ, 0, M) : Ans).1)
       have hS10 : Sv C H [(28, w.heap.size, cfA x), (90, gF, frC F)] _ := hS9.put T9.out P10 (by intro e he; simp at he; rcases he with rfl | rfl <;> simp) (by have := LO.out; have := SZ.out; omega)
       have PX := Lib.hid P10
       refine rowAt 10 53 u1.heap.size (sqA failQ) (sqA ((doneQ, 0, M) : Ans).1) rfl rfl rfl (by kernel_rfl) (by rfl) rfl rfl T9.out (by rw [sqA_size]; exact sizeSq) (by rw [sqA_size, sqA_size]) (sqA_one _) hS10 ?_
       refine takeAt 11 5 (.int .i64 ((doneQ, 0, M) : Ans).2.1) rfl rfl (by kernel_rfl) (by kernel_rfl) (by kernel_rfl) i_ (yields (by rfl) (fun w => by kernel_rfl)) hS10 ?_
       simp only [Act.put, sA_, s0_, sS_]
       refine wpAnyH_done (by kernel_rfl) ?_ _
       clear hS7 hS8 hS9 hS10
       go_wp2_with fail
       refine bodyPost_ret (resSE rfl _ (g := u1.heap.size) rfl rfl PX.out.box) rfl ⟨?_, ?_⟩
       ·rw [EZ.out]; rfl
       ·rw [EZ.out]
        exact G9.out.putSq HM.out (by have := SZ.out; omega) T9.out PX.out
      ·rcases hk3 with ek | ⟨ek, hk10⟩ | ek
       ·have EZ := Lib.hid (show nextZ C M x = doZ C M F x by rw [EN.out, if_neg (by rw [ek]; decide), if_pos ek])
        refine takeAt 1 29 (.pointer (some ⟨gF, 0, none⟩)) rfl rfl (by kernel_rfl) (by kernel_rfl) (by kernel_rfl) i_ (yields (by rfl) (fun w => by kernel_rfl)) hS7 ?_
        simp only [Act.put, sA_, s0_, sS_]
        refine takeAt 2 30 (.int .i64 1) rfl rfl (by kernel_rfl) (by kernel_rfl) (by kernel_rfl) i_ (ldI_y gF 0 _ (fun _ h => (h.2.2.1.get 0 rfl).trans (show some (Value.int .i64 F.k) = _ by rw [ek])) rfl rfl (by rfl)) hS7 ?_
        simp only [Act.put, sA_, s0_, sS_]
        refine takeAt 4 32 (.pointer (some ⟨H.p, 0, none⟩)) rfl rfl (by kernel_rfl) (by kernel_rfl) (by kernel_rfl) i_ (yields (by rfl) (fun w => by kernel_rfl)) hS7 ?_
        simp only [Act.put, sA_, s0_, sS_]
        refine takeAt 5 33 (.agg (frC F)) rfl rfl (by kernel_rfl) (by kernel_rfl) (by kernel_rfl) i_ (ldFr_y gF F (fun _ h => h.2.2.1) rfl rfl (by rfl)) hS7 ?_
        simp only [Act.put, sA_, s0_, sS_]
        refine takeAt 6 34 (.agg (cfA x)) rfl rfl (by kernel_rfl) (by kernel_rfl) (by kernel_rfl) i_ (ldCf_y w.heap.size x (fun _ h => h.2.1) rfl rfl (by rfl)) hS7 ?_
        simp only [Act.put, sA_, s0_, sS_]
        refine callAt 0 28 rfl rfl (by kernel_rfl) (by rfl) (by kernel_rfl) (doings_any _) ?_
        rintro e u8 ⟨rfl, hB⟩
        have hS8 := hS7.call hB
        have L8 := Lib.hid (L7.out.trans (hB.mono L7.out.size))
        have T8 := Lib.hid (T7.out.below hB T7.out.lt)
        clear hB
        refine ⟨_, rfl, hS8, ?_⟩
        simp only [Act.put, sA_, s0_, sS_]
        refine takeAt 3 31 (fnV 44) rfl rfl (by kernel_rfl) (by kernel_rfl) (by kernel_rfl) i_ (yields (by rfl) (fun w => by kernel_rfl)) hS8 ?_
        simp only [Act.put, sA_, s0_, sS_]
        refine callAt 7 35 rfl rfl (by kernel_rfl) (by rfl) (by kernel_rfl) (do_any HLB.out H C b m M F i x u8 (HM.out.below L8.out (Nat.le_refl _)) HT.out HWD.out hfi hi hx0 hx1 ⟨MP.out.1, MP.out.2.1⟩ HL.out) ?_
        rintro e u9 ⟨rfl, hG⟩
        have hS9 := hS8.go hG (HM.out.below L8.out (Nat.le_refl _)) (by intro e he; simp at he; rcases he with rfl | rfl <;> exact ⟨by simp, by simp⟩)
        have T9 := Lib.hid (hG.box T8.out ((HM.out.below L8.out (Nat.le_refl _)).not_p T8.out (by decide)) ((HM.out.below L8.out (Nat.le_refl _)).not_box T8.out (by decide)).1 ((HM.out.below L8.out (Nat.le_refl _)).not_box T8.out (by decide)).2)
        have G9 := Lib.hid (Goes.first L8.out hG)
        clear hG
        refine ⟨_, rfl, hS9, ?_⟩
        simp only [Act.put, sA_, s0_, sS_]
        refine takeAt 8 36 (.agg (sqA (doZ C M F x).1)) rfl rfl (by kernel_rfl) (by kernel_rfl) (by kernel_rfl) i_ (yields (by rfl) (fun w => by kernel_rfl)) hS9 ?_
        simp only [Act.put, sA_, s0_, sS_]
        refine takeAt 9 37 (.int .i64 (doZ C M F x).2.1) rfl rfl (by kernel_rfl) (by kernel_rfl) (by kernel_rfl) i_ (yields (by rfl) (fun w => by kernel_rfl)) hS9 ?_
        simp only [Act.put, sA_, s0_, sS_]
        have P10 := putOf_row T9.out (sqA (doZ C M F x).1)
        have hS10 : Sv C H [(28, w.heap.size, cfA x), (90, gF, frC F)] _ := hS9.put T9.out P10 (by intro e he; simp at he; rcases he with rfl | rfl <;> simp) (by have := LO.out; have := SZ.out; omega)
        have PX := Lib.hid P10
        refine rowAt 10 53 u1.heap.size (sqA failQ) (sqA (doZ C M F x).1) rfl rfl rfl (by kernel_rfl) (by rfl) rfl rfl T9.out (by rw [sqA_size]; exact sizeSq) (by rw [sqA_size, sqA_size]) (sqA_one _) hS10 ?_
        refine takeAt 11 5 (.int .i64 (doZ C M F x).2.1) rfl rfl (by kernel_rfl) (by kernel_rfl) (by kernel_rfl) i_ (yields (by rfl) (fun w => by kernel_rfl)) hS10 ?_
        simp only [Act.put, sA_, s0_, sS_]
        refine wpAnyH_done (by kernel_rfl) ?_ _
        clear hS7 hS8 hS9 hS10
        go_wp2_with fail
        refine bodyPost_ret (resSE rfl _ (g := u1.heap.size) rfl rfl PX.out.box) rfl ⟨?_, ?_⟩
        ·rw [EZ.out]; rfl
        ·rw [EZ.out]
         exact G9.out.putSq HM.out (by have := SZ.out; omega) T9.out PX.out
       ·have EZ := Lib.hid (show nextZ C M x = turnZ C M F x by rw [EN.out, if_neg (by rw [ek]; decide), if_neg (by rw [ek]; decide), if_pos ek])
        refine takeAt 1 29 (.pointer (some ⟨gF, 0, none⟩)) rfl rfl (by kernel_rfl) (by kernel_rfl) (by kernel_rfl) i_ (yields (by rfl) (fun w => by kernel_rfl)) hS7 ?_
        simp only [Act.put, sA_, s0_, sS_]
        refine takeAt 2 30 (.int .i64 2) rfl rfl (by kernel_rfl) (by kernel_rfl) (by kernel_rfl) i_ (ldI_y gF 0 _ (fun _ h => (h.2.2.1.get 0 rfl).trans (show some (Value.int .i64 F.k) = _ by rw [ek])) rfl rfl (by rfl)) hS7 ?_
        simp only [Act.put, sA_, s0_, sS_]
        refine takeAt 4 32 (.pointer (some ⟨H.p, 0, none⟩)) rfl rfl (by kernel_rfl) (by kernel_rfl) (by kernel_rfl) i_ (yields (by rfl) (fun w => by kernel_rfl)) hS7 ?_
        simp only [Act.put, sA_, s0_, sS_]
        refine takeAt 5 33 (.agg (frC F)) rfl rfl (by kernel_rfl) (by kernel_rfl) (by kernel_rfl) i_ (ldFr_y gF F (fun _ h => h.2.2.1) rfl rfl (by rfl)) hS7 ?_
        simp only [Act.put, sA_, s0_, sS_]
        refine takeAt 6 34 (.agg (cfA x)) rfl rfl (by kernel_rfl) (by kernel_rfl) (by kernel_rfl) i_ (ldCf_y w.heap.size x (fun _ h => h.2.1) rfl rfl (by rfl)) hS7 ?_
        simp only [Act.put, sA_, s0_, sS_]
        refine callAt 0 28 rfl rfl (by kernel_rfl) (by rfl) (by kernel_rfl) (doings_any _) ?_
        rintro e u8 ⟨rfl, hB⟩
        have hS8 := hS7.call hB
        have L8 := Lib.hid (L7.out.trans (hB.mono L7.out.size))
        have T8 := Lib.hid (T7.out.below hB T7.out.lt)
        clear hB
        refine ⟨_, rfl, hS8, ?_⟩
        simp only [Act.put, sA_, s0_, sS_]
        refine takeAt 3 31 (fnV 45) rfl rfl (by kernel_rfl) (by kernel_rfl) (by kernel_rfl) i_ (yields (by rfl) (fun w => by kernel_rfl)) hS8 ?_
        simp only [Act.put, sA_, s0_, sS_]
        refine callAt 7 35 rfl rfl (by kernel_rfl) (by rfl) (by kernel_rfl) (turn_any H C b m M F i x u8 (HM.out.below L8.out (Nat.le_refl _)) HT.out hFO ek hk10 hfi hi hx0 hx1 ⟨MP.out.1, MP.out.2.1⟩ HL.out) ?_
        rintro e u9 ⟨rfl, hG⟩
        have hS9 := hS8.go hG (HM.out.below L8.out (Nat.le_refl _)) (by intro e he; simp at he; rcases he with rfl | rfl <;> exact ⟨by simp, by simp⟩)
        have T9 := Lib.hid (hG.box T8.out ((HM.out.below L8.out (Nat.le_refl _)).not_p T8.out (by decide)) ((HM.out.below L8.out (Nat.le_refl _)).not_box T8.out (by decide)).1 ((HM.out.below L8.out (Nat.le_refl _)).not_box T8.out (by decide)).2)
        have G9 := Lib.hid (Goes.first L8.out hG)
        clear hG
        refine ⟨_, rfl, hS9, ?_⟩
        simp only [Act.put, sA_, s0_, sS_]
        refine takeAt 8 36 (.agg (sqA (turnZ C M F x).1)) rfl rfl (by kernel_rfl) (by kernel_rfl) (by kernel_rfl) i_ (yields (by rfl) (fun w => by kernel_rfl)) hS9 ?_
        simp only [Act.put, sA_, s0_, sS_]
        refine takeAt 9 37 (.int .i64 (turnZ C M F x).2.1) rfl rfl (by kernel_rfl) (by kernel_rfl) (by kernel_rfl) i_ (yields (by rfl) (fun w => by kernel_rfl)) hS9 ?_
        simp only [Act.put, sA_, s0_, sS_]
        have P10 := putOf_row T9.out (sqA (turnZ C M F x).1)
        have hS10 : Sv C H [(28, w.heap.size, cfA x), (90, gF, frC F)] _ := hS9.put T9.out P10 (by intro e he; simp at he; rcases he with rfl | rfl <;> simp) (by have := LO.out; have := SZ.out; omega)
        have PX := Lib.hid P10
        refine rowAt 10 53 u1.heap.size (sqA failQ) (sqA (turnZ C M F x).1) rfl rfl rfl (by kernel_rfl) (by rfl) rfl rfl T9.out (by rw [sqA_size]; exact sizeSq) (by rw [sqA_size, sqA_size]) (sqA_one _) hS10 ?_
        refine takeAt 11 5 (.int .i64 (turnZ C M F x).2.1) rfl rfl (by kernel_rfl) (by kernel_rfl) (by kernel_rfl) i_ (yields (by rfl) (fun w => by kernel_rfl)) hS10 ?_
        simp only [Act.put, sA_, s0_, sS_]
        refine wpAnyH_done (by kernel_rfl) ?_ _
        clear hS7 hS8 hS9 hS10
        go_wp2_with fail
        refine bodyPost_ret (resSE rfl _ (g := u1.heap.size) rfl rfl PX.out.box) rfl ⟨?_, ?_⟩
        ·rw [EZ.out]; rfl
        ·rw [EZ.out]
         exact G9.out.putSq HM.out (by have := SZ.out; omega) T9.out PX.out
       ·have EZ := Lib.hid (show nextZ C M x = (shutZ C F x, 0, M) by rw [EN.out, if_neg (by rw [ek]; decide), if_neg (by rw [ek]; decide), if_neg (by rw [ek]; decide)])
        refine takeAt 1 29 (.pointer (some ⟨gF, 0, none⟩)) rfl rfl (by kernel_rfl) (by kernel_rfl) (by kernel_rfl) i_ (yields (by rfl) (fun w => by kernel_rfl)) hS7 ?_
        simp only [Act.put, sA_, s0_, sS_]
        refine takeAt 2 30 (.int .i64 3) rfl rfl (by kernel_rfl) (by kernel_rfl) (by kernel_rfl) i_ (ldI_y gF 0 _ (fun _ h => (h.2.2.1.get 0 rfl).trans (show some (Value.int .i64 F.k) = _ by rw [ek])) rfl rfl (by rfl)) hS7 ?_
        simp only [Act.put, sA_, s0_, sS_]
        refine takeAt 4 32 (.pointer (some ⟨H.p, 0, none⟩)) rfl rfl (by kernel_rfl) (by kernel_rfl) (by kernel_rfl) i_ (yields (by rfl) (fun w => by kernel_rfl)) hS7 ?_
        simp only [Act.put, sA_, s0_, sS_]
        refine takeAt 5 33 (.agg (frC F)) rfl rfl (by kernel_rfl) (by kernel_rfl) (by kernel_rfl) i_ (ldFr_y gF F (fun _ h => h.2.2.1) rfl rfl (by rfl)) hS7 ?_
        simp only [Act.put, sA_, s0_, sS_]
        refine takeAt 6 34 (.agg (cfA x)) rfl rfl (by kernel_rfl) (by kernel_rfl) (by kernel_rfl) i_ (ldCf_y w.heap.size x (fun _ h => h.2.1) rfl rfl (by rfl)) hS7 ?_
        simp only [Act.put, sA_, s0_, sS_]
        refine callAt 0 28 rfl rfl (by kernel_rfl) (by rfl) (by kernel_rfl) (doings_any _) ?_
        rintro e u8 ⟨rfl, hB⟩
        have hS8 := hS7.call hB
        have L8 := Lib.hid (L7.out.trans (hB.mono L7.out.size))
        have T8 := Lib.hid (T7.out.below hB T7.out.lt)
        clear hB
        refine ⟨_, rfl, hS8, ?_⟩
        simp only [Act.put, sA_, s0_, sS_]
        refine takeAt 3 31 (fnV 46) rfl rfl (by kernel_rfl) (by kernel_rfl) (by kernel_rfl) i_ (yields (by rfl) (fun w => by kernel_rfl)) hS8 ?_
        simp only [Act.put, sA_, s0_, sS_]
        refine callAt 7 35 rfl rfl (by kernel_rfl) (by rfl) (by kernel_rfl) (shut_any H C b m M F i x u8 (HM.out.below L8.out (Nat.le_refl _)) hfi hi) ?_
        rintro e u9 ⟨rfl, hG⟩
        have hS9 := hS8.go hG (HM.out.below L8.out (Nat.le_refl _)) (by intro e he; simp at he; rcases he with rfl | rfl <;> exact ⟨by simp, by simp⟩)
        have T9 := Lib.hid (hG.box T8.out ((HM.out.below L8.out (Nat.le_refl _)).not_p T8.out (by decide)) ((HM.out.below L8.out (Nat.le_refl _)).not_box T8.out (by decide)).1 ((HM.out.below L8.out (Nat.le_refl _)).not_box T8.out (by decide)).2)
        have G9 := Lib.hid (Goes.first L8.out hG)
        clear hG
        refine ⟨_, rfl, hS9, ?_⟩
        simp only [Act.put, sA_, s0_, sS_]
        refine takeAt 8 36 (.agg (sqA ((shutZ C F x, 0, M) : Ans).1)) rfl rfl (by kernel_rfl) (by kernel_rfl) (by kernel_rfl) i_ (yields (by rfl) (fun w => by kernel_rfl)) hS9 ?_
        simp only [Act.put, sA_, s0_, sS_]
        refine takeAt 9 37 (.int .i64 ((shutZ C F x, 0, M) : Ans).2.1) rfl rfl (by kernel_rfl) (by kernel_rfl) (by kernel_rfl) i_ (yields (by rfl) (fun w => by kernel_rfl)) hS9 ?_
        simp only [Act.put, sA_, s0_, sS_]
        have P10 := putOf_row T9.out (sqA ((shutZ C F x, 0, M) : Ans).1)
        have hS10 : Sv C H [(28, w.heap.size, cfA x), (90, gF, frC F)] _ := hS9.put T9.out P10 (by intro e he; simp at he; rcases he with rfl | rfl <;> simp) (by have := LO.out; have := SZ.out; omega)
        have PX := Lib.hid P10
        refine rowAt 10 53 u1.heap.size (sqA failQ) (sqA ((shutZ C F x, 0, M) : Ans).1) rfl rfl rfl (by kernel_rfl) (by rfl) rfl rfl T9.out (by rw [sqA_size]; exact sizeSq) (by rw [sqA_size, sqA_size]) (sqA_one _) hS10 ?_
        refine takeAt 11 5 (.int .i64 ((shutZ C F x, 0, M) : Ans).2.1) rfl rfl (by kernel_rfl) (by kernel_rfl) (by kernel_rfl) i_ (yields (by rfl) (fun w => by kernel_rfl)) hS10 ?_
        simp only [Act.put, sA_, s0_, sS_]
        refine wpAnyH_done (by kernel_rfl) ?_ _
        clear hS7 hS8 hS9 hS10
        go_wp2_with fail
        refine bodyPost_ret (resSE rfl _ (g := u1.heap.size) rfl rfl PX.out.box) rfl ⟨?_, ?_⟩
        ·rw [EZ.out]; rfl
        ·rw [EZ.out]
         exact G9.out.putSq HM.out (by have := SZ.out; omega) T9.out PX.out
end Go.Proofs.YteggpecbeagohaaGreatDoor.Stp
namespace Go.Proofs.YteggpecbeagohaaGreatDoor.Stp
open Go.RowKit
open Frm (Fr Pl frC frL frI dpI putF zF Wf mayF idF I64 BoxV ptr slc plL plC loadFr storeFr resFB getF sizeFr owns_block)
open Cap (Cp cpC zrC withZ agN agB byB)
open Ast (Nd At12 NodesAt kidsZ)
section
variable {ops : Array Oper} {rest : List Oper} {o : Oper} {a : Act} {w : World} {Q : Exit → Act → World → Prop}
theorem loadCp (hgd : o.guard = none) (x : Operand) (ho : o.op = .load 26 x) (g : Nat) (c : Cf) (hx : a.eval x = .pointer (some ⟨g, 2, none⟩)) (hg : BoxV 28 w g (cfA c))
  (h : wpList Tryz.prog ops Q rest (a.put o.dst (.agg (cpC c.c))) w) : wpList Tryz.prog ops Q (o :: rest) a w :=
 wpList_load_mid hgd 26 x ho g 2 hx (cpC c.c).toList _ (fun j v hv => hg.get (2 + j) (by rw [cfA, List.getElem?_toArray]; rw [Nat.add_comm]; exact hv)) Tryz.underlying26 rfl Cap.sizeCaps h
theorem storeCp (hgd : o.guard = none) (x y : Operand) (ho : o.op = .store 26 x y) (g : Nat) (c : Cf) (d : Cp) (hx : a.eval x = .pointer (some ⟨g, 2, none⟩)) (hy : a.eval y = .agg (cpC d)) (hg : BoxV 28 w g (cfA c))
  (h : ∀ u, Hid (Put 28 g (cfA ⟨c.f, c.p, d⟩) w u) → wpList Tryz.prog ops Q rest (a.put o.dst undef) u) : wpList Tryz.prog ops Q (o :: rest) a w := by
 obtain ⟨u, hr, hp⟩ := stCp_run g c d hg
 refine wpList_step fun K hK => ?_
 rw [if_pos (by simp [Region.wanted, hgd])]
 unfold Oper.wp
 rw [hr o a x y ho hx hy]
 exact hK _ _ (h u (Lib.hid hp))
end
set_option maxRecDepth 100000 in
set_option maxHeartbeats 4000000 in
theorem mlen_any (H : Wh) (C : Mx) (b m : Nat) (o : Option Nat) (M : List Pl) (w : World) (h : Mch w H C b m o M) : Calls Tryz.prog 14 #[ptr H.p] w fun e w' => e = .returned (.int .i64 ((M.length : Int) - 1)) ∧ Below w.heap.size w w' := by
 have HL := Lib.hid (len_any H.p b m (H.mq C) o M w h.ms)
 clear h
 go_enter Tryz.func14, Tryz.ntmps14
 go_wp2_with fail
 refine HL.out.mono ?_
 rintro e w1 ⟨rfl, hB⟩
 have HB := Lib.hid hB
 clear hB
 go_wp2_with fail
 go_ret
 exact ⟨rfl, HB.out⟩
set_option maxRecDepth 100000 in
set_option maxHeartbeats 4000000 in
theorem begin_no (H : Wh) (C : Mx) (z : Int) (w : World) (hR : Rm C H w) (hs : C.s.size ≤ 10000) (hz : ¬ (0 ≤ z ∧ z ≤ C.s.size)) :
  Calls Tryz.prog 12 #[ptr H.p, .int .i64 z] w fun e w' => e = .returned (.tuple #[.agg (cfA zCf), .int .i64 1]) ∧ Below w.heap.size w w' := by
 have HP := Lib.hid (fun u hu => isPlace_any C H z u hu hs)
 have HR := Lib.hid hR
 have HZ := Lib.hid (decide_eq_false hz)
 clear hR hs hz
 go_enter Tryz.func12, Tryz.ntmps12
 go_wp2_with (refine allocCf rfl (by rfl) ?_)
 intro u1 X1
 go_wp2_with fail
 refine (HP.out u1 (HR.out.call X1.out.low)).mono ?_
 rintro e u2 ⟨rfl, rfl⟩
 rw [HZ.out]
 go_wp2_with (first | refine lineW _ _ (by rfl) (bCf0 rfl) ?_ | refine putCf rfl _ _ rfl w.heap.size zCf (cfA zCf) rfl rfl (cfA_size _) X1.out.box ?_)
 intro u3 X3
 go_wp2_with fail
 refine bodyPost_ret (resCE rfl _ (g := w.heap.size) rfl rfl X3.out.box) rfl ⟨rfl, ?_⟩
 exact X1.out.low.trans (X3.out.low _ (Nat.le_refl _))
set_option maxRecDepth 100000 in
set_option maxHeartbeats 4000000 in
theorem begin_yes (H : Wh) (C : Mx) (b m : Nat) (o : Option Nat) (M : List Pl) (z : Int) (w : World) (hM : Mch w H C b m o M) (hT : TOk C) (hl : M.length ≤ 900000) (hz : 0 ≤ z ∧ z ≤ C.s.size) :
  Calls Tryz.prog 12 #[ptr H.p, .int .i64 z] w fun e w' => e = .returned (.tuple #[.agg (cfA (beginZ C M z).1), .int .i64 (beginZ C M z).2.1]) ∧ Goes w H C b m (beginZ C M z).2.2 w' := by
 have HP := Lib.hid (fun u hu => isPlace_any C H z u hu hT.sz)
 have HM := Lib.hid hM
 have LO := Lib.hid hM.low
 have hn0 := hT.n0
 have hn1 := hT.n1
 have n0 : (1 : Int) ≤ (C.n : Int) := by omega
 have n1 : (C.n : Int) ≤ 500 := by omega
 have hwl := hM.ms.wf.len
 have HQ := Lib.hid (fun u gs hu k1 hg => mput_any H C b m o M 0 gs 1 [toDo ((C.n : Int) - 1)] u hu k1 hg (Nat.le_refl _) (fun g hg => by simp at hg; rw [hg]; exact ⟨.inl rfl, by show 0 ≤ (C.n : Int) - 1 ∧ (C.n : Int) - 1 ≤ 1000000; omega, by show (0 : Int) ≤ 0 ∧ (0 : Int) ≤ 1000000; omega, by show (0 : Int) ≤ 0 ∧ (0 : Int) ≤ 1000000; omega⟩) (Int.le_refl _) (by omega) (by simp; omega) (by simp))
 have HZ := Lib.hid hz
 clear hM hT hz hn0 hn1 hwl
 go_enter Tryz.func12, Tryz.ntmps12
 go_wp2_with (refine allocCf rfl (by rfl) ?_)
 intro u1 X1
 go_wp2_with fail
 refine (HP.out u1 (HM.out.rm.call X1.out.low)).mono ?_
 rintro e u2 ⟨rfl, rfl⟩
 rw [decide_eq_true HZ.out]
 have hc0 := (HM.out.rm.call X1.out.low).c0
 go_wp2_with fail
 refine (toDo_any ((C.n : Int) - 1) u1).mono ?_
 rintro e u2 ⟨rfl, hB⟩
 have L2 := Lib.hid (X1.out.low.trans (hB.mono X1.out.low.size))
 have T2 := Lib.hid (X1.out.box.below hB X1.out.box.lt)
 clear hB hc0 X1
 go_wp2_with (refine oneFr (toDo ((C.n : Int) - 1)) rfl rfl (by rfl) ?_)
 intro u3 X3
 have L3 := Lib.hid (L2.out.trans (X3.out.low.mono L2.out.size))
 have T3 := Lib.hid (T2.out.below X3.out.low T2.out.lt)
 have M3 := Lib.hid (HM.out.below L3.out (Nat.le_refl _))
 have A3 := Lib.hid (show u2.heap.size ≠ H.p ∧ u2.heap.size ≠ b ∧ u2.heap.size ≠ m by have h := M3.out.not_box X3.out.box (by decide); have h2 := M3.out.not_p X3.out.box (by decide); exact ⟨h2, h.1, h.2⟩)
 go_wp2_with fail
 refine (HQ.out u3 u2.heap.size M3.out (.one X3.out.box) A3.out).mono ?_
 rintro e u4 ⟨rfl, hG⟩
 obtain ⟨r, hr⟩ : ∃ r, putsF C.most M 0 [toDo ((C.n : Int) - 1)] = r := ⟨_, rfl⟩
 rw [hr] at hG ⊢
 have RE := Lib.hid hr
 have T4 := Lib.hid (hG.box T3.out (M3.out.not_p T3.out (by decide)) (M3.out.not_box T3.out (by decide)).1 (M3.out.not_box T3.out (by decide)).2)
 have G4 := Lib.hid (Goes.first L3.out hG)
 clear hr hG X3 L2 T2 M3 T3 A3
 obtain ⟨M1, id, q⟩ := r
 by_cases hq : q = 0
 ·subst hq
  have EZ := Lib.hid (show beginZ C M z = (⟨id, z, zrC⟩, 0, M1) by unfold beginZ; rw [if_pos HZ.out, RE.out]; rfl)
  go_wp2_with (first | refine lineW _ _ (by rfl) (bCf id z rfl rfl rfl) ?_ | refine putCf rfl _ _ rfl w.heap.size ⟨id, z, zrC⟩ (cfA zCf) rfl rfl (cfA_size _) T4.out ?_)
  intro u5 X5
  go_wp2_with fail
  refine bodyPost_ret (resCE rfl _ (g := w.heap.size) rfl rfl X5.out.box) rfl ⟨?_, ?_⟩
  ·rw [EZ.out]; rfl
  ·rw [EZ.out]
   exact G4.out.put LO.out.1 LO.out.2.2.2.1 LO.out.2.2.2.2 (Nat.le_refl _) X5.out (fun b' m' _ hm => hm.not_box T4.out (by decide))
 ·have hz1 : (q != 0) = true := by simpa using hq
  have hz2 : (q == 0) = false := by simpa using hq
  have EZ := Lib.hid (show beginZ C M z = (zCf, q, M1) by unfold beginZ; rw [if_pos HZ.out, RE.out, if_neg hq])
  clear hq
  go_wp2_with (first | refine lineW _ _ (by rfl) (bCf0 rfl) ?_ | refine putCf rfl _ _ rfl w.heap.size zCf (cfA zCf) rfl rfl (cfA_size _) T4.out ?_)
  intro u5 X5
  go_wp2_with fail
  refine bodyPost_ret (resCE rfl _ (g := w.heap.size) rfl rfl X5.out.box) rfl ⟨?_, ?_⟩
  ·rw [EZ.out]; rfl
  ·rw [EZ.out]
   exact G4.out.put LO.out.1 LO.out.2.2.2.1 LO.out.2.2.2.2 (Nat.le_refl _) X5.out (fun b' m' _ hm => hm.not_box T4.out (by decide))
theorem joinZ_no {h : Int} {i : Bool} (h0 : ¬ (h = 0 ∧ i = true)) (h1 : ¬ (h = 1 ∧ i = true)) (h2 : ¬ (h = 2 ∧ i = false)) (b x : Cf) : joinZ h b x i = (zCf, false) := by
 unfold joinZ
 rw [if_neg h0, if_neg h1, if_neg h2]
set_option maxRecDepth 100000 in
set_option maxHeartbeats 8000000 in
theorem join_any (h : Int) (b x : Cf) (i : Bool) (w : World) : Calls Tryz.prog 6 #[.int .i64 h, .agg (cfA b), .agg (cfA x), .bool i] w fun e w' => e = .returned (.tuple #[.agg (cfA (joinZ h b x i).1), .bool (joinZ h b x i).2]) ∧ Below w.heap.size w w' := by
 go_enter Tryz.func6, Tryz.ntmps6
 go_wp2_with (refine boxCf _ rfl b rfl (by rfl) ?_)
 intro u1 X1
 go_wp2_with (refine boxCf _ rfl x rfl (by rfl) ?_)
 intro u2 X2
 go_wp2_with (refine allocCf rfl (by rfl) ?_)
 intro u3 X3
 have s1 := Lib.hid X1.out.size
 have s2 := Lib.hid X2.out.size
 have L3 := Lib.hid (show Below w.heap.size w u3 from (X1.out.low.trans (X2.out.low.mono (by have := s1.out; omega))).trans (X3.out.low.mono (by have := s1.out; have := s2.out; omega)))
 have B3 := Lib.hid ((X1.out.box.below X2.out.low (by have := s1.out; omega)).below X3.out.low (by have := s1.out; have := s2.out; omega))
 have C3 := Lib.hid (X2.out.box.below X3.out.low (by have := s2.out; omega))
 have T3 := Lib.hid X3.out.box
 have SZ := Lib.hid (And.intro s1.out s2.out)
 clear s1 s2 X1 X2 X3
 by_cases h0 : h = 0 ∧ i = true
 ·obtain ⟨rfl, rfl⟩ := h0
  have hb0 := B3.out.get 0 (cf_get0 b)
  go_wp2_with (refine loadCf rfl _ rfl u1.heap.size x rfl C3.out ?_)
  refine (then_any x b.f _).mono ?_
  rintro e u4 ⟨rfl, hB⟩
  have T4 := Lib.hid (T3.out.below hB T3.out.lt)
  have L4 := Lib.hid (L3.out.trans (hB.mono L3.out.size))
  clear hB hb0
  go_wp2_with (refine putCf rfl _ _ rfl u2.heap.size (x.on b.f) (cfA zCf) rfl rfl (cfA_size _) T4.out ?_)
  intro u5 X5
  go_wp2_with fail
  refine bodyPost_ret (resCE rfl _ (g := u2.heap.size) rfl rfl X5.out.box) rfl ⟨rfl, L4.out.trans (X5.out.low _ (by have := SZ.out; omega))⟩
 ·by_cases h1 : h = 1 ∧ i = true
  ·obtain ⟨rfl, rfl⟩ := h1
   clear h0
   go_wp2_with (first | refine loadCp rfl _ rfl u1.heap.size x rfl C3.out ?_ | (refine storeCp rfl _ _ rfl w.heap.size b x.c rfl rfl B3.out ?_))
   intro u4 X4
   have T4 := Lib.hid (show BoxV 28 u4 u2.heap.size (cfA zCf) from (X4.out.other _ (by have := SZ.out; omega)).trans T3.out)
   go_wp2_with (first | refine loadCf rfl _ rfl w.heap.size ⟨b.f, b.p, x.c⟩ rfl X4.out.box ?_ | refine putCf rfl _ _ rfl u2.heap.size ⟨b.f, b.p, x.c⟩ (cfA zCf) rfl rfl (cfA_size _) T4.out ?_)
   intro u5 X5
   go_wp2_with fail
   refine bodyPost_ret (resCE rfl _ (g := u2.heap.size) rfl rfl X5.out.box) rfl ⟨rfl, (L3.out.trans (X4.out.low _ (Nat.le_refl _))).trans (X5.out.low _ (by have := SZ.out; omega))⟩
  ·by_cases h2 : h = 2 ∧ i = false
   ·obtain ⟨rfl, rfl⟩ := h2
    clear h0 h1
    go_wp2_with (first | refine loadCf rfl _ rfl w.heap.size b rfl B3.out ?_ | refine putCf rfl _ _ rfl u2.heap.size b (cfA zCf) rfl rfl (cfA_size _) T3.out ?_)
    intro u5 X5
    go_wp2_with fail
    refine bodyPost_ret (resCE rfl _ (g := u2.heap.size) rfl rfl X5.out.box) rfl ⟨rfl, L3.out.trans (X5.out.low _ (by have := SZ.out; omega))⟩
   ·have EZ := Lib.hid (joinZ_no h0 h1 h2 b x)
    have k0 : (h == 0) = false ∨ i = false := by
     by_cases e : h = 0
     ·exact .inr (by cases i <;> simp_all)
     ·exact .inl (by simpa using e)
    have k1 : (h == 1) = false ∨ i = false := by
     by_cases e : h = 1
     ·exact .inr (by cases i <;> simp_all)
     ·exact .inl (by simpa using e)
    have k2 : (h == 2) = false ∨ i = true := by
     by_cases e : h = 2
     ·exact .inr (by cases i <;> simp_all)
     ·exact .inl (by simpa using e)
    clear h0 h1 h2
    cases i with
    | true =>
      replace k0 : (h == 0) = false := k0.elim id (fun e => by cases e)
      replace k1 : (h == 1) = false := k1.elim id (fun e => by cases e)
      clear k2
      cases hk : (h == 2)
      all_goals
       go_wp2_with (first | refine lineW _ _ (by rfl) (bCf0 rfl) ?_ | refine putCf rfl _ _ rfl u2.heap.size zCf (cfA zCf) rfl rfl (cfA_size _) T3.out ?_)
       intro u5 X5
       go_wp2_with fail
       refine bodyPost_ret (resCE rfl _ (g := u2.heap.size) rfl rfl X5.out.box) rfl ⟨?_, L3.out.trans (X5.out.low _ (by have := SZ.out; omega))⟩
       rw [EZ.out]; rfl
    | false =>
      replace k2 : (h == 2) = false := k2.elim id (fun e => by cases e)
      clear k0 k1
      cases hk : (h == 0) <;> cases hk1 : (h == 1)
      all_goals
       go_wp2_with (first | refine lineW _ _ (by rfl) (bCf0 rfl) ?_ | refine putCf rfl _ _ rfl u2.heap.size zCf (cfA zCf) rfl rfl (cfA_size _) T3.out ?_)
       intro u5 X5
       go_wp2_with fail
       refine bodyPost_ret (resCE rfl _ (g := u2.heap.size) rfl rfl X5.out.box) rfl ⟨?_, L3.out.trans (X5.out.low _ (by have := SZ.out; omega))⟩
       rw [EZ.out]; rfl
end Go.Proofs.YteggpecbeagohaaGreatDoor.Stp
