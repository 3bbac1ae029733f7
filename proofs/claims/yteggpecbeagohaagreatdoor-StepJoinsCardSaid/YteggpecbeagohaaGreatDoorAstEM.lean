import Derived.Test.YteggpecbeagohaaGreatDoorAstD
import Derived.Test.YteggpecbeagohaaGreatDoorAstBM
import Derived.Test.YteggpecbeagohaaGreatDoorTakeG
import Derived.OwnWalk
import Derived.Test.YteggpecbeagohaaGreatDoorMz
namespace Go.Proofs.YteggpecbeagohaaGreatDoor.Ast
open Go.RowKit
section
variable {ops : Array Oper} {a : Act} {o : Oper} {x y : Operand} {R : World → Prop}
theorem idxS_y (g n m : Nat) {z : Int} (hm : m < n ∧ z = (m : Int)) (ho : o.op = .indexAddr 130 x y) (hx : a.eval x = .slice (some ⟨g, 0, none⟩) n n) (hy : a.eval y = .int .i64 z) (hw : Region.wanted o (yielded ops a.tmps) = true) : YieldsIf Tryz.prog ops R o (.pointer (some ⟨g, m * 2, none⟩)) a := by
 obtain ⟨hm, rfl⟩ := hm
 refine Or.inl ⟨hw, fun w _ => ?_⟩
 have k0 : (0 : Int) ≤ m := by omega
 have k1 : (m : Int) < n := by omega
 unfold execOp
 simp only [ho, hx, hy]
 go_simp
theorem loadI_y (g k : Nat) (n : Int) (hR : ∀ u, R u → u.cell? ⟨g, k, none⟩ = some (.int .i64 n)) (ho : o.op = .load 3 x) (hx : a.eval x = .pointer (some ⟨g, k, none⟩)) (hw : Region.wanted o (yielded ops a.tmps) = true) : YieldsIf Tryz.prog ops R o (.int .i64 n) a := by
 refine Or.inl ⟨hw, fun u h => ?_⟩
 have hc := hR u h
 unfold execOp
 simp only [ho, hx]
 go_simp
end
section
variable {P : Program} {ops : Array Oper} {Q : Exit → Act → World → Prop} {md : Region.Mode} {S : World → Prop} {fuel : Nat} {listed : Array Bool} {a : Act} {w : World}
theorem pairAt (i : Nat) {oi : Oper} {x y : Operand} (g k : Nat) (v0 v1 : Int) {o0 o1 : Value} (h0 : w.cell? ⟨g, k, none⟩ = some o0) (h1 : w.cell? ⟨g, k + 1, none⟩ = some o1) (f0 : w.frozen? ⟨g, k, none⟩ = false) (f1 : w.frozen? ⟨g, k + 1, none⟩ = false)
  (hi : ops[i]? = some oi) (hd : oi.dst = none) (ho : oi.op = .store 133 x y) (hr : Region.ready md ops listed = [i]) (hw : Region.wanted oi (yielded ops a.tmps) = true)
  (hx : a.eval x = .pointer (some ⟨g, k, none⟩)) (hy : a.eval y = .agg #[.int .i64 v0, .int .i64 v1])
  (hS : S ((w.setCell ⟨g, k, none⟩ (.int .i64 v0)).setCell ⟨g, k + 1, none⟩ (.int .i64 v1)))
  (hgo : wpAnyH Tryz.prog md ops Q S fuel (listed.setIfInBounds i true) a ((w.setCell ⟨g, k, none⟩ (.int .i64 v0)).setCell ⟨g, k + 1, none⟩ (.int .i64 v1))) : wpAnyH Tryz.prog md ops Q S (fuel + 1) listed a w := by
 refine wpAnyH_ready (rs := [i]) hr (by simp) (AllReadyH.cons hi (fun K hK => ?_) AllReadyH.nil)
 rw [if_pos hw]
 have hK2 := Lib.hid (hK.out _ _ hS (fun _ => hgo))
 clear hS hgo hK
 unfold Oper.wp
 have hrun : (execOp a.eval oi).run Tryz.prog w = .ok .skip ((w.setCell ⟨g, k, none⟩ (.int .i64 v0)).setCell ⟨g, k + 1, none⟩ (.int .i64 v1)) := by
  unfold execOp
  simp only [ho, hx, hy]
  go_simp
 rw [hrun]
 unfold Oper.upon
 rw [hd]
 exact hK2.out
end
def Off (g k : Nat) (W u : World) : Prop := ∀ b o, (b ≠ g ∨ o < k * 2) → u.cell? ⟨b, o, none⟩ = W.cell? ⟨b, o, none⟩
theorem Off.drew (g k : Nat) (W : World) : Off g k W W.drew := fun _ _ _ => rfl
theorem Off.store {g k : Nat} {W u : World} (h : Off g k W u) (v v' : Value) : Off g k W ((u.setCell ⟨g, k * 2, none⟩ v).setCell ⟨g, k * 2 + 1, none⟩ v') := fun b o hbo => by
 rw [World.cell?_setCell_other _ _ _ _ (by rintro e; simp at e; omega), World.cell?_setCell_other _ _ _ _ (by rintro e; simp at e; omega)]
 exact h b o hbo
def spV (l : Nat → Nd) (k : Nat) (j : Nat) : Value := .int .i64 (if j / 2 < k then (if j % 2 = 0 then (len l (j / 2 + 1)).1 else (len l (j / 2 + 1)).2) else 0)
theorem sp_at (l : Nat → Nd) (k j : Nat) (h : j < k) : spV l k (j * 2) = .int .i64 (len l (j + 1)).1 ∧ spV l k (j * 2 + 1) = .int .i64 (len l (j + 1)).2 := by
 unfold spV
 rw [show j * 2 / 2 = j by omega, show (j * 2 + 1) / 2 = j by omega, if_pos h, if_pos h, if_pos (by omega), if_neg (by omega)]
 exact ⟨rfl, rfl⟩
theorem sp_next {l : Nat → Nd} {k n : Nat} {F : Nat → Value} (hF : ∀ i, i ≠ k * 2 → i ≠ k * 2 + 1 → F i = spV l k i) (h0 : F (k * 2) = .int .i64 (len l (k + 1)).1) (h1 : F (k * 2 + 1) = .int .i64 (len l (k + 1)).2) : ∀ i, i < n → F i = spV l (k + 1) i := by
 intro i hi
 obtain ⟨a0, a1⟩ := sp_at l (k + 1) k (by omega)
 by_cases e : i = k * 2
 ·subst e; rw [h0, a0]
 ·by_cases e1 : i = k * 2 + 1
  ·subst e1; rw [h1, a1]
  ·rw [hF i e e1]
   unfold spV
   by_cases h : i / 2 < k
   ·rw [if_pos h, if_pos (show i / 2 < k + 1 by omega)]
   ·rw [if_neg h, if_neg (show ¬ i / 2 < k + 1 by omega)]
theorem sp_none {l : Nat → Nd} {k n : Nat} (h : len l (k + 1) = (0, 0)) : ∀ i, i < n → spV l k i = spV l (k + 1) i := by
 refine sp_next (fun _ _ _ => rfl) ?_ ?_
 ·unfold spV; rw [if_neg (by omega), h]
 ·unfold spV; rw [if_neg (by omega), h]
theorem infoS : (Tryz.prog.info? 133).map (fun i => (i.zero, i.size, i.bytes)) = some (some (.agg #[.int .i64 0, .int .i64 0]), 2, 16) := by kernel_rfl
theorem make_spans (n : Nat) (hn : n ≤ 1000000) (w : World) : (Instr.makeSlice 130 (.int .i64 (n : Int)) (.int .i64 (n : Int))).run Tryz.prog w = .ok (.slice (some ⟨w.heap.size, 0, none⟩) n n) (w.alloc (.cells (madeCells #[.int .i64 0, .int .i64 0] (n * 2)) 133)) := by
 obtain ⟨i, hi, hz, hs, hb⟩ := info_parts infoS
 have hr := run_make (P := Tryz.prog) w 130 133 i _ Tryz.underlying130 hi hz .i64 .i64 n n (by omega) (Int.le_refl _) (by rw [hb]; omega) (by omega)
 simp only [Int.toNat_natCast, hs] at hr
 exact hr
theorem spans_made (w : World) (n : Nat) (l : Nat → Nd) : (w.alloc (.cells (madeCells #[.int .i64 0, .int .i64 0] (n * 2)) 133)).rowIs w.heap.size 133 (n * 2) (spV l 0) := by
 refine ⟨_, Go.Deep.blk_alloc_new _ _, size_madeCells _ _, fun i hi => ?_⟩
 have h2 : i % 2 < 2 := Nat.mod_lt _ (by omega)
 rcases (by omega : i % 2 = 0 ∨ i % 2 = 1) with h | h <;> simp [madeCells, hi, h, spV]
end Go.Proofs.YteggpecbeagohaaGreatDoor.Ast
namespace Go.Proofs.YteggpecbeagohaaGreatDoor.Ast
open Go.RowKit
set_option maxRecDepth 100000 in
set_option maxHeartbeats 4000000 in
theorem spans_any (A : Option Addr) (n cap : Nat) (l : Nat → Nd) (w : World) (hn : n ≤ 1000000) (hs : siz l n = n) (hl : Nodes w A n l) :
  Calls Tryz.prog 59 #[.slice A n cap] w fun e w' => e = .returned (.slice (some ⟨w.heap.size, 0, none⟩) n n) ∧ w'.rowIs w.heap.size 133 (n * 2) (spV l n) ∧ Below w.heap.size w w' := by
 have HL := Lib.hid hl
 have HS := Lib.hid hs
 clear hl hs
 have hmk := make_spans n hn
 go_enter Tryz.func59, Tryz.ntmps59
 go_wp2_with fail
 clear hmk
 go_loopw [11] (fun i wr => ∃ k : Nat, k ≤ n ∧ i = .int .i64 k ∧ wr.rowIs w.heap.size 133 (n * 2) (spV l k) ∧ Below w.heap.size w wr) (fun i _ => n - (intOf i).toNat)
 case atStart => exact ⟨0, Nat.zero_le _, rfl, spans_made w n l, by go_grown⟩
 case round =>
  obtain ⟨k, hk, rfl, hrow, hb⟩ := hrel
  have HR := Lib.hid hrow
  have HB := Lib.hid hb
  clear hrow hb
  by_cases hlt : k < n
  ·obtain ⟨b, o, rfl, hN⟩ := (HL.out.below HB.out (Nat.le_refl _)).at_ (by omega)
   obtain ⟨c0, c1, c2, c3, c4, c5, c6, c7, c8, c9, c10, c11⟩ := hN.2 k hlt
   have hbw := hN.1
   have hsz := siz_of_whole HS.out hlt
   obtain ⟨hf, hp⟩ := siz_pos hsz
   have hd := len_succ l k
   have hki := fits_kind hf
   have lr : w.heap.size < wr.heap.size := HR.out.lt
   clear hN hsz
   rcases hp with ⟨hk0, -⟩ | ⟨hk1, h1, ha, -⟩ | ⟨hk2, h1, h2, ha, hb, -⟩
   ·rw [if_pos hk0] at hd
    obtain ⟨q8, q9, q10, q11, q17⟩ := kids0 hk0 hki
    have HD := Lib.hid hd
    clear hd hk0 hf hki
    by_cases e1 : (l k).k = 1
    ·have HV := Lib.hid (show len l (k + 1) = (1, 1) by rw [HD.out, if_pos e1])
     rw [e1] at c0
     clear e1 q8 q9 q10 q11 q17 HD
     have r0 := HR.out.cell (i := k * 2) (by omega)
     have r1 := HR.out.cell (i := k * 2 + 1) (by omega)
     have fr := HR.out.frozen
     go_wp2_with fail
     go_roundw
     case rel => exact ⟨k + 1, by omega, by go_num, (((HR.out.set _ _).set _ _).alloc _).congr (sp_next (fun i h h' => by simp [h, h']) (by simp [HV.out]) (by simp [HV.out])), ((HB.out.setCell (p := ⟨w.heap.size, _, none⟩) (Nat.le_refl _) _).setCell (p := ⟨w.heap.size, _, none⟩) (Nat.le_refl _) _).alloc (by simp; exact HB.out.size) _⟩
     case measure => simp [intOf]; omega
    ·by_cases e12 : (l k).k = 12
     ·have HV := Lib.hid (show len l (k + 1) = (0, -1) by rw [HD.out, if_neg e1, if_pos e12])
      rw [e12] at c0
      clear e1 e12 q8 q9 q10 q11 q17 HD
      have r0 := HR.out.cell (i := k * 2) (by omega)
      have r1 := HR.out.cell (i := k * 2 + 1) (by omega)
      have fr := HR.out.frozen
      go_wp2_with fail
      go_roundw
      case rel => exact ⟨k + 1, by omega, by go_num, (((HR.out.set _ _).set _ _).alloc _).congr (sp_next (fun i h h' => by simp [h, h']) (by simp [HV.out]) (by simp [HV.out])), ((HB.out.setCell (p := ⟨w.heap.size, _, none⟩) (Nat.le_refl _) _).setCell (p := ⟨w.heap.size, _, none⟩) (Nat.le_refl _) _).alloc (by simp; exact HB.out.size) _⟩
      case measure => simp [intOf]; omega
     ·have HV := Lib.hid (show len l (k + 1) = (0, 0) by rw [HD.out, if_neg e1, if_neg e12])
      have q1 : ((l k).k == 1) = false := by simpa using e1
      have q12 : ((l k).k == 12) = false := by simpa using e12
      clear e1 e12 HD
      go_wp2_with fail
      go_roundw
      case rel => exact ⟨k + 1, by omega, by go_num, (HR.out.alloc _).congr (sp_none HV.out), HB.out.alloc HB.out.size _⟩
      case measure => simp [intOf]; omega
   ·have k0 : k ≠ 0 := by rintro rfl; exact h1 rfl
    rw [hk1, if_neg (show ¬ (1 : Int) = 0 by decide), if_pos rfl] at hd
    obtain ⟨q1, q12, q8, q9⟩ := kids1 hk1
    have HD := Lib.hid hd
    have HBD := Lib.hid (len_bd l k h1)
    have HF := Lib.hid hf
    obtain ⟨q, hq⟩ : ∃ q, q = k - 1 := ⟨_, rfl⟩
    have hq1 : q + 1 = k := by omega
    have hi_q := Lib.hid (show q < n ∧ (l k).a = (q : Int) from ⟨by omega, by rw [ha]; omega⟩)
    have qk : q < k := by omega
    obtain ⟨x, hx⟩ : ∃ x, x = (len l k).1 := ⟨_, rfl⟩
    obtain ⟨y, hy⟩ : ∃ y, y = (len l k).2 := ⟨_, rfl⟩
    have HX := Lib.hid (And.intro hx.symm hy.symm)
    have HBB := Lib.hid (show (0 ≤ x ∧ x ≤ 1048576) ∧ (-1 ≤ y ∧ y ≤ 1048576) by rw [hx, hy]; exact HBD.out)
    clear hd hk1 ha h1 hf hx hy hq hki HBD
    by_cases e10 : (l k).k = 10
    ·have HRP := Lib.hid (fits_rep_of HF.out e10)
     have HV := Lib.hid (show len l (k + 1) = (timesZ x (l k).mn, timesZ y (l k).mx) by rw [HD.out, if_pos e10, HX.out.1, HX.out.2])
     have C1 := Lib.hid (show ∀ w, Calls Tryz.prog 92 #[.int .i64 x, .int .i64 (l k).mn] w fun e w' => e = .returned (.int .i64 (timesZ x (l k).mn)) ∧ w = w' from fun w => times_any x (l k).mn w ⟨by have := HBB.out; omega, HBB.out.1.2⟩ ⟨by have := HRP.out; omega, HRP.out.2.1⟩)
     have C2 := Lib.hid (show ∀ w, Calls Tryz.prog 92 #[.int .i64 y, .int .i64 (l k).mx] w fun e w' => e = .returned (.int .i64 (timesZ y (l k).mx)) ∧ w = w' from fun w => times_any y (l k).mx w HBB.out.2 HRP.out.2.2)
     rw [e10] at c0
     clear q1 q12 q8 q9 e10 HD
     obtain ⟨W, hW⟩ : ∃ W, W = wr.alloc (.cells #[.int .i64 10, .int .i64 (l k).a, .int .i64 (l k).b, .int .u64 (l k).s0, .int .u64 (l k).s1, .int .u64 (l k).s2, .int .u64 (l k).s3, .int .i64 (l k).mn, .int .i64 (l k).mx, .int .i64 (l k).md, .int .i64 (l k).n, .bool (l k).f] 76) := ⟨_, rfl⟩
     have RW := Lib.hid (show W.rowIs w.heap.size 133 (n * 2) (spV l k) by rw [hW]; exact HR.out.alloc _)
     have XW := Lib.hid (show Box12 W 76 wr.heap.size 10 (l k).a (l k).b (l k).s0 (l k).s1 (l k).s2 (l k).s3 (l k).mn (l k).mx (l k).md (l k).n (l k).f by rw [hW]; exact Box12.new _ _ _ _ _ _ _ _ _ _ _ _ _ _)
     have BW := Lib.hid (show Below w.heap.size w W by rw [hW]; exact HB.out.alloc HB.out.size _)
     have HW := Lib.hid hW
     clear hW
     go_wp2_with fail
     rw [← HW.out]
     clear c0 c1 c2 c3 c4 c5 c6 c7 c8 c9 c10 c11 HW
     obtain ⟨c0, c1, c2, c3, c4, c5, c6, c7, c8, -⟩ := XW.out.cells
     have fr := RW.out.frozen
     have rk : W.cell? ⟨w.heap.size, k * 2, none⟩ = some (spV l k (k * 2)) ∧ W.cell? ⟨w.heap.size, k * 2 + 1, none⟩ = some (spV l k (k * 2 + 1)) := ⟨RW.out.cell (by omega), RW.out.cell (by omega)⟩
     have r_q0 : W.cell? ⟨w.heap.size, q * 2, none⟩ = some (.int .i64 x) := by rw [RW.out.cell (by omega), (sp_at l k q (by omega)).1, hq1, HX.out.1]
     have r_q1 : W.cell? ⟨w.heap.size, q * 2 + 1, none⟩ = some (.int .i64 y) := by rw [RW.out.cell (by omega), (sp_at l k q (by omega)).2, hq1, HX.out.2]
     clear hq1
     have hS : Off w.heap.size k W W.drew := Off.drew _ _ _
     have gx : wr.heap.size ≠ w.heap.size := by omega
     refine wp_region_held_drew (S := Off w.heap.size k W) (by kernel_rfl) hS (fun _ => ?_)
     refine takeAt 0 96 ((.slice (some ⟨w.heap.size, 0, none⟩) n n)) rfl rfl (by kernel_rfl) (by kernel_rfl) (by kernel_rfl) i_ (yields (by rfl) (fun w => by kernel_rfl)) hS ?_
     simp only [Act.put, sA_, s0_, sS_]
     refine takeAt 1 97 (.int .i64 (k : Int)) rfl rfl (by kernel_rfl) (by kernel_rfl) (by kernel_rfl) i_ (yields (by rfl) (fun w => by kernel_rfl)) hS ?_
     simp only [Act.put, sA_, s0_, sS_]
     refine takeAt 2 98 ((.slice (some ⟨w.heap.size, 0, none⟩) n n)) rfl rfl (by kernel_rfl) (by kernel_rfl) (by kernel_rfl) i_ (yields (by rfl) (fun w => by kernel_rfl)) hS ?_
     simp only [Act.put, sA_, s0_, sS_]
     refine takeAt 3 99 (.pointer (some ⟨wr.heap.size, 1, none⟩)) rfl rfl (by kernel_rfl) (by kernel_rfl) (by kernel_rfl) i_ (yields (by rfl) (fun w => by kernel_rfl)) hS ?_
     simp only [Act.put, sA_, s0_, sS_]
     refine takeAt 4 100 (.int .i64 ((l k).a)) rfl rfl (by kernel_rfl) (by kernel_rfl) (by kernel_rfl) i_ (loadI_y wr.heap.size (1) ((l k).a) (fun u h => (h _ _ (by omega)).trans c1) rfl rfl (by rfl)) hS ?_
     simp only [Act.put, sA_, s0_, sS_]
     refine takeAt 5 101 (.pointer (some ⟨w.heap.size, q * 2, none⟩)) rfl rfl (by kernel_rfl) (by kernel_rfl) (by kernel_rfl) i_ (idxS_y w.heap.size n q hi_q.out rfl rfl rfl (by rfl)) hS ?_
     simp only [Act.put, sA_, s0_, sS_]
     refine takeAt 6 102 (.pointer (some ⟨w.heap.size, q * 2, none⟩)) rfl rfl (by kernel_rfl) (by kernel_rfl) (by kernel_rfl) i_ (yields (by rfl) (fun w => by kernel_rfl)) hS ?_
     simp only [Act.put, sA_, s0_, sS_]
     refine takeAt 7 103 (.int .i64 (x)) rfl rfl (by kernel_rfl) (by kernel_rfl) (by kernel_rfl) i_ (loadI_y w.heap.size (q * 2) (x) (fun u h => (h _ _ (by omega)).trans r_q0) rfl rfl (by rfl)) hS ?_
     simp only [Act.put, sA_, s0_, sS_]
     refine takeAt 8 104 (.pointer (some ⟨wr.heap.size, 7, none⟩)) rfl rfl (by kernel_rfl) (by kernel_rfl) (by kernel_rfl) i_ (yields (by rfl) (fun w => by kernel_rfl)) hS ?_
     simp only [Act.put, sA_, s0_, sS_]
     refine takeAt 9 105 (.int .i64 ((l k).mn)) rfl rfl (by kernel_rfl) (by kernel_rfl) (by kernel_rfl) i_ (loadI_y wr.heap.size (7) ((l k).mn) (fun u h => (h _ _ (by omega)).trans c7) rfl rfl (by rfl)) hS ?_
     simp only [Act.put, sA_, s0_, sS_]
     refine takeAt 11 107 ((.slice (some ⟨w.heap.size, 0, none⟩) n n)) rfl rfl (by kernel_rfl) (by kernel_rfl) (by kernel_rfl) i_ (yields (by rfl) (fun w => by kernel_rfl)) hS ?_
     simp only [Act.put, sA_, s0_, sS_]
     refine takeAt 12 108 (.pointer (some ⟨wr.heap.size, 1, none⟩)) rfl rfl (by kernel_rfl) (by kernel_rfl) (by kernel_rfl) i_ (yields (by rfl) (fun w => by kernel_rfl)) hS ?_
     simp only [Act.put, sA_, s0_, sS_]
     refine takeAt 13 109 (.int .i64 ((l k).a)) rfl rfl (by kernel_rfl) (by kernel_rfl) (by kernel_rfl) i_ (loadI_y wr.heap.size (1) ((l k).a) (fun u h => (h _ _ (by omega)).trans c1) rfl rfl (by rfl)) hS ?_
     simp only [Act.put, sA_, s0_, sS_]
     refine takeAt 14 110 (.pointer (some ⟨w.heap.size, q * 2, none⟩)) rfl rfl (by kernel_rfl) (by kernel_rfl) (by kernel_rfl) i_ (idxS_y w.heap.size n q hi_q.out rfl rfl rfl (by rfl)) hS ?_
     simp only [Act.put, sA_, s0_, sS_]
     refine takeAt 15 111 (.pointer (some ⟨w.heap.size, q * 2 + 1, none⟩)) rfl rfl (by kernel_rfl) (by kernel_rfl) (by kernel_rfl) i_ (yields (by rfl) (fun w => by kernel_rfl)) hS ?_
     simp only [Act.put, sA_, s0_, sS_]
     refine takeAt 16 112 (.int .i64 (y)) rfl rfl (by kernel_rfl) (by kernel_rfl) (by kernel_rfl) i_ (loadI_y w.heap.size (q * 2 + 1) (y) (fun u h => (h _ _ (by omega)).trans r_q1) rfl rfl (by rfl)) hS ?_
     simp only [Act.put, sA_, s0_, sS_]
     refine takeAt 17 113 (.pointer (some ⟨wr.heap.size, 8, none⟩)) rfl rfl (by kernel_rfl) (by kernel_rfl) (by kernel_rfl) i_ (yields (by rfl) (fun w => by kernel_rfl)) hS ?_
     simp only [Act.put, sA_, s0_, sS_]
     refine takeAt 18 114 (.int .i64 ((l k).mx)) rfl rfl (by kernel_rfl) (by kernel_rfl) (by kernel_rfl) i_ (loadI_y wr.heap.size (8) ((l k).mx) (fun u h => (h _ _ (by omega)).trans c8) rfl rfl (by rfl)) hS ?_
     simp only [Act.put, sA_, s0_, sS_]
     refine callAt 10 106 rfl rfl (by kernel_rfl) (by rfl) (by kernel_rfl) (C1.out _) ?_
     rintro e w' ⟨rfl, rfl⟩
     refine ⟨_, rfl, hS, ?_⟩
     simp only [Act.put, sA_, s0_, sS_]
     refine callAt 19 115 rfl rfl (by kernel_rfl) (by rfl) (by kernel_rfl) (C2.out _) ?_
     rintro e w' ⟨rfl, rfl⟩
     refine ⟨_, rfl, hS, ?_⟩
     simp only [Act.put, sA_, s0_, sS_]
     refine takeAt 20 116 (.agg #[.int .i64 (timesZ x (l k).mn), .int .i64 (timesZ y (l k).mx)]) rfl rfl (by kernel_rfl) (by kernel_rfl) (by kernel_rfl) i_ (yields (by rfl) (fun w => by kernel_rfl)) hS ?_
     simp only [Act.put, sA_, s0_, sS_]
     refine takeAt 21 117 (.pointer (some ⟨w.heap.size, k * 2, none⟩)) rfl rfl (by kernel_rfl) (by kernel_rfl) (by kernel_rfl) i_ (idxS_y w.heap.size n k ⟨hlt, rfl⟩ rfl rfl rfl (by rfl)) hS ?_
     simp only [Act.put, sA_, s0_, sS_]
     refine pairAt 22 w.heap.size (k * 2) (timesZ x (l k).mn) (timesZ y (l k).mx) rk.1 rk.2 (fr _) (fr _) rfl rfl rfl (by kernel_rfl) (by rfl) rfl rfl (hS.store _ _) ?_
     refine wpAnyH_done (by kernel_rfl) ?_ _
     clear hS
     go_wp2_with fail
     go_roundw
     case rel => exact ⟨k + 1, by omega, by go_num, ((RW.out.drew.set _ _).set _ _).congr (sp_next (fun i h h' => by simp [h, h']) (by simp [HV.out]) (by simp [HV.out])), (BW.out.drew.setCell (p := ⟨w.heap.size, _, none⟩) (Nat.le_refl _) _).setCell (p := ⟨w.heap.size, _, none⟩) (Nat.le_refl _) _⟩
     case measure => simp [intOf]; omega
    ·by_cases e11 : (l k).k = 11
     ·have HV := Lib.hid (show len l (k + 1) = (x, y) by rw [HD.out, if_neg e10, if_pos (.inl e11), ← HX.out.1, ← HX.out.2])
      rw [e11] at c0
      clear q1 q12 q8 q9 e10 e11 HD
      have iqz := hi_q.out.2
      rw [iqz] at c1
      have r_q0 : wr.cell? ⟨w.heap.size, q * 2, none⟩ = some (.int .i64 x) := by rw [HR.out.cell (by omega), (sp_at l k q (by omega)).1, hq1, HX.out.1]
      have r_q1 : wr.cell? ⟨w.heap.size, q * 2 + 1, none⟩ = some (.int .i64 y) := by rw [HR.out.cell (by omega), (sp_at l k q (by omega)).2, hq1, HX.out.2]
      clear iqz hq1
      have qz : (q : Int) < (n : Int) := by omega
      have r0 := HR.out.cell (i := k * 2) (by omega)
      have r1 := HR.out.cell (i := k * 2 + 1) (by omega)
      have fr := HR.out.frozen
      go_wp2_with fail
      go_roundw
      case rel => exact ⟨k + 1, by omega, by go_num, (((HR.out.set _ _).set _ _).alloc _).congr (sp_next (fun i h h' => by simp [h, h']) (by simp [HV.out]) (by simp [HV.out])), ((HB.out.setCell (p := ⟨w.heap.size, _, none⟩) (Nat.le_refl _) _).setCell (p := ⟨w.heap.size, _, none⟩) (Nat.le_refl _) _).alloc (by simp; exact HB.out.size) _⟩
      case measure => simp [intOf]; omega
     ·by_cases e17 : (l k).k = 17
      ·have HV := Lib.hid (show len l (k + 1) = (x, y) by rw [HD.out, if_neg e10, if_pos (.inr e17), ← HX.out.1, ← HX.out.2])
       rw [e17] at c0
       clear q1 q12 q8 q9 e10 e11 e17 HD
       have iqz := hi_q.out.2
       rw [iqz] at c1
       have r_q0 : wr.cell? ⟨w.heap.size, q * 2, none⟩ = some (.int .i64 x) := by rw [HR.out.cell (by omega), (sp_at l k q (by omega)).1, hq1, HX.out.1]
       have r_q1 : wr.cell? ⟨w.heap.size, q * 2 + 1, none⟩ = some (.int .i64 y) := by rw [HR.out.cell (by omega), (sp_at l k q (by omega)).2, hq1, HX.out.2]
       clear iqz hq1
       have qz : (q : Int) < (n : Int) := by omega
       have r0 := HR.out.cell (i := k * 2) (by omega)
       have r1 := HR.out.cell (i := k * 2 + 1) (by omega)
       have fr := HR.out.frozen
       go_wp2_with fail
       go_roundw
       case rel => exact ⟨k + 1, by omega, by go_num, (((HR.out.set _ _).set _ _).alloc _).congr (sp_next (fun i h h' => by simp [h, h']) (by simp [HV.out]) (by simp [HV.out])), ((HB.out.setCell (p := ⟨w.heap.size, _, none⟩) (Nat.le_refl _) _).setCell (p := ⟨w.heap.size, _, none⟩) (Nat.le_refl _) _).alloc (by simp; exact HB.out.size) _⟩
       case measure => simp [intOf]; omega
      ·have HV := Lib.hid (show len l (k + 1) = (0, 0) by rw [HD.out, if_neg e10, if_neg (by omega)])
       have q10 : ((l k).k == 10) = false := by simpa using e10
       have q11 : ((l k).k == 11) = false := by simpa using e11
       have q17 : ((l k).k == 17) = false := by simpa using e17
       clear e10 e11 e17 HD
       go_wp2_with fail
       go_roundw
       case rel => exact ⟨k + 1, by omega, by go_num, (HR.out.alloc _).congr (sp_none HV.out), HB.out.alloc HB.out.size _⟩
       case measure => simp [intOf]; omega
   ·have hk2' := kids2 hk2
    have hle := siz_le l k
    rw [hk2, if_neg (show ¬ (2 : Int) = 0 by decide), if_neg (show ¬ (2 : Int) = 1 by decide)] at hd
    have k0 : k ≠ 0 := by rintro rfl; exact h1 rfl
    have s1 : siz l k < k := by
     by_cases e : siz l k < k
     ·exact e
     ·exfalso; apply h2; rw [show k - siz l k = 0 by omega]; rfl
    obtain ⟨q, hq⟩ : ∃ q, q = k - 1 := ⟨_, rfl⟩
    obtain ⟨p, hp⟩ : ∃ p, p = k - 1 - siz l k := ⟨_, rfl⟩
    have hq1 : q + 1 = k := by omega
    have hp1 : p + 1 = k - siz l k := by omega
    have hi_q := Lib.hid (show q < n ∧ (l k).b = (q : Int) from ⟨by omega, by rw [hb]; omega⟩)
    have hi_p := Lib.hid (show p < n ∧ (l k).a = (p : Int) from ⟨by omega, by rw [ha]; omega⟩)
    have qk : q < k := by omega
    have pk : p < k := by omega
    have HBD := Lib.hid (len_bd l k h1)
    have HBD' := Lib.hid (len_bd l (k - siz l k) h2)
    obtain ⟨x, hx⟩ : ∃ x, x = (len l k).1 := ⟨_, rfl⟩
    obtain ⟨y, hy⟩ : ∃ y, y = (len l k).2 := ⟨_, rfl⟩
    obtain ⟨x', hx'⟩ : ∃ x, x = (len l (k - siz l k)).1 := ⟨_, rfl⟩
    obtain ⟨y', hy'⟩ : ∃ y, y = (len l (k - siz l k)).2 := ⟨_, rfl⟩
    have HX := Lib.hid (And.intro hx.symm hy.symm)
    have HX' := Lib.hid (And.intro hx'.symm hy'.symm)
    have HBB := Lib.hid (show ((0 ≤ x ∧ x ≤ 1048576) ∧ (-1 ≤ y ∧ y ≤ 1048576)) ∧ ((0 ≤ x' ∧ x' ≤ 1048576) ∧ (-1 ≤ y' ∧ y' ≤ 1048576)) by rw [hx, hy, hx', hy']; exact ⟨HBD.out, HBD'.out⟩)
    have HD := Lib.hid (show len l (k + 1) = if (l k).k = 8 then (plusZ x' x, plusZ y' y) else (min x' x, moreZ y' y) by rw [hd, hx, hy, hx', hy'])
    have HQ := Lib.hid hq1
    have HP := Lib.hid hp1
    clear hd hk2 ha hb h1 h2 hf hx hy hx' hy' hq hp hki HBD HBD' hle s1 hq1 hp1
    rcases hk2' with e8 | e9
    ·have HV := Lib.hid (show len l (k + 1) = (plusZ x' x, plusZ y' y) by rw [HD.out, if_pos e8])
     have C1 := Lib.hid (show ∀ w, Calls Tryz.prog 90 #[.int .i64 x', .int .i64 x] w fun e w' => e = .returned (.int .i64 (plusZ x' x)) ∧ w = w' from fun w => sum_any x' x w ⟨by have := HBB.out; omega, HBB.out.2.1.2⟩ ⟨by have := HBB.out; omega, HBB.out.1.1.2⟩)
     have C2 := Lib.hid (show ∀ w, Calls Tryz.prog 90 #[.int .i64 y', .int .i64 y] w fun e w' => e = .returned (.int .i64 (plusZ y' y)) ∧ w = w' from fun w => sum_any y' y w HBB.out.2.2 HBB.out.1.2)
     rw [e8] at c0
     clear e8 HD
     obtain ⟨W, hW⟩ : ∃ W, W = wr.alloc (.cells #[.int .i64 8, .int .i64 (l k).a, .int .i64 (l k).b, .int .u64 (l k).s0, .int .u64 (l k).s1, .int .u64 (l k).s2, .int .u64 (l k).s3, .int .i64 (l k).mn, .int .i64 (l k).mx, .int .i64 (l k).md, .int .i64 (l k).n, .bool (l k).f] 76) := ⟨_, rfl⟩
     have RW := Lib.hid (show W.rowIs w.heap.size 133 (n * 2) (spV l k) by rw [hW]; exact HR.out.alloc _)
     have XW := Lib.hid (show Box12 W 76 wr.heap.size 8 (l k).a (l k).b (l k).s0 (l k).s1 (l k).s2 (l k).s3 (l k).mn (l k).mx (l k).md (l k).n (l k).f by rw [hW]; exact Box12.new _ _ _ _ _ _ _ _ _ _ _ _ _ _)
     have BW := Lib.hid (show Below w.heap.size w W by rw [hW]; exact HB.out.alloc HB.out.size _)
     have HW := Lib.hid hW
     clear hW
     go_wp2_with fail
     rw [← HW.out]
     clear c0 c1 c2 c3 c4 c5 c6 c7 c8 c9 c10 c11 HW
     obtain ⟨c0, c1, c2, c3, c4, c5, c6, c7, c8, -⟩ := XW.out.cells
     have fr := RW.out.frozen
     have rk : W.cell? ⟨w.heap.size, k * 2, none⟩ = some (spV l k (k * 2)) ∧ W.cell? ⟨w.heap.size, k * 2 + 1, none⟩ = some (spV l k (k * 2 + 1)) := ⟨RW.out.cell (by omega), RW.out.cell (by omega)⟩
     have hq1 := HQ.out
     have hp1 := HP.out
     have r_q0 : W.cell? ⟨w.heap.size, q * 2, none⟩ = some (.int .i64 x) := by rw [RW.out.cell (by omega), (sp_at l k q (by omega)).1, hq1, HX.out.1]
     have r_q1 : W.cell? ⟨w.heap.size, q * 2 + 1, none⟩ = some (.int .i64 y) := by rw [RW.out.cell (by omega), (sp_at l k q (by omega)).2, hq1, HX.out.2]
     have r_p0 : W.cell? ⟨w.heap.size, p * 2, none⟩ = some (.int .i64 x') := by rw [RW.out.cell (by omega), (sp_at l k p (by omega)).1, hp1, HX'.out.1]
     have r_p1 : W.cell? ⟨w.heap.size, p * 2 + 1, none⟩ = some (.int .i64 y') := by rw [RW.out.cell (by omega), (sp_at l k p (by omega)).2, hp1, HX'.out.2]
     clear hq1 hp1
     have hS : Off w.heap.size k W W.drew := Off.drew _ _ _
     have gx : wr.heap.size ≠ w.heap.size := by omega
     refine wp_region_held_drew (S := Off w.heap.size k W) (by kernel_rfl) hS (fun _ => ?_)
     refine takeAt 0 32 ((.slice (some ⟨w.heap.size, 0, none⟩) n n)) rfl rfl (by kernel_rfl) (by kernel_rfl) (by kernel_rfl) i_ (yields (by rfl) (fun w => by kernel_rfl)) hS ?_
     simp only [Act.put, sA_, s0_, sS_]
     refine takeAt 1 33 (.int .i64 (k : Int)) rfl rfl (by kernel_rfl) (by kernel_rfl) (by kernel_rfl) i_ (yields (by rfl) (fun w => by kernel_rfl)) hS ?_
     simp only [Act.put, sA_, s0_, sS_]
     refine takeAt 2 34 ((.slice (some ⟨w.heap.size, 0, none⟩) n n)) rfl rfl (by kernel_rfl) (by kernel_rfl) (by kernel_rfl) i_ (yields (by rfl) (fun w => by kernel_rfl)) hS ?_
     simp only [Act.put, sA_, s0_, sS_]
     refine takeAt 3 35 (.pointer (some ⟨wr.heap.size, 1, none⟩)) rfl rfl (by kernel_rfl) (by kernel_rfl) (by kernel_rfl) i_ (yields (by rfl) (fun w => by kernel_rfl)) hS ?_
     simp only [Act.put, sA_, s0_, sS_]
     refine takeAt 4 36 (.int .i64 ((l k).a)) rfl rfl (by kernel_rfl) (by kernel_rfl) (by kernel_rfl) i_ (loadI_y wr.heap.size (1) ((l k).a) (fun u h => (h _ _ (by omega)).trans c1) rfl rfl (by rfl)) hS ?_
     simp only [Act.put, sA_, s0_, sS_]
     refine takeAt 5 37 (.pointer (some ⟨w.heap.size, p * 2, none⟩)) rfl rfl (by kernel_rfl) (by kernel_rfl) (by kernel_rfl) i_ (idxS_y w.heap.size n p hi_p.out rfl rfl rfl (by rfl)) hS ?_
     simp only [Act.put, sA_, s0_, sS_]
     refine takeAt 6 38 (.pointer (some ⟨w.heap.size, p * 2, none⟩)) rfl rfl (by kernel_rfl) (by kernel_rfl) (by kernel_rfl) i_ (yields (by rfl) (fun w => by kernel_rfl)) hS ?_
     simp only [Act.put, sA_, s0_, sS_]
     refine takeAt 7 39 (.int .i64 (x')) rfl rfl (by kernel_rfl) (by kernel_rfl) (by kernel_rfl) i_ (loadI_y w.heap.size (p * 2) (x') (fun u h => (h _ _ (by omega)).trans r_p0) rfl rfl (by rfl)) hS ?_
     simp only [Act.put, sA_, s0_, sS_]
     refine takeAt 8 40 ((.slice (some ⟨w.heap.size, 0, none⟩) n n)) rfl rfl (by kernel_rfl) (by kernel_rfl) (by kernel_rfl) i_ (yields (by rfl) (fun w => by kernel_rfl)) hS ?_
     simp only [Act.put, sA_, s0_, sS_]
     refine takeAt 9 41 (.pointer (some ⟨wr.heap.size, 2, none⟩)) rfl rfl (by kernel_rfl) (by kernel_rfl) (by kernel_rfl) i_ (yields (by rfl) (fun w => by kernel_rfl)) hS ?_
     simp only [Act.put, sA_, s0_, sS_]
     refine takeAt 10 42 (.int .i64 ((l k).b)) rfl rfl (by kernel_rfl) (by kernel_rfl) (by kernel_rfl) i_ (loadI_y wr.heap.size (2) ((l k).b) (fun u h => (h _ _ (by omega)).trans c2) rfl rfl (by rfl)) hS ?_
     simp only [Act.put, sA_, s0_, sS_]
     refine takeAt 11 43 (.pointer (some ⟨w.heap.size, q * 2, none⟩)) rfl rfl (by kernel_rfl) (by kernel_rfl) (by kernel_rfl) i_ (idxS_y w.heap.size n q hi_q.out rfl rfl rfl (by rfl)) hS ?_
     simp only [Act.put, sA_, s0_, sS_]
     refine takeAt 12 44 (.pointer (some ⟨w.heap.size, q * 2, none⟩)) rfl rfl (by kernel_rfl) (by kernel_rfl) (by kernel_rfl) i_ (yields (by rfl) (fun w => by kernel_rfl)) hS ?_
     simp only [Act.put, sA_, s0_, sS_]
     refine takeAt 13 45 (.int .i64 (x)) rfl rfl (by kernel_rfl) (by kernel_rfl) (by kernel_rfl) i_ (loadI_y w.heap.size (q * 2) (x) (fun u h => (h _ _ (by omega)).trans r_q0) rfl rfl (by rfl)) hS ?_
     simp only [Act.put, sA_, s0_, sS_]
     refine takeAt 15 47 ((.slice (some ⟨w.heap.size, 0, none⟩) n n)) rfl rfl (by kernel_rfl) (by kernel_rfl) (by kernel_rfl) i_ (yields (by rfl) (fun w => by kernel_rfl)) hS ?_
     simp only [Act.put, sA_, s0_, sS_]
     refine takeAt 16 48 (.pointer (some ⟨wr.heap.size, 1, none⟩)) rfl rfl (by kernel_rfl) (by kernel_rfl) (by kernel_rfl) i_ (yields (by rfl) (fun w => by kernel_rfl)) hS ?_
     simp only [Act.put, sA_, s0_, sS_]
     refine takeAt 17 49 (.int .i64 ((l k).a)) rfl rfl (by kernel_rfl) (by kernel_rfl) (by kernel_rfl) i_ (loadI_y wr.heap.size (1) ((l k).a) (fun u h => (h _ _ (by omega)).trans c1) rfl rfl (by rfl)) hS ?_
     simp only [Act.put, sA_, s0_, sS_]
     refine takeAt 18 50 (.pointer (some ⟨w.heap.size, p * 2, none⟩)) rfl rfl (by kernel_rfl) (by kernel_rfl) (by kernel_rfl) i_ (idxS_y w.heap.size n p hi_p.out rfl rfl rfl (by rfl)) hS ?_
     simp only [Act.put, sA_, s0_, sS_]
     refine takeAt 19 51 (.pointer (some ⟨w.heap.size, p * 2 + 1, none⟩)) rfl rfl (by kernel_rfl) (by kernel_rfl) (by kernel_rfl) i_ (yields (by rfl) (fun w => by kernel_rfl)) hS ?_
     simp only [Act.put, sA_, s0_, sS_]
     refine takeAt 20 52 (.int .i64 (y')) rfl rfl (by kernel_rfl) (by kernel_rfl) (by kernel_rfl) i_ (loadI_y w.heap.size (p * 2 + 1) (y') (fun u h => (h _ _ (by omega)).trans r_p1) rfl rfl (by rfl)) hS ?_
     simp only [Act.put, sA_, s0_, sS_]
     refine takeAt 21 53 ((.slice (some ⟨w.heap.size, 0, none⟩) n n)) rfl rfl (by kernel_rfl) (by kernel_rfl) (by kernel_rfl) i_ (yields (by rfl) (fun w => by kernel_rfl)) hS ?_
     simp only [Act.put, sA_, s0_, sS_]
     refine takeAt 22 54 (.pointer (some ⟨wr.heap.size, 2, none⟩)) rfl rfl (by kernel_rfl) (by kernel_rfl) (by kernel_rfl) i_ (yields (by rfl) (fun w => by kernel_rfl)) hS ?_
     simp only [Act.put, sA_, s0_, sS_]
     refine takeAt 23 55 (.int .i64 ((l k).b)) rfl rfl (by kernel_rfl) (by kernel_rfl) (by kernel_rfl) i_ (loadI_y wr.heap.size (2) ((l k).b) (fun u h => (h _ _ (by omega)).trans c2) rfl rfl (by rfl)) hS ?_
     simp only [Act.put, sA_, s0_, sS_]
     refine takeAt 24 56 (.pointer (some ⟨w.heap.size, q * 2, none⟩)) rfl rfl (by kernel_rfl) (by kernel_rfl) (by kernel_rfl) i_ (idxS_y w.heap.size n q hi_q.out rfl rfl rfl (by rfl)) hS ?_
     simp only [Act.put, sA_, s0_, sS_]
     refine takeAt 25 57 (.pointer (some ⟨w.heap.size, q * 2 + 1, none⟩)) rfl rfl (by kernel_rfl) (by kernel_rfl) (by kernel_rfl) i_ (yields (by rfl) (fun w => by kernel_rfl)) hS ?_
     simp only [Act.put, sA_, s0_, sS_]
     refine takeAt 26 58 (.int .i64 (y)) rfl rfl (by kernel_rfl) (by kernel_rfl) (by kernel_rfl) i_ (loadI_y w.heap.size (q * 2 + 1) (y) (fun u h => (h _ _ (by omega)).trans r_q1) rfl rfl (by rfl)) hS ?_
     simp only [Act.put, sA_, s0_, sS_]
     refine callAt 14 46 rfl rfl (by kernel_rfl) (by rfl) (by kernel_rfl) (C1.out _) ?_
     rintro e w' ⟨rfl, rfl⟩
     refine ⟨_, rfl, hS, ?_⟩
     simp only [Act.put, sA_, s0_, sS_]
     refine callAt 27 59 rfl rfl (by kernel_rfl) (by rfl) (by kernel_rfl) (C2.out _) ?_
     rintro e w' ⟨rfl, rfl⟩
     refine ⟨_, rfl, hS, ?_⟩
     simp only [Act.put, sA_, s0_, sS_]
     refine takeAt 28 60 (.agg #[.int .i64 (plusZ x' x), .int .i64 (plusZ y' y)]) rfl rfl (by kernel_rfl) (by kernel_rfl) (by kernel_rfl) i_ (yields (by rfl) (fun w => by kernel_rfl)) hS ?_
     simp only [Act.put, sA_, s0_, sS_]
     refine takeAt 29 61 (.pointer (some ⟨w.heap.size, k * 2, none⟩)) rfl rfl (by kernel_rfl) (by kernel_rfl) (by kernel_rfl) i_ (idxS_y w.heap.size n k ⟨hlt, rfl⟩ rfl rfl rfl (by rfl)) hS ?_
     simp only [Act.put, sA_, s0_, sS_]
     refine pairAt 30 w.heap.size (k * 2) (plusZ x' x) (plusZ y' y) rk.1 rk.2 (fr _) (fr _) rfl rfl rfl (by kernel_rfl) (by rfl) rfl rfl (hS.store _ _) ?_
     refine wpAnyH_done (by kernel_rfl) ?_ _
     clear hS
     go_wp2_with fail
     go_roundw
     case rel => exact ⟨k + 1, by omega, by go_num, ((RW.out.drew.set _ _).set _ _).congr (sp_next (fun i h h' => by simp [h, h']) (by simp [HV.out]) (by simp [HV.out])), (BW.out.drew.setCell (p := ⟨w.heap.size, _, none⟩) (Nat.le_refl _) _).setCell (p := ⟨w.heap.size, _, none⟩) (Nat.le_refl _) _⟩
     case measure => simp [intOf]; omega
    ·have HV0 := Lib.hid (show len l (k + 1) = (min x' x, moreZ y' y) by rw [HD.out, if_neg (by omega)])
     have C2 := Lib.hid (show ∀ w, Calls Tryz.prog 91 #[.int .i64 y', .int .i64 y] w fun e w' => e = .returned (.int .i64 (moreZ y' y)) ∧ w = w' from fun w => greater_any y' y w HBB.out.2.2 HBB.out.1.2)
     have HMI := Lib.hid (show min x' x = if x < x' then x else x' by split <;> omega)
     rw [e9] at c0
     clear e9 HD
     obtain ⟨W, hW⟩ : ∃ W, W = wr.alloc (.cells #[.int .i64 9, .int .i64 (l k).a, .int .i64 (l k).b, .int .u64 (l k).s0, .int .u64 (l k).s1, .int .u64 (l k).s2, .int .u64 (l k).s3, .int .i64 (l k).mn, .int .i64 (l k).mx, .int .i64 (l k).md, .int .i64 (l k).n, .bool (l k).f] 76) := ⟨_, rfl⟩
     have RW := Lib.hid (show W.rowIs w.heap.size 133 (n * 2) (spV l k) by rw [hW]; exact HR.out.alloc _)
     have XW := Lib.hid (show Box12 W 76 wr.heap.size 9 (l k).a (l k).b (l k).s0 (l k).s1 (l k).s2 (l k).s3 (l k).mn (l k).mx (l k).md (l k).n (l k).f by rw [hW]; exact Box12.new _ _ _ _ _ _ _ _ _ _ _ _ _ _)
     have BW := Lib.hid (show Below w.heap.size w W by rw [hW]; exact HB.out.alloc HB.out.size _)
     have HW := Lib.hid hW
     clear hW
     go_wp2_with fail
     rw [← HW.out]
     clear c0 c1 c2 c3 c4 c5 c6 c7 c8 c9 c10 c11 HW
     obtain ⟨c0, c1, c2, c3, c4, c5, c6, c7, c8, -⟩ := XW.out.cells
     have fr := RW.out.frozen
     have rk : W.cell? ⟨w.heap.size, k * 2, none⟩ = some (spV l k (k * 2)) ∧ W.cell? ⟨w.heap.size, k * 2 + 1, none⟩ = some (spV l k (k * 2 + 1)) := ⟨RW.out.cell (by omega), RW.out.cell (by omega)⟩
     have hq1 := HQ.out
     have hp1 := HP.out
     have r_q0 : W.cell? ⟨w.heap.size, q * 2, none⟩ = some (.int .i64 x) := by rw [RW.out.cell (by omega), (sp_at l k q (by omega)).1, hq1, HX.out.1]
     have r_q1 : W.cell? ⟨w.heap.size, q * 2 + 1, none⟩ = some (.int .i64 y) := by rw [RW.out.cell (by omega), (sp_at l k q (by omega)).2, hq1, HX.out.2]
     have r_p0 : W.cell? ⟨w.heap.size, p * 2, none⟩ = some (.int .i64 x') := by rw [RW.out.cell (by omega), (sp_at l k p (by omega)).1, hp1, HX'.out.1]
     have r_p1 : W.cell? ⟨w.heap.size, p * 2 + 1, none⟩ = some (.int .i64 y') := by rw [RW.out.cell (by omega), (sp_at l k p (by omega)).2, hp1, HX'.out.2]
     clear hq1 hp1
     have hS : Off w.heap.size k W W.drew := Off.drew _ _ _
     have gx : wr.heap.size ≠ w.heap.size := by omega
     refine wp_region_held_drew (S := Off w.heap.size k W) (by kernel_rfl) hS (fun _ => ?_)
     refine takeAt 0 64 ((.slice (some ⟨w.heap.size, 0, none⟩) n n)) rfl rfl (by kernel_rfl) (by kernel_rfl) (by kernel_rfl) i_ (yields (by rfl) (fun w => by kernel_rfl)) hS ?_
     simp only [Act.put, sA_, s0_, sS_]
     refine takeAt 1 65 (.int .i64 (k : Int)) rfl rfl (by kernel_rfl) (by kernel_rfl) (by kernel_rfl) i_ (yields (by rfl) (fun w => by kernel_rfl)) hS ?_
     simp only [Act.put, sA_, s0_, sS_]
     refine takeAt 2 66 ((.slice (some ⟨w.heap.size, 0, none⟩) n n)) rfl rfl (by kernel_rfl) (by kernel_rfl) (by kernel_rfl) i_ (yields (by rfl) (fun w => by kernel_rfl)) hS ?_
     simp only [Act.put, sA_, s0_, sS_]
     refine takeAt 3 67 (.pointer (some ⟨wr.heap.size, 1, none⟩)) rfl rfl (by kernel_rfl) (by kernel_rfl) (by kernel_rfl) i_ (yields (by rfl) (fun w => by kernel_rfl)) hS ?_
     simp only [Act.put, sA_, s0_, sS_]
     refine takeAt 4 68 (.int .i64 ((l k).a)) rfl rfl (by kernel_rfl) (by kernel_rfl) (by kernel_rfl) i_ (loadI_y wr.heap.size (1) ((l k).a) (fun u h => (h _ _ (by omega)).trans c1) rfl rfl (by rfl)) hS ?_
     simp only [Act.put, sA_, s0_, sS_]
     refine takeAt 5 69 (.pointer (some ⟨w.heap.size, p * 2, none⟩)) rfl rfl (by kernel_rfl) (by kernel_rfl) (by kernel_rfl) i_ (idxS_y w.heap.size n p hi_p.out rfl rfl rfl (by rfl)) hS ?_
     simp only [Act.put, sA_, s0_, sS_]
     refine takeAt 6 70 (.pointer (some ⟨w.heap.size, p * 2, none⟩)) rfl rfl (by kernel_rfl) (by kernel_rfl) (by kernel_rfl) i_ (yields (by rfl) (fun w => by kernel_rfl)) hS ?_
     simp only [Act.put, sA_, s0_, sS_]
     refine takeAt 7 71 (.int .i64 (x')) rfl rfl (by kernel_rfl) (by kernel_rfl) (by kernel_rfl) i_ (loadI_y w.heap.size (p * 2) (x') (fun u h => (h _ _ (by omega)).trans r_p0) rfl rfl (by rfl)) hS ?_
     simp only [Act.put, sA_, s0_, sS_]
     refine takeAt 8 72 ((.slice (some ⟨w.heap.size, 0, none⟩) n n)) rfl rfl (by kernel_rfl) (by kernel_rfl) (by kernel_rfl) i_ (yields (by rfl) (fun w => by kernel_rfl)) hS ?_
     simp only [Act.put, sA_, s0_, sS_]
     refine takeAt 9 73 (.pointer (some ⟨wr.heap.size, 2, none⟩)) rfl rfl (by kernel_rfl) (by kernel_rfl) (by kernel_rfl) i_ (yields (by rfl) (fun w => by kernel_rfl)) hS ?_
     simp only [Act.put, sA_, s0_, sS_]
     refine takeAt 10 74 (.int .i64 ((l k).b)) rfl rfl (by kernel_rfl) (by kernel_rfl) (by kernel_rfl) i_ (loadI_y wr.heap.size (2) ((l k).b) (fun u h => (h _ _ (by omega)).trans c2) rfl rfl (by rfl)) hS ?_
     simp only [Act.put, sA_, s0_, sS_]
     refine takeAt 11 75 (.pointer (some ⟨w.heap.size, q * 2, none⟩)) rfl rfl (by kernel_rfl) (by kernel_rfl) (by kernel_rfl) i_ (idxS_y w.heap.size n q hi_q.out rfl rfl rfl (by rfl)) hS ?_
     simp only [Act.put, sA_, s0_, sS_]
     refine takeAt 12 76 (.pointer (some ⟨w.heap.size, q * 2, none⟩)) rfl rfl (by kernel_rfl) (by kernel_rfl) (by kernel_rfl) i_ (yields (by rfl) (fun w => by kernel_rfl)) hS ?_
     simp only [Act.put, sA_, s0_, sS_]
     refine takeAt 13 77 (.int .i64 (x)) rfl rfl (by kernel_rfl) (by kernel_rfl) (by kernel_rfl) i_ (loadI_y w.heap.size (q * 2) (x) (fun u h => (h _ _ (by omega)).trans r_q0) rfl rfl (by rfl)) hS ?_
     simp only [Act.put, sA_, s0_, sS_]
     refine takeAt 15 79 ((.slice (some ⟨w.heap.size, 0, none⟩) n n)) rfl rfl (by kernel_rfl) (by kernel_rfl) (by kernel_rfl) i_ (yields (by rfl) (fun w => by kernel_rfl)) hS ?_
     simp only [Act.put, sA_, s0_, sS_]
     refine takeAt 16 80 (.pointer (some ⟨wr.heap.size, 1, none⟩)) rfl rfl (by kernel_rfl) (by kernel_rfl) (by kernel_rfl) i_ (yields (by rfl) (fun w => by kernel_rfl)) hS ?_
     simp only [Act.put, sA_, s0_, sS_]
     refine takeAt 17 81 (.int .i64 ((l k).a)) rfl rfl (by kernel_rfl) (by kernel_rfl) (by kernel_rfl) i_ (loadI_y wr.heap.size (1) ((l k).a) (fun u h => (h _ _ (by omega)).trans c1) rfl rfl (by rfl)) hS ?_
     simp only [Act.put, sA_, s0_, sS_]
     refine takeAt 18 82 (.pointer (some ⟨w.heap.size, p * 2, none⟩)) rfl rfl (by kernel_rfl) (by kernel_rfl) (by kernel_rfl) i_ (idxS_y w.heap.size n p hi_p.out rfl rfl rfl (by rfl)) hS ?_
     simp only [Act.put, sA_, s0_, sS_]
     refine takeAt 19 83 (.pointer (some ⟨w.heap.size, p * 2 + 1, none⟩)) rfl rfl (by kernel_rfl) (by kernel_rfl) (by kernel_rfl) i_ (yields (by rfl) (fun w => by kernel_rfl)) hS ?_
     simp only [Act.put, sA_, s0_, sS_]
     refine takeAt 20 84 (.int .i64 (y')) rfl rfl (by kernel_rfl) (by kernel_rfl) (by kernel_rfl) i_ (loadI_y w.heap.size (p * 2 + 1) (y') (fun u h => (h _ _ (by omega)).trans r_p1) rfl rfl (by rfl)) hS ?_
     simp only [Act.put, sA_, s0_, sS_]
     refine takeAt 21 85 ((.slice (some ⟨w.heap.size, 0, none⟩) n n)) rfl rfl (by kernel_rfl) (by kernel_rfl) (by kernel_rfl) i_ (yields (by rfl) (fun w => by kernel_rfl)) hS ?_
     simp only [Act.put, sA_, s0_, sS_]
     refine takeAt 22 86 (.pointer (some ⟨wr.heap.size, 2, none⟩)) rfl rfl (by kernel_rfl) (by kernel_rfl) (by kernel_rfl) i_ (yields (by rfl) (fun w => by kernel_rfl)) hS ?_
     simp only [Act.put, sA_, s0_, sS_]
     refine takeAt 23 87 (.int .i64 ((l k).b)) rfl rfl (by kernel_rfl) (by kernel_rfl) (by kernel_rfl) i_ (loadI_y wr.heap.size (2) ((l k).b) (fun u h => (h _ _ (by omega)).trans c2) rfl rfl (by rfl)) hS ?_
     simp only [Act.put, sA_, s0_, sS_]
     refine takeAt 24 88 (.pointer (some ⟨w.heap.size, q * 2, none⟩)) rfl rfl (by kernel_rfl) (by kernel_rfl) (by kernel_rfl) i_ (idxS_y w.heap.size n q hi_q.out rfl rfl rfl (by rfl)) hS ?_
     simp only [Act.put, sA_, s0_, sS_]
     refine takeAt 25 89 (.pointer (some ⟨w.heap.size, q * 2 + 1, none⟩)) rfl rfl (by kernel_rfl) (by kernel_rfl) (by kernel_rfl) i_ (yields (by rfl) (fun w => by kernel_rfl)) hS ?_
     simp only [Act.put, sA_, s0_, sS_]
     refine takeAt 26 90 (.int .i64 (y)) rfl rfl (by kernel_rfl) (by kernel_rfl) (by kernel_rfl) i_ (loadI_y w.heap.size (q * 2 + 1) (y) (fun u h => (h _ _ (by omega)).trans r_q1) rfl rfl (by rfl)) hS ?_
     simp only [Act.put, sA_, s0_, sS_]
     refine takeAt 14 78 (.int .i64 (min x' x)) rfl rfl (by kernel_rfl) (by kernel_rfl) (by kernel_rfl) i_ (yields (by rfl) (fun w => by rw [HMI.out]; kernel_rfl)) hS ?_
     simp only [Act.put, sA_, s0_, sS_]
     refine callAt 27 91 rfl rfl (by kernel_rfl) (by rfl) (by kernel_rfl) (C2.out _) ?_
     rintro e w' ⟨rfl, rfl⟩
     refine ⟨_, rfl, hS, ?_⟩
     simp only [Act.put, sA_, s0_, sS_]
     refine takeAt 28 92 (.agg #[.int .i64 (min x' x), .int .i64 (moreZ y' y)]) rfl rfl (by kernel_rfl) (by kernel_rfl) (by kernel_rfl) i_ (yields (by rfl) (fun w => by kernel_rfl)) hS ?_
     simp only [Act.put, sA_, s0_, sS_]
     refine takeAt 29 93 (.pointer (some ⟨w.heap.size, k * 2, none⟩)) rfl rfl (by kernel_rfl) (by kernel_rfl) (by kernel_rfl) i_ (idxS_y w.heap.size n k ⟨hlt, rfl⟩ rfl rfl rfl (by rfl)) hS ?_
     simp only [Act.put, sA_, s0_, sS_]
     refine pairAt 30 w.heap.size (k * 2) (min x' x) (moreZ y' y) rk.1 rk.2 (fr _) (fr _) rfl rfl rfl (by kernel_rfl) (by rfl) rfl rfl (hS.store _ _) ?_
     refine wpAnyH_done (by kernel_rfl) ?_ _
     clear hS
     go_wp2_with fail
     go_roundw
     case rel => exact ⟨k + 1, by omega, by go_num, ((RW.out.drew.set _ _).set _ _).congr (sp_next (fun i h h' => by simp [h, h']) (by simp [HV0.out]) (by simp [HV0.out])), (BW.out.drew.setCell (p := ⟨w.heap.size, _, none⟩) (Nat.le_refl _) _).setCell (p := ⟨w.heap.size, _, none⟩) (Nat.le_refl _) _⟩
     case measure => simp [intOf]; omega
  ·obtain rfl : n = k := by omega
   go_wp2_with fail
   go_ret
   exact ⟨rfl, HR.out, HB.out⟩
end Go.Proofs.YteggpecbeagohaaGreatDoor.Ast
namespace Go.Proofs.YteggpecbeagohaaGreatDoor.Ast
open Go.RowKit
theorem Nodes.call {w u : World} {A : Option Addr} {n : Nat} {l : Nat → Nd} (h : Nodes w A n l) (hb : Below w.heap.size w u) : Nodes u A n l := h.below hb (Nat.le_refl _)
theorem shape_0 {l : Nat → Nd} {n : Nat} (h : shapeZ l n = 0) : formZ l n = 0 ∧ dep l n ≤ 40 := by
 unfold shapeZ at h
 split at h
 ·omega
 ·rename_i h1
  refine ⟨h, ?_⟩
  rcases Nat.lt_or_ge 40 (dep l n) with h2 | h2
  ·exact absurd ⟨h, h2⟩ h1
  ·exact h2
def lenZ (l : Nat → Nd) (n : Nat) (i : Int) : Int × Int × Int := if shapeZ l n ≠ 0 then (0, 0, shapeZ l n) else if i < 0 ∨ (n : Int) ≤ i then (0, 0, 5) else ((len l (i.toNat + 1)).1, (len l (i.toNat + 1)).2, 0)
abbrev lenV (x : Int × Int × Int) : Value := .tuple #[.int .i64 x.1, .int .i64 x.2.1, .int .i64 x.2.2]
theorem ret_3 {a b c : Int} {x : Int × Int × Int} (h : x = (a, b, c)) : Ending.returned (.tuple #[.int .i64 a, .int .i64 b, .int .i64 c]) = .returned (lenV x) := by rw [h]
end Go.Proofs.YteggpecbeagohaaGreatDoor.Ast
namespace Go.Proofs.YteggpecbeagohaaGreatDoor.Ast
open Go.RowKit
theorem grp_len (l : Nat → Nd) : ∀ j, siz l j ≠ 0 → (grp l j).length ≤ siz l j := by
 intro j
 induction j using Nat.strongRecOn with
 | _ j ih =>
   intro hs
   cases j with
   | zero => exact absurd (siz_zero l) hs
   | succ m =>
     obtain ⟨-, hp⟩ := siz_pos hs
     rw [grp_succ]
     rcases hp with ⟨hk, -, -, hz⟩ | ⟨hk, h0, -, -, hz⟩ | ⟨hk, h0, h1, -, -, hz⟩
     ·rw [if_pos hk]; simp
     ·rw [hk, if_neg (show ¬ (1 : Int) = 0 by decide), if_pos rfl, hz]
      have := ih m (by omega) h0
      split
      ·simp; exact this
      ·omega
     ·rw [hk, if_neg (show ¬ (2 : Int) = 0 by decide), if_neg (show ¬ (2 : Int) = 1 by decide), hz, List.length_append]
      have a := ih m (by omega) h0
      have b := ih (m - siz l m) (by omega) h1
      omega
def Ints (w : World) (base : Nat) (v : Value) (xs : List Value) : Prop := ∃ g cap, v = .slice (some ⟨g, 0, none⟩) xs.length cap ∧ w.ownsRow base 3 1 v xs.length xs
theorem Ints.ne {w : World} {base : Nat} {v : Value} {xs : List Value} (h : Ints w base v xs) : v ≠ .slice none 0 0 := by
 obtain ⟨g, cap, rfl, _⟩ := h
 intro e
 cases e
theorem Ints.empty (w : World) (base : Nat) (hb : base ≤ w.heap.size) : Ints (w.alloc (.cells #[] 3)) base (.slice (some ⟨w.heap.size, 0, none⟩) 0 0) [] := ⟨w.heap.size, 0, rfl, own_empty w _ _ _ hb⟩
theorem nums_one (w : World) (z : Int) : ∀ j u, [Value.int .i64 z][j]? = some u → (w.alloc (.cells #[.int .i64 z] 3)).cell? (Addr.add ⟨w.heap.size, 0, none⟩ j) = some u := by
 intro j u hu
 match j, hu with
 | 0, hu =>
   simp at hu
   subst hu
   rw [Addr.add_lit]
   unfold World.cell?
   rw [heap_alloc_new]
   rfl
end Go.Proofs.YteggpecbeagohaaGreatDoor.Ast
namespace Go.Proofs.YteggpecbeagohaaGreatDoor.Ast
open Go.RowKit
set_option maxHeartbeats 1000000 in
theorem lenZ_any (A : Option Addr) (n cap : Nat) (l : Nat → Nd) (i : Int) (w : World) (hn : n ≤ 1000000) (hl : Nodes w A n l) :
  Calls Tryz.prog 39 #[.agg #[.slice A n cap], .int .i64 i] w fun e w' => e = .returned (lenV (lenZ l n i)) ∧ Below w.heap.size w w' := by
 have HL := Lib.hid hl
 clear hl
 go_enter Tryz.func39, Tryz.ntmps39
 go_wp2_with fail
 refine (rightShape_any A n cap l _ hn (HL.out.below (B := w.heap.size) (by go_grown) (Nat.le_refl _))).mono ?_
 rintro e w1 ⟨rfl, hb⟩
 have T1 := Lib.hid ((TreeBox.new w A n cap).call hb)
 have B1 := Lib.hid (thenB (B := w.heap.size) (w := w) (by go_grown) hb (by simp))
 clear hb
 have c0 := T1.out.cell
 by_cases h0 : shapeZ l n = 0
 ·have hF := form_0 (shape_0 h0).1
  rw [h0]
  by_cases hi : i < 0
  ·have HV := Lib.hid (show lenZ l n i = (0, 0, 5) by unfold lenZ; rw [if_neg (by omega), if_pos (.inl hi)])
   clear h0 hF
   go_wp2_with fail
   go_ret3
   exact ⟨ret_3 HV.out, B1.out⟩
  ·by_cases hj : (n : Int) ≤ i
   ·have HV := Lib.hid (show lenZ l n i = (0, 0, 5) by unfold lenZ; rw [if_neg (by omega), if_pos (.inr hj)])
    clear h0 hF
    go_wp2_with fail
    go_ret3
    exact ⟨ret_3 HV.out, B1.out⟩
   ·obtain ⟨m, rfl⟩ : ∃ m : Nat, i = (m : Int) := ⟨i.toNat, by omega⟩
    have hm : m < n := by omega
    have HV := Lib.hid (show lenZ l n m = ((len l (m + 1)).1, (len l (m + 1)).2, 0) by unfold lenZ; rw [if_neg (by omega), if_neg (by omega)]; simp)
    have HS := Lib.hid hF.2.2
    have hj' : ¬ n ≤ m := by omega
    clear h0 hF
    go_wp2_with fail
    (with_reducible refine (spans_any A n cap l _ hn HS.out (HL.out.call B1.out)).mono ?_)
    rintro e w2 ⟨rfl, hr, hb⟩
    have B2 := Lib.hid (thenB B1.out hb B1.out.size)
    have r0 := hr.cell (i := m * 2) (by omega)
    have r1 := hr.cell (i := m * 2 + 1) (by omega)
    rw [(sp_at l n m hm).1] at r0
    rw [(sp_at l n m hm).2] at r1
    have hlt : w1.heap.size < w2.heap.size := hr.lt
    clear hb hr c0
    go_wp2_with fail
    go_quiet (fail)
    go_wp2_with fail
    go_ret3
    exact ⟨ret_3 HV.out, below_drewN (B2.out.alloc B2.out.size _) _⟩
 ·have HV := Lib.hid (show lenZ l n i = (0, 0, shapeZ l n) by unfold lenZ; rw [if_pos h0])
  have q : (shapeZ l n == 0) = false := by simpa using h0
  clear h0
  go_wp2_with fail
  go_ret3
  exact ⟨ret_3 HV.out, B1.out⟩
def behB (l : Nat → Nd) : Nat → Bool
 | 0 => true
 | k + 1 => behB l k && (if (l k).k = 15 ∨ (l k).k = 16 then decide ((len l k).1 = (len l k).2 ∧ (len l k).2 ≤ 255) else true)
theorem beh_no {l : Nat → Nd} {k : Nat} (h : behB l k = false) : ∀ d, behB l (k + d) = false
 | 0 => h
 | d + 1 => by rw [← Nat.add_assoc, behB, beh_no h d]; rfl
theorem beh_none {l : Nat → Nd} {k n : Nat} (h : behB l k = false) (hk : k ≤ n) : behB l n = false := by
 rw [show n = k + (n - k) by omega]; exact beh_no h _
set_option maxHeartbeats 2000000 in
theorem rightBehinds_any (A : Option Addr) (n cap : Nat) (l : Nat → Nd) (w : World) (hn : n ≤ 1000000) (hs : siz l n = n) (hl : Nodes w A n l) :
  Calls Tryz.prog 38 #[.slice A n cap] w fun e w' => e = .returned (.bool (behB l n)) ∧ Below w.heap.size w w' := by
 have HL := Lib.hid hl
 have HS := Lib.hid hs
 clear hl hs
 go_enter Tryz.func38, Tryz.ntmps38
 go_wp2_with fail
 (with_reducible refine (spans_any A n cap l _ hn HS.out HL.out).mono ?_)
 rintro e w0 ⟨rfl, hr, hb⟩
 have R0 := Lib.hid hr
 have B0 := Lib.hid hb
 clear hr hb
 go_wp2_with fail
 go_loopw [11] (fun i wr => ∃ k : Nat, k ≤ n ∧ i = .int .i64 k ∧ behB l k = true ∧ wr.rowIs w.heap.size 133 (n * 2) (spV l n) ∧ Below w.heap.size w wr) (fun i _ => n - (intOf i).toNat)
 case atStart => exact ⟨0, Nat.zero_le _, rfl, rfl, R0.out, B0.out⟩
 case round =>
  obtain ⟨k, hk, rfl, hbeh, hrow, hb⟩ := hrel
  have HR := Lib.hid hrow
  have HB := Lib.hid hb
  have HH := Lib.hid hbeh
  clear hrow hb hbeh R0 B0
  by_cases hlt : k < n
  ·obtain ⟨b, o, rfl, hN⟩ := (HL.out.below HB.out (Nat.le_refl _)).at_ (by omega)
   obtain ⟨c0, c1, c2, c3, c4, c5, c6, c7, c8, c9, c10, c11⟩ := hN.2 k hlt
   have hbw := hN.1
   have hsz := siz_of_whole HS.out hlt
   obtain ⟨hf, hp⟩ := siz_pos hsz
   have lr : w.heap.size < wr.heap.size := HR.out.lt
   have HX := Lib.hid (show behB l (k + 1) = (behB l k && (if (l k).k = 15 ∨ (l k).k = 16 then decide ((len l k).1 = (len l k).2 ∧ (len l k).2 ≤ 255) else true)) from rfl)
   clear hN hsz hf
   by_cases hkk : (l k).k = 15 ∨ (l k).k = 16
   ·have hk1 : kidsZ (l k).k = 1 := by unfold kidsZ; rw [if_neg (by omega), if_pos (by omega)]
    obtain ⟨h1, ha⟩ : siz l k ≠ 0 ∧ (l k).a = (k : Int) - 1 := by
     rcases hp with ⟨h, -⟩ | ⟨-, h1, ha, -⟩ | ⟨h, -⟩
     ·omega
     ·exact ⟨h1, ha⟩
     ·omega
    have k0 : k ≠ 0 := by rintro rfl; exact h1 rfl
    rw [ha] at c1
    have r0 := HR.out.cell (i := (k - 1) * 2) (by omega)
    have r1 := HR.out.cell (i := (k - 1) * 2 + 1) (by omega)
    rw [(sp_at l n (k - 1) (by omega)).1, show k - 1 + 1 = k by omega] at r0
    rw [(sp_at l n (k - 1) (by omega)).2, show k - 1 + 1 = k by omega] at r1
    have k1 : (1 : Int) ≤ (k : Int) := by omega
    have HX' := Lib.hid (show behB l (k + 1) = decide ((len l k).1 = (len l k).2 ∧ (len l k).2 ≤ 255) by rw [HX.out, HH.out, if_pos hkk]; simp)
    clear hp hk1 h1 ha k0
    generalize (len l k).1 = x at r0 HX'
    generalize (len l k).2 = y at r1 HX'
    by_cases exy : x = y
    ·subst exy
     by_cases e5 : x ≤ 255
     ·have HZ := Lib.hid (show behB l (k + 1) = true by rw [HX'.out]; simp; exact e5)
      have e6 : ¬ 255 < x := by omega
      rcases hkk with e | e
      ·rw [e] at c0
       clear e
       go_wp2_with fail
       go_roundw
       case rel => exact ⟨k + 1, by omega, by go_num, HZ.out, (HR.out.alloc _).alloc _, (HB.out.alloc HB.out.size _).alloc (by simp; have := HB.out.size; omega) _⟩
       case measure => simp [intOf]; omega
      ·rw [e] at c0
       clear e
       go_wp2_with fail
       go_roundw
       case rel => exact ⟨k + 1, by omega, by go_num, HZ.out, (HR.out.alloc _).alloc _, (HB.out.alloc HB.out.size _).alloc (by simp; have := HB.out.size; omega) _⟩
       case measure => simp [intOf]; omega
     ·have HZ := Lib.hid (show behB l n = false from beh_none (k := k + 1) (by rw [HX'.out]; simp; omega) (by omega))
      have e6 : 255 < x := by omega
      clear e5
      rcases hkk with e | e
      ·rw [e] at c0
       clear e
       go_wp2_with fail
       go_ret
       exact ⟨by rw [HZ.out]; rfl, (HB.out.alloc HB.out.size _).alloc (by simp; have := HB.out.size; omega) _⟩
      ·rw [e] at c0
       clear e
       go_wp2_with fail
       go_ret
       exact ⟨by rw [HZ.out]; rfl, (HB.out.alloc HB.out.size _).alloc (by simp; have := HB.out.size; omega) _⟩
    ·have HZ := Lib.hid (show behB l n = false from beh_none (k := k + 1) (by rw [HX'.out]; simp [exy]) (by omega))
     have e6 : (x != y) = true := by simpa using exy
     have e7 : (x == y) = false := by simpa using exy
     have e8 : decide (x = y) = false := by simpa using exy
     rcases hkk with e | e
     ·rw [e] at c0
      clear e
      go_wp2_with fail
      go_ret
      exact ⟨by rw [HZ.out]; rfl, (HB.out.alloc HB.out.size _).alloc (by simp; have := HB.out.size; omega) _⟩
     ·rw [e] at c0
      clear e
      go_wp2_with fail
      go_ret
      exact ⟨by rw [HZ.out]; rfl, (HB.out.alloc HB.out.size _).alloc (by simp; have := HB.out.size; omega) _⟩
   ·have HZ := Lib.hid (show behB l (k + 1) = true by rw [HX.out, HH.out, if_neg hkk]; rfl)
    have n15 : ¬ (l k).k = 15 := by omega
    have n16 : ¬ (l k).k = 16 := by omega
    have q1 : ((l k).k != 15) = true := by simpa using n15
    have q2 : ((l k).k != 16) = true := by simpa using n16
    have q3 : ((l k).k == 15) = false := by simpa using n15
    have q4 : ((l k).k == 16) = false := by simpa using n16
    have q5 : decide ((l k).k = 15) = false := by simpa using n15
    have q6 : decide ((l k).k = 16) = false := by simpa using n16
    clear hkk hp
    go_wp2_with fail
    go_roundw
    case rel => exact ⟨k + 1, by omega, by go_num, HZ.out, HR.out.alloc _, HB.out.alloc HB.out.size _⟩
    case measure => simp [intOf]; omega
  ·obtain rfl : n = k := by omega
   go_wp2_with fail
   go_ret
   exact ⟨by rw [HH.out]; rfl, HB.out⟩
end Go.Proofs.YteggpecbeagohaaGreatDoor.Ast
