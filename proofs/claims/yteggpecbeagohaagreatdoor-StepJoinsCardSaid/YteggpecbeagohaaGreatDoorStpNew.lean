import Derived.Test.YteggpecbeagohaaGreatDoorStpLoopM
import Derived.Test.YteggpecbeagohaaGreatDoorStpOk
import Derived.Test.YteggpecbeagohaaGreatDoorAstG
import Derived.Test.YteggpecbeagohaaGreatDoorAstH
import Derived.Test.YteggpecbeagohaaGreatDoorCapWithM
import Derived.Test.YteggpecbeagohaaGreatDoorMz
namespace Go.Proofs.YteggpecbeagohaaGreatDoor.Stp
open Go.RowKit
open Go.Maps (Keyed IsMap Tidy)
open Frm (Fr Pl frC frL frI dpI putF zF Wf mayF idF I64 BoxV ptr slc plL plC loadFr storeFr resFB getF sizeFr owns_block St stC)
open Cap (Cp cpC zrC withZ agN agB byB)
open Ast (Nd At12 NodesAt Nodes kidsZ rightZ siz cellsL TreeBox)
theorem makePl (w : World) : (Instr.makeSlice 80 (.int .i64 1) (.int .i64 1)).run Tryz.prog w = .ok (slc w.heap.size 1 1) (w.alloc (.cells (plC (zF, 0)) 112)) := by kernel_rfl
set_option maxRecDepth 100000 in
set_option maxHeartbeats 2000000 in
theorem fnew_any (most : Int) (w : World) :
  Calls Tryz.prog 21 #[.int .i64 most] w fun e w' => Below w.heap.size w w' ∧ ((0 ≤ most ∧ most ≤ 1048576 ∧ ∃ p b m, e = .returned (.tuple #[ptr p, .int .i64 0]) ∧ w.heap.size ≤ p ∧ w.heap.size ≤ b ∧ w.heap.size ≤ m ∧ St w' p b m most [(zF, 0)]) ∨
   (¬ (0 ≤ most ∧ most ≤ 1048576) ∧ e = .returned (.tuple #[.pointer none, .int .i64 1]))) := by
 by_cases h0 : 0 ≤ most
 ·by_cases h1 : most ≤ 1048576
  ·have hmm := @run_makeMap Tryz.prog
   go_enter Tryz.func21, Tryz.ntmps21
   go_wp2_with fail
   rw [makePl]
   go_wp2_with fail
   go_ret2
   obtain ⟨W, hW⟩ : ∃ W, (((w.alloc (.cells (plC (zF, 0)) 112)).alloc (.map #[] 0)).alloc (.cells (stC (w.heap.size + 1 + 1) w.heap.size (w.heap.size + 1) 1 1 most) 83)) = W := ⟨_, rfl⟩
   have hB : Below w.heap.size w W := hW ▸ (((Below.refl _ w).alloc (Nat.le_refl _) _).alloc (by simp) _).alloc (by simp; omega) _
   have h1b : BoxV 112 W w.heap.size (plC (zF, 0)) := hW ▸ ((BoxV.new w _).alloc _).alloc _
   have h2b : W.heap[w.heap.size + 1]? = some (.map #[] 0) := by
    rw [← hW, Below.heap_alloc _ _ _ (by simp)]
    have := heap_alloc_new (w.alloc (.cells (plC (zF, 0)) 112)) (.map #[] 0)
    rwa [World.size_alloc] at this
   have h3b : BoxV 83 W (w.heap.size + 1 + 1) (stC (w.heap.size + 1 + 1) w.heap.size (w.heap.size + 1) 1 1 most) := by
    have := BoxV.new (T := 83) ((w.alloc (.cells (plC (zF, 0)) 112)).alloc (.map #[] 0)) (stC (w.heap.size + 1 + 1) w.heap.size (w.heap.size + 1) 1 1 most)
    rw [World.size_alloc, World.size_alloc] at this
    exact hW ▸ this
   rw [hW]
   refine ⟨hB, .inl ⟨h0, h1, _, w.heap.size, w.heap.size + 1, rfl, by omega, Nat.le_refl _, by omega, ⟨1, h3b, rfl, .inr ⟨w.heap.size, 1, _, rfl, Nat.zero_le _, h1b, Nat.le_refl _, by decide, rfl, rfl⟩⟩, ⟨.map [], ⟨#[], 0, h2b, ⟨by simp, MapKept.stamped_empty 0, by simp⟩, Nat.zero_le _, rfl⟩, .made⟩, .made, by simp, h0, h1⟩⟩
  ·have H1 := Lib.hid h1
   have h2 : 1048576 < most := by omega
   clear h1
   go_enter Tryz.func21, Tryz.ntmps21
   go_wp2_with fail
   go_ret2
   exact ⟨by go_grown, .inr (by first | rfl | exact ⟨by omega, rfl⟩)⟩
 ·have H0 := Lib.hid h0
  go_enter Tryz.func21, Tryz.ntmps21
  go_wp2_with fail
  go_ret2
  exact ⟨by go_grown, .inr (by first | rfl | exact ⟨by omega, rfl⟩)⟩
theorem own_at {w : World} {base n : Nat} {v : Value} {l : Nat → Nd} (h : w.ownsRow base 76 12 v n (cellsL l n)) (hn : 0 < n) : ∃ g cn, v = .slice (some ⟨g, 0, none⟩) n cn ∧ base ≤ g ∧ NodesAt w g 0 n l := by
 obtain ⟨A, cap, e, -, hN, hb⟩ := Ast.own_nodes h
 rcases h.2 with ⟨e2, -⟩ | ⟨g, cap2, cur, e2, hg, -⟩
 ·rw [e] at e2
  injection e2 with e3
  subst e3
  obtain ⟨b, o, e4, -⟩ := hN.at_ hn
  cases e4
 ·rw [e] at e2
  injection e2 with e3 e4 e5
  subst e3
  obtain ⟨b, o, e4, hNA⟩ := hN.at_ hn
  injection e4 with e4
  injection e4 with e6 e7
  subst e6; subst e7
  exact ⟨g, cap, e, hg, hNA⟩
structure NwS (w : World) (A : Option Addr) (n cap q : Nat) (cs : Array Value) (u : World) : Prop where
 tree : u.cell? ⟨w.heap.size, 0, none⟩ = some (.slice A n cap)
 tl : w.heap.size < u.heap.size
 store : BoxV 83 u q cs
theorem NwS.call {w : World} {A : Option Addr} {n cap q : Nat} {cs : Array Value} {u v : World} (h : NwS w A n cap q cs u) (k : Below u.heap.size u v) : NwS w A n cap q cs v :=
 ⟨(k.cell (p := ⟨w.heap.size, 0, none⟩) h.tl).trans h.tree, Nat.lt_of_lt_of_le h.tl k.size, h.store.below k h.store.lt⟩
theorem sizeSt4 : (Tryz.prog.info? 83).map (·.size) = some 4 := by kernel_rfl
section
variable {ops : Array Oper} {R : World → Prop} {a : Act} {o : Oper} {x y z : Operand} {w : World}
theorem ldSt_y (g : Nat) (c : Array Value) (hc : c.size = 4) (hR : ∀ u, R u → BoxV 83 u g c) (ho : o.op = .load 83 x) (hx : a.eval x = .pointer (some ⟨g, 0, none⟩)) (hw : Region.wanted o (yielded ops a.tmps) = true) : YieldsIf Tryz.prog ops R o (.agg c) a := by
 refine Or.inl ⟨hw, fun u h => ?_⟩
 unfold execOp
 simp only [ho, hx, Instr.loadAt, Instr.sureAddr, Sem.run_bind, Sem.run_pure, Result.andThen_ok, run_loadVar_row u g _ _ _ _ _ (hR u h) Tryz.underlying83 rfl (by rw [hc]; exact sizeSt4)]
theorem ldSA_y (b : Nat) (A : Option Addr) (n c : Nat) (hR : ∀ u, R u → u.cell? ⟨b, 0, none⟩ = some (.slice A n c)) (ho : o.op = .load 41 x) (hx : a.eval x = .pointer (some ⟨b, 0, none⟩)) (hw : Region.wanted o (yielded ops a.tmps) = true) : YieldsIf Tryz.prog ops R o (.slice A n c) a := ldSN_y b 0 A n c hR ho hx hw
end
def NewRes (w : World) (l : Nat → Nd) (n : Nat) (s : ByteArray) (most : Int) (e : Ending) (w' : World) : Prop :=
 Below w.heap.size w w' ∧ (rightZ l n ≠ 0 ∧ e = .returned (.tuple #[.pointer none, .int .i64 (rightZ l n)]) ∨ rightZ l n = 0 ∧ (10000 < s.size ∧ e = .returned (.tuple #[.pointer none, .int .i64 4]) ∨ s.size ≤ 10000 ∧ (¬ (0 ≤ most ∧ most ≤ 1048576) ∧ e = .returned (.tuple #[.pointer none, .int .i64 1]) ∨
  (0 ≤ most ∧ most ≤ 1048576) ∧ ∃ H b m q, e = .returned (.tuple #[ptr H.p, .int .i64 0]) ∧ Mch w' H ⟨l, n, fun i => (backN l n i : Int), s, most⟩ b m (some q) [(zF, 0)] ∧ w.heap.size ≤ H.p ∧ w.heap.size ≤ b ∧ w.heap.size ≤ m ∧ w.heap.size ≤ q ∧ w.heap.size ≤ H.g ∧ w.heap.size ≤ H.h)))
set_option maxRecDepth 100000 in
set_option maxHeartbeats 8000000 in
theorem new_any (hS : Ast.SortOk) (hN : Ast.SortNone) (hCl : Cap.CloneOk) (A : Option Addr) (n cap : Nat) (l : Nat → Nd) (s : ByteArray) (most : Int) (w : World) (hn : n ≤ 1000000) (hA : A = none → n = 0 ∧ cap = 0) (hl : Nodes w A n l) (hs : s.size ≤ 140737488355328) :
  Calls Tryz.prog 11 #[.agg #[.slice A n cap], .string s, .int .i64 most] w (NewRes w l n s most) := by
 have HR := Lib.hid (fun w h => Ast.right_any hS hN A n cap l w hn h)
 have HL := Lib.hid hl
 have HN := Lib.hid hn
 have HA := Lib.hid hA
 have s0 : (s.size : Int) ≤ 140737488355328 := by omega
 clear hS hN hl hA hn
 obtain ⟨w1, hw1⟩ : ∃ w1, w.alloc (.cells #[.slice A n cap] 43) = w1 := ⟨_, rfl⟩
 have L1 := Lib.hid (show Below w.heap.size w w1 from hw1 ▸ (Below.refl _ w).alloc (Nat.le_refl _) _)
 have T1 := Lib.hid (show BoxV 43 w1 w.heap.size #[.slice A n cap] from hw1 ▸ BoxV.new w _)
 have HW1 := Lib.hid hw1
 clear hw1
 go_enter Tryz.func11, Tryz.ntmps11
 go_wp2_with fail
 rw [HW1.out]
 refine (HR.out w1 (HL.out.below L1.out (Nat.le_refl _))).mono ?_
 rintro e w2 ⟨rfl, hB⟩
 have L2 := Lib.hid (L1.out.trans (hB.mono L1.out.size))
 have T2 := Lib.hid (T1.out.below hB T1.out.lt)
 clear hB HR HW1
 by_cases h0 : rightZ l n = 0
 ·have HZR := Lib.hid h0
  rw [h0]
  clear h0
  by_cases h1 : 10000 < s.size
  ·have q1 : (10000 : Int) < s.size := by omega
   have HH := Lib.hid h1
   clear h1
   go_wp2_with fail
   go_ret2
   exact ⟨L2.out, .inr ⟨HZR.out, .inl ⟨HH.out, rfl⟩⟩⟩
  ·have q1 : ¬ (10000 : Int) < s.size := by omega
   have HH := Lib.hid (show s.size ≤ 10000 by omega)
   clear h1
   go_wp2_with fail
   refine (fnew_any most w2).mono ?_
   rintro e u3 ⟨hB, h⟩
   have L3 := Lib.hid (L2.out.trans (hB.mono L2.out.size))
   have T3 := Lib.hid (T2.out.below hB T2.out.lt)
   have B3 := Lib.hid hB
   clear hB
   rcases h with ⟨hm0, hm1, q, b, m, rfl, hq1, hb1, hm2, hst⟩ | ⟨hbad, rfl⟩
   ·obtain ⟨c, hbx, hrow⟩ := hst.box
    obtain ⟨D, hmp, hD⟩ := hst.map
    have LN3 := Lib.hid (show Below w.heap.size w u3.drew from L3.out.trans ((Below.refl _ u3).drew.mono L3.out.size))
    have L3 := Lib.hid (show Below w.heap.size w u3.drew from LN3.out)
    have LF3 := Lib.hid ((Below.refl u3.heap.size u3).drew)
    have hsh : siz l n = n ∧ Ast.shapeZ l n = 0 ∧ 0 < n := by
     have hz := HZR.out
     have hsz : Ast.shapeZ l n = 0 := by
      unfold rightZ at hz
      split at hz
      ·omega
      ·omega
     have hf : Ast.formZ l n = 0 := by
      unfold Ast.shapeZ at hsz
      split at hsz
      ·omega
      ·exact hsz
     obtain ⟨-, h2, h3⟩ := Ast.form_0 hf
     exact ⟨h3, hsz, h2⟩
    have HZ := Lib.hid (And.intro hsh.1 hsh.2.1)
    have HP := Lib.hid hsh.2.2
    have HST := Lib.hid (And.intro hbx (And.intro hrow (And.intro hmp (And.intro hD (And.intro hst.wf (And.intro hm0 (And.intro hm1 (And.intro hq1 (And.intro hb1 (And.intro hm2 hst.apart))))))))))
    have hS3 : NwS w A n cap q (stC q b m 1 c most) u3.drew := ⟨T3.out.get 0 rfl, T3.out.lt, hbx⟩
    clear hbx hrow hmp hD hst hm0 hm1 hq1 hb1 hm2 hsh
    go_wp2_with fail
    have hS := hS3
    refine wp_region_held_drew (S := NwS w A n cap q (stC q b m 1 c most)) (by kernel_rfl) hS (fun _ => ?_)
    refine takeAt 0 27 (.pointer (some ⟨w.heap.size, 0, none⟩)) rfl rfl (by kernel_rfl) (by kernel_rfl) (by kernel_rfl) i_ (yields (by rfl) (fun w => by kernel_rfl)) hS ?_
    simp only [Act.put, sA_, s0_, sS_]
    refine takeAt 1 28 (.slice A n cap) rfl rfl (by kernel_rfl) (by kernel_rfl) (by kernel_rfl) i_ (ldSA_y w.heap.size _ _ _ (fun _ h => h.tree) rfl rfl (by rfl)) hS ?_
    simp only [Act.put, sA_, s0_, sS_]
    refine takeAt 3 30 (.agg #[.slice A n cap]) rfl rfl (by kernel_rfl) (by kernel_rfl) (by kernel_rfl) i_ (ldTr_y w.heap.size (.slice A n cap) (fun _ h => h.tree) rfl rfl (by rfl)) hS ?_
    simp only [Act.put, sA_, s0_, sS_]
    refine takeAt 5 32 (.string s) rfl rfl (by kernel_rfl) (by kernel_rfl) (by kernel_rfl) i_ (yields (by rfl) (fun w => by kernel_rfl)) hS ?_
    simp only [Act.put, sA_, s0_, sS_]
    refine takeAt 7 34 (.pointer (some ⟨q, 0, none⟩)) rfl rfl (by kernel_rfl) (by kernel_rfl) (by kernel_rfl) i_ (yields (by rfl) (fun w => by kernel_rfl)) hS ?_
    simp only [Act.put, sA_, s0_, sS_]
    refine takeAt 8 35 (.pointer (some ⟨q, 0, none⟩)) rfl rfl (by kernel_rfl) (by kernel_rfl) (by kernel_rfl) i_ (yields (by rfl) (fun w => by kernel_rfl)) hS ?_
    simp only [Act.put, sA_, s0_, sS_]
    refine takeAt 9 36 (.agg (stC q b m 1 c most)) rfl rfl (by kernel_rfl) (by kernel_rfl) (by kernel_rfl) i_ (ldSt_y q _ rfl (fun _ h => h.store) rfl rfl (by rfl)) hS ?_
    simp only [Act.put, sA_, s0_, sS_]
    refine callAt 2 29 rfl rfl (by kernel_rfl) (by rfl) (by kernel_rfl) (Ast.clone_any A n cap l _ HN.out HA.out (HL.out.below LN3.out (Nat.le_refl _))) ?_
    rintro e u4 ⟨v, rfl, how, hB⟩
    obtain ⟨g, cn, rfl, hgl, hng⟩ : ∃ g cn, v = .slice (some ⟨g, 0, none⟩) n cn ∧ u3.heap.size ≤ g ∧ NodesAt u4 g 0 n l := own_at how HP.out
    have NG4 := Lib.hid hng
    have G4 := Lib.hid hgl
    have LN4 := Lib.hid (LN3.out.trans (hB.mono LN3.out.size))
    have hS4 := hS3.call hB
    have L4 := Lib.hid (L3.out.trans (hB.mono L3.out.size))
    have LF4 := Lib.hid (LF3.out.trans (hB.mono LF3.out.size))
    clear how hng hgl
    clear hB
    refine ⟨_, rfl, hS4, ?_⟩
    simp only [Act.put, sA_, s0_, sS_]
    refine callAt 4 31 rfl rfl (by kernel_rfl) (by rfl) (by kernel_rfl) (backs_any A n cap l _ HN.out HZ.out.1 HZ.out.2 (HL.out.below LN4.out (Nat.le_refl _))) ?_
    rintro e u5 ⟨kb, rfl, hB, hkb, hrow⟩
    have S45 := Lib.hid hB.size
    have KB := Lib.hid (And.intro hkb hrow)
    have NG5 := Lib.hid (NG4.out.below hB (Nat.le_refl _))
    have hS5 := hS4.call hB
    have L5 := Lib.hid (L4.out.trans (hB.mono L4.out.size))
    have LF5 := Lib.hid (LF4.out.trans (hB.mono LF4.out.size))
    clear hkb hrow
    clear hB
    refine ⟨_, rfl, hS5, ?_⟩
    simp only [Act.put, sA_, s0_, sS_]
    refine callAt 6 33 rfl rfl (by kernel_rfl) (by rfl) (by kernel_rfl) (hCl s _ (by omega)) ?_
    rintro e u6 ⟨rfl, hB⟩
    have S56 := Lib.hid hB.size
    have NG6 := Lib.hid (NG5.out.below hB (Nat.le_refl _))
    have RB6 := Lib.hid (Ast.row_call KB.out.2 hB)
    have hS6 := hS5.call hB
    have L6 := Lib.hid (L5.out.trans (hB.mono L5.out.size))
    have LF6 := Lib.hid (LF5.out.trans (hB.mono LF5.out.size))
    clear hB
    refine ⟨_, rfl, hS6, ?_⟩
    simp only [Act.put, sA_, s0_, sS_]
    refine takeAt 10 37 (.agg (mcC ⟨.slice (some ⟨g, 0, none⟩) n cn, .slice (some ⟨kb, 0, none⟩) n n, s, most⟩ b m 1 c (ptr q))) rfl rfl (by kernel_rfl) (by kernel_rfl) (by kernel_rfl) i_ (yields (by rfl) (fun w => by kernel_rfl)) hS6 ?_
    simp only [Act.put, sA_, s0_, sS_]
    obtain ⟨u7, e7⟩ : ∃ v, u6.alloc (.cells (mcC ⟨.slice (some ⟨g, 0, none⟩) n cn, .slice (some ⟨kb, 0, none⟩) n n, s, most⟩ b m 1 c (ptr q)) 85) = v := ⟨_, rfl⟩
    have N7 := Lib.hid (show New 85 _ u6 u7 from e7 ▸ New.of _ _ _)
    have hS7 := hS6.call N7.out.low
    refine valAt 11 38 (.pointer (some ⟨u6.heap.size, 0, none⟩)) u7 rfl rfl (by kernel_rfl) (by rfl) (by rw [← e7]; kernel_rfl) hS7 ?_
    simp only [Act.put, sA_, s0_, sS_]
    refine takeAt 12 6 (.pointer (some ⟨u6.heap.size, 0, none⟩)) rfl rfl (by kernel_rfl) (by kernel_rfl) (by kernel_rfl) i_ (yields (by rfl) (fun w => by kernel_rfl)) hS7 ?_
    simp only [Act.put, sA_, s0_, sS_]
    refine takeAt 13 7 (.int .i64 0) rfl rfl (by kernel_rfl) (by kernel_rfl) (by kernel_rfl) i_ (yields (by rfl) (fun w => by kernel_rfl)) hS7 ?_
    simp only [Act.put, sA_, s0_, sS_]
    refine wpAnyH_done (by kernel_rfl) ?_ _
    have L7 := Lib.hid (L6.out.trans (N7.out.low.mono L6.out.size))
    have LF7 := Lib.hid (LF6.out.trans (N7.out.low.mono LF6.out.size))
    have NG7 := Lib.hid (NG6.out.below N7.out.low (Nat.le_refl _))
    have RB7 := Lib.hid (Ast.row_call RB6.out N7.out.low)
    clear hS3 hS4 hS5 hS6 hS7 hS e7
    go_wp2_with fail
    go_ret2
    refine ⟨L7.out, .inr ⟨HZR.out, .inr ⟨HH.out, .inr ?_⟩⟩⟩
    obtain ⟨hbx, hrow, hmp, hD, hwf, hm0, hm1, hq1, hb1, hm2, hap1, hap2, hap3, hap4, hap5, hap6⟩ := HST.out
    have g4 : u3.heap.size ≤ g := G4.out
    have g5 := NG4.out.1
    have k1 := KB.out.1
    have z4 := LF4.out.size
    have z5 : u4.heap.size ≤ u5.heap.size := S45.out
    have z6 : u5.heap.size ≤ u6.heap.size := S56.out
    have k2 : u4.heap.size ≤ kb := k1
    refine ⟨⟨hm0, hm1⟩, ⟨u6.heap.size, g, cn, kb, n⟩, b, m, q, rfl, ⟨⟨⟨c, N7.out.box, owns_to hrow (Nat.le_refl _) (LF7.out.block b (by omega))⟩, ⟨D, map_to hmp (LF7.out.block m (by omega)), hD⟩, fun x hx => ?_, hwf, by simp, hm0, hm1⟩, NG7.out, ⟨RB7.out.lt, fun i hi => RB7.out.cell hi⟩, ?_⟩, ?_, ?_, ?_, ?_, ?_, ?_⟩
    ·injection hx with hx
     subst hx
     exact ⟨by show q ≠ u6.heap.size; omega, ⟨_, _, (LF7.out.block q (by omega)).trans hbx⟩, rfl⟩
    ·show g ≠ u6.heap.size ∧ g ≠ b ∧ g ≠ m ∧ kb ≠ u6.heap.size ∧ kb ≠ b ∧ kb ≠ m
     have := NG6.out.1
     have := RB6.out.lt
     omega
    ·exact L6.out.size
    ·have := L2.out.size; omega
    ·have := L2.out.size; omega
    ·have := L2.out.size; omega
    ·have e : w.heap.size ≤ u3.heap.size := L3.out.size
     show w.heap.size ≤ g
     omega
    ·have e : w.heap.size ≤ u4.heap.size := L4.out.size
     show w.heap.size ≤ kb
     omega
   ·have HB := Lib.hid hbad
    clear hbad
    go_wp2_with fail
    go_ret2
    exact ⟨L3.out, .inr ⟨HZR.out, .inr ⟨HH.out, .inl ⟨HB.out, rfl⟩⟩⟩⟩
 ·have q1 : (rightZ l n != 0) = true := by simpa using h0
  have q2 : (rightZ l n == 0) = false := by simpa using h0
  have HZR := Lib.hid h0
  clear h0
  go_wp2_with fail
  go_ret2
  exact ⟨L2.out, .inl ⟨HZR.out, rfl⟩⟩
end Go.Proofs.YteggpecbeagohaaGreatDoor.Stp
