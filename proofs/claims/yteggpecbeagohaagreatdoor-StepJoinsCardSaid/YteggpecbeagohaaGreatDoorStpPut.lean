import Derived.Test.YteggpecbeagohaaGreatDoorStpPart
import Derived.Test.YteggpecbeagohaaGreatDoorStpMath
import Derived.Test.YteggpecbeagohaaGreatDoorMz
namespace Go.Proofs.YteggpecbeagohaaGreatDoor.Stp
open Go.RowKit
open Go.Maps (Keyed IsMap Tidy)
open Frm (Fr Pl frC frL frI dpI putF zF Wf mayF idF I64 BoxV ptr slc plL plC MapOf owns_block owns_cell flat_get addr_add loadFr storeFr resFB getF sizeFr lawF zeroI keyF mayF_x idF_none idF_some fK wf_i)
section
variable {ops : Array Oper} {R : World → Prop} {a : Act} {o : Oper} {x y : Operand} {w : World}
theorem ldI_y (b j : Nat) (n : Int) (hR : ∀ u, R u → u.cell? ⟨b, j, none⟩ = some (.int .i64 n)) (ho : o.op = .load 3 x) (hx : a.eval x = .pointer (some ⟨b, j, none⟩)) (hw : Region.wanted o (yielded ops a.tmps) = true) : YieldsIf Tryz.prog ops R o (.int .i64 n) a := by
 refine Or.inl ⟨hw, fun u h => ?_⟩
 have hc := hR u h
 unfold execOp
 simp only [ho, hx]
 go_simp
theorem addI_y (d : Nat) (hd : d ≤ 1000000) (ho : o.op = .binOp .add 3 x y 3) (hx : a.eval x = .int .i64 (d : Int)) (hy : a.eval y = .int .i64 1) (hw : Region.wanted o (yielded ops a.tmps) = true) : YieldsIf Tryz.prog ops R o (.int .i64 ((d + 1 : Nat) : Int)) a := by
 refine Or.inl ⟨hw, fun u _ => ?_⟩
 have d0 : (0 : Int) ≤ (d : Int) := by omega
 have d1 : (d : Int) ≤ 1000000 := by omega
 unfold execOp
 simp only [ho, hx, hy]
 go_simp
 simp [IntKind.wrap, IntKind.bits, IntKind.signed]
 omega
theorem ldMp_y (b j m : Nat) (hR : ∀ u, R u → u.cell? ⟨b, j, none⟩ = some (.map (some m))) (ho : o.op = .load 81 x) (hx : a.eval x = .pointer (some ⟨b, j, none⟩)) (hw : Region.wanted o (yielded ops a.tmps) = true) : YieldsIf Tryz.prog ops R o (.map (some m)) a := by
 refine Or.inl ⟨hw, fun u h => ?_⟩
 have hc := hR u h
 unfold execOp
 simp only [ho, hx]
 go_simp
theorem ldFr_y (g : Nat) (f : Fr) (hR : ∀ u, R u → BoxV 90 u g (frC f)) (ho : o.op = .load 90 x) (hx : a.eval x = .pointer (some ⟨g, 0, none⟩)) (hw : Region.wanted o (yielded ops a.tmps) = true) : YieldsIf Tryz.prog ops R o (.agg (frC f)) a := by
 refine Or.inl ⟨hw, fun u h => ?_⟩
 unfold execOp
 simp only [ho, hx, Instr.loadAt, Instr.sureAddr, Sem.run_bind, Sem.run_pure, Result.andThen_ok, run_loadVar_row u g _ _ _ _ _ (hR u h) Tryz.underlying90 rfl sizeFr]
theorem lk_y (m : Nat) (key v : Value) (hR : ∀ u, R u → (Instr.lookup 81 (.map (some m)) key true).run Tryz.prog u = .ok v u) (ho : o.op = .lookup 81 x y true) (hx : a.eval x = .map (some m)) (hy : a.eval y = key) (hw : Region.wanted o (yielded ops a.tmps) = true) : YieldsIf Tryz.prog ops R o v a := by
 refine Or.inl ⟨hw, fun u h => ?_⟩
 have hc := hR u h
 unfold execOp
 simp [ho, hx, hy, hc, Result.andThen]
theorem up_run {z : Operand} (m : Nat) (key v : Value) {w' : World} (hr : (Instr.mapUpdate 81 (.map (some m)) key v).run Tryz.prog w = .ok () w') (ho : o.op = .mapUpdate 81 x y z) (hx : a.eval x = .map (some m)) (hy : a.eval y = key) (hz : a.eval z = v) : (execOp a.eval o).run Tryz.prog w = .ok .skip w' := by
 unfold execOp
 simp [ho, hx, hy, hz, hr, Result.andThen]
theorem ldI_run (b j : Nat) (n : Int) (hc : w.cell? ⟨b, j, none⟩ = some (.int .i64 n)) (ho : o.op = .load 3 x) (hx : a.eval x = .pointer (some ⟨b, j, none⟩)) : (execOp a.eval o).run Tryz.prog w = .ok (.value (.int .i64 n)) w := by
 unfold execOp
 simp only [ho, hx]
 go_simp
theorem ldSl_run (b j : Nat) (v : Value) (hc : w.cell? ⟨b, j, none⟩ = some v) (ho : o.op = .load 80 x) (hx : a.eval x = .pointer (some ⟨b, j, none⟩)) : (execOp a.eval o).run Tryz.prog w = .ok (.value v) w := by
 unfold execOp
 simp only [ho, hx]
 go_simp
theorem stSl_run (g j : Nat) (v : Value) (A : Option Addr) (n c : Nat) (hf : w.frozen? ⟨g, j, none⟩ = false) (hc : w.cell? ⟨g, j, none⟩ = some v) (ho : o.op = .store 80 x y) (hx : a.eval x = .pointer (some ⟨g, j, none⟩)) (hy : a.eval y = .slice A n c) : (execOp a.eval o).run Tryz.prog w = .ok .skip (w.setCell ⟨g, j, none⟩ (.slice A n c)) := by
 unfold execOp
 simp only [ho, hx, hy]
 simp [go_sem, hf, hc]
theorem append_run {w' : World} {s t : Operand} {T : TypeId} {v v' z : Value} (ho : o.op = .call { callee := .builtin .append, args := #[s, t], argTypes := #[T, T] }) (hs : a.eval s = v) (hx : a.eval t = z) (hr : (Builtin.append_ #[T, T] o.type #[v, z]).run Tryz.prog w = .ok v' w') : (execOp a.eval o).run Tryz.prog w = .ok (.value v') w' := by
 unfold execOp
 simp only [ho, resolve, invoke, builtin, Sem.run_bind, Sem.run_pure, Result.andThen_ok, List.map_toArray, List.map_cons, List.map_nil, hs, hx, hr]
end
section
variable {P : Program} {ops : Array Oper} {Q : Exit → Act → World → Prop} {md : Region.Mode} {S : World → Prop} {fuel : Nat} {listed : Array Bool} {a : Act} {w : World}
theorem skipAt (i : Nat) (w' : World) {oi : Oper} (hi : ops[i]? = some oi) (hd : oi.dst = none) (hr : Region.ready md ops listed = [i]) (hw : Region.wanted oi (yielded ops a.tmps) = true)
  (hrun : (execOp a.eval oi).run P w = .ok .skip w') (hS : S w') (hgo : wpAnyH P md ops Q S fuel (listed.setIfInBounds i true) a w') : wpAnyH P md ops Q S (fuel + 1) listed a w := by
 refine wpAnyH_ready (rs := [i]) hr (by simp) (AllReadyH.cons hi (fun K hK => ?_) AllReadyH.nil)
 rw [if_pos hw]
 have hK2 := Lib.hid (hK.out _ _ hS (fun _ => hgo))
 unfold Oper.wp
 rw [hrun]
 unfold Oper.upon
 rw [hd]
 exact hK2.out
end
set_option maxRecDepth 100000 in
theorem Ms.look {w : World} {p b m : Nat} {K : Mq} {o : Option Nat} {M : List Pl} (h : Ms w p b m K o M) {f : Fr} (hf : f.i64) :
  (Instr.lookup 81 (.map (some m)) (.agg (frC f)) true).run Tryz.prog w = .ok (.tuple #[.int .i64 (idF M f : Int), .bool (decide (idF M f ≠ 0))]) w := by
 obtain ⟨D, hm, hD⟩ := h.map
 obtain ⟨v, ps, hrun, hv⟩ := hm.look_ok lawF Tryz.underlying81 (zeroI w) (plainElem_int Tryz.underlying3 (by decide)) (keyF hf)
 obtain ⟨c, rfl, hc, -⟩ := plainElem_int_inv Tryz.underlying3 hv
 simp only [Prod.mk.injEq] at hc
 by_cases e : idF M f = 0
 ·have hno := hD.no f hf (idF_none e)
  rw [Maps.atKey_of_not_has hno] at hc
  have : c = 0 := by have := hc.1; injection this with this; injection this with _ this; exact this.symm
  rw [hrun, hno, e, this]
  rfl
 ·obtain ⟨k1, k2, k3, -⟩ := idF_some e
  have hg := hD.get _ k1 k2
  rw [k3] at hg
  rw [hg.2] at hc
  have : c = (idF M f : Int) := by have := hc.1; injection this with this; injection this with _ this; exact this.symm
  rw [hrun, hg.1, this, decide_eq_true e]
theorem cell_hp {u w : World} {b : Nat} (h : u.heap[b]? = w.heap[b]?) (o : Nat) : u.cell? ⟨b, o, none⟩ = w.cell? ⟨b, o, none⟩ := by
 unfold World.cell?
 simp only [h]
def PutRes (w : World) (p b m : Nat) (K : Mq) (M : List Pl) (f : Fr) (e : Ending) (w' : World) : Prop :=
 e = .returned (.tuple #[.int .i64 ((putF K.most M f).2.1 : Int), .int .i64 (putF K.most M f).2.2]) ∧ ∃ b' m', Ms w' p b' m' K none (putF K.most M f).1 ∧ (b' = b ∨ w.heap.size ≤ b') ∧ (m' = m ∨ w.heap.size ≤ m') ∧ ButS p b m w w'
set_option maxRecDepth 100000 in
set_option maxHeartbeats 4000000 in
theorem put_any (p b m : Nat) (K : Mq) (o : Option Nat) (M : List Pl) (f : Fr) (w : World) (h : Ms w p b m K o M) (hf : f.i64) (hmy : mayF M.length f = true) (hlen : M.length < 1000000) :
  Calls Tryz.prog 41 #[fp p, .agg (frC f)] w (PutRes w p b m K M f) := by
 obtain ⟨wa, hwa⟩ : ∃ wa, w.alloc (.cells (frC f) 90) = wa := ⟨_, rfl⟩
 have hB0 : Below w.heap.size w wa := hwa ▸ (Below.refl _ w).alloc (Nat.le_refl _) _
 have hF0 : BoxV 90 wa w.heap.size (frC f) := by rw [← hwa]; exact BoxV.new w _
 have hsz : wa.heap.size = w.heap.size + 1 := by rw [← hwa]; simp
 have H0 := Lib.hid (h.below hB0 (Nat.le_refl _))
 have AP0 := Lib.hid h.apart
 have B0 := Lib.hid hB0
 have F0 := Lib.hid hF0
 have HS := Lib.hid hsz
 have HF := Lib.hid hf
 have HWA := Lib.hid hwa
 have HL := Lib.hid hlen
 obtain ⟨r, hr⟩ : ∃ r, mayF M.length f = r := ⟨_, rfl⟩
 obtain ⟨i, hi⟩ : ∃ i, idF M f = i := ⟨_, rfl⟩
 have CM := Lib.hid (hr ▸ mayBe_any p b m K o M f wa H0.out)
 have LK := Lib.hid (show ∀ u b m o, Ms u p b m K o M → (Instr.lookup 81 (.map (some m)) (.agg (frC f)) true).run Tryz.prog u = .ok (.tuple #[.int .i64 (i : Int), .bool (decide (i ≠ 0))]) u from fun u b m o hu => hi ▸ hu.look hf)
 have PM := Lib.hid (show (r = false → putF K.most M f = (M, 0, 1)) ∧ (r = true → (i ≠ 0 → putF K.most M f = (M, i, 0)) ∧ (i = 0 → ((M.length : Int) - 1 = K.most → putF K.most M f = (M, 0, 4)) ∧ ((M.length : Int) - 1 ≠ K.most → putF K.most M f = (M ++ [(f, dpI M f.x.toNat + 1)], M.length, 0)))) by
  refine ⟨fun e => ?_, fun e => ⟨fun e2 => ?_, fun e2 => ⟨fun e3 => ?_, fun e3 => ?_⟩⟩⟩
  all_goals (subst hr; unfold putF; simp_all))
 obtain rfl : r = true := hr.symm.trans hmy
 have NR := Lib.hid (And.intro hr hi)
 obtain ⟨fk, fn, ft, ff, fx⟩ := f
 clear h hB0 hF0 hsz hf hwa hlen hr hi hmy
 go_enter Tryz.func41, Tryz.ntmps41
 go_wp2_with (refine loadFr rfl _ rfl w.heap.size 0 ⟨fk, fn, ft, ff, fx⟩ rfl (BoxV.fr (BoxV.new w _)) ?_)
 rw [HWA.out]
 refine CM.out.mono ?_
 rintro e w1 ⟨rfl, hB⟩
 have H1 := Lib.hid (H0.out.below hB (Nat.le_refl _))
 have B1 := Lib.hid (thenB B0.out hB (by have := HS.out; omega))
 have F1 := Lib.hid (F0.out.below hB (by have := HS.out; omega))
 have S1 := Lib.hid (show w.heap.size + 1 ≤ w1.heap.size by have := HS.out; have := hB.size; omega)
 clear hB CM B0 F0 HWA HS
 go_wp2_with fail
 have HS1 := Lib.hid (show w.heap.size + 1 ≤ w1.heap.size from S1.out)
 cases o with
 | none =>
   refine (owns_yes p b m K M w1 H1.out).mono ?_
   rintro e w2 ⟨rfl, hB⟩
   have H2 := Lib.hid (H1.out.below hB (Nat.le_refl _))
   have B2 := Lib.hid (ButS.of_below (p := p) (b := b) (m := m) (thenB B1.out hB (by have := S1.out; omega)))
   have F2 := Lib.hid (F1.out.below hB (by have := S1.out; omega))
   have S2 := Lib.hid (show w.heap.size + 1 ≤ w2.heap.size by have := S1.out; have := hB.size; omega)
   have AN := Lib.hid (show (b = b ∨ w.heap.size ≤ b) ∧ (m = m ∨ w.heap.size ≤ m) from ⟨.inl rfl, .inl rfl⟩)
   have AP := Lib.hid (show p < w.heap.size ∧ b ≠ w.heap.size ∧ m ≠ w.heap.size by have := AP0.out; omega)
   clear hB H0 H1 B1 F1 S1 AP0 HS1
   go_wp2_with fail
   have hS : w2.drew = w2.drew := rfl
   have F2d : BoxV 90 w2.drew w.heap.size (frC ⟨fk, fn, ft, ff, fx⟩) := F2.out
   have H2d : Ms w2.drew p b m K none M := H2.out.below (B := w2.heap.size) (Below.refl _ w2).drew (Nat.le_refl _)
   obtain ⟨c2, hb2, -⟩ := H2d.box
   refine wp_region_held_drew (S := (· = w2.drew)) (by kernel_rfl) hS (fun _ => ?_)
   refine takeAt 0 19 (fp p) rfl rfl (by kernel_rfl) (by kernel_rfl) (by kernel_rfl) i_ (yields (by rfl) (fun w => by kernel_rfl)) hS ?_
   simp only [Act.put, sA_, s0_, sS_]
   refine takeAt 1 20 (fp p) rfl rfl (by kernel_rfl) (by kernel_rfl) (by kernel_rfl) i_ (yields (by rfl) (fun w => by kernel_rfl)) hS ?_
   simp only [Act.put, sA_, s0_, sS_]
   refine takeAt 2 21 (.pointer (some ⟨p, 5, none⟩)) rfl rfl (by kernel_rfl) (by kernel_rfl) (by kernel_rfl) i_ (yields (by rfl) (fun w => by kernel_rfl)) hS ?_
   simp only [Act.put, sA_, s0_, sS_]
   refine takeAt 3 22 (.map (some m)) rfl rfl (by kernel_rfl) (by kernel_rfl) (by kernel_rfl) i_ (ldMp_y p 5 m (fun _ h => by rw [h]; exact hb2.get 5 rfl) rfl rfl (by rfl)) hS ?_
   simp only [Act.put, sA_, s0_, sS_]
   refine takeAt 4 23 (.agg (frC ⟨fk, fn, ft, ff, fx⟩)) rfl rfl (by kernel_rfl) (by kernel_rfl) (by kernel_rfl) i_ (ldFr_y w.heap.size ⟨fk, fn, ft, ff, fx⟩ (fun _ h => by rw [h]; exact F2d) rfl rfl (by rfl)) hS ?_
   simp only [Act.put, sA_, s0_, sS_]
   refine takeAt 5 24 (.tuple #[.int .i64 (i : Int), .bool (decide (i ≠ 0))]) rfl rfl (by kernel_rfl) (by kernel_rfl) (by kernel_rfl) i_ (lk_y m _ _ (fun _ h => by rw [h]; exact LK.out _ _ _ _ H2d) rfl rfl rfl (by rfl)) hS ?_
   simp only [Act.put, sA_, s0_, sS_]
   refine takeAt 6 18 (.tuple #[.int .i64 (i : Int), .bool (decide (i ≠ 0))]) rfl rfl (by kernel_rfl) (by kernel_rfl) (by kernel_rfl) i_ (yields (by rfl) (fun w => by kernel_rfl)) hS ?_
   simp only [Act.put, sA_, s0_, sS_]
   refine takeAt 7 25 (.int .i64 (i : Int)) rfl rfl (by kernel_rfl) (by kernel_rfl) (by kernel_rfl) i_ (yields (by rfl) (fun w => by kernel_rfl)) hS ?_
   simp only [Act.put, sA_, s0_, sS_]
   refine takeAt 8 26 (.bool (decide (i ≠ 0))) rfl rfl (by kernel_rfl) (by kernel_rfl) (by kernel_rfl) i_ (yields (by rfl) (fun w => by kernel_rfl)) hS ?_
   simp only [Act.put, sA_, s0_, sS_]
   refine takeAt 9 6 (.int .i64 (i : Int)) rfl rfl (by kernel_rfl) (by kernel_rfl) (by kernel_rfl) i_ (yields (by rfl) (fun w => by kernel_rfl)) hS ?_
   simp only [Act.put, sA_, s0_, sS_]
   refine takeAt 10 7 (.bool (decide (i ≠ 0))) rfl rfl (by kernel_rfl) (by kernel_rfl) (by kernel_rfl) i_ (yields (by rfl) (fun w => by kernel_rfl)) hS ?_
   simp only [Act.put, sA_, s0_, sS_]
   refine wpAnyH_done (by kernel_rfl) ?_ _
   clear hS F2d H2d hb2
   by_cases hi : i = 0
   ·obtain rfl := hi
    have PM1 := Lib.hid ((PM.out.2 (by trivial)).2 rfl)
    clear PM
    rw [show decide ((0 : Nat) ≠ 0) = false from rfl]
    go_wp2_with fail
    have H3 := Lib.hid (show Ms w2.drew.drew p b m K none M from H2.out.below (B := w2.heap.size) (Below.refl _ w2).drew.drew (Nat.le_refl _))
    have hS : Below w2.heap.size w2 w2.drew.drew := (Below.refl _ w2).drew.drew
    have APN := AP.out
    have hp2 : p < w2.heap.size := by have := S2.out; omega
    have cst : ∀ u, Below w2.heap.size w2 u → u.cell? ⟨p, 3, none⟩ = some (.int .i64 K.most) := fun u hu => by
     obtain ⟨c3, hb3, -⟩ := (H2.out.below hu (Nat.le_refl _)).box
     exact hb3.get 3 rfl
    refine wp_region_held_drew (S := Below w2.heap.size w2) (by kernel_rfl) hS (fun _ => ?_)
    refine takeAt 0 29 (fp p) rfl rfl (by kernel_rfl) (by kernel_rfl) (by kernel_rfl) i_ (yields (by rfl) (fun w => by kernel_rfl)) hS ?_
    simp only [Act.put, sA_, s0_, sS_]
    refine takeAt 2 31 (fp p) rfl rfl (by kernel_rfl) (by kernel_rfl) (by kernel_rfl) i_ (yields (by rfl) (fun w => by kernel_rfl)) hS ?_
    simp only [Act.put, sA_, s0_, sS_]
    refine takeAt 3 32 (fp p) rfl rfl (by kernel_rfl) (by kernel_rfl) (by kernel_rfl) i_ (yields (by rfl) (fun w => by kernel_rfl)) hS ?_
    simp only [Act.put, sA_, s0_, sS_]
    refine takeAt 4 33 (.pointer (some ⟨p, 3, none⟩)) rfl rfl (by kernel_rfl) (by kernel_rfl) (by kernel_rfl) i_ (yields (by rfl) (fun w => by kernel_rfl)) hS ?_
    simp only [Act.put, sA_, s0_, sS_]
    refine takeAt 5 34 (.int .i64 K.most) rfl rfl (by kernel_rfl) (by kernel_rfl) (by kernel_rfl) i_ (ldI_y p 3 _ cst rfl rfl (by rfl)) hS ?_
    simp only [Act.put, sA_, s0_, sS_]
    refine callAt 1 30 rfl rfl (by kernel_rfl) (by rfl) (by kernel_rfl) (len_any p b m K none M _ H3.out) ?_
    rintro e w3 ⟨rfl, hB⟩
    have hS3 : Below w2.heap.size w2 w3 := thenB hS hB (Nat.le_refl _)
    refine ⟨_, rfl, hS3, ?_⟩
    simp only [Act.put, sA_, s0_, sS_]
    refine takeAt 6 35 (.bool (decide ((M.length : Int) - 1 = K.most))) rfl rfl (by kernel_rfl) (by kernel_rfl) (by kernel_rfl) i_ (Or.inl ⟨by rfl, fun u _ => by unfold execOp; go_simp; rfl⟩) hS3 ?_
    simp only [Act.put, sA_, s0_, sS_]
    refine wpAnyH_done (by kernel_rfl) ?_ _
    have B3 := Lib.hid (B2.out.next hS3)
    have H4 := Lib.hid (H2.out.below hS3 (Nat.le_refl _))
    have F3 := Lib.hid (F2.out.below hS3 (by have := S2.out; omega))
    have S3 := Lib.hid (show w.heap.size + 1 ≤ w3.heap.size by have := S2.out; have := hS3.size; omega)
    clear hS hS3 hB cst H3 H2 F2 B2 hp2 APN
    by_cases hm : (M.length : Int) - 1 = K.most
    ·rw [decide_eq_true hm]
     have PMv := Lib.hid (PM1.out.1 hm)
     clear PM1 hm
     go_wp2_with fail
     go_ret2
     refine ⟨?_, b, m, ?_, .inl rfl, .inl rfl, B3.out⟩
     ·rw [PMv.out]; rfl
     ·rw [PMv.out]; exact H4.out
    ·rw [decide_eq_false hm]
     have PMv := Lib.hid (PM1.out.2 hm)
     clear PM1 hm
     have hmx := mayF_x NR.out.1
     obtain ⟨ix, rfl⟩ : ∃ ix : Nat, fx = ix := ⟨fx.toNat, by have := hmx.1; dsimp only at this; omega⟩
     have hix : ix < M.length := by have := hmx.2; dsimp only at this; omega
     clear hmx
     obtain ⟨c3, hb3, hown3⟩ := H4.out.box
     have hb31 := hb3.get 4 rfl
     have HOWN := Lib.hid hown3
     have HB3 := Lib.hid hb3
     clear hown3 hb3
     go_wp2_with fail
     have hown3 := HOWN.out
     have hb3 := HB3.out
     clear HOWN HB3
     obtain ⟨D, hmap3, hD⟩ := H4.out.map
     obtain ⟨y, hy⟩ : ∃ y : Pl, y = (⟨fk, fn, ft, ff, (ix : Int)⟩, dpI M ix + 1) := ⟨_, rfl⟩
     obtain ⟨w5, hw5⟩ : ∃ w5, w3.drew.alloc (.cells (plC y) 112) = w5 := ⟨_, rfl⟩
     have AP0 := AP.out
     have AP1 := H4.out.apart
     have hs3 := S3.out
     have hB5 : Below w3.heap.size w3 w5 := hw5 ▸ ((Below.refl _ w3).drew.alloc (Nat.le_refl _) _)
     have hs5 : w5.heap.size = w3.heap.size + 1 := by rw [← hw5]; simp
     have hnew : BoxV 112 w5 w3.heap.size (plC y) := hw5 ▸ BoxV.new w3.drew _
     have hown5 : w5.ownsRow 0 112 6 (slc b M.length c3) M.length (M.flatMap plL) := hw5 ▸ hown3.alloc _
     obtain ⟨ip, hip, hp1, hp2, hp3⟩ := info_parts infoPl
     have hlm := HL.out
     obtain ⟨v', w6, hrun, hown6, hgr, -, hv'⟩ := run_append_own_at (P := Tryz.prog) (w := w5) 0 80 80 112 ip _ 6 48 Tryz.underlying80 hip hp1 hp2 hp3 rfl (by decide) (slc b M.length c3) _ _ hown5 ⟨w3.heap.size, 0, none⟩ 1 1 (plL y) rfl
      (by
       intro j x hj
       rw [addr_add, Nat.zero_add]
       exact hnew.get j (by rw [← hj]; simp [plL])) (plL_one y) (by unfold maxLen; omega) (by omega) (Nat.zero_le _)
     obtain ⟨b', c', rfl⟩ : ∃ b' c', v' = slc b' (M.length + 1) c' := by
      rcases hown6.2 with ⟨-, e⟩ | ⟨g, cap, cur, e, -⟩
      ·omega
      ·exact ⟨g, cap, e⟩
     have hbb : b' = b ∨ b' = w5.heap.size := by
      rcases hv' with e | e
      ·left; injection e
      ·right; injection e
     have hpb : p ≠ b' := by rcases hbb with e | e <;> omega
     obtain ⟨w7, hw7⟩ : ∃ w7, w6.setCell ⟨p, 4, none⟩ (slc b' (M.length + 1) c') = w7 := ⟨_, rfl⟩
     have k6 : ∀ j, j < w3.heap.size → j ≠ b → w6.heap[j]? = w3.heap[j]? := fun j h1 h2 => (hgr.block j (by omega) (fun e => h2 (by injection e))).trans (hB5.block j h1)
     have k7 : ∀ j, j ≠ p → w7.heap[j]? = w6.heap[j]? := fun j hj => by rw [← hw7]; exact heap_setCell_other _ _ _ _ (fun e => hj e)
     have hp6 : BoxV 85 w6 p (mcC K b m M.length c3 (fp p)) := (k6 p (by omega) (by omega)).trans hb3
     have hp7 : BoxV 85 w7 p (mcC K b' m (M.length + 1) c' (fp p)) := by rw [← hw7]; exact hp6.put 4 _
     have hF5 : BoxV 90 w5 w.heap.size (frC ⟨fk, fn, ft, ff, (ix : Int)⟩) := F3.out.below hB5 (by omega)
     have hF6 : BoxV 90 w6 w.heap.size (frC ⟨fk, fn, ft, ff, (ix : Int)⟩) := (k6 _ (by omega) (by omega)).trans F3.out
     have hF7 : BoxV 90 w7 w.heap.size (frC ⟨fk, fn, ft, ff, (ix : Int)⟩) := (k7 _ (by omega)).trans hF6
     have hown7 : w7.ownsRow 0 112 6 (slc b' (M ++ [y]).length c') (M ++ [y]).length ((M ++ [y]).flatMap plL) := by
      rw [List.flatMap_append, List.length_append]
      refine ⟨by have := hown6.1; simpa using this, ?_⟩
      rcases hown6.2 with ⟨e, -⟩ | ⟨g, cap, cur, e, h0, h1, h2, h3, h4, h5⟩
      ·cases e
      ·have e1 : g = b' := by injection e with e1; injection e1 with e1; injection e1 with e1; exact e1.symm
       subst e1
       exact .inr ⟨g, cap, cur, by injection e with _ _ e2; rw [e2], h0, (k7 _ (by omega)).trans h1, h2, h3, h4, by simpa using h5⟩
     have hmap7 : w7.drew.ownsMap Tryz.prog 90 (plainElem Tryz.prog 3) m M.length D := by
      obtain ⟨es, cl, h1, h2⟩ := hmap3
      exact ⟨es, cl, (k7 m (by omega)).trans ((k6 m (by omega) (by omega)).trans h1), h2⟩
     obtain ⟨w8, hup, hown8, hgr8⟩ := hmap7.update lawF Tryz.underlying81 (by unfold maxLen; omega) (keyF HF.out) (plainElem_int Tryz.underlying3 (a := (M.length : Int)) (wf_i (by unfold I64; omega)))
     have k8 : ∀ j, j < w7.heap.size → j ≠ m → w8.heap[j]? = w7.heap[j]? := fun j h1 h2 => hgr8.block j h1 (fun e => h2 (by injection e))
     have hs6 := hgr.size
     have hs7 : w7.heap.size = w6.heap.size := by rw [← hw7]; simp [World.setCell]
     have hb8 : b' < w7.heap.size := lt_of_block (owns_block hown7).choose_spec
     have hp8 : BoxV 85 w8 p (mcC K b' m (M.length + 1) c' (fp p)) := (k8 p (by omega) (by omega)).trans hp7
     have hF8 : BoxV 90 w8 w.heap.size (frC ⟨fk, fn, ft, ff, (ix : Int)⟩) := (k8 _ (by omega) (by omega)).trans hF7
     have hbm : b' ≠ m := by
      rcases hbb with e | e <;> omega
     have hey : y = (⟨fk, fn, ft, ff, (ix : Int)⟩, dpI M (Fr.x ⟨fk, fn, ft, ff, (ix : Int)⟩).toNat + 1) := hy
     have ST8 := Lib.hid (show Ms w8 p b' m K none (M ++ [y]) by
      refine ⟨⟨c', by rw [List.length_append]; exact hp8, hown7.1, ?_⟩, ⟨_, by rw [List.length_append]; exact hown8, hey ▸ hD.push H4.out.wf HF.out NR.out.2 _⟩, (fun x hx => nomatch hx), ?_, by simp; omega, H4.out.most⟩
      ·rcases hown7.2 with ⟨e, -⟩ | ⟨g, cap, cur, e, h0, h1, h2⟩
       ·cases e
       ·have e1 : g = b' := by injection e with e1; injection e1 with e1; injection e1 with e1; exact e1.symm
        subst e1
        exact .inr ⟨g, cap, cur, e, h0, (k8 _ hb8 hbm).trans h1, h2⟩
      ·rw [hey]; exact H4.out.wf.push NR.out.1 HF.out NR.out.2)
     have BS8 := Lib.hid (show ButS p b m w w8 by
      refine ⟨?_, fun j h1 h2 h3 h4 => ?_⟩
      ·refine B3.out.low.trans ((hB5.mono (Nat.zero_le _)).trans (Below.trans (b := w6) ⟨hgr.os, hgr.tape, hgr.output, hgr.size, fun j hj => absurd hj (by omega)⟩ (Below.trans (b := w7) ?_ ⟨hgr8.os, hgr8.tape, hgr8.output, hgr8.size, fun j hj => absurd hj (by omega)⟩)))
       rw [← hw7]
       exact (Below.refl 0 w6).setCell (Nat.zero_le _) _
      ·exact (k8 j (by omega) (by have := AN.out.2; omega)).trans ((k7 j h2).trans ((k6 j (by omega) (by have := AN.out.1; omega)).trans (B3.out.keep j h1 h2 h3 h4))))
     have BB8 := Lib.hid (show b' = b ∨ w.heap.size ≤ b' by have := AN.out.1; rcases hbb with e | e <;> omega)
     have hdp := H4.out.wf.deep ix ix (Nat.le_refl _)
     have hdc : ∀ u : World, u.heap[b]? = w3.heap[b]? → u.cell? ⟨b, ix * 6 + 5, none⟩ = some (.int .i64 (dpI M ix : Int)) := fun u hu => (cell_hp hu _).trans (H4.out.dp hix)
     have hfz := hp6.free 4
     have hp61 := hp6.get 4 rfl
     have hS : BoxV 90 w3.drew w.heap.size (frC ⟨fk, fn, ft, ff, (ix : Int)⟩) := F3.out
     have hb3d : w3.drew.cell? ⟨p, 4, none⟩ = some (slc b M.length c3) := hb31
     have hb5d : w5.cell? ⟨p, 4, none⟩ = some (slc b M.length c3) := (hb3.below hB5 (by omega)).get 4 rfl
     have hdd := hdc w3.drew rfl
     have d0 : (0 : Int) ≤ (dpI M ix : Int) := by omega
     have d1 : (dpI M ix : Int) ≤ 1000000 := by omega
     have i0 : (0 : Int) ≤ (ix : Int) := by omega
     have i1 : (ix : Int) < (M.length : Int) := by omega
     have hdm : dpI M ix ≤ 1000000 := by omega
     have hF9 := Lib.hid (And.intro hF8 (hp8.get 5 rfl))
     have hF7d := Lib.hid (And.intro hF7 (hp7.get 5 rfl))
     clear hb3 hown3 hmap3 hown5 hown6 hown7 hmap7 hown8 hgr hgr8 k6 k7 k8 hp6 hp7 hp8 hnew hbb hv' hs6 hs7 hb8 hbm hpb hD hdc hip hp1 hp2 hp3 hlm AP0 hs3 hs5 hdp AP1 H4 B3 F3 S3 AP HL
     refine wp_region_held_drew (S := fun u => BoxV 90 u w.heap.size (frC ⟨fk, fn, ft, ff, (ix : Int)⟩)) (by kernel_rfl) hS (fun _ => ?_)
     refine takeAt 0 41 (fp p) rfl rfl (by kernel_rfl) (by kernel_rfl) (by kernel_rfl) i_ (yields (by rfl) (fun w => by kernel_rfl)) hS ?_
     simp only [Act.put, sA_, s0_, sS_]
     refine takeAt 1 42 (fp p) rfl rfl (by kernel_rfl) (by kernel_rfl) (by kernel_rfl) i_ (yields (by rfl) (fun w => by kernel_rfl)) hS ?_
     simp only [Act.put, sA_, s0_, sS_]
     refine takeAt 2 43 (fp p) rfl rfl (by kernel_rfl) (by kernel_rfl) (by kernel_rfl) i_ (yields (by rfl) (fun w => by kernel_rfl)) hS ?_
     simp only [Act.put, sA_, s0_, sS_]
     refine takeAt 3 44 (.pointer (some ⟨p, 4, none⟩)) rfl rfl (by kernel_rfl) (by kernel_rfl) (by kernel_rfl) i_ (yields (by rfl) (fun w => by kernel_rfl)) hS ?_
     simp only [Act.put, sA_, s0_, sS_]
     refine takeAt 5 46 (.agg (frC ⟨fk, fn, ft, ff, (ix : Int)⟩)) rfl rfl (by kernel_rfl) (by kernel_rfl) (by kernel_rfl) i_ (ldFr_y w.heap.size ⟨fk, fn, ft, ff, (ix : Int)⟩ (fun _ h => h) rfl rfl (by rfl)) hS ?_
     simp only [Act.put, sA_, s0_, sS_]
     refine takeAt 6 47 (fp p) rfl rfl (by kernel_rfl) (by kernel_rfl) (by kernel_rfl) i_ (yields (by rfl) (fun w => by kernel_rfl)) hS ?_
     simp only [Act.put, sA_, s0_, sS_]
     refine takeAt 7 48 (fp p) rfl rfl (by kernel_rfl) (by kernel_rfl) (by kernel_rfl) i_ (yields (by rfl) (fun w => by kernel_rfl)) hS ?_
     simp only [Act.put, sA_, s0_, sS_]
     refine takeAt 8 49 (.pointer (some ⟨p, 4, none⟩)) rfl rfl (by kernel_rfl) (by kernel_rfl) (by kernel_rfl) i_ (yields (by rfl) (fun w => by kernel_rfl)) hS ?_
     simp only [Act.put, sA_, s0_, sS_]
     refine takeAt 10 51 (.pointer (some ⟨w.heap.size, 4, none⟩)) rfl rfl (by kernel_rfl) (by kernel_rfl) (by kernel_rfl) i_ (yields (by rfl) (fun w => by kernel_rfl)) hS ?_
     simp only [Act.put, sA_, s0_, sS_]
     refine takeAt 11 52 (.int .i64 (ix : Int)) rfl rfl (by kernel_rfl) (by kernel_rfl) (by kernel_rfl) i_ (ldI_y w.heap.size 4 _ (fun _ h => h.get 4 rfl) rfl rfl (by rfl)) hS ?_
     simp only [Act.put, sA_, s0_, sS_]
     refine wpAnyH_ready (rs := [4, 9]) (by kernel_rfl) (by simp) (AllReadyH.cons rfl (valStep 4 45 (slc b M.length c3) w3.drew rfl (by rfl) (ldSl_run p 4 _ hb3d rfl rfl) hS ?_) (AllReadyH.cons rfl (valStep 9 50 (slc b M.length c3) w3.drew rfl (by rfl) (ldSl_run p 4 _ hb3d rfl rfl) hS ?_) AllReadyH.nil))
     ·simp only [Act.put, sA_, s0_, sS_]
      refine valAt 9 50 (slc b M.length c3) w3.drew rfl rfl (by kernel_rfl) (by rfl) (ldSl_run p 4 _ hb3d rfl rfl) hS ?_
      simp only [Act.put, sA_, s0_, sS_]
      refine takeAt 12 53 (.pointer (some ⟨b, ix * 6, none⟩)) rfl rfl (by kernel_rfl) (by kernel_rfl) (by kernel_rfl) i_ (Or.inl ⟨by rfl, fun u _ => by unfold execOp; go_simp⟩) hS ?_
      simp only [Act.put, sA_, s0_, sS_]
      refine takeAt 13 54 (.pointer (some ⟨b, ix * 6 + 5, none⟩)) rfl rfl (by kernel_rfl) (by kernel_rfl) (by kernel_rfl) i_ (yields (by rfl) (fun w => by kernel_rfl)) hS ?_
      simp only [Act.put, sA_, s0_, sS_]
      refine valAt 14 55 (.int .i64 (dpI M ix : Int)) w3.drew rfl rfl (by kernel_rfl) (by rfl) (ldI_run b (ix * 6 + 5) _ hdd rfl rfl) hS ?_
      simp only [Act.put, sA_, s0_, sS_]
      refine takeAt 15 56 (.int .i64 ((dpI M ix + 1 : Nat) : Int)) rfl rfl (by kernel_rfl) (by kernel_rfl) (by kernel_rfl) i_ (addI_y (dpI M ix) hdm rfl rfl rfl (by rfl)) hS ?_
      simp only [Act.put, sA_, s0_, sS_]
      refine takeAt 16 57 (.agg (plC y)) rfl rfl (by kernel_rfl) (by kernel_rfl) (by kernel_rfl) i_ (Or.inl ⟨by rfl, fun u _ => by rw [hy]; kernel_rfl⟩) hS ?_
      simp only [Act.put, sA_, s0_, sS_]
      refine valAt 17 58 (.slice (some ⟨w3.heap.size, 0, none⟩) 1 1) w5 rfl rfl (by kernel_rfl) (by rfl) (by rw [← hw5]; kernel_rfl) hF5 ?_
      simp only [Act.put, sA_, s0_, sS_]
      refine valAt 18 59 (slc b' (M.length + 1) c') w6 rfl rfl (by kernel_rfl) (by rfl) (append_run rfl rfl rfl hrun) hF6 ?_
      simp only [Act.put, sA_, s0_, sS_]
      refine takeAt 19 60 (fp p) rfl rfl (by kernel_rfl) (by kernel_rfl) (by kernel_rfl) i_ (yields (by rfl) (fun w => by kernel_rfl)) hF6 ?_
      simp only [Act.put, sA_, s0_, sS_]
      refine takeAt 20 61 (.pointer (some ⟨p, 4, none⟩)) rfl rfl (by kernel_rfl) (by kernel_rfl) (by kernel_rfl) i_ (yields (by rfl) (fun w => by kernel_rfl)) hF6 ?_
      simp only [Act.put, sA_, s0_, sS_]
      refine skipAt 21 w7 rfl rfl (by kernel_rfl) (by rfl) (by rw [← hw7]; exact stSl_run p 4 _ _ _ _ hfz hp61 rfl rfl rfl) hF7 ?_
      refine wpAnyH_done (by kernel_rfl) ?_ _
      clear hS hb3d hb5d hdd hdm hF5 hF6 hF7 hF8 hw5 hw7 hrun hfz hp61 hb31 hB5
      go_wp2_with fail
      have hS : w7.drew.cell? ⟨p, 5, none⟩ = some (.map (some m)) ∧ BoxV 90 w7.drew w.heap.size (frC ⟨fk, fn, ft, ff, (ix : Int)⟩) := ⟨hF7d.out.2, hF7d.out.1⟩
      refine wp_region_held_drew (S := fun u => u.cell? ⟨p, 5, none⟩ = some (.map (some m)) ∧ BoxV 90 u w.heap.size (frC ⟨fk, fn, ft, ff, (ix : Int)⟩)) (by kernel_rfl) hS (fun _ => ?_)
      refine takeAt 0 62 (fp p) rfl rfl (by kernel_rfl) (by kernel_rfl) (by kernel_rfl) i_ (yields (by rfl) (fun w => by kernel_rfl)) hS ?_
      simp only [Act.put, sA_, s0_, sS_]
      refine takeAt 1 63 (fp p) rfl rfl (by kernel_rfl) (by kernel_rfl) (by kernel_rfl) i_ (yields (by rfl) (fun w => by kernel_rfl)) hS ?_
      simp only [Act.put, sA_, s0_, sS_]
      refine takeAt 2 64 (.pointer (some ⟨p, 5, none⟩)) rfl rfl (by kernel_rfl) (by kernel_rfl) (by kernel_rfl) i_ (yields (by rfl) (fun w => by kernel_rfl)) hS ?_
      simp only [Act.put, sA_, s0_, sS_]
      refine takeAt 3 65 (.map (some m)) rfl rfl (by kernel_rfl) (by kernel_rfl) (by kernel_rfl) i_ (ldMp_y p 5 m (fun _ h => h.1) rfl rfl (by rfl)) hS ?_
      simp only [Act.put, sA_, s0_, sS_]
      refine takeAt 4 66 (.agg (frC ⟨fk, fn, ft, ff, (ix : Int)⟩)) rfl rfl (by kernel_rfl) (by kernel_rfl) (by kernel_rfl) i_ (ldFr_y w.heap.size ⟨fk, fn, ft, ff, (ix : Int)⟩ (fun _ h => h.2) rfl rfl (by rfl)) hS ?_
      simp only [Act.put, sA_, s0_, sS_]
      refine takeAt 5 67 (.int .i64 (M.length : Int)) rfl rfl (by kernel_rfl) (by kernel_rfl) (by kernel_rfl) i_ (yields (by rfl) (fun w => by kernel_rfl)) hS ?_
      simp only [Act.put, sA_, s0_, sS_]
      refine skipAt 6 w8 rfl rfl (by kernel_rfl) (by rfl) (up_run m _ _ hup rfl rfl rfl rfl) ⟨hF9.out.2, hF9.out.1⟩ ?_
      refine wpAnyH_done (by kernel_rfl) ?_ _
      clear hup hS hy
      go_wp2_with fail
      go_ret2
      refine ⟨?_, b', m, ?_, BB8.out, .inl rfl, BS8.out⟩
      ·rw [PMv.out]; rfl
      ·rw [PMv.out]; exact hey ▸ ST8.out
     ·simp only [Act.put, sA_, s0_, sS_]
      refine takeAt 12 53 (.pointer (some ⟨b, ix * 6, none⟩)) rfl rfl (by kernel_rfl) (by kernel_rfl) (by kernel_rfl) i_ (Or.inl ⟨by rfl, fun u _ => by unfold execOp; go_simp⟩) hS ?_
      simp only [Act.put, sA_, s0_, sS_]
      refine takeAt 13 54 (.pointer (some ⟨b, ix * 6 + 5, none⟩)) rfl rfl (by kernel_rfl) (by kernel_rfl) (by kernel_rfl) i_ (yields (by rfl) (fun w => by kernel_rfl)) hS ?_
      simp only [Act.put, sA_, s0_, sS_]
      refine wpAnyH_ready (rs := [4, 14]) (by kernel_rfl) (by simp) (AllReadyH.cons rfl (valStep 4 45 (slc b M.length c3) w3.drew rfl (by rfl) (ldSl_run p 4 _ hb3d rfl rfl) hS ?_) (AllReadyH.cons rfl (valStep 14 55 (.int .i64 (dpI M ix : Int)) w3.drew rfl (by rfl) (ldI_run b (ix * 6 + 5) _ hdd rfl rfl) hS ?_) AllReadyH.nil))
      ·simp only [Act.put, sA_, s0_, sS_]
       refine valAt 14 55 (.int .i64 (dpI M ix : Int)) w3.drew rfl rfl (by kernel_rfl) (by rfl) (ldI_run b (ix * 6 + 5) _ hdd rfl rfl) hS ?_
       simp only [Act.put, sA_, s0_, sS_]
       refine takeAt 15 56 (.int .i64 ((dpI M ix + 1 : Nat) : Int)) rfl rfl (by kernel_rfl) (by kernel_rfl) (by kernel_rfl) i_ (addI_y (dpI M ix) hdm rfl rfl rfl (by rfl)) hS ?_
       simp only [Act.put, sA_, s0_, sS_]
       refine takeAt 16 57 (.agg (plC y)) rfl rfl (by kernel_rfl) (by kernel_rfl) (by kernel_rfl) i_ (Or.inl ⟨by rfl, fun u _ => by rw [hy]; kernel_rfl⟩) hS ?_
       simp only [Act.put, sA_, s0_, sS_]
       refine valAt 17 58 (.slice (some ⟨w3.heap.size, 0, none⟩) 1 1) w5 rfl rfl (by kernel_rfl) (by rfl) (by rw [← hw5]; kernel_rfl) hF5 ?_
       simp only [Act.put, sA_, s0_, sS_]
       refine valAt 18 59 (slc b' (M.length + 1) c') w6 rfl rfl (by kernel_rfl) (by rfl) (append_run rfl rfl rfl hrun) hF6 ?_
       simp only [Act.put, sA_, s0_, sS_]
       refine takeAt 19 60 (fp p) rfl rfl (by kernel_rfl) (by kernel_rfl) (by kernel_rfl) i_ (yields (by rfl) (fun w => by kernel_rfl)) hF6 ?_
       simp only [Act.put, sA_, s0_, sS_]
       refine takeAt 20 61 (.pointer (some ⟨p, 4, none⟩)) rfl rfl (by kernel_rfl) (by kernel_rfl) (by kernel_rfl) i_ (yields (by rfl) (fun w => by kernel_rfl)) hF6 ?_
       simp only [Act.put, sA_, s0_, sS_]
       refine skipAt 21 w7 rfl rfl (by kernel_rfl) (by rfl) (by rw [← hw7]; exact stSl_run p 4 _ _ _ _ hfz hp61 rfl rfl rfl) hF7 ?_
       refine wpAnyH_done (by kernel_rfl) ?_ _
       clear hS hb3d hb5d hdd hdm hF5 hF6 hF7 hF8 hw5 hw7 hrun hfz hp61 hb31 hB5
       go_wp2_with fail
       have hS : w7.drew.cell? ⟨p, 5, none⟩ = some (.map (some m)) ∧ BoxV 90 w7.drew w.heap.size (frC ⟨fk, fn, ft, ff, (ix : Int)⟩) := ⟨hF7d.out.2, hF7d.out.1⟩
       refine wp_region_held_drew (S := fun u => u.cell? ⟨p, 5, none⟩ = some (.map (some m)) ∧ BoxV 90 u w.heap.size (frC ⟨fk, fn, ft, ff, (ix : Int)⟩)) (by kernel_rfl) hS (fun _ => ?_)
       refine takeAt 0 62 (fp p) rfl rfl (by kernel_rfl) (by kernel_rfl) (by kernel_rfl) i_ (yields (by rfl) (fun w => by kernel_rfl)) hS ?_
       simp only [Act.put, sA_, s0_, sS_]
       refine takeAt 1 63 (fp p) rfl rfl (by kernel_rfl) (by kernel_rfl) (by kernel_rfl) i_ (yields (by rfl) (fun w => by kernel_rfl)) hS ?_
       simp only [Act.put, sA_, s0_, sS_]
       refine takeAt 2 64 (.pointer (some ⟨p, 5, none⟩)) rfl rfl (by kernel_rfl) (by kernel_rfl) (by kernel_rfl) i_ (yields (by rfl) (fun w => by kernel_rfl)) hS ?_
       simp only [Act.put, sA_, s0_, sS_]
       refine takeAt 3 65 (.map (some m)) rfl rfl (by kernel_rfl) (by kernel_rfl) (by kernel_rfl) i_ (ldMp_y p 5 m (fun _ h => h.1) rfl rfl (by rfl)) hS ?_
       simp only [Act.put, sA_, s0_, sS_]
       refine takeAt 4 66 (.agg (frC ⟨fk, fn, ft, ff, (ix : Int)⟩)) rfl rfl (by kernel_rfl) (by kernel_rfl) (by kernel_rfl) i_ (ldFr_y w.heap.size ⟨fk, fn, ft, ff, (ix : Int)⟩ (fun _ h => h.2) rfl rfl (by rfl)) hS ?_
       simp only [Act.put, sA_, s0_, sS_]
       refine takeAt 5 67 (.int .i64 (M.length : Int)) rfl rfl (by kernel_rfl) (by kernel_rfl) (by kernel_rfl) i_ (yields (by rfl) (fun w => by kernel_rfl)) hS ?_
       simp only [Act.put, sA_, s0_, sS_]
       refine skipAt 6 w8 rfl rfl (by kernel_rfl) (by rfl) (up_run m _ _ hup rfl rfl rfl rfl) ⟨hF9.out.2, hF9.out.1⟩ ?_
       refine wpAnyH_done (by kernel_rfl) ?_ _
       clear hup hS hy
       go_wp2_with fail
       go_ret2
       refine ⟨?_, b', m, ?_, BB8.out, .inl rfl, BS8.out⟩
       ·rw [PMv.out]; rfl
       ·rw [PMv.out]; exact hey ▸ ST8.out
      ·simp only [Act.put, sA_, s0_, sS_]
       refine takeAt 15 56 (.int .i64 ((dpI M ix + 1 : Nat) : Int)) rfl rfl (by kernel_rfl) (by kernel_rfl) (by kernel_rfl) i_ (addI_y (dpI M ix) hdm rfl rfl rfl (by rfl)) hS ?_
       simp only [Act.put, sA_, s0_, sS_]
       refine takeAt 16 57 (.agg (plC y)) rfl rfl (by kernel_rfl) (by kernel_rfl) (by kernel_rfl) i_ (Or.inl ⟨by rfl, fun u _ => by rw [hy]; kernel_rfl⟩) hS ?_
       simp only [Act.put, sA_, s0_, sS_]
       refine wpAnyH_ready (rs := [4, 17]) (by kernel_rfl) (by simp) (AllReadyH.cons rfl (valStep 4 45 (slc b M.length c3) w3.drew rfl (by rfl) (ldSl_run p 4 _ hb3d rfl rfl) hS ?_) (AllReadyH.cons rfl (valStep 17 58 (.slice (some ⟨w3.heap.size, 0, none⟩) 1 1) w5 rfl (by rfl) (by rw [← hw5]; kernel_rfl) hF5 ?_) AllReadyH.nil))
       ·simp only [Act.put, sA_, s0_, sS_]
        refine valAt 17 58 (.slice (some ⟨w3.heap.size, 0, none⟩) 1 1) w5 rfl rfl (by kernel_rfl) (by rfl) (by rw [← hw5]; kernel_rfl) hF5 ?_
        simp only [Act.put, sA_, s0_, sS_]
        refine valAt 18 59 (slc b' (M.length + 1) c') w6 rfl rfl (by kernel_rfl) (by rfl) (append_run rfl rfl rfl hrun) hF6 ?_
        simp only [Act.put, sA_, s0_, sS_]
        refine takeAt 19 60 (fp p) rfl rfl (by kernel_rfl) (by kernel_rfl) (by kernel_rfl) i_ (yields (by rfl) (fun w => by kernel_rfl)) hF6 ?_
        simp only [Act.put, sA_, s0_, sS_]
        refine takeAt 20 61 (.pointer (some ⟨p, 4, none⟩)) rfl rfl (by kernel_rfl) (by kernel_rfl) (by kernel_rfl) i_ (yields (by rfl) (fun w => by kernel_rfl)) hF6 ?_
        simp only [Act.put, sA_, s0_, sS_]
        refine skipAt 21 w7 rfl rfl (by kernel_rfl) (by rfl) (by rw [← hw7]; exact stSl_run p 4 _ _ _ _ hfz hp61 rfl rfl rfl) hF7 ?_
        refine wpAnyH_done (by kernel_rfl) ?_ _
        clear hS hb3d hb5d hdd hdm hF5 hF6 hF7 hF8 hw5 hw7 hrun hfz hp61 hb31 hB5
        go_wp2_with fail
        have hS : w7.drew.cell? ⟨p, 5, none⟩ = some (.map (some m)) ∧ BoxV 90 w7.drew w.heap.size (frC ⟨fk, fn, ft, ff, (ix : Int)⟩) := ⟨hF7d.out.2, hF7d.out.1⟩
        refine wp_region_held_drew (S := fun u => u.cell? ⟨p, 5, none⟩ = some (.map (some m)) ∧ BoxV 90 u w.heap.size (frC ⟨fk, fn, ft, ff, (ix : Int)⟩)) (by kernel_rfl) hS (fun _ => ?_)
        refine takeAt 0 62 (fp p) rfl rfl (by kernel_rfl) (by kernel_rfl) (by kernel_rfl) i_ (yields (by rfl) (fun w => by kernel_rfl)) hS ?_
        simp only [Act.put, sA_, s0_, sS_]
        refine takeAt 1 63 (fp p) rfl rfl (by kernel_rfl) (by kernel_rfl) (by kernel_rfl) i_ (yields (by rfl) (fun w => by kernel_rfl)) hS ?_
        simp only [Act.put, sA_, s0_, sS_]
        refine takeAt 2 64 (.pointer (some ⟨p, 5, none⟩)) rfl rfl (by kernel_rfl) (by kernel_rfl) (by kernel_rfl) i_ (yields (by rfl) (fun w => by kernel_rfl)) hS ?_
        simp only [Act.put, sA_, s0_, sS_]
        refine takeAt 3 65 (.map (some m)) rfl rfl (by kernel_rfl) (by kernel_rfl) (by kernel_rfl) i_ (ldMp_y p 5 m (fun _ h => h.1) rfl rfl (by rfl)) hS ?_
        simp only [Act.put, sA_, s0_, sS_]
        refine takeAt 4 66 (.agg (frC ⟨fk, fn, ft, ff, (ix : Int)⟩)) rfl rfl (by kernel_rfl) (by kernel_rfl) (by kernel_rfl) i_ (ldFr_y w.heap.size ⟨fk, fn, ft, ff, (ix : Int)⟩ (fun _ h => h.2) rfl rfl (by rfl)) hS ?_
        simp only [Act.put, sA_, s0_, sS_]
        refine takeAt 5 67 (.int .i64 (M.length : Int)) rfl rfl (by kernel_rfl) (by kernel_rfl) (by kernel_rfl) i_ (yields (by rfl) (fun w => by kernel_rfl)) hS ?_
        simp only [Act.put, sA_, s0_, sS_]
        refine skipAt 6 w8 rfl rfl (by kernel_rfl) (by rfl) (up_run m _ _ hup rfl rfl rfl rfl) ⟨hF9.out.2, hF9.out.1⟩ ?_
        refine wpAnyH_done (by kernel_rfl) ?_ _
        clear hup hS hy
        go_wp2_with fail
        go_ret2
        refine ⟨?_, b', m, ?_, BB8.out, .inl rfl, BS8.out⟩
        ·rw [PMv.out]; rfl
        ·rw [PMv.out]; exact hey ▸ ST8.out
       ·simp only [Act.put, sA_, s0_, sS_]
        refine valAt 4 45 (slc b M.length c3) w5 rfl rfl (by kernel_rfl) (by rfl) (ldSl_run p 4 _ hb5d rfl rfl) hF5 ?_
        simp only [Act.put, sA_, s0_, sS_]
        refine valAt 18 59 (slc b' (M.length + 1) c') w6 rfl rfl (by kernel_rfl) (by rfl) (append_run rfl rfl rfl hrun) hF6 ?_
        simp only [Act.put, sA_, s0_, sS_]
        refine takeAt 19 60 (fp p) rfl rfl (by kernel_rfl) (by kernel_rfl) (by kernel_rfl) i_ (yields (by rfl) (fun w => by kernel_rfl)) hF6 ?_
        simp only [Act.put, sA_, s0_, sS_]
        refine takeAt 20 61 (.pointer (some ⟨p, 4, none⟩)) rfl rfl (by kernel_rfl) (by kernel_rfl) (by kernel_rfl) i_ (yields (by rfl) (fun w => by kernel_rfl)) hF6 ?_
        simp only [Act.put, sA_, s0_, sS_]
        refine skipAt 21 w7 rfl rfl (by kernel_rfl) (by rfl) (by rw [← hw7]; exact stSl_run p 4 _ _ _ _ hfz hp61 rfl rfl rfl) hF7 ?_
        refine wpAnyH_done (by kernel_rfl) ?_ _
        clear hS hb3d hb5d hdd hdm hF5 hF6 hF7 hF8 hw5 hw7 hrun hfz hp61 hb31 hB5
        go_wp2_with fail
        have hS : w7.drew.cell? ⟨p, 5, none⟩ = some (.map (some m)) ∧ BoxV 90 w7.drew w.heap.size (frC ⟨fk, fn, ft, ff, (ix : Int)⟩) := ⟨hF7d.out.2, hF7d.out.1⟩
        refine wp_region_held_drew (S := fun u => u.cell? ⟨p, 5, none⟩ = some (.map (some m)) ∧ BoxV 90 u w.heap.size (frC ⟨fk, fn, ft, ff, (ix : Int)⟩)) (by kernel_rfl) hS (fun _ => ?_)
        refine takeAt 0 62 (fp p) rfl rfl (by kernel_rfl) (by kernel_rfl) (by kernel_rfl) i_ (yields (by rfl) (fun w => by kernel_rfl)) hS ?_
        simp only [Act.put, sA_, s0_, sS_]
        refine takeAt 1 63 (fp p) rfl rfl (by kernel_rfl) (by kernel_rfl) (by kernel_rfl) i_ (yields (by rfl) (fun w => by kernel_rfl)) hS ?_
        simp only [Act.put, sA_, s0_, sS_]
        refine takeAt 2 64 (.pointer (some ⟨p, 5, none⟩)) rfl rfl (by kernel_rfl) (by kernel_rfl) (by kernel_rfl) i_ (yields (by rfl) (fun w => by kernel_rfl)) hS ?_
        simp only [Act.put, sA_, s0_, sS_]
        refine takeAt 3 65 (.map (some m)) rfl rfl (by kernel_rfl) (by kernel_rfl) (by kernel_rfl) i_ (ldMp_y p 5 m (fun _ h => h.1) rfl rfl (by rfl)) hS ?_
        simp only [Act.put, sA_, s0_, sS_]
        refine takeAt 4 66 (.agg (frC ⟨fk, fn, ft, ff, (ix : Int)⟩)) rfl rfl (by kernel_rfl) (by kernel_rfl) (by kernel_rfl) i_ (ldFr_y w.heap.size ⟨fk, fn, ft, ff, (ix : Int)⟩ (fun _ h => h.2) rfl rfl (by rfl)) hS ?_
        simp only [Act.put, sA_, s0_, sS_]
        refine takeAt 5 67 (.int .i64 (M.length : Int)) rfl rfl (by kernel_rfl) (by kernel_rfl) (by kernel_rfl) i_ (yields (by rfl) (fun w => by kernel_rfl)) hS ?_
        simp only [Act.put, sA_, s0_, sS_]
        refine skipAt 6 w8 rfl rfl (by kernel_rfl) (by rfl) (up_run m _ _ hup rfl rfl rfl rfl) ⟨hF9.out.2, hF9.out.1⟩ ?_
        refine wpAnyH_done (by kernel_rfl) ?_ _
        clear hup hS hy
        go_wp2_with fail
        go_ret2
        refine ⟨?_, b', m, ?_, BB8.out, .inl rfl, BS8.out⟩
        ·rw [PMv.out]; rfl
        ·rw [PMv.out]; exact hey ▸ ST8.out
   ·have PM1 := Lib.hid ((PM.out.2 (by trivial)).1 hi)
    clear PM
    rw [decide_eq_true (show i ≠ 0 from hi)]
    go_wp2_with fail
    go_ret2
    refine ⟨?_, b, m, ?_, .inl rfl, .inl rfl, B2.out.next (Below.refl _ w2).drew⟩
    ·rw [PM1.out]; rfl
    ·rw [PM1.out]; exact H2.out.below (B := w2.heap.size) (Below.refl _ w2).drew (Nat.le_refl _)
 | some q =>
   refine (owns_no p b m q K M w1 H1.out).mono ?_
   rintro e w1b ⟨rfl, hB⟩
   go_wp2_with fail
   have HX := Lib.hid hB
   clear hB
   refine (part_any p b m q K M w1b (H1.out.below HX.out (Nat.le_refl _))).mono ?_
   rintro e w2 ⟨rfl, b', m', hM, hb', hm', hBS⟩
   have hsx := HX.out.size
   have hsy := hBS.size
   have hs1 := S1.out
   have hap := AP0.out
   have H2 := Lib.hid hM
   have B2 := Lib.hid (ButS.first (thenB B1.out HX.out (by omega)) hBS)
   have F2 := Lib.hid (show BoxV 90 w2 w.heap.size (frC ⟨fk, fn, ft, ff, fx⟩) from (hBS.keep _ (by omega) (by omega) (by omega) (by omega)).trans (F1.out.below HX.out (by omega)))
   have S2 := Lib.hid (show w.heap.size + 1 ≤ w2.heap.size by omega)
   have AN := Lib.hid (show (b' = b ∨ w.heap.size ≤ b') ∧ (m' = m ∨ w.heap.size ≤ m') by omega)
   have AP := Lib.hid (show p < w.heap.size ∧ b' ≠ w.heap.size ∧ m' ≠ w.heap.size by omega)
   clear hM hb' hm' hBS hsx hsy hs1 hap HX H0 H1 B1 F1 S1 AP0 HS1
   go_wp2_with fail
   have hS : w2.drew = w2.drew := rfl
   have F2d : BoxV 90 w2.drew w.heap.size (frC ⟨fk, fn, ft, ff, fx⟩) := F2.out
   have H2d : Ms w2.drew p b' m' K none M := H2.out.below (B := w2.heap.size) (Below.refl _ w2).drew (Nat.le_refl _)
   obtain ⟨c2, hb2, -⟩ := H2d.box
   refine wp_region_held_drew (S := (· = w2.drew)) (by kernel_rfl) hS (fun _ => ?_)
   refine takeAt 0 19 (fp p) rfl rfl (by kernel_rfl) (by kernel_rfl) (by kernel_rfl) i_ (yields (by rfl) (fun w => by kernel_rfl)) hS ?_
   simp only [Act.put, sA_, s0_, sS_]
   refine takeAt 1 20 (fp p) rfl rfl (by kernel_rfl) (by kernel_rfl) (by kernel_rfl) i_ (yields (by rfl) (fun w => by kernel_rfl)) hS ?_
   simp only [Act.put, sA_, s0_, sS_]
   refine takeAt 2 21 (.pointer (some ⟨p, 5, none⟩)) rfl rfl (by kernel_rfl) (by kernel_rfl) (by kernel_rfl) i_ (yields (by rfl) (fun w => by kernel_rfl)) hS ?_
   simp only [Act.put, sA_, s0_, sS_]
   refine takeAt 3 22 (.map (some m')) rfl rfl (by kernel_rfl) (by kernel_rfl) (by kernel_rfl) i_ (ldMp_y p 5 m' (fun _ h => by rw [h]; exact hb2.get 5 rfl) rfl rfl (by rfl)) hS ?_
   simp only [Act.put, sA_, s0_, sS_]
   refine takeAt 4 23 (.agg (frC ⟨fk, fn, ft, ff, fx⟩)) rfl rfl (by kernel_rfl) (by kernel_rfl) (by kernel_rfl) i_ (ldFr_y w.heap.size ⟨fk, fn, ft, ff, fx⟩ (fun _ h => by rw [h]; exact F2d) rfl rfl (by rfl)) hS ?_
   simp only [Act.put, sA_, s0_, sS_]
   refine takeAt 5 24 (.tuple #[.int .i64 (i : Int), .bool (decide (i ≠ 0))]) rfl rfl (by kernel_rfl) (by kernel_rfl) (by kernel_rfl) i_ (lk_y m' _ _ (fun _ h => by rw [h]; exact LK.out _ _ _ _ H2d) rfl rfl rfl (by rfl)) hS ?_
   simp only [Act.put, sA_, s0_, sS_]
   refine takeAt 6 18 (.tuple #[.int .i64 (i : Int), .bool (decide (i ≠ 0))]) rfl rfl (by kernel_rfl) (by kernel_rfl) (by kernel_rfl) i_ (yields (by rfl) (fun w => by kernel_rfl)) hS ?_
   simp only [Act.put, sA_, s0_, sS_]
   refine takeAt 7 25 (.int .i64 (i : Int)) rfl rfl (by kernel_rfl) (by kernel_rfl) (by kernel_rfl) i_ (yields (by rfl) (fun w => by kernel_rfl)) hS ?_
   simp only [Act.put, sA_, s0_, sS_]
   refine takeAt 8 26 (.bool (decide (i ≠ 0))) rfl rfl (by kernel_rfl) (by kernel_rfl) (by kernel_rfl) i_ (yields (by rfl) (fun w => by kernel_rfl)) hS ?_
   simp only [Act.put, sA_, s0_, sS_]
   refine takeAt 9 6 (.int .i64 (i : Int)) rfl rfl (by kernel_rfl) (by kernel_rfl) (by kernel_rfl) i_ (yields (by rfl) (fun w => by kernel_rfl)) hS ?_
   simp only [Act.put, sA_, s0_, sS_]
   refine takeAt 10 7 (.bool (decide (i ≠ 0))) rfl rfl (by kernel_rfl) (by kernel_rfl) (by kernel_rfl) i_ (yields (by rfl) (fun w => by kernel_rfl)) hS ?_
   simp only [Act.put, sA_, s0_, sS_]
   refine wpAnyH_done (by kernel_rfl) ?_ _
   clear hS F2d H2d hb2
   by_cases hi : i = 0
   ·obtain rfl := hi
    have PM1 := Lib.hid ((PM.out.2 (by trivial)).2 rfl)
    clear PM
    rw [show decide ((0 : Nat) ≠ 0) = false from rfl]
    go_wp2_with fail
    have H3 := Lib.hid (show Ms w2.drew.drew p b' m' K none M from H2.out.below (B := w2.heap.size) (Below.refl _ w2).drew.drew (Nat.le_refl _))
    have hS : Below w2.heap.size w2 w2.drew.drew := (Below.refl _ w2).drew.drew
    have APN := AP.out
    have hp2 : p < w2.heap.size := by have := S2.out; omega
    have cst : ∀ u, Below w2.heap.size w2 u → u.cell? ⟨p, 3, none⟩ = some (.int .i64 K.most) := fun u hu => by
     obtain ⟨c3, hb3, -⟩ := (H2.out.below hu (Nat.le_refl _)).box
     exact hb3.get 3 rfl
    refine wp_region_held_drew (S := Below w2.heap.size w2) (by kernel_rfl) hS (fun _ => ?_)
    refine takeAt 0 29 (fp p) rfl rfl (by kernel_rfl) (by kernel_rfl) (by kernel_rfl) i_ (yields (by rfl) (fun w => by kernel_rfl)) hS ?_
    simp only [Act.put, sA_, s0_, sS_]
    refine takeAt 2 31 (fp p) rfl rfl (by kernel_rfl) (by kernel_rfl) (by kernel_rfl) i_ (yields (by rfl) (fun w => by kernel_rfl)) hS ?_
    simp only [Act.put, sA_, s0_, sS_]
    refine takeAt 3 32 (fp p) rfl rfl (by kernel_rfl) (by kernel_rfl) (by kernel_rfl) i_ (yields (by rfl) (fun w => by kernel_rfl)) hS ?_
    simp only [Act.put, sA_, s0_, sS_]
    refine takeAt 4 33 (.pointer (some ⟨p, 3, none⟩)) rfl rfl (by kernel_rfl) (by kernel_rfl) (by kernel_rfl) i_ (yields (by rfl) (fun w => by kernel_rfl)) hS ?_
    simp only [Act.put, sA_, s0_, sS_]
    refine takeAt 5 34 (.int .i64 K.most) rfl rfl (by kernel_rfl) (by kernel_rfl) (by kernel_rfl) i_ (ldI_y p 3 _ cst rfl rfl (by rfl)) hS ?_
    simp only [Act.put, sA_, s0_, sS_]
    refine callAt 1 30 rfl rfl (by kernel_rfl) (by rfl) (by kernel_rfl) (len_any p b' m' K none M _ H3.out) ?_
    rintro e w3 ⟨rfl, hB⟩
    have hS3 : Below w2.heap.size w2 w3 := thenB hS hB (Nat.le_refl _)
    refine ⟨_, rfl, hS3, ?_⟩
    simp only [Act.put, sA_, s0_, sS_]
    refine takeAt 6 35 (.bool (decide ((M.length : Int) - 1 = K.most))) rfl rfl (by kernel_rfl) (by kernel_rfl) (by kernel_rfl) i_ (Or.inl ⟨by rfl, fun u _ => by unfold execOp; go_simp; rfl⟩) hS3 ?_
    simp only [Act.put, sA_, s0_, sS_]
    refine wpAnyH_done (by kernel_rfl) ?_ _
    have B3 := Lib.hid (B2.out.next hS3)
    have H4 := Lib.hid (H2.out.below hS3 (Nat.le_refl _))
    have F3 := Lib.hid (F2.out.below hS3 (by have := S2.out; omega))
    have S3 := Lib.hid (show w.heap.size + 1 ≤ w3.heap.size by have := S2.out; have := hS3.size; omega)
    clear hS hS3 hB cst H3 H2 F2 B2 hp2 APN
    by_cases hm : (M.length : Int) - 1 = K.most
    ·rw [decide_eq_true hm]
     have PMv := Lib.hid (PM1.out.1 hm)
     clear PM1 hm
     go_wp2_with fail
     go_ret2
     refine ⟨?_, b', m', ?_, AN.out.1, AN.out.2, B3.out⟩
     ·rw [PMv.out]; rfl
     ·rw [PMv.out]; exact H4.out
    ·rw [decide_eq_false hm]
     have PMv := Lib.hid (PM1.out.2 hm)
     clear PM1 hm
     have hmx := mayF_x NR.out.1
     obtain ⟨ix, rfl⟩ : ∃ ix : Nat, fx = ix := ⟨fx.toNat, by have := hmx.1; dsimp only at this; omega⟩
     have hix : ix < M.length := by have := hmx.2; dsimp only at this; omega
     clear hmx
     obtain ⟨c3, hb3, hown3⟩ := H4.out.box
     have hb31 := hb3.get 4 rfl
     have HOWN := Lib.hid hown3
     have HB3 := Lib.hid hb3
     clear hown3 hb3
     go_wp2_with fail
     have hown3 := HOWN.out
     have hb3 := HB3.out
     clear HOWN HB3
     obtain ⟨D, hmap3, hD⟩ := H4.out.map
     obtain ⟨y, hy⟩ : ∃ y : Pl, y = (⟨fk, fn, ft, ff, (ix : Int)⟩, dpI M ix + 1) := ⟨_, rfl⟩
     obtain ⟨w5, hw5⟩ : ∃ w5, w3.drew.alloc (.cells (plC y) 112) = w5 := ⟨_, rfl⟩
     have AP0 := AP.out
     have AP1 := H4.out.apart
     have hs3 := S3.out
     have hB5 : Below w3.heap.size w3 w5 := hw5 ▸ ((Below.refl _ w3).drew.alloc (Nat.le_refl _) _)
     have hs5 : w5.heap.size = w3.heap.size + 1 := by rw [← hw5]; simp
     have hnew : BoxV 112 w5 w3.heap.size (plC y) := hw5 ▸ BoxV.new w3.drew _
     have hown5 : w5.ownsRow 0 112 6 (slc b' M.length c3) M.length (M.flatMap plL) := hw5 ▸ hown3.alloc _
     obtain ⟨ip, hip, hp1, hp2, hp3⟩ := info_parts infoPl
     have hlm := HL.out
     obtain ⟨v', w6, hrun, hown6, hgr, -, hv'⟩ := run_append_own_at (P := Tryz.prog) (w := w5) 0 80 80 112 ip _ 6 48 Tryz.underlying80 hip hp1 hp2 hp3 rfl (by decide) (slc b' M.length c3) _ _ hown5 ⟨w3.heap.size, 0, none⟩ 1 1 (plL y) rfl
      (by
       intro j x hj
       rw [addr_add, Nat.zero_add]
       exact hnew.get j (by rw [← hj]; simp [plL])) (plL_one y) (by unfold maxLen; omega) (by omega) (Nat.zero_le _)
     obtain ⟨b'', c', rfl⟩ : ∃ b'' c', v' = slc b'' (M.length + 1) c' := by
      rcases hown6.2 with ⟨-, e⟩ | ⟨g, cap, cur, e, -⟩
      ·omega
      ·exact ⟨g, cap, e⟩
     have hbb : b'' = b' ∨ b'' = w5.heap.size := by
      rcases hv' with e | e
      ·left; injection e
      ·right; injection e
     have hpb : p ≠ b'' := by rcases hbb with e | e <;> omega
     obtain ⟨w7, hw7⟩ : ∃ w7, w6.setCell ⟨p, 4, none⟩ (slc b'' (M.length + 1) c') = w7 := ⟨_, rfl⟩
     have k6 : ∀ j, j < w3.heap.size → j ≠ b' → w6.heap[j]? = w3.heap[j]? := fun j h1 h2 => (hgr.block j (by omega) (fun e => h2 (by injection e))).trans (hB5.block j h1)
     have k7 : ∀ j, j ≠ p → w7.heap[j]? = w6.heap[j]? := fun j hj => by rw [← hw7]; exact heap_setCell_other _ _ _ _ (fun e => hj e)
     have hp6 : BoxV 85 w6 p (mcC K b' m' M.length c3 (fp p)) := (k6 p (by omega) (by omega)).trans hb3
     have hp7 : BoxV 85 w7 p (mcC K b'' m' (M.length + 1) c' (fp p)) := by rw [← hw7]; exact hp6.put 4 _
     have hF5 : BoxV 90 w5 w.heap.size (frC ⟨fk, fn, ft, ff, (ix : Int)⟩) := F3.out.below hB5 (by omega)
     have hF6 : BoxV 90 w6 w.heap.size (frC ⟨fk, fn, ft, ff, (ix : Int)⟩) := (k6 _ (by omega) (by omega)).trans F3.out
     have hF7 : BoxV 90 w7 w.heap.size (frC ⟨fk, fn, ft, ff, (ix : Int)⟩) := (k7 _ (by omega)).trans hF6
     have hown7 : w7.ownsRow 0 112 6 (slc b'' (M ++ [y]).length c') (M ++ [y]).length ((M ++ [y]).flatMap plL) := by
      rw [List.flatMap_append, List.length_append]
      refine ⟨by have := hown6.1; simpa using this, ?_⟩
      rcases hown6.2 with ⟨e, -⟩ | ⟨g, cap, cur, e, h0, h1, h2, h3, h4, h5⟩
      ·cases e
      ·have e1 : g = b'' := by injection e with e1; injection e1 with e1; injection e1 with e1; exact e1.symm
       subst e1
       exact .inr ⟨g, cap, cur, by injection e with _ _ e2; rw [e2], h0, (k7 _ (by omega)).trans h1, h2, h3, h4, by simpa using h5⟩
     have hmap7 : w7.drew.ownsMap Tryz.prog 90 (plainElem Tryz.prog 3) m' M.length D := by
      obtain ⟨es, cl, h1, h2⟩ := hmap3
      exact ⟨es, cl, (k7 m' (by omega)).trans ((k6 m' (by omega) (by omega)).trans h1), h2⟩
     obtain ⟨w8, hup, hown8, hgr8⟩ := hmap7.update lawF Tryz.underlying81 (by unfold maxLen; omega) (keyF HF.out) (plainElem_int Tryz.underlying3 (a := (M.length : Int)) (wf_i (by unfold I64; omega)))
     have k8 : ∀ j, j < w7.heap.size → j ≠ m' → w8.heap[j]? = w7.heap[j]? := fun j h1 h2 => hgr8.block j h1 (fun e => h2 (by injection e))
     have hs6 := hgr.size
     have hs7 : w7.heap.size = w6.heap.size := by rw [← hw7]; simp [World.setCell]
     have hb8 : b'' < w7.heap.size := lt_of_block (owns_block hown7).choose_spec
     have hp8 : BoxV 85 w8 p (mcC K b'' m' (M.length + 1) c' (fp p)) := (k8 p (by omega) (by omega)).trans hp7
     have hF8 : BoxV 90 w8 w.heap.size (frC ⟨fk, fn, ft, ff, (ix : Int)⟩) := (k8 _ (by omega) (by omega)).trans hF7
     have hbm : b'' ≠ m' := by
      rcases hbb with e | e <;> omega
     have hey : y = (⟨fk, fn, ft, ff, (ix : Int)⟩, dpI M (Fr.x ⟨fk, fn, ft, ff, (ix : Int)⟩).toNat + 1) := hy
     have ST8 := Lib.hid (show Ms w8 p b'' m' K none (M ++ [y]) by
      refine ⟨⟨c', by rw [List.length_append]; exact hp8, hown7.1, ?_⟩, ⟨_, by rw [List.length_append]; exact hown8, hey ▸ hD.push H4.out.wf HF.out NR.out.2 _⟩, (fun x hx => nomatch hx), ?_, by simp; omega, H4.out.most⟩
      ·rcases hown7.2 with ⟨e, -⟩ | ⟨g, cap, cur, e, h0, h1, h2⟩
       ·cases e
       ·have e1 : g = b'' := by injection e with e1; injection e1 with e1; injection e1 with e1; exact e1.symm
        subst e1
        exact .inr ⟨g, cap, cur, e, h0, (k8 _ hb8 hbm).trans h1, h2⟩
      ·rw [hey]; exact H4.out.wf.push NR.out.1 HF.out NR.out.2)
     have BS8 := Lib.hid (show ButS p b m w w8 by
      refine ⟨?_, fun j h1 h2 h3 h4 => ?_⟩
      ·refine B3.out.low.trans ((hB5.mono (Nat.zero_le _)).trans (Below.trans (b := w6) ⟨hgr.os, hgr.tape, hgr.output, hgr.size, fun j hj => absurd hj (by omega)⟩ (Below.trans (b := w7) ?_ ⟨hgr8.os, hgr8.tape, hgr8.output, hgr8.size, fun j hj => absurd hj (by omega)⟩)))
       rw [← hw7]
       exact (Below.refl 0 w6).setCell (Nat.zero_le _) _
      ·exact (k8 j (by omega) (by have := AN.out.2; omega)).trans ((k7 j h2).trans ((k6 j (by omega) (by have := AN.out.1; omega)).trans (B3.out.keep j h1 h2 h3 h4))))
     have BB8 := Lib.hid (show b'' = b ∨ w.heap.size ≤ b'' by have := AN.out.1; rcases hbb with e | e <;> omega)
     have hdp := H4.out.wf.deep ix ix (Nat.le_refl _)
     have hdc : ∀ u : World, u.heap[b']? = w3.heap[b']? → u.cell? ⟨b', ix * 6 + 5, none⟩ = some (.int .i64 (dpI M ix : Int)) := fun u hu => (cell_hp hu _).trans (H4.out.dp hix)
     have hfz := hp6.free 4
     have hp61 := hp6.get 4 rfl
     have hS : BoxV 90 w3.drew w.heap.size (frC ⟨fk, fn, ft, ff, (ix : Int)⟩) := F3.out
     have hb3d : w3.drew.cell? ⟨p, 4, none⟩ = some (slc b' M.length c3) := hb31
     have hb5d : w5.cell? ⟨p, 4, none⟩ = some (slc b' M.length c3) := (hb3.below hB5 (by omega)).get 4 rfl
     have hdd := hdc w3.drew rfl
     have d0 : (0 : Int) ≤ (dpI M ix : Int) := by omega
     have d1 : (dpI M ix : Int) ≤ 1000000 := by omega
     have i0 : (0 : Int) ≤ (ix : Int) := by omega
     have i1 : (ix : Int) < (M.length : Int) := by omega
     have hdm : dpI M ix ≤ 1000000 := by omega
     have hF9 := Lib.hid (And.intro hF8 (hp8.get 5 rfl))
     have hF7d := Lib.hid (And.intro hF7 (hp7.get 5 rfl))
     clear hb3 hown3 hmap3 hown5 hown6 hown7 hmap7 hown8 hgr hgr8 k6 k7 k8 hp6 hp7 hp8 hnew hbb hv' hs6 hs7 hb8 hbm hpb hD hdc hip hp1 hp2 hp3 hlm AP0 hs3 hs5 hdp AP1 H4 B3 F3 S3 AP HL
     refine wp_region_held_drew (S := fun u => BoxV 90 u w.heap.size (frC ⟨fk, fn, ft, ff, (ix : Int)⟩)) (by kernel_rfl) hS (fun _ => ?_)
     refine takeAt 0 41 (fp p) rfl rfl (by kernel_rfl) (by kernel_rfl) (by kernel_rfl) i_ (yields (by rfl) (fun w => by kernel_rfl)) hS ?_
     simp only [Act.put, sA_, s0_, sS_]
     refine takeAt 1 42 (fp p) rfl rfl (by kernel_rfl) (by kernel_rfl) (by kernel_rfl) i_ (yields (by rfl) (fun w => by kernel_rfl)) hS ?_
     simp only [Act.put, sA_, s0_, sS_]
     refine takeAt 2 43 (fp p) rfl rfl (by kernel_rfl) (by kernel_rfl) (by kernel_rfl) i_ (yields (by rfl) (fun w => by kernel_rfl)) hS ?_
     simp only [Act.put, sA_, s0_, sS_]
     refine takeAt 3 44 (.pointer (some ⟨p, 4, none⟩)) rfl rfl (by kernel_rfl) (by kernel_rfl) (by kernel_rfl) i_ (yields (by rfl) (fun w => by kernel_rfl)) hS ?_
     simp only [Act.put, sA_, s0_, sS_]
     refine takeAt 5 46 (.agg (frC ⟨fk, fn, ft, ff, (ix : Int)⟩)) rfl rfl (by kernel_rfl) (by kernel_rfl) (by kernel_rfl) i_ (ldFr_y w.heap.size ⟨fk, fn, ft, ff, (ix : Int)⟩ (fun _ h => h) rfl rfl (by rfl)) hS ?_
     simp only [Act.put, sA_, s0_, sS_]
     refine takeAt 6 47 (fp p) rfl rfl (by kernel_rfl) (by kernel_rfl) (by kernel_rfl) i_ (yields (by rfl) (fun w => by kernel_rfl)) hS ?_
     simp only [Act.put, sA_, s0_, sS_]
     refine takeAt 7 48 (fp p) rfl rfl (by kernel_rfl) (by kernel_rfl) (by kernel_rfl) i_ (yields (by rfl) (fun w => by kernel_rfl)) hS ?_
     simp only [Act.put, sA_, s0_, sS_]
     refine takeAt 8 49 (.pointer (some ⟨p, 4, none⟩)) rfl rfl (by kernel_rfl) (by kernel_rfl) (by kernel_rfl) i_ (yields (by rfl) (fun w => by kernel_rfl)) hS ?_
     simp only [Act.put, sA_, s0_, sS_]
     refine takeAt 10 51 (.pointer (some ⟨w.heap.size, 4, none⟩)) rfl rfl (by kernel_rfl) (by kernel_rfl) (by kernel_rfl) i_ (yields (by rfl) (fun w => by kernel_rfl)) hS ?_
     simp only [Act.put, sA_, s0_, sS_]
     refine takeAt 11 52 (.int .i64 (ix : Int)) rfl rfl (by kernel_rfl) (by kernel_rfl) (by kernel_rfl) i_ (ldI_y w.heap.size 4 _ (fun _ h => h.get 4 rfl) rfl rfl (by rfl)) hS ?_
     simp only [Act.put, sA_, s0_, sS_]
     refine wpAnyH_ready (rs := [4, 9]) (by kernel_rfl) (by simp) (AllReadyH.cons rfl (valStep 4 45 (slc b' M.length c3) w3.drew rfl (by rfl) (ldSl_run p 4 _ hb3d rfl rfl) hS ?_) (AllReadyH.cons rfl (valStep 9 50 (slc b' M.length c3) w3.drew rfl (by rfl) (ldSl_run p 4 _ hb3d rfl rfl) hS ?_) AllReadyH.nil))
     ·simp only [Act.put, sA_, s0_, sS_]
      refine valAt 9 50 (slc b' M.length c3) w3.drew rfl rfl (by kernel_rfl) (by rfl) (ldSl_run p 4 _ hb3d rfl rfl) hS ?_
      simp only [Act.put, sA_, s0_, sS_]
      refine takeAt 12 53 (.pointer (some ⟨b', ix * 6, none⟩)) rfl rfl (by kernel_rfl) (by kernel_rfl) (by kernel_rfl) i_ (Or.inl ⟨by rfl, fun u _ => by unfold execOp; go_simp⟩) hS ?_
      simp only [Act.put, sA_, s0_, sS_]
      refine takeAt 13 54 (.pointer (some ⟨b', ix * 6 + 5, none⟩)) rfl rfl (by kernel_rfl) (by kernel_rfl) (by kernel_rfl) i_ (yields (by rfl) (fun w => by kernel_rfl)) hS ?_
      simp only [Act.put, sA_, s0_, sS_]
      refine valAt 14 55 (.int .i64 (dpI M ix : Int)) w3.drew rfl rfl (by kernel_rfl) (by rfl) (ldI_run b' (ix * 6 + 5) _ hdd rfl rfl) hS ?_
      simp only [Act.put, sA_, s0_, sS_]
      refine takeAt 15 56 (.int .i64 ((dpI M ix + 1 : Nat) : Int)) rfl rfl (by kernel_rfl) (by kernel_rfl) (by kernel_rfl) i_ (addI_y (dpI M ix) hdm rfl rfl rfl (by rfl)) hS ?_
      simp only [Act.put, sA_, s0_, sS_]
      refine takeAt 16 57 (.agg (plC y)) rfl rfl (by kernel_rfl) (by kernel_rfl) (by kernel_rfl) i_ (Or.inl ⟨by rfl, fun u _ => by rw [hy]; kernel_rfl⟩) hS ?_
      simp only [Act.put, sA_, s0_, sS_]
      refine valAt 17 58 (.slice (some ⟨w3.heap.size, 0, none⟩) 1 1) w5 rfl rfl (by kernel_rfl) (by rfl) (by rw [← hw5]; kernel_rfl) hF5 ?_
      simp only [Act.put, sA_, s0_, sS_]
      refine valAt 18 59 (slc b'' (M.length + 1) c') w6 rfl rfl (by kernel_rfl) (by rfl) (append_run rfl rfl rfl hrun) hF6 ?_
      simp only [Act.put, sA_, s0_, sS_]
      refine takeAt 19 60 (fp p) rfl rfl (by kernel_rfl) (by kernel_rfl) (by kernel_rfl) i_ (yields (by rfl) (fun w => by kernel_rfl)) hF6 ?_
      simp only [Act.put, sA_, s0_, sS_]
      refine takeAt 20 61 (.pointer (some ⟨p, 4, none⟩)) rfl rfl (by kernel_rfl) (by kernel_rfl) (by kernel_rfl) i_ (yields (by rfl) (fun w => by kernel_rfl)) hF6 ?_
      simp only [Act.put, sA_, s0_, sS_]
      refine skipAt 21 w7 rfl rfl (by kernel_rfl) (by rfl) (by rw [← hw7]; exact stSl_run p 4 _ _ _ _ hfz hp61 rfl rfl rfl) hF7 ?_
      refine wpAnyH_done (by kernel_rfl) ?_ _
      clear hS hb3d hb5d hdd hdm hF5 hF6 hF7 hF8 hw5 hw7 hrun hfz hp61 hb31 hB5
      go_wp2_with fail
      have hS : w7.drew.cell? ⟨p, 5, none⟩ = some (.map (some m')) ∧ BoxV 90 w7.drew w.heap.size (frC ⟨fk, fn, ft, ff, (ix : Int)⟩) := ⟨hF7d.out.2, hF7d.out.1⟩
      refine wp_region_held_drew (S := fun u => u.cell? ⟨p, 5, none⟩ = some (.map (some m')) ∧ BoxV 90 u w.heap.size (frC ⟨fk, fn, ft, ff, (ix : Int)⟩)) (by kernel_rfl) hS (fun _ => ?_)
      refine takeAt 0 62 (fp p) rfl rfl (by kernel_rfl) (by kernel_rfl) (by kernel_rfl) i_ (yields (by rfl) (fun w => by kernel_rfl)) hS ?_
      simp only [Act.put, sA_, s0_, sS_]
      refine takeAt 1 63 (fp p) rfl rfl (by kernel_rfl) (by kernel_rfl) (by kernel_rfl) i_ (yields (by rfl) (fun w => by kernel_rfl)) hS ?_
      simp only [Act.put, sA_, s0_, sS_]
      refine takeAt 2 64 (.pointer (some ⟨p, 5, none⟩)) rfl rfl (by kernel_rfl) (by kernel_rfl) (by kernel_rfl) i_ (yields (by rfl) (fun w => by kernel_rfl)) hS ?_
      simp only [Act.put, sA_, s0_, sS_]
      refine takeAt 3 65 (.map (some m')) rfl rfl (by kernel_rfl) (by kernel_rfl) (by kernel_rfl) i_ (ldMp_y p 5 m' (fun _ h => h.1) rfl rfl (by rfl)) hS ?_
      simp only [Act.put, sA_, s0_, sS_]
      refine takeAt 4 66 (.agg (frC ⟨fk, fn, ft, ff, (ix : Int)⟩)) rfl rfl (by kernel_rfl) (by kernel_rfl) (by kernel_rfl) i_ (ldFr_y w.heap.size ⟨fk, fn, ft, ff, (ix : Int)⟩ (fun _ h => h.2) rfl rfl (by rfl)) hS ?_
      simp only [Act.put, sA_, s0_, sS_]
      refine takeAt 5 67 (.int .i64 (M.length : Int)) rfl rfl (by kernel_rfl) (by kernel_rfl) (by kernel_rfl) i_ (yields (by rfl) (fun w => by kernel_rfl)) hS ?_
      simp only [Act.put, sA_, s0_, sS_]
      refine skipAt 6 w8 rfl rfl (by kernel_rfl) (by rfl) (up_run m' _ _ hup rfl rfl rfl rfl) ⟨hF9.out.2, hF9.out.1⟩ ?_
      refine wpAnyH_done (by kernel_rfl) ?_ _
      clear hup hS hy
      go_wp2_with fail
      go_ret2
      refine ⟨?_, b'', m', ?_, BB8.out, AN.out.2, BS8.out⟩
      ·rw [PMv.out]; rfl
      ·rw [PMv.out]; exact hey ▸ ST8.out
     ·simp only [Act.put, sA_, s0_, sS_]
      refine takeAt 12 53 (.pointer (some ⟨b', ix * 6, none⟩)) rfl rfl (by kernel_rfl) (by kernel_rfl) (by kernel_rfl) i_ (Or.inl ⟨by rfl, fun u _ => by unfold execOp; go_simp⟩) hS ?_
      simp only [Act.put, sA_, s0_, sS_]
      refine takeAt 13 54 (.pointer (some ⟨b', ix * 6 + 5, none⟩)) rfl rfl (by kernel_rfl) (by kernel_rfl) (by kernel_rfl) i_ (yields (by rfl) (fun w => by kernel_rfl)) hS ?_
      simp only [Act.put, sA_, s0_, sS_]
      refine wpAnyH_ready (rs := [4, 14]) (by kernel_rfl) (by simp) (AllReadyH.cons rfl (valStep 4 45 (slc b' M.length c3) w3.drew rfl (by rfl) (ldSl_run p 4 _ hb3d rfl rfl) hS ?_) (AllReadyH.cons rfl (valStep 14 55 (.int .i64 (dpI M ix : Int)) w3.drew rfl (by rfl) (ldI_run b' (ix * 6 + 5) _ hdd rfl rfl) hS ?_) AllReadyH.nil))
      ·simp only [Act.put, sA_, s0_, sS_]
       refine valAt 14 55 (.int .i64 (dpI M ix : Int)) w3.drew rfl rfl (by kernel_rfl) (by rfl) (ldI_run b' (ix * 6 + 5) _ hdd rfl rfl) hS ?_
       simp only [Act.put, sA_, s0_, sS_]
       refine takeAt 15 56 (.int .i64 ((dpI M ix + 1 : Nat) : Int)) rfl rfl (by kernel_rfl) (by kernel_rfl) (by kernel_rfl) i_ (addI_y (dpI M ix) hdm rfl rfl rfl (by rfl)) hS ?_
       simp only [Act.put, sA_, s0_, sS_]
       refine takeAt 16 57 (.agg (plC y)) rfl rfl (by kernel_rfl) (by kernel_rfl) (by kernel_rfl) i_ (Or.inl ⟨by rfl, fun u _ => by rw [hy]; kernel_rfl⟩) hS ?_
       simp only [Act.put, sA_, s0_, sS_]
       refine valAt 17 58 (.slice (some ⟨w3.heap.size, 0, none⟩) 1 1) w5 rfl rfl (by kernel_rfl) (by rfl) (by rw [← hw5]; kernel_rfl) hF5 ?_
       simp only [Act.put, sA_, s0_, sS_]
       refine valAt 18 59 (slc b'' (M.length + 1) c') w6 rfl rfl (by kernel_rfl) (by rfl) (append_run rfl rfl rfl hrun) hF6 ?_
       simp only [Act.put, sA_, s0_, sS_]
       refine takeAt 19 60 (fp p) rfl rfl (by kernel_rfl) (by kernel_rfl) (by kernel_rfl) i_ (yields (by rfl) (fun w => by kernel_rfl)) hF6 ?_
       simp only [Act.put, sA_, s0_, sS_]
       refine takeAt 20 61 (.pointer (some ⟨p, 4, none⟩)) rfl rfl (by kernel_rfl) (by kernel_rfl) (by kernel_rfl) i_ (yields (by rfl) (fun w => by kernel_rfl)) hF6 ?_
       simp only [Act.put, sA_, s0_, sS_]
       refine skipAt 21 w7 rfl rfl (by kernel_rfl) (by rfl) (by rw [← hw7]; exact stSl_run p 4 _ _ _ _ hfz hp61 rfl rfl rfl) hF7 ?_
       refine wpAnyH_done (by kernel_rfl) ?_ _
       clear hS hb3d hb5d hdd hdm hF5 hF6 hF7 hF8 hw5 hw7 hrun hfz hp61 hb31 hB5
       go_wp2_with fail
       have hS : w7.drew.cell? ⟨p, 5, none⟩ = some (.map (some m')) ∧ BoxV 90 w7.drew w.heap.size (frC ⟨fk, fn, ft, ff, (ix : Int)⟩) := ⟨hF7d.out.2, hF7d.out.1⟩
       refine wp_region_held_drew (S := fun u => u.cell? ⟨p, 5, none⟩ = some (.map (some m')) ∧ BoxV 90 u w.heap.size (frC ⟨fk, fn, ft, ff, (ix : Int)⟩)) (by kernel_rfl) hS (fun _ => ?_)
       refine takeAt 0 62 (fp p) rfl rfl (by kernel_rfl) (by kernel_rfl) (by kernel_rfl) i_ (yields (by rfl) (fun w => by kernel_rfl)) hS ?_
       simp only [Act.put, sA_, s0_, sS_]
       refine takeAt 1 63 (fp p) rfl rfl (by kernel_rfl) (by kernel_rfl) (by kernel_rfl) i_ (yields (by rfl) (fun w => by kernel_rfl)) hS ?_
       simp only [Act.put, sA_, s0_, sS_]
       refine takeAt 2 64 (.pointer (some ⟨p, 5, none⟩)) rfl rfl (by kernel_rfl) (by kernel_rfl) (by kernel_rfl) i_ (yields (by rfl) (fun w => by kernel_rfl)) hS ?_
       simp only [Act.put, sA_, s0_, sS_]
       refine takeAt 3 65 (.map (some m')) rfl rfl (by kernel_rfl) (by kernel_rfl) (by kernel_rfl) i_ (ldMp_y p 5 m' (fun _ h => h.1) rfl rfl (by rfl)) hS ?_
       simp only [Act.put, sA_, s0_, sS_]
       refine takeAt 4 66 (.agg (frC ⟨fk, fn, ft, ff, (ix : Int)⟩)) rfl rfl (by kernel_rfl) (by kernel_rfl) (by kernel_rfl) i_ (ldFr_y w.heap.size ⟨fk, fn, ft, ff, (ix : Int)⟩ (fun _ h => h.2) rfl rfl (by rfl)) hS ?_
       simp only [Act.put, sA_, s0_, sS_]
       refine takeAt 5 67 (.int .i64 (M.length : Int)) rfl rfl (by kernel_rfl) (by kernel_rfl) (by kernel_rfl) i_ (yields (by rfl) (fun w => by kernel_rfl)) hS ?_
       simp only [Act.put, sA_, s0_, sS_]
       refine skipAt 6 w8 rfl rfl (by kernel_rfl) (by rfl) (up_run m' _ _ hup rfl rfl rfl rfl) ⟨hF9.out.2, hF9.out.1⟩ ?_
       refine wpAnyH_done (by kernel_rfl) ?_ _
       clear hup hS hy
       go_wp2_with fail
       go_ret2
       refine ⟨?_, b'', m', ?_, BB8.out, AN.out.2, BS8.out⟩
       ·rw [PMv.out]; rfl
       ·rw [PMv.out]; exact hey ▸ ST8.out
      ·simp only [Act.put, sA_, s0_, sS_]
       refine takeAt 15 56 (.int .i64 ((dpI M ix + 1 : Nat) : Int)) rfl rfl (by kernel_rfl) (by kernel_rfl) (by kernel_rfl) i_ (addI_y (dpI M ix) hdm rfl rfl rfl (by rfl)) hS ?_
       simp only [Act.put, sA_, s0_, sS_]
       refine takeAt 16 57 (.agg (plC y)) rfl rfl (by kernel_rfl) (by kernel_rfl) (by kernel_rfl) i_ (Or.inl ⟨by rfl, fun u _ => by rw [hy]; kernel_rfl⟩) hS ?_
       simp only [Act.put, sA_, s0_, sS_]
       refine wpAnyH_ready (rs := [4, 17]) (by kernel_rfl) (by simp) (AllReadyH.cons rfl (valStep 4 45 (slc b' M.length c3) w3.drew rfl (by rfl) (ldSl_run p 4 _ hb3d rfl rfl) hS ?_) (AllReadyH.cons rfl (valStep 17 58 (.slice (some ⟨w3.heap.size, 0, none⟩) 1 1) w5 rfl (by rfl) (by rw [← hw5]; kernel_rfl) hF5 ?_) AllReadyH.nil))
       ·simp only [Act.put, sA_, s0_, sS_]
        refine valAt 17 58 (.slice (some ⟨w3.heap.size, 0, none⟩) 1 1) w5 rfl rfl (by kernel_rfl) (by rfl) (by rw [← hw5]; kernel_rfl) hF5 ?_
        simp only [Act.put, sA_, s0_, sS_]
        refine valAt 18 59 (slc b'' (M.length + 1) c') w6 rfl rfl (by kernel_rfl) (by rfl) (append_run rfl rfl rfl hrun) hF6 ?_
        simp only [Act.put, sA_, s0_, sS_]
        refine takeAt 19 60 (fp p) rfl rfl (by kernel_rfl) (by kernel_rfl) (by kernel_rfl) i_ (yields (by rfl) (fun w => by kernel_rfl)) hF6 ?_
        simp only [Act.put, sA_, s0_, sS_]
        refine takeAt 20 61 (.pointer (some ⟨p, 4, none⟩)) rfl rfl (by kernel_rfl) (by kernel_rfl) (by kernel_rfl) i_ (yields (by rfl) (fun w => by kernel_rfl)) hF6 ?_
        simp only [Act.put, sA_, s0_, sS_]
        refine skipAt 21 w7 rfl rfl (by kernel_rfl) (by rfl) (by rw [← hw7]; exact stSl_run p 4 _ _ _ _ hfz hp61 rfl rfl rfl) hF7 ?_
        refine wpAnyH_done (by kernel_rfl) ?_ _
        clear hS hb3d hb5d hdd hdm hF5 hF6 hF7 hF8 hw5 hw7 hrun hfz hp61 hb31 hB5
        go_wp2_with fail
        have hS : w7.drew.cell? ⟨p, 5, none⟩ = some (.map (some m')) ∧ BoxV 90 w7.drew w.heap.size (frC ⟨fk, fn, ft, ff, (ix : Int)⟩) := ⟨hF7d.out.2, hF7d.out.1⟩
        refine wp_region_held_drew (S := fun u => u.cell? ⟨p, 5, none⟩ = some (.map (some m')) ∧ BoxV 90 u w.heap.size (frC ⟨fk, fn, ft, ff, (ix : Int)⟩)) (by kernel_rfl) hS (fun _ => ?_)
        refine takeAt 0 62 (fp p) rfl rfl (by kernel_rfl) (by kernel_rfl) (by kernel_rfl) i_ (yields (by rfl) (fun w => by kernel_rfl)) hS ?_
        simp only [Act.put, sA_, s0_, sS_]
        refine takeAt 1 63 (fp p) rfl rfl (by kernel_rfl) (by kernel_rfl) (by kernel_rfl) i_ (yields (by rfl) (fun w => by kernel_rfl)) hS ?_
        simp only [Act.put, sA_, s0_, sS_]
        refine takeAt 2 64 (.pointer (some ⟨p, 5, none⟩)) rfl rfl (by kernel_rfl) (by kernel_rfl) (by kernel_rfl) i_ (yields (by rfl) (fun w => by kernel_rfl)) hS ?_
        simp only [Act.put, sA_, s0_, sS_]
        refine takeAt 3 65 (.map (some m')) rfl rfl (by kernel_rfl) (by kernel_rfl) (by kernel_rfl) i_ (ldMp_y p 5 m' (fun _ h => h.1) rfl rfl (by rfl)) hS ?_
        simp only [Act.put, sA_, s0_, sS_]
        refine takeAt 4 66 (.agg (frC ⟨fk, fn, ft, ff, (ix : Int)⟩)) rfl rfl (by kernel_rfl) (by kernel_rfl) (by kernel_rfl) i_ (ldFr_y w.heap.size ⟨fk, fn, ft, ff, (ix : Int)⟩ (fun _ h => h.2) rfl rfl (by rfl)) hS ?_
        simp only [Act.put, sA_, s0_, sS_]
        refine takeAt 5 67 (.int .i64 (M.length : Int)) rfl rfl (by kernel_rfl) (by kernel_rfl) (by kernel_rfl) i_ (yields (by rfl) (fun w => by kernel_rfl)) hS ?_
        simp only [Act.put, sA_, s0_, sS_]
        refine skipAt 6 w8 rfl rfl (by kernel_rfl) (by rfl) (up_run m' _ _ hup rfl rfl rfl rfl) ⟨hF9.out.2, hF9.out.1⟩ ?_
        refine wpAnyH_done (by kernel_rfl) ?_ _
        clear hup hS hy
        go_wp2_with fail
        go_ret2
        refine ⟨?_, b'', m', ?_, BB8.out, AN.out.2, BS8.out⟩
        ·rw [PMv.out]; rfl
        ·rw [PMv.out]; exact hey ▸ ST8.out
       ·simp only [Act.put, sA_, s0_, sS_]
        refine valAt 4 45 (slc b' M.length c3) w5 rfl rfl (by kernel_rfl) (by rfl) (ldSl_run p 4 _ hb5d rfl rfl) hF5 ?_
        simp only [Act.put, sA_, s0_, sS_]
        refine valAt 18 59 (slc b'' (M.length + 1) c') w6 rfl rfl (by kernel_rfl) (by rfl) (append_run rfl rfl rfl hrun) hF6 ?_
        simp only [Act.put, sA_, s0_, sS_]
        refine takeAt 19 60 (fp p) rfl rfl (by kernel_rfl) (by kernel_rfl) (by kernel_rfl) i_ (yields (by rfl) (fun w => by kernel_rfl)) hF6 ?_
        simp only [Act.put, sA_, s0_, sS_]
        refine takeAt 20 61 (.pointer (some ⟨p, 4, none⟩)) rfl rfl (by kernel_rfl) (by kernel_rfl) (by kernel_rfl) i_ (yields (by rfl) (fun w => by kernel_rfl)) hF6 ?_
        simp only [Act.put, sA_, s0_, sS_]
        refine skipAt 21 w7 rfl rfl (by kernel_rfl) (by rfl) (by rw [← hw7]; exact stSl_run p 4 _ _ _ _ hfz hp61 rfl rfl rfl) hF7 ?_
        refine wpAnyH_done (by kernel_rfl) ?_ _
        clear hS hb3d hb5d hdd hdm hF5 hF6 hF7 hF8 hw5 hw7 hrun hfz hp61 hb31 hB5
        go_wp2_with fail
        have hS : w7.drew.cell? ⟨p, 5, none⟩ = some (.map (some m')) ∧ BoxV 90 w7.drew w.heap.size (frC ⟨fk, fn, ft, ff, (ix : Int)⟩) := ⟨hF7d.out.2, hF7d.out.1⟩
        refine wp_region_held_drew (S := fun u => u.cell? ⟨p, 5, none⟩ = some (.map (some m')) ∧ BoxV 90 u w.heap.size (frC ⟨fk, fn, ft, ff, (ix : Int)⟩)) (by kernel_rfl) hS (fun _ => ?_)
        refine takeAt 0 62 (fp p) rfl rfl (by kernel_rfl) (by kernel_rfl) (by kernel_rfl) i_ (yields (by rfl) (fun w => by kernel_rfl)) hS ?_
        simp only [Act.put, sA_, s0_, sS_]
        refine takeAt 1 63 (fp p) rfl rfl (by kernel_rfl) (by kernel_rfl) (by kernel_rfl) i_ (yields (by rfl) (fun w => by kernel_rfl)) hS ?_
        simp only [Act.put, sA_, s0_, sS_]
        refine takeAt 2 64 (.pointer (some ⟨p, 5, none⟩)) rfl rfl (by kernel_rfl) (by kernel_rfl) (by kernel_rfl) i_ (yields (by rfl) (fun w => by kernel_rfl)) hS ?_
        simp only [Act.put, sA_, s0_, sS_]
        refine takeAt 3 65 (.map (some m')) rfl rfl (by kernel_rfl) (by kernel_rfl) (by kernel_rfl) i_ (ldMp_y p 5 m' (fun _ h => h.1) rfl rfl (by rfl)) hS ?_
        simp only [Act.put, sA_, s0_, sS_]
        refine takeAt 4 66 (.agg (frC ⟨fk, fn, ft, ff, (ix : Int)⟩)) rfl rfl (by kernel_rfl) (by kernel_rfl) (by kernel_rfl) i_ (ldFr_y w.heap.size ⟨fk, fn, ft, ff, (ix : Int)⟩ (fun _ h => h.2) rfl rfl (by rfl)) hS ?_
        simp only [Act.put, sA_, s0_, sS_]
        refine takeAt 5 67 (.int .i64 (M.length : Int)) rfl rfl (by kernel_rfl) (by kernel_rfl) (by kernel_rfl) i_ (yields (by rfl) (fun w => by kernel_rfl)) hS ?_
        simp only [Act.put, sA_, s0_, sS_]
        refine skipAt 6 w8 rfl rfl (by kernel_rfl) (by rfl) (up_run m' _ _ hup rfl rfl rfl rfl) ⟨hF9.out.2, hF9.out.1⟩ ?_
        refine wpAnyH_done (by kernel_rfl) ?_ _
        clear hup hS hy
        go_wp2_with fail
        go_ret2
        refine ⟨?_, b'', m', ?_, BB8.out, AN.out.2, BS8.out⟩
        ·rw [PMv.out]; rfl
        ·rw [PMv.out]; exact hey ▸ ST8.out
   ·have PM1 := Lib.hid ((PM.out.2 (by trivial)).1 hi)
    clear PM
    rw [decide_eq_true (show i ≠ 0 from hi)]
    go_wp2_with fail
    go_ret2
    refine ⟨?_, b', m', ?_, AN.out.1, AN.out.2, B2.out.next (Below.refl _ w2).drew⟩
    ·rw [PM1.out]; rfl
    ·rw [PM1.out]; exact H2.out.below (B := w2.heap.size) (Below.refl _ w2).drew (Nat.le_refl _)
end Go.Proofs.YteggpecbeagohaaGreatDoor.Stp
