import Derived.Test.YteggpecbeagohaaGreatDoorStpRunM
import Derived.Test.YteggpecbeagohaaGreatDoorMz
namespace Go.Proofs.YteggpecbeagohaaGreatDoor.Stp
open Go.RowKit
open Frm (Fr Pl frC frL frI dpI putF zF Wf mayF idF I64 BoxV ptr slc plL plC loadFr storeFr resFB getF sizeFr owns_block)
open Cap (Cp cpC zrC withZ agN agB byB)
open Ast (Nd At12 NodesAt)
open Nai (setN hasN holdB hold_any ag_le)
section
variable {ops : Array Oper} {R : World → Prop} {a : Act} {o : Oper} {x y z : Operand} {w : World}
theorem minK_y (p q : Int) {i k : Nat} {ts : Array TypeId} (ho : o.op = .call { callee := .builtin .min, args := #[.tmp i, .tmp k], argTypes := ts }) (hx : a.tmps[i]?.getD undef = .int .i64 p) (hy : a.tmps[k]?.getD undef = .int .i64 q) (hw : Region.wanted o (yielded ops a.tmps) = true) : YieldsIf Tryz.prog ops R o (.int .i64 (min p q)) a := by
 refine Or.inl ⟨hw, fun w _ => ?_⟩
 unfold execOp
 simp only [ho]
 go_simp
 split <;> omega
end
set_option maxRecDepth 100000 in
set_option maxHeartbeats 8000000 in
theorem oneMore_any (g j : Nat) (nd : Nd) (f : Fr) (p : Int) (w : World) (hN : At12 w g j nd) (hg : g < w.heap.size) (hft : 0 ≤ f.t ∧ f.t ≤ 100000) (hmn : 0 ≤ nd.mn ∧ nd.mn ≤ 1000000) :
  Calls Tryz.prog 69 #[.pointer (some ⟨g, j, none⟩), .agg (frC f), .int .i64 p] w fun e w' => e = .returned (.agg (frC ⟨f.k, f.n, tK nd f.t, p, f.x⟩)) ∧ Below w.heap.size w w' := by
 have HN := Lib.hid hN
 have HG := Lib.hid hg
 have t0 := hft.1
 have t1 := hft.2
 clear hN hg hft
 go_enter Tryz.func69, Tryz.ntmps69
 go_wp2_with (refine boxFr _ rfl f rfl (by rfl) ?_)
 intro u1 X1
 go_wp2_with (refine newFr rfl (by rfl) ?_)
 intro u2 X2
 have s1 := Lib.hid X1.out.size
 have s2 := Lib.hid X2.out.size
 have B2 := Lib.hid (X1.out.box.below X2.out.low (by have := s1.out; omega))
 go_wp2_with (refine putI 90 rfl _ _ rfl w.heap.size 3 p f.f (frC f) rfl rfl B2.out rfl ?_)
 intro u3 X3
 have hb3 := X3.out.box.get 2 rfl
 go_wp2_with (refine putI 90 rfl _ _ rfl w.heap.size 2 (f.t + 1) f.t _ rfl rfl X3.out.box rfl ?_)
 intro u4 X4
 have hsz := And.intro s1.out s2.out
 have L4 := Lib.hid (show Below w.heap.size w u4 from ((X1.out.low.trans (X2.out.low.mono (by omega))).trans (X3.out.low _ (Nat.le_refl _))).trans (X4.out.low _ (Nat.le_refl _)))
 have N4 := Lib.hid (show At12 u4 g j nd from HN.out.keep fun q => L4.out.cell (p := ⟨g, q, none⟩) HG.out)
 have Z4 := Lib.hid (show BoxV 90 u4 u1.heap.size (frC zF) from (X4.out.other _ (by omega)).trans ((X3.out.other _ (by omega)).trans X2.out.box))
 have SZ := Lib.hid hsz
 clear hsz hb3 s1 s2 X1 X2 X3 B2
 have hmx := N4.out.2.2.2.2.2.2.2.2.1
 by_cases hm : nd.mx = -1
 ·have hm2 : (nd.mx == -1) = true := by simpa using hm
  have EK := Lib.hid (show tK nd f.t = min (f.t + 1) (nd.mn + 1) by unfold tK; rw [if_pos hm])
  have hg := HG.out
  clear hm
  go_wp2_with fail
  have hS : At12 u4.drew g j nd := N4.out
  have Y4 := Lib.hid (show BoxV 90 u4.drew w.heap.size (frC ⟨f.k, f.n, f.t + 1, p, f.x⟩) from X4.out.box)
  refine wp_region_held_drew (S := fun u => At12 u g j nd) (by kernel_rfl) hS (fun _ => ?_)
  refine takeAt 0 18 (.pointer (some ⟨w.heap.size, 2, none⟩)) rfl rfl (by kernel_rfl) (by kernel_rfl) (by kernel_rfl) i_ (yields (by rfl) (fun w => by kernel_rfl)) hS ?_
  simp only [Act.put, sA_, s0_, sS_]
  refine takeAt 2 20 (.pointer (some ⟨g, j, none⟩)) rfl rfl (by kernel_rfl) (by kernel_rfl) (by kernel_rfl) i_ (yields (by rfl) (fun w => by kernel_rfl)) hS ?_
  simp only [Act.put, sA_, s0_, sS_]
  refine takeAt 3 21 (.pointer (some ⟨g, j, none⟩)) rfl rfl (by kernel_rfl) (by kernel_rfl) (by kernel_rfl) i_ (yields (by rfl) (fun w => by kernel_rfl)) hS ?_
  simp only [Act.put, sA_, s0_, sS_]
  refine takeAt 4 22 (.pointer (some ⟨g, j + 7, none⟩)) rfl rfl (by kernel_rfl) (by kernel_rfl) (by kernel_rfl) i_ (yields (by rfl) (fun w => by kernel_rfl)) hS ?_
  simp only [Act.put, sA_, s0_, sS_]
  refine takeAt 5 23 (.int .i64 nd.mn) rfl rfl (by kernel_rfl) (by kernel_rfl) (by kernel_rfl) i_ (ldI_y g (j + 7) _ (fun _ h => h.2.2.2.2.2.2.2.1) rfl rfl (by rfl)) hS ?_
  simp only [Act.put, sA_, s0_, sS_]
  refine takeAt 6 24 (.int .i64 (nd.mn + 1)) rfl rfl (by kernel_rfl) (by kernel_rfl) (by kernel_rfl) i_ (addK_y nd.mn 1 hmn ⟨by decide, by decide⟩ rfl rfl rfl (by rfl)) hS ?_
  simp only [Act.put, sA_, s0_, sS_]
  refine valAt 1 19 (.int .i64 (f.t + 1)) u4.drew rfl rfl (by kernel_rfl) (by rfl) (ldI_run w.heap.size 2 _ (Y4.out.get 2 rfl) rfl rfl) hS ?_
  simp only [Act.put, sA_, s0_, sS_]
  refine takeAt 7 25 (.int .i64 (min (f.t + 1) (nd.mn + 1))) rfl rfl (by kernel_rfl) (by kernel_rfl) (by kernel_rfl) i_ (minK_y (f.t + 1) (nd.mn + 1) rfl rfl rfl (by rfl)) hS ?_
  simp only [Act.put, sA_, s0_, sS_]
  refine takeAt 8 26 (.pointer (some ⟨w.heap.size, 2, none⟩)) rfl rfl (by kernel_rfl) (by kernel_rfl) (by kernel_rfl) i_ (yields (by rfl) (fun w => by kernel_rfl)) hS ?_
  simp only [Act.put, sA_, s0_, sS_]
  obtain ⟨u5, e5⟩ : ∃ v, u4.drew.setCell ⟨w.heap.size, 2, none⟩ (.int .i64 (min (f.t + 1) (nd.mn + 1))) = v := ⟨_, rfl⟩
  have P5 : Put 90 w.heap.size (frC ⟨f.k, f.n, min (f.t + 1) (nd.mn + 1), p, f.x⟩) u4.drew u5 := e5 ▸ putOf_cell Y4.out 2 _
  have hS5 : At12 u5 g j nd := hS.keep fun q => cell_of_hp (P5.other g (by omega)) q
  refine skipAt 9 u5 rfl rfl (by kernel_rfl) (by rfl) (by rw [← e5]; exact stI_run 90 _ _ _ (f.t + 1) _ Y4.out rfl rfl rfl rfl) hS5 ?_
  refine wpAnyH_done (by kernel_rfl) ?_ _
  have L5 := Lib.hid (show Below w.heap.size w u5 from (L4.out.trans ((Below.refl _ u4).drew.mono L4.out.size)).trans (P5.low _ (Nat.le_refl _)))
  have Z5 := Lib.hid (show BoxV 90 u5 u1.heap.size (frC zF) from (P5.other _ (by have := SZ.out; omega)).trans Z4.out)
  have Y5 := Lib.hid P5.box
  clear P5 hS5 hS e5 hmx hm2
  go_wp2_with (first | refine loadFr rfl _ rfl w.heap.size 0 _ rfl (Frm.BoxV.fr Y5.out) ?_ | refine putFr rfl _ _ rfl u1.heap.size zF _ rfl rfl Z5.out ?_)
  intro u6 X6
  go_wp2_with fail
  refine bodyPost_ret (resFr rfl _ (g := u1.heap.size) rfl X6.out.box) rfl ⟨?_, ?_⟩
  ·rw [EK.out, show min (f.t + 1) (nd.mn + 1) = min f.t nd.mn + 1 by omega]
  ·exact L5.out.trans (X6.out.low _ (by have := SZ.out; omega))
 ·have hm2 : (nd.mx == -1) = false := by simpa using hm
  have EK := Lib.hid (show tK nd f.t = f.t + 1 by unfold tK; rw [if_neg hm])
  have Y5 := Lib.hid (show BoxV 90 u4 w.heap.size (frC ⟨f.k, f.n, f.t + 1, p, f.x⟩) from X4.out.box)
  clear hm
  go_wp2_with (first | refine loadFr rfl _ rfl w.heap.size 0 _ rfl (Frm.BoxV.fr Y5.out) ?_ | refine putFr rfl _ _ rfl u1.heap.size zF _ rfl rfl Z4.out ?_)
  intro u6 X6
  go_wp2_with fail
  refine bodyPost_ret (resFr rfl _ (g := u1.heap.size) rfl X6.out.box) rfl ⟨?_, ?_⟩
  ·rw [EK.out]
  ·exact L4.out.trans (X6.out.low _ (by have := SZ.out; omega))
set_option maxRecDepth 100000 in
set_option maxHeartbeats 8000000 in
theorem single_0 (H : Wh) (C : Mx) (i : Nat) (x : Cf) (w : World) (hR : Rm C H w) (hi : i < C.n) (hp : 0 ≤ x.p ∧ x.p ≤ C.s.size) (hs : C.s.size ≤ 10000) (k0 : (C.l i).k = 0) :
  Calls Tryz.prog 67 #[ptr H.p, .pointer (some ⟨H.g, i * 12, none⟩), .agg (cfA x)] w fun e w' => e = .returned (.agg (sqA (singleZ C (C.l i) x))) ∧ Below w.heap.size w w' := by
 have HR := Lib.hid hR
 have x0 := hp.1
 have x1 : x.p ≤ 10000 := by omega
 clear hR hp
 go_enter Tryz.func67, Tryz.ntmps67
 go_wp2_with (refine boxCf _ rfl x rfl (by rfl) ?_)
 intro u1 X1
 go_wp2_with (refine allocSq rfl (by rfl) ?_)
 intro u2 X2
 have s1 := Lib.hid X1.out.size
 have L2 := Lib.hid (show Below w.heap.size w u2 from X1.out.low.trans (X2.out.low.mono (by have := s1.out; omega)))
 have SZ := Lib.hid (And.intro s1.out X2.out.size)
 have V2 := Lib.hid (show Sv C H [(28, w.heap.size, cfA x)] u2 from ⟨HR.out.call (L2.out), X1.out.box.below X2.out.low (by have := s1.out; omega), trivial⟩)
 have T2 := Lib.hid X2.out.box
 clear s1 X1 X2
 have hk := (V2.out.1.node hi).1
 rw [k0] at hk
 have hS3 := V2.out
 have T3 := Lib.hid T2.out
 have L3 := Lib.hid L2.out
 have V3 := Lib.hid hS3
 have hv := V3.out.2.1.get 1 (cf_get1 x)
 clear hS3
 go_wp2_with (refine putI 28 rfl _ _ rfl w.heap.size 1 (x.p) x.p (cfA x) rfl rfl V3.out.2.1 (cf_get1 x) ?_)
 intro u5 X5
 rw [cf_set1] at X5
 have T5 := Lib.hid (show BoxV 53 u5 u1.heap.size (sqA failQ) from (X5.out.other _ (by have := SZ.out; omega)).trans T3.out)
 have L5 := Lib.hid (L3.out.trans (X5.out.low _ (Nat.le_refl _)))
 clear hv
 go_wp2_with (refine loadCf rfl _ rfl w.heap.size _ rfl X5.out.box ?_)
 refine (goIf_any true _ _).mono ?_
 rintro e u6 ⟨rfl, hB6⟩
 have T6 := Lib.hid (T5.out.below hB6 T5.out.lt)
 have L6 := Lib.hid (L5.out.trans (hB6.mono L5.out.size))
 clear hB6
 go_wp2_with (refine putSq rfl _ _ rfl u1.heap.size _ (sqA failQ) rfl rfl (sqA_size _) T6.out ?_)
 intro u7 X7
 go_wp2_with fail
 refine bodyPost_ret (resS rfl _ (g := u1.heap.size) rfl X7.out.box) rfl ⟨?_, L6.out.trans (X7.out.low _ (by have := SZ.out; omega))⟩
 show Ending.returned _ = Ending.returned _
 rw [show singleZ C (C.l i) x = goIfQ true ⟨x.f, x.p, x.c⟩ by unfold singleZ; rw [if_pos k0]; rfl]
set_option maxRecDepth 100000 in
set_option maxHeartbeats 8000000 in
theorem single_1 (H : Wh) (C : Mx) (i : Nat) (x : Cf) (w : World) (hR : Rm C H w) (hi : i < C.n) (hp : 0 ≤ x.p ∧ x.p ≤ C.s.size) (hs : C.s.size ≤ 10000) (hwd : (C.l i).k = 1 → WdsN (C.l i)) (k1 : (C.l i).k = 1) :
  Calls Tryz.prog 67 #[ptr H.p, .pointer (some ⟨H.g, i * 12, none⟩), .agg (cfA x)] w fun e w' => e = .returned (.agg (sqA (singleZ C (C.l i) x))) ∧ Below w.heap.size w w' := by
 have hwd := hwd k1
 have HR := Lib.hid hR
 have x0 := hp.1
 have x1 : x.p ≤ 10000 := by omega
 obtain ⟨q, eq⟩ : ∃ q : Nat, x.p = (q : Int) := ⟨x.p.toNat, by omega⟩
 have EQ := Lib.hid eq
 have HP := Lib.hid hp
 clear hR hp eq
 go_enter Tryz.func67, Tryz.ntmps67
 go_wp2_with (refine boxCf _ rfl x rfl (by rfl) ?_)
 intro u1 X1
 go_wp2_with (refine allocSq rfl (by rfl) ?_)
 intro u2 X2
 have s1 := Lib.hid X1.out.size
 have L2 := Lib.hid (show Below w.heap.size w u2 from X1.out.low.trans (X2.out.low.mono (by have := s1.out; omega)))
 have SZ := Lib.hid (And.intro s1.out X2.out.size)
 have V2 := Lib.hid (show Sv C H [(28, w.heap.size, cfA x)] u2 from ⟨HR.out.call (L2.out), X1.out.box.below X2.out.low (by have := s1.out; omega), trivial⟩)
 have T2 := Lib.hid X2.out.box
 clear s1 X1 X2
 have hk := (V2.out.1.node hi).1
 rw [k1] at hk
 go_wp2_with fail
 have hS : Sv C H [(28, w.heap.size, cfA x)] u2.drew := V2.out.call (Below.refl _ u2).drew
 have LW := Lib.hid (L2.out.trans ((Below.refl _ u2).drew.mono L2.out.size))
 have TW := Lib.hid (show BoxV 53 u2.drew u1.heap.size (sqA failQ) from T2.out)
 clear hk
 have eq := EQ.out
 have hp := HP.out
 by_cases hlt2 : q < C.s.size
 ·have hlt : decide (x.p < (C.s.size : Int)) = true := decide_eq_true (by omega)
  obtain ⟨bb, ebb⟩ : ∃ bb, mem (setN (C.l i)) (byB C.s q) = bb := ⟨_, rfl⟩
  have hbl : (byB C.s q : Nat) < 256 := by unfold byB; rw [dif_pos hlt2]; exact (C.s[q]).toNat_lt
  have HH : Hid (∀ u, Calls Tryz.prog 95 #[setV (setN (C.l i)), .int .u8 (byB C.s q : Nat)] u fun e u2 => e = .returned (.bool bb) ∧ Below u.heap.size u u2) := Lib.hid (fun u => ebb ▸ Go.Proofs.YteggpecbeagohaaGreatDoor.has_any (setN (C.l i)) _ u (by omega) (by omega))
  have EB := Lib.hid ebb
  clear ebb hbl
  refine wp_region_held_drew (S := fun u => Sv C H [(28, w.heap.size, cfA x)] u) (by kernel_rfl) hS (fun _ => ?_)
  refine takeAt 0 28 (.pointer (some ⟨w.heap.size, 1, none⟩)) rfl rfl (by kernel_rfl) (by kernel_rfl) (by kernel_rfl) i_ (yields (by rfl) (fun w => by kernel_rfl)) hS ?_
  simp only [Act.put, sA_, s0_, sS_]
  refine takeAt 1 29 (.int .i64 x.p) rfl rfl (by kernel_rfl) (by kernel_rfl) (by kernel_rfl) i_ (ldI_y w.heap.size 1 _ (fun _ h => h.2.1.get 1 (cf_get1 x)) rfl rfl (by rfl)) hS ?_
  simp only [Act.put, sA_, s0_, sS_]
  refine takeAt 2 30 (.pointer (some ⟨H.p, 0, none⟩)) rfl rfl (by kernel_rfl) (by kernel_rfl) (by kernel_rfl) i_ (yields (by rfl) (fun w => by kernel_rfl)) hS ?_
  simp only [Act.put, sA_, s0_, sS_]
  refine takeAt 3 31 (.pointer (some ⟨H.p, 0, none⟩)) rfl rfl (by kernel_rfl) (by kernel_rfl) (by kernel_rfl) i_ (yields (by rfl) (fun w => by kernel_rfl)) hS ?_
  simp only [Act.put, sA_, s0_, sS_]
  refine takeAt 4 32 (.pointer (some ⟨H.p, 2, none⟩)) rfl rfl (by kernel_rfl) (by kernel_rfl) (by kernel_rfl) i_ (yields (by rfl) (fun w => by kernel_rfl)) hS ?_
  simp only [Act.put, sA_, s0_, sS_]
  refine takeAt 5 33 (.string C.s) rfl rfl (by kernel_rfl) (by kernel_rfl) (by kernel_rfl) i_ (ldT_y H.p 2 _ (fun _ h => h.1.c2) rfl rfl (by rfl)) hS ?_
  simp only [Act.put, sA_, s0_, sS_]
  refine takeAt 6 34 (.int .i64 (C.s.size : Int)) rfl rfl (by kernel_rfl) (by kernel_rfl) (by kernel_rfl) i_ (len_y C.s rfl rfl (by rfl)) hS ?_
  simp only [Act.put, sA_, s0_, sS_]
  refine takeAt 7 35 (.bool true) rfl rfl (by kernel_rfl) (by kernel_rfl) (by kernel_rfl) i_ (lt_y _ _ true hlt rfl rfl rfl (by rfl)) hS ?_
  simp only [Act.put, sA_, s0_, sS_]
  refine takeAt 8 36 (.bool true) rfl rfl (by kernel_rfl) (by kernel_rfl) (by kernel_rfl) i_ (yields (by rfl) (fun w => by kernel_rfl)) hS ?_
  simp only [Act.put, sA_, s0_, sS_]
  refine takeAt 9 37 (.pointer (some ⟨H.g, i * 12, none⟩)) rfl rfl (by kernel_rfl) (by kernel_rfl) (by kernel_rfl) i_ (yields (by rfl) (fun w => by kernel_rfl)) hS ?_
  simp only [Act.put, sA_, s0_, sS_]
  refine takeAt 10 38 (.pointer (some ⟨H.g, i * 12, none⟩)) rfl rfl (by kernel_rfl) (by kernel_rfl) (by kernel_rfl) i_ (yields (by rfl) (fun w => by kernel_rfl)) hS ?_
  simp only [Act.put, sA_, s0_, sS_]
  refine takeAt 11 39 (.pointer (some ⟨H.g, i * 12 + 3, none⟩)) rfl rfl (by kernel_rfl) (by kernel_rfl) (by kernel_rfl) i_ (yields (by rfl) (fun w => by kernel_rfl)) hS ?_
  simp only [Act.put, sA_, s0_, sS_]
  refine takeAt 12 40 (setV (setN (C.l i))) rfl rfl (by kernel_rfl) (by kernel_rfl) (by kernel_rfl) i_ (ldW_y H.g (i * 12) (C.l i) hwd (fun _ h => h.1.node hi) rfl rfl (by rfl)) hS ?_
  simp only [Act.put, sA_, s0_, sS_]
  refine takeAt 13 41 (.pointer (some ⟨H.p, 0, none⟩)) rfl rfl (by kernel_rfl) (by kernel_rfl) (by kernel_rfl) i_ (yields (by rfl) (fun w => by kernel_rfl)) hS ?_
  simp only [Act.put, sA_, s0_, sS_]
  refine takeAt 14 42 (.pointer (some ⟨H.p, 0, none⟩)) rfl rfl (by kernel_rfl) (by kernel_rfl) (by kernel_rfl) i_ (yields (by rfl) (fun w => by kernel_rfl)) hS ?_
  simp only [Act.put, sA_, s0_, sS_]
  refine takeAt 15 43 (.pointer (some ⟨H.p, 2, none⟩)) rfl rfl (by kernel_rfl) (by kernel_rfl) (by kernel_rfl) i_ (yields (by rfl) (fun w => by kernel_rfl)) hS ?_
  simp only [Act.put, sA_, s0_, sS_]
  refine takeAt 16 44 (.string C.s) rfl rfl (by kernel_rfl) (by kernel_rfl) (by kernel_rfl) i_ (ldT_y H.p 2 _ (fun _ h => h.1.c2) rfl rfl (by rfl)) hS ?_
  simp only [Act.put, sA_, s0_, sS_]
  refine takeAt 17 45 (.pointer (some ⟨w.heap.size, 1, none⟩)) rfl rfl (by kernel_rfl) (by kernel_rfl) (by kernel_rfl) i_ (yields (by rfl) (fun w => by kernel_rfl)) hS ?_
  simp only [Act.put, sA_, s0_, sS_]
  refine takeAt 18 46 (.int .i64 (q : Int)) rfl rfl (by kernel_rfl) (by kernel_rfl) (by kernel_rfl) i_ (ldI_y w.heap.size 1 _ (fun _ h => (h.2.1.get 1 (cf_get1 x)).trans (by rw [eq])) rfl rfl (by rfl)) hS ?_
  simp only [Act.put, sA_, s0_, sS_]
  refine takeAt 19 47 (.int .u8 (byB C.s q : Nat)) rfl rfl (by kernel_rfl) (by kernel_rfl) (by kernel_rfl) i_ (ixS_y C.s q hlt2 rfl rfl rfl (by rfl)) hS ?_
  simp only [Act.put, sA_, s0_, sS_]
  refine callAt 20 48 rfl rfl (by kernel_rfl) (by rfl) (by kernel_rfl) (HH.out _) ?_
  rintro e u3 ⟨rfl, hB⟩
  have hS3 := hS.call hB
  have L3 := Lib.hid (LW.out.trans (hB.mono LW.out.size))
  have T3 := Lib.hid (TW.out.below hB TW.out.lt)
  clear hB
  refine ⟨_, rfl, hS3, ?_⟩
  simp only [Act.put, sA_, s0_, sS_]
  refine takeAt 21 49 (.bool bb) rfl rfl (by kernel_rfl) (by kernel_rfl) (by kernel_rfl) i_ (yields (by rfl) (fun w => by kernel_rfl)) hS3 ?_
  simp only [Act.put, sA_, s0_, sS_]
  refine takeAt 22 7 (.int .i64 1) rfl rfl (by kernel_rfl) (by kernel_rfl) (by kernel_rfl) i_ (yields (by rfl) (fun w => by kernel_rfl)) hS3 ?_
  simp only [Act.put, sA_, s0_, sS_]
  refine takeAt 23 8 (.bool bb) rfl rfl (by kernel_rfl) (by kernel_rfl) (by kernel_rfl) i_ (yields (by rfl) (fun w => by kernel_rfl)) hS3 ?_
  simp only [Act.put, sA_, s0_, sS_]
  refine wpAnyH_done (by kernel_rfl) ?_ _
  clear eq hp hlt hS
  have V3 := Lib.hid hS3
  have hv := V3.out.2.1.get 1 (cf_get1 x)
  clear hS3
  go_wp2_with (refine putI 28 rfl _ _ rfl w.heap.size 1 (x.p + 1) x.p (cfA x) rfl rfl V3.out.2.1 (cf_get1 x) ?_)
  intro u5 X5
  rw [cf_set1] at X5
  have T5 := Lib.hid (show BoxV 53 u5 u1.heap.size (sqA failQ) from (X5.out.other _ (by have := SZ.out; omega)).trans T3.out)
  have L5 := Lib.hid (L3.out.trans (X5.out.low _ (Nat.le_refl _)))
  clear hv
  go_wp2_with (refine loadCf rfl _ rfl w.heap.size _ rfl X5.out.box ?_)
  refine (goIf_any bb _ _).mono ?_
  rintro e u6 ⟨rfl, hB6⟩
  have T6 := Lib.hid (T5.out.below hB6 T5.out.lt)
  have L6 := Lib.hid (L5.out.trans (hB6.mono L5.out.size))
  clear hB6
  go_wp2_with (refine putSq rfl _ _ rfl u1.heap.size _ (sqA failQ) rfl rfl (sqA_size _) T6.out ?_)
  intro u7 X7
  go_wp2_with fail
  refine bodyPost_ret (resS rfl _ (g := u1.heap.size) rfl X7.out.box) rfl ⟨?_, L6.out.trans (X7.out.low _ (by have := SZ.out; omega))⟩
  show Ending.returned _ = Ending.returned _
  rw [show singleZ C (C.l i) x = goIfQ bb ⟨x.f, x.p + 1, x.c⟩ by
   unfold singleZ
   rw [if_neg (by rw [k1]; omega), if_pos k1, show x.p.toNat = q by have := EQ.out; omega, EB.out, show decide (x.p < (C.s.size : Int)) = true from decide_eq_true (by have := EQ.out; omega)]
   rfl]
 ·have hlt : decide (x.p < (C.s.size : Int)) = false := decide_eq_false (by omega)
  refine wp_region_held_drew (S := fun u => Sv C H [(28, w.heap.size, cfA x)] u) (by kernel_rfl) hS (fun _ => ?_)
  refine takeAt 0 28 (.pointer (some ⟨w.heap.size, 1, none⟩)) rfl rfl (by kernel_rfl) (by kernel_rfl) (by kernel_rfl) i_ (yields (by rfl) (fun w => by kernel_rfl)) hS ?_
  simp only [Act.put, sA_, s0_, sS_]
  refine takeAt 1 29 (.int .i64 x.p) rfl rfl (by kernel_rfl) (by kernel_rfl) (by kernel_rfl) i_ (ldI_y w.heap.size 1 _ (fun _ h => h.2.1.get 1 (cf_get1 x)) rfl rfl (by rfl)) hS ?_
  simp only [Act.put, sA_, s0_, sS_]
  refine takeAt 2 30 (.pointer (some ⟨H.p, 0, none⟩)) rfl rfl (by kernel_rfl) (by kernel_rfl) (by kernel_rfl) i_ (yields (by rfl) (fun w => by kernel_rfl)) hS ?_
  simp only [Act.put, sA_, s0_, sS_]
  refine takeAt 3 31 (.pointer (some ⟨H.p, 0, none⟩)) rfl rfl (by kernel_rfl) (by kernel_rfl) (by kernel_rfl) i_ (yields (by rfl) (fun w => by kernel_rfl)) hS ?_
  simp only [Act.put, sA_, s0_, sS_]
  refine takeAt 4 32 (.pointer (some ⟨H.p, 2, none⟩)) rfl rfl (by kernel_rfl) (by kernel_rfl) (by kernel_rfl) i_ (yields (by rfl) (fun w => by kernel_rfl)) hS ?_
  simp only [Act.put, sA_, s0_, sS_]
  refine takeAt 5 33 (.string C.s) rfl rfl (by kernel_rfl) (by kernel_rfl) (by kernel_rfl) i_ (ldT_y H.p 2 _ (fun _ h => h.1.c2) rfl rfl (by rfl)) hS ?_
  simp only [Act.put, sA_, s0_, sS_]
  refine takeAt 6 34 (.int .i64 (C.s.size : Int)) rfl rfl (by kernel_rfl) (by kernel_rfl) (by kernel_rfl) i_ (len_y C.s rfl rfl (by rfl)) hS ?_
  simp only [Act.put, sA_, s0_, sS_]
  refine takeAt 7 35 (.bool false) rfl rfl (by kernel_rfl) (by kernel_rfl) (by kernel_rfl) i_ (lt_y _ _ false hlt rfl rfl rfl (by rfl)) hS ?_
  simp only [Act.put, sA_, s0_, sS_]
  refine takeAt 8 36 (.bool false) rfl rfl (by kernel_rfl) (by kernel_rfl) (by kernel_rfl) i_ (yields (by rfl) (fun w => by kernel_rfl)) hS ?_
  simp only [Act.put, sA_, s0_, sS_]
  refine takeAt 9 37 (undef) rfl rfl (by kernel_rfl) (by kernel_rfl) (by kernel_rfl) i_ (skipped (by rfl)) hS ?_
  simp only [Act.put, sA_, s0_, sS_]
  refine takeAt 10 38 (undef) rfl rfl (by kernel_rfl) (by kernel_rfl) (by kernel_rfl) i_ (skipped (by rfl)) hS ?_
  simp only [Act.put, sA_, s0_, sS_]
  refine takeAt 11 39 (undef) rfl rfl (by kernel_rfl) (by kernel_rfl) (by kernel_rfl) i_ (skipped (by rfl)) hS ?_
  simp only [Act.put, sA_, s0_, sS_]
  refine takeAt 12 40 (undef) rfl rfl (by kernel_rfl) (by kernel_rfl) (by kernel_rfl) i_ (skipped (by rfl)) hS ?_
  simp only [Act.put, sA_, s0_, sS_]
  refine takeAt 13 41 (undef) rfl rfl (by kernel_rfl) (by kernel_rfl) (by kernel_rfl) i_ (skipped (by rfl)) hS ?_
  simp only [Act.put, sA_, s0_, sS_]
  refine takeAt 14 42 (undef) rfl rfl (by kernel_rfl) (by kernel_rfl) (by kernel_rfl) i_ (skipped (by rfl)) hS ?_
  simp only [Act.put, sA_, s0_, sS_]
  refine takeAt 15 43 (undef) rfl rfl (by kernel_rfl) (by kernel_rfl) (by kernel_rfl) i_ (skipped (by rfl)) hS ?_
  simp only [Act.put, sA_, s0_, sS_]
  refine takeAt 16 44 (undef) rfl rfl (by kernel_rfl) (by kernel_rfl) (by kernel_rfl) i_ (skipped (by rfl)) hS ?_
  simp only [Act.put, sA_, s0_, sS_]
  refine takeAt 17 45 (undef) rfl rfl (by kernel_rfl) (by kernel_rfl) (by kernel_rfl) i_ (skipped (by rfl)) hS ?_
  simp only [Act.put, sA_, s0_, sS_]
  refine takeAt 18 46 (undef) rfl rfl (by kernel_rfl) (by kernel_rfl) (by kernel_rfl) i_ (skipped (by rfl)) hS ?_
  simp only [Act.put, sA_, s0_, sS_]
  refine takeAt 19 47 (undef) rfl rfl (by kernel_rfl) (by kernel_rfl) (by kernel_rfl) i_ (skipped (by rfl)) hS ?_
  simp only [Act.put, sA_, s0_, sS_]
  refine takeAt 20 48 (undef) rfl rfl (by kernel_rfl) (by kernel_rfl) (by kernel_rfl) i_ (skipped (by rfl)) hS ?_
  simp only [Act.put, sA_, s0_, sS_]
  refine takeAt 21 49 (.bool false) rfl rfl (by kernel_rfl) (by kernel_rfl) (by kernel_rfl) i_ (yields (by rfl) (fun w => by kernel_rfl)) hS ?_
  simp only [Act.put, sA_, s0_, sS_]
  refine takeAt 22 7 (.int .i64 1) rfl rfl (by kernel_rfl) (by kernel_rfl) (by kernel_rfl) i_ (yields (by rfl) (fun w => by kernel_rfl)) hS ?_
  simp only [Act.put, sA_, s0_, sS_]
  refine takeAt 23 8 (.bool false) rfl rfl (by kernel_rfl) (by kernel_rfl) (by kernel_rfl) i_ (yields (by rfl) (fun w => by kernel_rfl)) hS ?_
  simp only [Act.put, sA_, s0_, sS_]
  refine wpAnyH_done (by kernel_rfl) ?_ _
  have hS3 := hS
  have T3 := Lib.hid TW.out
  have L3 := Lib.hid LW.out
  clear eq hp hlt
  have V3 := Lib.hid hS3
  have hv := V3.out.2.1.get 1 (cf_get1 x)
  clear hS3
  go_wp2_with (refine putI 28 rfl _ _ rfl w.heap.size 1 (x.p + 1) x.p (cfA x) rfl rfl V3.out.2.1 (cf_get1 x) ?_)
  intro u5 X5
  rw [cf_set1] at X5
  have T5 := Lib.hid (show BoxV 53 u5 u1.heap.size (sqA failQ) from (X5.out.other _ (by have := SZ.out; omega)).trans T3.out)
  have L5 := Lib.hid (L3.out.trans (X5.out.low _ (Nat.le_refl _)))
  clear hv
  go_wp2_with (refine loadCf rfl _ rfl w.heap.size _ rfl X5.out.box ?_)
  refine (goIf_any false _ _).mono ?_
  rintro e u6 ⟨rfl, hB6⟩
  have T6 := Lib.hid (T5.out.below hB6 T5.out.lt)
  have L6 := Lib.hid (L5.out.trans (hB6.mono L5.out.size))
  clear hB6
  go_wp2_with (refine putSq rfl _ _ rfl u1.heap.size _ (sqA failQ) rfl rfl (sqA_size _) T6.out ?_)
  intro u7 X7
  go_wp2_with fail
  refine bodyPost_ret (resS rfl _ (g := u1.heap.size) rfl X7.out.box) rfl ⟨?_, L6.out.trans (X7.out.low _ (by have := SZ.out; omega))⟩
  show Ending.returned _ = Ending.returned _
  rw [show singleZ C (C.l i) x = goIfQ false ⟨x.f, x.p + 1, x.c⟩ by
   unfold singleZ
   rw [if_neg (by rw [k1]; omega), if_pos k1, show decide (x.p < (C.s.size : Int)) = false from decide_eq_false (by have := EQ.out; omega)]
   rfl]
set_option maxRecDepth 100000 in
set_option maxHeartbeats 8000000 in
theorem single_12 (hLib : Cap.LibA) (H : Wh) (C : Mx) (i : Nat) (x : Cf) (w : World) (hR : Rm C H w) (hi : i < C.n) (hp : 0 ≤ x.p ∧ x.p ≤ C.s.size) (hs : C.s.size ≤ 10000) (k12 : (C.l i).k = 12) :
  Calls Tryz.prog 67 #[ptr H.p, .pointer (some ⟨H.g, i * 12, none⟩), .agg (cfA x)] w fun e w' => e = .returned (.agg (sqA (singleZ C (C.l i) x))) ∧ Below w.heap.size w w' := by
 have HR := Lib.hid hR
 have x0 := hp.1
 have x1 : x.p ≤ 10000 := by omega
 have HP := Lib.hid hp
 clear hR hp
 go_enter Tryz.func67, Tryz.ntmps67
 go_wp2_with (refine boxCf _ rfl x rfl (by rfl) ?_)
 intro u1 X1
 go_wp2_with (refine allocSq rfl (by rfl) ?_)
 intro u2 X2
 have s1 := Lib.hid X1.out.size
 have L2 := Lib.hid (show Below w.heap.size w u2 from X1.out.low.trans (X2.out.low.mono (by have := s1.out; omega)))
 have SZ := Lib.hid (And.intro s1.out X2.out.size)
 have V2 := Lib.hid (show Sv C H [(28, w.heap.size, cfA x)] u2 from ⟨HR.out.call (L2.out), X1.out.box.below X2.out.low (by have := s1.out; omega), trivial⟩)
 have T2 := Lib.hid X2.out.box
 clear s1 X1 X2
 have hk := (V2.out.1.node hi).1
 rw [k12] at hk
 go_wp2_with fail
 have hS : Sv C H [(28, w.heap.size, cfA x)] u2.drew := V2.out.call (Below.refl _ u2).drew
 have LW := Lib.hid (L2.out.trans ((Below.refl _ u2).drew.mono L2.out.size))
 have TW := Lib.hid (show BoxV 53 u2.drew u1.heap.size (sqA failQ) from T2.out)
 clear hk
 have hp := HP.out
 refine wp_region_held_drew (S := fun u => Sv C H [(28, w.heap.size, cfA x)] u) (by kernel_rfl) hS (fun _ => ?_)
 refine takeAt 0 53 (.pointer (some ⟨w.heap.size, 2, none⟩)) rfl rfl (by kernel_rfl) (by kernel_rfl) (by kernel_rfl) i_ (yields (by rfl) (fun w => by kernel_rfl)) hS ?_
 simp only [Act.put, sA_, s0_, sS_]
 refine takeAt 1 54 (.agg (cpC x.c)) rfl rfl (by kernel_rfl) (by kernel_rfl) (by kernel_rfl) i_ (ldCp_y w.heap.size x (fun _ h => h.2.1) rfl rfl (by rfl)) hS ?_
 simp only [Act.put, sA_, s0_, sS_]
 refine takeAt 2 55 (.pointer (some ⟨H.p, 0, none⟩)) rfl rfl (by kernel_rfl) (by kernel_rfl) (by kernel_rfl) i_ (yields (by rfl) (fun w => by kernel_rfl)) hS ?_
 simp only [Act.put, sA_, s0_, sS_]
 refine takeAt 3 56 (.pointer (some ⟨H.p, 0, none⟩)) rfl rfl (by kernel_rfl) (by kernel_rfl) (by kernel_rfl) i_ (yields (by rfl) (fun w => by kernel_rfl)) hS ?_
 simp only [Act.put, sA_, s0_, sS_]
 refine takeAt 4 57 (.pointer (some ⟨H.p, 2, none⟩)) rfl rfl (by kernel_rfl) (by kernel_rfl) (by kernel_rfl) i_ (yields (by rfl) (fun w => by kernel_rfl)) hS ?_
 simp only [Act.put, sA_, s0_, sS_]
 refine takeAt 5 58 (.string C.s) rfl rfl (by kernel_rfl) (by kernel_rfl) (by kernel_rfl) i_ (ldT_y H.p 2 _ (fun _ h => h.1.c2) rfl rfl (by rfl)) hS ?_
 simp only [Act.put, sA_, s0_, sS_]
 refine takeAt 6 59 (.pointer (some ⟨H.g, i * 12, none⟩)) rfl rfl (by kernel_rfl) (by kernel_rfl) (by kernel_rfl) i_ (yields (by rfl) (fun w => by kernel_rfl)) hS ?_
 simp only [Act.put, sA_, s0_, sS_]
 refine takeAt 7 60 (.pointer (some ⟨H.g, i * 12, none⟩)) rfl rfl (by kernel_rfl) (by kernel_rfl) (by kernel_rfl) i_ (yields (by rfl) (fun w => by kernel_rfl)) hS ?_
 simp only [Act.put, sA_, s0_, sS_]
 refine takeAt 8 61 (.pointer (some ⟨H.g, i * 12 + 10, none⟩)) rfl rfl (by kernel_rfl) (by kernel_rfl) (by kernel_rfl) i_ (yields (by rfl) (fun w => by kernel_rfl)) hS ?_
 simp only [Act.put, sA_, s0_, sS_]
 refine takeAt 9 62 (.int .i64 (C.l i).n) rfl rfl (by kernel_rfl) (by kernel_rfl) (by kernel_rfl) i_ (ldI_y H.g (i * 12 + 10) _ (fun _ h => (h.1.node hi).2.2.2.2.2.2.2.2.2.2.1) rfl rfl (by rfl)) hS ?_
 simp only [Act.put, sA_, s0_, sS_]
 refine takeAt 10 63 (.pointer (some ⟨w.heap.size, 1, none⟩)) rfl rfl (by kernel_rfl) (by kernel_rfl) (by kernel_rfl) i_ (yields (by rfl) (fun w => by kernel_rfl)) hS ?_
 simp only [Act.put, sA_, s0_, sS_]
 refine takeAt 11 64 (.int .i64 x.p) rfl rfl (by kernel_rfl) (by kernel_rfl) (by kernel_rfl) i_ (ldI_y w.heap.size 1 _ (fun _ h => h.2.1.get 1 (cf_get1 x)) rfl rfl (by rfl)) hS ?_
 simp only [Act.put, sA_, s0_, sS_]
 refine takeAt 12 65 (.pointer (some ⟨H.g, i * 12, none⟩)) rfl rfl (by kernel_rfl) (by kernel_rfl) (by kernel_rfl) i_ (yields (by rfl) (fun w => by kernel_rfl)) hS ?_
 simp only [Act.put, sA_, s0_, sS_]
 refine takeAt 13 66 (.pointer (some ⟨H.g, i * 12, none⟩)) rfl rfl (by kernel_rfl) (by kernel_rfl) (by kernel_rfl) i_ (yields (by rfl) (fun w => by kernel_rfl)) hS ?_
 simp only [Act.put, sA_, s0_, sS_]
 refine takeAt 14 67 (.pointer (some ⟨H.g, i * 12 + 11, none⟩)) rfl rfl (by kernel_rfl) (by kernel_rfl) (by kernel_rfl) i_ (yields (by rfl) (fun w => by kernel_rfl)) hS ?_
 simp only [Act.put, sA_, s0_, sS_]
 refine takeAt 15 68 (.bool (C.l i).f) rfl rfl (by kernel_rfl) (by kernel_rfl) (by kernel_rfl) i_ (ldB_y H.g (i * 12 + 11) _ (fun _ h => (h.1.node hi).2.2.2.2.2.2.2.2.2.2.2) rfl rfl (by rfl)) hS ?_
 simp only [Act.put, sA_, s0_, sS_]
 refine callAt 16 69 rfl rfl (by kernel_rfl) (by rfl) (by kernel_rfl) (Cap.again_any hLib x.c C.s (by omega) (C.l i).n x.p (C.l i).f _) ?_
 rintro e u3 ⟨rfl, hB⟩
 have hS3 := hS.call hB
 have L3 := Lib.hid (LW.out.trans (hB.mono LW.out.size))
 have T3 := Lib.hid (TW.out.below hB TW.out.lt)
 clear hB
 refine ⟨_, rfl, hS3, ?_⟩
 simp only [Act.put, sA_, s0_, sS_]
 refine takeAt 17 52 (.tuple #[.int .i64 (agN x.c C.s (C.l i).n x.p (C.l i).f), .bool (agB x.c C.s (C.l i).n x.p (C.l i).f)]) rfl rfl (by kernel_rfl) (by kernel_rfl) (by kernel_rfl) i_ (yields (by rfl) (fun w => by kernel_rfl)) hS3 ?_
 simp only [Act.put, sA_, s0_, sS_]
 refine takeAt 18 70 (.int .i64 (agN x.c C.s (C.l i).n x.p (C.l i).f)) rfl rfl (by kernel_rfl) (by kernel_rfl) (by kernel_rfl) i_ (yields (by rfl) (fun w => by kernel_rfl)) hS3 ?_
 simp only [Act.put, sA_, s0_, sS_]
 refine takeAt 19 71 (.bool (agB x.c C.s (C.l i).n x.p (C.l i).f)) rfl rfl (by kernel_rfl) (by kernel_rfl) (by kernel_rfl) i_ (yields (by rfl) (fun w => by kernel_rfl)) hS3 ?_
 simp only [Act.put, sA_, s0_, sS_]
 refine takeAt 20 7 (.int .i64 (agN x.c C.s (C.l i).n x.p (C.l i).f)) rfl rfl (by kernel_rfl) (by kernel_rfl) (by kernel_rfl) i_ (yields (by rfl) (fun w => by kernel_rfl)) hS3 ?_
 simp only [Act.put, sA_, s0_, sS_]
 refine takeAt 21 8 (.bool (agB x.c C.s (C.l i).n x.p (C.l i).f)) rfl rfl (by kernel_rfl) (by kernel_rfl) (by kernel_rfl) i_ (yields (by rfl) (fun w => by kernel_rfl)) hS3 ?_
 simp only [Act.put, sA_, s0_, sS_]
 refine wpAnyH_done (by kernel_rfl) ?_ _
 obtain ⟨bb, ebb⟩ : ∃ bb, agB x.c C.s (C.l i).n x.p (C.l i).f = bb := ⟨_, rfl⟩
 obtain ⟨nn, enn⟩ : ∃ nn, agN x.c C.s (C.l i).n x.p (C.l i).f = nn := ⟨_, rfl⟩
 have hnn : 0 ≤ nn ∧ nn ≤ 10000 := by
  rw [← enn]
  unfold agN
  have := Cap.pcS_le x.c C.s (C.l i).n
  split <;> omega
 rw [ebb, enn]
 have EB := Lib.hid (And.intro ebb enn)
 have n0 := hnn.1
 have n1 := hnn.2
 clear ebb enn hnn hp hS
 have V3 := Lib.hid hS3
 have hv := V3.out.2.1.get 1 (cf_get1 x)
 clear hS3
 go_wp2_with (refine putI 28 rfl _ _ rfl w.heap.size 1 (x.p + nn) x.p (cfA x) rfl rfl V3.out.2.1 (cf_get1 x) ?_)
 intro u5 X5
 rw [cf_set1] at X5
 have T5 := Lib.hid (show BoxV 53 u5 u1.heap.size (sqA failQ) from (X5.out.other _ (by have := SZ.out; omega)).trans T3.out)
 have L5 := Lib.hid (L3.out.trans (X5.out.low _ (Nat.le_refl _)))
 clear hv
 go_wp2_with (refine loadCf rfl _ rfl w.heap.size _ rfl X5.out.box ?_)
 refine (goIf_any bb _ _).mono ?_
 rintro e u6 ⟨rfl, hB6⟩
 have T6 := Lib.hid (T5.out.below hB6 T5.out.lt)
 have L6 := Lib.hid (L5.out.trans (hB6.mono L5.out.size))
 clear hB6
 go_wp2_with (refine putSq rfl _ _ rfl u1.heap.size _ (sqA failQ) rfl rfl (sqA_size _) T6.out ?_)
 intro u7 X7
 go_wp2_with fail
 refine bodyPost_ret (resS rfl _ (g := u1.heap.size) rfl X7.out.box) rfl ⟨?_, L6.out.trans (X7.out.low _ (by have := SZ.out; omega))⟩
 show Ending.returned _ = Ending.returned _
 rw [show singleZ C (C.l i) x = goIfQ bb ⟨x.f, x.p + nn, x.c⟩ by
  unfold singleZ
  rw [if_neg (by rw [k12]; omega), if_neg (by rw [k12]; omega), if_pos k12, EB.out.1, EB.out.2]]
set_option maxRecDepth 100000 in
set_option maxHeartbeats 8000000 in
theorem single_h (H : Wh) (C : Mx) (i : Nat) (x : Cf) (w : World) (hR : Rm C H w) (hi : i < C.n) (hp : 0 ≤ x.p ∧ x.p ≤ C.s.size) (hs : C.s.size ≤ 10000) (k0 : (C.l i).k ≠ 0) (k1 : (C.l i).k ≠ 1) (k12 : (C.l i).k ≠ 12) :
  Calls Tryz.prog 67 #[ptr H.p, .pointer (some ⟨H.g, i * 12, none⟩), .agg (cfA x)] w fun e w' => e = .returned (.agg (sqA (singleZ C (C.l i) x))) ∧ Below w.heap.size w w' := by
 have HR := Lib.hid hR
 have x0 := hp.1
 have x1 : x.p ≤ 10000 := by omega
 have HP := Lib.hid hp
 have q0 : ((C.l i).k == 0) = false := by simpa using k0
 have q1 : ((C.l i).k == 1) = false := by simpa using k1
 have q12 : ((C.l i).k == 12) = false := by simpa using k12
 have KK := Lib.hid (And.intro k0 (And.intro k1 k12))
 clear hR hp k0 k1 k12
 go_enter Tryz.func67, Tryz.ntmps67
 go_wp2_with (refine boxCf _ rfl x rfl (by rfl) ?_)
 intro u1 X1
 go_wp2_with (refine allocSq rfl (by rfl) ?_)
 intro u2 X2
 have s1 := Lib.hid X1.out.size
 have L2 := Lib.hid (show Below w.heap.size w u2 from X1.out.low.trans (X2.out.low.mono (by have := s1.out; omega)))
 have SZ := Lib.hid (And.intro s1.out X2.out.size)
 have V2 := Lib.hid (show Sv C H [(28, w.heap.size, cfA x)] u2 from ⟨HR.out.call (L2.out), X1.out.box.below X2.out.low (by have := s1.out; omega), trivial⟩)
 have T2 := Lib.hid X2.out.box
 clear s1 X1 X2
 have hk := (V2.out.1.node hi).1
 go_wp2_with fail
 have hS : Sv C H [(28, w.heap.size, cfA x)] u2.drew := V2.out.call (Below.refl _ u2).drew
 have LW := Lib.hid (L2.out.trans ((Below.refl _ u2).drew.mono L2.out.size))
 have TW := Lib.hid (show BoxV 53 u2.drew u1.heap.size (sqA failQ) from T2.out)
 clear hk
 have hp := HP.out
 refine wp_region_held_drew (S := fun u => Sv C H [(28, w.heap.size, cfA x)] u) (by kernel_rfl) hS (fun _ => ?_)
 refine takeAt 0 13 (.pointer (some ⟨H.g, i * 12, none⟩)) rfl rfl (by kernel_rfl) (by kernel_rfl) (by kernel_rfl) i_ (yields (by rfl) (fun w => by kernel_rfl)) hS ?_
 simp only [Act.put, sA_, s0_, sS_]
 refine takeAt 1 14 (.pointer (some ⟨H.g, i * 12, none⟩)) rfl rfl (by kernel_rfl) (by kernel_rfl) (by kernel_rfl) i_ (yields (by rfl) (fun w => by kernel_rfl)) hS ?_
 simp only [Act.put, sA_, s0_, sS_]
 refine takeAt 2 15 (.pointer (some ⟨H.g, i * 12, none⟩)) rfl rfl (by kernel_rfl) (by kernel_rfl) (by kernel_rfl) i_ (yields (by rfl) (fun w => by kernel_rfl)) hS ?_
 simp only [Act.put, sA_, s0_, sS_]
 refine takeAt 3 16 (.int .i64 (C.l i).k) rfl rfl (by kernel_rfl) (by kernel_rfl) (by kernel_rfl) i_ (ldI_y H.g (i * 12) _ (fun _ h => (h.1.node hi).1) rfl rfl (by rfl)) hS ?_
 simp only [Act.put, sA_, s0_, sS_]
 refine takeAt 4 17 (.pointer (some ⟨H.p, 0, none⟩)) rfl rfl (by kernel_rfl) (by kernel_rfl) (by kernel_rfl) i_ (yields (by rfl) (fun w => by kernel_rfl)) hS ?_
 simp only [Act.put, sA_, s0_, sS_]
 refine takeAt 5 18 (.pointer (some ⟨H.p, 0, none⟩)) rfl rfl (by kernel_rfl) (by kernel_rfl) (by kernel_rfl) i_ (yields (by rfl) (fun w => by kernel_rfl)) hS ?_
 simp only [Act.put, sA_, s0_, sS_]
 refine takeAt 6 19 (.pointer (some ⟨H.p, 2, none⟩)) rfl rfl (by kernel_rfl) (by kernel_rfl) (by kernel_rfl) i_ (yields (by rfl) (fun w => by kernel_rfl)) hS ?_
 simp only [Act.put, sA_, s0_, sS_]
 refine takeAt 7 20 (.string C.s) rfl rfl (by kernel_rfl) (by kernel_rfl) (by kernel_rfl) i_ (ldT_y H.p 2 _ (fun _ h => h.1.c2) rfl rfl (by rfl)) hS ?_
 simp only [Act.put, sA_, s0_, sS_]
 refine takeAt 8 21 (.pointer (some ⟨w.heap.size, 1, none⟩)) rfl rfl (by kernel_rfl) (by kernel_rfl) (by kernel_rfl) i_ (yields (by rfl) (fun w => by kernel_rfl)) hS ?_
 simp only [Act.put, sA_, s0_, sS_]
 refine takeAt 9 22 (.int .i64 x.p) rfl rfl (by kernel_rfl) (by kernel_rfl) (by kernel_rfl) i_ (ldI_y w.heap.size 1 _ (fun _ h => h.2.1.get 1 (cf_get1 x)) rfl rfl (by rfl)) hS ?_
 simp only [Act.put, sA_, s0_, sS_]
 obtain ⟨q, eq⟩ : ∃ q : Nat, x.p = (q : Int) := ⟨x.p.toNat, by omega⟩
 have hh := hold_any (C.l i).k C.s q (by omega) (by omega) u2.drew
 rw [← eq] at hh
 refine callAt 10 23 rfl rfl (by kernel_rfl) (by rfl) (by kernel_rfl) (hh) ?_
 rintro e u3 ⟨rfl, rfl⟩
 have hS3 := hS
 have L3 := Lib.hid LW.out
 have T3 := Lib.hid TW.out
 refine ⟨_, rfl, hS3, ?_⟩
 simp only [Act.put, sA_, s0_, sS_]
 refine takeAt 11 8 (.bool (holdB C.s (C.l i).k q)) rfl rfl (by kernel_rfl) (by kernel_rfl) (by kernel_rfl) i_ (yields (by rfl) (fun w => by kernel_rfl)) hS3 ?_
 simp only [Act.put, sA_, s0_, sS_]
 refine wpAnyH_done (by kernel_rfl) ?_ _
 obtain ⟨bb, ebb⟩ : ∃ bb, holdB C.s (C.l i).k q = bb := ⟨_, rfl⟩
 rw [ebb]
 have EB := Lib.hid (And.intro ebb eq)
 clear ebb hp hS eq hh q0 q1 q12
 have V3 := Lib.hid hS3
 have hv := V3.out.2.1.get 1 (cf_get1 x)
 clear hS3
 go_wp2_with (refine putI 28 rfl _ _ rfl w.heap.size 1 (x.p) x.p (cfA x) rfl rfl V3.out.2.1 (cf_get1 x) ?_)
 intro u5 X5
 rw [cf_set1] at X5
 have T5 := Lib.hid (show BoxV 53 u5 u1.heap.size (sqA failQ) from (X5.out.other _ (by have := SZ.out; omega)).trans T3.out)
 have L5 := Lib.hid (L3.out.trans (X5.out.low _ (Nat.le_refl _)))
 clear hv
 go_wp2_with (refine loadCf rfl _ rfl w.heap.size _ rfl X5.out.box ?_)
 refine (goIf_any bb _ _).mono ?_
 rintro e u6 ⟨rfl, hB6⟩
 have T6 := Lib.hid (T5.out.below hB6 T5.out.lt)
 have L6 := Lib.hid (L5.out.trans (hB6.mono L5.out.size))
 clear hB6
 go_wp2_with (refine putSq rfl _ _ rfl u1.heap.size _ (sqA failQ) rfl rfl (sqA_size _) T6.out ?_)
 intro u7 X7
 go_wp2_with fail
 refine bodyPost_ret (resS rfl _ (g := u1.heap.size) rfl X7.out.box) rfl ⟨?_, L6.out.trans (X7.out.low _ (by have := SZ.out; omega))⟩
 show Ending.returned _ = Ending.returned _
 rw [show singleZ C (C.l i) x = goIfQ bb ⟨x.f, x.p, x.c⟩ by
  unfold singleZ
  rw [if_neg KK.out.1, if_neg KK.out.2.1, if_neg KK.out.2.2, show x.p.toNat = q by have := EB.out.2; omega, EB.out.1]]
theorem single_any (hLib : Cap.LibA) (H : Wh) (C : Mx) (i : Nat) (x : Cf) (w : World) (hR : Rm C H w) (hi : i < C.n) (hp : 0 ≤ x.p ∧ x.p ≤ C.s.size) (hs : C.s.size ≤ 10000) (hwd : (C.l i).k = 1 → WdsN (C.l i)) :
  Calls Tryz.prog 67 #[ptr H.p, .pointer (some ⟨H.g, i * 12, none⟩), .agg (cfA x)] w fun e w' => e = .returned (.agg (sqA (singleZ C (C.l i) x))) ∧ Below w.heap.size w w' := by
 by_cases k0 : (C.l i).k = 0
 ·exact single_0 H C i x w hR hi hp hs k0
 ·by_cases k1 : (C.l i).k = 1
  ·exact single_1 H C i x w hR hi hp hs hwd k1
  ·by_cases k12 : (C.l i).k = 12
   ·exact single_12 hLib H C i x w hR hi hp hs k12
   ·exact single_h H C i x w hR hi hp hs k0 k1 k12
end Go.Proofs.YteggpecbeagohaaGreatDoor.Stp
namespace Go.Proofs.YteggpecbeagohaaGreatDoor.Stp
open Go.RowKit
open Frm (Fr Pl frC frL frI dpI putF zF Wf mayF idF I64 BoxV ptr slc plL plC loadFr storeFr resFB getF sizeFr owns_block)
open Cap (Cp cpC zrC withZ agN agB byB)
open Ast (Nd At12 NodesAt kidsZ)
open Nai (setN hasN holdB hold_any ag_le)
section
variable {ops : Array Oper} {R : World → Prop} {a : Act} {o : Oper} {x y z : Operand} {w : World}
theorem bFr (k n f : Int) (ho : o.op = .build 90 #[(0, .const (.int .i64 k)), (1, x), (3, y)]) (hx : a.eval x = .int .i64 n) (hy : a.eval y = .int .i64 f) : (execOp a.eval o).run Tryz.prog w = .ok (.value (.agg (frC ⟨k, n, 0, f, 0⟩))) w := by
 unfold execOp
 simp only [ho]
 rw [show (#[(0, Operand.const (.int .i64 k)), (1, x), (3, y)] : Array (Nat × Operand)).map (fun (z : Nat × Operand) => match z with | (i, t) => (i, a.eval t)) = #[(0, .int .i64 k), (1, .int .i64 n), (3, .int .i64 f)] by simp [hx, hy, cI]]
 kernel_rfl
end
theorem okDo {i : Int} (h : 0 ≤ i ∧ i ≤ 1000000) : OkF (toDo i) := ⟨.inl rfl, h, by show (0 : Int) ≤ 0 ∧ (0 : Int) ≤ 1000000; omega, by show (0 : Int) ≤ 0 ∧ (0 : Int) ≤ 1000000; omega⟩
theorem okTurn {k i p : Int} (hk : k = 2 ∨ k = 3) (h : 0 ≤ i ∧ i ≤ 1000000) (hp : 0 ≤ p ∧ p ≤ 1000000) : OkF ⟨k, i, 0, p, 0⟩ := by
 refine ⟨?_, h, by show (0 : Int) ≤ 0 ∧ (0 : Int) ≤ 1000000; omega, hp⟩
 rcases hk with rfl | rfl
 ·exact .inr (.inl rfl)
 ·exact .inr (.inr rfl)
section
variable {ops : Array Oper} {R : World → Prop} {a : Act} {o : Oper} {x y z : Operand} {w : World}
theorem ixN_y0 (b n c : Nat) (i : Nat) (hi : i < n) (ho : o.op = .indexAddr 41 x y) (hx : a.eval x = .slice (some ⟨b, 0, none⟩) n c) (hy : a.eval y = .int .i64 (i : Int)) (hw : Region.wanted o (yielded ops a.tmps) = true) : YieldsIf Tryz.prog ops R o (.pointer (some ⟨b, i * 12, none⟩)) a := by
 have h := ixN_y (R := R) b n c 0 i hi ho hx hy hw
 rwa [Nat.zero_add] at h
end
set_option maxRecDepth 100000 in
set_option maxHeartbeats 8000000 in
theorem do_any (hLib : Cap.LibA) (H : Wh) (C : Mx) (b m : Nat) (M : List Pl) (f : Fr) (i : Nat) (x : Cf) (w : World) (hM : Mch w H C b m none M) (hT : TOk C) (hwd : ∀ j, j < C.n → (C.l j).k = 1 → WdsN (C.l j)) (hfi : f.n = (i : Int)) (hi : i < C.n) (hx0 : 0 ≤ f.x) (hx1 : f.x < M.length) (hp : 0 ≤ x.p ∧ x.p ≤ C.s.size) (hl : M.length ≤ 900000) :
  Calls Tryz.prog 44 #[ptr H.p, .agg (frC f), .agg (cfA x)] w (StepRes w H C b m (doZ C M f x)) := by
 have HM := Lib.hid hM
 have LO := Lib.hid hM.low
 have HN := Lib.hid hT.n1
 have HP := Lib.hid (show 0 ≤ x.p ∧ x.p ≤ C.s.size ∧ C.s.size ≤ 10000 from ⟨hp.1, hp.2, hT.sz⟩)
 have HX := Lib.hid (show 0 ≤ (x.on f.x).f ∧ (x.on f.x).f < M.length ∧ M.length ≤ 900000 from ⟨hx0, hx1, hl⟩)
 have hn1 := hT.n1
 have hsz := hT.sz
 have HA := Lib.hid (show ((C.l i).k = 8 → ∀ g, g ∈ [toDo (C.l i).b, toDo (C.l i).a] → OkF g) ∧ ((C.l i).k = 11 → ∀ g, g ∈ [shutOf f x.p, toDo (C.l i).a] → OkF g) ∧ ((C.l i).k = 10 ∨ (C.l i).k = 17 → 0 ≤ (C.l i).a ∧ (C.l i).a ≤ 1000000) ∧ ((C.l i).k = 9 → (0 ≤ (C.l i).a ∧ (C.l i).a ≤ 1000) ∧ (0 ≤ (C.l i).b ∧ (C.l i).b ≤ 1000)) ∧ OkF (turnOf f x.p) by
  refine ⟨fun e g hg => ?_, fun e g hg => ?_, fun e => ?_, fun e => ?_, ?_⟩
  ·have := hT.two i hi (by rw [e]; rfl)
   simp at hg
   rcases hg with rfl | rfl <;> exact okDo (by omega)
  ·have := hT.one i hi (by rw [e]; rfl)
   simp at hg
   rcases hg with rfl | rfl
   ·exact okTurn (.inr rfl) (by omega) (by omega)
   ·exact okDo (by omega)
  ·have := hT.one i hi (by rcases e with e | e <;> (rw [e]; rfl))
   omega
  ·have := hT.two i hi (by rw [e]; rfl)
   omega
  ·exact okTurn (.inl rfl) (by omega) (by omega))
 have HT := Lib.hid hT
 have HWD := Lib.hid hwd
 have EI := Lib.hid (show f.n.toNat = i by omega)
 clear hM hT hwd hx0 hx1 hp hl hn1 hsz
 go_enter Tryz.func44, Tryz.ntmps44
 go_wp2_with (refine boxFr _ rfl f rfl (by rfl) ?_)
 intro u1 X1
 go_wp2_with (refine boxCf _ rfl x rfl (by rfl) ?_)
 intro u2 X2
 go_wp2_with (refine allocSq rfl (by rfl) ?_)
 intro u3 X3
 have s1 := Lib.hid X1.out.size
 have s2 := Lib.hid X2.out.size
 have L3 := Lib.hid (show Below w.heap.size w u3 from (X1.out.low.trans (X2.out.low.mono (by have := s1.out; omega))).trans (X3.out.low.mono (by have := s1.out; have := s2.out; omega)))
 have V3 := Lib.hid (show Sv C H [(90, w.heap.size, frC f), (28, u1.heap.size, cfA x)] u3 from ⟨HM.out.rm.call L3.out, (X1.out.box.below X2.out.low (by have := s1.out; omega)).below X3.out.low (by have := s1.out; have := s2.out; omega), X2.out.box.below X3.out.low (by have := s2.out; omega), trivial⟩)
 have T3 := Lib.hid X3.out.box
 have s3 := Lib.hid X3.out.size
 clear X1 X2 X3
 go_wp2_with fail
 have hS : Sv C H [(90, w.heap.size, frC f), (28, u1.heap.size, cfA x)] u3.drew := V3.out.call (Below.refl _ u3).drew
 refine wp_region_held_drew (S := fun u => Sv C H [(90, w.heap.size, frC f), (28, u1.heap.size, cfA x)] u) (by kernel_rfl) hS (fun _ => ?_)
 refine takeAt 0 11 (.pointer (some ⟨H.p, 0, none⟩)) rfl rfl (by kernel_rfl) (by kernel_rfl) (by kernel_rfl) i_ (yields (by rfl) (fun w => by kernel_rfl)) hS ?_
 simp only [Act.put, sA_, s0_, sS_]
 refine takeAt 1 12 (.pointer (some ⟨H.p, 0, none⟩)) rfl rfl (by kernel_rfl) (by kernel_rfl) (by kernel_rfl) i_ (yields (by rfl) (fun w => by kernel_rfl)) hS ?_
 simp only [Act.put, sA_, s0_, sS_]
 refine takeAt 2 13 (.pointer (some ⟨H.p, 0, none⟩)) rfl rfl (by kernel_rfl) (by kernel_rfl) (by kernel_rfl) i_ (yields (by rfl) (fun w => by kernel_rfl)) hS ?_
 simp only [Act.put, sA_, s0_, sS_]
 refine takeAt 3 14 (.slice (some ⟨H.g, 0, none⟩) C.n H.cn) rfl rfl (by kernel_rfl) (by kernel_rfl) (by kernel_rfl) i_ (ldSN_y H.p 0 _ _ _ (fun _ h => h.1.c0) rfl rfl (by rfl)) hS ?_
 simp only [Act.put, sA_, s0_, sS_]
 refine takeAt 4 15 (.pointer (some ⟨w.heap.size, 1, none⟩)) rfl rfl (by kernel_rfl) (by kernel_rfl) (by kernel_rfl) i_ (yields (by rfl) (fun w => by kernel_rfl)) hS ?_
 simp only [Act.put, sA_, s0_, sS_]
 refine takeAt 5 16 (.int .i64 (i : Int)) rfl rfl (by kernel_rfl) (by kernel_rfl) (by kernel_rfl) i_ (ldI_y w.heap.size 1 _ (fun _ h => (h.2.1.get 1 rfl).trans (show some (Value.int .i64 f.n) = some (.int .i64 (i : Int)) by rw [hfi])) rfl rfl (by rfl)) hS ?_
 simp only [Act.put, sA_, s0_, sS_]
 refine takeAt 6 17 (.pointer (some ⟨H.g, i * 12, none⟩)) rfl rfl (by kernel_rfl) (by kernel_rfl) (by kernel_rfl) i_ (ixN_y0 H.g C.n H.cn i hi rfl rfl rfl (by rfl)) hS ?_
 simp only [Act.put, sA_, s0_, sS_]
 refine takeAt 7 8 (.pointer (some ⟨H.g, i * 12, none⟩)) rfl rfl (by kernel_rfl) (by kernel_rfl) (by kernel_rfl) i_ (yields (by rfl) (fun w => by kernel_rfl)) hS ?_
 simp only [Act.put, sA_, s0_, sS_]
 refine wpAnyH_done (by kernel_rfl) ?_ _
 clear hfi
 have hb4 := hS.2.1.get 4 rfl
 have hb5 := hS.2.2.1
 clear hS
 go_wp2_with (refine loadCf rfl _ rfl u1.heap.size x rfl hb5 ?_)
 refine (then_any x f.x _).mono ?_
 rintro e u4 ⟨rfl, hB4⟩
 have hB4' : Below u3.heap.size u3 u4 := (Below.refl _ u3).drew.trans hB4
 have V4 := Lib.hid (V3.out.call hB4')
 have T4 := Lib.hid (T3.out.below hB4' T3.out.lt)
 have L4 := Lib.hid (L3.out.trans (hB4'.mono L3.out.size))
 have s4 := Lib.hid (show u3.heap.size ≤ u4.heap.size from hB4'.size)
 clear hB4 hB4' hb4 hb5 V3 T3 L3
 go_wp2_with (refine allocCf rfl (by rfl) ?_)
 intro u5 X5
 have V5 := Lib.hid (V4.out.call X5.out.low)
 have T5 := Lib.hid (T4.out.below X5.out.low T4.out.lt)
 have L5 := Lib.hid (L4.out.trans (X5.out.low.mono L4.out.size))
 have s5 := Lib.hid X5.out.size
 go_wp2_with (refine putCf rfl _ _ rfl u4.heap.size (x.on f.x) (cfA zCf) rfl rfl (cfA_size _) X5.out.box ?_)
 intro u6 X6
 have SZ := Lib.hid (And.intro s1.out (And.intro s2.out (And.intro s3.out (And.intro s4.out (And.intro s5.out L4.out.size)))))
 have hsz := SZ.out
 have hlo := LO.out
 have V6 := Lib.hid (show Sv C H [(90, w.heap.size, frC f), (28, u1.heap.size, cfA x), (28, u4.heap.size, cfA (x.on f.x))] u6 from by
  have h := V5.out.put (L := [(90, w.heap.size, frC f), (28, u1.heap.size, cfA x)]) X5.out.box X6.out (by
   intro e he
   simp at he
   rcases he with rfl | rfl
   ·simp
   ·exact .inr (by dsimp only; omega)) (by omega)
  exact ⟨h.1, h.2.1, h.2.2.1, X6.out.box, trivial⟩)
 have T6 := Lib.hid (show BoxV 53 u6 u2.heap.size (sqA failQ) from (X6.out.other _ (by omega)).trans T5.out)
 have L6 := Lib.hid (show Below w.heap.size w u6 from L5.out.trans (X6.out.low _ (by omega)))
 have hk := (V6.out.1.node hi).1
 clear hsz hlo s1 s2 s3 s4 s5 V4 V5 T4 T5 L4 L5 X5 X6
 by_cases hk8 : (C.l i).k = 8
 ·have EZ := Lib.hid (show doZ C M f x = (goOnZ C M (x.on f.x) [toDo (C.l i).b, toDo (C.l i).a]) by unfold doZ; rw [EI.out]; rw [if_pos hk8])
  rw [hk8] at hk
  go_wp2_with fail
  have hS7 : Sv C H [(90, w.heap.size, frC f), (28, u1.heap.size, cfA x), (28, u4.heap.size, cfA (x.on f.x))] u6.drew := V6.out.call (Below.refl _ u6).drew
  have L7 := Lib.hid (L6.out.trans ((Below.refl _ u6).drew.mono L6.out.size))
  have T7 := Lib.hid (show BoxV 53 u6.drew u2.heap.size (sqA failQ) from T6.out)
  have hS := hS7
  refine wp_region_held_drew (S := fun u => Sv C H [(90, w.heap.size, frC f), (28, u1.heap.size, cfA x), (28, u4.heap.size, cfA (x.on f.x))] u) (by kernel_rfl) hS (fun _ => ?_)
  refine takeAt 0 28 (.pointer (some ⟨H.p, 0, none⟩)) rfl rfl (by kernel_rfl) (by kernel_rfl) (by kernel_rfl) i_ (yields (by rfl) (fun w => by kernel_rfl)) hS7 ?_
  simp only [Act.put, sA_, s0_, sS_]
  refine takeAt 1 29 (.agg (cfA (x.on f.x))) rfl rfl (by kernel_rfl) (by kernel_rfl) (by kernel_rfl) i_ (ldCf_y u4.heap.size (x.on f.x) (fun _ h => h.2.2.2.1) rfl rfl (by rfl)) hS7 ?_
  simp only [Act.put, sA_, s0_, sS_]
  refine takeAt 2 30 (.pointer (some ⟨H.g, i * 12, none⟩)) rfl rfl (by kernel_rfl) (by kernel_rfl) (by kernel_rfl) i_ (yields (by rfl) (fun w => by kernel_rfl)) hS7 ?_
  simp only [Act.put, sA_, s0_, sS_]
  refine takeAt 3 31 (.pointer (some ⟨H.g, i * 12, none⟩)) rfl rfl (by kernel_rfl) (by kernel_rfl) (by kernel_rfl) i_ (yields (by rfl) (fun w => by kernel_rfl)) hS7 ?_
  simp only [Act.put, sA_, s0_, sS_]
  refine takeAt 4 32 (.pointer (some ⟨H.g, i * 12 + 2, none⟩)) rfl rfl (by kernel_rfl) (by kernel_rfl) (by kernel_rfl) i_ (yields (by rfl) (fun w => by kernel_rfl)) hS7 ?_
  simp only [Act.put, sA_, s0_, sS_]
  refine takeAt 5 33 (.int .i64 (C.l i).b) rfl rfl (by kernel_rfl) (by kernel_rfl) (by kernel_rfl) i_ (ldI_y H.g (i * 12 + 2) _ (fun _ h => (h.1.node hi).2.2.1) rfl rfl (by rfl)) hS7 ?_
  simp only [Act.put, sA_, s0_, sS_]
  refine takeAt 7 35 (.pointer (some ⟨H.g, i * 12, none⟩)) rfl rfl (by kernel_rfl) (by kernel_rfl) (by kernel_rfl) i_ (yields (by rfl) (fun w => by kernel_rfl)) hS7 ?_
  simp only [Act.put, sA_, s0_, sS_]
  refine takeAt 8 36 (.pointer (some ⟨H.g, i * 12, none⟩)) rfl rfl (by kernel_rfl) (by kernel_rfl) (by kernel_rfl) i_ (yields (by rfl) (fun w => by kernel_rfl)) hS7 ?_
  simp only [Act.put, sA_, s0_, sS_]
  refine takeAt 9 37 (.pointer (some ⟨H.g, i * 12 + 1, none⟩)) rfl rfl (by kernel_rfl) (by kernel_rfl) (by kernel_rfl) i_ (yields (by rfl) (fun w => by kernel_rfl)) hS7 ?_
  simp only [Act.put, sA_, s0_, sS_]
  refine takeAt 10 38 (.int .i64 (C.l i).a) rfl rfl (by kernel_rfl) (by kernel_rfl) (by kernel_rfl) i_ (ldI_y H.g (i * 12 + 1) _ (fun _ h => (h.1.node hi).2.1) rfl rfl (by rfl)) hS7 ?_
  simp only [Act.put, sA_, s0_, sS_]
  refine callAt 6 34 rfl rfl (by kernel_rfl) (by rfl) (by kernel_rfl) (toDo_any (C.l i).b _) ?_
  rintro e u8 ⟨rfl, hB⟩
  have hS8 := hS7.call hB
  have L8 := Lib.hid (L7.out.trans (hB.mono L7.out.size))
  have T8 := Lib.hid (T7.out.below hB T7.out.lt)
  clear hB
  refine ⟨_, rfl, hS8, ?_⟩
  simp only [Act.put, sA_, s0_, sS_]
  refine callAt 11 39 rfl rfl (by kernel_rfl) (by rfl) (by kernel_rfl) (toDo_any (C.l i).a _) ?_
  rintro e u9 ⟨rfl, hB⟩
  have hS9 := hS8.call hB
  have L9 := Lib.hid (L8.out.trans (hB.mono L8.out.size))
  have T9 := Lib.hid (T8.out.below hB T8.out.lt)
  clear hB
  refine ⟨_, rfl, hS9, ?_⟩
  simp only [Act.put, sA_, s0_, sS_]
  obtain ⟨u10, e10⟩ : ∃ v, u9.alloc (.cells (frC (toDo (C.l i).b) ++ frC (toDo (C.l i).a)) 90) = v := ⟨_, rfl⟩
  have N10 := Lib.hid (show New 90 (frC (toDo (C.l i).b) ++ frC (toDo (C.l i).a)) u9 u10 from e10 ▸ New.of _ _ _)
  have hS10 := hS9.call N10.out.low
  have L10 := Lib.hid (L9.out.trans (N10.out.low.mono L9.out.size))
  have T10 := Lib.hid (T9.out.below N10.out.low T9.out.lt)
  refine valAt 12 40 (.slice (some ⟨u9.heap.size, 0, none⟩) 2 2) u10 rfl rfl (by kernel_rfl) (by rfl) (by rw [← e10]; exact twoFr_run _ _ rfl rfl rfl) hS10 ?_
  simp only [Act.put, sA_, s0_, sS_]
  refine callAt 13 41 rfl rfl (by kernel_rfl) (by rfl) (by kernel_rfl) (goOn_any H C b m M (x.on f.x) u9.heap.size 2 [toDo (C.l i).b, toDo (C.l i).a] u10 (HM.out.below L10.out (Nat.le_refl _)) (.two N10.out.box) (by have h := (HM.out.below L10.out (Nat.le_refl _)).not_box N10.out.box (by decide); have h2 := (HM.out.below L10.out (Nat.le_refl _)).not_p N10.out.box (by decide); exact ⟨h2, h.1, h.2⟩) (Nat.le_refl _) (HA.out.1 hk8) HX.out.1 HX.out.2.1 (by have := HX.out.2.2; simp; omega) (by simp)) ?_
  rintro e u11 ⟨rfl, hG⟩
  have hS11 := hS10.go hG (HM.out.below L10.out (Nat.le_refl _)) (by intro e he; simp at he; rcases he with rfl | rfl | rfl <;> exact ⟨by simp, by simp⟩)
  have T11 := Lib.hid (hG.box T10.out ((HM.out.below L10.out (Nat.le_refl _)).not_p T10.out (by decide)) ((HM.out.below L10.out (Nat.le_refl _)).not_box T10.out (by decide)).1 ((HM.out.below L10.out (Nat.le_refl _)).not_box T10.out (by decide)).2)
  have G11 := Lib.hid (Goes.first L10.out hG)
  clear hG
  refine ⟨_, rfl, hS11, ?_⟩
  simp only [Act.put, sA_, s0_, sS_]
  refine takeAt 14 42 (.agg (sqA (goOnZ C M (x.on f.x) [toDo (C.l i).b, toDo (C.l i).a]).1)) rfl rfl (by kernel_rfl) (by kernel_rfl) (by kernel_rfl) i_ (yields (by rfl) (fun w => by kernel_rfl)) hS11 ?_
  simp only [Act.put, sA_, s0_, sS_]
  refine takeAt 15 43 (.int .i64 (goOnZ C M (x.on f.x) [toDo (C.l i).b, toDo (C.l i).a]).2.1) rfl rfl (by kernel_rfl) (by kernel_rfl) (by kernel_rfl) i_ (yields (by rfl) (fun w => by kernel_rfl)) hS11 ?_
  simp only [Act.put, sA_, s0_, sS_]
  have P12 := putOf_row T11.out (sqA (goOnZ C M (x.on f.x) [toDo (C.l i).b, toDo (C.l i).a]).1)
  have hS12 : Sv C H [(90, w.heap.size, frC f), (28, u1.heap.size, cfA x), (28, u4.heap.size, cfA (x.on f.x))] _ := hS11.put T11.out P12 (by intro e he; simp at he; rcases he with rfl | rfl | rfl <;> simp) (by have := LO.out; have := SZ.out; omega)
  have PX := Lib.hid P12
  refine rowAt 16 53 u2.heap.size (sqA failQ) (sqA (goOnZ C M (x.on f.x) [toDo (C.l i).b, toDo (C.l i).a]).1) rfl rfl rfl (by kernel_rfl) (by rfl) rfl rfl T11.out (by rw [sqA_size]; exact sizeSq) (by rw [sqA_size, sqA_size]) (sqA_one _) hS12 ?_
  refine takeAt 17 7 (.int .i64 (goOnZ C M (x.on f.x) [toDo (C.l i).b, toDo (C.l i).a]).2.1) rfl rfl (by kernel_rfl) (by kernel_rfl) (by kernel_rfl) i_ (yields (by rfl) (fun w => by kernel_rfl)) hS12 ?_
  simp only [Act.put, sA_, s0_, sS_]
  refine wpAnyH_done (by kernel_rfl) ?_ _
  go_wp2_with fail
  refine bodyPost_ret (resSE rfl _ (g := u2.heap.size) rfl rfl PX.out.box) rfl ⟨?_, ?_⟩
  ·rw [EZ.out]; rfl
  ·rw [EZ.out]
   exact G11.out.putSq HM.out (by have := SZ.out; omega) T11.out PX.out
 ·skip
  by_cases hk9 : (C.l i).k = 9
  ·have EZ := Lib.hid (show doZ C M f x = (eitherZ C M (C.l i) (x.on f.x)) by unfold doZ; rw [EI.out]; rw [if_neg hk8]; rw [if_pos hk9])
   rw [hk9] at hk
   have hb9 := V6.out.2.2.2.1
   go_wp2_with (refine loadCf rfl _ rfl u4.heap.size (x.on f.x) rfl hb9 ?_)
   refine (either_any H C b m M i (x.on f.x) u6 (HM.out.below L6.out (Nat.le_refl _)) hi (HA.out.2.2.2.1 hk9).1 (HA.out.2.2.2.1 hk9).2 HX.out.1 HX.out.2.1 (by have := HX.out.2.2; omega)).mono ?_
   rintro e u7 ⟨rfl, hG⟩
   have mch := HM.out.below L6.out (Nat.le_refl _)
   have T7 := Lib.hid (hG.box T6.out (mch.not_p T6.out (by decide)) (mch.not_box T6.out (by decide)).1 (mch.not_box T6.out (by decide)).2)
   have G7 := Lib.hid (Goes.first L6.out hG)
   clear hG mch hb9 hk
   go_wp2_with (refine putSq rfl _ _ rfl u2.heap.size (eitherZ C M (C.l i) (x.on f.x)).1 (sqA failQ) rfl rfl (sqA_size _) T7.out ?_)
   intro u8 X8
   go_wp2_with fail
   refine bodyPost_ret (resSE rfl _ (g := u2.heap.size) rfl rfl X8.out.box) rfl ⟨?_, ?_⟩
   ·rw [EZ.out]; rfl
   ·rw [EZ.out]
    exact G7.out.putSq HM.out (by have := SZ.out; omega) T7.out X8.out
  ·skip
   by_cases hk11 : (C.l i).k = 11
   ·have EZ := Lib.hid (show doZ C M f x = (goOnZ C M (x.on f.x) [shutOf f x.p, toDo (C.l i).a]) by unfold doZ; rw [EI.out]; rw [if_neg hk8]; rw [if_neg hk9]; rw [if_pos hk11])
    rw [hk11] at hk
    go_wp2_with fail
    have hS7 : Sv C H [(90, w.heap.size, frC f), (28, u1.heap.size, cfA x), (28, u4.heap.size, cfA (x.on f.x))] u6.drew := V6.out.call (Below.refl _ u6).drew
    have L7 := Lib.hid (L6.out.trans ((Below.refl _ u6).drew.mono L6.out.size))
    have T7 := Lib.hid (show BoxV 53 u6.drew u2.heap.size (sqA failQ) from T6.out)
    have hS := hS7
    refine wp_region_held_drew (S := fun u => Sv C H [(90, w.heap.size, frC f), (28, u1.heap.size, cfA x), (28, u4.heap.size, cfA (x.on f.x))] u) (by kernel_rfl) hS (fun _ => ?_)
    refine takeAt 0 54 (.pointer (some ⟨H.p, 0, none⟩)) rfl rfl (by kernel_rfl) (by kernel_rfl) (by kernel_rfl) i_ (yields (by rfl) (fun w => by kernel_rfl)) hS7 ?_
    simp only [Act.put, sA_, s0_, sS_]
    refine takeAt 1 55 (.agg (cfA (x.on f.x))) rfl rfl (by kernel_rfl) (by kernel_rfl) (by kernel_rfl) i_ (ldCf_y u4.heap.size (x.on f.x) (fun _ h => h.2.2.2.1) rfl rfl (by rfl)) hS7 ?_
    simp only [Act.put, sA_, s0_, sS_]
    refine takeAt 2 56 (.pointer (some ⟨w.heap.size, 1, none⟩)) rfl rfl (by kernel_rfl) (by kernel_rfl) (by kernel_rfl) i_ (yields (by rfl) (fun w => by kernel_rfl)) hS7 ?_
    simp only [Act.put, sA_, s0_, sS_]
    refine takeAt 3 57 (.int .i64 f.n) rfl rfl (by kernel_rfl) (by kernel_rfl) (by kernel_rfl) i_ (ldI_y w.heap.size 1 _ (fun _ h => h.2.1.get 1 rfl) rfl rfl (by rfl)) hS7 ?_
    simp only [Act.put, sA_, s0_, sS_]
    refine takeAt 4 58 (.pointer (some ⟨u1.heap.size, 1, none⟩)) rfl rfl (by kernel_rfl) (by kernel_rfl) (by kernel_rfl) i_ (yields (by rfl) (fun w => by kernel_rfl)) hS7 ?_
    simp only [Act.put, sA_, s0_, sS_]
    refine takeAt 5 59 (.int .i64 x.p) rfl rfl (by kernel_rfl) (by kernel_rfl) (by kernel_rfl) i_ (ldI_y u1.heap.size 1 _ (fun _ h => h.2.2.1.get 1 (cf_get1 x)) rfl rfl (by rfl)) hS7 ?_
    simp only [Act.put, sA_, s0_, sS_]
    refine takeAt 6 60 (.agg (frC (shutOf f x.p))) rfl rfl (by kernel_rfl) (by kernel_rfl) (by kernel_rfl) i_ (Or.inl ⟨by rfl, fun u _ => bFr 3 f.n x.p rfl rfl rfl⟩) hS7 ?_
    simp only [Act.put, sA_, s0_, sS_]
    refine takeAt 7 61 (.pointer (some ⟨H.g, i * 12, none⟩)) rfl rfl (by kernel_rfl) (by kernel_rfl) (by kernel_rfl) i_ (yields (by rfl) (fun w => by kernel_rfl)) hS7 ?_
    simp only [Act.put, sA_, s0_, sS_]
    refine takeAt 8 62 (.pointer (some ⟨H.g, i * 12, none⟩)) rfl rfl (by kernel_rfl) (by kernel_rfl) (by kernel_rfl) i_ (yields (by rfl) (fun w => by kernel_rfl)) hS7 ?_
    simp only [Act.put, sA_, s0_, sS_]
    refine takeAt 9 63 (.pointer (some ⟨H.g, i * 12 + 1, none⟩)) rfl rfl (by kernel_rfl) (by kernel_rfl) (by kernel_rfl) i_ (yields (by rfl) (fun w => by kernel_rfl)) hS7 ?_
    simp only [Act.put, sA_, s0_, sS_]
    refine takeAt 10 64 (.int .i64 (C.l i).a) rfl rfl (by kernel_rfl) (by kernel_rfl) (by kernel_rfl) i_ (ldI_y H.g (i * 12 + 1) _ (fun _ h => (h.1.node hi).2.1) rfl rfl (by rfl)) hS7 ?_
    simp only [Act.put, sA_, s0_, sS_]
    refine callAt 11 65 rfl rfl (by kernel_rfl) (by rfl) (by kernel_rfl) (toDo_any (C.l i).a _) ?_
    rintro e u8 ⟨rfl, hB⟩
    have hS8 := hS7.call hB
    have L8 := Lib.hid (L7.out.trans (hB.mono L7.out.size))
    have T8 := Lib.hid (T7.out.below hB T7.out.lt)
    clear hB
    refine ⟨_, rfl, hS8, ?_⟩
    simp only [Act.put, sA_, s0_, sS_]
    obtain ⟨u9, e9⟩ : ∃ v, u8.alloc (.cells (frC (shutOf f x.p) ++ frC (toDo (C.l i).a)) 90) = v := ⟨_, rfl⟩
    have N9 := Lib.hid (show New 90 (frC (shutOf f x.p) ++ frC (toDo (C.l i).a)) u8 u9 from e9 ▸ New.of _ _ _)
    have hS9 := hS8.call N9.out.low
    have L9 := Lib.hid (L8.out.trans (N9.out.low.mono L8.out.size))
    have T9 := Lib.hid (T8.out.below N9.out.low T8.out.lt)
    refine valAt 12 66 (.slice (some ⟨u8.heap.size, 0, none⟩) 2 2) u9 rfl rfl (by kernel_rfl) (by rfl) (by rw [← e9]; exact twoFr_run _ _ rfl rfl rfl) hS9 ?_
    simp only [Act.put, sA_, s0_, sS_]
    refine callAt 13 67 rfl rfl (by kernel_rfl) (by rfl) (by kernel_rfl) (goOn_any H C b m M (x.on f.x) u8.heap.size 2 [shutOf f x.p, toDo (C.l i).a] u9 (HM.out.below L9.out (Nat.le_refl _)) (.two N9.out.box) (by have h := (HM.out.below L9.out (Nat.le_refl _)).not_box N9.out.box (by decide); have h2 := (HM.out.below L9.out (Nat.le_refl _)).not_p N9.out.box (by decide); exact ⟨h2, h.1, h.2⟩) (Nat.le_refl _) (HA.out.2.1 hk11) HX.out.1 HX.out.2.1 (by have := HX.out.2.2; simp; omega) (by simp)) ?_
    rintro e u10 ⟨rfl, hG⟩
    have hS10 := hS9.go hG (HM.out.below L9.out (Nat.le_refl _)) (by intro e he; simp at he; rcases he with rfl | rfl | rfl <;> exact ⟨by simp, by simp⟩)
    have T10 := Lib.hid (hG.box T9.out ((HM.out.below L9.out (Nat.le_refl _)).not_p T9.out (by decide)) ((HM.out.below L9.out (Nat.le_refl _)).not_box T9.out (by decide)).1 ((HM.out.below L9.out (Nat.le_refl _)).not_box T9.out (by decide)).2)
    have G10 := Lib.hid (Goes.first L9.out hG)
    clear hG
    refine ⟨_, rfl, hS10, ?_⟩
    simp only [Act.put, sA_, s0_, sS_]
    refine takeAt 14 68 (.agg (sqA (goOnZ C M (x.on f.x) [shutOf f x.p, toDo (C.l i).a]).1)) rfl rfl (by kernel_rfl) (by kernel_rfl) (by kernel_rfl) i_ (yields (by rfl) (fun w => by kernel_rfl)) hS10 ?_
    simp only [Act.put, sA_, s0_, sS_]
    refine takeAt 15 69 (.int .i64 (goOnZ C M (x.on f.x) [shutOf f x.p, toDo (C.l i).a]).2.1) rfl rfl (by kernel_rfl) (by kernel_rfl) (by kernel_rfl) i_ (yields (by rfl) (fun w => by kernel_rfl)) hS10 ?_
    simp only [Act.put, sA_, s0_, sS_]
    have P11 := putOf_row T10.out (sqA (goOnZ C M (x.on f.x) [shutOf f x.p, toDo (C.l i).a]).1)
    have hS11 : Sv C H [(90, w.heap.size, frC f), (28, u1.heap.size, cfA x), (28, u4.heap.size, cfA (x.on f.x))] _ := hS10.put T10.out P11 (by intro e he; simp at he; rcases he with rfl | rfl | rfl <;> simp) (by have := LO.out; have := SZ.out; omega)
    have PX := Lib.hid P11
    refine rowAt 16 53 u2.heap.size (sqA failQ) (sqA (goOnZ C M (x.on f.x) [shutOf f x.p, toDo (C.l i).a]).1) rfl rfl rfl (by kernel_rfl) (by rfl) rfl rfl T10.out (by rw [sqA_size]; exact sizeSq) (by rw [sqA_size, sqA_size]) (sqA_one _) hS11 ?_
    refine takeAt 17 7 (.int .i64 (goOnZ C M (x.on f.x) [shutOf f x.p, toDo (C.l i).a]).2.1) rfl rfl (by kernel_rfl) (by kernel_rfl) (by kernel_rfl) i_ (yields (by rfl) (fun w => by kernel_rfl)) hS11 ?_
    simp only [Act.put, sA_, s0_, sS_]
    refine wpAnyH_done (by kernel_rfl) ?_ _
    go_wp2_with fail
    refine bodyPost_ret (resSE rfl _ (g := u2.heap.size) rfl rfl PX.out.box) rfl ⟨?_, ?_⟩
    ·rw [EZ.out]; rfl
    ·rw [EZ.out]
     exact G10.out.putSq HM.out (by have := SZ.out; omega) T10.out PX.out
   ·skip
    by_cases hk10 : (C.l i).k = 10
    ·have EZ := Lib.hid (show doZ C M f x = (if (C.l i).md = 2 then withinZ C M 0 (turnOf f x.p) x (x.on f.x) else goOnZ C M (x.on f.x) [turnOf f x.p]) by unfold doZ; rw [EI.out]; rw [if_neg hk8]; rw [if_neg hk9]; rw [if_neg hk11]; rw [if_pos hk10])
     rw [hk10] at hk
     have hf1 := V6.out.2.1.get 1 rfl
     have hc1 := V6.out.2.2.1.get 1 (cf_get1 x)
     go_wp2_with (refine newFr rfl (by rfl) ?_)
     intro u7 X7
     go_wp2_with (refine putFr rfl _ _ rfl u6.heap.size zF (turnOf f x.p) rfl rfl X7.out.box ?_)
     intro u8 X8
     have s7 := Lib.hid X7.out.size
     have V8 := Lib.hid (show Sv C H [(90, w.heap.size, frC f), (28, u1.heap.size, cfA x), (28, u4.heap.size, cfA (x.on f.x))] u8 from (V6.out.call X7.out.low).put (L := [(90, w.heap.size, frC f), (28, u1.heap.size, cfA x), (28, u4.heap.size, cfA (x.on f.x))]) X7.out.box X8.out (by
      have := SZ.out
      have := L6.out.size
      intro e he
      simp at he
      rcases he with rfl | rfl | rfl
      ·exact .inr (Nat.ne_of_lt V6.out.2.1.lt)
      ·simp
      ·simp) (by have := LO.out; have := L6.out.size; omega))
     have T8 := Lib.hid (show BoxV 53 u8 u2.heap.size (sqA failQ) from (X8.out.other _ (by have := T6.out.lt; omega)).trans (T6.out.below X7.out.low T6.out.lt))
     have L8 := Lib.hid ((L6.out.trans (X7.out.low.mono L6.out.size)).trans (X8.out.low _ L6.out.size))
     have F8 := Lib.hid X8.out.box
     have hmd := (V8.out.1.node hi).2.2.2.2.2.2.2.2.2.1
     have hb5 := V8.out.2.2.1
     have hb9 := V8.out.2.2.2.1
     clear hf1 hc1 hk s7 X7 X8
     by_cases hd : (C.l i).md = 2
     ·rw [hd] at hmd
      have EZ := Lib.hid (show doZ C M f x = (withinZ C M 0 (turnOf f x.p) x (x.on f.x)) by rw [EZ.out, if_pos hd])
      clear hd
      go_wp2_with (first | refine loadFr rfl _ rfl u6.heap.size 0 (turnOf f x.p) rfl (Frm.BoxV.fr F8.out) ?_ | refine loadCf rfl _ rfl u1.heap.size x rfl hb5 ?_ | refine loadCf rfl _ rfl u4.heap.size (x.on f.x) rfl hb9 ?_)
      refine (within_any H C b m M 0 (turnOf f x.p) x (x.on f.x) u8 (HM.out.below L8.out (Nat.le_refl _)) HA.out.2.2.2.2 (by have := HX.out.2.2; omega)).mono ?_
      rintro e u9 ⟨rfl, hG⟩
      have mch := HM.out.below L8.out (Nat.le_refl _)
      have T9 := Lib.hid (hG.box T8.out (mch.not_p T8.out (by decide)) (mch.not_box T8.out (by decide)).1 (mch.not_box T8.out (by decide)).2)
      have G9 := Lib.hid (Goes.first L8.out hG)
      clear hG mch hb9 hb5 hmd
      go_wp2_with (refine putSq rfl _ _ rfl u2.heap.size (withinZ C M 0 (turnOf f x.p) x (x.on f.x)).1 (sqA failQ) rfl rfl (sqA_size _) T9.out ?_)
      intro u10 X10
      go_wp2_with fail
      refine bodyPost_ret (resSE rfl _ (g := u2.heap.size) rfl rfl X10.out.box) rfl ⟨?_, ?_⟩
      ·rw [EZ.out]; rfl
      ·rw [EZ.out]
       exact G9.out.putSq HM.out (by have := SZ.out; omega) T9.out X10.out
     ·have hd2 : ((C.l i).md == 2) = false := by simpa using hd
      have EZ := Lib.hid (show doZ C M f x = (goOnZ C M (x.on f.x) [turnOf f x.p]) by rw [EZ.out, if_neg hd])
      clear hd
      go_wp2_with (first | refine loadFr rfl _ rfl u6.heap.size 0 (turnOf f x.p) rfl (Frm.BoxV.fr F8.out) ?_ | refine loadCf rfl _ rfl u4.heap.size (x.on f.x) rfl hb9 ?_ | refine oneFr (turnOf f x.p) rfl rfl (by rfl) ?_)
      intro u9 N9
      have L9 := Lib.hid (L8.out.trans (N9.out.low.mono L8.out.size))
      have T9 := Lib.hid (T8.out.below N9.out.low T8.out.lt)
      go_wp2_with fail
      refine (goOn_any H C b m M (x.on f.x) u8.heap.size 1 [turnOf f x.p] u9 (HM.out.below L9.out (Nat.le_refl _)) (.one N9.out.box) (by have h := (HM.out.below L9.out (Nat.le_refl _)).not_box N9.out.box (by decide); have h2 := (HM.out.below L9.out (Nat.le_refl _)).not_p N9.out.box (by decide); exact ⟨h2, h.1, h.2⟩) (Nat.le_refl _) (fun g hg => by simp at hg; rw [hg]; exact HA.out.2.2.2.2) HX.out.1 HX.out.2.1 (by have := HX.out.2.2; simp; omega) (by simp)).mono ?_
      rintro e u10 ⟨rfl, hG⟩
      have mch := HM.out.below L9.out (Nat.le_refl _)
      have T10 := Lib.hid (hG.box T9.out (mch.not_p T9.out (by decide)) (mch.not_box T9.out (by decide)).1 (mch.not_box T9.out (by decide)).2)
      have G10 := Lib.hid (Goes.first L9.out hG)
      clear hG mch hb9 hb5 hmd hd2
      go_wp2_with (refine putSq rfl _ _ rfl u2.heap.size (goOnZ C M (x.on f.x) [turnOf f x.p]).1 (sqA failQ) rfl rfl (sqA_size _) T10.out ?_)
      intro u11 X11
      go_wp2_with fail
      refine bodyPost_ret (resSE rfl _ (g := u2.heap.size) rfl rfl X11.out.box) rfl ⟨?_, ?_⟩
      ·rw [EZ.out]; rfl
      ·rw [EZ.out]
       exact G10.out.putSq HM.out (by have := SZ.out; omega) T10.out X11.out
    ·skip
     by_cases hk17 : (C.l i).k = 17
     ·have EZ := Lib.hid (show doZ C M f x = (withinZ C M 0 (toDo (C.l i).a) x (x.on f.x)) by unfold doZ; rw [EI.out]; rw [if_neg hk8]; rw [if_neg hk9]; rw [if_neg hk11]; rw [if_neg hk10]; rw [if_pos hk17])
      rw [hk17] at hk
      go_wp2_with fail
      have hS7 : Sv C H [(90, w.heap.size, frC f), (28, u1.heap.size, cfA x), (28, u4.heap.size, cfA (x.on f.x))] u6.drew := V6.out.call (Below.refl _ u6).drew
      have L7 := Lib.hid (L6.out.trans ((Below.refl _ u6).drew.mono L6.out.size))
      have T7 := Lib.hid (show BoxV 53 u6.drew u2.heap.size (sqA failQ) from T6.out)
      have hS := hS7
      refine wp_region_held_drew (S := fun u => Sv C H [(90, w.heap.size, frC f), (28, u1.heap.size, cfA x), (28, u4.heap.size, cfA (x.on f.x))] u) (by kernel_rfl) hS (fun _ => ?_)
      refine takeAt 0 98 (.pointer (some ⟨H.p, 0, none⟩)) rfl rfl (by kernel_rfl) (by kernel_rfl) (by kernel_rfl) i_ (yields (by rfl) (fun w => by kernel_rfl)) hS7 ?_
      simp only [Act.put, sA_, s0_, sS_]
      refine takeAt 1 99 (.pointer (some ⟨H.g, i * 12, none⟩)) rfl rfl (by kernel_rfl) (by kernel_rfl) (by kernel_rfl) i_ (yields (by rfl) (fun w => by kernel_rfl)) hS7 ?_
      simp only [Act.put, sA_, s0_, sS_]
      refine takeAt 2 100 (.pointer (some ⟨H.g, i * 12, none⟩)) rfl rfl (by kernel_rfl) (by kernel_rfl) (by kernel_rfl) i_ (yields (by rfl) (fun w => by kernel_rfl)) hS7 ?_
      simp only [Act.put, sA_, s0_, sS_]
      refine takeAt 3 101 (.pointer (some ⟨H.g, i * 12 + 1, none⟩)) rfl rfl (by kernel_rfl) (by kernel_rfl) (by kernel_rfl) i_ (yields (by rfl) (fun w => by kernel_rfl)) hS7 ?_
      simp only [Act.put, sA_, s0_, sS_]
      refine takeAt 4 102 (.int .i64 (C.l i).a) rfl rfl (by kernel_rfl) (by kernel_rfl) (by kernel_rfl) i_ (ldI_y H.g (i * 12 + 1) _ (fun _ h => (h.1.node hi).2.1) rfl rfl (by rfl)) hS7 ?_
      simp only [Act.put, sA_, s0_, sS_]
      refine takeAt 6 104 (.agg (cfA x)) rfl rfl (by kernel_rfl) (by kernel_rfl) (by kernel_rfl) i_ (ldCf_y u1.heap.size x (fun _ h => h.2.2.1) rfl rfl (by rfl)) hS7 ?_
      simp only [Act.put, sA_, s0_, sS_]
      refine takeAt 7 105 (.agg (cfA (x.on f.x))) rfl rfl (by kernel_rfl) (by kernel_rfl) (by kernel_rfl) i_ (ldCf_y u4.heap.size (x.on f.x) (fun _ h => h.2.2.2.1) rfl rfl (by rfl)) hS7 ?_
      simp only [Act.put, sA_, s0_, sS_]
      refine callAt 5 103 rfl rfl (by kernel_rfl) (by rfl) (by kernel_rfl) (toDo_any (C.l i).a _) ?_
      rintro e u8 ⟨rfl, hB⟩
      have hS8 := hS7.call hB
      have L8 := Lib.hid (L7.out.trans (hB.mono L7.out.size))
      have T8 := Lib.hid (T7.out.below hB T7.out.lt)
      clear hB
      refine ⟨_, rfl, hS8, ?_⟩
      simp only [Act.put, sA_, s0_, sS_]
      refine callAt 8 106 rfl rfl (by kernel_rfl) (by rfl) (by kernel_rfl) (within_any H C b m M 0 (toDo (C.l i).a) x (x.on f.x) u8 (HM.out.below L8.out (Nat.le_refl _)) (okDo (HA.out.2.2.1 (.inr hk17))) (by have := HX.out.2.2; omega)) ?_
      rintro e u9 ⟨rfl, hG⟩
      have hS9 := hS8.go hG (HM.out.below L8.out (Nat.le_refl _)) (by intro e he; simp at he; rcases he with rfl | rfl | rfl <;> exact ⟨by simp, by simp⟩)
      have T9 := Lib.hid (hG.box T8.out ((HM.out.below L8.out (Nat.le_refl _)).not_p T8.out (by decide)) ((HM.out.below L8.out (Nat.le_refl _)).not_box T8.out (by decide)).1 ((HM.out.below L8.out (Nat.le_refl _)).not_box T8.out (by decide)).2)
      have G9 := Lib.hid (Goes.first L8.out hG)
      clear hG
      refine ⟨_, rfl, hS9, ?_⟩
      simp only [Act.put, sA_, s0_, sS_]
      refine takeAt 9 107 (.agg (sqA (withinZ C M 0 (toDo (C.l i).a) x (x.on f.x)).1)) rfl rfl (by kernel_rfl) (by kernel_rfl) (by kernel_rfl) i_ (yields (by rfl) (fun w => by kernel_rfl)) hS9 ?_
      simp only [Act.put, sA_, s0_, sS_]
      refine takeAt 10 108 (.int .i64 (withinZ C M 0 (toDo (C.l i).a) x (x.on f.x)).2.1) rfl rfl (by kernel_rfl) (by kernel_rfl) (by kernel_rfl) i_ (yields (by rfl) (fun w => by kernel_rfl)) hS9 ?_
      simp only [Act.put, sA_, s0_, sS_]
      have P10 := putOf_row T9.out (sqA (withinZ C M 0 (toDo (C.l i).a) x (x.on f.x)).1)
      have hS10 : Sv C H [(90, w.heap.size, frC f), (28, u1.heap.size, cfA x), (28, u4.heap.size, cfA (x.on f.x))] _ := hS9.put T9.out P10 (by intro e he; simp at he; rcases he with rfl | rfl | rfl <;> simp) (by have := LO.out; have := SZ.out; omega)
      have PX := Lib.hid P10
      refine rowAt 11 53 u2.heap.size (sqA failQ) (sqA (withinZ C M 0 (toDo (C.l i).a) x (x.on f.x)).1) rfl rfl rfl (by kernel_rfl) (by rfl) rfl rfl T9.out (by rw [sqA_size]; exact sizeSq) (by rw [sqA_size, sqA_size]) (sqA_one _) hS10 ?_
      refine takeAt 12 7 (.int .i64 (withinZ C M 0 (toDo (C.l i).a) x (x.on f.x)).2.1) rfl rfl (by kernel_rfl) (by kernel_rfl) (by kernel_rfl) i_ (yields (by rfl) (fun w => by kernel_rfl)) hS10 ?_
      simp only [Act.put, sA_, s0_, sS_]
      refine wpAnyH_done (by kernel_rfl) ?_ _
      go_wp2_with fail
      refine bodyPost_ret (resSE rfl _ (g := u2.heap.size) rfl rfl PX.out.box) rfl ⟨?_, ?_⟩
      ·rw [EZ.out]; rfl
      ·rw [EZ.out]
       exact G9.out.putSq HM.out (by have := SZ.out; omega) T9.out PX.out
     ·skip
      by_cases hk13 : (C.l i).k = 13
      ·have EZ := Lib.hid (show doZ C M f x = (lookZ C M 1 (C.l i) (x.on f.x)) by unfold doZ; rw [EI.out]; rw [if_neg hk8]; rw [if_neg hk9]; rw [if_neg hk11]; rw [if_neg hk10]; rw [if_neg hk17]; rw [if_pos (.inl hk13)])
       rw [hk13] at hk
       obtain ⟨ja, hja, hjn⟩ : ∃ ja : Nat, (C.l i).a = (ja : Int) ∧ ja < C.n := ⟨(C.l i).a.toNat, by have := HT.out.one i hi (by rw [hk13]; rfl); omega, by have := HT.out.one i hi (by rw [hk13]; rfl); omega⟩
       have HJ := Lib.hid (And.intro hja (And.intro hjn (HT.out.bk ja hjn)))
       clear hja hjn
       have hb9 := V6.out.2.2.2.1
       go_wp2_with (refine loadCf rfl _ rfl u4.heap.size (x.on f.x) rfl hb9 ?_)
       refine (look_any H C b m M 1 i ja (x.on f.x) u6 (HM.out.below L6.out (Nat.le_refl _)) hi HJ.out.1 HJ.out.2.1 HJ.out.2.2 ⟨by have := HP.out; show 0 ≤ x.p; omega, by have := HP.out; show x.p ≤ 1000000; omega⟩ (by have := HN.out; omega) (by have := HX.out.2.2; omega)).mono ?_
       rintro e u7 ⟨rfl, hG⟩
       have mch := HM.out.below L6.out (Nat.le_refl _)
       have T7 := Lib.hid (hG.box T6.out (mch.not_p T6.out (by decide)) (mch.not_box T6.out (by decide)).1 (mch.not_box T6.out (by decide)).2)
       have G7 := Lib.hid (Goes.first L6.out hG)
       clear hG mch hb9 hk
       go_wp2_with (refine putSq rfl _ _ rfl u2.heap.size (lookZ C M 1 (C.l i) (x.on f.x)).1 (sqA failQ) rfl rfl (sqA_size _) T7.out ?_)
       intro u8 X8
       go_wp2_with fail
       refine bodyPost_ret (resSE rfl _ (g := u2.heap.size) rfl rfl X8.out.box) rfl ⟨?_, ?_⟩
       ·rw [EZ.out]; rfl
       ·rw [EZ.out]
        exact G7.out.putSq HM.out (by have := SZ.out; omega) T7.out X8.out
      ·skip
       by_cases hk15 : (C.l i).k = 15
       ·have EZ := Lib.hid (show doZ C M f x = (lookZ C M 1 (C.l i) (x.on f.x)) by unfold doZ; rw [EI.out]; rw [if_neg hk8]; rw [if_neg hk9]; rw [if_neg hk11]; rw [if_neg hk10]; rw [if_neg hk17]; rw [if_pos (.inr hk15)])
        rw [hk15] at hk
        obtain ⟨ja, hja, hjn⟩ : ∃ ja : Nat, (C.l i).a = (ja : Int) ∧ ja < C.n := ⟨(C.l i).a.toNat, by have := HT.out.one i hi (by rw [hk15]; rfl); omega, by have := HT.out.one i hi (by rw [hk15]; rfl); omega⟩
        have HJ := Lib.hid (And.intro hja (And.intro hjn (HT.out.bk ja hjn)))
        clear hja hjn
        have hb9 := V6.out.2.2.2.1
        go_wp2_with (refine loadCf rfl _ rfl u4.heap.size (x.on f.x) rfl hb9 ?_)
        refine (look_any H C b m M 1 i ja (x.on f.x) u6 (HM.out.below L6.out (Nat.le_refl _)) hi HJ.out.1 HJ.out.2.1 HJ.out.2.2 ⟨by have := HP.out; show 0 ≤ x.p; omega, by have := HP.out; show x.p ≤ 1000000; omega⟩ (by have := HN.out; omega) (by have := HX.out.2.2; omega)).mono ?_
        rintro e u7 ⟨rfl, hG⟩
        have mch := HM.out.below L6.out (Nat.le_refl _)
        have T7 := Lib.hid (hG.box T6.out (mch.not_p T6.out (by decide)) (mch.not_box T6.out (by decide)).1 (mch.not_box T6.out (by decide)).2)
        have G7 := Lib.hid (Goes.first L6.out hG)
        clear hG mch hb9 hk
        go_wp2_with (refine putSq rfl _ _ rfl u2.heap.size (lookZ C M 1 (C.l i) (x.on f.x)).1 (sqA failQ) rfl rfl (sqA_size _) T7.out ?_)
        intro u8 X8
        go_wp2_with fail
        refine bodyPost_ret (resSE rfl _ (g := u2.heap.size) rfl rfl X8.out.box) rfl ⟨?_, ?_⟩
        ·rw [EZ.out]; rfl
        ·rw [EZ.out]
         exact G7.out.putSq HM.out (by have := SZ.out; omega) T7.out X8.out
       ·skip
        by_cases hk14 : (C.l i).k = 14
        ·have EZ := Lib.hid (show doZ C M f x = (lookZ C M 2 (C.l i) (x.on f.x)) by unfold doZ; rw [EI.out]; rw [if_neg hk8]; rw [if_neg hk9]; rw [if_neg hk11]; rw [if_neg hk10]; rw [if_neg hk17]; rw [if_neg (fun q => q.elim hk13 hk15)]; rw [if_pos (.inl hk14)])
         rw [hk14] at hk
         obtain ⟨ja, hja, hjn⟩ : ∃ ja : Nat, (C.l i).a = (ja : Int) ∧ ja < C.n := ⟨(C.l i).a.toNat, by have := HT.out.one i hi (by rw [hk14]; rfl); omega, by have := HT.out.one i hi (by rw [hk14]; rfl); omega⟩
         have HJ := Lib.hid (And.intro hja (And.intro hjn (HT.out.bk ja hjn)))
         clear hja hjn
         have hb9 := V6.out.2.2.2.1
         go_wp2_with (refine loadCf rfl _ rfl u4.heap.size (x.on f.x) rfl hb9 ?_)
         refine (look_any H C b m M 2 i ja (x.on f.x) u6 (HM.out.below L6.out (Nat.le_refl _)) hi HJ.out.1 HJ.out.2.1 HJ.out.2.2 ⟨by have := HP.out; show 0 ≤ x.p; omega, by have := HP.out; show x.p ≤ 1000000; omega⟩ (by have := HN.out; omega) (by have := HX.out.2.2; omega)).mono ?_
         rintro e u7 ⟨rfl, hG⟩
         have mch := HM.out.below L6.out (Nat.le_refl _)
         have T7 := Lib.hid (hG.box T6.out (mch.not_p T6.out (by decide)) (mch.not_box T6.out (by decide)).1 (mch.not_box T6.out (by decide)).2)
         have G7 := Lib.hid (Goes.first L6.out hG)
         clear hG mch hb9 hk
         go_wp2_with (refine putSq rfl _ _ rfl u2.heap.size (lookZ C M 2 (C.l i) (x.on f.x)).1 (sqA failQ) rfl rfl (sqA_size _) T7.out ?_)
         intro u8 X8
         go_wp2_with fail
         refine bodyPost_ret (resSE rfl _ (g := u2.heap.size) rfl rfl X8.out.box) rfl ⟨?_, ?_⟩
         ·rw [EZ.out]; rfl
         ·rw [EZ.out]
          exact G7.out.putSq HM.out (by have := SZ.out; omega) T7.out X8.out
        ·skip
         by_cases hk16 : (C.l i).k = 16
         ·have EZ := Lib.hid (show doZ C M f x = (lookZ C M 2 (C.l i) (x.on f.x)) by unfold doZ; rw [EI.out]; rw [if_neg hk8]; rw [if_neg hk9]; rw [if_neg hk11]; rw [if_neg hk10]; rw [if_neg hk17]; rw [if_neg (fun q => q.elim hk13 hk15)]; rw [if_pos (.inr hk16)])
          rw [hk16] at hk
          obtain ⟨ja, hja, hjn⟩ : ∃ ja : Nat, (C.l i).a = (ja : Int) ∧ ja < C.n := ⟨(C.l i).a.toNat, by have := HT.out.one i hi (by rw [hk16]; rfl); omega, by have := HT.out.one i hi (by rw [hk16]; rfl); omega⟩
          have HJ := Lib.hid (And.intro hja (And.intro hjn (HT.out.bk ja hjn)))
          clear hja hjn
          have hb9 := V6.out.2.2.2.1
          go_wp2_with (refine loadCf rfl _ rfl u4.heap.size (x.on f.x) rfl hb9 ?_)
          refine (look_any H C b m M 2 i ja (x.on f.x) u6 (HM.out.below L6.out (Nat.le_refl _)) hi HJ.out.1 HJ.out.2.1 HJ.out.2.2 ⟨by have := HP.out; show 0 ≤ x.p; omega, by have := HP.out; show x.p ≤ 1000000; omega⟩ (by have := HN.out; omega) (by have := HX.out.2.2; omega)).mono ?_
          rintro e u7 ⟨rfl, hG⟩
          have mch := HM.out.below L6.out (Nat.le_refl _)
          have T7 := Lib.hid (hG.box T6.out (mch.not_p T6.out (by decide)) (mch.not_box T6.out (by decide)).1 (mch.not_box T6.out (by decide)).2)
          have G7 := Lib.hid (Goes.first L6.out hG)
          clear hG mch hb9 hk
          go_wp2_with (refine putSq rfl _ _ rfl u2.heap.size (lookZ C M 2 (C.l i) (x.on f.x)).1 (sqA failQ) rfl rfl (sqA_size _) T7.out ?_)
          intro u8 X8
          go_wp2_with fail
          refine bodyPost_ret (resSE rfl _ (g := u2.heap.size) rfl rfl X8.out.box) rfl ⟨?_, ?_⟩
          ·rw [EZ.out]; rfl
          ·rw [EZ.out]
           exact G7.out.putSq HM.out (by have := SZ.out; omega) T7.out X8.out
         ·have EZ := Lib.hid (show doZ C M f x = (singleZ C (C.l i) (x.on f.x), 0, M) by unfold doZ; rw [EI.out]; rw [if_neg hk8]; rw [if_neg hk9]; rw [if_neg hk11]; rw [if_neg hk10]; rw [if_neg hk17]; rw [if_neg (fun q => q.elim hk13 hk15)]; rw [if_neg (fun q => q.elim hk14 hk16)])
          have q8 : ((C.l i).k == 8) = false := by simpa using hk8
          have q9 : ((C.l i).k == 9) = false := by simpa using hk9
          have q11 : ((C.l i).k == 11) = false := by simpa using hk11
          have q10 : ((C.l i).k == 10) = false := by simpa using hk10
          have q17 : ((C.l i).k == 17) = false := by simpa using hk17
          have q13 : ((C.l i).k == 13) = false := by simpa using hk13
          have q15 : ((C.l i).k == 15) = false := by simpa using hk15
          have q14 : ((C.l i).k == 14) = false := by simpa using hk14
          have q16 : ((C.l i).k == 16) = false := by simpa using hk16
          have HSG := Lib.hid (single_any hLib H C i (x.on f.x) u6 V6.out.1 hi ⟨by have := HP.out; show 0 ≤ x.p; omega, by have := HP.out; show x.p ≤ _; omega⟩ (by have := HP.out; omega) (HWD.out i hi))
          have hb9 := V6.out.2.2.2.1
          clear hk8 hk9 hk11 hk10 hk17 hk13 hk15 hk14 hk16
          go_wp2_with (refine loadCf rfl _ rfl u4.heap.size (x.on f.x) rfl hb9 ?_)
          refine HSG.out.mono ?_
          rintro e u7 ⟨rfl, hB⟩
          have T7 := Lib.hid (T6.out.below hB T6.out.lt)
          have G7 := Lib.hid (((Goes.refl HM.out).next L6.out).next hB)
          clear hB hb9 hk q8 q9 q11 q10 q17 q13 q15 q14 q16
          go_wp2_with (refine putSq rfl _ _ rfl u2.heap.size (singleZ C (C.l i) (x.on f.x)) (sqA failQ) rfl rfl (sqA_size _) T7.out ?_)
          intro u8 X8
          go_wp2_with fail
          refine bodyPost_ret (resSE rfl _ (g := u2.heap.size) rfl rfl X8.out.box) rfl ⟨?_, ?_⟩
          ·rw [EZ.out]; rfl
          ·rw [EZ.out]
           exact G7.out.putSq HM.out (by have := SZ.out; omega) T7.out X8.out
end Go.Proofs.YteggpecbeagohaaGreatDoor.Stp
