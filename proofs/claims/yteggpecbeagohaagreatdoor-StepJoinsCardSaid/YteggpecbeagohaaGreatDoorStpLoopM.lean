import Derived.Test.YteggpecbeagohaaGreatDoorStpNextM
import Derived.Test.YteggpecbeagohaaGreatDoorStpRes
import Derived.Test.YteggpecbeagohaaGreatDoorStpRunM
import Derived.Test.YteggpecbeagohaaGreatDoorAstEM
import Derived.Test.YteggpecbeagohaaGreatDoorAstBM
import Derived.Test.YteggpecbeagohaaGreatDoorMz
namespace Go.Proofs.YteggpecbeagohaaGreatDoor.Stp
open Go.RowKit
open Frm (Fr Pl frC frL frI dpI putF zF Wf mayF idF I64 BoxV ptr slc plL plC loadFr storeFr resFB getF sizeFr owns_block)
open Cap (Cp cpC zrC withZ agN agB byB)
open Ast (Nd At12 NodesAt kidsZ)
theorem sq_get0 (x : Sq) : (sqA x)[0]? = some (.int .i64 x.k) := by rw [sqA, List.getElem?_toArray]; rfl
theorem sq_get1 (x : Sq) : (sqA x)[1]? = some (.int .i64 x.h) := by rw [sqA, List.getElem?_toArray]; rfl
theorem sq_a (x : Sq) {j : Nat} {v : Value} (h : (cfL x.a)[j]? = some v) : (sqA x)[2 + j]? = some v := by
 rw [sqA, List.getElem?_toArray, Nat.add_comm]
 show (cfL x.a ++ cfL x.b)[j]? = some v
 rw [List.getElem?_append_left (by
  rcases Nat.lt_or_ge j (cfL x.a).length with q | q
  ·exact q
  ·rw [List.getElem?_eq_none q] at h; cases h)]
 exact h
theorem sq_b (x : Sq) {j : Nat} {v : Value} (h : (cfL x.b)[j]? = some v) : (sqA x)[31 + j]? = some v := by
 rw [sqA, List.getElem?_toArray, show 31 + j = (29 + j) + 2 by omega]
 show (cfL x.a ++ cfL x.b)[29 + j]? = some v
 rw [List.getElem?_append_right (by rw [cfL_len]; omega), cfL_len, show 29 + j - 29 = j by omega]
 exact h
section
variable {ops : Array Oper} {rest : List Oper} {o : Oper} {a : Act} {w : World} {Q : Exit → Act → World → Prop}
theorem loadA (hgd : o.guard = none) (x : Operand) (ho : o.op = .load 28 x) (g : Nat) (q : Sq) (hx : a.eval x = .pointer (some ⟨g, 2, none⟩)) (hg : BoxV 53 w g (sqA q))
  (h : wpList Tryz.prog ops Q rest (a.put o.dst (.agg (cfA q.a))) w) : wpList Tryz.prog ops Q (o :: rest) a w :=
 wpList_load_mid hgd 28 x ho g 2 hx (cfL q.a) _ (fun _ _ hv => hg.get _ (sq_a q hv)) Tryz.underlying28 rfl sizeCf h
theorem loadB (hgd : o.guard = none) (x : Operand) (ho : o.op = .load 28 x) (g : Nat) (q : Sq) (hx : a.eval x = .pointer (some ⟨g, 31, none⟩)) (hg : BoxV 53 w g (sqA q))
  (h : wpList Tryz.prog ops Q rest (a.put o.dst (.agg (cfA q.b))) w) : wpList Tryz.prog ops Q (o :: rest) a w :=
 wpList_load_mid hgd 28 x ho g 31 hx (cfL q.b) _ (fun _ _ hv => hg.get _ (sq_b q hv)) Tryz.underlying28 rfl sizeCf h
end
theorem resC3 {fn : Func} {p q r : Tmp} {v u : Value} (h : fn.results = #[.cell p 28, .tmp q, .tmp r]) (tmps : Array Value) {w : World} {g : Nat} {c : Cf} (hp : tmps.getD p undef = .pointer (some ⟨g, 0, none⟩)) (hq : tmps.getD q undef = v) (hr : tmps.getD r undef = u) (hg : BoxV 28 w g (cfA c)) :
  (results fn tmps).run Tryz.prog w = .ok (.tuple #[.agg (cfA c), v, u]) w := by
 have hp' : tmps[p]?.getD undef = .pointer (some ⟨g, 0, none⟩) := by simpa using hp
 have hq' : tmps[q]?.getD undef = v := by simpa using hq
 have hr' : tmps[r]?.getD undef = u := by simpa using hr
 have hl := run_loadVar_row w g _ 28 _ _ _ hg Tryz.underlying28 rfl sizeCf
 simp [results, h, hp', hq', hr', asAddr, hl]
abbrev Rn := (Cf × Bool × Int) × List Pl
def runB (rec : List Pl → Cf → Nat → Rn) (c : Cf) (f : Nat) (A : Ans) : Rn :=
 if A.2.1 ≠ 0 then ((zCf, false, -1), A.2.2)
 else if A.1.k = 1 then ((c, true, (f : Int)), A.2.2)
 else if A.1.k = 0 then ((zCf, false, (f : Int)), A.2.2)
 else if A.1.k = 2 then rec A.2.2 A.1.a f
 else if (rec A.2.2 A.1.a f).1.2.2 < 0 then ((zCf, false, -1), (rec A.2.2 A.1.a f).2)
 else if A.1.k = 3 then
  (if (rec A.2.2 A.1.a f).1.2.1 = true then (((rec A.2.2 A.1.a f).1.1, true, (rec A.2.2 A.1.a f).1.2.2), (rec A.2.2 A.1.a f).2) else rec (rec A.2.2 A.1.a f).2 A.1.b (rec A.2.2 A.1.a f).1.2.2.toNat)
 else if (joinZ A.1.h A.1.b (rec A.2.2 A.1.a f).1.1 (rec A.2.2 A.1.a f).1.2.1).2 = true then
  rec (rec A.2.2 A.1.a f).2 (joinZ A.1.h A.1.b (rec A.2.2 A.1.a f).1.1 (rec A.2.2 A.1.a f).1.2.1).1 (rec A.2.2 A.1.a f).1.2.2.toNat
 else ((zCf, false, (rec A.2.2 A.1.a f).1.2.2), (rec A.2.2 A.1.a f).2)
def runF (C : Mx) : Nat → List Pl → Cf → Nat → Rn
 | 0, M, _, _ => ((zCf, false, -1), M)
 | _ + 1, M, _, 0 => ((zCf, false, -1), M)
 | g + 1, M, c, f + 1 => runB (runF C g) c f (nextZ C M c)
theorem runF_succ (C : Mx) (g : Nat) (M : List Pl) (c : Cf) (f : Nat) : runF C (g + 1) M c (f + 1) = runB (runF C g) c f (nextZ C M c) := rfl
structure RunOk (C : Mx) (M : List Pl) (f : Nat) (r : Rn) : Prop where
 frs : FrsOk C r.2
 wf : Wf r.2
 len : r.2.length ≤ M.length + 2 * f
 left : 0 ≤ r.1.2.2 → r.1.2.2 ≤ f ∧ (r.2.length : Int) + 2 * r.1.2.2 ≤ M.length + 2 * f
theorem run_ok {C : Mx} (hT : TOk C) : ∀ (g : Nat) (M : List Pl) (c : Cf) (f : Nat), Wf M → FrsOk C M → M.length + 2 * f ≤ 900000 → RunOk C M f (runF C g M c f)
 | 0, M, _, f, hW, hF, _ => ⟨hF, hW, by show M.length ≤ _; omega, fun h => absurd h (by show ¬ (0 : Int) ≤ -1; omega)⟩
 | _ + 1, M, _, 0, hW, hF, _ => ⟨hF, hW, by show M.length ≤ _; omega, fun h => absurd h (by show ¬ (0 : Int) ≤ -1; omega)⟩
 | g + 1, M, c, f + 1, hW, hF, hl => by
   have k := next_keeps hT hW hF (by omega) c
   have hle := k.len
   have h1 := run_ok hT g (nextZ C M c).2.2 (nextZ C M c).1.a f k.wf k.frs (by omega)
   have l1 := h1.len
   have f1 := h1.left
   rw [runF_succ]
   unfold runB
   split
   ·exact ⟨k.frs, k.wf, by show (nextZ C M c).2.2.length ≤ _; omega, fun h => absurd h (by show ¬ (0 : Int) ≤ -1; omega)⟩
   ·split
    ·exact ⟨k.frs, k.wf, by show (nextZ C M c).2.2.length ≤ _; omega, fun _ => by show (f : Int) ≤ _ ∧ ((nextZ C M c).2.2.length : Int) + 2 * (f : Int) ≤ _; omega⟩
    ·split
     ·exact ⟨k.frs, k.wf, by show (nextZ C M c).2.2.length ≤ _; omega, fun _ => by show (f : Int) ≤ _ ∧ ((nextZ C M c).2.2.length : Int) + 2 * (f : Int) ≤ _; omega⟩
     ·split
      ·exact ⟨h1.frs, h1.wf, by omega, fun h => by have := f1 h; omega⟩
      ·generalize runF C g (nextZ C M c).2.2 (nextZ C M c).1.a f = r at h1 l1 f1 ⊢
       split
       ·exact ⟨h1.frs, h1.wf, by show r.2.length ≤ _; omega, fun h => absurd h (by show ¬ (0 : Int) ≤ -1; omega)⟩
       ·rename_i hneg
        have f2 := f1 (by omega)
        have more : ∀ c2, RunOk C M (f + 1) (runF C g r.2 c2 r.1.2.2.toNat) := fun c2 => by
         have h2 := run_ok hT g r.2 c2 r.1.2.2.toNat h1.wf h1.frs (by omega)
         have l2 := h2.len
         exact ⟨h2.frs, h2.wf, by omega, fun h => by have := h2.left h; omega⟩
        have keep : ∀ (c2 : Cf) (i : Bool), RunOk C M (f + 1) ((c2, i, r.1.2.2), r.2) := fun c2 i => ⟨h1.frs, h1.wf, by show r.2.length ≤ _; omega, fun _ => by show r.1.2.2 ≤ _ ∧ (r.2.length : Int) + 2 * r.1.2.2 ≤ _; omega⟩
        split
        ·split
         ·exact keep _ _
         ·exact more _
        ·split
         ·exact more _
         ·exact keep _ _
def RunRes (w : World) (H : Wh) (C : Mx) (b m : Nat) (r : Rn) (e : Ending) (w' : World) : Prop := e = .returned (.tuple #[.agg (cfA r.1.1), .bool r.1.2.1, .int .i64 r.1.2.2]) ∧ Goes w H C b m r.2 w'
structure RunI (w : World) (H : Wh) (C : Mx) (b m : Nat) (M : List Pl) (c0 : Cf) (f0 g0 rb : Nat) (f : Nat) (wr : World) : Prop where
 st : ∃ (c : Cf) (M1 : List Pl) (g : Nat), BoxV 28 wr w.heap.size (cfA c) ∧ Goes w H C b m M1 wr ∧ FrsOk C M1 ∧ Wf M1 ∧ M1.length + 2 * f ≤ M.length + 2 * f0 ∧ f ≤ g ∧ runF C g0 M c0 f0 = runF C g M1 c f
 res : BoxV 28 wr rb (cfA zCf)
set_option maxRecDepth 100000 in
set_option maxHeartbeats 8000000 in
theorem run_any (hLib : Cap.LibA) (H : Wh) (C : Mx) (hT : TOk C) (hwd : ∀ j, j < C.n → (C.l j).k = 1 → WdsN (C.l j)) : ∀ (N f0 : Nat), f0 ≤ N → ∀ (g0 : Nat) (b m : Nat) (M : List Pl) (c0 : Cf) (w : World), f0 ≤ g0 → Mch w H C b m none M → FrsOk C M → M.length + 2 * f0 ≤ 800000 →
  Calls Tryz.prog 18 #[ptr H.p, .agg (cfA c0), .int .i64 (f0 : Int)] w (RunRes w H C b m (runF C g0 M c0 f0)) := by
 intro N
 induction N using Nat.strongRecOn with
 | _ N ih =>
 intro f0 hf0 g0 b m M c0 w hg0 hM hF hl
 have IH := Lib.hid ih
 have HM := Lib.hid hM
 have LO := Lib.hid hM.low
 have HA := Lib.hid (And.intro hf0 (And.intro hg0 (And.intro hF hl)))
 have HT := Lib.hid (And.intro hT (And.intro hwd hLib))
 have f1 : (f0 : Int) ≤ 400000 := by omega
 clear ih hM hF hl hg0 hf0 hT hwd hLib
 go_enter Tryz.func18, Tryz.ntmps18
 go_wp2_with (refine boxCf _ rfl c0 rfl (by rfl) ?_)
 intro u1 X1
 go_wp2_with (refine allocCf rfl (by rfl) ?_)
 intro u2 X2
 have ST := Lib.hid (show RunI w H C b m M c0 f0 g0 u1.heap.size f0 u2 from ⟨⟨c0, M, g0, X1.out.box.below X2.out.low (by have := X1.out.size; omega), (Goes.refl HM.out).next (X1.out.low.trans (X2.out.low.mono (by have := X1.out.size; omega))), HA.out.2.2.1, HM.out.ms.wf, Nat.le_refl _, HA.out.2.1, rfl⟩, X2.out.box⟩)
 have RS := Lib.hid X1.out.size
 clear X1 X2
 go_wp2_with fail
 go_loopw [2] (fun x wr => ∃ f : Nat, x = .int .i64 (f : Int) ∧ f ≤ f0 ∧ RowKit.Hid (RunI w H C b m M c0 f0 g0 u1.heap.size f wr)) (fun x _ => (intOf x).toNat)
 case atStart => exact ⟨f0, rfl, Nat.le_refl _, ST⟩
 case round =>
  obtain ⟨f, rfl, hff, HI⟩ := hrel
  clear ST
  obtain ⟨c, M1, g, hbc, hgo, hfr, hwf, hlen, hfg, heq⟩ := HI.out.st
  have HB := Lib.hid hbc
  have HR := Lib.hid HI.out.res
  have HG := Lib.hid hgo
  have HFR := Lib.hid hfr
  have HWF := Lib.hid hwf
  have HLN := Lib.hid (show M1.length + 2 * f ≤ 800000 by have := HA.out.2.2.2; omega)
  have HLE := Lib.hid hlen
  have HFG := Lib.hid hfg
  have HEQ := Lib.hid heq
  have HFF := Lib.hid hff
  clear hbc hgo hfr hwf hlen hfg heq hff HI
  rcases Nat.eq_zero_or_pos f with rfl | hf
  ·have EZ := Lib.hid (show runF C g0 M c0 f0 = ((zCf, false, -1), M1) by rw [HEQ.out]; cases g <;> rfl)
   go_wp2_with (first | refine lineW _ _ (by rfl) (bCf0 rfl) ?_ | refine putCf rfl _ _ rfl u1.heap.size zCf (cfA zCf) rfl rfl (cfA_size _) HR.out ?_)
   intro u3 X3
   go_wp2_with fail
   refine bodyPost_ret (resC3 rfl _ (g := u1.heap.size) rfl rfl rfl X3.out.box) rfl ⟨?_, ?_⟩
   ·rw [EZ.out]; rfl
   ·rw [EZ.out]
    exact HG.out.put LO.out.1 LO.out.2.2.2.1 LO.out.2.2.2.2 (by have := RS.out; omega) X3.out (fun b' m' _ hm => hm.not_box HR.out (by decide))
  ·obtain ⟨f, rfl⟩ : ∃ k, f = k + 1 := ⟨f - 1, by omega⟩
   obtain ⟨g, rfl⟩ : ∃ k, g = k + 1 := ⟨g - 1, by have := HFG.out; omega⟩
   obtain ⟨b1, m1, hm1, hgr, hbs⟩ := HG.out
   have HM1 := Lib.hid hm1
   have HGB := Lib.hid (And.intro hgr hbs)
   have fp : (0 : Int) < (f : Int) + 1 := by omega
   have fb : (f : Int) ≤ 400000 := by have := HFF.out; omega
   have FK := Lib.hid (show f + 1 ≤ f0 from HFF.out)
   rw [show ((f + 1 : Nat) : Int) = (f : Int) + 1 from rfl]
   have hbc := HB.out
   have KE := Lib.hid (next_keeps HT.out.1 HWF.out HFR.out (by have := HLN.out; omega) c)
   clear hm1 hgr hbs hf
   go_wp2_with (refine loadCf rfl _ rfl w.heap.size c rfl hbc ?_)
   refine (next_any HT.out.2.2 H C b1 m1 M1 c wr HM1.out HT.out.1 HT.out.2.1 HFR.out (by have := HLN.out; omega)).mono ?_
   rintro e u3 ⟨rfl, hG⟩
   obtain ⟨A, hA⟩ : ∃ A, nextZ C M1 c = A := ⟨_, rfl⟩
   rw [hA] at hG KE ⊢
   have AE := Lib.hid hA
   have B3 := Lib.hid (hG.box HB.out (HM1.out.not_p HB.out (by decide)) (HM1.out.not_box HB.out (by decide)).1 (HM1.out.not_box HB.out (by decide)).2)
   have R3 := Lib.hid (hG.box HR.out (HM1.out.not_p HR.out (by decide)) (HM1.out.not_box HR.out (by decide)).1 (HM1.out.not_box HR.out (by decide)).2)
   have G3 := Lib.hid (show Goes w H C b m A.2.2 u3 from by
    obtain ⟨b2, m2, k1, k2, k3⟩ := hG
    exact ⟨b2, m2, k1, HGB.out.1.trans k2 HGB.out.2.size, HGB.out.2.two HGB.out.1 k3⟩)
   have W3 := Lib.hid (show w.heap.size ≤ u3.heap.size by have := hG.size; have := HGB.out.2.size; omega)
   clear hA hG hbc HB HR HG HM1 HGB
   obtain ⟨q, er, M2⟩ := A
   go_wp2_with (refine allocSq rfl (by rfl) ?_)
   intro u4 X4
   go_wp2_with (refine putSq rfl _ _ rfl u3.heap.size q (sqA failQ) rfl rfl (sqA_size _) X4.out.box ?_)
   intro u5 X5
   have B5 := Lib.hid (show BoxV 28 u5 w.heap.size (cfA c) from (X5.out.other _ (Nat.ne_of_lt B3.out.lt)).trans (B3.out.below X4.out.low B3.out.lt))
   have R5 := Lib.hid (show BoxV 28 u5 u1.heap.size (cfA zCf) from (X5.out.other _ (Nat.ne_of_lt R3.out.lt)).trans (R3.out.below X4.out.low R3.out.lt))
   have Q5 := Lib.hid X5.out.box
   have G5 := Lib.hid ((G3.out.next X4.out.low).put LO.out.1 LO.out.2.2.2.1 LO.out.2.2.2.2 W3.out X5.out (fun b' m' _ hm => hm.not_box X4.out.box (by decide)))
   have NE := Lib.hid (show w.heap.size ≠ u1.heap.size ∧ w.heap.size ≠ u3.heap.size ∧ u1.heap.size ≠ u3.heap.size by have := RS.out; have := B3.out.lt; have := R3.out.lt; omega)
   have GP := Lib.hid (fun (u v : World) (M' : List Pl) (gg : Nat) (cs cs0 : Array Value) (hg : Goes w H C b m M' u) (hle : w.heap.size ≤ gg) (hb : BoxV 28 u gg cs0) (k : Put 28 gg cs u v) => hg.put LO.out.1 LO.out.2.2.2.1 LO.out.2.2.2.2 hle k (fun b' m' _ hm => hm.not_box hb (by decide)))
   have hq0 := Q5.out.get 0 (sq_get0 q)
   clear B3 R3 X4 X5 G3
   by_cases her : er = 0
   ·subst her
    by_cases k1 : q.k = 1
    ·have EZ := Lib.hid (show runF C g0 M c0 f0 = ((c, true, (f : Int)), M2) by rw [HEQ.out, runF_succ, AE.out]; unfold runB; rw [if_neg (by simp), if_pos k1])
     have hb5 := B5.out
     rw [k1] at hq0
     clear k1
     go_wp2_with (first | refine loadCf rfl _ rfl w.heap.size c rfl hb5 ?_ | refine putCf rfl _ _ rfl u1.heap.size c (cfA zCf) rfl rfl (cfA_size _) R5.out ?_)
     intro u6 X6
     go_wp2_with fail
     refine bodyPost_ret (resC3 rfl _ (g := u1.heap.size) rfl rfl rfl X6.out.box) rfl ⟨?_, ?_⟩
     ·rw [EZ.out]; rfl
     ·rw [EZ.out]
      exact GP.out _ _ _ _ _ _ G5.out (by have := RS.out; omega) R5.out X6.out
    ·have q1 : (q.k == 1) = false := by simpa using k1
     by_cases k0 : q.k = 0
     ·have EZ := Lib.hid (show runF C g0 M c0 f0 = ((zCf, false, (f : Int)), M2) by rw [HEQ.out, runF_succ, AE.out]; unfold runB; rw [if_neg (by simp), if_neg k1, if_pos k0])
      rw [k0] at hq0
      clear k1 k0 q1
      go_wp2_with (first | refine lineW _ _ (by rfl) (bCf0 rfl) ?_ | refine putCf rfl _ _ rfl u1.heap.size zCf (cfA zCf) rfl rfl (cfA_size _) R5.out ?_)
      intro u6 X6
      go_wp2_with fail
      refine bodyPost_ret (resC3 rfl _ (g := u1.heap.size) rfl rfl rfl X6.out.box) rfl ⟨?_, ?_⟩
      ·rw [EZ.out]; rfl
      ·rw [EZ.out]
       exact GP.out _ _ _ _ _ _ G5.out (by have := RS.out; omega) R5.out X6.out
     ·have q0 : (q.k == 0) = false := by simpa using k0
      by_cases k2 : q.k = 2
      ·have EZ := Lib.hid (show runF C g0 M c0 f0 = runF C g M2 q.a f by rw [HEQ.out, runF_succ, AE.out]; unfold runB; rw [if_neg (by simp), if_neg k1, if_neg k0, if_pos k2])
       rw [k2] at hq0
       clear k1 k0 q1 q0 k2
       have hb5 := Q5.out
       go_wp2_with (first | refine loadA rfl _ rfl u3.heap.size q rfl hb5 ?_ | refine putCf rfl _ _ rfl w.heap.size q.a (cfA c) rfl rfl (cfA_size _) B5.out ?_)
       intro u6 X6
       clear hq0 hb5
       go_wp2_with fail
       go_roundw
       case rel =>
        have ke := KE.out
        refine ⟨f, rfl, by have := FK.out; omega, Lib.hid ⟨⟨q.a, M2, g, X6.out.box, GP.out _ _ _ _ _ _ G5.out (Nat.le_refl _) B5.out X6.out, ke.frs, ke.wf, ?_, by have := HFG.out; omega, EZ.out⟩, (X6.out.other _ (fun e => NE.out.1 e.symm)).trans R5.out⟩⟩
        have h1 : M2.length ≤ M1.length + 2 := ke.len
        have := HLE.out; omega
       case measure => simp [intOf]
      ·have q2 : (q.k == 2) = false := by simpa using k2
       have ke := KE.out
       have h1 : M2.length ≤ M1.length + 2 := ke.len
       have HML := Lib.hid (show M2.length + 2 * f ≤ 800000 by have := HLN.out; omega)
       have HMF := Lib.hid (show FrsOk C M2 ∧ Wf M2 from ⟨ke.frs, ke.wf⟩)
       have HM2 := Lib.hid h1
       have EN := Lib.hid (show runF C g0 M c0 f0 = if (runF C g M2 q.a f).1.2.2 < 0 then ((zCf, false, -1), (runF C g M2 q.a f).2)
         else if q.k = 3 then (if (runF C g M2 q.a f).1.2.1 = true then (((runF C g M2 q.a f).1.1, true, (runF C g M2 q.a f).1.2.2), (runF C g M2 q.a f).2) else runF C g (runF C g M2 q.a f).2 q.b (runF C g M2 q.a f).1.2.2.toNat)
         else if (joinZ q.h q.b (runF C g M2 q.a f).1.1 (runF C g M2 q.a f).1.2.1).2 = true then runF C g (runF C g M2 q.a f).2 (joinZ q.h q.b (runF C g M2 q.a f).1.1 (runF C g M2 q.a f).1.2.1).1 (runF C g M2 q.a f).1.2.2.toNat
         else ((zCf, false, (runF C g M2 q.a f).1.2.2), (runF C g M2 q.a f).2) by
        rw [HEQ.out, runF_succ, AE.out]; unfold runB; rw [if_neg (by simp), if_neg k1, if_neg k0, if_neg k2])
       have OK := Lib.hid (run_ok HT.out.1 g M2 q.a f ke.wf ke.frs (by have := HML.out; omega))
       obtain ⟨b2, m2, hm2, hg2, hbs2⟩ := G5.out
       have HM5 := Lib.hid hm2
       have HG5 := Lib.hid (And.intro hg2 hbs2)
       have hb5 := Q5.out
       clear ke h1 k1 k0 k2 hm2 hg2 hbs2 KE AE HEQ
       go_wp2_with (refine loadA rfl _ rfl u3.heap.size q rfl hb5 ?_)
       refine (IH.out f (by have := FK.out; have := HA.out.1; omega) f (Nat.le_refl _) g b2 m2 M2 q.a u5 (by have := HFG.out; omega) HM5.out HMF.out.1 HML.out).mono ?_
       rintro e u6 ⟨rfl, hG⟩
       obtain ⟨r, hr⟩ : ∃ r, runF C g M2 q.a f = r := ⟨_, rfl⟩
       rw [hr] at hG OK EN ⊢
       have B6 := Lib.hid (hG.box B5.out (HM5.out.not_p B5.out (by decide)) (HM5.out.not_box B5.out (by decide)).1 (HM5.out.not_box B5.out (by decide)).2)
       have R6 := Lib.hid (hG.box R5.out (HM5.out.not_p R5.out (by decide)) (HM5.out.not_box R5.out (by decide)).1 (HM5.out.not_box R5.out (by decide)).2)
       have Q6 := Lib.hid (hG.box Q5.out (HM5.out.not_p Q5.out (by decide)) (HM5.out.not_box Q5.out (by decide)).1 (HM5.out.not_box Q5.out (by decide)).2)
       have G6 := Lib.hid (show Goes w H C b m r.2 u6 from by
        obtain ⟨b3, m3, k1, k2, k3⟩ := hG
        exact ⟨b3, m3, k1, HG5.out.1.trans k2 HG5.out.2.size, HG5.out.2.two HG5.out.1 k3⟩)
       have W6 := Lib.hid (show w.heap.size ≤ u6.heap.size from G6.out.size)
       clear hr hG hb5 hq0 B5 R5 Q5 G5 HM5 HG5
       obtain ⟨⟨x, is, left⟩, M3⟩ := r
       go_wp2_with (refine allocCf rfl (by rfl) ?_)
       intro u7 X7
       go_wp2_with (refine putCf rfl _ _ rfl u6.heap.size x (cfA zCf) rfl rfl (cfA_size _) X7.out.box ?_)
       intro u8 X8
       have B8 := Lib.hid (show BoxV 28 u8 w.heap.size (cfA c) from (X8.out.other _ (Nat.ne_of_lt B6.out.lt)).trans (B6.out.below X7.out.low B6.out.lt))
       have R8 := Lib.hid (show BoxV 28 u8 u1.heap.size (cfA zCf) from (X8.out.other _ (Nat.ne_of_lt R6.out.lt)).trans (R6.out.below X7.out.low R6.out.lt))
       have Q8 := Lib.hid (show BoxV 53 u8 u3.heap.size (sqA q) from (X8.out.other _ (Nat.ne_of_lt Q6.out.lt)).trans (Q6.out.below X7.out.low Q6.out.lt))
       have Y8 := Lib.hid X8.out.box
       have G8 := Lib.hid (GP.out _ _ _ _ _ _ (G6.out.next X7.out.low) W6.out X7.out.box X8.out)
       clear B6 R6 Q6 G6 X7 X8
       by_cases hneg : left < 0
       ·have EZ := Lib.hid (EN.out.trans (if_pos hneg))
        clear EN
        go_wp2_with (first | refine lineW _ _ (by rfl) (bCf0 rfl) ?_ | refine putCf rfl _ _ rfl u1.heap.size zCf (cfA zCf) rfl rfl (cfA_size _) R8.out ?_)
        intro u9 X9
        go_wp2_with fail
        refine bodyPost_ret (resC3 rfl _ (g := u1.heap.size) rfl rfl rfl X9.out.box) rfl ⟨?_, ?_⟩
        ·rw [EZ.out]; rfl
        ·rw [EZ.out]
         exact GP.out _ _ _ _ _ _ G8.out (by have := RS.out; omega) R8.out X9.out
       ·have EN2 := Lib.hid (EN.out.trans (if_neg hneg))
        obtain ⟨z, rfl⟩ : ∃ z : Nat, left = (z : Int) := ⟨left.toNat, by omega⟩
        have hle := OK.out.left (by show (0 : Int) ≤ (z : Int); omega)
        have HZ := Lib.hid (show z ≤ f ∧ M3.length + 2 * z ≤ M2.length + 2 * f by have h2 : (z : Int) ≤ f ∧ (M3.length : Int) + 2 * (z : Int) ≤ M2.length + 2 * f := hle; omega)
        have zb : (z : Int) ≤ 400000 := by have h2 : (z : Int) ≤ f := hle.1; omega
        have hq0 := Q8.out.get 0 (sq_get0 q)
        clear EN hneg hle
        have NEXT := Lib.hid (fun (u : World) (c2 : Cf) (M' : List Pl) (hM' : M' = M3) (hb : BoxV 28 u w.heap.size (cfA c2)) (hg : Goes w H C b m M' u) (hr : BoxV 28 u u1.heap.size (cfA zCf)) (he : runF C g0 M c0 f0 = runF C g M' c2 z) =>
         (show RunI w H C b m M c0 f0 g0 u1.heap.size z u from ⟨⟨c2, M', g, hb, hg, hM' ▸ OK.out.frs, hM' ▸ OK.out.wf, by rw [hM']; have := HZ.out; have := HLE.out; have := HM2.out; omega, by have := HFG.out; have := HZ.out; omega, he⟩, hr⟩))
        by_cases k3 : q.k = 3
        ·have EN3 := Lib.hid (EN2.out.trans (if_pos k3))
         rw [k3] at hq0
         clear EN2 k3
         cases is with
         | true =>
           have EZ := Lib.hid (EN3.out.trans (if_pos rfl))
           have hy := Y8.out
           clear EN3
           go_wp2_with (first | refine loadCf rfl _ rfl u6.heap.size x rfl hy ?_ | refine putCf rfl _ _ rfl u1.heap.size x (cfA zCf) rfl rfl (cfA_size _) R8.out ?_)
           intro u9 X9
           go_wp2_with fail
           refine bodyPost_ret (resC3 rfl _ (g := u1.heap.size) rfl rfl rfl X9.out.box) rfl ⟨?_, ?_⟩
           ·rw [EZ.out]; rfl
           ·rw [EZ.out]
            exact GP.out _ _ _ _ _ _ G8.out (by have := RS.out; omega) R8.out X9.out
         | false =>
           have EZ := Lib.hid (EN3.out.trans (if_neg (by simp)))
           have hq := Q8.out
           clear EN3
           go_wp2_with (first | refine loadB rfl _ rfl u3.heap.size q rfl hq ?_ | refine putCf rfl _ _ rfl w.heap.size q.b (cfA c) rfl rfl (cfA_size _) B8.out ?_)
           intro u9 X9
           clear hq hq0
           go_wp2_with fail
           go_roundw
           case rel => exact ⟨z, rfl, by have := FK.out; have := HZ.out; omega, Lib.hid (NEXT.out u9 q.b M3 rfl X9.out.box (GP.out _ _ _ _ _ _ G8.out (Nat.le_refl _) B8.out X9.out) ((X9.out.other _ (fun e => NE.out.1 e.symm)).trans R8.out) EZ.out)⟩
           case measure => have := HZ.out; simp [intOf]; omega
        ·have q3 : (q.k == 3) = false := by simpa using k3
         have EN3 := Lib.hid (EN2.out.trans (if_neg k3))
         have hq1 := Q8.out.get 1 (sq_get1 q)
         have hq := Q8.out
         have hy := Y8.out
         clear EN2 k3
         go_wp2_with (first | refine loadB rfl _ rfl u3.heap.size q rfl hq ?_ | refine loadCf rfl _ rfl u6.heap.size x rfl hy ?_)
         refine (join_any q.h q.b x is _).mono ?_
         rintro e u9 ⟨rfl, hB⟩
         have B9 := Lib.hid (B8.out.below hB B8.out.lt)
         have R9 := Lib.hid (R8.out.below hB R8.out.lt)
         have G9 := Lib.hid (G8.out.next hB)
         have W9 := Lib.hid (show w.heap.size ≤ u9.heap.size from G9.out.size)
         clear hB hq hy hq1 hq0 q3 B8 R8 Q8 Y8 G8
         obtain ⟨j, hj⟩ : ∃ j, joinZ q.h q.b x is = j := ⟨_, rfl⟩
         have EN4 := Lib.hid (show runF C g0 M c0 f0 = if j.2 = true then runF C g M3 j.1 z else ((zCf, false, (z : Int)), M3) by rw [← hj]; exact EN3.out)
         rw [hj]
         clear hj EN3
         obtain ⟨y, goes⟩ := j
         go_wp2_with (refine allocCf rfl (by rfl) ?_)
         intro u10 X10
         go_wp2_with (refine putCf rfl _ _ rfl u9.heap.size y (cfA zCf) rfl rfl (cfA_size _) X10.out.box ?_)
         intro u11 X11
         have B11 := Lib.hid (show BoxV 28 u11 w.heap.size (cfA c) from (X11.out.other _ (Nat.ne_of_lt B9.out.lt)).trans (B9.out.below X10.out.low B9.out.lt))
         have R11 := Lib.hid (show BoxV 28 u11 u1.heap.size (cfA zCf) from (X11.out.other _ (Nat.ne_of_lt R9.out.lt)).trans (R9.out.below X10.out.low R9.out.lt))
         have Y11 := Lib.hid X11.out.box
         have G11 := Lib.hid (GP.out _ _ _ _ _ _ (G9.out.next X10.out.low) W9.out X10.out.box X11.out)
         clear B9 R9 G9 X10 X11
         cases goes with
         | true =>
           have EZ := Lib.hid (EN4.out.trans (if_pos rfl))
           have hy := Y11.out
           clear EN4
           go_wp2_with (first | refine loadCf rfl _ rfl u9.heap.size y rfl hy ?_ | refine putCf rfl _ _ rfl w.heap.size y (cfA c) rfl rfl (cfA_size _) B11.out ?_)
           intro u12 X12
           clear hy
           go_wp2_with fail
           go_roundw
           case rel => exact ⟨z, rfl, by have := FK.out; have := HZ.out; omega, Lib.hid (NEXT.out u12 y M3 rfl X12.out.box (GP.out _ _ _ _ _ _ G11.out (Nat.le_refl _) B11.out X12.out) ((X12.out.other _ (fun e => NE.out.1 e.symm)).trans R11.out) EZ.out)⟩
           case measure => have := HZ.out; simp [intOf]; omega
         | false =>
           have EZ := Lib.hid (EN4.out.trans (if_neg (by simp)))
           clear EN4
           go_wp2_with (first | refine lineW _ _ (by rfl) (bCf0 rfl) ?_ | refine putCf rfl _ _ rfl u1.heap.size zCf (cfA zCf) rfl rfl (cfA_size _) R11.out ?_)
           intro u12 X12
           go_wp2_with fail
           refine bodyPost_ret (resC3 rfl _ (g := u1.heap.size) rfl rfl rfl X12.out.box) rfl ⟨?_, ?_⟩
           ·rw [EZ.out]; rfl
           ·rw [EZ.out]
            exact GP.out _ _ _ _ _ _ G11.out (by have := RS.out; omega) R11.out X12.out
   ·have her1 : (er != 0) = true := by simpa using her
    have her2 : (er == 0) = false := by simpa using her
    have EZ := Lib.hid (show runF C g0 M c0 f0 = ((zCf, false, -1), M2) by rw [HEQ.out, runF_succ, AE.out]; unfold runB; rw [if_pos her])
    clear her
    go_wp2_with (first | refine lineW _ _ (by rfl) (bCf0 rfl) ?_ | refine putCf rfl _ _ rfl u1.heap.size zCf (cfA zCf) rfl rfl (cfA_size _) R5.out ?_)
    intro u6 X6
    go_wp2_with fail
    refine bodyPost_ret (resC3 rfl _ (g := u1.heap.size) rfl rfl rfl X6.out.box) rfl ⟨?_, ?_⟩
    ·rw [EZ.out]; rfl
    ·rw [EZ.out]
     exact GP.out _ _ _ _ _ _ G5.out (by have := RS.out; omega) R5.out X6.out
end Go.Proofs.YteggpecbeagohaaGreatDoor.Stp
namespace Go.Proofs.YteggpecbeagohaaGreatDoor.Stp
open Go.RowKit
open Ast (Nd At12 NodesAt Nodes kidsZ siz siz_pos siz_le len TreeBox thenB lenV lenZ Box12)
open Cap (Cp cpC)
def backN (l : Nat → Nd) (n i : Nat) : Nat := if i + 1 < n ∧ ((l (i + 1)).k = 15 ∨ (l (i + 1)).k = 16) then (len l (i + 1)).1.toNat else 0
theorem siz_ne {l : Nat → Nd} {j : Nat} (h : siz l j ≠ 0) : j ≠ 0 := fun e => h (by rw [e]; rfl)
def bkV (l : Nat → Nd) (k i : Nat) : Value := .int .i64 (backN l k i : Int)
theorem bk_next {l : Nat → Nd} {k n : Nat} {F : Nat → Value} (hF : ∀ i, i + 1 ≠ k → F i = bkV l k i) (h0 : ∀ i, i + 1 = k → F i = bkV l (k + 1) i) : ∀ i, i < n → F i = bkV l (k + 1) i := by
 intro i _
 by_cases e : i + 1 = k
 ·exact h0 i e
 ·rw [hF i e]
  unfold bkV backN
  by_cases h : i + 1 < k
  ·by_cases h2 : (l (i + 1)).k = 15 ∨ (l (i + 1)).k = 16
   ·rw [if_pos ⟨h, h2⟩, if_pos ⟨by omega, h2⟩]
   ·rw [if_neg (fun e => h2 e.2), if_neg (fun e => h2 e.2)]
  ·rw [if_neg (fun e => h e.1), if_neg (fun e => by omega)]
theorem bk_none {l : Nat → Nd} {k n : Nat} (h : ¬ ((l k).k = 15 ∨ (l k).k = 16)) : ∀ i, i < n → bkV l k i = bkV l (k + 1) i := by
 refine bk_next (fun _ _ => rfl) ?_
 intro i e
 unfold bkV backN
 rw [if_neg (fun h => by omega), if_neg (fun h2 => by rw [e] at h2; exact h h2.2)]
theorem bk_some {l : Nat → Nd} {k q : Nat} (hq : q + 1 = k) (h : (l k).k = 15 ∨ (l k).k = 16) (h0 : 0 ≤ (len l k).1) : bkV l (k + 1) q = .int .i64 (len l k).1 := by
 unfold bkV backN
 rw [hq, if_pos ⟨by omega, h⟩]
 congr 1
 omega
theorem infoI : (Tryz.prog.info? 3).map (fun i => (i.zero, i.size, i.bytes)) = some (some (.int .i64 0), 1, 8) := by kernel_rfl
theorem make_ints (n : Nat) (hn : n ≤ 1000000) (w : World) : (Instr.makeSlice 77 (.int .i64 (n : Int)) (.int .i64 (n : Int))).run Tryz.prog w = .ok (.slice (some ⟨w.heap.size, 0, none⟩) n n) (w.alloc (.cells (madeCells #[.int .i64 0] n) 3)) := by
 obtain ⟨i, hi, hz, hs, hb⟩ := info_parts infoI
 have hr := run_make (P := Tryz.prog) w 77 3 i _ Tryz.underlying77 hi hz .i64 .i64 n n (by omega) (Int.le_refl _) (by rw [hb]; omega) (by omega)
 simp only [Int.toNat_natCast, hs, Nat.mul_one] at hr
 exact hr
theorem ints_made (w : World) (n : Nat) (l : Nat → Nd) : (w.alloc (.cells (madeCells #[.int .i64 0] n) 3)).rowIs w.heap.size 3 n (bkV l 0) := by
 refine ⟨_, Go.Deep.blk_alloc_new _ _, size_madeCells _ _, fun i hi => ?_⟩
 have e : bkV l 0 i = .int .i64 0 := by unfold bkV backN; rw [if_neg (fun h => by omega)]; rfl
 rw [e]
 simp [madeCells, hi, Nat.mod_one]
section
variable {ops : Array Oper} {R : World → Prop} {a : Act} {o : Oper} {x y : Operand} {w : World}
theorem ldTr_y (g : Nat) (v : Value) (hR : ∀ u, R u → u.cell? ⟨g, 0, none⟩ = some v) (ho : o.op = .load 43 x) (hx : a.eval x = .pointer (some ⟨g, 0, none⟩)) (hw : Region.wanted o (yielded ops a.tmps) = true) : YieldsIf Tryz.prog ops R o (.agg #[v]) a := by
 refine Or.inl ⟨hw, fun u h => ?_⟩
 have hc := hR u h
 unfold execOp
 simp only [ho, hx]
 go_simp
theorem stJ_run (g k : Nat) (v : Int) {o0 : Value} (h0 : w.cell? ⟨g, k, none⟩ = some o0) (f0 : w.frozen? ⟨g, k, none⟩ = false) (ho : o.op = .store 3 x y) (hx : a.eval x = .pointer (some ⟨g, k, none⟩)) (hy : a.eval y = .int .i64 v) :
  (execOp a.eval o).run Tryz.prog w = .ok .skip (w.setCell ⟨g, k, none⟩ (.int .i64 v)) := by
 unfold execOp
 simp only [ho, hx, hy]
 go_simp
end
theorem TreeBox.otherP {u : World} {g : Nat} {A : Option Addr} {n cap : Nat} (h : TreeBox u g A n cap) {k j : Nat} (hk : g ≠ k) (v : Value) : TreeBox (u.setCell ⟨k, j, none⟩ v) g A n cap := (heap_setCell_other _ ⟨k, j, none⟩ _ _ hk).trans h
def NrS (w : World) (g : Nat) (A : Option Addr) (n cap : Nat) (a : Int) (u : World) : Prop := u.cell? ⟨w.heap.size, 0, none⟩ = some (.slice A n cap) ∧ u.cell? ⟨g, 1, none⟩ = some (.int .i64 a)
set_option maxRecDepth 100000 in
set_option maxHeartbeats 1000000 in
theorem backs_any (A : Option Addr) (n cap : Nat) (l : Nat → Nd) (w : World) (hn : n ≤ 1000000) (hsz : siz l n = n) (hz : Ast.shapeZ l n = 0) (hl : Nodes w A n l) :
  Calls Tryz.prog 23 #[.agg #[.slice A n cap]] w fun e w' => ∃ kb, e = .returned (.slice (some ⟨kb, 0, none⟩) n n) ∧ Below w.heap.size w w' ∧ w.heap.size ≤ kb ∧ w'.rowIs kb 3 n (bkV l n) := by
 have HL := Lib.hid hl
 have HS := Lib.hid (And.intro hsz hz)
 clear hl hsz hz
 have hmk := make_ints n hn
 have h1 : (Tryz.prog).underlying 3 = (Tryz.prog).underlying 3 := rfl
 clear h1
 go_enter Tryz.func23, Tryz.ntmps23
 go_wp2_with fail
 clear hmk
 go_loopw [13] (fun i wr => ∃ k : Nat, k ≤ n ∧ i = .int .i64 k ∧ wr.rowIs (w.heap.size + 1) 3 n (bkV l k) ∧ Below w.heap.size w wr ∧ TreeBox wr w.heap.size A n cap) (fun i _ => n - (intOf i).toNat)
 case atStart =>
  refine ⟨0, Nat.zero_le _, rfl, ?_, by go_grown, ?_⟩
  ·have := ints_made (w.alloc (.cells #[.slice A n cap] 43)) n l
   rw [World.size_alloc] at this
   exact this
  ·exact (TreeBox.new w A n cap).call ((Below.refl _ _).alloc (Nat.le_refl _) _)
 case round =>
  obtain ⟨k, hk, rfl, hrow, hb, ht⟩ := hrel
  have HR := Lib.hid hrow
  have HB := Lib.hid hb
  have HT := Lib.hid ht
  have t0 := ht.cell
  have tl := ht.lt
  clear hrow hb ht
  by_cases hlt : k < n
  ·obtain ⟨b, o, rfl, hN⟩ := (HL.out.below HB.out (Nat.le_refl _)).at_ (by omega)
   obtain ⟨c0, c1, c2, c3, c4, c5, c6, c7, c8, c9, c10, c11⟩ := hN.2 k hlt
   have hbw := hN.1
   have hs1 := Ast.siz_of_whole HS.out.1 hlt
   obtain ⟨hf, hp⟩ := siz_pos hs1
   have lr : w.heap.size + 1 < wr.heap.size := HR.out.lt
   clear hN hs1
   obtain ⟨W, hW⟩ : ∃ W, W = wr.alloc (.cells #[.int .i64 (l k).k, .int .i64 (l k).a, .int .i64 (l k).b, .int .u64 (l k).s0, .int .u64 (l k).s1, .int .u64 (l k).s2, .int .u64 (l k).s3, .int .i64 (l k).mn, .int .i64 (l k).mx, .int .i64 (l k).md, .int .i64 (l k).n, .bool (l k).f] 76) := ⟨_, rfl⟩
   have RW := Lib.hid (show W.rowIs (w.heap.size + 1) 3 n (bkV l k) by rw [hW]; exact HR.out.alloc _)
   have XW := Lib.hid (show Box12 W 76 wr.heap.size (l k).k (l k).a (l k).b (l k).s0 (l k).s1 (l k).s2 (l k).s3 (l k).mn (l k).mx (l k).md (l k).n (l k).f by rw [hW]; exact Box12.new _ _ _ _ _ _ _ _ _ _ _ _ _ _)
   have BW := Lib.hid (show Below w.heap.size w W by rw [hW]; exact HB.out.alloc HB.out.size _)
   have TW := Lib.hid (show TreeBox W w.heap.size (some ⟨b, o, none⟩) n cap by rw [hW]; exact HT.out.call ((Below.refl _ _).alloc (Nat.le_refl _) _))
   have HW := Lib.hid hW
   clear hW
   by_cases hb : (l k).k = 15 ∨ (l k).k = 16
   ·have hk1 : kidsZ (l k).k = 1 := by rcases hb with e | e <;> (rw [e]; rfl)
    obtain ⟨h1, ha⟩ : siz l k ≠ 0 ∧ (l k).a = (k : Int) - 1 := by
     rcases hp with ⟨e, -⟩ | ⟨-, e1, e2, -⟩ | ⟨e, -⟩
     ·omega
     ·exact ⟨e1, e2⟩
     ·omega
    have k0 := siz_ne h1
    obtain ⟨q, hq⟩ : ∃ q, q = k - 1 := ⟨_, rfl⟩
    have hqk : q + 1 = k := by omega
    have hqn : q < n := by omega
    have HQ := Lib.hid (show (l k).a = (q : Int) by omega)
    have HBD := Lib.hid (show 0 ≤ (len l k).1 from (Ast.len_bd l k h1).1.1)
    have HLZ := Lib.hid (show lenZ l n q = ((len l k).1, (len l k).2, 0) by unfold lenZ; rw [if_neg (by rw [HS.out.2]; decide), if_neg (by omega), show (q : Int).toNat + 1 = k by omega])
    have HK := Lib.hid hb
    have HgW := Lib.hid (show wr.heap.size < W.heap.size by rw [HW.out]; simp)
    clear hp hf hk1 h1 ha hq
    rcases hb with hK | hK
    ·rw [hK, HQ.out] at XW HW
     rw [hK] at c0
     rw [HQ.out] at c1
     clear hK
     go_wp2_with fail
     rw [← HW.out]
     clear c0 c1 c2 c3 c4 c5 c6 c7 c8 c9 c10 c11 HW t0
     obtain ⟨c0, c1, c2, c3, c4, c5, c6, c7, c8, -⟩ := XW.out.cells
     go_wp2_with fail
     have hS : NrS w wr.heap.size (some ⟨b, o, none⟩) n cap (q : Int) W.drew := ⟨TW.out.cell, c1⟩
     refine wp_region_held_drew (S := NrS w wr.heap.size (some ⟨b, o, none⟩) n cap (q : Int)) (by kernel_rfl) hS (fun _ => ?_)
     refine takeAt 0 26 (.slice (some ⟨w.heap.size + 1, 0, none⟩) n n) rfl rfl (by kernel_rfl) (by kernel_rfl) (by kernel_rfl) i_ (yields (by rfl) (fun w => by kernel_rfl)) hS ?_
     simp only [Act.put, sA_, s0_, sS_]
     refine takeAt 1 27 (.pointer (some ⟨wr.heap.size, 1, none⟩)) rfl rfl (by kernel_rfl) (by kernel_rfl) (by kernel_rfl) i_ (yields (by rfl) (fun w => by kernel_rfl)) hS ?_
     simp only [Act.put, sA_, s0_, sS_]
     refine takeAt 2 28 (.int .i64 (q : Int)) rfl rfl (by kernel_rfl) (by kernel_rfl) (by kernel_rfl) i_ (ldI_y wr.heap.size 1 (q : Int) (fun u h => h.2) rfl rfl (by rfl)) hS ?_
     simp only [Act.put, sA_, s0_, sS_]
     refine takeAt 3 29 (.agg #[.slice (some ⟨b, o, none⟩) n cap]) rfl rfl (by kernel_rfl) (by kernel_rfl) (by kernel_rfl) i_ (ldTr_y w.heap.size (.slice (some ⟨b, o, none⟩) n cap) (fun u h => h.1) rfl rfl (by rfl)) hS ?_
     simp only [Act.put, sA_, s0_, sS_]
     refine takeAt 4 30 (.pointer (some ⟨wr.heap.size, 1, none⟩)) rfl rfl (by kernel_rfl) (by kernel_rfl) (by kernel_rfl) i_ (yields (by rfl) (fun w => by kernel_rfl)) hS ?_
     simp only [Act.put, sA_, s0_, sS_]
     refine takeAt 5 31 (.int .i64 (q : Int)) rfl rfl (by kernel_rfl) (by kernel_rfl) (by kernel_rfl) i_ (ldI_y wr.heap.size 1 (q : Int) (fun u h => h.2) rfl rfl (by rfl)) hS ?_
     simp only [Act.put, sA_, s0_, sS_]
     refine callAt 6 32 rfl rfl (by kernel_rfl) (by rfl) (by kernel_rfl) (Ast.lenZ_any (some ⟨b, o, none⟩) n cap l q W.drew hn (HL.out.below (show Below w.heap.size w W.drew from below_drewN BW.out 1) (Nat.le_refl _))) ?_
     rintro e w3 ⟨rfl, hbb⟩
     have hlenz := HLZ.out
     rw [hlenz]
     clear hlenz
     have hS : NrS w wr.heap.size (some ⟨b, o, none⟩) n cap (q : Int) w3 := ⟨(hbb.cell (p := ⟨w.heap.size, 0, none⟩) (show w.heap.size < W.heap.size from TW.out.lt)).trans hS.1, (hbb.cell (p := ⟨wr.heap.size, 1, none⟩) HgW.out).trans hS.2⟩
     refine ⟨_, rfl, hS, ?_⟩
     simp only [Act.put, sA_, s0_, sS_]
     refine takeAt 7 25 (.tuple #[.int .i64 (len l k).1, .int .i64 (len l k).2, .int .i64 0]) rfl rfl (by kernel_rfl) (by kernel_rfl) (by kernel_rfl) i_ (yields (by rfl) (fun w => by kernel_rfl)) hS ?_
     simp only [Act.put, sA_, s0_, sS_]
     refine takeAt 8 33 (.int .i64 (len l k).1) rfl rfl (by kernel_rfl) (by kernel_rfl) (by kernel_rfl) i_ (yields (by rfl) (fun w => by kernel_rfl)) hS ?_
     simp only [Act.put, sA_, s0_, sS_]
     refine takeAt 9 34 (.int .i64 (len l k).2) rfl rfl (by kernel_rfl) (by kernel_rfl) (by kernel_rfl) i_ (yields (by rfl) (fun w => by kernel_rfl)) hS ?_
     simp only [Act.put, sA_, s0_, sS_]
     refine takeAt 10 35 (.int .i64 0) rfl rfl (by kernel_rfl) (by kernel_rfl) (by kernel_rfl) i_ (yields (by rfl) (fun w => by kernel_rfl)) hS ?_
     simp only [Act.put, sA_, s0_, sS_]
     refine takeAt 11 36 (.pointer (some ⟨w.heap.size + 1, q, none⟩)) rfl rfl (by kernel_rfl) (by kernel_rfl) (by kernel_rfl) i_ (ixI_y (w.heap.size + 1) n n q hqn rfl rfl rfl (by rfl)) hS ?_
     simp only [Act.put, sA_, s0_, sS_]
     have RW3 : w3.rowIs (w.heap.size + 1) 3 n (bkV l k) := Ast.row_call RW.out.drew hbb
     have BW3 := Lib.hid (thenB (show Below w.heap.size w W.drew from below_drewN BW.out 1) hbb (show w.heap.size ≤ W.heap.size from BW.out.size))
     have TW3 := Lib.hid (show TreeBox w3 w.heap.size (some ⟨b, o, none⟩) n cap from (show TreeBox W.drew w.heap.size (some ⟨b, o, none⟩) n cap from TW.out).call hbb)
     refine skipAt 12 (w3.setCell ⟨w.heap.size + 1, q, none⟩ (.int .i64 (len l k).1)) rfl rfl (by kernel_rfl) (by rfl) (stJ_run _ _ _ (RW3.cell hqn) (RW3.frozen _) rfl rfl rfl) ⟨(World.cell?_setCell_other _ _ _ _ (by rintro e; simp at e <;> omega)).trans hS.1, (World.cell?_setCell_other _ _ _ _ (by rintro e; simp at e <;> omega)).trans hS.2⟩ ?_
     refine wpAnyH_done (by kernel_rfl) ?_ _
     have HR4 := Lib.hid (RW3.set q (.int .i64 (len l k).1))
     have HN : Hid (∀ i, i < n → (if i = q then Value.int .i64 (len l k).1 else bkV l k i) = bkV l (k + 1) i) := Lib.hid (bk_next (fun i h => if_neg (by omega)) (fun i h => by
      have e : i = q := by omega
      rw [e, if_pos rfl]
      exact (bk_some hqk HK.out HBD.out).symm))
     clear RW3 hS
     go_wp2_with fail
     go_roundw
     case rel => exact ⟨k + 1, by omega, by go_num, HR4.out.congr HN.out, BW3.out.setCell (by show _ ≤ w.heap.size + 1; omega) _, TreeBox.otherP TW3.out (by omega) _⟩
     case measure => simp [intOf]; omega
    ·rw [hK, HQ.out] at XW HW
     rw [hK] at c0
     rw [HQ.out] at c1
     clear hK
     go_wp2_with fail
     rw [← HW.out]
     clear c0 c1 c2 c3 c4 c5 c6 c7 c8 c9 c10 c11 HW t0
     obtain ⟨c0, c1, c2, c3, c4, c5, c6, c7, c8, -⟩ := XW.out.cells
     go_wp2_with fail
     have hS : NrS w wr.heap.size (some ⟨b, o, none⟩) n cap (q : Int) W.drew := ⟨TW.out.cell, c1⟩
     refine wp_region_held_drew (S := NrS w wr.heap.size (some ⟨b, o, none⟩) n cap (q : Int)) (by kernel_rfl) hS (fun _ => ?_)
     refine takeAt 0 26 (.slice (some ⟨w.heap.size + 1, 0, none⟩) n n) rfl rfl (by kernel_rfl) (by kernel_rfl) (by kernel_rfl) i_ (yields (by rfl) (fun w => by kernel_rfl)) hS ?_
     simp only [Act.put, sA_, s0_, sS_]
     refine takeAt 1 27 (.pointer (some ⟨wr.heap.size, 1, none⟩)) rfl rfl (by kernel_rfl) (by kernel_rfl) (by kernel_rfl) i_ (yields (by rfl) (fun w => by kernel_rfl)) hS ?_
     simp only [Act.put, sA_, s0_, sS_]
     refine takeAt 2 28 (.int .i64 (q : Int)) rfl rfl (by kernel_rfl) (by kernel_rfl) (by kernel_rfl) i_ (ldI_y wr.heap.size 1 (q : Int) (fun u h => h.2) rfl rfl (by rfl)) hS ?_
     simp only [Act.put, sA_, s0_, sS_]
     refine takeAt 3 29 (.agg #[.slice (some ⟨b, o, none⟩) n cap]) rfl rfl (by kernel_rfl) (by kernel_rfl) (by kernel_rfl) i_ (ldTr_y w.heap.size (.slice (some ⟨b, o, none⟩) n cap) (fun u h => h.1) rfl rfl (by rfl)) hS ?_
     simp only [Act.put, sA_, s0_, sS_]
     refine takeAt 4 30 (.pointer (some ⟨wr.heap.size, 1, none⟩)) rfl rfl (by kernel_rfl) (by kernel_rfl) (by kernel_rfl) i_ (yields (by rfl) (fun w => by kernel_rfl)) hS ?_
     simp only [Act.put, sA_, s0_, sS_]
     refine takeAt 5 31 (.int .i64 (q : Int)) rfl rfl (by kernel_rfl) (by kernel_rfl) (by kernel_rfl) i_ (ldI_y wr.heap.size 1 (q : Int) (fun u h => h.2) rfl rfl (by rfl)) hS ?_
     simp only [Act.put, sA_, s0_, sS_]
     refine callAt 6 32 rfl rfl (by kernel_rfl) (by rfl) (by kernel_rfl) (Ast.lenZ_any (some ⟨b, o, none⟩) n cap l q W.drew hn (HL.out.below (show Below w.heap.size w W.drew from below_drewN BW.out 1) (Nat.le_refl _))) ?_
     rintro e w3 ⟨rfl, hbb⟩
     have hlenz := HLZ.out
     rw [hlenz]
     clear hlenz
     have hS : NrS w wr.heap.size (some ⟨b, o, none⟩) n cap (q : Int) w3 := ⟨(hbb.cell (p := ⟨w.heap.size, 0, none⟩) (show w.heap.size < W.heap.size from TW.out.lt)).trans hS.1, (hbb.cell (p := ⟨wr.heap.size, 1, none⟩) HgW.out).trans hS.2⟩
     refine ⟨_, rfl, hS, ?_⟩
     simp only [Act.put, sA_, s0_, sS_]
     refine takeAt 7 25 (.tuple #[.int .i64 (len l k).1, .int .i64 (len l k).2, .int .i64 0]) rfl rfl (by kernel_rfl) (by kernel_rfl) (by kernel_rfl) i_ (yields (by rfl) (fun w => by kernel_rfl)) hS ?_
     simp only [Act.put, sA_, s0_, sS_]
     refine takeAt 8 33 (.int .i64 (len l k).1) rfl rfl (by kernel_rfl) (by kernel_rfl) (by kernel_rfl) i_ (yields (by rfl) (fun w => by kernel_rfl)) hS ?_
     simp only [Act.put, sA_, s0_, sS_]
     refine takeAt 9 34 (.int .i64 (len l k).2) rfl rfl (by kernel_rfl) (by kernel_rfl) (by kernel_rfl) i_ (yields (by rfl) (fun w => by kernel_rfl)) hS ?_
     simp only [Act.put, sA_, s0_, sS_]
     refine takeAt 10 35 (.int .i64 0) rfl rfl (by kernel_rfl) (by kernel_rfl) (by kernel_rfl) i_ (yields (by rfl) (fun w => by kernel_rfl)) hS ?_
     simp only [Act.put, sA_, s0_, sS_]
     refine takeAt 11 36 (.pointer (some ⟨w.heap.size + 1, q, none⟩)) rfl rfl (by kernel_rfl) (by kernel_rfl) (by kernel_rfl) i_ (ixI_y (w.heap.size + 1) n n q hqn rfl rfl rfl (by rfl)) hS ?_
     simp only [Act.put, sA_, s0_, sS_]
     have RW3 : w3.rowIs (w.heap.size + 1) 3 n (bkV l k) := Ast.row_call RW.out.drew hbb
     have BW3 := Lib.hid (thenB (show Below w.heap.size w W.drew from below_drewN BW.out 1) hbb (show w.heap.size ≤ W.heap.size from BW.out.size))
     have TW3 := Lib.hid (show TreeBox w3 w.heap.size (some ⟨b, o, none⟩) n cap from (show TreeBox W.drew w.heap.size (some ⟨b, o, none⟩) n cap from TW.out).call hbb)
     refine skipAt 12 (w3.setCell ⟨w.heap.size + 1, q, none⟩ (.int .i64 (len l k).1)) rfl rfl (by kernel_rfl) (by rfl) (stJ_run _ _ _ (RW3.cell hqn) (RW3.frozen _) rfl rfl rfl) ⟨(World.cell?_setCell_other _ _ _ _ (by rintro e; simp at e <;> omega)).trans hS.1, (World.cell?_setCell_other _ _ _ _ (by rintro e; simp at e <;> omega)).trans hS.2⟩ ?_
     refine wpAnyH_done (by kernel_rfl) ?_ _
     have HR4 := Lib.hid (RW3.set q (.int .i64 (len l k).1))
     have HN : Hid (∀ i, i < n → (if i = q then Value.int .i64 (len l k).1 else bkV l k i) = bkV l (k + 1) i) := Lib.hid (bk_next (fun i h => if_neg (by omega)) (fun i h => by
      have e : i = q := by omega
      rw [e, if_pos rfl]
      exact (bk_some hqk HK.out HBD.out).symm))
     clear RW3 hS
     go_wp2_with fail
     go_roundw
     case rel => exact ⟨k + 1, by omega, by go_num, HR4.out.congr HN.out, BW3.out.setCell (by show _ ≤ w.heap.size + 1; omega) _, TreeBox.otherP TW3.out (by omega) _⟩
     case measure => simp [intOf]; omega
   ·have HV := Lib.hid (bk_none (n := n) hb)
    have q1 : ((l k).k == 15) = false := by simp; omega
    have q2 : ((l k).k == 16) = false := by simp; omega
    clear hb hf hp
    go_wp2_with fail
    rw [← HW.out]
    clear c0 c1 c2 c3 c4 c5 c6 c7 c8 c9 c10 c11
    obtain ⟨c0, c1, c2, c3, c4, c5, c6, c7, c8, -⟩ := XW.out.cells
    go_wp2_with fail
    go_roundw
    case rel => exact ⟨k + 1, by omega, by go_num, RW.out.congr HV.out, BW.out, TW.out⟩
    case measure => simp [intOf]; omega
  ·obtain rfl : k = n := by omega
   clear hk hlt
   go_wp2_with fail
   go_ret
   exact ⟨w.heap.size + 1, rfl, HB.out, Nat.le_succ _, HR.out⟩
end Go.Proofs.YteggpecbeagohaaGreatDoor.Stp
