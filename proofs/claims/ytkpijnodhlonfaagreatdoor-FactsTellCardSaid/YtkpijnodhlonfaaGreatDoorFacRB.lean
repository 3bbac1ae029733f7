/-
  FacRefB, FacRefC
-/
import Derived.Test.YtkpijnodhlonfaaGreatDoorFacRefA
import Derived.Test.YtkpijnodhlonfaaGreatDoorRefM
import Derived.Test.YtkpijnodhlonfaaGreatDoorAstC
namespace Go.Proofs.YtkpijnodhlonfaaGreatDoor
open Go.RowKit
open Ast (Nd ndV Nodes siz len)

theorem or_bits (S T : BitVec 256) : (ofPred fun n => mem S n || mem T n) = S ||| T := by
  refine ext_bit fun k hk => ?_
  rw [ofPred_bit, BitVec.getLsbD_or]
  simp [hk, mem]
section
variable {ops : Array Oper} {rest : List Oper} {o : Oper} {a : Act} {w : World} {Q : Exit → Act → World → Prop}
theorem storeAnQ (hgd : o.guard = none) (x y : Operand) (ho : o.op = .store 37 x y) (wr : World) (T : BitVec 256) (B : Array Value) (hB : Hid (bitsA T = B)) (hx : a.eval x = .pointer (some ⟨wr.heap.size, 0, none⟩)) (hy : a.eval y = .agg B) (hw : w = wr.alloc (.cells (bitsA 0#256) 37))
    (h : ∀ W : World, Hid (BoxA W wr.heap.size T) → Hid (Below wr.heap.size wr W) → wpList Tryz.prog ops Q rest (a.put o.dst undef) W) : wpList Tryz.prog ops Q (o :: rest) a w := by
  subst hw
  obtain ⟨rfl⟩ := hB.out
  exact storeA hgd x y ho wr.heap.size 0#256 T hx hy (BoxA.new wr 0#256) (h _ (Lib.hid ((BoxA.new wr 0#256).rowSame T)) (Lib.hid (below_row ((Below.refl _ wr).alloc (Nat.le_refl _) _) (Nat.le_refl _) _)))
theorem storeAoQ (hgd : o.guard = none) (x y : Operand) (ho : o.op = .store 37 x y) (g : Nat) (S T : BitVec 256) (B : Array Value) (hB : Hid (bitsA T = B)) (hx : a.eval x = .pointer (some ⟨g, 0, none⟩)) (hy : a.eval y = .agg B) (hg : BoxA w g S)
    (h : ∀ W : World, Hid (BoxA W g T) → Hid (∀ B, B ≤ g → Below B w W) → Hid (∀ j, j ≠ g → W.heap[j]? = w.heap[j]?) → wpList Tryz.prog ops Q rest (a.put o.dst undef) W) : wpList Tryz.prog ops Q (o :: rest) a w := by
  obtain ⟨rfl⟩ := hB.out
  exact storeA hgd x y ho g S T hx hy hg (h _ (Lib.hid (hg.rowSame T)) (Lib.hid fun _ hB => below_row (Below.refl _ w) hB _) (Lib.hid fun k hk => setRow_other w g k _ hk))
theorem loadAQ (hgd : o.guard = none) (x : Operand) (ho : o.op = .load 37 x) (g : Nat) (S : BitVec 256) (B : Array Value) (hB : Hid (bitsA S = B)) (hx : a.eval x = .pointer (some ⟨g, 0, none⟩)) (hg : BoxA w g S)
    (h : wpList Tryz.prog ops Q rest (a.put o.dst (.agg B)) w) : wpList Tryz.prog ops Q (o :: rest) a w := by
  obtain ⟨rfl⟩ := hB.out
  exact loadA hgd x ho g S hx hg h
theorem loadRsQ (hgd : o.guard = none) (x : Operand) (ho : o.op = .load 37 x) (g : Nat) (k : FK) (B : Array Value) (hB : Hid (bitsA k.F = B)) (hx : a.eval x = .pointer (some ⟨g, 0, none⟩)) (hg : BoxR w g k)
    (h : wpList Tryz.prog ops Q rest (a.put o.dst (.agg B)) w) : wpList Tryz.prog ops Q (o :: rest) a w := by
  obtain ⟨rfl⟩ := hB.out
  exact loadRs9 hgd x ho g k k.F rfl hx hg h
theorem storeRfQ (hgd : o.guard = none) (x y : Operand) (ho : o.op = .store 39 x y) (g : Nat) (k k' : FK) (R : Array Value) (hR : Hid (rfC k = R)) (hx : a.eval x = .pointer (some ⟨g, 0, none⟩)) (hy : a.eval y = .agg R) (hg : BoxR w g k')
    (h : ∀ u : World, Hid (BoxR u g k) → Hid (∀ B, B ≤ g → Below B w u) → Hid (∀ j, j ≠ g → u.heap[j]? = w.heap[j]?) → wpList Tryz.prog ops Q rest (a.put o.dst undef) u) : wpList Tryz.prog ops Q (o :: rest) a w := by
  obtain ⟨rfl⟩ := hR.out
  exact storeRf9 hgd x y ho g k k' hx hy hg h
theorem storeRnQ (hgd : o.guard = none) (x y : Operand) (ho : o.op = .store 39 x y) (wr : World) (k : FK) (R : Array Value) (hR : Hid (rfC k = R)) (hx : a.eval x = .pointer (some ⟨wr.heap.size, 0, none⟩)) (hy : a.eval y = .agg R) (hw : w = wr.alloc (.cells (rfC zrK) 39))
    (h : ∀ u : World, Hid (BoxR u wr.heap.size k) → Hid (Below wr.heap.size wr u) → wpList Tryz.prog ops Q rest (a.put o.dst undef) u) : wpList Tryz.prog ops Q (o :: rest) a w := by
  obtain ⟨rfl⟩ := hR.out
  exact storeRn9 hgd x y ho wr k hx hy hw h
theorem buildRQ {x0 x1 x2 x3 : Operand} (hgd : o.guard = none) (K : FK) (B R : Array Value) (hB : Hid (bitsA K.F = B)) (hR : Hid (rfC K = R)) (ho : o.op = .build 39 #[(0, x0), (1, x1), (2, x2), (3, x3)]) (h0 : a.eval x0 = .agg B) (h1 : a.eval x1 = .bool K.op) (h2 : a.eval x2 = .bool K.fa) (h3 : a.eval x3 = .string K.pr)
    (h : wpList Tryz.prog ops Q rest (a.put o.dst (.agg R)) w) : wpList Tryz.prog ops Q (o :: rest) a w := by
  obtain ⟨rfl⟩ := hB.out
  obtain ⟨rfl⟩ := hR.out
  refine wpList_plain hgd fun k hk => ?_
  have hb := buildRf K.F K.op K.fa K.pr w
  have e : rfC ⟨K.F, K.op, K.fa, K.pr, false⟩ = rfC K := by unfold rfC; rfl
  rw [e] at hb
  have hk2 := hk _ _ h
  unfold Oper.wp execOp
  simp only [ho, List.map_toArray, List.map_cons, List.map_nil, h0, h1, h2, h3, Sem.run_bind, hb, Result.andThen_ok, Sem.run_pure]
  exact hk2
end
/-- The boxes of two. -/
structure RTw (w0 : World) (x : Nd) (w : World) : Prop where
  below : Below w0.heap.size w0 w
  node : BoxV 70 w w0.heap.size (ndC x)
  res : BoxR w (w0.heap.size + 1) zrK
theorem RTw.call {w0 w w' : World} {x : Nd} (h : RTw w0 x w) (hb : Below w.heap.size w w') : RTw w0 x w' :=
  ⟨thenB h.below hb h.below.size, h.node.below hb h.node.lt, h.res.below hb h.res.lt⟩
end Go.Proofs.YtkpijnodhlonfaaGreatDoor

namespace Go.Proofs.YtkpijnodhlonfaaGreatDoor
open Go.RowKit
open Ast (Nd ndV Nodes siz len)

/-- What a call of node answers, in every later world. -/
abbrev NodeQ (V : Value) (z : Int) (R : Array Value) (b : Bool) (w : World) : Prop := ∀ u, Below w.heap.size w u → Calls Tryz.prog 27 #[V, .int .i64 z] u fun e w' => e = .returned (.tuple #[.agg R, .bool b]) ∧ Below u.heap.size u w'
set_option maxRecDepth 100000 in
set_option maxHeartbeats 16000000 in
theorem rtwo_alt (V : Value) (xa xb t0 t1 t2 t3 mn mx md nn : Int) (ff : Bool) (F1 F2 : BitVec 256) (op1 op2 fa1 fa2 : Bool) (pr1 pr2 : ByteArray) (wh1 wh2 : Bool) (R1 R2 R3 : Array Value) (w : World)
    (hR1 : Hid (rfC ⟨F1, op1, fa1, pr1, wh1⟩ = R1)) (hR2 : Hid (rfC ⟨F2, op2, fa2, pr2, wh2⟩ = R2))
    (hA : NodeQ V xa R1 wh1 w) (hB : NodeQ V xb R2 wh2 w) (hR3 : Hid (rfC (altK ⟨F1, op1, fa1, pr1, wh1⟩ ⟨F2, op2, fa2, pr2, wh2⟩) = R3)) :
    Calls Tryz.prog 53 #[V, .agg (ndC ⟨9, xa, xb, t0, t1, t2, t3, mn, mx, md, nn, ff⟩)] w fun e w' => e = .returned (.tuple #[.agg R3, .bool false]) ∧ Below w.heap.size w w' := by
  cases op1 <;> cases fa1
  all_goals
    have HA := Lib.hid hA
    have HB := Lib.hid hB
    have HO := Lib.hid (fun w => ror_any F1 F2 w)
    rw [or_bits] at HO
    have hB1 := Lib.hid (rfl : bitsA F1 = bitsA F1)
    have hB2 := Lib.hid (rfl : bitsA F2 = bitsA F2)
    have hB3 := Lib.hid (rfl : bitsA (F1 ||| F2) = bitsA (F1 ||| F2))
    generalize hb1 : bitsA F1 = B1 at HO
    generalize hb2 : bitsA F2 = B2 at HO
    generalize hb3 : bitsA (F1 ||| F2) = B3 at HO
    replace hB1 := Lib.hid hb1
    replace hB2 := Lib.hid hb2
    replace hB3 := Lib.hid hb3
    clear hA hB hb1 hb2 hb3
    have HT := Lib.hid (show RTw w ⟨9, xa, xb, t0, t1, t2, t3, mn, mx, md, nn, ff⟩ ((w.alloc (.cells (ndC ⟨9, xa, xb, t0, t1, t2, t3, mn, mx, md, nn, ff⟩) 70)).alloc (.cells (rfC zrK) 39)) from ⟨by go_grown, (BoxV.new _ _).alloc _, BoxV.new2 _ _ _⟩)
    go_enter Tryz.func53, Tryz.ntmps53
    go_wp2_with fail
    refine (HA.out _ HT.out.below).mono ?_
    rintro e u1 ⟨rfl, hb⟩
    replace HT := Lib.hid (HT.out.call hb)
    clear hb
    go_wp2_with (refine storeRnQ rfl _ _ rfl u1 ⟨F1, _, _, pr1, wh1⟩ R1 hR1 rfl rfl rfl ?_; intro u2 hx hN; refine StopS.out ?_)
    refine ⟨?_⟩
    replace HT := Lib.hid (show RTw w ⟨9, xa, xb, t0, t1, t2, t3, mn, mx, md, nn, ff⟩ u2 from ⟨HT.out.below.trans (hN.out.mono HT.out.below.size), HT.out.node.below hN.out HT.out.node.lt, HT.out.res.below hN.out HT.out.res.lt⟩)
    have H1 := Lib.hid hx.out
    clear hx hN
    have nb : u2.cell? ⟨w.heap.size, 2, none⟩ = some (.int .i64 xb) := HT.out.node.get 2 rfl
    go_wp2_with fail
    refine (HB.out _ HT.out.below).mono ?_
    rintro e u3 ⟨rfl, hb⟩
    replace HT := Lib.hid (HT.out.call hb)
    replace H1 := Lib.hid (H1.out.below hb H1.out.lt)
    clear hb nb
    go_wp2_with (refine storeRnQ rfl _ _ rfl u3 ⟨F2, _, fa2, pr2, wh2⟩ R2 hR2 rfl rfl rfl ?_; intro u4 hx hN; refine StopS.out ?_)
    refine ⟨?_⟩
    replace HT := Lib.hid (show RTw w ⟨9, xa, xb, t0, t1, t2, t3, mn, mx, md, nn, ff⟩ u4 from ⟨HT.out.below.trans (hN.out.mono HT.out.below.size), HT.out.node.below hN.out HT.out.node.lt, HT.out.res.below hN.out HT.out.res.lt⟩)
    replace H1 := Lib.hid (H1.out.below hN.out H1.out.lt)
    have H2 := Lib.hid hx.out
    clear hx hN
    go_wp2_with (refine loadRsQ rfl _ rfl u1.heap.size ⟨F1, _, _, pr1, wh1⟩ B1 hB1 rfl H1.out (StopS.out ?_))
    refine ⟨?_⟩
    go_wp2_with (refine loadRsQ rfl _ rfl u3.heap.size ⟨F2, _, fa2, pr2, wh2⟩ B2 hB2 rfl H2.out (StopS.out ?_))
    refine ⟨?_⟩
    go_wp2_with fail
    refine (HO.out _).mono ?_
    rintro e u5 ⟨rfl, hb⟩
    replace HT := Lib.hid (HT.out.call hb)
    replace H1 := Lib.hid (H1.out.below hb H1.out.lt)
    replace H2 := Lib.hid (H2.out.below hb H2.out.lt)
    have HL5 := Lib.hid (And.intro HT.out.res.lt HT.out.node.lt)
    have HM1 := Lib.hid H1.out.lt
    have HM2 := Lib.hid H2.out.lt
    clear hb HO
    go_wp2_with (refine storeAnQ rfl _ _ rfl u5 (F1 ||| F2) B3 hB3 rfl rfl rfl ?_; intro u6 hx hN; refine StopS.out ?_)
    refine ⟨?_⟩
    replace HT := Lib.hid (show RTw w ⟨9, xa, xb, t0, t1, t2, t3, mn, mx, md, nn, ff⟩ u6 from ⟨HT.out.below.trans (hN.out.mono HT.out.below.size), HT.out.node.below hN.out HT.out.node.lt, HT.out.res.below hN.out HT.out.res.lt⟩)
    replace H1 := Lib.hid (H1.out.below hN.out H1.out.lt)
    replace H2 := Lib.hid (H2.out.below hN.out H2.out.lt)
    have H3 := Lib.hid hx.out
    clear hx hN
    have nk : u6.cell? ⟨w.heap.size, 0, none⟩ = some (.int .i64 9) := HT.out.node.get 0 rfl
    have a0 := BoxR.op H1.out
    have a1 := BoxR.fa H1.out
    have a2 := BoxR.pr H1.out
    have b0 := BoxR.op H2.out
    have b1 := BoxR.fa H2.out
    have b2 := BoxR.pr H2.out
    dsimp only at a0 a1 a2 b0 b1 b2
    go_wp2_with (first | (refine loadAQ rfl _ rfl u5.heap.size (F1 ||| F2) B3 hB3 rfl H3.out ?_) | (refine buildRQ rfl (altK ⟨F1, _, _, pr1, wh1⟩ ⟨F2, op2, fa2, pr2, wh2⟩) B3 R3 hB3 hR3 rfl rfl rfl rfl rfl ?_) | (refine storeRfQ rfl _ _ rfl (w.heap.size + 1) (altK ⟨F1, _, _, pr1, wh1⟩ ⟨F2, op2, fa2, pr2, wh2⟩) zrK R3 hR3 rfl rfl HT.out.res ?_; intro u9 hx9 hB9 _; refine StopS.out ?_))
    refine ⟨?_⟩
    go_wp2_with fail
    refine bodyPost_ret (by rw [← hR3.out]; exact resRb9 (p := 4) (q := 5) (v := .bool false) rfl _ (g := w.heap.size + 1) rfl rfl hx9.out) rfl ⟨rfl, ?_⟩
    exact HT.out.below.trans (hB9.out _ (by omega))
theorem eqlI9c_y {ops : Array Oper} {R : World → Prop} {a : Act} {o : Oper} {x y : Operand} {m n : Int} (b : Bool) (h : (m == n) = b) (ho : o.op = .binOp .eql 3 x y 3) (hx : a.eval x = .int .i64 m) (hy : a.eval y = .int .i64 n) (hw : Region.wanted o (yielded ops a.tmps) = true) : YieldsIf Tryz.prog ops R o (.bool b) a := by
  refine Or.inl ⟨hw, fun w _ => ?_⟩
  unfold execOp
  simp only [ho, hx, hy]
  go_simp
set_option maxRecDepth 100000 in
set_option maxHeartbeats 16000000 in
theorem rtwo_cat (V : Value) (xa xb t0 t1 t2 t3 mn mx md nn : Int) (ff : Bool) (F1 F2 : BitVec 256) (op1 op2 fa1 fa2 : Bool) (pr1 pr2 : ByteArray) (wh1 wh2 : Bool) (R1 R2 R3 : Array Value) (w : World)
    (hR1 : Hid (rfC ⟨F1, op1, fa1, pr1, wh1⟩ = R1)) (hR2 : Hid (rfC ⟨F2, op2, fa2, pr2, wh2⟩ = R2))
    (hA : NodeQ V xa R1 wh1 w) (hB : NodeQ V xb R2 wh2 w) (lo hi : Int) (z : Bool) (hz : (hi == 0) = z) (hs1 : pr1.size ≤ 100) (hs2 : pr2.size ≤ 100)
    (hLen : ∀ u, Below w.heap.size w u → Calls Tryz.prog 49 #[V, .int .i64 xa] u fun e w' => e = .returned (.tuple #[.int .i64 lo, .int .i64 hi]) ∧ Below u.heap.size u w')
    (PR : ByteArray) (WH : Bool) (hcut : wh1 = true → ∀ u, Calls Tryz.prog 73 #[.string (pr1 ++ pr2), .bool wh2] u fun e w' => e = .returned (.tuple #[.string PR, .bool WH]) ∧ u = w') (hno : wh1 = false → PR = pr1 ∧ WH = false)
    (hR3 : Hid (rfC ⟨bif op1 then F1 ||| F2 else F1, op1 && op2, fa1 || (fa2 && z), PR, WH⟩ = R3)) :
    Calls Tryz.prog 53 #[V, .agg (ndC ⟨8, xa, xb, t0, t1, t2, t3, mn, mx, md, nn, ff⟩)] w fun e w' => e = .returned (.tuple #[.agg R3, .bool WH]) ∧ Below w.heap.size w w' := by
  have sz12 : ¬ pr1.size + pr2.size > 9223372036854775807 := by omega
  clear hs1 hs2
  have HLEN := Lib.hid hLen
  have HCUT := Lib.hid hcut
  have HNO := Lib.hid hno
  clear hLen hcut hno
  cases op1 with
  | false =>
    have HA := Lib.hid hA
    have HB := Lib.hid hB
    have HO := Lib.hid (fun w => ror_any F1 F2 w)
    rw [or_bits] at HO
    have hB1 := Lib.hid (rfl : bitsA F1 = bitsA F1)
    have hB2 := Lib.hid (rfl : bitsA F2 = bitsA F2)
    have hB3 := Lib.hid (rfl : bitsA (F1 ||| F2) = bitsA (F1 ||| F2))
    generalize hb1 : bitsA F1 = B1 at HO
    generalize hb2 : bitsA F2 = B2 at HO
    generalize hb3 : bitsA (F1 ||| F2) = B3 at HO
    replace hB1 := Lib.hid hb1
    replace hB2 := Lib.hid hb2
    replace hB3 := Lib.hid hb3
    clear hA hB hb1 hb2 hb3
    have HT := Lib.hid (show RTw w ⟨8, xa, xb, t0, t1, t2, t3, mn, mx, md, nn, ff⟩ ((w.alloc (.cells (ndC ⟨8, xa, xb, t0, t1, t2, t3, mn, mx, md, nn, ff⟩) 70)).alloc (.cells (rfC zrK) 39)) from ⟨by go_grown, (BoxV.new _ _).alloc _, BoxV.new2 _ _ _⟩)
    go_enter Tryz.func53, Tryz.ntmps53
    go_wp2_with fail
    refine (HA.out _ HT.out.below).mono ?_
    rintro e u1 ⟨rfl, hb⟩
    replace HT := Lib.hid (HT.out.call hb)
    clear hb
    go_wp2_with (refine storeRnQ rfl _ _ rfl u1 ⟨F1, false, fa1, pr1, wh1⟩ R1 hR1 rfl rfl rfl ?_; intro u2 hx hN; refine StopS.out ?_)
    refine ⟨?_⟩
    replace HT := Lib.hid (show RTw w ⟨8, xa, xb, t0, t1, t2, t3, mn, mx, md, nn, ff⟩ u2 from ⟨HT.out.below.trans (hN.out.mono HT.out.below.size), HT.out.node.below hN.out HT.out.node.lt, HT.out.res.below hN.out HT.out.res.lt⟩)
    have H1 := Lib.hid hx.out
    clear hx hN
    have nb : u2.cell? ⟨w.heap.size, 2, none⟩ = some (.int .i64 xb) := HT.out.node.get 2 rfl
    go_wp2_with fail
    refine (HB.out _ HT.out.below).mono ?_
    rintro e u3 ⟨rfl, hb⟩
    replace HT := Lib.hid (HT.out.call hb)
    replace H1 := Lib.hid (H1.out.below hb H1.out.lt)
    clear hb nb
    go_wp2_with (refine storeRnQ rfl _ _ rfl u3 ⟨F2, op2, fa2, pr2, wh2⟩ R2 hR2 rfl rfl rfl ?_; intro u4 hx hN; refine StopS.out ?_)
    refine ⟨?_⟩
    replace HT := Lib.hid (show RTw w ⟨8, xa, xb, t0, t1, t2, t3, mn, mx, md, nn, ff⟩ u4 from ⟨HT.out.below.trans (hN.out.mono HT.out.below.size), HT.out.node.below hN.out HT.out.node.lt, HT.out.res.below hN.out HT.out.res.lt⟩)
    replace H1 := Lib.hid (H1.out.below hN.out H1.out.lt)
    have H2 := Lib.hid hx.out
    clear hx hN
    go_wp2_with (refine loadRsQ rfl _ rfl u1.heap.size ⟨F1, false, fa1, pr1, wh1⟩ B1 hB1 rfl H1.out (StopS.out ?_))
    refine ⟨?_⟩
    go_wp2_with (refine loadRsQ rfl _ rfl u3.heap.size ⟨F2, op2, fa2, pr2, wh2⟩ B2 hB2 rfl H2.out (StopS.out ?_))
    refine ⟨?_⟩
    go_wp2_with fail
    refine (HO.out _).mono ?_
    rintro e u5 ⟨rfl, hb⟩
    replace HT := Lib.hid (HT.out.call hb)
    replace H1 := Lib.hid (H1.out.below hb H1.out.lt)
    replace H2 := Lib.hid (H2.out.below hb H2.out.lt)
    have HL5 := Lib.hid (And.intro HT.out.res.lt HT.out.node.lt)
    have HM1 := Lib.hid H1.out.lt
    have HM2 := Lib.hid H2.out.lt
    clear hb HO
    go_wp2_with (refine storeAnQ rfl _ _ rfl u5 (F1 ||| F2) B3 hB3 rfl rfl rfl ?_; intro u6 hx hN; refine StopS.out ?_)
    refine ⟨?_⟩
    replace HT := Lib.hid (show RTw w ⟨8, xa, xb, t0, t1, t2, t3, mn, mx, md, nn, ff⟩ u6 from ⟨HT.out.below.trans (hN.out.mono HT.out.below.size), HT.out.node.below hN.out HT.out.node.lt, HT.out.res.below hN.out HT.out.res.lt⟩)
    replace H1 := Lib.hid (H1.out.below hN.out H1.out.lt)
    replace H2 := Lib.hid (H2.out.below hN.out H2.out.lt)
    have H3 := Lib.hid hx.out
    clear hx hN
    have nk : u6.cell? ⟨w.heap.size, 0, none⟩ = some (.int .i64 8) := HT.out.node.get 0 rfl
    have a0 := BoxR.op H1.out
    dsimp only at a0
    go_wp2_with (first | (refine loadRsQ rfl _ rfl u1.heap.size ⟨F1, false, fa1, pr1, wh1⟩ B1 hB1 rfl H1.out ?_) | (refine storeAoQ rfl _ _ rfl u5.heap.size (F1 ||| F2) F1 B1 hB1 rfl rfl H3.out ?_; intro u7 hx hN hO; refine StopS.out ?_))
    refine ⟨?_⟩
    replace HT := Lib.hid (show RTw w ⟨8, xa, xb, t0, t1, t2, t3, mn, mx, md, nn, ff⟩ u7 from ⟨HT.out.below.trans (hN.out _ (by have := HL5.out.2; omega)), HT.out.node.below (hN.out _ (Nat.le_refl _)) HL5.out.2, HT.out.res.below (hN.out _ (Nat.le_refl _)) HL5.out.1⟩)
    replace H1 := Lib.hid (H1.out.below (hN.out _ (Nat.le_refl _)) HM1.out)
    replace H2 := Lib.hid (H2.out.below (hN.out _ (Nat.le_refl _)) HM2.out)
    replace H3 := Lib.hid hx.out
    clear hx hN hO a0 nk
    have na : u7.cell? ⟨w.heap.size, 1, none⟩ = some (.int .i64 xa) := HT.out.node.get 1 rfl
    go_wp2_with fail
    refine (HLEN.out _ HT.out.below).mono ?_
    rintro e u8 ⟨rfl, hb⟩
    replace HT := Lib.hid (HT.out.call hb)
    replace H1 := Lib.hid (H1.out.below hb H1.out.lt)
    replace H2 := Lib.hid (H2.out.below hb H2.out.lt)
    replace H3 := Lib.hid (H3.out.below hb H3.out.lt)
    clear hb na HLEN
    have a0 := BoxR.op H1.out
    have a1 := BoxR.fa H1.out
    have a2 := BoxR.pr H1.out
    have b0 := BoxR.op H2.out
    have b1 := BoxR.fa H2.out
    have b2 := BoxR.pr H2.out
    dsimp only at a0 a1 a2 b0 b1 b2
    cases wh1
    all_goals
      first
      | (obtain ⟨rfl, rfl⟩ := HNO.out rfl
         go_wp2_with (refine loadAQ rfl _ rfl u5.heap.size (F1) B1 hB1 rfl H3.out (StopS.out ?_)))
      | (go_wp2_with fail
         refine (HCUT.out (by first | rfl | trivial) _).mono ?_
         rintro e u9 ⟨rfl, rfl⟩
         go_wp2_with (refine loadAQ rfl _ rfl u5.heap.size (F1) B1 hB1 rfl H3.out (StopS.out ?_)))
      refine ⟨?_⟩
      refine lineY (S := fun u => u = u8) (.pointer (some ⟨u1.heap.size, 256, none⟩)) (yields (by rfl) (fun w => by kernel_rfl)) rfl ?_
      simp only [Act.put, List.setIfInBounds_toArray, List.set_cons_zero, List.set_cons_succ]
      refine lineY (S := fun u => u = u8) (.bool false) (loadB9_y u1.heap.size 256 false (fun u h => by subst h; exact a0) rfl rfl (by rfl)) rfl ?_
      simp only [Act.put, List.setIfInBounds_toArray, List.set_cons_zero, List.set_cons_succ]
      refine lineY (S := fun u => u = u8) (.bool false) (yields (by rfl) (fun w => by kernel_rfl)) rfl ?_
      simp only [Act.put, List.setIfInBounds_toArray, List.set_cons_zero, List.set_cons_succ]
      refine lineY (S := fun u => u = u8) (undef) (skipped (by rfl)) rfl ?_
      simp only [Act.put, List.setIfInBounds_toArray, List.set_cons_zero, List.set_cons_succ]
      refine lineY (S := fun u => u = u8) (undef) (skipped (by rfl)) rfl ?_
      simp only [Act.put, List.setIfInBounds_toArray, List.set_cons_zero, List.set_cons_succ]
      refine lineY (S := fun u => u = u8) (.bool false) (yields (by rfl) (fun w => by kernel_rfl)) rfl ?_
      simp only [Act.put, List.setIfInBounds_toArray, List.set_cons_zero, List.set_cons_succ]
      refine lineY (S := fun u => u = u8) (.pointer (some ⟨u1.heap.size, 257, none⟩)) (yields (by rfl) (fun w => by kernel_rfl)) rfl ?_
      simp only [Act.put, List.setIfInBounds_toArray, List.set_cons_zero, List.set_cons_succ]
      refine lineY (S := fun u => u = u8) (.bool fa1) (loadB9_y u1.heap.size 257 fa1 (fun u h => by subst h; exact a1) rfl rfl (by rfl)) rfl ?_
      simp only [Act.put, List.setIfInBounds_toArray, List.set_cons_zero, List.set_cons_succ]
      refine lineY (S := fun u => u = u8) (.bool fa1) (yields (by rfl) (fun w => by kernel_rfl)) rfl ?_
      simp only [Act.put, List.setIfInBounds_toArray, List.set_cons_zero, List.set_cons_succ]
      refine lineY (S := fun u => u = u8) (cond fa1 undef (.pointer (some ⟨u3.heap.size, 257, none⟩))) (by cases fa1 <;> first | exact yields (by rfl) (fun w => by kernel_rfl) | exact skipped (by rfl)) rfl ?_
      simp only [Act.put, List.setIfInBounds_toArray, List.set_cons_zero, List.set_cons_succ]
      refine lineY (S := fun u => u = u8) (cond fa1 undef (.bool fa2)) (by cases fa1 <;> first | exact loadB9_y u3.heap.size 257 _ (fun u h => by subst h; exact b1) rfl rfl (by rfl) | exact skipped (by rfl)) rfl ?_
      simp only [Act.put, List.setIfInBounds_toArray, List.set_cons_zero, List.set_cons_succ]
      refine lineY (S := fun u => u = u8) (cond fa1 undef (.bool fa2)) (by cases fa1 <;> first | exact yields (by rfl) (fun w => by kernel_rfl) | exact skipped (by rfl)) rfl ?_
      simp only [Act.put, List.setIfInBounds_toArray, List.set_cons_zero, List.set_cons_succ]
      refine lineY (S := fun u => u = u8) (cond fa1 undef (cond fa2 (.int .i64 hi) undef)) (by cases fa1 <;> cases fa2 <;> first | exact yields (by rfl) (fun w => by kernel_rfl) | exact skipped (by rfl)) rfl ?_
      simp only [Act.put, List.setIfInBounds_toArray, List.set_cons_zero, List.set_cons_succ]
      refine lineY (S := fun u => u = u8) (cond fa1 undef (cond fa2 (.bool z) undef)) (by cases fa1 <;> cases fa2 <;> first | exact eqlI9c_y _ hz rfl rfl rfl (by rfl) | exact skipped (by rfl)) rfl ?_
      simp only [Act.put, List.setIfInBounds_toArray, List.set_cons_zero, List.set_cons_succ]
      refine lineY (S := fun u => u = u8) (cond fa1 undef (.bool (fa2 && z))) (by cases fa1 <;> cases fa2 <;> first | exact yields (by rfl) (fun w => by kernel_rfl) | exact skipped (by rfl)) rfl ?_
      simp only [Act.put, List.setIfInBounds_toArray, List.set_cons_zero, List.set_cons_succ]
      refine lineY (S := fun u => u = u8) (.bool (fa1 || (fa2 && z))) (by cases fa1 <;> cases fa2 <;> first | exact yields (by rfl) (fun w => by kernel_rfl) | exact skipped (by rfl)) rfl ?_
      simp only [Act.put, List.setIfInBounds_toArray, List.set_cons_zero, List.set_cons_succ]
      clear a0 a1 a2 b0 b1 b2
      generalize hbv : (fa1 || (fa2 && z)) = bv at hR3 ⊢
      go_wp2_with (first | (refine buildRQ rfl _ B1 R3 (by exact hB1) hR3 rfl rfl rfl rfl rfl ?_) | (refine storeRfQ rfl _ _ rfl (w.heap.size + 1) _ zrK R3 hR3 rfl rfl HT.out.res ?_; intro u10 hx9 hB9 _; refine StopS.out ?_))
      refine ⟨?_⟩
      go_wp2_with fail
      refine bodyPost_ret (by rw [← hR3.out]; exact resRb9 (p := 4) (q := 5) rfl _ (g := w.heap.size + 1) rfl rfl hx9.out) rfl ⟨rfl, ?_⟩
      exact HT.out.below.trans (hB9.out _ (by omega))
  | true =>
    have HA := Lib.hid hA
    have HB := Lib.hid hB
    have HO := Lib.hid (fun w => ror_any F1 F2 w)
    rw [or_bits] at HO
    have hB1 := Lib.hid (rfl : bitsA F1 = bitsA F1)
    have hB2 := Lib.hid (rfl : bitsA F2 = bitsA F2)
    have hB3 := Lib.hid (rfl : bitsA (F1 ||| F2) = bitsA (F1 ||| F2))
    generalize hb1 : bitsA F1 = B1 at HO
    generalize hb2 : bitsA F2 = B2 at HO
    generalize hb3 : bitsA (F1 ||| F2) = B3 at HO
    replace hB1 := Lib.hid hb1
    replace hB2 := Lib.hid hb2
    replace hB3 := Lib.hid hb3
    clear hA hB hb1 hb2 hb3
    have HT := Lib.hid (show RTw w ⟨8, xa, xb, t0, t1, t2, t3, mn, mx, md, nn, ff⟩ ((w.alloc (.cells (ndC ⟨8, xa, xb, t0, t1, t2, t3, mn, mx, md, nn, ff⟩) 70)).alloc (.cells (rfC zrK) 39)) from ⟨by go_grown, (BoxV.new _ _).alloc _, BoxV.new2 _ _ _⟩)
    go_enter Tryz.func53, Tryz.ntmps53
    go_wp2_with fail
    refine (HA.out _ HT.out.below).mono ?_
    rintro e u1 ⟨rfl, hb⟩
    replace HT := Lib.hid (HT.out.call hb)
    clear hb
    go_wp2_with (refine storeRnQ rfl _ _ rfl u1 ⟨F1, true, fa1, pr1, wh1⟩ R1 hR1 rfl rfl rfl ?_; intro u2 hx hN; refine StopS.out ?_)
    refine ⟨?_⟩
    replace HT := Lib.hid (show RTw w ⟨8, xa, xb, t0, t1, t2, t3, mn, mx, md, nn, ff⟩ u2 from ⟨HT.out.below.trans (hN.out.mono HT.out.below.size), HT.out.node.below hN.out HT.out.node.lt, HT.out.res.below hN.out HT.out.res.lt⟩)
    have H1 := Lib.hid hx.out
    clear hx hN
    have nb : u2.cell? ⟨w.heap.size, 2, none⟩ = some (.int .i64 xb) := HT.out.node.get 2 rfl
    go_wp2_with fail
    refine (HB.out _ HT.out.below).mono ?_
    rintro e u3 ⟨rfl, hb⟩
    replace HT := Lib.hid (HT.out.call hb)
    replace H1 := Lib.hid (H1.out.below hb H1.out.lt)
    clear hb nb
    go_wp2_with (refine storeRnQ rfl _ _ rfl u3 ⟨F2, op2, fa2, pr2, wh2⟩ R2 hR2 rfl rfl rfl ?_; intro u4 hx hN; refine StopS.out ?_)
    refine ⟨?_⟩
    replace HT := Lib.hid (show RTw w ⟨8, xa, xb, t0, t1, t2, t3, mn, mx, md, nn, ff⟩ u4 from ⟨HT.out.below.trans (hN.out.mono HT.out.below.size), HT.out.node.below hN.out HT.out.node.lt, HT.out.res.below hN.out HT.out.res.lt⟩)
    replace H1 := Lib.hid (H1.out.below hN.out H1.out.lt)
    have H2 := Lib.hid hx.out
    clear hx hN
    go_wp2_with (refine loadRsQ rfl _ rfl u1.heap.size ⟨F1, true, fa1, pr1, wh1⟩ B1 hB1 rfl H1.out (StopS.out ?_))
    refine ⟨?_⟩
    go_wp2_with (refine loadRsQ rfl _ rfl u3.heap.size ⟨F2, op2, fa2, pr2, wh2⟩ B2 hB2 rfl H2.out (StopS.out ?_))
    refine ⟨?_⟩
    go_wp2_with fail
    refine (HO.out _).mono ?_
    rintro e u5 ⟨rfl, hb⟩
    replace HT := Lib.hid (HT.out.call hb)
    replace H1 := Lib.hid (H1.out.below hb H1.out.lt)
    replace H2 := Lib.hid (H2.out.below hb H2.out.lt)
    have HL5 := Lib.hid (And.intro HT.out.res.lt HT.out.node.lt)
    have HM1 := Lib.hid H1.out.lt
    have HM2 := Lib.hid H2.out.lt
    clear hb HO
    go_wp2_with (refine storeAnQ rfl _ _ rfl u5 (F1 ||| F2) B3 hB3 rfl rfl rfl ?_; intro u6 hx hN; refine StopS.out ?_)
    refine ⟨?_⟩
    replace HT := Lib.hid (show RTw w ⟨8, xa, xb, t0, t1, t2, t3, mn, mx, md, nn, ff⟩ u6 from ⟨HT.out.below.trans (hN.out.mono HT.out.below.size), HT.out.node.below hN.out HT.out.node.lt, HT.out.res.below hN.out HT.out.res.lt⟩)
    replace H1 := Lib.hid (H1.out.below hN.out H1.out.lt)
    replace H2 := Lib.hid (H2.out.below hN.out H2.out.lt)
    have H3 := Lib.hid hx.out
    clear hx hN
    have nk : u6.cell? ⟨w.heap.size, 0, none⟩ = some (.int .i64 8) := HT.out.node.get 0 rfl
    have a0 := BoxR.op H1.out
    dsimp only at a0
    have na : u6.cell? ⟨w.heap.size, 1, none⟩ = some (.int .i64 xa) := HT.out.node.get 1 rfl
    go_wp2_with fail
    refine (HLEN.out _ HT.out.below).mono ?_
    rintro e u8 ⟨rfl, hb⟩
    replace HT := Lib.hid (HT.out.call hb)
    replace H1 := Lib.hid (H1.out.below hb H1.out.lt)
    replace H2 := Lib.hid (H2.out.below hb H2.out.lt)
    replace H3 := Lib.hid (H3.out.below hb H3.out.lt)
    clear hb na HLEN
    have a0 := BoxR.op H1.out
    have a1 := BoxR.fa H1.out
    have a2 := BoxR.pr H1.out
    have b0 := BoxR.op H2.out
    have b1 := BoxR.fa H2.out
    have b2 := BoxR.pr H2.out
    dsimp only at a0 a1 a2 b0 b1 b2
    cases wh1
    all_goals
      first
      | (obtain ⟨rfl, rfl⟩ := HNO.out rfl
         go_wp2_with (refine loadAQ rfl _ rfl u5.heap.size (F1 ||| F2) B3 hB3 rfl H3.out (StopS.out ?_)))
      | (go_wp2_with fail
         refine (HCUT.out (by first | rfl | trivial) _).mono ?_
         rintro e u9 ⟨rfl, rfl⟩
         go_wp2_with (refine loadAQ rfl _ rfl u5.heap.size (F1 ||| F2) B3 hB3 rfl H3.out (StopS.out ?_)))
      refine ⟨?_⟩
      refine lineY (S := fun u => u = u8) (.pointer (some ⟨u1.heap.size, 256, none⟩)) (yields (by rfl) (fun w => by kernel_rfl)) rfl ?_
      simp only [Act.put, List.setIfInBounds_toArray, List.set_cons_zero, List.set_cons_succ]
      refine lineY (S := fun u => u = u8) (.bool true) (loadB9_y u1.heap.size 256 true (fun u h => by subst h; exact a0) rfl rfl (by rfl)) rfl ?_
      simp only [Act.put, List.setIfInBounds_toArray, List.set_cons_zero, List.set_cons_succ]
      refine lineY (S := fun u => u = u8) (.bool true) (yields (by rfl) (fun w => by kernel_rfl)) rfl ?_
      simp only [Act.put, List.setIfInBounds_toArray, List.set_cons_zero, List.set_cons_succ]
      refine lineY (S := fun u => u = u8) (.pointer (some ⟨u3.heap.size, 256, none⟩)) (yields (by rfl) (fun w => by kernel_rfl)) rfl ?_
      simp only [Act.put, List.setIfInBounds_toArray, List.set_cons_zero, List.set_cons_succ]
      refine lineY (S := fun u => u = u8) (.bool op2) (loadB9_y u3.heap.size 256 op2 (fun u h => by subst h; exact b0) rfl rfl (by rfl)) rfl ?_
      simp only [Act.put, List.setIfInBounds_toArray, List.set_cons_zero, List.set_cons_succ]
      refine lineY (S := fun u => u = u8) (.bool op2) (yields (by rfl) (fun w => by kernel_rfl)) rfl ?_
      simp only [Act.put, List.setIfInBounds_toArray, List.set_cons_zero, List.set_cons_succ]
      refine lineY (S := fun u => u = u8) (.pointer (some ⟨u1.heap.size, 257, none⟩)) (yields (by rfl) (fun w => by kernel_rfl)) rfl ?_
      simp only [Act.put, List.setIfInBounds_toArray, List.set_cons_zero, List.set_cons_succ]
      refine lineY (S := fun u => u = u8) (.bool fa1) (loadB9_y u1.heap.size 257 fa1 (fun u h => by subst h; exact a1) rfl rfl (by rfl)) rfl ?_
      simp only [Act.put, List.setIfInBounds_toArray, List.set_cons_zero, List.set_cons_succ]
      refine lineY (S := fun u => u = u8) (.bool fa1) (yields (by rfl) (fun w => by kernel_rfl)) rfl ?_
      simp only [Act.put, List.setIfInBounds_toArray, List.set_cons_zero, List.set_cons_succ]
      refine lineY (S := fun u => u = u8) (cond fa1 undef (.pointer (some ⟨u3.heap.size, 257, none⟩))) (by cases fa1 <;> first | exact yields (by rfl) (fun w => by kernel_rfl) | exact skipped (by rfl)) rfl ?_
      simp only [Act.put, List.setIfInBounds_toArray, List.set_cons_zero, List.set_cons_succ]
      refine lineY (S := fun u => u = u8) (cond fa1 undef (.bool fa2)) (by cases fa1 <;> first | exact loadB9_y u3.heap.size 257 _ (fun u h => by subst h; exact b1) rfl rfl (by rfl) | exact skipped (by rfl)) rfl ?_
      simp only [Act.put, List.setIfInBounds_toArray, List.set_cons_zero, List.set_cons_succ]
      refine lineY (S := fun u => u = u8) (cond fa1 undef (.bool fa2)) (by cases fa1 <;> first | exact yields (by rfl) (fun w => by kernel_rfl) | exact skipped (by rfl)) rfl ?_
      simp only [Act.put, List.setIfInBounds_toArray, List.set_cons_zero, List.set_cons_succ]
      refine lineY (S := fun u => u = u8) (cond fa1 undef (cond fa2 (.int .i64 hi) undef)) (by cases fa1 <;> cases fa2 <;> first | exact yields (by rfl) (fun w => by kernel_rfl) | exact skipped (by rfl)) rfl ?_
      simp only [Act.put, List.setIfInBounds_toArray, List.set_cons_zero, List.set_cons_succ]
      refine lineY (S := fun u => u = u8) (cond fa1 undef (cond fa2 (.bool z) undef)) (by cases fa1 <;> cases fa2 <;> first | exact eqlI9c_y _ hz rfl rfl rfl (by rfl) | exact skipped (by rfl)) rfl ?_
      simp only [Act.put, List.setIfInBounds_toArray, List.set_cons_zero, List.set_cons_succ]
      refine lineY (S := fun u => u = u8) (cond fa1 undef (.bool (fa2 && z))) (by cases fa1 <;> cases fa2 <;> first | exact yields (by rfl) (fun w => by kernel_rfl) | exact skipped (by rfl)) rfl ?_
      simp only [Act.put, List.setIfInBounds_toArray, List.set_cons_zero, List.set_cons_succ]
      refine lineY (S := fun u => u = u8) (.bool (fa1 || (fa2 && z))) (by cases fa1 <;> cases fa2 <;> first | exact yields (by rfl) (fun w => by kernel_rfl) | exact skipped (by rfl)) rfl ?_
      simp only [Act.put, List.setIfInBounds_toArray, List.set_cons_zero, List.set_cons_succ]
      clear a0 a1 a2 b0 b1 b2
      generalize hbv : (fa1 || (fa2 && z)) = bv at hR3 ⊢
      go_wp2_with (first | (refine buildRQ rfl _ B3 R3 (by exact hB3) hR3 rfl rfl rfl rfl rfl ?_) | (refine storeRfQ rfl _ _ rfl (w.heap.size + 1) _ zrK R3 hR3 rfl rfl HT.out.res ?_; intro u10 hx9 hB9 _; refine StopS.out ?_))
      refine ⟨?_⟩
      go_wp2_with fail
      refine bodyPost_ret (by rw [← hR3.out]; exact resRb9 (p := 4) (q := 5) rfl _ (g := w.heap.size + 1) rfl rfl hx9.out) rfl ⟨rfl, ?_⟩
      exact HT.out.below.trans (hB9.out _ (by omega))
end Go.Proofs.YtkpijnodhlonfaaGreatDoor
