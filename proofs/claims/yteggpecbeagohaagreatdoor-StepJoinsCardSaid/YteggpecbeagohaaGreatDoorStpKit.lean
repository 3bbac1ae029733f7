import Derived.Test.YteggpecbeagohaaGreatDoorStpPut
import Derived.Deep.Onto
namespace Go.Proofs.YteggpecbeagohaaGreatDoor.Stp
open Go.RowKit
open Frm (Fr Pl frC frL frI dpI putF zF Wf mayF idF I64 BoxV ptr slc plL plC loadFr storeFr resFB getF sizeFr)
open Cap (Cp cpC zrC withZ agN agB)
theorem sizeCf : (Tryz.prog.info? 28).map (·.size) = some 29 := by kernel_rfl
theorem sizeSq : (Tryz.prog.info? 53).map (·.size) = some 60 := by kernel_rfl
theorem cfA_size (x : Cf) : (cfA x).size = 29 := by rw [cfA, List.size_toArray, cfL_len]
theorem sqA_size (x : Sq) : (sqA x).size = 60 := by rw [sqA, List.size_toArray, sqL_len]
theorem cf_get0 (x : Cf) : (cfA x)[0]? = some (.int .i64 x.f) := by rw [cfA, List.getElem?_toArray]; rfl
theorem cf_get1 (x : Cf) : (cfA x)[1]? = some (.int .i64 x.p) := by rw [cfA, List.getElem?_toArray]; rfl
theorem cf_set0 (x : Cf) (i : Int) : (cfA x).setIfInBounds 0 (.int .i64 i) = cfA (x.on i) := by rw [cfA, List.setIfInBounds_toArray]; rfl
theorem cf_set1 (x : Cf) (q : Int) : (cfA x).setIfInBounds 1 (.int .i64 q) = cfA ⟨x.f, q, x.c⟩ := by rw [cfA, List.setIfInBounds_toArray]; rfl
theorem cfA_one (x : Cf) : ((cfA x).all fun u => u.oneCell') = true := by kernel_rfl
theorem sqA_one (x : Sq) : ((sqA x).all fun u => u.oneCell') = true := by kernel_rfl
section
variable {ops : Array Oper} {rest : List Oper} {o : Oper} {a : Act} {w : World} {Q : Exit → Act → World → Prop}
theorem loadCf (hgd : o.guard = none) (x : Operand) (ho : o.op = .load 28 x) (g : Nat) (c : Cf) (hx : a.eval x = .pointer (some ⟨g, 0, none⟩)) (hg : BoxV 28 w g (cfA c))
  (h : wpList Tryz.prog ops Q rest (a.put o.dst (.agg (cfA c))) w) : wpList Tryz.prog ops Q (o :: rest) a w :=
 wpList_load_row hgd 28 x ho g hx _ _ _ _ hg Tryz.underlying28 rfl sizeCf h
theorem storeCf (hgd : o.guard = none) (x y : Operand) (ho : o.op = .store 28 x y) (g : Nat) (c : Cf) (cs : Array Value) (hx : a.eval x = .pointer (some ⟨g, 0, none⟩)) (hy : a.eval y = .agg (cfA c)) (hs : cs.size = 29) (hg : BoxV 28 w g cs)
  (h : ∀ u : World, Hid (BoxV 28 u g (cfA c)) → Hid (∀ B, B ≤ g → Below B w u) → Hid (∀ j, j ≠ g → u.heap[j]? = w.heap[j]?) → wpList Tryz.prog ops Q rest (a.put o.dst undef) u) : wpList Tryz.prog ops Q (o :: rest) a w := by
 refine wpList_store_row hgd 28 x y ho g _ hx hy _ _ hg sizeCf (by rw [hs, cfA_size]) (cfA_one c) ?_
 exact h _ (Lib.hid (setRow_heap w g _ _ _ _ hg)) (Lib.hid fun B hB => (Below.refl _ w).trans ⟨rfl, rfl, rfl, by simp, fun k hk => setRow_other w g k _ (by omega)⟩) (Lib.hid fun k hk => setRow_other w g k _ hk)
theorem storeSq (hgd : o.guard = none) (x y : Operand) (ho : o.op = .store 53 x y) (g : Nat) (c : Sq) (cs : Array Value) (hx : a.eval x = .pointer (some ⟨g, 0, none⟩)) (hy : a.eval y = .agg (sqA c)) (hs : cs.size = 60) (hg : BoxV 53 w g cs)
  (h : ∀ u : World, Hid (BoxV 53 u g (sqA c)) → Hid (∀ B, B ≤ g → Below B w u) → Hid (∀ j, j ≠ g → u.heap[j]? = w.heap[j]?) → wpList Tryz.prog ops Q rest (a.put o.dst undef) u) : wpList Tryz.prog ops Q (o :: rest) a w := by
 refine wpList_store_row hgd 53 x y ho g _ hx hy _ _ hg sizeSq (by rw [hs, sqA_size]) (sqA_one c) ?_
 exact h _ (Lib.hid (setRow_heap w g _ _ _ _ hg)) (Lib.hid fun B hB => (Below.refl _ w).trans ⟨rfl, rfl, rfl, by simp, fun k hk => setRow_other w g k _ (by omega)⟩) (Lib.hid fun k hk => setRow_other w g k _ hk)
theorem lineW {P : Program} (v : Value) (w' : World) (hw : Region.wanted o (yielded ops a.tmps) = true) (hr : (execOp a.eval o).run P w = .ok (.value v) w') (h : wpList P ops Q rest (a.put o.dst v) w') : wpList P ops Q (o :: rest) a w := by
 refine wpList_step fun K hK => ?_
 rw [if_pos hw]
 unfold Oper.wp
 rw [hr, Oper.upon_value]
 exact hK _ _ h
end
theorem cI {a : Act} (n : Int) : a.eval (.const (.int .i64 n)) = .int .i64 n := rfl
section
variable {o : Oper} {a : Act} {w : World} {x y z : Operand}
theorem bGo (c : Cf) (ho : o.op = .build 53 #[(0, .const (.int .i64 2)), (2, x)]) (hx : a.eval x = .agg (cfA c)) : (execOp a.eval o).run Tryz.prog w = .ok (.value (.agg (sqA (goQ c)))) w := by
 unfold execOp
 simp only [ho]
 rw [show (#[(0, Operand.const (.int .i64 2)), (2, x)] : Array (Nat × Operand)).map (fun (z : Nat × Operand) => match z with | (i, t) => (i, a.eval t)) = #[(0, .int .i64 2), (2, .agg (cfA c))] by simp [hx, cI]]
 kernel_rfl
theorem bCho (c d : Cf) (ho : o.op = .build 53 #[(0, .const (.int .i64 3)), (2, x), (3, y)]) (hx : a.eval x = .agg (cfA c)) (hy : a.eval y = .agg (cfA d)) : (execOp a.eval o).run Tryz.prog w = .ok (.value (.agg (sqA (choQ c d)))) w := by
 unfold execOp
 simp only [ho]
 rw [show (#[(0, Operand.const (.int .i64 3)), (2, x), (3, y)] : Array (Nat × Operand)).map (fun (z : Nat × Operand) => match z with | (i, t) => (i, a.eval t)) = #[(0, .int .i64 3), (2, .agg (cfA c)), (3, .agg (cfA d))] by simp [hx, hy, cI]]
 kernel_rfl
theorem bSub (h : Int) (c d : Cf) (ho : o.op = .build 53 #[(0, .const (.int .i64 4)), (1, z), (2, x), (3, y)]) (hz : a.eval z = .int .i64 h) (hx : a.eval x = .agg (cfA c)) (hy : a.eval y = .agg (cfA d)) : (execOp a.eval o).run Tryz.prog w = .ok (.value (.agg (sqA (subQ h c d)))) w := by
 unfold execOp
 simp only [ho]
 rw [show (#[(0, Operand.const (.int .i64 4)), (1, z), (2, x), (3, y)] : Array (Nat × Operand)).map (fun (z : Nat × Operand) => match z with | (i, t) => (i, a.eval t)) = #[(0, .int .i64 4), (1, .int .i64 h), (2, .agg (cfA c)), (3, .agg (cfA d))] by simp [hx, hy, hz, cI]]
 kernel_rfl
theorem bNo (ho : o.op = .build 53 #[]) : (execOp a.eval o).run Tryz.prog w = .ok (.value (.agg (sqA failQ))) w := by
 unfold execOp
 simp only [ho]
 kernel_rfl
theorem bK (k : Int) (hk : k = 0 ∨ k = 1) (ho : o.op = .build 53 #[(0, .const (.int .i64 k))]) : (execOp a.eval o).run Tryz.prog w = .ok (.value (.agg (sqA ⟨k, 0, zCf, zCf⟩))) w := by
 unfold execOp
 simp only [ho]
 rw [show (#[(0, Operand.const (.int .i64 k))] : Array (Nat × Operand)).map (fun (z : Nat × Operand) => match z with | (i, t) => (i, a.eval t)) = #[(0, .int .i64 k)] by simp [cI]]
 rcases hk with rfl | rfl <;> kernel_rfl
theorem bCf0 (ho : o.op = .build 28 #[]) : (execOp a.eval o).run Tryz.prog w = .ok (.value (.agg (cfA zCf))) w := by
 unfold execOp
 simp only [ho]
 kernel_rfl
theorem bCf (i p : Int) (ho : o.op = .build 28 #[(0, x), (1, y)]) (hx : a.eval x = .int .i64 i) (hy : a.eval y = .int .i64 p) : (execOp a.eval o).run Tryz.prog w = .ok (.value (.agg (cfA ⟨i, p, zrC⟩))) w := by
 unfold execOp
 simp only [ho]
 rw [show (#[(0, x), (1, y)] : Array (Nat × Operand)).map (fun (z : Nat × Operand) => match z with | (i, t) => (i, a.eval t)) = #[(0, .int .i64 i), (1, .int .i64 p)] by simp [hx, hy]]
 kernel_rfl
end
theorem resC {fn : Func} {p : Tmp} (h : fn.results = #[.cell p 28]) (tmps : Array Value) {w : World} {g : Nat} {c : Cf} (hp : tmps.getD p undef = .pointer (some ⟨g, 0, none⟩)) (hg : BoxV 28 w g (cfA c)) :
  (results fn tmps).run Tryz.prog w = .ok (.agg (cfA c)) w := by
 have hp' : tmps[p]?.getD undef = .pointer (some ⟨g, 0, none⟩) := by simpa using hp
 have hl := run_loadVar_row w g _ 28 _ _ _ hg Tryz.underlying28 rfl sizeCf
 simp [results, h, hp', asAddr, hl]
theorem resS {fn : Func} {p : Tmp} (h : fn.results = #[.cell p 53]) (tmps : Array Value) {w : World} {g : Nat} {c : Sq} (hp : tmps.getD p undef = .pointer (some ⟨g, 0, none⟩)) (hg : BoxV 53 w g (sqA c)) :
  (results fn tmps).run Tryz.prog w = .ok (.agg (sqA c)) w := by
 have hp' : tmps[p]?.getD undef = .pointer (some ⟨g, 0, none⟩) := by simpa using hp
 have hl := run_loadVar_row w g _ 53 _ _ _ hg Tryz.underlying53 rfl sizeSq
 simp [results, h, hp', asAddr, hl]
theorem resSE {fn : Func} {p q : Tmp} {v : Value} (h : fn.results = #[.cell p 53, .tmp q]) (tmps : Array Value) {w : World} {g : Nat} {c : Sq} (hp : tmps.getD p undef = .pointer (some ⟨g, 0, none⟩)) (hq : tmps.getD q undef = v) (hg : BoxV 53 w g (sqA c)) :
  (results fn tmps).run Tryz.prog w = .ok (.tuple #[.agg (sqA c), v]) w := by
 have hp' : tmps[p]?.getD undef = .pointer (some ⟨g, 0, none⟩) := by simpa using hp
 have hq' : tmps[q]?.getD undef = v := by simpa using hq
 have hl := run_loadVar_row w g _ 53 _ _ _ hg Tryz.underlying53 rfl sizeSq
 simp [results, h, hp', hq', asAddr, hl]
theorem resCE {fn : Func} {p q : Tmp} {v : Value} (h : fn.results = #[.cell p 28, .tmp q]) (tmps : Array Value) {w : World} {g : Nat} {c : Cf} (hp : tmps.getD p undef = .pointer (some ⟨g, 0, none⟩)) (hq : tmps.getD q undef = v) (hg : BoxV 28 w g (cfA c)) :
  (results fn tmps).run Tryz.prog w = .ok (.tuple #[.agg (cfA c), v]) w := by
 have hp' : tmps[p]?.getD undef = .pointer (some ⟨g, 0, none⟩) := by simpa using hp
 have hq' : tmps[q]?.getD undef = v := by simpa using hq
 have hl := run_loadVar_row w g _ 28 _ _ _ hg Tryz.underlying28 rfl sizeCf
 simp [results, h, hp', hq', asAddr, hl]
structure New (T : TypeId) (cs : Array Value) (w u : World) : Prop where
 box : BoxV T u w.heap.size cs
 low : Below w.heap.size w u
 size : u.heap.size = w.heap.size + 1
theorem New.of (T : TypeId) (cs : Array Value) (w : World) : New T cs w (w.alloc (.cells cs T)) := ⟨BoxV.new w _, (Below.refl _ w).alloc (Nat.le_refl _) _, by simp⟩
structure Put (T : TypeId) (g : Nat) (cs : Array Value) (w u : World) : Prop where
 box : BoxV T u g cs
 low : ∀ B, B ≤ g → Below B w u
 other : ∀ j, j ≠ g → u.heap[j]? = w.heap[j]?
section
variable {ops : Array Oper} {rest : List Oper} {o : Oper} {a : Act} {w : World} {Q : Exit → Act → World → Prop}
theorem boxCf (x : Operand) (ho : o.op = .box 28 x) (c : Cf) (hx : a.eval x = .agg (cfA c)) (hw : Region.wanted o (yielded ops a.tmps) = true)
  (h : ∀ u, Hid (New 28 (cfA c) w u) → wpList Tryz.prog ops Q rest (a.put o.dst (.pointer (some ⟨w.heap.size, 0, none⟩))) u) : wpList Tryz.prog ops Q (o :: rest) a w :=
 lineW _ _ hw (by unfold execOp; simp only [ho, hx]; rfl) (h _ (Lib.hid (New.of _ _ _)))
theorem allocCf (ho : o.op = .alloc 28) (hw : Region.wanted o (yielded ops a.tmps) = true)
  (h : ∀ u, Hid (New 28 (cfA zCf) w u) → wpList Tryz.prog ops Q rest (a.put o.dst (.pointer (some ⟨w.heap.size, 0, none⟩))) u) : wpList Tryz.prog ops Q (o :: rest) a w :=
 lineW _ (w.alloc (.cells (cfA zCf) 28)) hw (by unfold execOp; simp only [ho]; kernel_rfl) (h _ (Lib.hid (New.of _ _ _)))
theorem allocSq (ho : o.op = .alloc 53) (hw : Region.wanted o (yielded ops a.tmps) = true)
  (h : ∀ u, Hid (New 53 (sqA failQ) w u) → wpList Tryz.prog ops Q rest (a.put o.dst (.pointer (some ⟨w.heap.size, 0, none⟩))) u) : wpList Tryz.prog ops Q (o :: rest) a w :=
 lineW _ (w.alloc (.cells (sqA failQ) 53)) hw (by unfold execOp; simp only [ho]; kernel_rfl) (h _ (Lib.hid (New.of _ _ _)))
theorem putCf (hgd : o.guard = none) (x y : Operand) (ho : o.op = .store 28 x y) (g : Nat) (c : Cf) (cs : Array Value) (hx : a.eval x = .pointer (some ⟨g, 0, none⟩)) (hy : a.eval y = .agg (cfA c)) (hs : cs.size = 29) (hg : BoxV 28 w g cs)
  (h : ∀ u, Hid (Put 28 g (cfA c) w u) → wpList Tryz.prog ops Q rest (a.put o.dst undef) u) : wpList Tryz.prog ops Q (o :: rest) a w :=
 storeCf hgd x y ho g c cs hx hy hs hg fun u h1 h2 h3 => h u (Lib.hid ⟨h1.out, h2.out, h3.out⟩)
theorem putSq (hgd : o.guard = none) (x y : Operand) (ho : o.op = .store 53 x y) (g : Nat) (c : Sq) (cs : Array Value) (hx : a.eval x = .pointer (some ⟨g, 0, none⟩)) (hy : a.eval y = .agg (sqA c)) (hs : cs.size = 60) (hg : BoxV 53 w g cs)
  (h : ∀ u, Hid (Put 53 g (sqA c) w u) → wpList Tryz.prog ops Q rest (a.put o.dst undef) u) : wpList Tryz.prog ops Q (o :: rest) a w :=
 storeSq hgd x y ho g c cs hx hy hs hg fun u h1 h2 h3 => h u (Lib.hid ⟨h1.out, h2.out, h3.out⟩)
theorem putI (T : TypeId) (hgd : o.guard = none) (x y : Operand) (ho : o.op = .store 3 x y) (g j : Nat) (n n0 : Int) (cs : Array Value) (hx : a.eval x = .pointer (some ⟨g, j, none⟩)) (hy : a.eval y = .int .i64 n) (hg : BoxV T w g cs) (h0 : cs[j]? = some (.int .i64 n0))
  (h : ∀ u, Hid (Put T g (cs.setIfInBounds j (.int .i64 n)) w u) → wpList Tryz.prog ops Q rest (a.put o.dst undef) u) : wpList Tryz.prog ops Q (o :: rest) a w := by
 have hf := hg.free j
 have hc := hg.get j h0
 have hr : (execOp a.eval o).run Tryz.prog w = .ok .skip (w.setCell ⟨g, j, none⟩ (.int .i64 n)) := by
  unfold execOp
  simp only [ho, hx, hy]
  simp [go_sem, hf, hc]
 refine wpList_step fun K hK => ?_
 rw [if_pos (by simp [Region.wanted, hgd])]
 unfold Oper.wp
 rw [hr]
 exact hK _ _ (h _ (Lib.hid ⟨hg.put j _, fun B hB => (Below.refl B w).setCell hB _, fun k hk => heap_setCell_other _ _ _ _ (fun e => hk e)⟩))
end
set_option maxRecDepth 100000 in
set_option maxHeartbeats 2000000 in
theorem then_any (x : Cf) (i : Int) (w : World) : Calls Tryz.prog 15 #[.agg (cfA x), .int .i64 i] w fun e w' => e = .returned (.agg (cfA (x.on i))) ∧ Below w.heap.size w w' := by
 go_enter Tryz.func15, Tryz.ntmps15
 go_wp2_with (refine boxCf _ rfl x rfl (by rfl) ?_)
 intro u1 X1
 go_wp2_with (refine allocCf rfl (by rfl) ?_)
 intro u2 X2
 have B2 := Lib.hid (X1.out.box.below X2.out.low (by have := X1.out.size; omega))
 go_wp2_with (refine putI 28 rfl _ _ rfl w.heap.size 0 i x.f (cfA x) rfl rfl B2.out (cf_get0 x) ?_)
 intro u3 X3
 rw [cf_set0] at X3
 go_wp2_with (first | refine loadCf rfl _ rfl w.heap.size (x.on i) rfl X3.out.box ?_ | refine putCf rfl _ _ rfl u1.heap.size (x.on i) (cfA zCf) rfl rfl (cfA_size _) ((X3.out.other _ (by have := X1.out.size; omega)).trans X2.out.box) ?_)
 intro u4 X4
 go_wp2_with fail
 refine bodyPost_ret (resC rfl _ (g := u1.heap.size) rfl X4.out.box) rfl ⟨rfl, ?_⟩
 exact X1.out.low.trans ((X2.out.low.mono (by have := X1.out.size; omega)).trans ((X3.out.low _ (Nat.le_refl _)).trans (X4.out.low _ (by have := X1.out.size; omega))))
set_option maxRecDepth 100000 in
set_option maxHeartbeats 2000000 in
theorem goTo_any (x : Cf) (w : World) : Calls Tryz.prog 68 #[.agg (cfA x)] w fun e w' => e = .returned (.agg (sqA (goQ x))) ∧ Below w.heap.size w w' := by
 go_enter Tryz.func68, Tryz.ntmps68
 go_wp2_with (refine boxCf _ rfl x rfl (by rfl) ?_)
 intro u1 X1
 go_wp2_with (refine allocSq rfl (by rfl) ?_)
 intro u2 X2
 have B2 := Lib.hid (X1.out.box.below X2.out.low (by have := X1.out.size; omega))
 go_wp2_with (first | refine loadCf rfl _ rfl w.heap.size x rfl B2.out ?_ | refine lineW _ _ (by rfl) (bGo x rfl rfl) ?_ | refine putSq rfl _ _ rfl u1.heap.size (goQ x) (sqA failQ) rfl rfl (sqA_size _) X2.out.box ?_)
 intro u3 X3
 go_wp2_with fail
 refine bodyPost_ret (resS rfl _ (g := u1.heap.size) rfl X3.out.box) rfl ⟨rfl, ?_⟩
 exact X1.out.low.trans ((X2.out.low.mono (by have := X1.out.size; omega)).trans (X3.out.low _ (by have := X1.out.size; omega)))
set_option maxRecDepth 100000 in
set_option maxHeartbeats 2000000 in
theorem goIf_any (b : Bool) (x : Cf) (w : World) : Calls Tryz.prog 94 #[.bool b, .agg (cfA x)] w fun e w' => e = .returned (.agg (sqA (goIfQ b x))) ∧ Below w.heap.size w w' := by
 go_enter Tryz.func94, Tryz.ntmps94
 go_wp2_with (refine boxCf _ rfl x rfl (by rfl) ?_)
 intro u1 X1
 go_wp2_with (refine allocSq rfl (by rfl) ?_)
 intro u2 X2
 have B2 := Lib.hid (X1.out.box.below X2.out.low (by have := X1.out.size; omega))
 cases b with
 | false =>
   go_wp2_with (first | refine lineW _ _ (by rfl) (bK 0 (.inl rfl) rfl) ?_ | refine putSq rfl _ _ rfl u1.heap.size failQ (sqA failQ) rfl rfl (sqA_size _) X2.out.box ?_)
   intro u3 X3
   go_wp2_with fail
   refine bodyPost_ret (resS rfl _ (g := u1.heap.size) rfl X3.out.box) rfl ⟨rfl, ?_⟩
   exact X1.out.low.trans ((X2.out.low.mono (by have := X1.out.size; omega)).trans (X3.out.low _ (by have := X1.out.size; omega)))
 | true =>
   go_wp2_with (refine loadCf rfl _ rfl w.heap.size x rfl B2.out ?_)
   refine (goTo_any x _).mono ?_
   rintro e u3 ⟨rfl, hB⟩
   have Z := Lib.hid (X2.out.box.below hB (by have := X2.out.size; omega))
   have HB := Lib.hid hB
   clear hB
   go_wp2_with (refine putSq rfl _ _ rfl u1.heap.size (goQ x) (sqA failQ) rfl rfl (sqA_size _) Z.out ?_)
   intro u4 X4
   go_wp2_with fail
   refine bodyPost_ret (resS rfl _ (g := u1.heap.size) rfl X4.out.box) rfl ⟨rfl, ?_⟩
   have := X1.out.size
   have := X2.out.size
   exact X1.out.low.trans ((X2.out.low.mono (by omega)).trans ((HB.out.mono (by omega)).trans (X4.out.low _ (by omega))))
theorem resFr {fn : Func} {p : Tmp} (h : fn.results = #[.cell p 90]) (tmps : Array Value) {w : World} {g : Nat} {f : Fr} (hp : tmps.getD p undef = .pointer (some ⟨g, 0, none⟩)) (hg : BoxV 90 w g (frC f)) :
  (results fn tmps).run Tryz.prog w = .ok (.agg (frC f)) w := by
 have hp' : tmps[p]?.getD undef = .pointer (some ⟨g, 0, none⟩) := by simpa using hp
 have hl := run_loadVar_row w g _ 90 _ _ _ hg Tryz.underlying90 rfl sizeFr
 simp [results, h, hp', asAddr, hl]
set_option maxRecDepth 100000 in
set_option maxHeartbeats 2000000 in
theorem toDo_any (i : Int) (w : World) : Calls Tryz.prog 27 #[.int .i64 i] w fun e w' => e = .returned (.agg (frC (toDo i))) ∧ Below w.heap.size w w' := by
 have HZ := Lib.hid (BoxV.new (T := 90) w (frC zF))
 have HB := Lib.hid (show Below w.heap.size w (w.alloc (.cells (frC zF) 90)) from (Below.refl _ w).alloc (Nat.le_refl _) _)
 go_enter Tryz.func27, Tryz.ntmps27
 go_wp2_with (refine storeFr rfl _ _ rfl w.heap.size zF (toDo i) rfl rfl HZ.out ?_)
 intro u X1 X2
 go_wp2_with fail
 refine bodyPost_ret (resFr rfl _ (g := w.heap.size) rfl X1.out) rfl ⟨rfl, ?_⟩
 exact HB.out.trans (X2.out _ (Nat.le_refl _))
end Go.Proofs.YteggpecbeagohaaGreatDoor.Stp
