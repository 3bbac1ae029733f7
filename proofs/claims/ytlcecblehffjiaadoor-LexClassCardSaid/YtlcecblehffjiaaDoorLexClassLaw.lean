/-
  Layer 6: the walk of the statement on classes.
-/
import Derived.Test.YtlcecblehffjiaaDoorLexClsOut
namespace Go.Proofs.YtlcecblehffjiaaDoor
open Go.RowKit

theorem eqWords (A : BitVec 256) (ops : Array Oper) (a : Act) (o : Oper) (x y : Operand) (R : World → Prop) (ho : o.op = .binOp .eql 34 x y 34) (hx : a.eval x = setV A) (hy : a.eval y = setV A) (hw : Region.wanted o (yielded ops a.tmps) = true) : YieldsIf Tryd.prog ops R o (.bool true) a := by
  refine Or.inl ⟨hw, fun w _ => ?_⟩
  unfold execOp
  simp only [ho, hx, hy]
  go_simp
theorem eqInt_y {ops : Array Oper} {a : Act} {o : Oper} {x y : Operand} {R : World → Prop} (n : Int) (ho : o.op = .binOp .eql 3 x y 3) (hx : a.eval x = .int .i64 n) (hy : a.eval y = .int .i64 n) (hw : Region.wanted o (yielded ops a.tmps) = true) : YieldsIf Tryd.prog ops R o (.bool true) a := by
  refine Or.inl ⟨hw, fun w _ => ?_⟩
  unfold execOp
  simp only [ho, hx, hy]
  go_simp
theorem eqErr_y {ops : Array Oper} {a : Act} {o : Oper} {x y : Operand} {R : World → Prop} (n : Int) (ho : o.op = .binOp .eql 23 x y 23) (hx : a.eval x = .int .i64 n) (hy : a.eval y = .int .i64 n) (hw : Region.wanted o (yielded ops a.tmps) = true) : YieldsIf Tryd.prog ops R o (.bool true) a := by
  refine Or.inl ⟨hw, fun w _ => ?_⟩
  unfold execOp
  simp only [ho, hx, hy]
  go_simp
theorem loadWords {ops : Array Oper} {a : Act} {o : Oper} {x : Operand} {R : World → Prop} (g : Nat) (U : BitVec 256) (hR : ∀ u, R u → Box u g U ∨ BoxZ u g (W U 0) (W U 1) (W U 2) (W U 3)) (ho : o.op = .load 34 x) (hx : a.eval x = .pointer (some ⟨g, 0, none⟩)) (hw : Region.wanted o (yielded ops a.tmps) = true) : YieldsIf Tryd.prog ops R o (setV U) a := by
  refine Or.inl ⟨hw, fun w h => ?_⟩
  rcases hR w h with hb | hb
  · unfold execOp
    simp only [ho, hx, Instr.loadAt, Instr.sureAddr, Sem.run_bind, Sem.run_pure, Result.andThen_ok, run_loadVar_row w g _ _ _ _ _ hb Tryd.underlying34 rfl (by kernel_rfl)]
  · unfold execOp
    simp only [ho, hx, Instr.loadAt, Instr.sureAddr, Sem.run_bind, Sem.run_pure, Result.andThen_ok, run_loadVar_row w g _ _ _ _ _ hb Tryd.underlying34 rfl (by kernel_rfl)]
theorem box_new (w : World) (S : BitVec 256) : Box ((w.alloc (.cells #[.int .u64 0, .int .u64 0, .int .u64 0, .int .u64 0] 36)).setRow w.heap.size #[.int .u64 (W S 0), .int .u64 (W S 1), .int .u64 (W S 2), .int .u64 (W S 3)]) w.heap.size S := setRow_heap _ _ _ _ _ _ (heap_alloc_new _ _)
theorem boxZ_new (w : World) (a b c d : Int) : BoxZ ((w.alloc (.cells #[.int .u64 0, .int .u64 0, .int .u64 0, .int .u64 0] 34)).setRow w.heap.size #[.int .u64 a, .int .u64 b, .int .u64 c, .int .u64 d]) w.heap.size a b c d := setRow_heap _ _ _ _ _ _ (heap_alloc_new _ _)
theorem storeNewS {ops : Array Oper} {rest : List Oper} {o : Oper} {a : Act} {w : World} {Q : Exit → Act → World → Prop} (hgd : o.guard = none) (p q : Operand) (ho : o.op = .store 36 p q) (wr : World) (S : BitVec 256) (hx : a.eval p = .pointer (some ⟨wr.heap.size, 0, none⟩)) (hy : a.eval q = setV S) (hw : w = wr.alloc (.cells #[.int .u64 0, .int .u64 0, .int .u64 0, .int .u64 0] 36))
    (h : ∀ u : World, Hid (Box u wr.heap.size S) → Hid (Below wr.heap.size wr u) → wpList Tryd.prog ops Q rest (a.put o.dst undef) u) : wpList Tryd.prog ops Q (o :: rest) a w := by
  subst hw
  refine wpList_store_row hgd 36 p q ho wr.heap.size _ hx hy _ _ (heap_alloc_new _ _) sizeSet rfl (by simp [Value.oneCell']) ?_
  exact h _ (Lib.hid (box_new wr S)) (Lib.hid (below_row ((Below.refl _ wr).alloc (Nat.le_refl _) _) (Nat.le_refl _) _))
theorem storeNewZ {ops : Array Oper} {rest : List Oper} {o : Oper} {a : Act} {w : World} {Q : Exit → Act → World → Prop} (hgd : o.guard = none) (p q : Operand) (ho : o.op = .store 34 p q) (wr : World) (S : BitVec 256) (hx : a.eval p = .pointer (some ⟨wr.heap.size, 0, none⟩)) (hy : a.eval q = setV S) (hw : w = wr.alloc (.cells #[.int .u64 0, .int .u64 0, .int .u64 0, .int .u64 0] 34))
    (h : ∀ u : World, Hid (BoxZ u wr.heap.size (W S 0) (W S 1) (W S 2) (W S 3)) → Hid (Below wr.heap.size wr u) → wpList Tryd.prog ops Q rest (a.put o.dst undef) u) : wpList Tryd.prog ops Q (o :: rest) a w := by
  subst hw
  refine wpList_store_row hgd 34 p q ho wr.heap.size _ hx hy _ _ (heap_alloc_new _ _) sizeArr rfl (by simp [Value.oneCell']) ?_
  exact h _ (Lib.hid (boxZ_new wr _ _ _ _)) (Lib.hid (below_row ((Below.refl _ wr).alloc (Nat.le_refl _) _) (Nat.le_refl _) _))
theorem loadWS {ops : Array Oper} {rest : List Oper} {o : Oper} {a : Act} {w : World} {Q : Exit → Act → World → Prop} (hgd : o.guard = none) (p : Operand) (ho : o.op = .load 34 p) (g : Nat) (S : BitVec 256) (hx : a.eval p = .pointer (some ⟨g, 0, none⟩)) (hg : Box w g S)
    (h : wpList Tryd.prog ops Q rest (a.put o.dst (setV S)) w) : wpList Tryd.prog ops Q (o :: rest) a w :=
  wpList_load_row hgd 34 p ho g hx _ _ _ _ hg Tryd.underlying34 rfl sizeArr h
/-- A goal that the walk leaves alone. -/
def StopC (p : Prop) : Prop := p
theorem stopC {p : Prop} (h : StopC p) : p := h

set_option maxRecDepth 100000 in
set_option maxHeartbeats 16000000 in
theorem lexClass_s (hE : ErrsOk) (hC : CloneOk) (p : ByteArray) (z : Int) (w : World) (hs : p.size ≤ 9223372036854775807) (hw : Tabs w) (hp : p.size ≤ 200) : Calls Tryd.prog 4 #[.string p, .int .i64 z] w fun e w' => e = .returned (.bool true) ∧ Below w.heap.size w w' := by
  have HF := Lib.hid (fun w (h : Tabs w) => fixed_any hE hC w h)
  have HL0 := Lib.hid (fun p (hp : p.size ≤ 1000000) w (h : Tabs w) => class_int hE p z w hp h.err h.tab)
  have HR0 := Lib.hid (fun p (hp : p.size ≤ 1000000) w => rclass_int p z w hp)
  have HT := Lib.hid hw
  clear hw hE hC
  go_enter Tryd.func4, Tryd.ntmps4
  go_wp2_with fail
  have HX := Lib.hid (show p.size ≤ 1000000 by omega)
  obtain ⟨X, rfl⟩ : ∃ X, X = p := ⟨_, rfl⟩
  have HL := Lib.hid (fun w h => HL0.out X HX.out w h)
  have HR := Lib.hid (fun w => HR0.out X HX.out w)
  clear HL0 HR0 hs
  with_reducible refine (HL.out _ HT.out).mono ?_
  obtain ⟨C, hC⟩ : ∃ C, C = classI X z := ⟨_, rfl⟩
  rw [← hC]
  have HR1 := Lib.hid (fun w => by have := HR.out w; rw [← hC] at this; exact this)
  clear hC HR HL
  rintro e w1 ⟨rfl, hb⟩
  have HB1 := Lib.hid hb
  clear hb
  go_wp2_with (refine storeNewS rfl _ _ rfl w1 C.1 rfl rfl rfl ?_; intro w2 hx2 hb2; refine stopC ?_)
  unfold StopC
  go_wp2_with fail
  have HB2 := Lib.hid (thenB HB1.out hb2.out HB1.out.size)
  with_reducible refine (HR1.out _).mono ?_
  rintro e w3 ⟨rfl, hb⟩
  have HB3 := Lib.hid (thenB HB2.out hb HB2.out.size)
  have hx3 := Lib.hid (hx2.out.call hb)
  clear hb
  go_wp2_with (refine storeNewZ rfl _ _ rfl w3 C.1 rfl rfl rfl ?_; intro w4 hx4 hb4; refine stopC ?_)
  unfold StopC
  have HB4 := Lib.hid (thenB HB3.out hb4.out HB3.out.size)
  have hx5 := Lib.hid (hx3.out.call hb4.out)
  have HT4 := Lib.hid (HT.out.call HB4.out)
  go_wp2_with (first | (refine loadWS rfl _ rfl w1.heap.size C.1 rfl hx5.out ?_) | (refine loadZ rfl _ rfl w3.heap.size rfl hx4.out ?_))
  with_reducible refine (HF.out _ HT4.out).mono ?_
  rintro e u1 ⟨rfl, hb⟩
  have HB5 := Lib.hid (thenB HB4.out hb HB4.out.size)
  clear hb
  go_wp2_with fail
  go_ret
  exact ⟨rfl, HB5.out⟩

set_option maxRecDepth 100000 in
set_option maxHeartbeats 16000000 in
theorem lexClass_l (hE : ErrsOk) (hC : CloneOk) (p : ByteArray) (z : Int) (w : World) (hs : p.size ≤ 9223372036854775807) (hw : Tabs w) (hp : 200 < p.size) : Calls Tryd.prog 4 #[.string p, .int .i64 z] w fun e w' => e = .returned (.bool true) ∧ Below w.heap.size w w' := by
  have HF := Lib.hid (fun w (h : Tabs w) => fixed_any hE hC w h)
  have HL0 := Lib.hid (fun p (hp : p.size ≤ 1000000) w (h : Tabs w) => class_int hE p z w hp h.err h.tab)
  have HR0 := Lib.hid (fun p (hp : p.size ≤ 1000000) w => rclass_int p z w hp)
  have HT := Lib.hid hw
  clear hw hE hC
  go_enter Tryd.func4, Tryd.ntmps4
  go_wp2_with fail
  have hXs0 : (p.extract 0 200).size = 200 := by rw [ByteArray.size_extract]; omega
  generalize p.extract 0 200 = X at hXs0 ⊢
  have HX := Lib.hid (show X.size ≤ 1000000 by omega)
  clear hXs0
  have HL := Lib.hid (fun w h => HL0.out X HX.out w h)
  have HR := Lib.hid (fun w => HR0.out X HX.out w)
  clear HL0 HR0 hs
  with_reducible refine (HL.out _ HT.out).mono ?_
  obtain ⟨C, hC⟩ : ∃ C, C = classI X z := ⟨_, rfl⟩
  rw [← hC]
  have HR1 := Lib.hid (fun w => by have := HR.out w; rw [← hC] at this; exact this)
  clear hC HR HL
  rintro e w1 ⟨rfl, hb⟩
  have HB1 := Lib.hid hb
  clear hb
  go_wp2_with (refine storeNewS rfl _ _ rfl w1 C.1 rfl rfl rfl ?_; intro w2 hx2 hb2; refine stopC ?_)
  unfold StopC
  go_wp2_with fail
  have HB2 := Lib.hid (thenB HB1.out hb2.out HB1.out.size)
  with_reducible refine (HR1.out _).mono ?_
  rintro e w3 ⟨rfl, hb⟩
  have HB3 := Lib.hid (thenB HB2.out hb HB2.out.size)
  have hx3 := Lib.hid (hx2.out.call hb)
  clear hb
  go_wp2_with (refine storeNewZ rfl _ _ rfl w3 C.1 rfl rfl rfl ?_; intro w4 hx4 hb4; refine stopC ?_)
  unfold StopC
  have HB4 := Lib.hid (thenB HB3.out hb4.out HB3.out.size)
  have hx5 := Lib.hid (hx3.out.call hb4.out)
  have HT4 := Lib.hid (HT.out.call HB4.out)
  go_wp2_with (first | (refine loadWS rfl _ rfl w1.heap.size C.1 rfl hx5.out ?_) | (refine loadZ rfl _ rfl w3.heap.size rfl hx4.out ?_))
  with_reducible refine (HF.out _ HT4.out).mono ?_
  rintro e u1 ⟨rfl, hb⟩
  have HB5 := Lib.hid (thenB HB4.out hb HB4.out.size)
  clear hb
  go_wp2_with fail
  go_ret
  exact ⟨rfl, HB5.out⟩
theorem lexClass_any (hE : ErrsOk) (hC : CloneOk) (p : ByteArray) (z : Int) (w : World) (hs : p.size ≤ 9223372036854775807) (hw : Tabs w) : Calls Tryd.prog 4 #[.string p, .int .i64 z] w fun e w' => e = .returned (.bool true) ∧ Below w.heap.size w w' := by
  by_cases h : p.size ≤ 200
  · exact lexClass_s hE hC p z w hs hw h
  · exact lexClass_l hE hC p z w hs hw (by omega)
end Go.Proofs.YtlcecblehffjiaaDoor
