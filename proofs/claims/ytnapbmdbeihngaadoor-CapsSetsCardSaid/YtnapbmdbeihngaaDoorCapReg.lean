/-
  Layer 10: regions that draw their order: what single operations answer.
-/
import Derived.Test.YtnapbmdbeihngaaDoorCapGet
namespace Go.Proofs.YtnapbmdbeihngaaDoor
open Go.RowKit

section
variable {P : Program} {ops : Array Oper} {Q : Exit → Act → World → Prop} {md : Region.Mode} {S : World → Prop} {fuel : Nat} {listed : Array Bool} {a : Act} {w : World}
/-- Operation number i answers nothing and leaves another world, and nothing else can come up. -/
theorem skipAt (i : Nat) (w' : World) {oi : Oper} (hi : ops[i]? = some oi) (hd : oi.dst = none) (hr : Region.ready md ops listed = [i]) (hw : Region.wanted oi (yielded ops a.tmps) = true)
    (hrun : (execOp a.eval oi).run P w = .ok .skip w') (hS : S w') (hgo : wpAnyH P md ops Q S fuel (listed.setIfInBounds i true) a w') : wpAnyH P md ops Q S (fuel + 1) listed a w := by
  refine wpAnyH_ready (rs := [i]) hr (by simp) (AllReadyH.cons hi (fun K hK => ?_) AllReadyH.nil)
  rw [if_pos hw]
  have hK2 := Lib.hid (hK.out _ _ hS (fun _ => hgo))
  unfold Oper.wp
  rw [hrun]
  unfold Oper.upon
  rw [hd]
  exact hK2.out
end
section
variable {ops : Array Oper} {R : World → Prop} {a : Act} {o : Oper} {x y : Operand} {w : World}
theorem idxIs_y (g j k : Nat) (h : k < 9) (ho : o.op = .indexAddr 22 x y) (hx : a.eval x = .pointer (some ⟨g, j, none⟩)) (hy : a.eval y = .int .i64 (k : Int)) (hw : Region.wanted o (yielded ops a.tmps) = true) : YieldsIf Tryd.prog ops R o (.pointer (some ⟨g, j + k, none⟩)) a := by
  refine Or.inl ⟨hw, fun u _ => ?_⟩
  unfold execOp
  simp only [ho, hx, hy]
  go_simp
  exact fun h9 => absurd h9 (by omega)
theorem idxAt_y (g j k : Nat) (h : k < 9) (ho : o.op = .indexAddr 24 x y) (hx : a.eval x = .pointer (some ⟨g, j, none⟩)) (hy : a.eval y = .int .i64 (k : Int)) (hw : Region.wanted o (yielded ops a.tmps) = true) : YieldsIf Tryd.prog ops R o (.pointer (some ⟨g, j + k * 2, none⟩)) a := by
  refine Or.inl ⟨hw, fun u _ => ?_⟩
  unfold execOp
  simp only [ho, hx, hy]
  go_simp
  exact fun h9 => absurd h9 (by omega)
theorem dec_y (k : Nat) (h : k < 9) (ho : o.op = .binOp .sub 3 x y 3) (hx : a.eval x = .int .i64 ((k : Int) + 1)) (hy : a.eval y = .int .i64 1) (hw : Region.wanted o (yielded ops a.tmps) = true) : YieldsIf Tryd.prog ops R o (.int .i64 (k : Int)) a := by
  refine Or.inl ⟨hw, fun u _ => ?_⟩
  unfold execOp
  simp only [ho, hx, hy]
  go_simp
  rw [IntKind.wrap_i64] <;> omega
theorem loadPair_y (g : Nat) (p q : Int) (hR : ∀ u, R u → BoxV 23 u g #[.int .i64 p, .int .i64 q]) (ho : o.op = .load 23 x) (hx : a.eval x = .pointer (some ⟨g, 0, none⟩)) (hw : Region.wanted o (yielded ops a.tmps) = true) : YieldsIf Tryd.prog ops R o (.agg #[.int .i64 p, .int .i64 q]) a := by
  refine Or.inl ⟨hw, fun u hu => ?_⟩
  have c0 := (hR u hu).get 0 rfl
  have c1 := (hR u hu).get 1 rfl
  unfold execOp
  simp only [ho, hx]
  go_simp
/-- A store that says yes at the place k. -/
theorem exec_is (T : TypeId) (g k : Nat) (cs : Array Value) (hk : k < 9) (c : Cp) (hcs : cs = cpC c) (ho : o.op = .store 4 x y) (hx : a.eval x = .pointer (some ⟨g, k, none⟩)) (hy : a.eval y = .bool true) (hg : BoxV T w g cs) :
    (execOp a.eval o).run Tryd.prog w = .ok .skip (w.setCell ⟨g, k, none⟩ (.bool true)) := by
  subst hcs
  have hf := hg.free k
  have hc := hg.get k (cpC_is c k hk)
  unfold execOp
  simp only [ho, hx, hy]
  simp [go_sem, hf, hc]
/-- A store of a pair at the place k. -/
theorem exec_pair (T : TypeId) (g j : Nat) (p q p0 q0 : Int) (cs : Array Value) (ho : o.op = .store 23 x y) (hx : a.eval x = .pointer (some ⟨g, j, none⟩)) (hy : a.eval y = .agg #[.int .i64 p, .int .i64 q]) (hg : BoxV T w g cs) (h0 : cs[j]? = some (.int .i64 p0)) (h1 : cs[j + 1]? = some (.int .i64 q0)) :
    (execOp a.eval o).run Tryd.prog w = .ok .skip ((w.setCell ⟨g, j, none⟩ (.int .i64 p)).setCell ⟨g, j + 1, none⟩ (.int .i64 q)) := by
  have hf0 := hg.free j
  have hf1 := hg.free (j + 1)
  have hc0 := hg.get j h0
  have hc1 := hg.get (j + 1) h1
  unfold execOp
  simp only [ho, hx, hy]
  simp [go_sem, hf0, hc0, hf1, hc1]
end
end Go.Proofs.YtnapbmdbeihngaaDoor
