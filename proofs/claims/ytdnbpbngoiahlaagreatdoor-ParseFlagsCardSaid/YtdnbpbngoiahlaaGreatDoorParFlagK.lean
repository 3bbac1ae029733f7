/-
  Layer 7: nodes in a region that draws its order; a set and a flag that are stored in a node.
-/
import Derived.Test.YtdnbpbngoiahlaaGreatDoorParTakes
import Derived.Test.YtdnbpbngoiahlaaGreatDoorParFoldM
import Derived.Test.YtdnbpbngoiahlaaGreatDoorParRightM
import Derived.Test.YtdnbpbngoiahlaaGreatDoorClassM
namespace Go.Proofs.YtdnbpbngoiahlaaGreatDoor
open Go.RowKit
open Ast (Nd ndV joinL wrapL deepZ rightZ cntG Nodes)
section
variable {ops : Array Oper} {rest : List Oper} {op : Oper} {a : Act} {w : World} {x y : Operand} {R : World → Prop} {Q : Exit → Act → World → Prop}
theorem idxN_y {b o n cap i : Nat} (hi : i < n) (_hn : n ≤ 1000) (ho : op.op = .indexAddr 22 x y) (hx : a.eval x = .slice (some ⟨b, o, none⟩) n cap) (hy : a.eval y = .int .i64 (i : Int)) (hw : Region.wanted op (yielded ops a.tmps) = true) : YieldsIf Tryz.prog ops R op (.pointer (some ⟨b, o + i * 12, none⟩)) a := by
  refine Or.inl ⟨hw, fun w _ => ?_⟩
  have r1 : (i : Int) < (n : Int) := by omega
  unfold execOp
  simp only [ho, hx, hy]
  go_simp
theorem loadA_y {b o : Nat} (v : Nd) (hR : ∀ u, R u → Ast.At12 u b o v) (ho : op.op = .load 44 x) (hx : a.eval x = .pointer (some ⟨b, o, none⟩)) (hw : Region.wanted op (yielded ops a.tmps) = true) : YieldsIf Tryz.prog ops R op (ndV v) a := by
  refine Or.inl ⟨hw, fun w h => ?_⟩
  obtain ⟨c0, c1, c2, c3, c4, c5, c6, c7, c8, c9, c10, c11⟩ := hR w h
  unfold execOp
  simp only [ho, hx]
  go_simp
theorem loadSl_y (g : Nat) (A : Option Addr) (n cap : Nat) (hR : ∀ u, R u → BoxV 24 u g (trC A n cap)) (ho : op.op = .load 22 x) (hx : a.eval x = .pointer (some ⟨g, 0, none⟩)) (hw : Region.wanted op (yielded ops a.tmps) = true) : YieldsIf Tryz.prog ops R op (.slice A n cap) a := by
  refine Or.inl ⟨hw, fun w h => ?_⟩
  have hc := tree_cell (hR w h)
  unfold execOp
  simp only [ho, hx]
  go_simp
theorem ndC_one (v : Nd) : ((ndC v).all fun x => x.oneCell') = true := by simp [Value.oneCell']
/-- A set is stored in a node. -/
theorem storeSet7 (hgd : op.guard = none) (ho : op.op = .store 42 x y) (g : Nat) (v : Nd) (T : BitVec 256) (hx : a.eval x = .pointer (some ⟨g, 3, none⟩)) (hy : a.eval y = setV T) (hg : BoxV 44 w g (ndC v))
    (h : ∀ u : World, Hid (BoxV 44 u g (ndC { v with s0 := W T 0, s1 := W T 1, s2 := W T 2, s3 := W T 3 })) → Hid (ButR g w.heap.size w u) → wpList Tryz.prog ops Q rest (a.put op.dst undef) u) : wpList Tryz.prog ops Q (op :: rest) a w := by
  have f3 := frozen_of_row w g 3 _ _ hg
  have f4 := frozen_of_row w g 4 _ _ hg
  have f5 := frozen_of_row w g 5 _ _ hg
  have f6 := frozen_of_row w g 6 _ _ hg
  have c3 : w.cell? ⟨g, 3, none⟩ = some (.int .u64 v.s0) := (cell_of_row w g 3 _ _ _ hg).trans rfl
  have c4 : w.cell? ⟨g, 4, none⟩ = some (.int .u64 v.s1) := (cell_of_row w g 4 _ _ _ hg).trans rfl
  have c5 : w.cell? ⟨g, 5, none⟩ = some (.int .u64 v.s2) := (cell_of_row w g 5 _ _ _ hg).trans rfl
  have c6 : w.cell? ⟨g, 6, none⟩ = some (.int .u64 v.s3) := (cell_of_row w g 6 _ _ _ hg).trans rfl
  have e1 := heap_setCell_same w g 3 _ _ (.int .u64 (W T 0)) hg
  have e2 := heap_setCell_same _ g 4 _ _ (.int .u64 (W T 1)) e1
  have e3 := heap_setCell_same _ g 5 _ _ (.int .u64 (W T 2)) e2
  have e4 := heap_setCell_same _ g 6 _ _ (.int .u64 (W T 3)) e3
  have hu := h _ (Lib.hid e4) (Lib.hid (((((ButR.refl g w.heap.size w).setCell 3 (.int .u64 (W T 0))).setCell 4 (.int .u64 (W T 1))).setCell 5 (.int .u64 (W T 2))).setCell 6 (.int .u64 (W T 3))))
  refine wpList_plain hgd fun K hK => ?_
  unfold Oper.wp execOp
  simp only [ho, hx, hy]
  simp [go_sem, c3, c4, c5, c6, f3, f4, f5, f6]
  exact hK _ _ hu
/-- The flag of a node is set. -/
theorem storeFl7 (hgd : op.guard = none) (ho : op.op = .store 4 x y) (g : Nat) (v : Nd) (f : Bool) (hx : a.eval x = .pointer (some ⟨g, 11, none⟩)) (hy : a.eval y = .bool f) (hg : BoxV 44 w g (ndC v))
    (h : ∀ u : World, Hid (BoxV 44 u g (ndC { v with f := f })) → Hid (ButR g w.heap.size w u) → wpList Tryz.prog ops Q rest (a.put op.dst undef) u) : wpList Tryz.prog ops Q (op :: rest) a w := by
  have hf := frozen_of_row w g 11 _ _ hg
  have c11 : w.cell? ⟨g, 11, none⟩ = some (.bool v.f) := (cell_of_row w g 11 _ _ _ hg).trans rfl
  have e1 := heap_setCell_same w g 11 _ _ (.bool f) hg
  have hu := h _ (Lib.hid e1) (Lib.hid ((ButR.refl g w.heap.size w).setCell 11 (.bool f)))
  refine wpList_plain hgd fun K hK => ?_
  unfold Oper.wp execOp
  simp only [ho, hx, hy]
  simp [go_sem, c11, hf]
  exact hK _ _ hu
end
theorem flags_z_at {p : ByteArray} {t : Tr} (h : (t, (0 : Int)) = parseZ p) (hs : p.size ≤ 800) : ∃ L, parseZ (flg7 ++ p ++ post7) = ((t.1, L), 0) ∧ ∀ i, i < t.1 → FNd (t.2 i) (L i) := by
  obtain ⟨u, h1, h2⟩ := flags_z (p := p) (by rw [← h]) hs
  rw [← h] at h2
  have e : u.1 = t.1 := h2.len
  exact ⟨u.2, by rw [h1, ← e], h2.node⟩
end Go.Proofs.YtdnbpbngoiahlaaGreatDoor
