/-
  What stays while the union of the runs is made, and what the operations of its rounds yield.
-/
import Derived.Test.YtobhhhopkkcdiaaDoorRunsLaw
import Derived.Test.YtobhhhopkkcdiaaDoorTellsKit
namespace Go.Proofs.YtobhhhopkkcdiaaDoor
open Go.RowKit

/-- The set's own block is held; what was there when the runs were told stays as it was. -/
def KR (w w1 : World) (S : BitVec 256) (u : World) : Prop := Held w [(w.heap.size, S)] u ∧ Below w1.heap.size w1 u
theorem KR.call {w w1 u v : World} {S : BitVec 256} (h : KR w w1 S u) (hb : Below u.heap.size u v) : KR w w1 S v := ⟨h.1.call hb, thenB h.2 hb h.2.size⟩
theorem KR.drew {w w1 u : World} {S : BitVec 256} (h : KR w w1 S u) : KR w w1 S u.drew := h.call (Below.refl _ u).drew
theorem KR.row {w w1 u : World} {S : BitVec 256} (h : KR w w1 S u) (cs : Array Value) (h0 : 0 < w.heap.size) (hw : w.heap.size < w1.heap.size) : KR w w1 S (u.setRow w1.heap.size cs) :=
  ⟨h.1.row _ cs h0 (by omega) (by simp; omega), below_row h.2 (Nat.le_refl _) cs⟩
theorem Box.drew {w : World} {g : Nat} {S : BitVec 256} (h : Box w g S) : Box w.drew g S := h

section
variable {ops : Array Oper} {a : Act} {o : Oper} {x y : Operand} {w w1 : World} {S : BitVec 256} {R : World → Prop}
theorem byte_y {r k : Nat} (b : Nat) (hr : r < w1.heap.size) (hc : w1.cell? ⟨r, k, none⟩ = some (.int .u8 (b : Int))) (ho : o.op = .load 5 x) (hx : a.eval x = .pointer (some ⟨r, k, none⟩)) (hw : Region.wanted o (yielded ops a.tmps) = true) : YieldsIf Tryd.prog ops (KR w w1 S) o (.int .u8 (b : Int)) a := by
  refine Or.inl ⟨hw, fun u h => ?_⟩
  have hcell := (h.2.cell (p := ⟨r, k, none⟩) hr).trans hc
  clear h hc
  unfold execOp
  simp only [ho, hx]
  go_simp
theorem row_y (r i n cap : Nat) (hi : i < n) (ho : o.op = .indexAddr 37 x y) (hx : a.eval x = .slice (some ⟨r, 0, none⟩) n cap) (hy : a.eval y = .int .i64 (i : Int)) (hw : Region.wanted o (yielded ops a.tmps) = true) : YieldsIf Tryd.prog ops R o (.pointer (some ⟨r, i * 2, none⟩)) a := by
  refine Or.inl ⟨hw, fun u _ => ?_⟩
  have i0 : (0 : Int) ≤ i := by omega
  have i1 : (i : Int) < n := by omega
  unfold execOp
  simp only [ho, hx, hy]
  go_simp
theorem leq64_y {m n : Int} (b : Bool) (ho : o.op = .binOp .leq 3 x y 3) (hx : a.eval x = .int .i64 m) (hy : a.eval y = .int .i64 n) (hb : decide (m ≤ n) = b) (hw : Region.wanted o (yielded ops a.tmps) = true) : YieldsIf Tryd.prog ops R o (.bool b) a := by
  refine Or.inl ⟨hw, fun w _ => ?_⟩
  unfold execOp
  simp only [ho, hx, hy]
  go_simp
theorem pair0_y (r k : Nat) (ho : o.op = .indexAddr 53 x y) (hx : a.eval x = .pointer (some ⟨r, k, none⟩)) (hy : a.eval y = .int .i64 0) (hw : Region.wanted o (yielded ops a.tmps) = true) : YieldsIf Tryd.prog ops R o (.pointer (some ⟨r, k, none⟩)) a := by
  refine Or.inl ⟨hw, fun u _ => ?_⟩
  unfold execOp
  simp only [ho, hx, hy]
  go_simp
theorem pair1_y (r k : Nat) (ho : o.op = .indexAddr 53 x y) (hx : a.eval x = .pointer (some ⟨r, k, none⟩)) (hy : a.eval y = .int .i64 1) (hw : Region.wanted o (yielded ops a.tmps) = true) : YieldsIf Tryd.prog ops R o (.pointer (some ⟨r, k + 1, none⟩)) a := by
  refine Or.inl ⟨hw, fun u _ => ?_⟩
  unfold execOp
  simp only [ho, hx, hy]
  go_simp
end

section
variable {ops : Array Oper} {Q : Exit → Act → World → Prop} {md : Region.Mode} {S : World → Prop} {fuel : Nat} {listed : Array Bool} {a : Act} {w : World}
/-- The four words of a set. -/
abbrev rowW (V : BitVec 256) : Array Value := #[.int .u64 (W V 0), .int .u64 (W V 1), .int .u64 (W V 2), .int .u64 (W V 3)]
theorem Box.rowSame {w : World} {g : Nat} {U : BitVec 256} (h : Box w g U) (V : BitVec 256) : Box (w.setRow g (rowW V)) g V := setRow_heap w g _ _ _ _ h
/-- One of several that can come up: a set is stored. -/
theorem storeSet (i : Nat) {oi : Oper} {x y : Operand} (g : Nat) (U V : BitVec 256) (hd : oi.dst = none) (ho : oi.op = .store 25 x y) (hw : Region.wanted oi (yielded ops a.tmps) = true)
    (hx : a.eval x = .pointer (some ⟨g, 0, none⟩)) (hy : a.eval y = setV V) (hg : Box w g U) (hS : S (w.setRow g (rowW V)))
    (hgo : wpAnyH Tryd.prog md ops Q S fuel (listed.setIfInBounds i true) a (w.setRow g (rowW V))) :
    ∀ K' : Act → World → Prop, Shut (∀ a w, S w → (S w → wpAnyH Tryd.prog md ops Q S fuel (listed.setIfInBounds i true) a w) → K' a w) → if Region.wanted oi (yielded ops a.tmps) = true then Oper.wp Tryd.prog oi a w K' Q else K' (a.put oi.dst undef) w := by
  intro K hK
  rw [if_pos hw]
  refine wp_store_row 25 x y ho g (rowW V) hx hy _ (rowW U) hg (by kernel_rfl) rfl (by simp [rowW, Value.oneCell']) ?_
  rw [hd]
  exact hK.out _ _ hS (fun _ => hgo)
end
end Go.Proofs.YtobhhhopkkcdiaaDoor
