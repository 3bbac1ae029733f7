/-
  Layer 7: one operation taken first, of a region that draws its order: comparisons, the greater of two, the number of nodes.
-/
import Derived.Test.YtfejdengpnikeaaGreatDoorParFix
namespace Go.Proofs.YtfejdengpnikeaaGreatDoor
open Go.RowKit
open Ast (Nd joinL wrapL deepZ rightZ cntG Nodes)
section
variable {ops : Array Oper} {R : World → Prop} {a : Act} {o : Oper} {x y : Operand}
/-- A sum that does not wrap. -/
theorem addG_y {m n z : Int} (hz : m + n = z) (h1 : -4611686018427387904 ≤ z) (h2 : z ≤ 4611686018427387903) (ho : o.op = .binOp .add 3 x y 3) (hx : a.eval x = .int .i64 m) (hy : a.eval y = .int .i64 n) (hw : Region.wanted o (yielded ops a.tmps) = true) : YieldsIf Tryz.prog ops R o (.int .i64 z) a := by
  refine Or.inl ⟨hw, fun w _ => ?_⟩
  have hq : IntKind.i64.wrap z = z := by rw [IntKind.wrap_i64]; omega
  unfold execOp
  simp only [ho, hx, hy]
  go_simp
theorem neqI_y {m n : Int} (b : Bool) (h : (m == n) = !b) (ho : o.op = .binOp .neq 3 x y 3) (hx : a.eval x = .int .i64 m) (hy : a.eval y = .int .i64 n) (hw : Region.wanted o (yielded ops a.tmps) = true) : YieldsIf Tryz.prog ops R o (.bool b) a := by
  refine Or.inl ⟨hw, fun w _ => ?_⟩
  have hb : (m != n) = b := by rw [bne, h]; simp
  unfold execOp
  simp only [ho, hx, hy]
  go_simp
theorem neqE_y {m n : Int} (b : Bool) (h : (m == n) = !b) (ho : o.op = .binOp .neq 38 x y 38) (hx : a.eval x = .int .i64 m) (hy : a.eval y = .int .i64 n) (hw : Region.wanted o (yielded ops a.tmps) = true) : YieldsIf Tryz.prog ops R o (.bool b) a := by
  refine Or.inl ⟨hw, fun w _ => ?_⟩
  have hb : (m != n) = b := by rw [bne, h]; simp
  unfold execOp
  simp only [ho, hx, hy]
  go_simp
theorem eqlI_y {m n : Int} (b : Bool) (h : (m == n) = b) (ho : o.op = .binOp .eql 3 x y 3) (hx : a.eval x = .int .i64 m) (hy : a.eval y = .int .i64 n) (hw : Region.wanted o (yielded ops a.tmps) = true) : YieldsIf Tryz.prog ops R o (.bool b) a := by
  refine Or.inl ⟨hw, fun w _ => ?_⟩
  unfold execOp
  simp only [ho, hx, hy]
  go_simp
theorem eqlE_y {m n : Int} (b : Bool) (h : (m == n) = b) (ho : o.op = .binOp .eql 38 x y 38) (hx : a.eval x = .int .i64 m) (hy : a.eval y = .int .i64 n) (hw : Region.wanted o (yielded ops a.tmps) = true) : YieldsIf Tryz.prog ops R o (.bool b) a := by
  refine Or.inl ⟨hw, fun w _ => ?_⟩
  unfold execOp
  simp only [ho, hx, hy]
  go_simp
theorem gtrI_y {m n : Int} (b : Bool) (h : decide (n < m) = b) (ho : o.op = .binOp .gtr 3 x y 3) (hx : a.eval x = .int .i64 m) (hy : a.eval y = .int .i64 n) (hw : Region.wanted o (yielded ops a.tmps) = true) : YieldsIf Tryz.prog ops R o (.bool b) a := by
  refine Or.inl ⟨hw, fun w _ => ?_⟩
  unfold execOp
  simp only [ho, hx, hy]
  go_simp
theorem geqI_y {m n : Int} (b : Bool) (h : decide (n ≤ m) = b) (ho : o.op = .binOp .geq 3 x y 3) (hx : a.eval x = .int .i64 m) (hy : a.eval y = .int .i64 n) (hw : Region.wanted o (yielded ops a.tmps) = true) : YieldsIf Tryz.prog ops R o (.bool b) a := by
  refine Or.inl ⟨hw, fun w _ => ?_⟩
  unfold execOp
  simp only [ho, hx, hy]
  go_simp
theorem maxI_y {m n z : Int} {i j : Nat} {ts : Array TypeId} (h : max m n = z) (ho : o.op = .call { callee := .builtin .max, args := #[.tmp i, .tmp j], argTypes := ts }) (hx : a.tmps[i]?.getD undef = .int .i64 m) (hy : a.tmps[j]?.getD undef = .int .i64 n) (hw : Region.wanted o (yielded ops a.tmps) = true) : YieldsIf Tryz.prog ops R o (.int .i64 z) a := by
  refine Or.inl ⟨hw, fun w _ => ?_⟩
  unfold execOp
  simp only [ho]
  go_simp
  rw [← h]
  split <;> omega
end
/-- What Parse answers, beside the world. -/
theorem parse_g (K : PKit) (p : ByteArray) (w : World) (hw : Tabs w) : Calls Tryz.prog 15 #[.string p] w fun e w' => ∃ B cap, e = .returned (.tuple #[.agg (trC B (parseZ p).1.1 cap), .int .i64 (parseZ p).2]) ∧ TreeAt w w' B cap (parseZ p).1 ∧ Below w.heap.size w w' := parse_any K p w hw
theorem Tabs.below {w w' : World} (h : Tabs w) (hb : Below w.heap.size w w') : Tabs w' := h.call hb
theorem tree_cell {w : World} {g : Nat} {A : Option Addr} {n cap : Nat} (h : BoxV 24 w g (trC A n cap)) : w.cell? ⟨g, 0, none⟩ = some (.slice A n cap) := (cell_of_row w g 0 _ _ _ h).trans rfl
theorem same_self (l : Nat → Nd) (n : Nat) : Ast.sameZ l n l n = true := by
  unfold Ast.sameZ
  rw [decide_eq_true rfl, Bool.true_and]
  induction n with
  | zero => rfl
  | succ n ih =>
    unfold Ast.sameB Ast.eqN
    rw [decide_eq_true rfl, ih]
    rfl
end Go.Proofs.YtfejdengpnikeaaGreatDoor
