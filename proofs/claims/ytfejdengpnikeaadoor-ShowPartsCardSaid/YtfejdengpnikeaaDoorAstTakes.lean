/-
  Layer 5: one operation taken first, of a region that draws its order: comparisons, the greater of two, the number of nodes.
-/
import Derived.Test.YtfejdengpnikeaaDoorAstLawKit
namespace Go.Proofs.YtfejdengpnikeaaDoor.Ast
open Go.RowKit
section
variable {ops : Array Oper} {R : World → Prop} {a : Act} {o : Oper} {x y : Operand}
theorem neqI_y {m n : Int} (b : Bool) (h : (m == n) = !b) (ho : o.op = .binOp .neq 3 x y 3) (hx : a.eval x = .int .i64 m) (hy : a.eval y = .int .i64 n) (hw : Region.wanted o (yielded ops a.tmps) = true) : YieldsIf Tryd.prog ops R o (.bool b) a := by
  refine Or.inl ⟨hw, fun w _ => ?_⟩
  have hb : (m != n) = b := by rw [bne, h]; simp
  unfold execOp
  simp only [ho, hx, hy]
  go_simp
theorem neqE_y {m n : Int} (b : Bool) (h : (m == n) = !b) (ho : o.op = .binOp .neq 26 x y 26) (hx : a.eval x = .int .i64 m) (hy : a.eval y = .int .i64 n) (hw : Region.wanted o (yielded ops a.tmps) = true) : YieldsIf Tryd.prog ops R o (.bool b) a := by
  refine Or.inl ⟨hw, fun w _ => ?_⟩
  have hb : (m != n) = b := by rw [bne, h]; simp
  unfold execOp
  simp only [ho, hx, hy]
  go_simp
theorem eqlI_y {m n : Int} (b : Bool) (h : (m == n) = b) (ho : o.op = .binOp .eql 3 x y 3) (hx : a.eval x = .int .i64 m) (hy : a.eval y = .int .i64 n) (hw : Region.wanted o (yielded ops a.tmps) = true) : YieldsIf Tryd.prog ops R o (.bool b) a := by
  refine Or.inl ⟨hw, fun w _ => ?_⟩
  unfold execOp
  simp only [ho, hx, hy]
  go_simp
theorem eqlE_y {m n : Int} (b : Bool) (h : (m == n) = b) (ho : o.op = .binOp .eql 26 x y 26) (hx : a.eval x = .int .i64 m) (hy : a.eval y = .int .i64 n) (hw : Region.wanted o (yielded ops a.tmps) = true) : YieldsIf Tryd.prog ops R o (.bool b) a := by
  refine Or.inl ⟨hw, fun w _ => ?_⟩
  unfold execOp
  simp only [ho, hx, hy]
  go_simp
theorem gtrI_y {m n : Int} (b : Bool) (h : decide (n < m) = b) (ho : o.op = .binOp .gtr 3 x y 3) (hx : a.eval x = .int .i64 m) (hy : a.eval y = .int .i64 n) (hw : Region.wanted o (yielded ops a.tmps) = true) : YieldsIf Tryd.prog ops R o (.bool b) a := by
  refine Or.inl ⟨hw, fun w _ => ?_⟩
  unfold execOp
  simp only [ho, hx, hy]
  go_simp
theorem geqI_y {m n : Int} (b : Bool) (h : decide (n ≤ m) = b) (ho : o.op = .binOp .geq 3 x y 3) (hx : a.eval x = .int .i64 m) (hy : a.eval y = .int .i64 n) (hw : Region.wanted o (yielded ops a.tmps) = true) : YieldsIf Tryd.prog ops R o (.bool b) a := by
  refine Or.inl ⟨hw, fun w _ => ?_⟩
  unfold execOp
  simp only [ho, hx, hy]
  go_simp
theorem maxI_y {m n z : Int} {i j : Nat} {ts : Array TypeId} (h : max m n = z) (ho : o.op = .call { callee := .builtin .max, args := #[.tmp i, .tmp j], argTypes := ts }) (hx : a.tmps[i]?.getD undef = .int .i64 m) (hy : a.tmps[j]?.getD undef = .int .i64 n) (hw : Region.wanted o (yielded ops a.tmps) = true) : YieldsIf Tryd.prog ops R o (.int .i64 z) a := by
  refine Or.inl ⟨hw, fun w _ => ?_⟩
  unfold execOp
  simp only [ho]
  go_simp
  rw [← h]
  split <;> omega
end
end Go.Proofs.YtfejdengpnikeaaDoor.Ast
