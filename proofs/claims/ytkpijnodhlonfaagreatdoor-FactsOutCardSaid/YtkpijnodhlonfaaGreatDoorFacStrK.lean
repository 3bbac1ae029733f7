/-
  Layer 9: operations on numbers and texts, in the statements.
-/
import Derived.Test.YtkpijnodhlonfaaGreatDoorFacA
namespace Go.Proofs.YtkpijnodhlonfaaGreatDoor
open Go.RowKit
section
variable {ops : Array Oper} {R : World → Prop} {a : Act} {o : Oper} {x y : Operand}
theorem min9_y (n m : Nat) {i : Nat} {ts : Array TypeId} (ho : o.op = .call { callee := .builtin .min, args := #[.tmp i, .const (.int .i64 (m : Int))], argTypes := ts }) (hx : a.tmps[i]?.getD undef = .int .i64 (n : Int)) (hw : Region.wanted o (yielded ops a.tmps) = true) : YieldsIf Tryz.prog ops R o (.int .i64 ((min n m : Nat) : Int)) a := by
  refine Or.inl ⟨hw, fun w _ => ?_⟩
  unfold execOp
  simp only [ho]
  go_simp
  split <;> omega
theorem len9_y (s : ByteArray) {i : Nat} (ho : o.op = .call { callee := .builtin .len, args := #[.tmp i], argTypes := #[9] }) (hx : a.tmps[i]?.getD undef = .string s) (hw : Region.wanted o (yielded ops a.tmps) = true) : YieldsIf Tryz.prog ops R o (.int .i64 (s.size : Int)) a := by
  refine Or.inl ⟨hw, fun w _ => ?_⟩
  unfold execOp
  simp only [ho]
  go_simp
theorem sliceTo9_y (s : ByteArray) (t : Nat) {i : Nat} (ht : t ≤ s.size) (ho : o.op = .slice 9 x none (some (.tmp i)) none) (hx : a.eval x = .string s) (hy : a.tmps[i]?.getD undef = .int .i64 (t : Int)) (hw : Region.wanted o (yielded ops a.tmps) = true) : YieldsIf Tryz.prog ops R o (.string (s.extract 0 t)) a := by
  refine Or.inl ⟨hw, fun w _ => ?_⟩
  have q0 : (0 : Int) ≤ (t : Int) := by omega
  have q1 : (t : Int) ≤ (s.size : Int) := by omega
  have q2 : ¬ (s.size : Int) < (t : Int) := by omega
  unfold execOp
  simp only [ho, hx]
  go_simp
theorem sliceFrom9_y (s : ByteArray) (t : Nat) {i : Nat} (ht : t ≤ s.size) (ho : o.op = .slice 9 x (some (.tmp i)) none none) (hx : a.eval x = .string s) (hy : a.tmps[i]?.getD undef = .int .i64 (t : Int)) (hw : Region.wanted o (yielded ops a.tmps) = true) : YieldsIf Tryz.prog ops R o (.string (s.extract t s.size)) a := by
  refine Or.inl ⟨hw, fun w _ => ?_⟩
  have q0 : (0 : Int) ≤ (t : Int) := by omega
  have q1 : (t : Int) ≤ (s.size : Int) := by omega
  have q2 : ¬ (s.size : Int) < (t : Int) := by omega
  unfold execOp
  simp only [ho, hx]
  go_simp
theorem rem9_y (m n k : Int) (hn : 0 < n) (h : m.tmod n = k) (ho : o.op = .binOp .rem 3 x y 3) (hx : a.eval x = .int .i64 m) (hy : a.eval y = .int .i64 n) (hw : Region.wanted o (yielded ops a.tmps) = true) : YieldsIf Tryz.prog ops R o (.int .i64 k) a := by
  subst h
  refine Or.inl ⟨hw, fun w _ => ?_⟩
  have q : (n == 0) = false := by rw [beq_eq_false_iff_ne]; omega
  have q2 : ¬ n = 0 := by omega
  unfold execOp
  simp only [ho, hx, hy]
  go_simp
theorem add9_y (m n : Int) (h0 : 0 ≤ m + n) (h1 : m + n ≤ 1000000) (ho : o.op = .binOp .add 3 x y 3) (hx : a.eval x = .int .i64 m) (hy : a.eval y = .int .i64 n) (hw : Region.wanted o (yielded ops a.tmps) = true) : YieldsIf Tryz.prog ops R o (.int .i64 (m + n)) a := by
  refine Or.inl ⟨hw, fun w _ => ?_⟩
  unfold execOp
  simp only [ho, hx, hy]
  go_simp
  rw [IntKind.wrap_i64]
  omega
theorem gtr9_y (m n : Int) (b : Bool) (h : decide (n < m) = b) (ho : o.op = .binOp .gtr 3 x y 3) (hx : a.eval x = .int .i64 m) (hy : a.eval y = .int .i64 n) (hw : Region.wanted o (yielded ops a.tmps) = true) : YieldsIf Tryz.prog ops R o (.bool b) a := by
  refine Or.inl ⟨hw, fun w _ => ?_⟩
  unfold execOp
  simp only [ho, hx, hy]
  go_simp
theorem addr9_y (T : TypeId) (z : Operand) (i : Nat) (v : Value) (_ho : o.op = .fieldAddr T z i) (hr : ∀ w, (execOp a.eval o).run Tryz.prog w = .ok (.value v) w) (hw : Region.wanted o (yielded ops a.tmps) = true) : YieldsIf Tryz.prog ops R o v a := Or.inl ⟨hw, fun w _ => hr w⟩
theorem neqE9_y {m n : Int} (b : Bool) (h : (m == n) = !b) (ho : o.op = .binOp .neq 32 x y 32) (hx : a.eval x = .int .i64 m) (hy : a.eval y = .int .i64 n) (hw : Region.wanted o (yielded ops a.tmps) = true) : YieldsIf Tryz.prog ops R o (.bool b) a := by
  refine Or.inl ⟨hw, fun w _ => ?_⟩
  have hb : (m != n) = b := by rw [bne, h]; simp
  unfold execOp
  simp only [ho, hx, hy]
  go_simp
theorem eqlE9_y {m n : Int} (b : Bool) (h : (m == n) = b) (ho : o.op = .binOp .eql 32 x y 32) (hx : a.eval x = .int .i64 m) (hy : a.eval y = .int .i64 n) (hw : Region.wanted o (yielded ops a.tmps) = true) : YieldsIf Tryz.prog ops R o (.bool b) a := by
  refine Or.inl ⟨hw, fun w _ => ?_⟩
  unfold execOp
  simp only [ho, hx, hy]
  go_simp
theorem eqB9_y (b : Bool) (ho : o.op = .binOp .eql 4 x y 4) (hx : a.eval x = .bool b) (hy : a.eval y = .bool b) (hw : Region.wanted o (yielded ops a.tmps) = true) : YieldsIf Tryz.prog ops R o (.bool true) a := by
  refine Or.inl ⟨hw, fun w _ => ?_⟩
  unfold execOp
  simp only [ho, hx, hy]
  cases b <;> go_simp
end
end Go.Proofs.YtkpijnodhlonfaaGreatDoor
