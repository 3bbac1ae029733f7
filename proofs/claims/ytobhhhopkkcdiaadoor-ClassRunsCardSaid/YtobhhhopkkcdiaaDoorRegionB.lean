/-
  Steps on numbers, taken first: comparisons, sums, conversions.
-/
import Derived.Test.YtobhhhopkkcdiaaDoorRegion
namespace Go.Proofs.YtobhhhopkkcdiaaDoor
open Go.RowKit
section
variable {ops : Array Oper} {a : Act} {o : Oper} {x y : Operand} {R : World → Prop} {m n : Int}

theorem leq8_y (b : Bool) (ho : o.op = .binOp .leq 5 x y 5) (hx : a.eval x = .int .u8 m) (hy : a.eval y = .int .u8 n) (hb : decide (m ≤ n) = b) (hw : Region.wanted o (yielded ops a.tmps) = true) : YieldsIf Tryd.prog ops R o (.bool b) a := by
  refine Or.inl ⟨hw, fun w _ => ?_⟩
  unfold execOp
  simp only [ho, hx, hy]
  go_simp
theorem gtr8_y (b : Bool) (ho : o.op = .binOp .gtr 5 x y 5) (hx : a.eval x = .int .u8 m) (hy : a.eval y = .int .u8 n) (hb : decide (n < m) = b) (hw : Region.wanted o (yielded ops a.tmps) = true) : YieldsIf Tryd.prog ops R o (.bool b) a := by
  refine Or.inl ⟨hw, fun w _ => ?_⟩
  unfold execOp
  simp only [ho, hx, hy]
  go_simp
theorem eql8_y (b : Bool) (ho : o.op = .binOp .eql 5 x y 5) (hx : a.eval x = .int .u8 m) (hy : a.eval y = .int .u8 n) (hb : (m == n) = b) (hw : Region.wanted o (yielded ops a.tmps) = true) : YieldsIf Tryd.prog ops R o (.bool b) a := by
  refine Or.inl ⟨hw, fun w _ => ?_⟩
  unfold execOp
  simp only [ho, hx, hy]
  go_simp
theorem eql64_y (b : Bool) (ho : o.op = .binOp .eql 3 x y 3) (hx : a.eval x = .int .i64 m) (hy : a.eval y = .int .i64 n) (hb : (m == n) = b) (hw : Region.wanted o (yielded ops a.tmps) = true) : YieldsIf Tryd.prog ops R o (.bool b) a := by
  refine Or.inl ⟨hw, fun w _ => ?_⟩
  unfold execOp
  simp only [ho, hx, hy]
  go_simp
theorem gtr64_y (b : Bool) (ho : o.op = .binOp .gtr 3 x y 3) (hx : a.eval x = .int .i64 m) (hy : a.eval y = .int .i64 n) (hb : decide (n < m) = b) (hw : Region.wanted o (yielded ops a.tmps) = true) : YieldsIf Tryd.prog ops R o (.bool b) a := by
  refine Or.inl ⟨hw, fun w _ => ?_⟩
  unfold execOp
  simp only [ho, hx, hy]
  go_simp
theorem sub64_y (r : Int) (ho : o.op = .binOp .sub 3 x y 3) (hx : a.eval x = .int .i64 m) (hy : a.eval y = .int .i64 n) (hr : m - n = r) (m0 : 0 ≤ m) (m1 : m ≤ 1000) (n0 : 0 ≤ n) (n1 : n ≤ 1000) (hw : Region.wanted o (yielded ops a.tmps) = true) : YieldsIf Tryd.prog ops R o (.int .i64 r) a := by
  subst hr
  refine Or.inl ⟨hw, fun w _ => ?_⟩
  unfold execOp
  simp only [ho, hx, hy]
  go_simp
  rw [IntKind.wrap_i64]; omega
theorem add64_y (r : Int) (ho : o.op = .binOp .add 3 x y 3) (hx : a.eval x = .int .i64 m) (hy : a.eval y = .int .i64 n) (hr : m + n = r) (m0 : -1000 ≤ m) (m1 : m ≤ 1000) (n0 : -1000 ≤ n) (n1 : n ≤ 1000) (hw : Region.wanted o (yielded ops a.tmps) = true) : YieldsIf Tryd.prog ops R o (.int .i64 r) a := by
  subst hr
  refine Or.inl ⟨hw, fun w _ => ?_⟩
  unfold execOp
  simp only [ho, hx, hy]
  go_simp
  rw [IntKind.wrap_i64]; omega
theorem sub8_y (r : Int) (ho : o.op = .binOp .sub 5 x y 5) (hx : a.eval x = .int .u8 m) (hy : a.eval y = .int .u8 n) (hr : m - n = r) (m0 : n ≤ m) (m1 : m ≤ 255) (n0 : 0 ≤ n) (hw : Region.wanted o (yielded ops a.tmps) = true) : YieldsIf Tryd.prog ops R o (.int .u8 r) a := by
  subst hr
  refine Or.inl ⟨hw, fun w _ => ?_⟩
  unfold execOp
  simp only [ho, hx, hy]
  go_simp
  rw [IntKind.wrap_u8]; omega
theorem conv8_y (ho : o.op = .convert 5 3 x) (hx : a.eval x = .int .u8 m) (m0 : 0 ≤ m) (m1 : m ≤ 255) (hw : Region.wanted o (yielded ops a.tmps) = true) : YieldsIf Tryd.prog ops R o (.int .i64 m) a := by
  refine Or.inl ⟨hw, fun w _ => ?_⟩
  unfold execOp
  simp only [ho, hx]
  go_simp
  rw [IntKind.wrap_i64]; omega
theorem max0_y (r : Int) (ho : o.op = .call { callee := .builtin .max, args := #[x, y], argTypes := #[3, 3] }) (hx : a.eval x = .int .i64 m) (hy : a.eval y = .int .i64 n) (hr : (if m < n then n else m) = r) (hw : Region.wanted o (yielded ops a.tmps) = true) : YieldsIf Tryd.prog ops R o (.int .i64 r) a := by
  subst hr
  refine Or.inl ⟨hw, fun w _ => ?_⟩
  unfold execOp
  generalize a.eval = ev at hx hy ⊢
  simp only [ho]
  go_simp
theorem len_y (ao : Option Addr) (l c : Nat) (ho : o.op = .call { callee := .builtin .len, args := #[x], argTypes := #[37] }) (hx : a.eval x = .slice ao l c) (hw : Region.wanted o (yielded ops a.tmps) = true) : YieldsIf Tryd.prog ops R o (.int .i64 (l : Int)) a := by
  refine Or.inl ⟨hw, fun w _ => ?_⟩
  unfold execOp
  generalize a.eval = ev at hx ⊢
  simp only [ho]
  go_simp
end
end Go.Proofs.YtobhhhopkkcdiaaDoor
