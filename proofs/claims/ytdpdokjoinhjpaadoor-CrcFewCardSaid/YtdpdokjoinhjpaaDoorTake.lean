/-
  Regions that draw their order: what texts and numbers yield.
-/
import Derived.Test.YtdpdokjoinhjpaaDoorTakeG
namespace Go.Proofs.YtdpdokjoinhjpaaDoor
open Go.RowKit
section
variable {ops : Array Oper} {a : Act} {o : Oper} {x y : Operand} {R : World → Prop} {m n : Int}
theorem strSlice_y (s : ByteArray) (k : Nat) (hk : k ≤ s.size) (ho : o.op = .slice 9 x none (some y) none) (hx : a.eval x = .string s) (hy : a.eval y = .int .i64 (k : Int)) (hw : Region.wanted o (yielded ops a.tmps) = true) : YieldsIf Tryd.prog ops R o (.string (s.extract 0 k)) a := by
  refine Or.inl ⟨hw, fun w _ => ?_⟩
  have k0 : (0 : Int) ≤ k := by omega
  have k1 : (k : Int) ≤ s.size := by omega
  unfold execOp
  simp only [ho, hx, hy, Option.map_some, Option.map_none]
  go_simp
theorem strIndex_y (s : ByteArray) (k : Nat) (hk : k < s.size) (ho : o.op = .index 9 x y) (hx : a.eval x = .string s) (hy : a.eval y = .int .i64 (k : Int)) (hw : Region.wanted o (yielded ops a.tmps) = true) : YieldsIf Tryd.prog ops R o (.int .u8 (s[k].toNat : Int)) a := by
  refine Or.inl ⟨hw, fun w _ => ?_⟩
  have k0 : (0 : Int) ≤ k := by omega
  have k1 : (k : Int) < s.size := by omega
  unfold execOp
  simp only [ho, hx, hy]
  go_simp
theorem xor8_y (r : Int) (ho : o.op = .binOp .xor 5 x y 5) (hx : a.eval x = .int .u8 m) (hy : a.eval y = .int .u8 n) (hr : bits .xor .u8 m n = r) (hw : Region.wanted o (yielded ops a.tmps) = true) : YieldsIf Tryd.prog ops R o (.int .u8 r) a := by
  refine Or.inl ⟨hw, fun w _ => ?_⟩
  unfold execOp
  simp only [ho, hx, hy]
  go_simp
theorem xor32_y (r : Int) (ho : o.op = .binOp .xor 22 x y 22) (hx : a.eval x = .int .u32 m) (hy : a.eval y = .int .u32 n) (hr : bits .xor .u32 m n = r) (hw : Region.wanted o (yielded ops a.tmps) = true) : YieldsIf Tryd.prog ops R o (.int .u32 r) a := by
  refine Or.inl ⟨hw, fun w _ => ?_⟩
  unfold execOp
  simp only [ho, hx, hy]
  go_simp
theorem eql32_y (b : Bool) (ho : o.op = .binOp .eql 22 x y 22) (hx : a.eval x = .int .u32 m) (hy : a.eval y = .int .u32 n) (hb : (m == n) = b) (hw : Region.wanted o (yielded ops a.tmps) = true) : YieldsIf Tryd.prog ops R o (.bool b) a := by
  refine Or.inl ⟨hw, fun w _ => ?_⟩
  unfold execOp
  simp only [ho, hx, hy]
  go_simp
end
end Go.Proofs.YtdpdokjoinhjpaaDoor
