/-
  Layer 10: single operations of regions that draw no order.
-/
import Derived.Test.YtnapbmdbeihngaaDoorCapFix
namespace Go.Proofs.YtnapbmdbeihngaaDoor
open Go.RowKit

section
variable {P : Program} {ops : Array Oper} {rest : List Oper} {o : Oper} {a : Act} {w : World} {Q : Exit → Act → World → Prop} {S : World → Prop}
/-- The next operation, in a region that draws no order: it yields v, or it is not wanted. -/
theorem lineY (v : Value) (hy : YieldsIf P ops S o v a) (hS : S w) (h : wpList P ops Q rest (a.put o.dst v) w) : wpList P ops Q (o :: rest) a w := by
  rcases hy with ⟨hw, hr⟩ | ⟨hw, rfl⟩
  · refine wpList_step fun K hK => ?_
    rw [if_pos hw]
    unfold Oper.wp
    rw [hr w hS, Oper.upon_value]
    exact hK _ _ h
  · exact wpList_skip hw h
end
section
variable {ops : Array Oper} {R : World → Prop} {a : Act} {o : Oper} {x y : Operand} {w : World}
theorem min_y (n m : Nat) {i : Nat} {ts : Array TypeId} (ho : o.op = .call { callee := .builtin .min, args := #[.tmp i, .const (.int .i64 (m : Int))], argTypes := ts }) (hx : a.tmps[i]?.getD undef = .int .i64 (n : Int)) (hw : Region.wanted o (yielded ops a.tmps) = true) : YieldsIf Tryd.prog ops R o (.int .i64 ((min n m : Nat) : Int)) a := by
  refine Or.inl ⟨hw, fun w _ => ?_⟩
  unfold execOp
  simp only [ho]
  go_simp
  split <;> omega
theorem sliceTo_y (s : ByteArray) (t : Nat) {i : Nat} (ht : t ≤ s.size) (ho : o.op = .slice 9 x none (some (.tmp i)) none) (hx : a.eval x = .string s) (hy : a.tmps[i]?.getD undef = .int .i64 (t : Int)) (hw : Region.wanted o (yielded ops a.tmps) = true) : YieldsIf Tryd.prog ops R o (.string (s.extract 0 t)) a := by
  refine Or.inl ⟨hw, fun w _ => ?_⟩
  have q0 : (0 : Int) ≤ (t : Int) := by omega
  have q1 : (t : Int) ≤ (s.size : Int) := by omega
  have q2 : ¬ (s.size : Int) < (t : Int) := by omega
  unfold execOp
  simp only [ho, hx]
  go_simp
theorem rem_y (p q : Nat) (n : Int) (hn : n = (q : Int)) (hq : 1 ≤ q) (hp : p < 256) (hq2 : q < 256) (ho : o.op = .binOp .rem 3 x y 3) (hx : a.eval x = .int .i64 (p : Int)) (hy : a.eval y = .int .i64 n) (hw : Region.wanted o (yielded ops a.tmps) = true) : YieldsIf Tryd.prog ops R o (.int .i64 ((p % q : Nat) : Int)) a := by
  subst hn
  have h0 : ((q : Int) == 0) = false := by rw [beq_eq_false_iff_ne]; omega
  have h1 : (0 : Int) ≤ (p : Int) := by omega
  have h2 : ¬ (q : Int) = 0 := by omega
  have hm : (p : Int).tmod (q : Int) = ((p % q : Nat) : Int) := rfl
  have hlt : p % q < 256 := Nat.lt_of_le_of_lt (Nat.mod_le _ _) hp
  refine Or.inl ⟨hw, fun w _ => ?_⟩
  unfold execOp
  simp only [ho, hx, hy]
  go_simp
  omega
/-- What rem_y asks, at once. -/
structure RemP (p q f : Nat) (n : Int) : Prop where
  hn : n = (q : Int)
  hq : 1 ≤ q
  hp : p < 256
  hq2 : q < 256
  hf : p % q = f
theorem rem_f (p q f : Nat) (n : Int) (h : Hid (RemP p q f n)) (ho : o.op = .binOp .rem 3 x y 3) (hx : a.eval x = .int .i64 (p : Int)) (hy : a.eval y = .int .i64 n) (hw : Region.wanted o (yielded ops a.tmps) = true) : YieldsIf Tryd.prog ops R o (.int .i64 (f : Int)) a := by
  obtain ⟨h1, h2, h3, h4, h5⟩ := h.out
  rw [← h5]
  exact rem_y p q n h1 h2 h3 h4 ho hx hy hw
end
end Go.Proofs.YtnapbmdbeihngaaDoor
