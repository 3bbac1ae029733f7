import Derived.Test.YtdnbpbngoiahlaaGreatDoorParFix
namespace Go.Proofs.YtdnbpbngoiahlaaGreatDoor
open Go.RowKit
open Ast (Nd joinL wrapL deepZ rightZ cntG Nodes)
section
variable {ops : Array Oper} {R : World → Prop} {a : Act} {o : Oper} {x y : Operand}
theorem geqI_y {m n : Int} (b : Bool) (h : decide (n ≤ m) = b) (ho : o.op = .binOp .geq 3 x y 3) (hx : a.eval x = .int .i64 m) (hy : a.eval y = .int .i64 n) (hw : Region.wanted o (yielded ops a.tmps) = true) : YieldsIf Tryz.prog ops R o (.bool b) a := by
 refine Or.inl ⟨hw, fun w _ => ?_⟩
 unfold execOp
 simp only [ho, hx, hy]
 go_simp
end
theorem parse_g (K : PKit) (p : ByteArray) (w : World) (hw : Tabs w) : Calls Tryz.prog 10 #[.string p] w fun e w' => ∃ B cap, e = .returned (.tuple #[.agg (trC B (parseZ p).1.1 cap), .int .i64 (parseZ p).2]) ∧ TreeAt w w' B cap (parseZ p).1 ∧ Below w.heap.size w w' := parse_any K p w hw
theorem Tabs.below {w w' : World} (h : Tabs w) (hb : Below w.heap.size w w') : Tabs w' := h.call hb
theorem tree_cell {w : World} {g : Nat} {A : Option Addr} {n cap : Nat} (h : BoxV 24 w g (trC A n cap)) : w.cell? ⟨g, 0, none⟩ = some (.slice A n cap) := (cell_of_row w g 0 _ _ _ h).trans rfl
theorem same_self (l : Nat → Nd) (n : Nat) : Ast.sameZ l n l n = true := by
 unfold Ast.sameZ
 rw [decide_eq_true rfl, Bool.true_and]
 induction n with
 | zero => rfl
 | succ n ih =>
   unfold Ast.sameB Ast.eqN
   rw [decide_eq_true rfl, ih]
   rfl
end Go.Proofs.YtdnbpbngoiahlaaGreatDoor
