/-
  Layer 5: clewlaw05.fixed: a few trees that are given.
-/
import Derived.Test.YtfejdengpnikeaaDoorAstI
import Derived.Test.YtfejdengpnikeaaDoorAstOne
namespace Go.Proofs.YtfejdengpnikeaaDoor.Ast
open Go.RowKit
theorem not_none {w : World} {A : Option Addr} {n cap : Nat} {l : Nat → Nd} (h : Nodes w A n l) (h0 : 0 < n) : A = none → n = 0 ∧ cap = 0 := by
  obtain ⟨b, o, rfl, -⟩ := h 0 h0
  intro e
  cases e
def lA : Nat → Nd := fun _ => ⟨1, 0, 0, 0, 8589934592, 0, 0, 0, 0, 0, 0, false⟩
def lB : Nat → Nd := fun _ => ⟨1, 0, 0, 0, 17179869184, 0, 0, 0, 0, 0, 0, false⟩
def lC : Nat → Nd := joinL lA 1 lB 1 8
def lD : Nat → Nd := wrapL lC 3 ⟨11, 0, 0, 0, 0, 0, 0, 0, 0, 0, 1, false⟩
def lE : Nat → Nd := wrapL lD 4 ⟨10, 0, 0, 0, 0, 0, 0, 2, 5, 0, 0, false⟩
def l12 : Nd := ⟨12, 0, 0, 0, 0, 0, 0, 0, 0, 0, 1, false⟩
def lH : Nat → Nd := fun _ => l12
def lF : Nat → Nd := joinL lE 5 lH 1 9
def lG : Nat → Nd := wrapL lE 5 ⟨15, 0, 0, 0, 0, 0, 0, 0, 0, 0, 0, false⟩
def lI : Nat → Nd := fun _ => ⟨0, 0, 0, 0, 0, 0, 0, 0, 0, 0, 1, false⟩
set_option maxRecDepth 100000 in
theorem z1 : lenZ lF 7 6 = (0, -1, 0) := by decide
set_option maxRecDepth 100000 in
theorem z2 : lenZ lE 5 4 = (4, 10, 0) := by decide
set_option maxRecDepth 100000 in
theorem z3 : lenZ lC 3 3 = (0, 0, 5) := by decide
set_option maxRecDepth 100000 in
theorem z4 : rightZ lC 3 = 0 := by decide
set_option maxRecDepth 100000 in
theorem z5 : rightZ lF 7 = 0 := by decide
set_option maxRecDepth 100000 in
theorem z6 : cntG lF 7 = 1 := by decide
set_option maxRecDepth 100000 in
theorem z7 : deepZ lF 7 = 5 := by decide
set_option maxRecDepth 100000 in
theorem z8 : rightZ lG 6 = 7 := by decide
theorem z9 (l : Nat → Nd) : rightZ l 0 = 3 := by
  have h : goodB l 0 = false := by unfold goodB; simp
  unfold rightZ shapeZ formZ
  simp [h]
set_option maxRecDepth 100000 in
theorem z10 : rightZ lH 1 = 6 := by decide
set_option maxRecDepth 100000 in
theorem z11 : rightZ lI 1 = 3 := by decide
set_option maxRecDepth 100000 in
theorem z12 : sameZ lC 3 lC 3 = true := by decide
set_option maxRecDepth 100000 in
theorem z13 : sameZ lC 3 lD 4 = false := by decide

/-- The trees that are given, and where they stand. -/
def Fix (w0 : World) (A3 A4 A5 A6 : Option Addr) (n3 n4 n5 n6 g3 g4 g5 g6 : Nat) (u : World) : Prop :=
  Below w0.heap.size w0 u ∧ (Nodes u A3 3 lC ∧ Nodes u A4 4 lD ∧ Nodes u A5 5 lE ∧ Nodes u A6 7 lF) ∧ TreeBox u g3 A3 3 n3 ∧ TreeBox u g4 A4 4 n4 ∧ TreeBox u g5 A5 5 n5 ∧ TreeBox u g6 A6 7 n6
theorem Fix.call {w0 u v : World} {A3 A4 A5 A6 : Option Addr} {n3 n4 n5 n6 g3 g4 g5 g6 : Nat} (h : Fix w0 A3 A4 A5 A6 n3 n4 n5 n6 g3 g4 g5 g6 u) (hb : Below u.heap.size u v) : Fix w0 A3 A4 A5 A6 n3 n4 n5 n6 g3 g4 g5 g6 v :=
  ⟨thenB h.1 hb h.1.size, ⟨h.2.1.1.call hb, h.2.1.2.1.call hb, h.2.1.2.2.1.call hb, h.2.1.2.2.2.call hb⟩, h.2.2.1.call hb, h.2.2.2.1.call hb, h.2.2.2.2.1.call hb, h.2.2.2.2.2.call hb⟩
theorem Fix.cells {w0 u : World} {A3 A4 A5 A6 : Option Addr} {n3 n4 n5 n6 g3 g4 g5 g6 : Nat} (h : Fix w0 A3 A4 A5 A6 n3 n4 n5 n6 g3 g4 g5 g6 u) :
    u.cell? ⟨g3, 0, none⟩ = some (.slice A3 3 n3) ∧ u.cell? ⟨g4, 0, none⟩ = some (.slice A4 4 n4) ∧ u.cell? ⟨g5, 0, none⟩ = some (.slice A5 5 n5) ∧ u.cell? ⟨g6, 0, none⟩ = some (.slice A6 7 n6) :=
  ⟨h.2.2.1.cell, h.2.2.2.1.cell, h.2.2.2.2.1.cell, h.2.2.2.2.2.cell⟩

theorem below_row {B g : Nat} {w0 w : World} (hb : Below B w0 w) (hg : B ≤ g) (cs : Array Value) : Below B w0 (w.setRow g cs) :=
  hb.trans ⟨rfl, rfl, rfl, by simp, fun k hk => setRow_other w g k cs (by omega)⟩
theorem heap_lt {w : World} {g : Nat} {o : Obj} (h : w.heap[g]? = some o) : g < w.heap.size := (Array.getElem?_eq_some_iff.1 h).1
theorem Nodes.lt {w : World} {A : Option Addr} {n : Nat} {l : Nat → Nd} (h : Nodes w A n l) (h0 : 0 < n) (a : Addr) (ha : A = some a) : a.block < w.heap.size := by
  obtain ⟨b, o, e, hb, -⟩ := h 0 h0
  rw [e] at ha
  cases ha
  exact hb
theorem Nodes.row {w : World} {A : Option Addr} {n : Nat} {l : Nat → Nd} (h : Nodes w A n l) (g : Nat) (cs : Array Value) (hg : ∀ a, A = some a → a.block ≠ g) : Nodes (w.setRow g cs) A n l := fun i hi => by
  obtain ⟨b, o, e, hb, h3⟩ := h i hi
  have hne : b ≠ g := hg _ e
  have ho := setRow_other w g b cs hne
  refine ⟨b, o, e, ?_, h3.keep fun j => ?_⟩
  · have h1 : w.heap[b]? = some w.heap[b] := Array.getElem?_eq_getElem hb
    exact heap_lt (ho.trans h1)
  · unfold World.cell?
    rw [ho]
section
variable {ops : Array Oper} {R : World → Prop} {a : Act} {o : Oper} {x : Operand}
theorem loadT_y (g : Nat) (A : Option Addr) (n cap : Nat) (hR : ∀ u, R u → TreeBox u g A n cap) (ho : o.op = .load 24 x) (hx : a.eval x = .pointer (some ⟨g, 0, none⟩)) (hw : Region.wanted o (yielded ops a.tmps) = true) : YieldsIf Tryd.prog ops R o (.agg #[.slice A n cap]) a := by
  refine Or.inl ⟨hw, fun u h => ?_⟩
  have hl := run_loadVar_row u g 24 24 #[.slice A n cap] (0, 0) _ (hR u h) Tryd.underlying24 rfl infoT
  unfold execOp
  simp only [ho, hx, Instr.loadAt, Instr.sureAddr, Sem.run_bind, Sem.run_pure, Result.andThen_ok, hl]
end

end Go.Proofs.YtfejdengpnikeaaDoor.Ast
