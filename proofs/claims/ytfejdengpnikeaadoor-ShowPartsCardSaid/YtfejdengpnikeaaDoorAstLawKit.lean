/-
  Layer 5: what the walks of the statements have in common: a tree in a box that is cut.
-/
import Derived.Test.YtfejdengpnikeaaDoorAstFix
import Derived.Test.YtfejdengpnikeaaDoorAstCut
namespace Go.Proofs.YtfejdengpnikeaaDoor.Ast
open Go.RowKit

theorem TreeBox.store {u : World} {g : Nat} {A : Option Addr} {n cap : Nat} (h : TreeBox u g A n cap) (A' : Option Addr) (n' cap' : Nat) : TreeBox (u.setCell ⟨g, 0, none⟩ (.slice A' n' cap')) g A' n' cap' := by
  unfold TreeBox at h ⊢
  rw [setCell_eq_setRow u g 0 _ _ _ _ h]
  exact setRow_heap u g _ #[.slice A' n' cap'] _ _ h
theorem TreeBox.other {u : World} {g : Nat} {A : Option Addr} {n cap : Nat} (h : TreeBox u g A n cap) {k : Nat} (hk : g ≠ k) (v : Value) : TreeBox (u.setCell ⟨k, 0, none⟩ v) g A n cap := (heap_setCell_other _ ⟨k, 0, none⟩ g v hk).trans h
theorem TreeBox.free {u : World} {g : Nat} {A : Option Addr} {n cap : Nat} (h : TreeBox u g A n cap) : u.frozen? ⟨g, 0, none⟩ = false := frozen_of_row u g 0 _ _ h
theorem below_store {B g : Nat} {w0 w : World} (hb : Below B w0 w) (hg : B ≤ g) (v : Value) : Below B w0 (w.setCell ⟨g, 0, none⟩ v) := by
  refine hb.trans ?_
  go_grown
theorem Nodes.take {w : World} {A : Option Addr} {n : Nat} {l : Nat → Nd} (h : Nodes w A n l) (m : Nat) (hm : m ≤ n) : Nodes w A m l := fun i hi => h i (by omega)
section
variable {ops : Array Oper} {R : World → Prop} {a : Act} {o : Oper} {x y : Operand}
/-- A sum that does not wrap. -/
theorem addG_y {m n z : Int} (hz : m + n = z) (h1 : -4611686018427387904 ≤ z) (h2 : z ≤ 4611686018427387903) (ho : o.op = .binOp .add 3 x y 3) (hx : a.eval x = .int .i64 m) (hy : a.eval y = .int .i64 n) (hw : Region.wanted o (yielded ops a.tmps) = true) : YieldsIf Tryd.prog ops R o (.int .i64 z) a := by
  refine Or.inl ⟨hw, fun w _ => ?_⟩
  have hq : IntKind.i64.wrap z = z := by rw [IntKind.wrap_i64]; omega
  unfold execOp
  simp only [ho, hx, hy]
  go_simp
end
/-- One tree in its box. -/
def Sol (w0 : World) (A : Option Addr) (m cap g : Nat) (l : Nat → Nd) (u : World) : Prop := Below w0.heap.size w0 u ∧ TreeBox u g A m cap ∧ Nodes u A m l
theorem Sol.call {w0 u v : World} {A : Option Addr} {m cap g : Nat} {l : Nat → Nd} (h : Sol w0 A m cap g l u) (hb : Below u.heap.size u v) : Sol w0 A m cap g l v := ⟨thenB h.1 hb h.1.size, h.2.1.call hb, h.2.2.call hb⟩
/-- Two trees in their boxes. -/
def Duo (w0 : World) (A : Option Addr) (m cap g : Nat) (l : Nat → Nd) (B : Option Addr) (k cap' g' : Nat) (l' : Nat → Nd) (u : World) : Prop := Below w0.heap.size w0 u ∧ (TreeBox u g A m cap ∧ Nodes u A m l) ∧ TreeBox u g' B k cap' ∧ Nodes u B k l'
theorem Duo.call {w0 u v : World} {A : Option Addr} {m cap g : Nat} {l : Nat → Nd} {B : Option Addr} {k cap' g' : Nat} {l' : Nat → Nd} (h : Duo w0 A m cap g l B k cap' g' l' u) (hb : Below u.heap.size u v) : Duo w0 A m cap g l B k cap' g' l' v :=
  ⟨thenB h.1 hb h.1.size, ⟨h.2.1.1.call hb, h.2.1.2.call hb⟩, h.2.2.1.call hb, h.2.2.2.call hb⟩
/-- A box that is filled with new nodes, among another one. -/
theorem two_rows {u : World} {g9 g10 : Nat} {A3 A4 : Option Addr} {k1 k2 n3 n4 : Nat} {l1 l2 : Nat → Nd} (hz9 : u.heap[g9]? = some (.cells #[.slice none 0 0] 24 (0, 0))) (hz10 : u.heap[g10]? = some (.cells #[.slice none 0 0] 24 (0, 0))) (hne : g9 ≠ g10)
    (h3 : Nodes u A3 k1 l1) (h4 : Nodes u A4 k2 l2) (d39 : ∀ a, A3 = some a → a.block ≠ g9) (d310 : ∀ a, A3 = some a → a.block ≠ g10) (d49 : ∀ a, A4 = some a → a.block ≠ g9) (d410 : ∀ a, A4 = some a → a.block ≠ g10) :
    TreeBox ((u.setRow g9 #[.slice A3 k1 n3]).setRow g10 #[.slice A4 k2 n4]) g9 A3 k1 n3 ∧ TreeBox ((u.setRow g9 #[.slice A3 k1 n3]).setRow g10 #[.slice A4 k2 n4]) g10 A4 k2 n4 ∧
    Nodes ((u.setRow g9 #[.slice A3 k1 n3]).setRow g10 #[.slice A4 k2 n4]) A3 k1 l1 ∧ Nodes ((u.setRow g9 #[.slice A3 k1 n3]).setRow g10 #[.slice A4 k2 n4]) A4 k2 l2 :=
  ⟨(setRow_other _ g10 g9 _ hne).trans (setRow_heap u g9 _ #[.slice A3 k1 n3] _ _ hz9), setRow_heap _ g10 _ #[.slice A4 k2 n4] _ _ ((setRow_other u g9 g10 _ hne.symm).trans hz10), (h3.row g9 _ d39).row g10 _ d310, (h4.row g9 _ d49).row g10 _ d410⟩
end Go.Proofs.YtfejdengpnikeaaDoor.Ast
