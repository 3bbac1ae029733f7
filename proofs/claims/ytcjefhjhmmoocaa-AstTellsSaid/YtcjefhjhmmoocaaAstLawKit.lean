/-
  Layer 5: what the walks of the statements have in common: a tree in a box that is cut.
-/
import Derived.Test.YtcjefhjhmmoocaaAstFix
import Derived.Test.YtcjefhjhmmoocaaAstCut
namespace Go.Proofs.Ytcjefhjhmmoocaa
open Go.RowKit

theorem TreeBox.store {u : World} {g : Nat} {A : Option Addr} {n cap : Nat} (h : TreeBox u g A n cap) (A' : Option Addr) (n' cap' : Nat) : TreeBox (u.setCell ⟨g, 0, none⟩ (.slice A' n' cap')) g A' n' cap' := by
  unfold TreeBox at h ⊢
  rw [setCell_eq_setRow u g 0 _ _ _ _ h]
  exact setRow_heap u g _ #[.slice A' n' cap'] _ _ h
theorem TreeBox.other {u : World} {g : Nat} {A : Option Addr} {n cap : Nat} (h : TreeBox u g A n cap) {k : Nat} (hk : g ≠ k) (v : Value) : TreeBox (u.setCell ⟨k, 0, none⟩ v) g A n cap := (heap_setCell_other _ ⟨k, 0, none⟩ g v hk).trans h
theorem TreeBox.free {u : World} {g : Nat} {A : Option Addr} {n cap : Nat} (h : TreeBox u g A n cap) : u.frozen? ⟨g, 0, none⟩ = false := frozen_of_row u g 0 _ _ h
theorem below_store {B g : Nat} {w0 w : World} (hb : Below B w0 w) (hg : B ≤ g) (v : Value) : Below B w0 (w.setCell ⟨g, 0, none⟩ v) := by
  refine hb.trans ?_
  go_grown
theorem Nodes.take {w : World} {A : Option Addr} {n : Nat} {l : Nat → Nd} (h : Nodes w A n l) (m : Nat) (hm : m ≤ n) : Nodes w A m l := fun i hi => h i (by omega)
end Go.Proofs.Ytcjefhjhmmoocaa
