import Derived.Test.YtdnbpbngoiahlaaGreatDoorLexLex
import Derived.Test.YtdnbpbngoiahlaaGreatDoorLexEval
import Derived.Test.YtdnbpbngoiahlaaGreatDoorClassM
namespace Go.Proofs.YtdnbpbngoiahlaaGreatDoor
open Go.RowKit
structure Tabs (w : World) : Prop where
 tab : TabOk w
 err : ErrW w
 op : OpOk w
theorem Tabs.call {w w' : World} (h : Tabs w) (hb : Below w.heap.size w w') : Tabs w' := ⟨h.tab.call hb, h.err.call hb, h.op.call hb⟩
theorem Tabs.alloc {w : World} (h : Tabs w) (o : Obj) : Tabs (w.alloc o) := ⟨h.tab.alloc o, h.err.alloc o, h.op.alloc o⟩
structure FixS (w0 w : World) (g g2 : Nat) (SC : BitVec 256) : Prop where
 row : w.rangeAt g 0 (toksC toksA)
 lt : g < w.heap.size
 box : Box w g2 SC
 below : Below w0.heap.size w0 w
theorem FixS.call {w0 w w' : World} {g g2 : Nat} {SC : BitVec 256} (h : FixS w0 w g g2 SC) (hb : Below w.heap.size w w') : FixS w0 w' g g2 SC :=
 ⟨fun j v hv => (hb.cell (p := ⟨g, 0 + j, none⟩) h.lt).trans (h.row j v hv), Nat.lt_of_lt_of_le h.lt hb.size, h.box.call hb, thenB h.below hb h.below.size⟩
theorem FixS.drew {w0 w : World} {g g2 : Nat} {SC : BitVec 256} (h : FixS w0 w g g2 SC) : FixS w0 w.drew g g2 SC := ⟨h.row, h.lt, h.box, h.below.drew⟩
theorem FixS.alloc {w0 w : World} {g g2 : Nat} {SC : BitVec 256} (h : FixS w0 w g g2 SC) (o : Obj) : FixS w0 (w.alloc o) g g2 SC := h.call ((Below.refl _ w).alloc (Nat.le_refl _) o)
theorem FixS.at {w0 w : World} {g g2 : Nat} {SC : BitVec 256} (h : FixS w0 w g g2 SC) (k : Nat) (t : Tok) (he : ((toksC toksA).drop (10 * k)).take 10 = (tokC t).toList) : w.rangeAt g (10 * k) (tokC t).toList := fun j v hv => by
 rw [← he] at hv
 have hj : j < 10 := by
  have := (List.getElem?_eq_some_iff.1 hv).1
  rw [List.length_take] at this
  omega
 rw [List.getElem?_take_of_lt hj, List.getElem?_drop] at hv
 have := h.row (10 * k + j) v hv
 rwa [Nat.zero_add] at this
end Go.Proofs.YtdnbpbngoiahlaaGreatDoor
