/-
  Layer 6: the calls whose answers the document fixes: the statements' own fixed() answers yes.
-/
import Derived.Test.YtkpijnodhlonfaaGreatDoorLexLex
import Derived.Test.YtkpijnodhlonfaaGreatDoorLexEval
import Derived.Test.YtkpijnodhlonfaaGreatDoorClassM
namespace Go.Proofs.YtkpijnodhlonfaaGreatDoor
open Go.RowKit

/-- What a world holds: the table of bits, the sentinel, the openings. -/
structure Tabs (w : World) : Prop where
  tab : TabOk w
  err : ErrW w
  op : OpOk w
theorem Tabs.call {w w' : World} (h : Tabs w) (hb : Below w.heap.size w w') : Tabs w' := ⟨h.tab.call hb, h.err.call hb, h.op.call hb⟩
theorem Tabs.alloc {w : World} (h : Tabs w) (o : Obj) : Tabs (w.alloc o) := ⟨h.tab.alloc o, h.err.alloc o, h.op.alloc o⟩
set_option maxRecDepth 20000 in
set_option maxHeartbeats 4000000 in
theorem class_arg (p : ByteArray) (i : Nat) (w : World) (_hp : p.size ≤ 1000000) (hi : i < p.size) (h91 : bt p i ≠ 91) : Calls Tryz.prog 90 #[.string p, .int .i64 (i : Int)] w fun e w' => e = .returned (.tuple #[setV 0#256, .int .i64 0, .int .i64 1]) ∧ Below w.heap.size w w' := by
  have hb : bt p i = (p[i]'hi).toNat := bt_at hi
  have q1 : ¬ ((p[i]'hi).toNat : Int) = 91 := by omega
  have q2 : ¬ (i : Int) < 0 := by omega
  have q3 : ¬ (p.size : Int) ≤ (i : Int) := by omega
  clear hb h91
  go_enter Tryz.func90, Tryz.ntmps90
  go_wp2_with fail
  have hZ : Box (World.alloc w (.cells #[.int .u64 0, .int .u64 0, .int .u64 0, .int .u64 0] 29)) w.heap.size 0#256 := Box.zero (heap_alloc_new _ _)
  exact bodyPost_ret (resS3 (p := 4) (u := 5) (u2 := 6) (S := 0#256) (v := .int .i64 0) (v2 := .int .i64 1) rfl _ (g := w.heap.size) rfl rfl rfl hZ) rfl ⟨rfl, (Below.refl _ w).alloc (Nat.le_refl _) _⟩
/-- The tokens of the first pattern lie there, and the set of the class. -/
structure FixS (w0 w : World) (g g2 : Nat) (SC : BitVec 256) : Prop where
  row : w.rangeAt g 0 (toksC toksA)
  lt : g < w.heap.size
  box : Box w g2 SC
  below : Below w0.heap.size w0 w
theorem FixS.call {w0 w w' : World} {g g2 : Nat} {SC : BitVec 256} (h : FixS w0 w g g2 SC) (hb : Below w.heap.size w w') : FixS w0 w' g g2 SC :=
  ⟨fun j v hv => (hb.cell (p := ⟨g, 0 + j, none⟩) h.lt).trans (h.row j v hv), Nat.lt_of_lt_of_le h.lt hb.size, h.box.call hb, thenB h.below hb h.below.size⟩
theorem FixS.drew {w0 w : World} {g g2 : Nat} {SC : BitVec 256} (h : FixS w0 w g g2 SC) : FixS w0 w.drew g g2 SC := ⟨h.row, h.lt, h.box, h.below.drew⟩
theorem FixS.alloc {w0 w : World} {g g2 : Nat} {SC : BitVec 256} (h : FixS w0 w g g2 SC) (o : Obj) : FixS w0 (w.alloc o) g g2 SC := h.call ((Below.refl _ w).alloc (Nat.le_refl _) o)
theorem FixS.at {w0 w : World} {g g2 : Nat} {SC : BitVec 256} (h : FixS w0 w g g2 SC) (k : Nat) (t : Tok) (he : ((toksC toksA).drop (10 * k)).take 10 = (tokC t).toList) : w.rangeAt g (10 * k) (tokC t).toList := fun j v hv => by
  rw [← he] at hv
  have hj : j < 10 := by
    have := (List.getElem?_eq_some_iff.1 hv).1
    rw [List.length_take] at this
    omega
  rw [List.getElem?_take_of_lt hj, List.getElem?_drop] at hv
  have := h.row (10 * k + j) v hv
  rwa [Nat.zero_add] at this
theorem tokAt_y {ops : Array Oper} {a : Act} {o : Oper} {x : Operand} {w0 : World} {SC : BitVec 256} (g g2 k : Nat) (t : Tok) (he : ((toksC toksA).drop (10 * k)).take 10 = (tokC t).toList) (ho : o.op = .load 126 x) (hx : a.eval x = .pointer (some ⟨g, 10 * k, none⟩))
    (hw : Region.wanted o (yielded ops a.tmps) = true) : YieldsIf Tryz.prog ops (fun u => FixS w0 u g g2 SC) o (tokV t) a :=
  yieldsIf_load_mid hw 126 x ho g (10 * k) hx (tokC t).toList _ (fun _ h => h.at k t he) Tryz.underlying126 rfl (by rw [Array.length_toList, tokC_size]; exact sizeTok)
def tk (k : Nat) : Tok := toksA.getD k (tok0 0)
end Go.Proofs.YtkpijnodhlonfaaGreatDoor
