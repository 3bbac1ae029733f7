/-
  Layer 5: a node in a block of its own.
-/
import Derived.Test.YtcjefhjhmmoocaaAstMem
namespace Go.Proofs.Ytcjefhjhmmoocaa
open Go.RowKit

theorem below_drewN {B : Nat} {w u : World} (h : Below B w u) (q : Nat) : Below B w (u.drewN q) := ⟨h.os, h.tape, h.output, h.size, h.block⟩
theorem ret_ii {a b c d : Int} (h : a = c) (h2 : b = d) : Ending.returned (.tuple #[.int .i64 a, .int .i64 b]) = .returned (.tuple #[.int .i64 c, .int .i64 d]) := by rw [h, h2]

/-- Block g is one node, of type T. -/
def Box12 (u : World) (T : TypeId) (g : Nat) (k a b s0 s1 s2 s3 mn mx md n : Int) (f : Bool) : Prop :=
  u.heap[g]? = some (.cells #[.int .i64 k, .int .i64 a, .int .i64 b, .int .u64 s0, .int .u64 s1, .int .u64 s2, .int .u64 s3, .int .i64 mn, .int .i64 mx, .int .i64 md, .int .i64 n, .bool f] T (0, 0))
section
variable {u v : World} {T : TypeId} {g : Nat} {k a b s0 s1 s2 s3 mn mx md n : Int} {f : Bool}
theorem Box12.lt (h : Box12 u T g k a b s0 s1 s2 s3 mn mx md n f) : g < u.heap.size := (Array.getElem?_eq_some_iff.1 h).1
theorem Box12.cells (h : Box12 u T g k a b s0 s1 s2 s3 mn mx md n f) :
    u.cell? ⟨g, 0, none⟩ = some (.int .i64 k) ∧ u.cell? ⟨g, 1, none⟩ = some (.int .i64 a) ∧ u.cell? ⟨g, 2, none⟩ = some (.int .i64 b) ∧
    u.cell? ⟨g, 3, none⟩ = some (.int .u64 s0) ∧ u.cell? ⟨g, 4, none⟩ = some (.int .u64 s1) ∧ u.cell? ⟨g, 5, none⟩ = some (.int .u64 s2) ∧ u.cell? ⟨g, 6, none⟩ = some (.int .u64 s3) ∧
    u.cell? ⟨g, 7, none⟩ = some (.int .i64 mn) ∧ u.cell? ⟨g, 8, none⟩ = some (.int .i64 mx) ∧ u.cell? ⟨g, 9, none⟩ = some (.int .i64 md) ∧ u.cell? ⟨g, 10, none⟩ = some (.int .i64 n) ∧ u.cell? ⟨g, 11, none⟩ = some (.bool f) := by
  unfold Box12 at h
  unfold World.cell?
  simp [h]
theorem Box12.free (h : Box12 u T g k a b s0 s1 s2 s3 mn mx md n f) (j : Nat) : u.frozen? ⟨g, j, none⟩ = false := frozen_of_row u g j _ _ h
theorem Box12.call (h : Box12 u T g k a b s0 s1 s2 s3 mn mx md n f) (hb : Below u.heap.size u v) : Box12 v T g k a b s0 s1 s2 s3 mn mx md n f := (hb.block g h.lt).trans h
theorem Box12.of_block (h : Box12 u T g k a b s0 s1 s2 s3 mn mx md n f) (hb : v.heap[g]? = u.heap[g]?) : Box12 v T g k a b s0 s1 s2 s3 mn mx md n f := hb.trans h
theorem Box12.alloc (h : Box12 u T g k a b s0 s1 s2 s3 mn mx md n f) (o : Obj) : Box12 (u.alloc o) T g k a b s0 s1 s2 s3 mn mx md n f := (Below.heap_alloc _ _ _ h.lt).trans h
theorem Box12.new (u : World) (T : TypeId) (k a b s0 s1 s2 s3 mn mx md n : Int) (f : Bool) : Box12 (u.alloc (.cells #[.int .i64 k, .int .i64 a, .int .i64 b, .int .u64 s0, .int .u64 s1, .int .u64 s2, .int .u64 s3, .int .i64 mn, .int .i64 mx, .int .i64 md, .int .i64 n, .bool f] T)) T u.heap.size k a b s0 s1 s2 s3 mn mx md n f := heap_alloc_new _ _
end
end Go.Proofs.Ytcjefhjhmmoocaa
