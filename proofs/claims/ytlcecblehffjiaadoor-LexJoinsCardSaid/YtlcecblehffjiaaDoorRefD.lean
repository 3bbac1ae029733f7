/-
  What the statement's own Of does: the 256 bools of four words.
-/
import Derived.Test.YtlcecblehffjiaaDoorRefC
namespace Go.Proofs.YtlcecblehffjiaaDoor
open Go.RowKit

/-- Four words in a block of the array's own type. -/
def BoxW (w : World) (g : Nat) (a b c d : Nat) : Prop := w.heap[g]? = some (.cells #[.int .u64 (a : Int), .int .u64 (b : Int), .int .u64 (c : Int), .int .u64 (d : Int)] 34 (0, 0))
theorem BoxW.cells {w : World} {g a b c d : Nat} (h : BoxW w g a b c d) : w.cell? ⟨g, 0, none⟩ = some (.int .u64 (a : Int)) ∧ w.cell? ⟨g, 1, none⟩ = some (.int .u64 (b : Int)) ∧ w.cell? ⟨g, 2, none⟩ = some (.int .u64 (c : Int)) ∧ w.cell? ⟨g, 3, none⟩ = some (.int .u64 (d : Int)) := by
  unfold BoxW at h
  refine ⟨?_, ?_, ?_, ?_⟩ <;> rw [cell_of_row w g _ _ _ _ h] <;> rfl
theorem BoxW.lt {w : World} {g a b c d : Nat} (h : BoxW w g a b c d) : g < w.heap.size := lt_of_block h
theorem BoxW.free {w : World} {g a b c d : Nat} (h : BoxW w g a b c d) (j : Nat) : w.frozen? ⟨g, j, none⟩ = false := frozen_of_row w g j _ _ h
theorem BoxW.other {w : World} {g a b c d : Nat} (h : BoxW w g a b c d) {x : Addr} (v : Value) (hg : g ≠ x.block) : BoxW (w.setCell x v) g a b c d := (heap_setCell_other w x g v hg).trans h
theorem BoxW.alloc {w : World} {g a b c d : Nat} (h : BoxW w g a b c d) (o : Obj) : BoxW (w.alloc o) g a b c d := (Below.heap_alloc _ _ _ h.lt).trans h
theorem BoxW.row {w : World} {g k a b c d : Nat} (h : BoxW w g a b c d) (cs : Array Value) (hk : g ≠ k) : BoxW (w.setRow k cs) g a b c d := (setRow_other w k g cs hk).trans h

/-- A word, shifted down. -/
def shr (S : BitVec 256) (q k : Nat) : Nat := W S q / 2 ^ k
theorem shr_zero (S : BitVec 256) (q : Nat) : shr S q 0 = W S q := by simp [shr]
theorem shr_half (S : BitVec 256) (q k : Nat) : shr S q k / 2 = shr S q (k + 1) := by unfold shr; rw [Nat.div_div_eq_div_mul, ← Nat.pow_succ]
theorem shr_wrap (S : BitVec 256) (q k : Nat) : IntKind.u64.wrap ((shr S q k : Int) / 2) = (shr S q (k + 1) : Int) := by
  rw [← shr_half, IntKind.wrap_u64]
  have h : shr S q k ≤ W S q := Nat.div_le_self _ _
  have := W_lt S q
  omega
theorem odd_word (S : BitVec 256) (i q : Nat) (hq : i / 64 = q) : (((shr S q (i % 64) : Nat) : Int) % 2 == 1) = mem S i := by
  have h := bit_W S i
  rw [hq, Nat.testBit_eq_decide_div_mod_eq] at h
  unfold mem shr
  rw [← h, Bool.eq_iff_iff]
  simp only [beq_iff_eq, decide_eq_true_eq]
  omega

end Go.Proofs.YtlcecblehffjiaaDoor
