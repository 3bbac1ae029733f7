/-
  The calls' contracts once more, in words that no rewriting opens; what is held of memory while a statement runs in whatever order.
-/
import Derived.Test.YtobhhhopkkcdiaaDoorClassC
import Derived.Test.YtobhhhopkkcdiaaDoorClassH
namespace Go.Proofs.YtobhhhopkkcdiaaDoor
open Go.RowKit

def orS (S T : BitVec 256) : BitVec 256 := S ||| T
def andS (S T : BitVec 256) : BitVec 256 := S &&& T
def notS (S : BitVec 256) : BitVec 256 := ~~~S
def oneS (n : Nat) : BitVec 256 := addB 0#256 n
def allS : BitVec 256 := ~~~0#256
def zeroS : BitVec 256 := 0#256
def eqS (S T : BitVec 256) : Bool := decide (S = T)
theorem eqS_true {S T : BitVec 256} (h : S = T) : eqS S T = true := by simp [eqS, h]

theorem or_k (S T : BitVec 256) (w : World) : Calls Tryd.prog 19 #[setV S, setV T] w fun e w' => e = .returned (setV (orS S T)) ∧ Below w.heap.size w w' := or_any S T w
theorem and_k (S T : BitVec 256) (w : World) : Calls Tryd.prog 22 #[setV S, setV T] w fun e w' => e = .returned (setV (andS S T)) ∧ Below w.heap.size w w' := and_any S T w
theorem not_k (S : BitVec 256) (w : World) : Calls Tryd.prog 24 #[setV S] w fun e w' => e = .returned (setV (notS S)) ∧ Below w.heap.size w w' := not_any S w
theorem one_k (n : Int) (w : World) (h0 : 0 ≤ n) (h1 : n < 256) : Calls Tryd.prog 33 #[.int .u8 n] w fun e w' => e = .returned (setV (oneS n.toNat)) ∧ Below w.heap.size w w' := one_any n w h0 h1
theorem all_k (w : World) : Calls Tryd.prog 34 #[] w fun e w' => e = .returned (setV allS) ∧ Below w.heap.size w w' := all_any w
theorem of_k (l : List UInt8) (hl : l.length ≤ 100) (w : World) :
    Calls Tryd.prog 29 #[.string ⟨l.toArray⟩] w fun e w' => e = .returned (setV (ofBytes l)) ∧ Below w.heap.size w w' := by
  have h := of_any ⟨l.toArray⟩ w (by show l.toArray.size ≤ _; simp; omega)
  simpa using h

@[go_sem high] theorem eqSet (A B : BitVec 256) (w : World) : (binOp .eql 25 (.agg #[.int .u64 (W A 0), .int .u64 (W A 1), .int .u64 (W A 2), .int .u64 (W A 3)]) (.agg #[.int .u64 (W B 0), .int .u64 (W B 1), .int .u64 (W B 2), .int .u64 (W B 3)])).run Tryd.prog w = .ok (.bool (eqS A B)) w := by
  have h := eq_words A B
  rw [run_eql_struct]
  simp [go_sem, h, eqS]
  by_cases e : A = B <;> simp [e]
@[go_sem high] theorem eqSetZ (A : BitVec 256) (w : World) : (binOp .eql 25 (.agg #[.int .u64 (W A 0), .int .u64 (W A 1), .int .u64 (W A 2), .int .u64 (W A 3)]) (.agg #[.int .u64 0, .int .u64 0, .int .u64 0, .int .u64 0])).run Tryd.prog w = .ok (.bool (eqS A zeroS)) w := by
  have h := none_words A
  rw [run_eql_struct]
  simp [go_sem, h, eqS, zeroS]
  by_cases e : A = 0#256 <;> simp [e]

/-- What is held of the block of a set, through a call and a new block. -/
theorem keep_call {g : Nat} {S : BitVec 256} {w u v : World} (h : u.cell? ⟨g, 0, none⟩ = some (.int .u64 (W S 0)) ∧ u.cell? ⟨g, 1, none⟩ = some (.int .u64 (W S 1)) ∧ u.cell? ⟨g, 2, none⟩ = some (.int .u64 (W S 2)) ∧ u.cell? ⟨g, 3, none⟩ = some (.int .u64 (W S 3)) ∧ Below w.heap.size w u) (hb : Below u.heap.size u v) :
    v.cell? ⟨g, 0, none⟩ = some (.int .u64 (W S 0)) ∧ v.cell? ⟨g, 1, none⟩ = some (.int .u64 (W S 1)) ∧ v.cell? ⟨g, 2, none⟩ = some (.int .u64 (W S 2)) ∧ v.cell? ⟨g, 3, none⟩ = some (.int .u64 (W S 3)) ∧ Below w.heap.size w v := by
  obtain ⟨a, b, c, d, e⟩ := h
  have hl : g < u.heap.size := block_lt_of_cell a
  exact ⟨(hb.cell (p := ⟨g, 0, none⟩) hl).trans a, (hb.cell (p := ⟨g, 1, none⟩) hl).trans b, (hb.cell (p := ⟨g, 2, none⟩) hl).trans c, (hb.cell (p := ⟨g, 3, none⟩) hl).trans d, thenB e hb e.size⟩
theorem keep_alloc {g : Nat} {S : BitVec 256} {w u : World} (o : Obj) (h : u.cell? ⟨g, 0, none⟩ = some (.int .u64 (W S 0)) ∧ u.cell? ⟨g, 1, none⟩ = some (.int .u64 (W S 1)) ∧ u.cell? ⟨g, 2, none⟩ = some (.int .u64 (W S 2)) ∧ u.cell? ⟨g, 3, none⟩ = some (.int .u64 (W S 3)) ∧ Below w.heap.size w u) :
    (u.alloc o).cell? ⟨g, 0, none⟩ = some (.int .u64 (W S 0)) ∧ (u.alloc o).cell? ⟨g, 1, none⟩ = some (.int .u64 (W S 1)) ∧ (u.alloc o).cell? ⟨g, 2, none⟩ = some (.int .u64 (W S 2)) ∧ (u.alloc o).cell? ⟨g, 3, none⟩ = some (.int .u64 (W S 3)) ∧ Below w.heap.size w (u.alloc o) :=
  keep_call h ((Below.refl _ u).alloc (Nat.le_refl _) o)
end Go.Proofs.YtobhhhopkkcdiaaDoor
