/-
  Layer 5: what is asked of slices.SortFunc at the groups' places, in words that need nothing of the library.
-/
import Derived.Test.YtcjefhjhmmoocaaAstGrpMath
import Derived.Test.YtcjefhjhmmoocaaAstCmp
namespace Go.Proofs.Ytcjefhjhmmoocaa
open Go.RowKit

/-- Places as values. -/
def idxL (L : List Nat) : List Value := L.map fun i : Nat => .int .i64 (i : Int)
/-- slices.SortFunc, by the closure of groupsAsTheyBegin, puts the groups' places into the order in which the groups begin. -/
def SortOk : Prop := ∀ (l : Nat → Nd) (n L g b cap : Nat) (w : World), 0 < n → n ≤ 1000000 → siz l n = n → L < w.heap.size → w.cell? ⟨L, 0, none⟩ = some (.slice (some ⟨g, 0, none⟩) n n) → w.rowIs g 3 n (begV l n) → b < w.heap.size → b ≠ L → b ≠ g →
  (∀ j, j < (gix l n).length → w.cell? ⟨b, j, none⟩ = (idxL (gix l n))[j]? ∧ w.frozen? ⟨b, j, none⟩ = false) →
  Calls Try.prog 52 #[.slice (some ⟨b, 0, none⟩) (gix l n).length cap, .func (.func 53) #[] #[.pointer (some ⟨L, 0, none⟩)]] w fun e w' =>
    e = .returned (.tuple #[]) ∧ w.grownBy w' (some b) ∧ ∀ j, j < (gix l n).length → w'.cell? ⟨b, j, none⟩ = (idxL (grp l n))[j]?
/-- At no element nothing turns. -/
def SortNone : Prop := ∀ (A : Option Addr) (cap : Nat) (f : Value) (w : World), Calls Try.prog 52 #[.slice A 0 cap, f] w fun e w' => e = .returned (.tuple #[]) ∧ w = w'
theorem grpZ_neg (l : Nat → Nd) (i j : Nat) : grpZ l i j < 0 ↔ ahead l i j := by
  unfold grpZ orZ cmpZ ahead
  (repeat' split) <;> omega
end Go.Proofs.Ytcjefhjhmmoocaa
