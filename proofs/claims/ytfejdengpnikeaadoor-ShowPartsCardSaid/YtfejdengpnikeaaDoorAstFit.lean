/-
  Layer 5: may a node be, but for its children (the document's own answer, fits).
-/
import Derived.Test.YtfejdengpnikeaaDoorAstA
namespace Go.Proofs.YtfejdengpnikeaaDoor.Ast
open Go.RowKit


/-- May a node be, but for its children? -/
def fitsB (x : Nd) : Bool := decide (0 ≤ x.k ∧ x.k ≤ 17 ∧ (x.k = 1 ∨ x.s0 = 0 ∧ x.s1 = 0 ∧ x.s2 = 0 ∧ x.s3 = 0) ∧ (x.k = 10 ∨ x.mn = 0 ∧ x.mx = 0 ∧ x.md = 0) ∧ (x.k = 11 ∨ x.k = 12 ∨ x.n = 0) ∧ (x.k = 12 ∨ x.f = false) ∧
  (x.k ≠ 10 ∨ 0 ≤ x.mn ∧ x.mn ≤ 100 ∧ x.mx ≤ 100 ∧ (x.mx = -1 ∨ x.mn ≤ x.mx) ∧ 0 ≤ x.md ∧ x.md ≤ 2))

end Go.Proofs.YtfejdengpnikeaaDoor.Ast
