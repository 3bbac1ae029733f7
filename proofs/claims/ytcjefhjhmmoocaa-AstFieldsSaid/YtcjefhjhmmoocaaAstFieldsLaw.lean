/-
  The statement AstFields: what its walk comes to.
-/
import Derived.Test.YtcjefhjhmmoocaaAstFieldsB
import Derived.Test.YtcjefhjhmmoocaaAstFieldsC
import Derived.Test.YtcjefhjhmmoocaaAstFieldsD
namespace Go.Proofs.Ytcjefhjhmmoocaa
open Go.RowKit
theorem astFields_walk (hS : SortOk) (hN : SortNone) (k f : Nat) (w : World) (hk : k < 256) (_ : f < 256) :
    Calls Try.prog 7 #[.int .u8 (k : Int), .int .u8 (f : Int)] w fun e w' => e = .returned (.bool true) ∧ Below w.heap.size w w' := by
  rcases (show f % 4 = 0 ∨ f % 4 = 1 ∨ f % 4 = 2 ∨ f % 4 = 3 by omega) with h | h | h | h
  · exact fields_all0 hS hN k f w hk h
  · exact fields_all1 hS hN k f w hk h
  · exact fields_all2 hS hN k f w hk h
  · exact fields_all3 hS hN k f w hk h
end Go.Proofs.Ytcjefhjhmmoocaa
