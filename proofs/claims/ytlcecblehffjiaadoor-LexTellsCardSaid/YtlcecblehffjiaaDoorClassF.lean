/-
  What Set.Ranges does: eachRun goes through the bytes and hands each run to the closure, which appends it.
-/
import Derived.Test.YtlcecblehffjiaaDoorClassDE
import Derived.Test.YtlcecblehffjiaaDoorRuns
namespace Go.Proofs.YtlcecblehffjiaaDoor
open Go.RowKit

end Go.Proofs.YtlcecblehffjiaaDoor
