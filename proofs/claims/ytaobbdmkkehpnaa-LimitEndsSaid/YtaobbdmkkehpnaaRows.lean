/-
  No cell of these rows narrows 'for every input' (looked for: loops, veiled, ifaces, maps, wideKeys, modest, calm, conditions, laid).
  DERIVED. THE GIVEN ROWS OF THIS SEAT. 6 by the template 'for every input the law returns true; each argument reads behind the call as it read before'; 0 by the template 'total and deterministic' (their statements: YtaobbdmkkehpnaaTotals.lean).
  GIVEN WITH THE SEED: the statements are not yours to turn. If you find one false, say at which input.
  Laid BY PROGRAM, IN A SANDBOX (cutbox-rows.mjs): the forced cells as the released guide's own fill.sh prints them over the translation d5ced833f2b2c882… (all of the seat's roots in one cut). By AI agents, Wed Nov 11 2026. No macro, syntax, notation, axiom, sorry.
-/
import Derived.Test.YtaobbdmkkehpnaaChecked
import GoSem.Claim
import GoSem.ClaimJoined
import GoSem.ClaimMapViews
import Derived.JoinedTies
import Derived.KernelRfl
namespace Go.Proofs.Ytaobbdmkkehpnaa
/- THE CELL 'sum', in the pinned program and in every row, IS THE sha256 OF THE DUMP (.gsa) THAT YtaobbdmkkehpnaaProg.lean LOADS. Nothing in Lean hashes anything: it is a label: what it is worth is what the hold of that sum in a sandbox is worth. -/
noncomputable def Try.pinned : Pinned := { name := "ytaobbdmkkehpnaa", sum := "d5ced833f2b2c882f68946b5a138a60b29b184f323642d0eb8318afb0a494802", checked := Try.checked }
namespace Rows
def none {H : Type} : Left H := { results := [], args := [] }

/-- 'clewlaw04.LimitTells': WHATEVER THE INPUT: true; the input reads as it did. -/
def limitTellsSpec : ChangeSpec := { name := "limitTells", fn := fun _ => fun
  | [d1, d2, d3] => { results := [.lit (.bool true)], args := [d1, d2, d3] }
  | _ => none }
def limitTellsRow : OpenClaim := { program := "ytaobbdmkkehpnaa", sum := "d5ced833f2b2c882f68946b5a138a60b29b184f323642d0eb8318afb0a494802", func := "clew/clewlaw04.LimitTells", spec := "limitTells", inPlace := ["math.Float64bits", "math.Float64frombits"], apart := false }
def LimitTellsSaid : Prop := limitTellsRow.holds Try.pinned (OpenSpec.ofChange limitTellsSpec)

/-- ITS FALSE NEIGHBOUR: 'it returns false'. Refute it at one input. -/
def limitTellsWrong : ChangeSpec := { name := "limitTells", fn := fun _ => fun
  | [d1, d2, d3] => { results := [.lit (.bool false)], args := [d1, d2, d3] }
  | _ => none }
def LimitTellsWrongFalsely : Prop := limitTellsRow.holds Try.pinned (OpenSpec.ofChange limitTellsWrong)

/-- 'clewlaw04.LimitCounts': WHATEVER THE INPUT: true; the input reads as it did. -/
def limitCountsSpec : ChangeSpec := { name := "limitCounts", fn := fun _ => fun
  | [d1, d2, d3] => { results := [.lit (.bool true)], args := [d1, d2, d3] }
  | _ => none }
def limitCountsRow : OpenClaim := { program := "ytaobbdmkkehpnaa", sum := "d5ced833f2b2c882f68946b5a138a60b29b184f323642d0eb8318afb0a494802", func := "clew/clewlaw04.LimitCounts", spec := "limitCounts", inPlace := ["math.Float64bits", "math.Float64frombits"], apart := false }
def LimitCountsSaid : Prop := limitCountsRow.holds Try.pinned (OpenSpec.ofChange limitCountsSpec)

/-- ITS FALSE NEIGHBOUR: 'it returns false'. Refute it at one input. -/
def limitCountsWrong : ChangeSpec := { name := "limitCounts", fn := fun _ => fun
  | [d1, d2, d3] => { results := [.lit (.bool false)], args := [d1, d2, d3] }
  | _ => none }
def LimitCountsWrongFalsely : Prop := limitCountsRow.holds Try.pinned (OpenSpec.ofChange limitCountsWrong)

/-- 'clewlaw04.LimitGrows': WHATEVER THE INPUT: true; the input reads as it did. -/
def limitGrowsSpec : ChangeSpec := { name := "limitGrows", fn := fun _ => fun
  | [d1, d2, d3] => { results := [.lit (.bool true)], args := [d1, d2, d3] }
  | _ => none }
def limitGrowsRow : OpenClaim := { program := "ytaobbdmkkehpnaa", sum := "d5ced833f2b2c882f68946b5a138a60b29b184f323642d0eb8318afb0a494802", func := "clew/clewlaw04.LimitGrows", spec := "limitGrows", inPlace := ["math.Float64bits", "math.Float64frombits"], apart := false }
def LimitGrowsSaid : Prop := limitGrowsRow.holds Try.pinned (OpenSpec.ofChange limitGrowsSpec)

/-- ITS FALSE NEIGHBOUR: 'it returns false'. Refute it at one input. -/
def limitGrowsWrong : ChangeSpec := { name := "limitGrows", fn := fun _ => fun
  | [d1, d2, d3] => { results := [.lit (.bool false)], args := [d1, d2, d3] }
  | _ => none }
def LimitGrowsWrongFalsely : Prop := limitGrowsRow.holds Try.pinned (OpenSpec.ofChange limitGrowsWrong)

/-- 'clewlaw04.LimitEnds': WHATEVER THE INPUT: true; the input reads as it did. -/
def limitEndsSpec : ChangeSpec := { name := "limitEnds", fn := fun _ => fun
  | [d1, d2] => { results := [.lit (.bool true)], args := [d1, d2] }
  | _ => none }
def limitEndsRow : OpenClaim := { program := "ytaobbdmkkehpnaa", sum := "d5ced833f2b2c882f68946b5a138a60b29b184f323642d0eb8318afb0a494802", func := "clew/clewlaw04.LimitEnds", spec := "limitEnds", inPlace := ["math.Float64frombits", "math.Float64bits"], apart := false }
def LimitEndsSaid : Prop := limitEndsRow.holds Try.pinned (OpenSpec.ofChange limitEndsSpec)

/-- ITS FALSE NEIGHBOUR: 'it returns false'. Refute it at one input. -/
def limitEndsWrong : ChangeSpec := { name := "limitEnds", fn := fun _ => fun
  | [d1, d2] => { results := [.lit (.bool false)], args := [d1, d2] }
  | _ => none }
def LimitEndsWrongFalsely : Prop := limitEndsRow.holds Try.pinned (OpenSpec.ofChange limitEndsWrong)

/-- 'clewlaw04.LimitLeast': WHATEVER THE INPUT: true; the input reads as it did. -/
def limitLeastSpec : ChangeSpec := { name := "limitLeast", fn := fun _ => fun
  | [d1, d2] => { results := [.lit (.bool true)], args := [d1, d2] }
  | _ => none }
def limitLeastRow : OpenClaim := { program := "ytaobbdmkkehpnaa", sum := "d5ced833f2b2c882f68946b5a138a60b29b184f323642d0eb8318afb0a494802", func := "clew/clewlaw04.LimitLeast", spec := "limitLeast", inPlace := ["math.Float64bits", "math.Float64frombits"], apart := false }
def LimitLeastSaid : Prop := limitLeastRow.holds Try.pinned (OpenSpec.ofChange limitLeastSpec)

/-- ITS FALSE NEIGHBOUR: 'it returns false'. Refute it at one input. -/
def limitLeastWrong : ChangeSpec := { name := "limitLeast", fn := fun _ => fun
  | [d1, d2] => { results := [.lit (.bool false)], args := [d1, d2] }
  | _ => none }
def LimitLeastWrongFalsely : Prop := limitLeastRow.holds Try.pinned (OpenSpec.ofChange limitLeastWrong)

/-- 'clewlaw04.LimitPeak': WHATEVER THE INPUT: true; the input reads as it did. -/
def limitPeakSpec : ChangeSpec := { name := "limitPeak", fn := fun _ => fun
  | [d] => { results := [.lit (.bool true)], args := [d] }
  | _ => none }
def limitPeakRow : OpenClaim := { program := "ytaobbdmkkehpnaa", sum := "d5ced833f2b2c882f68946b5a138a60b29b184f323642d0eb8318afb0a494802", func := "clew/clewlaw04.LimitPeak", spec := "limitPeak", inPlace := ["math.Float64bits", "math.Float64frombits"], apart := false }
def LimitPeakSaid : Prop := limitPeakRow.holds Try.pinned (OpenSpec.ofChange limitPeakSpec)

/-- ITS FALSE NEIGHBOUR: 'it returns false'. Refute it at one input. -/
def limitPeakWrong : ChangeSpec := { name := "limitPeak", fn := fun _ => fun
  | [d] => { results := [.lit (.bool false)], args := [d] }
  | _ => none }
def LimitPeakWrongFalsely : Prop := limitPeakRow.holds Try.pinned (OpenSpec.ofChange limitPeakWrong)

/- THE SECOND FORM. 'bulk': how many values and letters a reading holds, each counted each time it is reached (what is shared counts as often as it is met; a slice's spare places count too). A statement '..UptoSaid' is the law's where the arguments, and the package variables that the reading takes, are together of bulk at most 1048576: NARROWER than '..Said'. Prove '..Said' where nothing that the law and all that it calls make is longer than what came in: it says more and counts as full. Else prove '..UptoSaid'. A law counts once. -/
mutual
def uptoBulk {H : Type} : DataW H → Nat
  | .lit (.string bytes) => bytes.length + 1
  | .lit _ => 1
  | .nil => 1
  | .ptr d => uptoBulk d + 1
  | .slice elems spare => uptoBulkAll elems + uptoBulkAll spare + 1
  | .agg parts => uptoBulkAll parts + 1
  | .iface _ d => uptoBulk d + 1
  | .map entries => uptoBulkEntries entries + 1
  | .held _ => 1
def uptoBulkAll {H : Type} : List (DataW H) → Nat
  | [] => 0
  | d :: r => uptoBulk d + uptoBulkAll r
def uptoBulkEntries {H : Type} : List (Lit × DataW H) → Nat
  | [] => 0
  | x :: r => uptoBulkEntry x + uptoBulkEntries r
def uptoBulkEntry {H : Type} : Lit × DataW H → Nat
  | (.string bytes, d) => bytes.length + uptoBulk d + 1
  | (_, d) => uptoBulk d + 1
 end
def uptoSmall : (H : Type) → List (DataW H) → Bool := fun _ ds => decide (uptoBulkAll ds ≤ 1048576)
def OpenSpec.upto (s : _root_.Go.ChangeSpec) : _root_.Go.OpenSpec := { _root_.Go.OpenSpec.ofChange s with cond := some uptoSmall }

/-- 'clewlaw04.LimitTells', WHERE WHAT IT READS IS OF BULK AT MOST 1048576: true; the input reads as it did. -/
def limitTellsUptoRow : OpenClaim := { program := "ytaobbdmkkehpnaa", sum := "d5ced833f2b2c882f68946b5a138a60b29b184f323642d0eb8318afb0a494802", func := "clew/clewlaw04.LimitTells", spec := "limitTells", inPlace := ["math.Float64bits", "math.Float64frombits"], apart := false, narrowed := true }
def LimitTellsUptoSaid : Prop := limitTellsUptoRow.holds Try.pinned (OpenSpec.upto limitTellsSpec)

/-- 'clewlaw04.LimitCounts', WHERE WHAT IT READS IS OF BULK AT MOST 1048576: true; the input reads as it did. -/
def limitCountsUptoRow : OpenClaim := { program := "ytaobbdmkkehpnaa", sum := "d5ced833f2b2c882f68946b5a138a60b29b184f323642d0eb8318afb0a494802", func := "clew/clewlaw04.LimitCounts", spec := "limitCounts", inPlace := ["math.Float64bits", "math.Float64frombits"], apart := false, narrowed := true }
def LimitCountsUptoSaid : Prop := limitCountsUptoRow.holds Try.pinned (OpenSpec.upto limitCountsSpec)

/-- 'clewlaw04.LimitGrows', WHERE WHAT IT READS IS OF BULK AT MOST 1048576: true; the input reads as it did. -/
def limitGrowsUptoRow : OpenClaim := { program := "ytaobbdmkkehpnaa", sum := "d5ced833f2b2c882f68946b5a138a60b29b184f323642d0eb8318afb0a494802", func := "clew/clewlaw04.LimitGrows", spec := "limitGrows", inPlace := ["math.Float64bits", "math.Float64frombits"], apart := false, narrowed := true }
def LimitGrowsUptoSaid : Prop := limitGrowsUptoRow.holds Try.pinned (OpenSpec.upto limitGrowsSpec)

/-- 'clewlaw04.LimitEnds', WHERE WHAT IT READS IS OF BULK AT MOST 1048576: true; the input reads as it did. -/
def limitEndsUptoRow : OpenClaim := { program := "ytaobbdmkkehpnaa", sum := "d5ced833f2b2c882f68946b5a138a60b29b184f323642d0eb8318afb0a494802", func := "clew/clewlaw04.LimitEnds", spec := "limitEnds", inPlace := ["math.Float64frombits", "math.Float64bits"], apart := false, narrowed := true }
def LimitEndsUptoSaid : Prop := limitEndsUptoRow.holds Try.pinned (OpenSpec.upto limitEndsSpec)

/-- 'clewlaw04.LimitLeast', WHERE WHAT IT READS IS OF BULK AT MOST 1048576: true; the input reads as it did. -/
def limitLeastUptoRow : OpenClaim := { program := "ytaobbdmkkehpnaa", sum := "d5ced833f2b2c882f68946b5a138a60b29b184f323642d0eb8318afb0a494802", func := "clew/clewlaw04.LimitLeast", spec := "limitLeast", inPlace := ["math.Float64bits", "math.Float64frombits"], apart := false, narrowed := true }
def LimitLeastUptoSaid : Prop := limitLeastUptoRow.holds Try.pinned (OpenSpec.upto limitLeastSpec)

/-- 'clewlaw04.LimitPeak', WHERE WHAT IT READS IS OF BULK AT MOST 1048576: true; the input reads as it did. -/
def limitPeakUptoRow : OpenClaim := { program := "ytaobbdmkkehpnaa", sum := "d5ced833f2b2c882f68946b5a138a60b29b184f323642d0eb8318afb0a494802", func := "clew/clewlaw04.LimitPeak", spec := "limitPeak", inPlace := ["math.Float64bits", "math.Float64frombits"], apart := false, narrowed := true }
def LimitPeakUptoSaid : Prop := limitPeakUptoRow.holds Try.pinned (OpenSpec.upto limitPeakSpec)

end Rows
end Go.Proofs.Ytaobbdmkkehpnaa
