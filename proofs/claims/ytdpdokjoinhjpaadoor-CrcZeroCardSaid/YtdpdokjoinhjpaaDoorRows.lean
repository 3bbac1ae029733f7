/-
  NARROWER THAN 'FOR EVERY INPUT', by the rows' own cells (each row's printed sentence says how): CrcSums: laid · CrcParts: laid · CrcOne: laid · CrcLinear: laid · CrcZero: laid · CrcFew: laid.
  DERIVED. THE GIVEN ROWS OF THIS SEAT. 6 by the template 'for every input the law returns true; each argument reads behind the call as it read before'; 0 by the template 'total and deterministic' (their statements: YtdpdokjoinhjpaaDoorTotals.lean).
  GIVEN WITH THE SEED: the statements are not yours to turn. If you find one false, say at which input.
  Laid BY PROGRAM, IN A SANDBOX (cutbox-rows.mjs): the forced cells as the released guide's own fill.sh prints them over the translation e5235dafe557cc21… (all of the seat's roots in one cut). By AI agents, Wed Nov 11 2026. No macro, syntax, notation, axiom, sorry.
-/
import Derived.Test.YtdpdokjoinhjpaaDoorChecked
import GoSem.Claim
import GoSem.ClaimJoined
import GoSem.ClaimMapViews
import Derived.JoinedTies
import Derived.KernelRfl
namespace Go.Proofs.YtdpdokjoinhjpaaDoor
/- THE CELL 'sum', in the pinned program and in every row, IS THE sha256 OF THE DUMP (.gsa) THAT YtdpdokjoinhjpaaDoorProg.lean LOADS. Nothing in Lean hashes anything: it is a label: what it is worth is what the hold of that sum in a sandbox is worth. -/
noncomputable def Tryd.pinned : Pinned := { name := "ytdpdokjoinhjpaadoor", sum := "e5235dafe557cc212e7502ce78d5df5c2cf2cf00e860e6743827cbee620b798e", checked := Tryd.checked }
namespace Rows
def none {H : Type} : Left H := { results := [], args := [] }

/- WHAT THE LISTED PACKAGE-LEVEL VARIABLES READ AS WHEN THE CALL BEGINS. Each datum BY PROGRAM (the guide's laid-datum.mjs) off the statement by which the dump's own 'gosem.cut.vars' lays the variable. In a bare row this is a premise. The card (YtdpdokjoinhjpaaDoorCards.lean) ties it to the program's text. -/
def laid_clew_crc_halves {H : Type} : DataW H := .agg [.lit (.int .u32 0), .lit (.int .u32 8801531), .lit (.int .u32 9098509), .lit (.int .u32 825846), .lit (.int .u32 9692897), .lit (.int .u32 1419802), .lit (.int .u32 1651692), .lit (.int .u32 10452759), .lit (.int .u32 10584377), .lit (.int .u32 2608578), .lit (.int .u32 2839604), .lit (.int .u32 11344079), .lit (.int .u32 3303384), .lit (.int .u32 11807523), .lit (.int .u32 12104405), .lit (.int .u32 4128302)]

/-- 'clewlaw03.CrcSums': WHATEVER THE INPUT: true; the input reads as it did. -/
def crcSumsSpec : ChangeSpec := { name := "crcSums", fn := fun _ => fun
  | [d1, d2] => { results := [.lit (.bool true)], args := [d1, d2] }
  | _ => none }
def crcSumsRow : OpenClaim := { program := "ytdpdokjoinhjpaadoor", sum := "e5235dafe557cc212e7502ce78d5df5c2cf2cf00e860e6743827cbee620b798e", func := "clew/clewlaw03.CrcSums", spec := "crcSums", named := ["clew/crc.halves"], apart := false, laid := [("clew/crc.halves", laid_clew_crc_halves)] }
def CrcSumsSaid : Prop := crcSumsRow.holds Tryd.pinned (OpenSpec.ofChange crcSumsSpec)

/-- ITS FALSE NEIGHBOUR: 'it returns false'. Refute it at one input. -/
def crcSumsWrong : ChangeSpec := { name := "crcSums", fn := fun _ => fun
  | [d1, d2] => { results := [.lit (.bool false)], args := [d1, d2] }
  | _ => none }
def CrcSumsWrongFalsely : Prop := crcSumsRow.holds Tryd.pinned (OpenSpec.ofChange crcSumsWrong)

/-- 'clewlaw03.CrcParts': WHATEVER THE INPUT: true; the input reads as it did. -/
def crcPartsSpec : ChangeSpec := { name := "crcParts", fn := fun _ => fun
  | [d1, d2, d3] => { results := [.lit (.bool true)], args := [d1, d2, d3] }
  | _ => none }
def crcPartsRow : OpenClaim := { program := "ytdpdokjoinhjpaadoor", sum := "e5235dafe557cc212e7502ce78d5df5c2cf2cf00e860e6743827cbee620b798e", func := "clew/clewlaw03.CrcParts", spec := "crcParts", named := ["clew/crc.halves"], apart := false, laid := [("clew/crc.halves", laid_clew_crc_halves)] }
def CrcPartsSaid : Prop := crcPartsRow.holds Tryd.pinned (OpenSpec.ofChange crcPartsSpec)

/-- ITS FALSE NEIGHBOUR: 'it returns false'. Refute it at one input. -/
def crcPartsWrong : ChangeSpec := { name := "crcParts", fn := fun _ => fun
  | [d1, d2, d3] => { results := [.lit (.bool false)], args := [d1, d2, d3] }
  | _ => none }
def CrcPartsWrongFalsely : Prop := crcPartsRow.holds Tryd.pinned (OpenSpec.ofChange crcPartsWrong)

/-- 'clewlaw03.CrcOne': WHATEVER THE INPUT: true; the input reads as it did. -/
def crcOneSpec : ChangeSpec := { name := "crcOne", fn := fun _ => fun
  | [d1, d2, d3] => { results := [.lit (.bool true)], args := [d1, d2, d3] }
  | _ => none }
def crcOneRow : OpenClaim := { program := "ytdpdokjoinhjpaadoor", sum := "e5235dafe557cc212e7502ce78d5df5c2cf2cf00e860e6743827cbee620b798e", func := "clew/clewlaw03.CrcOne", spec := "crcOne", named := ["clew/crc.halves"], apart := false, laid := [("clew/crc.halves", laid_clew_crc_halves)] }
def CrcOneSaid : Prop := crcOneRow.holds Tryd.pinned (OpenSpec.ofChange crcOneSpec)

/-- ITS FALSE NEIGHBOUR: 'it returns false'. Refute it at one input. -/
def crcOneWrong : ChangeSpec := { name := "crcOne", fn := fun _ => fun
  | [d1, d2, d3] => { results := [.lit (.bool false)], args := [d1, d2, d3] }
  | _ => none }
def CrcOneWrongFalsely : Prop := crcOneRow.holds Tryd.pinned (OpenSpec.ofChange crcOneWrong)

/-- 'clewlaw03.CrcLinear': WHATEVER THE INPUT: true; the input reads as it did. -/
def crcLinearSpec : ChangeSpec := { name := "crcLinear", fn := fun _ => fun
  | [d1, d2, d3] => { results := [.lit (.bool true)], args := [d1, d2, d3] }
  | _ => none }
def crcLinearRow : OpenClaim := { program := "ytdpdokjoinhjpaadoor", sum := "e5235dafe557cc212e7502ce78d5df5c2cf2cf00e860e6743827cbee620b798e", func := "clew/clewlaw03.CrcLinear", spec := "crcLinear", named := ["clew/crc.halves"], apart := false, laid := [("clew/crc.halves", laid_clew_crc_halves)] }
def CrcLinearSaid : Prop := crcLinearRow.holds Tryd.pinned (OpenSpec.ofChange crcLinearSpec)

/-- ITS FALSE NEIGHBOUR: 'it returns false'. Refute it at one input. -/
def crcLinearWrong : ChangeSpec := { name := "crcLinear", fn := fun _ => fun
  | [d1, d2, d3] => { results := [.lit (.bool false)], args := [d1, d2, d3] }
  | _ => none }
def CrcLinearWrongFalsely : Prop := crcLinearRow.holds Tryd.pinned (OpenSpec.ofChange crcLinearWrong)

/-- 'clewlaw03.CrcZero': WHATEVER THE INPUT: true; the input reads as it did. -/
def crcZeroSpec : ChangeSpec := { name := "crcZero", fn := fun _ => fun
  | [d1, d2, d3] => { results := [.lit (.bool true)], args := [d1, d2, d3] }
  | _ => none }
def crcZeroRow : OpenClaim := { program := "ytdpdokjoinhjpaadoor", sum := "e5235dafe557cc212e7502ce78d5df5c2cf2cf00e860e6743827cbee620b798e", func := "clew/clewlaw03.CrcZero", spec := "crcZero", named := ["clew/crc.halves"], apart := false, laid := [("clew/crc.halves", laid_clew_crc_halves)] }
def CrcZeroSaid : Prop := crcZeroRow.holds Tryd.pinned (OpenSpec.ofChange crcZeroSpec)

/-- ITS FALSE NEIGHBOUR: 'it returns false'. Refute it at one input. -/
def crcZeroWrong : ChangeSpec := { name := "crcZero", fn := fun _ => fun
  | [d1, d2, d3] => { results := [.lit (.bool false)], args := [d1, d2, d3] }
  | _ => none }
def CrcZeroWrongFalsely : Prop := crcZeroRow.holds Tryd.pinned (OpenSpec.ofChange crcZeroWrong)

/-- 'clewlaw03.CrcFew': WHATEVER THE INPUT: true; the input reads as it did. -/
def crcFewSpec : ChangeSpec := { name := "crcFew", fn := fun _ => fun
  | [d] => { results := [.lit (.bool true)], args := [d] }
  | _ => none }
def crcFewRow : OpenClaim := { program := "ytdpdokjoinhjpaadoor", sum := "e5235dafe557cc212e7502ce78d5df5c2cf2cf00e860e6743827cbee620b798e", func := "clew/clewlaw03.CrcFew", spec := "crcFew", named := ["clew/crc.halves"], apart := false, laid := [("clew/crc.halves", laid_clew_crc_halves)] }
def CrcFewSaid : Prop := crcFewRow.holds Tryd.pinned (OpenSpec.ofChange crcFewSpec)

/-- ITS FALSE NEIGHBOUR: 'it returns false'. Refute it at one input. -/
def crcFewWrong : ChangeSpec := { name := "crcFew", fn := fun _ => fun
  | [d] => { results := [.lit (.bool false)], args := [d] }
  | _ => none }
def CrcFewWrongFalsely : Prop := crcFewRow.holds Tryd.pinned (OpenSpec.ofChange crcFewWrong)

/- THE SECOND FORM. 'bulk': how many values and letters a reading holds, each counted each time it is reached (what is shared counts as often as it is met; a slice's spare places count too). A statement '..UptoSaid' is the law's where the arguments, and the package variables that the reading takes, are together of bulk at most 1048576: NARROWER than '..Said'. Prove '..Said' where nothing that the law and all that it calls make is longer than what came in: it says more and counts as full. Else prove '..UptoSaid'. A law counts once. -/
mutual
def uptoBulk {H : Type} : DataW H → Nat
  | .lit (.string bytes) => bytes.length + 1
  | .lit _ => 1
  | .nil => 1
  | .ptr d => uptoBulk d + 1
  | .slice elems spare => uptoBulkAll elems + uptoBulkAll spare + 1
  | .agg parts => uptoBulkAll parts + 1
  | .iface _ d => uptoBulk d + 1
  | .map entries => uptoBulkEntries entries + 1
  | .held _ => 1
def uptoBulkAll {H : Type} : List (DataW H) → Nat
  | [] => 0
  | d :: r => uptoBulk d + uptoBulkAll r
def uptoBulkEntries {H : Type} : List (Lit × DataW H) → Nat
  | [] => 0
  | x :: r => uptoBulkEntry x + uptoBulkEntries r
def uptoBulkEntry {H : Type} : Lit × DataW H → Nat
  | (.string bytes, d) => bytes.length + uptoBulk d + 1
  | (_, d) => uptoBulk d + 1
 end
def uptoSmall : (H : Type) → List (DataW H) → Bool := fun _ ds => decide (uptoBulkAll ds ≤ 1048576)
def OpenSpec.upto (s : _root_.Go.ChangeSpec) : _root_.Go.OpenSpec := { _root_.Go.OpenSpec.ofChange s with cond := some uptoSmall }

/-- 'clewlaw03.CrcSums', WHERE WHAT IT READS IS OF BULK AT MOST 1048576: true; the input reads as it did. -/
def crcSumsUptoRow : OpenClaim := { program := "ytdpdokjoinhjpaadoor", sum := "e5235dafe557cc212e7502ce78d5df5c2cf2cf00e860e6743827cbee620b798e", func := "clew/clewlaw03.CrcSums", spec := "crcSums", named := ["clew/crc.halves"], apart := false, laid := [("clew/crc.halves", laid_clew_crc_halves)], narrowed := true }
def CrcSumsUptoSaid : Prop := crcSumsUptoRow.holds Tryd.pinned (OpenSpec.upto crcSumsSpec)

/-- 'clewlaw03.CrcParts', WHERE WHAT IT READS IS OF BULK AT MOST 1048576: true; the input reads as it did. -/
def crcPartsUptoRow : OpenClaim := { program := "ytdpdokjoinhjpaadoor", sum := "e5235dafe557cc212e7502ce78d5df5c2cf2cf00e860e6743827cbee620b798e", func := "clew/clewlaw03.CrcParts", spec := "crcParts", named := ["clew/crc.halves"], apart := false, laid := [("clew/crc.halves", laid_clew_crc_halves)], narrowed := true }
def CrcPartsUptoSaid : Prop := crcPartsUptoRow.holds Tryd.pinned (OpenSpec.upto crcPartsSpec)

/-- 'clewlaw03.CrcOne', WHERE WHAT IT READS IS OF BULK AT MOST 1048576: true; the input reads as it did. -/
def crcOneUptoRow : OpenClaim := { program := "ytdpdokjoinhjpaadoor", sum := "e5235dafe557cc212e7502ce78d5df5c2cf2cf00e860e6743827cbee620b798e", func := "clew/clewlaw03.CrcOne", spec := "crcOne", named := ["clew/crc.halves"], apart := false, laid := [("clew/crc.halves", laid_clew_crc_halves)], narrowed := true }
def CrcOneUptoSaid : Prop := crcOneUptoRow.holds Tryd.pinned (OpenSpec.upto crcOneSpec)

/-- 'clewlaw03.CrcLinear', WHERE WHAT IT READS IS OF BULK AT MOST 1048576: true; the input reads as it did. -/
def crcLinearUptoRow : OpenClaim := { program := "ytdpdokjoinhjpaadoor", sum := "e5235dafe557cc212e7502ce78d5df5c2cf2cf00e860e6743827cbee620b798e", func := "clew/clewlaw03.CrcLinear", spec := "crcLinear", named := ["clew/crc.halves"], apart := false, laid := [("clew/crc.halves", laid_clew_crc_halves)], narrowed := true }
def CrcLinearUptoSaid : Prop := crcLinearUptoRow.holds Tryd.pinned (OpenSpec.upto crcLinearSpec)

/-- 'clewlaw03.CrcZero', WHERE WHAT IT READS IS OF BULK AT MOST 1048576: true; the input reads as it did. -/
def crcZeroUptoRow : OpenClaim := { program := "ytdpdokjoinhjpaadoor", sum := "e5235dafe557cc212e7502ce78d5df5c2cf2cf00e860e6743827cbee620b798e", func := "clew/clewlaw03.CrcZero", spec := "crcZero", named := ["clew/crc.halves"], apart := false, laid := [("clew/crc.halves", laid_clew_crc_halves)], narrowed := true }
def CrcZeroUptoSaid : Prop := crcZeroUptoRow.holds Tryd.pinned (OpenSpec.upto crcZeroSpec)

/-- 'clewlaw03.CrcFew', WHERE WHAT IT READS IS OF BULK AT MOST 1048576: true; the input reads as it did. -/
def crcFewUptoRow : OpenClaim := { program := "ytdpdokjoinhjpaadoor", sum := "e5235dafe557cc212e7502ce78d5df5c2cf2cf00e860e6743827cbee620b798e", func := "clew/clewlaw03.CrcFew", spec := "crcFew", named := ["clew/crc.halves"], apart := false, laid := [("clew/crc.halves", laid_clew_crc_halves)], narrowed := true }
def CrcFewUptoSaid : Prop := crcFewUptoRow.holds Tryd.pinned (OpenSpec.upto crcFewSpec)

end Rows
end Go.Proofs.YtdpdokjoinhjpaaDoor
