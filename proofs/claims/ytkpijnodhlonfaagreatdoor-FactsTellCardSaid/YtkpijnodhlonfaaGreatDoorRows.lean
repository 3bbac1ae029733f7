/-
  NARROWER THAN 'FOR EVERY INPUT', by the rows' own cells (each row's printed sentence says how): FactsTell: laid · FactsOut: laid · FactsCats: laid · FactsLong: laid · FactsRest: laid · FactsTurns: laid.
  DERIVED. THE GIVEN ROWS OF THIS SEAT. 6 by the template 'for every input the law returns true; each argument reads behind the call as it read before'; 0 by the template 'total and deterministic' (their statements: YtkpijnodhlonfaaGreatDoorTotals.lean).
  GIVEN WITH THE SEED: the statements are not yours to turn. If you find one false, say at which input.
  Laid BY PROGRAM, IN A SANDBOX (cutbox-rows.mjs): the forced cells as the released guide's own fill.sh prints them over the translation 9bf2fa8ce0f3c0b0… (all of the seat's roots in one cut). By AI agents, Wed Nov 11 2026. No macro, syntax, notation, axiom, sorry.
-/
import Derived.Test.YtkpijnodhlonfaaGreatDoorChecked
import GoSem.Claim
import GoSem.ClaimJoined
import GoSem.ClaimMapViews
import Derived.JoinedTies
import Derived.KernelRfl
namespace Go.Proofs.YtkpijnodhlonfaaGreatDoor
/- THE CELL 'sum', in the pinned program and in every row, IS THE sha256 OF THE DUMP (.gsa) THAT YtkpijnodhlonfaaGreatDoorProg.lean LOADS. Nothing in Lean hashes anything: it is a label: what it is worth is what the hold of that sum in a sandbox is worth. -/
noncomputable def Tryz.pinned : Pinned := { name := "ytkpijnodhlonfaagreatdoor", sum := "9bf2fa8ce0f3c0b0e798b612e30089d52126387224c90a3fb8371a872f500889", checked := Tryz.checked }
namespace Rows
def none {H : Type} : Left H := { results := [], args := [] }

/- WHAT THE LISTED PACKAGE-LEVEL VARIABLES READ AS WHEN THE CALL BEGINS. Each datum BY PROGRAM (the guide's laid-datum.mjs) off the statement by which the dump's own 'gosem.cut.vars' lays the variable. In a bare row this is a premise. The card (YtkpijnodhlonfaaGreatDoorCards.lean) ties it to the program's text. -/
def laid_math_bits_deBruijn32tab {H : Type} : DataW H := .agg [.lit (.int .u8 0), .lit (.int .u8 1), .lit (.int .u8 28), .lit (.int .u8 2), .lit (.int .u8 29), .lit (.int .u8 14), .lit (.int .u8 24), .lit (.int .u8 3), .lit (.int .u8 30), .lit (.int .u8 22), .lit (.int .u8 20), .lit (.int .u8 15), .lit (.int .u8 25), .lit (.int .u8 17), .lit (.int .u8 4), .lit (.int .u8 8), .lit (.int .u8 31), .lit (.int .u8 27), .lit (.int .u8 13), .lit (.int .u8 23), .lit (.int .u8 21), .lit (.int .u8 19), .lit (.int .u8 16), .lit (.int .u8 7), .lit (.int .u8 26), .lit (.int .u8 12), .lit (.int .u8 18), .lit (.int .u8 6), .lit (.int .u8 11), .lit (.int .u8 5), .lit (.int .u8 10), .lit (.int .u8 9)]
def laid_math_bits_deBruijn64tab {H : Type} : DataW H := .agg [.lit (.int .u8 0), .lit (.int .u8 1), .lit (.int .u8 56), .lit (.int .u8 2), .lit (.int .u8 57), .lit (.int .u8 49), .lit (.int .u8 28), .lit (.int .u8 3), .lit (.int .u8 61), .lit (.int .u8 58), .lit (.int .u8 42), .lit (.int .u8 50), .lit (.int .u8 38), .lit (.int .u8 29), .lit (.int .u8 17), .lit (.int .u8 4), .lit (.int .u8 62), .lit (.int .u8 47), .lit (.int .u8 59), .lit (.int .u8 36), .lit (.int .u8 45), .lit (.int .u8 43), .lit (.int .u8 51), .lit (.int .u8 22), .lit (.int .u8 53), .lit (.int .u8 39), .lit (.int .u8 33), .lit (.int .u8 30), .lit (.int .u8 24), .lit (.int .u8 18), .lit (.int .u8 12), .lit (.int .u8 5), .lit (.int .u8 63), .lit (.int .u8 55), .lit (.int .u8 48), .lit (.int .u8 27), .lit (.int .u8 60), .lit (.int .u8 41), .lit (.int .u8 37), .lit (.int .u8 16), .lit (.int .u8 46), .lit (.int .u8 35), .lit (.int .u8 44), .lit (.int .u8 21), .lit (.int .u8 52), .lit (.int .u8 32), .lit (.int .u8 23), .lit (.int .u8 11), .lit (.int .u8 54), .lit (.int .u8 26), .lit (.int .u8 40), .lit (.int .u8 15), .lit (.int .u8 34), .lit (.int .u8 20), .lit (.int .u8 31), .lit (.int .u8 10), .lit (.int .u8 25), .lit (.int .u8 14), .lit (.int .u8 19), .lit (.int .u8 9), .lit (.int .u8 13), .lit (.int .u8 8), .lit (.int .u8 7), .lit (.int .u8 6)]
def laid_internal_strconv_uint64pow10 {H : Type} : DataW H := .agg [.lit (.int .u64 1), .lit (.int .u64 10), .lit (.int .u64 100), .lit (.int .u64 1000), .lit (.int .u64 10000), .lit (.int .u64 100000), .lit (.int .u64 1000000), .lit (.int .u64 10000000), .lit (.int .u64 100000000), .lit (.int .u64 1000000000), .lit (.int .u64 10000000000), .lit (.int .u64 100000000000), .lit (.int .u64 1000000000000), .lit (.int .u64 10000000000000), .lit (.int .u64 100000000000000), .lit (.int .u64 1000000000000000), .lit (.int .u64 10000000000000000), .lit (.int .u64 100000000000000000), .lit (.int .u64 1000000000000000000), .lit (.int .u64 10000000000000000000)]
def laid_strconv_ErrRange {H : Type} : DataW H := .iface "*errors.errorString" (.ptr (.agg [.lit (.string [118, 97, 108, 117, 101, 32, 111, 117, 116, 32, 111, 102, 32, 114, 97, 110, 103, 101])]))
def laid_strconv_ErrSyntax {H : Type} : DataW H := .iface "*errors.errorString" (.ptr (.agg [.lit (.string [105, 110, 118, 97, 108, 105, 100, 32, 115, 121, 110, 116, 97, 120])]))
def laid_clew_lex_openings {H : Type} : DataW H := .agg [.agg [.lit (.string [40, 63, 58]), .lit (.int .i64 8)], .agg [.lit (.string [40, 63, 61]), .lit (.int .i64 9)], .agg [.lit (.string [40, 63, 33]), .lit (.int .i64 10)], .agg [.lit (.string [40, 63, 60, 61]), .lit (.int .i64 11)], .agg [.lit (.string [40, 63, 60, 33]), .lit (.int .i64 12)], .agg [.lit (.string [40, 63, 62]), .lit (.int .i64 13)]]

/-- 'clewlaw09.FactsTell': WHATEVER THE INPUT: true; the input reads as it did. -/
def factsTellSpec : ChangeSpec := { name := "factsTell", fn := fun _ => fun
  | [d] => { results := [.lit (.bool true)], args := [d] }
  | _ => none }
def factsTellRow : OpenClaim := { program := "ytkpijnodhlonfaagreatdoor", sum := "9bf2fa8ce0f3c0b0e798b612e30089d52126387224c90a3fb8371a872f500889", func := "clew/clewlaw09.FactsTell", spec := "factsTell", inPlace := ["internal/bytealg.IndexByteString", "internal/bytealg.IndexString"], unfollowed := true, recurses := true, named := ["math/bits.deBruijn64tab", "clew/lex.openings", "internal/bytealg.MaxLen", "strconv.ErrSyntax", "strconv.ErrRange", "internal/strconv.uint64pow10", "math/bits.deBruijn32tab"], apart := false, laid := [("math/bits.deBruijn32tab", laid_math_bits_deBruijn32tab), ("math/bits.deBruijn64tab", laid_math_bits_deBruijn64tab), ("internal/strconv.uint64pow10", laid_internal_strconv_uint64pow10), ("strconv.ErrRange", laid_strconv_ErrRange), ("strconv.ErrSyntax", laid_strconv_ErrSyntax), ("clew/lex.openings", laid_clew_lex_openings)] }
def FactsTellSaid : Prop := factsTellRow.holds Tryz.pinned (OpenSpec.ofChange factsTellSpec)

/-- ITS FALSE NEIGHBOUR: 'it returns false'. Refute it at one input. -/
def factsTellWrong : ChangeSpec := { name := "factsTell", fn := fun _ => fun
  | [d] => { results := [.lit (.bool false)], args := [d] }
  | _ => none }
def FactsTellWrongFalsely : Prop := factsTellRow.holds Tryz.pinned (OpenSpec.ofChange factsTellWrong)

/-- 'clewlaw09.FactsOut': WHATEVER THE INPUT: true; the input reads as it did. -/
def factsOutSpec : ChangeSpec := { name := "factsOut", fn := fun _ => fun
  | [d1, d2, d3] => { results := [.lit (.bool true)], args := [d1, d2, d3] }
  | _ => none }
def factsOutRow : OpenClaim := { program := "ytkpijnodhlonfaagreatdoor", sum := "9bf2fa8ce0f3c0b0e798b612e30089d52126387224c90a3fb8371a872f500889", func := "clew/clewlaw09.FactsOut", spec := "factsOut", inPlace := ["internal/bytealg.IndexByteString", "internal/bytealg.IndexString"], unfollowed := true, recurses := true, named := ["clew/lex.openings", "internal/bytealg.MaxLen", "strconv.ErrSyntax", "strconv.ErrRange", "internal/strconv.uint64pow10", "math/bits.deBruijn32tab", "math/bits.deBruijn64tab"], apart := false, laid := [("math/bits.deBruijn32tab", laid_math_bits_deBruijn32tab), ("math/bits.deBruijn64tab", laid_math_bits_deBruijn64tab), ("internal/strconv.uint64pow10", laid_internal_strconv_uint64pow10), ("strconv.ErrRange", laid_strconv_ErrRange), ("strconv.ErrSyntax", laid_strconv_ErrSyntax), ("clew/lex.openings", laid_clew_lex_openings)] }
def FactsOutSaid : Prop := factsOutRow.holds Tryz.pinned (OpenSpec.ofChange factsOutSpec)

/-- ITS FALSE NEIGHBOUR: 'it returns false'. Refute it at one input. -/
def factsOutWrong : ChangeSpec := { name := "factsOut", fn := fun _ => fun
  | [d1, d2, d3] => { results := [.lit (.bool false)], args := [d1, d2, d3] }
  | _ => none }
def FactsOutWrongFalsely : Prop := factsOutRow.holds Tryz.pinned (OpenSpec.ofChange factsOutWrong)

/-- 'clewlaw09.FactsCats': WHATEVER THE INPUT: true; the input reads as it did. -/
def factsCatsSpec : ChangeSpec := { name := "factsCats", fn := fun _ => fun
  | [d1, d2] => { results := [.lit (.bool true)], args := [d1, d2] }
  | _ => none }
def factsCatsRow : OpenClaim := { program := "ytkpijnodhlonfaagreatdoor", sum := "9bf2fa8ce0f3c0b0e798b612e30089d52126387224c90a3fb8371a872f500889", func := "clew/clewlaw09.FactsCats", spec := "factsCats", inPlace := ["internal/bytealg.IndexByteString", "internal/bytealg.IndexString"], unfollowed := true, recurses := true, named := ["math/bits.deBruijn64tab", "clew/lex.openings", "internal/bytealg.MaxLen", "strconv.ErrSyntax", "strconv.ErrRange", "internal/strconv.uint64pow10", "math/bits.deBruijn32tab"], apart := false, laid := [("math/bits.deBruijn32tab", laid_math_bits_deBruijn32tab), ("math/bits.deBruijn64tab", laid_math_bits_deBruijn64tab), ("internal/strconv.uint64pow10", laid_internal_strconv_uint64pow10), ("strconv.ErrRange", laid_strconv_ErrRange), ("strconv.ErrSyntax", laid_strconv_ErrSyntax), ("clew/lex.openings", laid_clew_lex_openings)] }
def FactsCatsSaid : Prop := factsCatsRow.holds Tryz.pinned (OpenSpec.ofChange factsCatsSpec)

/-- ITS FALSE NEIGHBOUR: 'it returns false'. Refute it at one input. -/
def factsCatsWrong : ChangeSpec := { name := "factsCats", fn := fun _ => fun
  | [d1, d2] => { results := [.lit (.bool false)], args := [d1, d2] }
  | _ => none }
def FactsCatsWrongFalsely : Prop := factsCatsRow.holds Tryz.pinned (OpenSpec.ofChange factsCatsWrong)

/-- 'clewlaw09.FactsLong': WHATEVER THE INPUT: true; the input reads as it did. -/
def factsLongSpec : ChangeSpec := { name := "factsLong", fn := fun _ => fun
  | [d] => { results := [.lit (.bool true)], args := [d] }
  | _ => none }
def factsLongRow : OpenClaim := { program := "ytkpijnodhlonfaagreatdoor", sum := "9bf2fa8ce0f3c0b0e798b612e30089d52126387224c90a3fb8371a872f500889", func := "clew/clewlaw09.FactsLong", spec := "factsLong", inPlace := ["internal/bytealg.IndexByteString", "internal/bytealg.IndexString"], unfollowed := true, recurses := true, named := ["math/bits.deBruijn64tab", "clew/lex.openings", "internal/bytealg.MaxLen", "strconv.ErrSyntax", "strconv.ErrRange", "internal/strconv.uint64pow10", "math/bits.deBruijn32tab"], apart := false, laid := [("math/bits.deBruijn32tab", laid_math_bits_deBruijn32tab), ("math/bits.deBruijn64tab", laid_math_bits_deBruijn64tab), ("internal/strconv.uint64pow10", laid_internal_strconv_uint64pow10), ("strconv.ErrRange", laid_strconv_ErrRange), ("strconv.ErrSyntax", laid_strconv_ErrSyntax), ("clew/lex.openings", laid_clew_lex_openings)] }
def FactsLongSaid : Prop := factsLongRow.holds Tryz.pinned (OpenSpec.ofChange factsLongSpec)

/-- ITS FALSE NEIGHBOUR: 'it returns false'. Refute it at one input. -/
def factsLongWrong : ChangeSpec := { name := "factsLong", fn := fun _ => fun
  | [d] => { results := [.lit (.bool false)], args := [d] }
  | _ => none }
def FactsLongWrongFalsely : Prop := factsLongRow.holds Tryz.pinned (OpenSpec.ofChange factsLongWrong)

/-- 'clewlaw09.FactsRest': WHATEVER THE INPUT: true; the input reads as it did. -/
def factsRestSpec : ChangeSpec := { name := "factsRest", fn := fun _ => fun
  | [d1, d2, d3] => { results := [.lit (.bool true)], args := [d1, d2, d3] }
  | _ => none }
def factsRestRow : OpenClaim := { program := "ytkpijnodhlonfaagreatdoor", sum := "9bf2fa8ce0f3c0b0e798b612e30089d52126387224c90a3fb8371a872f500889", func := "clew/clewlaw09.FactsRest", spec := "factsRest", inPlace := ["internal/bytealg.IndexByteString", "internal/bytealg.IndexString"], unfollowed := true, recurses := true, named := ["clew/lex.openings", "internal/bytealg.MaxLen", "strconv.ErrSyntax", "strconv.ErrRange", "internal/strconv.uint64pow10", "math/bits.deBruijn32tab", "math/bits.deBruijn64tab"], apart := false, laid := [("math/bits.deBruijn32tab", laid_math_bits_deBruijn32tab), ("math/bits.deBruijn64tab", laid_math_bits_deBruijn64tab), ("internal/strconv.uint64pow10", laid_internal_strconv_uint64pow10), ("strconv.ErrRange", laid_strconv_ErrRange), ("strconv.ErrSyntax", laid_strconv_ErrSyntax), ("clew/lex.openings", laid_clew_lex_openings)] }
def FactsRestSaid : Prop := factsRestRow.holds Tryz.pinned (OpenSpec.ofChange factsRestSpec)

/-- ITS FALSE NEIGHBOUR: 'it returns false'. Refute it at one input. -/
def factsRestWrong : ChangeSpec := { name := "factsRest", fn := fun _ => fun
  | [d1, d2, d3] => { results := [.lit (.bool false)], args := [d1, d2, d3] }
  | _ => none }
def FactsRestWrongFalsely : Prop := factsRestRow.holds Tryz.pinned (OpenSpec.ofChange factsRestWrong)

/-- 'clewlaw09.FactsTurns': WHATEVER THE INPUT: true; the input reads as it did. -/
def factsTurnsSpec : ChangeSpec := { name := "factsTurns", fn := fun _ => fun
  | [d1, d2] => { results := [.lit (.bool true)], args := [d1, d2] }
  | _ => none }
def factsTurnsRow : OpenClaim := { program := "ytkpijnodhlonfaagreatdoor", sum := "9bf2fa8ce0f3c0b0e798b612e30089d52126387224c90a3fb8371a872f500889", func := "clew/clewlaw09.FactsTurns", spec := "factsTurns", inPlace := ["internal/bytealg.IndexByteString", "internal/bytealg.IndexString"], unfollowed := true, recurses := true, named := ["math/bits.deBruijn64tab", "clew/lex.openings", "internal/bytealg.MaxLen", "strconv.ErrSyntax", "strconv.ErrRange", "internal/strconv.uint64pow10", "math/bits.deBruijn32tab"], apart := false, laid := [("math/bits.deBruijn32tab", laid_math_bits_deBruijn32tab), ("math/bits.deBruijn64tab", laid_math_bits_deBruijn64tab), ("internal/strconv.uint64pow10", laid_internal_strconv_uint64pow10), ("strconv.ErrRange", laid_strconv_ErrRange), ("strconv.ErrSyntax", laid_strconv_ErrSyntax), ("clew/lex.openings", laid_clew_lex_openings)] }
def FactsTurnsSaid : Prop := factsTurnsRow.holds Tryz.pinned (OpenSpec.ofChange factsTurnsSpec)

/-- ITS FALSE NEIGHBOUR: 'it returns false'. Refute it at one input. -/
def factsTurnsWrong : ChangeSpec := { name := "factsTurns", fn := fun _ => fun
  | [d1, d2] => { results := [.lit (.bool false)], args := [d1, d2] }
  | _ => none }
def FactsTurnsWrongFalsely : Prop := factsTurnsRow.holds Tryz.pinned (OpenSpec.ofChange factsTurnsWrong)

/- THE SECOND FORM. 'bulk': how many values and letters a reading holds, each counted each time it is reached (what is shared counts as often as it is met; a slice's spare places count too). A statement '..UptoSaid' is the law's where the arguments, and the package variables that the reading takes, are together of bulk at most 1048576: NARROWER than '..Said'. Prove '..Said' where nothing that the law and all that it calls make is longer than what came in: it says more and counts as full. Else prove '..UptoSaid'. A law counts once. -/
mutual
def uptoBulk {H : Type} : DataW H → Nat
  | .lit (.string bytes) => bytes.length + 1
  | .lit _ => 1
  | .nil => 1
  | .ptr d => uptoBulk d + 1
  | .slice elems spare => uptoBulkAll elems + uptoBulkAll spare + 1
  | .agg parts => uptoBulkAll parts + 1
  | .iface _ d => uptoBulk d + 1
  | .map entries => uptoBulkEntries entries + 1
  | .held _ => 1
def uptoBulkAll {H : Type} : List (DataW H) → Nat
  | [] => 0
  | d :: r => uptoBulk d + uptoBulkAll r
def uptoBulkEntries {H : Type} : List (Lit × DataW H) → Nat
  | [] => 0
  | x :: r => uptoBulkEntry x + uptoBulkEntries r
def uptoBulkEntry {H : Type} : Lit × DataW H → Nat
  | (.string bytes, d) => bytes.length + uptoBulk d + 1
  | (_, d) => uptoBulk d + 1
 end
def uptoSmall : (H : Type) → List (DataW H) → Bool := fun _ ds => decide (uptoBulkAll ds ≤ 1048576)
def OpenSpec.upto (s : _root_.Go.ChangeSpec) : _root_.Go.OpenSpec := { _root_.Go.OpenSpec.ofChange s with cond := some uptoSmall }

/-- 'clewlaw09.FactsTell', WHERE WHAT IT READS IS OF BULK AT MOST 1048576: true; the input reads as it did. -/
def factsTellUptoRow : OpenClaim := { program := "ytkpijnodhlonfaagreatdoor", sum := "9bf2fa8ce0f3c0b0e798b612e30089d52126387224c90a3fb8371a872f500889", func := "clew/clewlaw09.FactsTell", spec := "factsTell", inPlace := ["internal/bytealg.IndexByteString", "internal/bytealg.IndexString"], unfollowed := true, recurses := true, named := ["math/bits.deBruijn64tab", "clew/lex.openings", "internal/bytealg.MaxLen", "strconv.ErrSyntax", "strconv.ErrRange", "internal/strconv.uint64pow10", "math/bits.deBruijn32tab"], apart := false, laid := [("math/bits.deBruijn32tab", laid_math_bits_deBruijn32tab), ("math/bits.deBruijn64tab", laid_math_bits_deBruijn64tab), ("internal/strconv.uint64pow10", laid_internal_strconv_uint64pow10), ("strconv.ErrRange", laid_strconv_ErrRange), ("strconv.ErrSyntax", laid_strconv_ErrSyntax), ("clew/lex.openings", laid_clew_lex_openings)], narrowed := true }
def FactsTellUptoSaid : Prop := factsTellUptoRow.holds Tryz.pinned (OpenSpec.upto factsTellSpec)

/-- 'clewlaw09.FactsOut', WHERE WHAT IT READS IS OF BULK AT MOST 1048576: true; the input reads as it did. -/
def factsOutUptoRow : OpenClaim := { program := "ytkpijnodhlonfaagreatdoor", sum := "9bf2fa8ce0f3c0b0e798b612e30089d52126387224c90a3fb8371a872f500889", func := "clew/clewlaw09.FactsOut", spec := "factsOut", inPlace := ["internal/bytealg.IndexByteString", "internal/bytealg.IndexString"], unfollowed := true, recurses := true, named := ["clew/lex.openings", "internal/bytealg.MaxLen", "strconv.ErrSyntax", "strconv.ErrRange", "internal/strconv.uint64pow10", "math/bits.deBruijn32tab", "math/bits.deBruijn64tab"], apart := false, laid := [("math/bits.deBruijn32tab", laid_math_bits_deBruijn32tab), ("math/bits.deBruijn64tab", laid_math_bits_deBruijn64tab), ("internal/strconv.uint64pow10", laid_internal_strconv_uint64pow10), ("strconv.ErrRange", laid_strconv_ErrRange), ("strconv.ErrSyntax", laid_strconv_ErrSyntax), ("clew/lex.openings", laid_clew_lex_openings)], narrowed := true }
def FactsOutUptoSaid : Prop := factsOutUptoRow.holds Tryz.pinned (OpenSpec.upto factsOutSpec)

/-- 'clewlaw09.FactsCats', WHERE WHAT IT READS IS OF BULK AT MOST 1048576: true; the input reads as it did. -/
def factsCatsUptoRow : OpenClaim := { program := "ytkpijnodhlonfaagreatdoor", sum := "9bf2fa8ce0f3c0b0e798b612e30089d52126387224c90a3fb8371a872f500889", func := "clew/clewlaw09.FactsCats", spec := "factsCats", inPlace := ["internal/bytealg.IndexByteString", "internal/bytealg.IndexString"], unfollowed := true, recurses := true, named := ["math/bits.deBruijn64tab", "clew/lex.openings", "internal/bytealg.MaxLen", "strconv.ErrSyntax", "strconv.ErrRange", "internal/strconv.uint64pow10", "math/bits.deBruijn32tab"], apart := false, laid := [("math/bits.deBruijn32tab", laid_math_bits_deBruijn32tab), ("math/bits.deBruijn64tab", laid_math_bits_deBruijn64tab), ("internal/strconv.uint64pow10", laid_internal_strconv_uint64pow10), ("strconv.ErrRange", laid_strconv_ErrRange), ("strconv.ErrSyntax", laid_strconv_ErrSyntax), ("clew/lex.openings", laid_clew_lex_openings)], narrowed := true }
def FactsCatsUptoSaid : Prop := factsCatsUptoRow.holds Tryz.pinned (OpenSpec.upto factsCatsSpec)

/-- 'clewlaw09.FactsLong', WHERE WHAT IT READS IS OF BULK AT MOST 1048576: true; the input reads as it did. -/
def factsLongUptoRow : OpenClaim := { program := "ytkpijnodhlonfaagreatdoor", sum := "9bf2fa8ce0f3c0b0e798b612e30089d52126387224c90a3fb8371a872f500889", func := "clew/clewlaw09.FactsLong", spec := "factsLong", inPlace := ["internal/bytealg.IndexByteString", "internal/bytealg.IndexString"], unfollowed := true, recurses := true, named := ["math/bits.deBruijn64tab", "clew/lex.openings", "internal/bytealg.MaxLen", "strconv.ErrSyntax", "strconv.ErrRange", "internal/strconv.uint64pow10", "math/bits.deBruijn32tab"], apart := false, laid := [("math/bits.deBruijn32tab", laid_math_bits_deBruijn32tab), ("math/bits.deBruijn64tab", laid_math_bits_deBruijn64tab), ("internal/strconv.uint64pow10", laid_internal_strconv_uint64pow10), ("strconv.ErrRange", laid_strconv_ErrRange), ("strconv.ErrSyntax", laid_strconv_ErrSyntax), ("clew/lex.openings", laid_clew_lex_openings)], narrowed := true }
def FactsLongUptoSaid : Prop := factsLongUptoRow.holds Tryz.pinned (OpenSpec.upto factsLongSpec)

/-- 'clewlaw09.FactsRest', WHERE WHAT IT READS IS OF BULK AT MOST 1048576: true; the input reads as it did. -/
def factsRestUptoRow : OpenClaim := { program := "ytkpijnodhlonfaagreatdoor", sum := "9bf2fa8ce0f3c0b0e798b612e30089d52126387224c90a3fb8371a872f500889", func := "clew/clewlaw09.FactsRest", spec := "factsRest", inPlace := ["internal/bytealg.IndexByteString", "internal/bytealg.IndexString"], unfollowed := true, recurses := true, named := ["clew/lex.openings", "internal/bytealg.MaxLen", "strconv.ErrSyntax", "strconv.ErrRange", "internal/strconv.uint64pow10", "math/bits.deBruijn32tab", "math/bits.deBruijn64tab"], apart := false, laid := [("math/bits.deBruijn32tab", laid_math_bits_deBruijn32tab), ("math/bits.deBruijn64tab", laid_math_bits_deBruijn64tab), ("internal/strconv.uint64pow10", laid_internal_strconv_uint64pow10), ("strconv.ErrRange", laid_strconv_ErrRange), ("strconv.ErrSyntax", laid_strconv_ErrSyntax), ("clew/lex.openings", laid_clew_lex_openings)], narrowed := true }
def FactsRestUptoSaid : Prop := factsRestUptoRow.holds Tryz.pinned (OpenSpec.upto factsRestSpec)

/-- 'clewlaw09.FactsTurns', WHERE WHAT IT READS IS OF BULK AT MOST 1048576: true; the input reads as it did. -/
def factsTurnsUptoRow : OpenClaim := { program := "ytkpijnodhlonfaagreatdoor", sum := "9bf2fa8ce0f3c0b0e798b612e30089d52126387224c90a3fb8371a872f500889", func := "clew/clewlaw09.FactsTurns", spec := "factsTurns", inPlace := ["internal/bytealg.IndexByteString", "internal/bytealg.IndexString"], unfollowed := true, recurses := true, named := ["math/bits.deBruijn64tab", "clew/lex.openings", "internal/bytealg.MaxLen", "strconv.ErrSyntax", "strconv.ErrRange", "internal/strconv.uint64pow10", "math/bits.deBruijn32tab"], apart := false, laid := [("math/bits.deBruijn32tab", laid_math_bits_deBruijn32tab), ("math/bits.deBruijn64tab", laid_math_bits_deBruijn64tab), ("internal/strconv.uint64pow10", laid_internal_strconv_uint64pow10), ("strconv.ErrRange", laid_strconv_ErrRange), ("strconv.ErrSyntax", laid_strconv_ErrSyntax), ("clew/lex.openings", laid_clew_lex_openings)], narrowed := true }
def FactsTurnsUptoSaid : Prop := factsTurnsUptoRow.holds Tryz.pinned (OpenSpec.upto factsTurnsSpec)

end Rows
end Go.Proofs.YtkpijnodhlonfaaGreatDoor
