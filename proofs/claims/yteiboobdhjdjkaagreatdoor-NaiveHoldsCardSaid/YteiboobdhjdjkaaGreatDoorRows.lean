/-
  NARROWER THAN 'FOR EVERY INPUT', by the rows' own cells (each row's printed sentence says how): NaiveAll: laid · NaiveFind: laid · NaiveHolds: laid · NaiveAlts: laid · NaiveModes: laid · NaiveFinds: laid · NaiveEnds: laid · NaiveLooks: laid · NaiveRuled: laid.
  DERIVED. THE GIVEN ROWS OF THIS SEAT. 9 by the template 'for every input the law returns true; each argument reads behind the call as it read before'; 0 by the template 'total and deterministic' (their statements: YteiboobdhjdjkaaGreatDoorTotals.lean).
  GIVEN WITH THE SEED: the statements are not yours to turn. If you find one false, say at which input.
  Laid BY PROGRAM, IN A SANDBOX (cutbox-rows.mjs): the forced cells as the released guide's own fill.sh prints them over the translation 1c8e10a96d7dc5ea… (all of the seat's roots in one cut). By AI agents, Wed Nov 11 2026. No macro, syntax, notation, axiom, sorry.
-/
import Derived.Test.YteiboobdhjdjkaaGreatDoorChecked
import GoSem.Claim
import GoSem.ClaimJoined
import GoSem.ClaimMapViews
import Derived.JoinedTies
import Derived.KernelRfl
namespace Go.Proofs.YteiboobdhjdjkaaGreatDoor
/- THE CELL 'sum', in the pinned program and in every row, IS THE sha256 OF THE DUMP (.gsa) THAT YteiboobdhjdjkaaGreatDoorProg.lean LOADS. Nothing in Lean hashes anything: it is a label: what it is worth is what the hold of that sum in a sandbox is worth. -/
noncomputable def Tryz.pinned : Pinned := { name := "yteiboobdhjdjkaagreatdoor", sum := "1c8e10a96d7dc5eaa51430256348fdb3f3c76e6c5ef40ef875224c64506d5ec9", checked := Tryz.checked }
namespace Rows
def none {H : Type} : Left H := { results := [], args := [] }

/- WHAT THE LISTED PACKAGE-LEVEL VARIABLES READ AS WHEN THE CALL BEGINS. Each datum BY PROGRAM (the guide's laid-datum.mjs) off the statement by which the dump's own 'gosem.cut.vars' lays the variable. In a bare row this is a premise. The card (YteiboobdhjdjkaaGreatDoorCards.lean) ties it to the program's text. -/
def laid_math_bits_deBruijn32tab {H : Type} : DataW H := .agg [.lit (.int .u8 0), .lit (.int .u8 1), .lit (.int .u8 28), .lit (.int .u8 2), .lit (.int .u8 29), .lit (.int .u8 14), .lit (.int .u8 24), .lit (.int .u8 3), .lit (.int .u8 30), .lit (.int .u8 22), .lit (.int .u8 20), .lit (.int .u8 15), .lit (.int .u8 25), .lit (.int .u8 17), .lit (.int .u8 4), .lit (.int .u8 8), .lit (.int .u8 31), .lit (.int .u8 27), .lit (.int .u8 13), .lit (.int .u8 23), .lit (.int .u8 21), .lit (.int .u8 19), .lit (.int .u8 16), .lit (.int .u8 7), .lit (.int .u8 26), .lit (.int .u8 12), .lit (.int .u8 18), .lit (.int .u8 6), .lit (.int .u8 11), .lit (.int .u8 5), .lit (.int .u8 10), .lit (.int .u8 9)]
def laid_math_bits_deBruijn64tab {H : Type} : DataW H := .agg [.lit (.int .u8 0), .lit (.int .u8 1), .lit (.int .u8 56), .lit (.int .u8 2), .lit (.int .u8 57), .lit (.int .u8 49), .lit (.int .u8 28), .lit (.int .u8 3), .lit (.int .u8 61), .lit (.int .u8 58), .lit (.int .u8 42), .lit (.int .u8 50), .lit (.int .u8 38), .lit (.int .u8 29), .lit (.int .u8 17), .lit (.int .u8 4), .lit (.int .u8 62), .lit (.int .u8 47), .lit (.int .u8 59), .lit (.int .u8 36), .lit (.int .u8 45), .lit (.int .u8 43), .lit (.int .u8 51), .lit (.int .u8 22), .lit (.int .u8 53), .lit (.int .u8 39), .lit (.int .u8 33), .lit (.int .u8 30), .lit (.int .u8 24), .lit (.int .u8 18), .lit (.int .u8 12), .lit (.int .u8 5), .lit (.int .u8 63), .lit (.int .u8 55), .lit (.int .u8 48), .lit (.int .u8 27), .lit (.int .u8 60), .lit (.int .u8 41), .lit (.int .u8 37), .lit (.int .u8 16), .lit (.int .u8 46), .lit (.int .u8 35), .lit (.int .u8 44), .lit (.int .u8 21), .lit (.int .u8 52), .lit (.int .u8 32), .lit (.int .u8 23), .lit (.int .u8 11), .lit (.int .u8 54), .lit (.int .u8 26), .lit (.int .u8 40), .lit (.int .u8 15), .lit (.int .u8 34), .lit (.int .u8 20), .lit (.int .u8 31), .lit (.int .u8 10), .lit (.int .u8 25), .lit (.int .u8 14), .lit (.int .u8 19), .lit (.int .u8 9), .lit (.int .u8 13), .lit (.int .u8 8), .lit (.int .u8 7), .lit (.int .u8 6)]
def laid_internal_strconv_uint64pow10 {H : Type} : DataW H := .agg [.lit (.int .u64 1), .lit (.int .u64 10), .lit (.int .u64 100), .lit (.int .u64 1000), .lit (.int .u64 10000), .lit (.int .u64 100000), .lit (.int .u64 1000000), .lit (.int .u64 10000000), .lit (.int .u64 100000000), .lit (.int .u64 1000000000), .lit (.int .u64 10000000000), .lit (.int .u64 100000000000), .lit (.int .u64 1000000000000), .lit (.int .u64 10000000000000), .lit (.int .u64 100000000000000), .lit (.int .u64 1000000000000000), .lit (.int .u64 10000000000000000), .lit (.int .u64 100000000000000000), .lit (.int .u64 1000000000000000000), .lit (.int .u64 10000000000000000000)]
def laid_strconv_ErrRange {H : Type} : DataW H := .iface "*errors.errorString" (.ptr (.agg [.lit (.string [118, 97, 108, 117, 101, 32, 111, 117, 116, 32, 111, 102, 32, 114, 97, 110, 103, 101])]))
def laid_strconv_ErrSyntax {H : Type} : DataW H := .iface "*errors.errorString" (.ptr (.agg [.lit (.string [105, 110, 118, 97, 108, 105, 100, 32, 115, 121, 110, 116, 97, 120])]))
def laid_clew_lex_openings {H : Type} : DataW H := .agg [.agg [.lit (.string [40, 63, 58]), .lit (.int .i64 8)], .agg [.lit (.string [40, 63, 61]), .lit (.int .i64 9)], .agg [.lit (.string [40, 63, 33]), .lit (.int .i64 10)], .agg [.lit (.string [40, 63, 60, 61]), .lit (.int .i64 11)], .agg [.lit (.string [40, 63, 60, 33]), .lit (.int .i64 12)], .agg [.lit (.string [40, 63, 62]), .lit (.int .i64 13)]]

/-- 'clewlaw11.NaiveAll': WHATEVER THE INPUT: true; the input reads as it did. -/
def naiveAllSpec : ChangeSpec := { name := "naiveAll", fn := fun _ => fun
  | [d1, d2, d3] => { results := [.lit (.bool true)], args := [d1, d2, d3] }
  | _ => none }
def naiveAllRow : OpenClaim := { program := "yteiboobdhjdjkaagreatdoor", sum := "1c8e10a96d7dc5eaa51430256348fdb3f3c76e6c5ef40ef875224c64506d5ec9", func := "clew/clewlaw11.NaiveAll", spec := "naiveAll", inPlace := ["internal/bytealg.IndexByteString", "internal/bytealg.IndexString", "internal/abi.NoEscape", "internal/bytealg.MakeNoZero"], unfollowed := true, recurses := true, named := ["clew/lex.openings", "internal/bytealg.MaxLen", "strconv.ErrSyntax", "strconv.ErrRange", "internal/strconv.uint64pow10", "math/bits.deBruijn32tab", "math/bits.deBruijn64tab"], apart := false, laid := [("math/bits.deBruijn32tab", laid_math_bits_deBruijn32tab), ("math/bits.deBruijn64tab", laid_math_bits_deBruijn64tab), ("internal/strconv.uint64pow10", laid_internal_strconv_uint64pow10), ("strconv.ErrRange", laid_strconv_ErrRange), ("strconv.ErrSyntax", laid_strconv_ErrSyntax), ("clew/lex.openings", laid_clew_lex_openings)] }
def NaiveAllSaid : Prop := naiveAllRow.holds Tryz.pinned (OpenSpec.ofChange naiveAllSpec)

/-- ITS FALSE NEIGHBOUR: 'it returns false'. Refute it at one input. -/
def naiveAllWrong : ChangeSpec := { name := "naiveAll", fn := fun _ => fun
  | [d1, d2, d3] => { results := [.lit (.bool false)], args := [d1, d2, d3] }
  | _ => none }
def NaiveAllWrongFalsely : Prop := naiveAllRow.holds Tryz.pinned (OpenSpec.ofChange naiveAllWrong)

/-- 'clewlaw11.NaiveFind': WHATEVER THE INPUT: true; the input reads as it did. -/
def naiveFindSpec : ChangeSpec := { name := "naiveFind", fn := fun _ => fun
  | [d1, d2] => { results := [.lit (.bool true)], args := [d1, d2] }
  | _ => none }
def naiveFindRow : OpenClaim := { program := "yteiboobdhjdjkaagreatdoor", sum := "1c8e10a96d7dc5eaa51430256348fdb3f3c76e6c5ef40ef875224c64506d5ec9", func := "clew/clewlaw11.NaiveFind", spec := "naiveFind", inPlace := ["internal/bytealg.IndexByteString", "internal/bytealg.IndexString", "internal/abi.NoEscape", "internal/bytealg.MakeNoZero"], unfollowed := true, recurses := true, named := ["clew/lex.openings", "internal/bytealg.MaxLen", "strconv.ErrSyntax", "strconv.ErrRange", "internal/strconv.uint64pow10", "math/bits.deBruijn32tab", "math/bits.deBruijn64tab"], apart := false, laid := [("math/bits.deBruijn32tab", laid_math_bits_deBruijn32tab), ("math/bits.deBruijn64tab", laid_math_bits_deBruijn64tab), ("internal/strconv.uint64pow10", laid_internal_strconv_uint64pow10), ("strconv.ErrRange", laid_strconv_ErrRange), ("strconv.ErrSyntax", laid_strconv_ErrSyntax), ("clew/lex.openings", laid_clew_lex_openings)] }
def NaiveFindSaid : Prop := naiveFindRow.holds Tryz.pinned (OpenSpec.ofChange naiveFindSpec)

/-- ITS FALSE NEIGHBOUR: 'it returns false'. Refute it at one input. -/
def naiveFindWrong : ChangeSpec := { name := "naiveFind", fn := fun _ => fun
  | [d1, d2] => { results := [.lit (.bool false)], args := [d1, d2] }
  | _ => none }
def NaiveFindWrongFalsely : Prop := naiveFindRow.holds Tryz.pinned (OpenSpec.ofChange naiveFindWrong)

/-- 'clewlaw11.NaiveHolds': WHATEVER THE INPUT: true; the input reads as it did. -/
def naiveHoldsSpec : ChangeSpec := { name := "naiveHolds", fn := fun _ => fun
  | [d1, d2, d3] => { results := [.lit (.bool true)], args := [d1, d2, d3] }
  | _ => none }
def naiveHoldsRow : OpenClaim := { program := "yteiboobdhjdjkaagreatdoor", sum := "1c8e10a96d7dc5eaa51430256348fdb3f3c76e6c5ef40ef875224c64506d5ec9", func := "clew/clewlaw11.NaiveHolds", spec := "naiveHolds", inPlace := ["internal/bytealg.IndexByteString", "internal/bytealg.IndexString", "internal/abi.NoEscape", "internal/bytealg.MakeNoZero"], unfollowed := true, recurses := true, named := ["clew/lex.openings", "internal/bytealg.MaxLen", "strconv.ErrSyntax", "strconv.ErrRange", "internal/strconv.uint64pow10", "math/bits.deBruijn32tab", "math/bits.deBruijn64tab"], apart := false, laid := [("math/bits.deBruijn32tab", laid_math_bits_deBruijn32tab), ("math/bits.deBruijn64tab", laid_math_bits_deBruijn64tab), ("internal/strconv.uint64pow10", laid_internal_strconv_uint64pow10), ("strconv.ErrRange", laid_strconv_ErrRange), ("strconv.ErrSyntax", laid_strconv_ErrSyntax), ("clew/lex.openings", laid_clew_lex_openings)] }
def NaiveHoldsSaid : Prop := naiveHoldsRow.holds Tryz.pinned (OpenSpec.ofChange naiveHoldsSpec)

/-- ITS FALSE NEIGHBOUR: 'it returns false'. Refute it at one input. -/
def naiveHoldsWrong : ChangeSpec := { name := "naiveHolds", fn := fun _ => fun
  | [d1, d2, d3] => { results := [.lit (.bool false)], args := [d1, d2, d3] }
  | _ => none }
def NaiveHoldsWrongFalsely : Prop := naiveHoldsRow.holds Tryz.pinned (OpenSpec.ofChange naiveHoldsWrong)

/-- 'clewlaw11.NaiveAlts': WHATEVER THE INPUT: true; the input reads as it did. -/
def naiveAltsSpec : ChangeSpec := { name := "naiveAlts", fn := fun _ => fun
  | [d1, d2, d3] => { results := [.lit (.bool true)], args := [d1, d2, d3] }
  | _ => none }
def naiveAltsRow : OpenClaim := { program := "yteiboobdhjdjkaagreatdoor", sum := "1c8e10a96d7dc5eaa51430256348fdb3f3c76e6c5ef40ef875224c64506d5ec9", func := "clew/clewlaw11.NaiveAlts", spec := "naiveAlts", inPlace := ["internal/bytealg.IndexByteString", "internal/bytealg.IndexString", "internal/abi.NoEscape", "internal/bytealg.MakeNoZero"], unfollowed := true, recurses := true, named := ["clew/lex.openings", "internal/bytealg.MaxLen", "strconv.ErrSyntax", "strconv.ErrRange", "internal/strconv.uint64pow10", "math/bits.deBruijn32tab", "math/bits.deBruijn64tab"], apart := false, laid := [("math/bits.deBruijn32tab", laid_math_bits_deBruijn32tab), ("math/bits.deBruijn64tab", laid_math_bits_deBruijn64tab), ("internal/strconv.uint64pow10", laid_internal_strconv_uint64pow10), ("strconv.ErrRange", laid_strconv_ErrRange), ("strconv.ErrSyntax", laid_strconv_ErrSyntax), ("clew/lex.openings", laid_clew_lex_openings)] }
def NaiveAltsSaid : Prop := naiveAltsRow.holds Tryz.pinned (OpenSpec.ofChange naiveAltsSpec)

/-- ITS FALSE NEIGHBOUR: 'it returns false'. Refute it at one input. -/
def naiveAltsWrong : ChangeSpec := { name := "naiveAlts", fn := fun _ => fun
  | [d1, d2, d3] => { results := [.lit (.bool false)], args := [d1, d2, d3] }
  | _ => none }
def NaiveAltsWrongFalsely : Prop := naiveAltsRow.holds Tryz.pinned (OpenSpec.ofChange naiveAltsWrong)

/-- 'clewlaw11.NaiveModes': WHATEVER THE INPUT: true; the input reads as it did. -/
def naiveModesSpec : ChangeSpec := { name := "naiveModes", fn := fun _ => fun
  | [d1, d2, d3] => { results := [.lit (.bool true)], args := [d1, d2, d3] }
  | _ => none }
def naiveModesRow : OpenClaim := { program := "yteiboobdhjdjkaagreatdoor", sum := "1c8e10a96d7dc5eaa51430256348fdb3f3c76e6c5ef40ef875224c64506d5ec9", func := "clew/clewlaw11.NaiveModes", spec := "naiveModes", inPlace := ["internal/bytealg.IndexByteString", "internal/bytealg.IndexString", "internal/abi.NoEscape", "internal/bytealg.MakeNoZero"], unfollowed := true, recurses := true, named := ["clew/lex.openings", "internal/bytealg.MaxLen", "strconv.ErrSyntax", "strconv.ErrRange", "internal/strconv.uint64pow10", "math/bits.deBruijn32tab", "math/bits.deBruijn64tab"], apart := false, laid := [("math/bits.deBruijn32tab", laid_math_bits_deBruijn32tab), ("math/bits.deBruijn64tab", laid_math_bits_deBruijn64tab), ("internal/strconv.uint64pow10", laid_internal_strconv_uint64pow10), ("strconv.ErrRange", laid_strconv_ErrRange), ("strconv.ErrSyntax", laid_strconv_ErrSyntax), ("clew/lex.openings", laid_clew_lex_openings)] }
def NaiveModesSaid : Prop := naiveModesRow.holds Tryz.pinned (OpenSpec.ofChange naiveModesSpec)

/-- ITS FALSE NEIGHBOUR: 'it returns false'. Refute it at one input. -/
def naiveModesWrong : ChangeSpec := { name := "naiveModes", fn := fun _ => fun
  | [d1, d2, d3] => { results := [.lit (.bool false)], args := [d1, d2, d3] }
  | _ => none }
def NaiveModesWrongFalsely : Prop := naiveModesRow.holds Tryz.pinned (OpenSpec.ofChange naiveModesWrong)

/-- 'clewlaw11.NaiveFinds': WHATEVER THE INPUT: true; the input reads as it did. -/
def naiveFindsSpec : ChangeSpec := { name := "naiveFinds", fn := fun _ => fun
  | [d1, d2] => { results := [.lit (.bool true)], args := [d1, d2] }
  | _ => none }
def naiveFindsRow : OpenClaim := { program := "yteiboobdhjdjkaagreatdoor", sum := "1c8e10a96d7dc5eaa51430256348fdb3f3c76e6c5ef40ef875224c64506d5ec9", func := "clew/clewlaw11.NaiveFinds", spec := "naiveFinds", inPlace := ["internal/bytealg.IndexByteString", "internal/bytealg.IndexString", "internal/abi.NoEscape", "internal/bytealg.MakeNoZero"], unfollowed := true, recurses := true, named := ["clew/lex.openings", "internal/bytealg.MaxLen", "strconv.ErrSyntax", "strconv.ErrRange", "internal/strconv.uint64pow10", "math/bits.deBruijn32tab", "math/bits.deBruijn64tab"], apart := false, laid := [("math/bits.deBruijn32tab", laid_math_bits_deBruijn32tab), ("math/bits.deBruijn64tab", laid_math_bits_deBruijn64tab), ("internal/strconv.uint64pow10", laid_internal_strconv_uint64pow10), ("strconv.ErrRange", laid_strconv_ErrRange), ("strconv.ErrSyntax", laid_strconv_ErrSyntax), ("clew/lex.openings", laid_clew_lex_openings)] }
def NaiveFindsSaid : Prop := naiveFindsRow.holds Tryz.pinned (OpenSpec.ofChange naiveFindsSpec)

/-- ITS FALSE NEIGHBOUR: 'it returns false'. Refute it at one input. -/
def naiveFindsWrong : ChangeSpec := { name := "naiveFinds", fn := fun _ => fun
  | [d1, d2] => { results := [.lit (.bool false)], args := [d1, d2] }
  | _ => none }
def NaiveFindsWrongFalsely : Prop := naiveFindsRow.holds Tryz.pinned (OpenSpec.ofChange naiveFindsWrong)

/-- 'clewlaw11.NaiveEnds': WHATEVER THE INPUT: true; the input reads as it did. -/
def naiveEndsSpec : ChangeSpec := { name := "naiveEnds", fn := fun _ => fun
  | [d1, d2, d3] => { results := [.lit (.bool true)], args := [d1, d2, d3] }
  | _ => none }
def naiveEndsRow : OpenClaim := { program := "yteiboobdhjdjkaagreatdoor", sum := "1c8e10a96d7dc5eaa51430256348fdb3f3c76e6c5ef40ef875224c64506d5ec9", func := "clew/clewlaw11.NaiveEnds", spec := "naiveEnds", inPlace := ["internal/bytealg.IndexByteString", "internal/bytealg.IndexString", "internal/abi.NoEscape", "internal/bytealg.MakeNoZero"], unfollowed := true, recurses := true, named := ["clew/lex.openings", "internal/bytealg.MaxLen", "strconv.ErrSyntax", "strconv.ErrRange", "internal/strconv.uint64pow10", "math/bits.deBruijn32tab", "math/bits.deBruijn64tab"], apart := false, laid := [("math/bits.deBruijn32tab", laid_math_bits_deBruijn32tab), ("math/bits.deBruijn64tab", laid_math_bits_deBruijn64tab), ("internal/strconv.uint64pow10", laid_internal_strconv_uint64pow10), ("strconv.ErrRange", laid_strconv_ErrRange), ("strconv.ErrSyntax", laid_strconv_ErrSyntax), ("clew/lex.openings", laid_clew_lex_openings)] }
def NaiveEndsSaid : Prop := naiveEndsRow.holds Tryz.pinned (OpenSpec.ofChange naiveEndsSpec)

/-- ITS FALSE NEIGHBOUR: 'it returns false'. Refute it at one input. -/
def naiveEndsWrong : ChangeSpec := { name := "naiveEnds", fn := fun _ => fun
  | [d1, d2, d3] => { results := [.lit (.bool false)], args := [d1, d2, d3] }
  | _ => none }
def NaiveEndsWrongFalsely : Prop := naiveEndsRow.holds Tryz.pinned (OpenSpec.ofChange naiveEndsWrong)

/-- 'clewlaw11.NaiveLooks': WHATEVER THE INPUT: true; the input reads as it did. -/
def naiveLooksSpec : ChangeSpec := { name := "naiveLooks", fn := fun _ => fun
  | [d1, d2, d3] => { results := [.lit (.bool true)], args := [d1, d2, d3] }
  | _ => none }
def naiveLooksRow : OpenClaim := { program := "yteiboobdhjdjkaagreatdoor", sum := "1c8e10a96d7dc5eaa51430256348fdb3f3c76e6c5ef40ef875224c64506d5ec9", func := "clew/clewlaw11.NaiveLooks", spec := "naiveLooks", inPlace := ["internal/bytealg.IndexByteString", "internal/bytealg.IndexString", "internal/abi.NoEscape", "internal/bytealg.MakeNoZero"], unfollowed := true, recurses := true, named := ["clew/lex.openings", "internal/bytealg.MaxLen", "strconv.ErrSyntax", "strconv.ErrRange", "internal/strconv.uint64pow10", "math/bits.deBruijn32tab", "math/bits.deBruijn64tab"], apart := false, laid := [("math/bits.deBruijn32tab", laid_math_bits_deBruijn32tab), ("math/bits.deBruijn64tab", laid_math_bits_deBruijn64tab), ("internal/strconv.uint64pow10", laid_internal_strconv_uint64pow10), ("strconv.ErrRange", laid_strconv_ErrRange), ("strconv.ErrSyntax", laid_strconv_ErrSyntax), ("clew/lex.openings", laid_clew_lex_openings)] }
def NaiveLooksSaid : Prop := naiveLooksRow.holds Tryz.pinned (OpenSpec.ofChange naiveLooksSpec)

/-- ITS FALSE NEIGHBOUR: 'it returns false'. Refute it at one input. -/
def naiveLooksWrong : ChangeSpec := { name := "naiveLooks", fn := fun _ => fun
  | [d1, d2, d3] => { results := [.lit (.bool false)], args := [d1, d2, d3] }
  | _ => none }
def NaiveLooksWrongFalsely : Prop := naiveLooksRow.holds Tryz.pinned (OpenSpec.ofChange naiveLooksWrong)

/-- 'clewlaw11.NaiveRuled': WHATEVER THE INPUT: true; the input reads as it did. -/
def naiveRuledSpec : ChangeSpec := { name := "naiveRuled", fn := fun _ => fun
  | [d1, d2] => { results := [.lit (.bool true)], args := [d1, d2] }
  | _ => none }
def naiveRuledRow : OpenClaim := { program := "yteiboobdhjdjkaagreatdoor", sum := "1c8e10a96d7dc5eaa51430256348fdb3f3c76e6c5ef40ef875224c64506d5ec9", func := "clew/clewlaw11.NaiveRuled", spec := "naiveRuled", inPlace := ["internal/bytealg.IndexByteString", "internal/bytealg.IndexString", "internal/abi.NoEscape", "internal/bytealg.MakeNoZero"], unfollowed := true, recurses := true, named := ["math/bits.deBruijn64tab", "clew/lex.openings", "internal/bytealg.MaxLen", "strconv.ErrSyntax", "strconv.ErrRange", "internal/strconv.uint64pow10", "math/bits.deBruijn32tab"], apart := false, laid := [("math/bits.deBruijn32tab", laid_math_bits_deBruijn32tab), ("math/bits.deBruijn64tab", laid_math_bits_deBruijn64tab), ("internal/strconv.uint64pow10", laid_internal_strconv_uint64pow10), ("strconv.ErrRange", laid_strconv_ErrRange), ("strconv.ErrSyntax", laid_strconv_ErrSyntax), ("clew/lex.openings", laid_clew_lex_openings)] }
def NaiveRuledSaid : Prop := naiveRuledRow.holds Tryz.pinned (OpenSpec.ofChange naiveRuledSpec)

/-- ITS FALSE NEIGHBOUR: 'it returns false'. Refute it at one input. -/
def naiveRuledWrong : ChangeSpec := { name := "naiveRuled", fn := fun _ => fun
  | [d1, d2] => { results := [.lit (.bool false)], args := [d1, d2] }
  | _ => none }
def NaiveRuledWrongFalsely : Prop := naiveRuledRow.holds Tryz.pinned (OpenSpec.ofChange naiveRuledWrong)

/- THE SECOND FORM. 'bulk': how many values and letters a reading holds, each counted each time it is reached (what is shared counts as often as it is met; a slice's spare places count too). A statement '..UptoSaid' is the law's where the arguments, and the package variables that the reading takes, are together of bulk at most 1048576: NARROWER than '..Said'. Prove '..Said' where nothing that the law and all that it calls make is longer than what came in: it says more and counts as full. Else prove '..UptoSaid'. A law counts once. -/
mutual
def uptoBulk {H : Type} : DataW H → Nat
  | .lit (.string bytes) => bytes.length + 1
  | .lit _ => 1
  | .nil => 1
  | .ptr d => uptoBulk d + 1
  | .slice elems spare => uptoBulkAll elems + uptoBulkAll spare + 1
  | .agg parts => uptoBulkAll parts + 1
  | .iface _ d => uptoBulk d + 1
  | .map entries => uptoBulkEntries entries + 1
  | .held _ => 1
def uptoBulkAll {H : Type} : List (DataW H) → Nat
  | [] => 0
  | d :: r => uptoBulk d + uptoBulkAll r
def uptoBulkEntries {H : Type} : List (Lit × DataW H) → Nat
  | [] => 0
  | x :: r => uptoBulkEntry x + uptoBulkEntries r
def uptoBulkEntry {H : Type} : Lit × DataW H → Nat
  | (.string bytes, d) => bytes.length + uptoBulk d + 1
  | (_, d) => uptoBulk d + 1
 end
def uptoSmall : (H : Type) → List (DataW H) → Bool := fun _ ds => decide (uptoBulkAll ds ≤ 1048576)
def OpenSpec.upto (s : _root_.Go.ChangeSpec) : _root_.Go.OpenSpec := { _root_.Go.OpenSpec.ofChange s with cond := some uptoSmall }

/-- 'clewlaw11.NaiveAll', WHERE WHAT IT READS IS OF BULK AT MOST 1048576: true; the input reads as it did. -/
def naiveAllUptoRow : OpenClaim := { program := "yteiboobdhjdjkaagreatdoor", sum := "1c8e10a96d7dc5eaa51430256348fdb3f3c76e6c5ef40ef875224c64506d5ec9", func := "clew/clewlaw11.NaiveAll", spec := "naiveAll", inPlace := ["internal/bytealg.IndexByteString", "internal/bytealg.IndexString", "internal/abi.NoEscape", "internal/bytealg.MakeNoZero"], unfollowed := true, recurses := true, named := ["clew/lex.openings", "internal/bytealg.MaxLen", "strconv.ErrSyntax", "strconv.ErrRange", "internal/strconv.uint64pow10", "math/bits.deBruijn32tab", "math/bits.deBruijn64tab"], apart := false, laid := [("math/bits.deBruijn32tab", laid_math_bits_deBruijn32tab), ("math/bits.deBruijn64tab", laid_math_bits_deBruijn64tab), ("internal/strconv.uint64pow10", laid_internal_strconv_uint64pow10), ("strconv.ErrRange", laid_strconv_ErrRange), ("strconv.ErrSyntax", laid_strconv_ErrSyntax), ("clew/lex.openings", laid_clew_lex_openings)], narrowed := true }
def NaiveAllUptoSaid : Prop := naiveAllUptoRow.holds Tryz.pinned (OpenSpec.upto naiveAllSpec)

/-- 'clewlaw11.NaiveFind', WHERE WHAT IT READS IS OF BULK AT MOST 1048576: true; the input reads as it did. -/
def naiveFindUptoRow : OpenClaim := { program := "yteiboobdhjdjkaagreatdoor", sum := "1c8e10a96d7dc5eaa51430256348fdb3f3c76e6c5ef40ef875224c64506d5ec9", func := "clew/clewlaw11.NaiveFind", spec := "naiveFind", inPlace := ["internal/bytealg.IndexByteString", "internal/bytealg.IndexString", "internal/abi.NoEscape", "internal/bytealg.MakeNoZero"], unfollowed := true, recurses := true, named := ["clew/lex.openings", "internal/bytealg.MaxLen", "strconv.ErrSyntax", "strconv.ErrRange", "internal/strconv.uint64pow10", "math/bits.deBruijn32tab", "math/bits.deBruijn64tab"], apart := false, laid := [("math/bits.deBruijn32tab", laid_math_bits_deBruijn32tab), ("math/bits.deBruijn64tab", laid_math_bits_deBruijn64tab), ("internal/strconv.uint64pow10", laid_internal_strconv_uint64pow10), ("strconv.ErrRange", laid_strconv_ErrRange), ("strconv.ErrSyntax", laid_strconv_ErrSyntax), ("clew/lex.openings", laid_clew_lex_openings)], narrowed := true }
def NaiveFindUptoSaid : Prop := naiveFindUptoRow.holds Tryz.pinned (OpenSpec.upto naiveFindSpec)

/-- 'clewlaw11.NaiveHolds', WHERE WHAT IT READS IS OF BULK AT MOST 1048576: true; the input reads as it did. -/
def naiveHoldsUptoRow : OpenClaim := { program := "yteiboobdhjdjkaagreatdoor", sum := "1c8e10a96d7dc5eaa51430256348fdb3f3c76e6c5ef40ef875224c64506d5ec9", func := "clew/clewlaw11.NaiveHolds", spec := "naiveHolds", inPlace := ["internal/bytealg.IndexByteString", "internal/bytealg.IndexString", "internal/abi.NoEscape", "internal/bytealg.MakeNoZero"], unfollowed := true, recurses := true, named := ["clew/lex.openings", "internal/bytealg.MaxLen", "strconv.ErrSyntax", "strconv.ErrRange", "internal/strconv.uint64pow10", "math/bits.deBruijn32tab", "math/bits.deBruijn64tab"], apart := false, laid := [("math/bits.deBruijn32tab", laid_math_bits_deBruijn32tab), ("math/bits.deBruijn64tab", laid_math_bits_deBruijn64tab), ("internal/strconv.uint64pow10", laid_internal_strconv_uint64pow10), ("strconv.ErrRange", laid_strconv_ErrRange), ("strconv.ErrSyntax", laid_strconv_ErrSyntax), ("clew/lex.openings", laid_clew_lex_openings)], narrowed := true }
def NaiveHoldsUptoSaid : Prop := naiveHoldsUptoRow.holds Tryz.pinned (OpenSpec.upto naiveHoldsSpec)

/-- 'clewlaw11.NaiveAlts', WHERE WHAT IT READS IS OF BULK AT MOST 1048576: true; the input reads as it did. -/
def naiveAltsUptoRow : OpenClaim := { program := "yteiboobdhjdjkaagreatdoor", sum := "1c8e10a96d7dc5eaa51430256348fdb3f3c76e6c5ef40ef875224c64506d5ec9", func := "clew/clewlaw11.NaiveAlts", spec := "naiveAlts", inPlace := ["internal/bytealg.IndexByteString", "internal/bytealg.IndexString", "internal/abi.NoEscape", "internal/bytealg.MakeNoZero"], unfollowed := true, recurses := true, named := ["clew/lex.openings", "internal/bytealg.MaxLen", "strconv.ErrSyntax", "strconv.ErrRange", "internal/strconv.uint64pow10", "math/bits.deBruijn32tab", "math/bits.deBruijn64tab"], apart := false, laid := [("math/bits.deBruijn32tab", laid_math_bits_deBruijn32tab), ("math/bits.deBruijn64tab", laid_math_bits_deBruijn64tab), ("internal/strconv.uint64pow10", laid_internal_strconv_uint64pow10), ("strconv.ErrRange", laid_strconv_ErrRange), ("strconv.ErrSyntax", laid_strconv_ErrSyntax), ("clew/lex.openings", laid_clew_lex_openings)], narrowed := true }
def NaiveAltsUptoSaid : Prop := naiveAltsUptoRow.holds Tryz.pinned (OpenSpec.upto naiveAltsSpec)

/-- 'clewlaw11.NaiveModes', WHERE WHAT IT READS IS OF BULK AT MOST 1048576: true; the input reads as it did. -/
def naiveModesUptoRow : OpenClaim := { program := "yteiboobdhjdjkaagreatdoor", sum := "1c8e10a96d7dc5eaa51430256348fdb3f3c76e6c5ef40ef875224c64506d5ec9", func := "clew/clewlaw11.NaiveModes", spec := "naiveModes", inPlace := ["internal/bytealg.IndexByteString", "internal/bytealg.IndexString", "internal/abi.NoEscape", "internal/bytealg.MakeNoZero"], unfollowed := true, recurses := true, named := ["clew/lex.openings", "internal/bytealg.MaxLen", "strconv.ErrSyntax", "strconv.ErrRange", "internal/strconv.uint64pow10", "math/bits.deBruijn32tab", "math/bits.deBruijn64tab"], apart := false, laid := [("math/bits.deBruijn32tab", laid_math_bits_deBruijn32tab), ("math/bits.deBruijn64tab", laid_math_bits_deBruijn64tab), ("internal/strconv.uint64pow10", laid_internal_strconv_uint64pow10), ("strconv.ErrRange", laid_strconv_ErrRange), ("strconv.ErrSyntax", laid_strconv_ErrSyntax), ("clew/lex.openings", laid_clew_lex_openings)], narrowed := true }
def NaiveModesUptoSaid : Prop := naiveModesUptoRow.holds Tryz.pinned (OpenSpec.upto naiveModesSpec)

/-- 'clewlaw11.NaiveFinds', WHERE WHAT IT READS IS OF BULK AT MOST 1048576: true; the input reads as it did. -/
def naiveFindsUptoRow : OpenClaim := { program := "yteiboobdhjdjkaagreatdoor", sum := "1c8e10a96d7dc5eaa51430256348fdb3f3c76e6c5ef40ef875224c64506d5ec9", func := "clew/clewlaw11.NaiveFinds", spec := "naiveFinds", inPlace := ["internal/bytealg.IndexByteString", "internal/bytealg.IndexString", "internal/abi.NoEscape", "internal/bytealg.MakeNoZero"], unfollowed := true, recurses := true, named := ["clew/lex.openings", "internal/bytealg.MaxLen", "strconv.ErrSyntax", "strconv.ErrRange", "internal/strconv.uint64pow10", "math/bits.deBruijn32tab", "math/bits.deBruijn64tab"], apart := false, laid := [("math/bits.deBruijn32tab", laid_math_bits_deBruijn32tab), ("math/bits.deBruijn64tab", laid_math_bits_deBruijn64tab), ("internal/strconv.uint64pow10", laid_internal_strconv_uint64pow10), ("strconv.ErrRange", laid_strconv_ErrRange), ("strconv.ErrSyntax", laid_strconv_ErrSyntax), ("clew/lex.openings", laid_clew_lex_openings)], narrowed := true }
def NaiveFindsUptoSaid : Prop := naiveFindsUptoRow.holds Tryz.pinned (OpenSpec.upto naiveFindsSpec)

/-- 'clewlaw11.NaiveEnds', WHERE WHAT IT READS IS OF BULK AT MOST 1048576: true; the input reads as it did. -/
def naiveEndsUptoRow : OpenClaim := { program := "yteiboobdhjdjkaagreatdoor", sum := "1c8e10a96d7dc5eaa51430256348fdb3f3c76e6c5ef40ef875224c64506d5ec9", func := "clew/clewlaw11.NaiveEnds", spec := "naiveEnds", inPlace := ["internal/bytealg.IndexByteString", "internal/bytealg.IndexString", "internal/abi.NoEscape", "internal/bytealg.MakeNoZero"], unfollowed := true, recurses := true, named := ["clew/lex.openings", "internal/bytealg.MaxLen", "strconv.ErrSyntax", "strconv.ErrRange", "internal/strconv.uint64pow10", "math/bits.deBruijn32tab", "math/bits.deBruijn64tab"], apart := false, laid := [("math/bits.deBruijn32tab", laid_math_bits_deBruijn32tab), ("math/bits.deBruijn64tab", laid_math_bits_deBruijn64tab), ("internal/strconv.uint64pow10", laid_internal_strconv_uint64pow10), ("strconv.ErrRange", laid_strconv_ErrRange), ("strconv.ErrSyntax", laid_strconv_ErrSyntax), ("clew/lex.openings", laid_clew_lex_openings)], narrowed := true }
def NaiveEndsUptoSaid : Prop := naiveEndsUptoRow.holds Tryz.pinned (OpenSpec.upto naiveEndsSpec)

/-- 'clewlaw11.NaiveLooks', WHERE WHAT IT READS IS OF BULK AT MOST 1048576: true; the input reads as it did. -/
def naiveLooksUptoRow : OpenClaim := { program := "yteiboobdhjdjkaagreatdoor", sum := "1c8e10a96d7dc5eaa51430256348fdb3f3c76e6c5ef40ef875224c64506d5ec9", func := "clew/clewlaw11.NaiveLooks", spec := "naiveLooks", inPlace := ["internal/bytealg.IndexByteString", "internal/bytealg.IndexString", "internal/abi.NoEscape", "internal/bytealg.MakeNoZero"], unfollowed := true, recurses := true, named := ["clew/lex.openings", "internal/bytealg.MaxLen", "strconv.ErrSyntax", "strconv.ErrRange", "internal/strconv.uint64pow10", "math/bits.deBruijn32tab", "math/bits.deBruijn64tab"], apart := false, laid := [("math/bits.deBruijn32tab", laid_math_bits_deBruijn32tab), ("math/bits.deBruijn64tab", laid_math_bits_deBruijn64tab), ("internal/strconv.uint64pow10", laid_internal_strconv_uint64pow10), ("strconv.ErrRange", laid_strconv_ErrRange), ("strconv.ErrSyntax", laid_strconv_ErrSyntax), ("clew/lex.openings", laid_clew_lex_openings)], narrowed := true }
def NaiveLooksUptoSaid : Prop := naiveLooksUptoRow.holds Tryz.pinned (OpenSpec.upto naiveLooksSpec)

/-- 'clewlaw11.NaiveRuled', WHERE WHAT IT READS IS OF BULK AT MOST 1048576: true; the input reads as it did. -/
def naiveRuledUptoRow : OpenClaim := { program := "yteiboobdhjdjkaagreatdoor", sum := "1c8e10a96d7dc5eaa51430256348fdb3f3c76e6c5ef40ef875224c64506d5ec9", func := "clew/clewlaw11.NaiveRuled", spec := "naiveRuled", inPlace := ["internal/bytealg.IndexByteString", "internal/bytealg.IndexString", "internal/abi.NoEscape", "internal/bytealg.MakeNoZero"], unfollowed := true, recurses := true, named := ["math/bits.deBruijn64tab", "clew/lex.openings", "internal/bytealg.MaxLen", "strconv.ErrSyntax", "strconv.ErrRange", "internal/strconv.uint64pow10", "math/bits.deBruijn32tab"], apart := false, laid := [("math/bits.deBruijn32tab", laid_math_bits_deBruijn32tab), ("math/bits.deBruijn64tab", laid_math_bits_deBruijn64tab), ("internal/strconv.uint64pow10", laid_internal_strconv_uint64pow10), ("strconv.ErrRange", laid_strconv_ErrRange), ("strconv.ErrSyntax", laid_strconv_ErrSyntax), ("clew/lex.openings", laid_clew_lex_openings)], narrowed := true }
def NaiveRuledUptoSaid : Prop := naiveRuledUptoRow.holds Tryz.pinned (OpenSpec.upto naiveRuledSpec)

end Rows
end Go.Proofs.YteiboobdhjdjkaaGreatDoor
