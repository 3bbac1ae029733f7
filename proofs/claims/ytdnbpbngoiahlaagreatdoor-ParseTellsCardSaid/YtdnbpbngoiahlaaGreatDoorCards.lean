/-
  DERIVED. GIVEN WITH THE SEED: THE CARDS: each row of YtdnbpbngoiahlaaGreatDoorRows.lean that lists a variable, with what it lists TIED to the program's text (the seventh form; the later family's looks); each row that meets fmt, with fmt's text TOLD by the authors' own Lean function (tested against real Go, not proved from fmt's source: count such statements apart). THE CARD IS WHAT COUNTS. Prove the row's statement (the work); the ties are given (YtdnbpbngoiahlaaGreatDoorTie.lean); close each card by the builder's one call (the guide's Derived/Test/ToyasCard.lean, 'card_holds'). Laid BY PROGRAM, IN A SANDBOX (cutbox-door.mjs). By AI agents, Wed Nov 11 2026. No macro, syntax, notation, axiom, sorry.
-/
import Derived.Test.YtdnbpbngoiahlaaGreatDoorRows
import GoSem.ClaimSeven
namespace Go.Proofs.YtdnbpbngoiahlaaGreatDoor
namespace Rows

/-- THE TIED CARD OF 'clewlaw07.ParseTells'. -/
def parseTellsCard : Claim7 := { stood := { row := parseTellsRow, standIns := [], harness := (true, "22b28cb7a8ebf488073c7b8ddd8877d2ca6a028999a4cf166ed9999f9973cd62"), looks := true }, kinds := [], alts := [], laidByText := true, laidKinds := [.data, .data, .data, .sentinel, .sentinel, .data], laidTests := true, laidLooks := .later }
def ParseTellsCardSaid : Prop := Claim7.holds Tryz.pinned (.plain (OpenSpec.ofChange parseTellsSpec)) parseTellsCard

/-- THE TIED CARD OF 'clewlaw07.ParseRight'. -/
def parseRightCard : Claim7 := { stood := { row := parseRightRow, standIns := [], harness := (true, "22b28cb7a8ebf488073c7b8ddd8877d2ca6a028999a4cf166ed9999f9973cd62"), looks := true }, kinds := [], alts := [], laidByText := true, laidKinds := [.data, .data, .data, .sentinel, .sentinel, .data], laidTests := true, laidLooks := .later }
def ParseRightCardSaid : Prop := Claim7.holds Tryz.pinned (.plain (OpenSpec.ofChange parseRightSpec)) parseRightCard

/-- THE TIED CARD OF 'clewlaw07.ParsePlain'. -/
def parsePlainCard : Claim7 := { stood := { row := parsePlainRow, standIns := [], harness := (true, "22b28cb7a8ebf488073c7b8ddd8877d2ca6a028999a4cf166ed9999f9973cd62"), looks := true }, kinds := [], alts := [], laidByText := true, laidKinds := [.data, .data, .data, .sentinel, .sentinel, .data], laidTests := true, laidLooks := .later }
def ParsePlainCardSaid : Prop := Claim7.holds Tryz.pinned (.plain (OpenSpec.ofChange parsePlainSpec)) parsePlainCard

/-- THE TIED CARD OF 'clewlaw07.ParseAlts'. -/
def parseAltsCard : Claim7 := { stood := { row := parseAltsRow, standIns := [], harness := (true, "22b28cb7a8ebf488073c7b8ddd8877d2ca6a028999a4cf166ed9999f9973cd62"), looks := true }, kinds := [], alts := [], laidByText := true, laidKinds := [.data, .data, .data, .sentinel, .sentinel, .data], laidTests := true, laidLooks := .later }
def ParseAltsCardSaid : Prop := Claim7.holds Tryz.pinned (.plain (OpenSpec.ofChange parseAltsSpec)) parseAltsCard

/-- THE TIED CARD OF 'clewlaw07.ParseFlags'. -/
def parseFlagsCard : Claim7 := { stood := { row := parseFlagsRow, standIns := [], harness := (true, "22b28cb7a8ebf488073c7b8ddd8877d2ca6a028999a4cf166ed9999f9973cd62"), looks := true }, kinds := [], alts := [], laidByText := true, laidKinds := [.data, .data, .data, .sentinel, .sentinel, .data], laidTests := true, laidLooks := .later }
def ParseFlagsCardSaid : Prop := Claim7.holds Tryz.pinned (.plain (OpenSpec.ofChange parseFlagsSpec)) parseFlagsCard

/-- THE TIED CARD OF 'clewlaw07.ParseDeep'. -/
def parseDeepCard : Claim7 := { stood := { row := parseDeepRow, standIns := [], harness := (true, "22b28cb7a8ebf488073c7b8ddd8877d2ca6a028999a4cf166ed9999f9973cd62"), looks := true }, kinds := [], alts := [], laidByText := true, laidKinds := [.data, .data, .data, .sentinel, .sentinel, .data], laidTests := true, laidLooks := .later }
def ParseDeepCardSaid : Prop := Claim7.holds Tryz.pinned (.plain (OpenSpec.ofChange parseDeepSpec)) parseDeepCard

/-- THE TIED CARD OF 'clewlaw07.ParseGroups'. -/
def parseGroupsCard : Claim7 := { stood := { row := parseGroupsRow, standIns := [], harness := (true, "22b28cb7a8ebf488073c7b8ddd8877d2ca6a028999a4cf166ed9999f9973cd62"), looks := true }, kinds := [], alts := [], laidByText := true, laidKinds := [.data, .data, .data, .sentinel, .sentinel, .data], laidTests := true, laidLooks := .later }
def ParseGroupsCardSaid : Prop := Claim7.holds Tryz.pinned (.plain (OpenSpec.ofChange parseGroupsSpec)) parseGroupsCard

/-- THE SECOND FORM's CARD OF 'clewlaw07.ParseTells'. -/
def parseTellsUptoCard : Claim7 := { stood := { row := parseTellsUptoRow, standIns := [], harness := (true, "22b28cb7a8ebf488073c7b8ddd8877d2ca6a028999a4cf166ed9999f9973cd62"), looks := true }, kinds := [], alts := [], laidByText := true, laidKinds := [.data, .data, .data, .sentinel, .sentinel, .data], laidTests := true, laidLooks := .later }
def ParseTellsUptoCardSaid : Prop := Claim7.holds Tryz.pinned (.plain (OpenSpec.upto parseTellsSpec)) parseTellsUptoCard

/-- THE SECOND FORM's CARD OF 'clewlaw07.ParseRight'. -/
def parseRightUptoCard : Claim7 := { stood := { row := parseRightUptoRow, standIns := [], harness := (true, "22b28cb7a8ebf488073c7b8ddd8877d2ca6a028999a4cf166ed9999f9973cd62"), looks := true }, kinds := [], alts := [], laidByText := true, laidKinds := [.data, .data, .data, .sentinel, .sentinel, .data], laidTests := true, laidLooks := .later }
def ParseRightUptoCardSaid : Prop := Claim7.holds Tryz.pinned (.plain (OpenSpec.upto parseRightSpec)) parseRightUptoCard

/-- THE SECOND FORM's CARD OF 'clewlaw07.ParsePlain'. -/
def parsePlainUptoCard : Claim7 := { stood := { row := parsePlainUptoRow, standIns := [], harness := (true, "22b28cb7a8ebf488073c7b8ddd8877d2ca6a028999a4cf166ed9999f9973cd62"), looks := true }, kinds := [], alts := [], laidByText := true, laidKinds := [.data, .data, .data, .sentinel, .sentinel, .data], laidTests := true, laidLooks := .later }
def ParsePlainUptoCardSaid : Prop := Claim7.holds Tryz.pinned (.plain (OpenSpec.upto parsePlainSpec)) parsePlainUptoCard

/-- THE SECOND FORM's CARD OF 'clewlaw07.ParseAlts'. -/
def parseAltsUptoCard : Claim7 := { stood := { row := parseAltsUptoRow, standIns := [], harness := (true, "22b28cb7a8ebf488073c7b8ddd8877d2ca6a028999a4cf166ed9999f9973cd62"), looks := true }, kinds := [], alts := [], laidByText := true, laidKinds := [.data, .data, .data, .sentinel, .sentinel, .data], laidTests := true, laidLooks := .later }
def ParseAltsUptoCardSaid : Prop := Claim7.holds Tryz.pinned (.plain (OpenSpec.upto parseAltsSpec)) parseAltsUptoCard

/-- THE SECOND FORM's CARD OF 'clewlaw07.ParseFlags'. -/
def parseFlagsUptoCard : Claim7 := { stood := { row := parseFlagsUptoRow, standIns := [], harness := (true, "22b28cb7a8ebf488073c7b8ddd8877d2ca6a028999a4cf166ed9999f9973cd62"), looks := true }, kinds := [], alts := [], laidByText := true, laidKinds := [.data, .data, .data, .sentinel, .sentinel, .data], laidTests := true, laidLooks := .later }
def ParseFlagsUptoCardSaid : Prop := Claim7.holds Tryz.pinned (.plain (OpenSpec.upto parseFlagsSpec)) parseFlagsUptoCard

/-- THE SECOND FORM's CARD OF 'clewlaw07.ParseDeep'. -/
def parseDeepUptoCard : Claim7 := { stood := { row := parseDeepUptoRow, standIns := [], harness := (true, "22b28cb7a8ebf488073c7b8ddd8877d2ca6a028999a4cf166ed9999f9973cd62"), looks := true }, kinds := [], alts := [], laidByText := true, laidKinds := [.data, .data, .data, .sentinel, .sentinel, .data], laidTests := true, laidLooks := .later }
def ParseDeepUptoCardSaid : Prop := Claim7.holds Tryz.pinned (.plain (OpenSpec.upto parseDeepSpec)) parseDeepUptoCard

/-- THE SECOND FORM's CARD OF 'clewlaw07.ParseGroups'. -/
def parseGroupsUptoCard : Claim7 := { stood := { row := parseGroupsUptoRow, standIns := [], harness := (true, "22b28cb7a8ebf488073c7b8ddd8877d2ca6a028999a4cf166ed9999f9973cd62"), looks := true }, kinds := [], alts := [], laidByText := true, laidKinds := [.data, .data, .data, .sentinel, .sentinel, .data], laidTests := true, laidLooks := .later }
def ParseGroupsUptoCardSaid : Prop := Claim7.holds Tryz.pinned (.plain (OpenSpec.upto parseGroupsSpec)) parseGroupsUptoCard
end Rows
end Go.Proofs.YtdnbpbngoiahlaaGreatDoor
