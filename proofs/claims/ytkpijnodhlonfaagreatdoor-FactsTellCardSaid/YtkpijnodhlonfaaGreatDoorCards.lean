/-
  DERIVED. GIVEN WITH THE SEED: THE CARDS: each row of YtkpijnodhlonfaaGreatDoorRows.lean that lists a variable, with what it lists TIED to the program's text (the seventh form; the later family's looks); each row that meets fmt, with fmt's text TOLD by the authors' own Lean function (tested against real Go, not proved from fmt's source: count such statements apart). THE CARD IS WHAT COUNTS. Prove the row's statement (the work); the ties are given (YtkpijnodhlonfaaGreatDoorTie.lean); close each card by the builder's one call (the guide's Derived/Test/ToyasCard.lean, 'card_holds'). Laid BY PROGRAM, IN A SANDBOX (cutbox-door.mjs). By AI agents, Wed Nov 11 2026. No macro, syntax, notation, axiom, sorry.
-/
import Derived.Test.YtkpijnodhlonfaaGreatDoorRows
import GoSem.ClaimSeven
namespace Go.Proofs.YtkpijnodhlonfaaGreatDoor
namespace Rows

/-- THE TIED CARD OF 'clewlaw09.FactsTell'. -/
def factsTellCard : Claim7 := { stood := { row := factsTellRow, standIns := [], harness := (true, "f5b3dcedcd6a3625e4f2e9904f73820a21ce40b23961937da3320cff4950fa7d"), looks := true }, kinds := [], alts := [], laidByText := true, laidKinds := [.data, .data, .data, .sentinel, .sentinel, .data], laidTests := true, laidLooks := .later }
def FactsTellCardSaid : Prop := Claim7.holds Tryz.pinned (.plain (OpenSpec.ofChange factsTellSpec)) factsTellCard

/-- THE TIED CARD OF 'clewlaw09.FactsOut'. -/
def factsOutCard : Claim7 := { stood := { row := factsOutRow, standIns := [], harness := (true, "f5b3dcedcd6a3625e4f2e9904f73820a21ce40b23961937da3320cff4950fa7d"), looks := true }, kinds := [], alts := [], laidByText := true, laidKinds := [.data, .data, .data, .sentinel, .sentinel, .data], laidTests := true, laidLooks := .later }
def FactsOutCardSaid : Prop := Claim7.holds Tryz.pinned (.plain (OpenSpec.ofChange factsOutSpec)) factsOutCard

/-- THE TIED CARD OF 'clewlaw09.FactsCats'. -/
def factsCatsCard : Claim7 := { stood := { row := factsCatsRow, standIns := [], harness := (true, "f5b3dcedcd6a3625e4f2e9904f73820a21ce40b23961937da3320cff4950fa7d"), looks := true }, kinds := [], alts := [], laidByText := true, laidKinds := [.data, .data, .data, .sentinel, .sentinel, .data], laidTests := true, laidLooks := .later }
def FactsCatsCardSaid : Prop := Claim7.holds Tryz.pinned (.plain (OpenSpec.ofChange factsCatsSpec)) factsCatsCard

/-- THE TIED CARD OF 'clewlaw09.FactsLong'. -/
def factsLongCard : Claim7 := { stood := { row := factsLongRow, standIns := [], harness := (true, "f5b3dcedcd6a3625e4f2e9904f73820a21ce40b23961937da3320cff4950fa7d"), looks := true }, kinds := [], alts := [], laidByText := true, laidKinds := [.data, .data, .data, .sentinel, .sentinel, .data], laidTests := true, laidLooks := .later }
def FactsLongCardSaid : Prop := Claim7.holds Tryz.pinned (.plain (OpenSpec.ofChange factsLongSpec)) factsLongCard

/-- THE TIED CARD OF 'clewlaw09.FactsRest'. -/
def factsRestCard : Claim7 := { stood := { row := factsRestRow, standIns := [], harness := (true, "f5b3dcedcd6a3625e4f2e9904f73820a21ce40b23961937da3320cff4950fa7d"), looks := true }, kinds := [], alts := [], laidByText := true, laidKinds := [.data, .data, .data, .sentinel, .sentinel, .data], laidTests := true, laidLooks := .later }
def FactsRestCardSaid : Prop := Claim7.holds Tryz.pinned (.plain (OpenSpec.ofChange factsRestSpec)) factsRestCard

/-- THE TIED CARD OF 'clewlaw09.FactsTurns'. -/
def factsTurnsCard : Claim7 := { stood := { row := factsTurnsRow, standIns := [], harness := (true, "f5b3dcedcd6a3625e4f2e9904f73820a21ce40b23961937da3320cff4950fa7d"), looks := true }, kinds := [], alts := [], laidByText := true, laidKinds := [.data, .data, .data, .sentinel, .sentinel, .data], laidTests := true, laidLooks := .later }
def FactsTurnsCardSaid : Prop := Claim7.holds Tryz.pinned (.plain (OpenSpec.ofChange factsTurnsSpec)) factsTurnsCard

/-- THE SECOND FORM's CARD OF 'clewlaw09.FactsTell'. -/
def factsTellUptoCard : Claim7 := { stood := { row := factsTellUptoRow, standIns := [], harness := (true, "f5b3dcedcd6a3625e4f2e9904f73820a21ce40b23961937da3320cff4950fa7d"), looks := true }, kinds := [], alts := [], laidByText := true, laidKinds := [.data, .data, .data, .sentinel, .sentinel, .data], laidTests := true, laidLooks := .later }
def FactsTellUptoCardSaid : Prop := Claim7.holds Tryz.pinned (.plain (OpenSpec.upto factsTellSpec)) factsTellUptoCard

/-- THE SECOND FORM's CARD OF 'clewlaw09.FactsOut'. -/
def factsOutUptoCard : Claim7 := { stood := { row := factsOutUptoRow, standIns := [], harness := (true, "f5b3dcedcd6a3625e4f2e9904f73820a21ce40b23961937da3320cff4950fa7d"), looks := true }, kinds := [], alts := [], laidByText := true, laidKinds := [.data, .data, .data, .sentinel, .sentinel, .data], laidTests := true, laidLooks := .later }
def FactsOutUptoCardSaid : Prop := Claim7.holds Tryz.pinned (.plain (OpenSpec.upto factsOutSpec)) factsOutUptoCard

/-- THE SECOND FORM's CARD OF 'clewlaw09.FactsCats'. -/
def factsCatsUptoCard : Claim7 := { stood := { row := factsCatsUptoRow, standIns := [], harness := (true, "f5b3dcedcd6a3625e4f2e9904f73820a21ce40b23961937da3320cff4950fa7d"), looks := true }, kinds := [], alts := [], laidByText := true, laidKinds := [.data, .data, .data, .sentinel, .sentinel, .data], laidTests := true, laidLooks := .later }
def FactsCatsUptoCardSaid : Prop := Claim7.holds Tryz.pinned (.plain (OpenSpec.upto factsCatsSpec)) factsCatsUptoCard

/-- THE SECOND FORM's CARD OF 'clewlaw09.FactsLong'. -/
def factsLongUptoCard : Claim7 := { stood := { row := factsLongUptoRow, standIns := [], harness := (true, "f5b3dcedcd6a3625e4f2e9904f73820a21ce40b23961937da3320cff4950fa7d"), looks := true }, kinds := [], alts := [], laidByText := true, laidKinds := [.data, .data, .data, .sentinel, .sentinel, .data], laidTests := true, laidLooks := .later }
def FactsLongUptoCardSaid : Prop := Claim7.holds Tryz.pinned (.plain (OpenSpec.upto factsLongSpec)) factsLongUptoCard

/-- THE SECOND FORM's CARD OF 'clewlaw09.FactsRest'. -/
def factsRestUptoCard : Claim7 := { stood := { row := factsRestUptoRow, standIns := [], harness := (true, "f5b3dcedcd6a3625e4f2e9904f73820a21ce40b23961937da3320cff4950fa7d"), looks := true }, kinds := [], alts := [], laidByText := true, laidKinds := [.data, .data, .data, .sentinel, .sentinel, .data], laidTests := true, laidLooks := .later }
def FactsRestUptoCardSaid : Prop := Claim7.holds Tryz.pinned (.plain (OpenSpec.upto factsRestSpec)) factsRestUptoCard

/-- THE SECOND FORM's CARD OF 'clewlaw09.FactsTurns'. -/
def factsTurnsUptoCard : Claim7 := { stood := { row := factsTurnsUptoRow, standIns := [], harness := (true, "f5b3dcedcd6a3625e4f2e9904f73820a21ce40b23961937da3320cff4950fa7d"), looks := true }, kinds := [], alts := [], laidByText := true, laidKinds := [.data, .data, .data, .sentinel, .sentinel, .data], laidTests := true, laidLooks := .later }
def FactsTurnsUptoCardSaid : Prop := Claim7.holds Tryz.pinned (.plain (OpenSpec.upto factsTurnsSpec)) factsTurnsUptoCard
end Rows
end Go.Proofs.YtkpijnodhlonfaaGreatDoor
