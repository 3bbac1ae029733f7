/-
  DERIVED. GIVEN WITH THE SEED: THE CARDS: each row of YteggpecbeagohaaGreatDoorRows.lean that lists a variable, with what it lists TIED to the program's text (the seventh form; the later family's looks); each row that meets fmt, with fmt's text TOLD by the authors' own Lean function (tested against real Go, not proved from fmt's source: count such statements apart). THE CARD IS WHAT COUNTS. Prove the row's statement (the work); the ties are given (YteggpecbeagohaaGreatDoorTie.lean); close each card by the builder's one call (the guide's Derived/Test/ToyasCard.lean, 'card_holds'). Laid BY PROGRAM, IN A SANDBOX (cutbox-door.mjs). By AI agents, Wed Nov 11 2026. No macro, syntax, notation, axiom, sorry.
-/
import Derived.Test.YteggpecbeagohaaGreatDoorRows
import GoSem.ClaimSeven
namespace Go.Proofs.YteggpecbeagohaaGreatDoor
namespace Rows

/-- THE TIED CARD OF 'clewlaw13.StepJoins'. -/
def stepJoinsCard : Claim7 := { stood := { row := stepJoinsRow, standIns := [], harness := (true, "7532df2e7144d8323decbb01619696cff4e1928f67105f8b6b8b98d6b216916c"), looks := true }, kinds := [], alts := [], laidByText := true, laidKinds := [.data, .data, .data, .sentinel, .sentinel, .data], laidTests := true, laidLooks := .later }
def StepJoinsCardSaid : Prop := Claim7.holds Tryz.pinned (.plain (OpenSpec.ofChange stepJoinsSpec)) stepJoinsCard

/-- THE TIED CARD OF 'clewlaw13.StepAgain'. -/
def stepAgainCard : Claim7 := { stood := { row := stepAgainRow, standIns := [], harness := (true, "7532df2e7144d8323decbb01619696cff4e1928f67105f8b6b8b98d6b216916c"), looks := true }, kinds := [], alts := [], laidByText := true, laidKinds := [.data, .data, .data, .sentinel, .sentinel, .data], laidTests := true, laidLooks := .later }
def StepAgainCardSaid : Prop := Claim7.holds Tryz.pinned (.plain (OpenSpec.ofChange stepAgainSpec)) stepAgainCard

/-- THE TIED CARD OF 'clewlaw13.StepFrames'. -/
def stepFramesCard : Claim7 := { stood := { row := stepFramesRow, standIns := [], harness := (true, "7532df2e7144d8323decbb01619696cff4e1928f67105f8b6b8b98d6b216916c"), looks := true }, kinds := [], alts := [], laidByText := true, laidKinds := [.data, .data, .data, .sentinel, .sentinel, .data], laidTests := true, laidLooks := .later }
def StepFramesCardSaid : Prop := Claim7.holds Tryz.pinned (.plain (OpenSpec.ofChange stepFramesSpec)) stepFramesCard

/-- THE SECOND FORM's CARD OF 'clewlaw13.StepJoins'. -/
def stepJoinsUptoCard : Claim7 := { stood := { row := stepJoinsUptoRow, standIns := [], harness := (true, "7532df2e7144d8323decbb01619696cff4e1928f67105f8b6b8b98d6b216916c"), looks := true }, kinds := [], alts := [], laidByText := true, laidKinds := [.data, .data, .data, .sentinel, .sentinel, .data], laidTests := true, laidLooks := .later }
def StepJoinsUptoCardSaid : Prop := Claim7.holds Tryz.pinned (.plain (OpenSpec.upto stepJoinsSpec)) stepJoinsUptoCard

/-- THE SECOND FORM's CARD OF 'clewlaw13.StepAgain'. -/
def stepAgainUptoCard : Claim7 := { stood := { row := stepAgainUptoRow, standIns := [], harness := (true, "7532df2e7144d8323decbb01619696cff4e1928f67105f8b6b8b98d6b216916c"), looks := true }, kinds := [], alts := [], laidByText := true, laidKinds := [.data, .data, .data, .sentinel, .sentinel, .data], laidTests := true, laidLooks := .later }
def StepAgainUptoCardSaid : Prop := Claim7.holds Tryz.pinned (.plain (OpenSpec.upto stepAgainSpec)) stepAgainUptoCard

/-- THE SECOND FORM's CARD OF 'clewlaw13.StepFrames'. -/
def stepFramesUptoCard : Claim7 := { stood := { row := stepFramesUptoRow, standIns := [], harness := (true, "7532df2e7144d8323decbb01619696cff4e1928f67105f8b6b8b98d6b216916c"), looks := true }, kinds := [], alts := [], laidByText := true, laidKinds := [.data, .data, .data, .sentinel, .sentinel, .data], laidTests := true, laidLooks := .later }
def StepFramesUptoCardSaid : Prop := Claim7.holds Tryz.pinned (.plain (OpenSpec.upto stepFramesSpec)) stepFramesUptoCard
end Rows
end Go.Proofs.YteggpecbeagohaaGreatDoor
