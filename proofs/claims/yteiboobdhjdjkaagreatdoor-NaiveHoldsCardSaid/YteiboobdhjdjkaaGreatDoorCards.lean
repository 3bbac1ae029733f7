/-
  DERIVED. GIVEN WITH THE SEED: THE CARDS: each row of YteiboobdhjdjkaaGreatDoorRows.lean that lists a variable, with what it lists TIED to the program's text (the seventh form; the later family's looks); each row that meets fmt, with fmt's text TOLD by the authors' own Lean function (tested against real Go, not proved from fmt's source: count such statements apart). THE CARD IS WHAT COUNTS. Prove the row's statement (the work); the ties are given (YteiboobdhjdjkaaGreatDoorTie.lean); close each card by the builder's one call (the guide's Derived/Test/ToyasCard.lean, 'card_holds'). Laid BY PROGRAM, IN A SANDBOX (cutbox-door.mjs). By AI agents, Wed Nov 11 2026. No macro, syntax, notation, axiom, sorry.
-/
import Derived.Test.YteiboobdhjdjkaaGreatDoorRows
import GoSem.ClaimSeven
namespace Go.Proofs.YteiboobdhjdjkaaGreatDoor
namespace Rows

/-- THE TIED CARD OF 'clewlaw11.NaiveAll'. -/
def naiveAllCard : Claim7 := { stood := { row := naiveAllRow, standIns := [], harness := (true, "68b4577907b967c432e631b8134720b06856928c05a744d0de598f0596d63f30"), looks := true }, kinds := [], alts := [], laidByText := true, laidKinds := [.data, .data, .data, .sentinel, .sentinel, .data], laidTests := true, laidLooks := .later }
def NaiveAllCardSaid : Prop := Claim7.holds Tryz.pinned (.plain (OpenSpec.ofChange naiveAllSpec)) naiveAllCard

/-- THE TIED CARD OF 'clewlaw11.NaiveFind'. -/
def naiveFindCard : Claim7 := { stood := { row := naiveFindRow, standIns := [], harness := (true, "68b4577907b967c432e631b8134720b06856928c05a744d0de598f0596d63f30"), looks := true }, kinds := [], alts := [], laidByText := true, laidKinds := [.data, .data, .data, .sentinel, .sentinel, .data], laidTests := true, laidLooks := .later }
def NaiveFindCardSaid : Prop := Claim7.holds Tryz.pinned (.plain (OpenSpec.ofChange naiveFindSpec)) naiveFindCard

/-- THE TIED CARD OF 'clewlaw11.NaiveHolds'. -/
def naiveHoldsCard : Claim7 := { stood := { row := naiveHoldsRow, standIns := [], harness := (true, "68b4577907b967c432e631b8134720b06856928c05a744d0de598f0596d63f30"), looks := true }, kinds := [], alts := [], laidByText := true, laidKinds := [.data, .data, .data, .sentinel, .sentinel, .data], laidTests := true, laidLooks := .later }
def NaiveHoldsCardSaid : Prop := Claim7.holds Tryz.pinned (.plain (OpenSpec.ofChange naiveHoldsSpec)) naiveHoldsCard

/-- THE TIED CARD OF 'clewlaw11.NaiveAlts'. -/
def naiveAltsCard : Claim7 := { stood := { row := naiveAltsRow, standIns := [], harness := (true, "68b4577907b967c432e631b8134720b06856928c05a744d0de598f0596d63f30"), looks := true }, kinds := [], alts := [], laidByText := true, laidKinds := [.data, .data, .data, .sentinel, .sentinel, .data], laidTests := true, laidLooks := .later }
def NaiveAltsCardSaid : Prop := Claim7.holds Tryz.pinned (.plain (OpenSpec.ofChange naiveAltsSpec)) naiveAltsCard

/-- THE TIED CARD OF 'clewlaw11.NaiveModes'. -/
def naiveModesCard : Claim7 := { stood := { row := naiveModesRow, standIns := [], harness := (true, "68b4577907b967c432e631b8134720b06856928c05a744d0de598f0596d63f30"), looks := true }, kinds := [], alts := [], laidByText := true, laidKinds := [.data, .data, .data, .sentinel, .sentinel, .data], laidTests := true, laidLooks := .later }
def NaiveModesCardSaid : Prop := Claim7.holds Tryz.pinned (.plain (OpenSpec.ofChange naiveModesSpec)) naiveModesCard

/-- THE TIED CARD OF 'clewlaw11.NaiveFinds'. -/
def naiveFindsCard : Claim7 := { stood := { row := naiveFindsRow, standIns := [], harness := (true, "68b4577907b967c432e631b8134720b06856928c05a744d0de598f0596d63f30"), looks := true }, kinds := [], alts := [], laidByText := true, laidKinds := [.data, .data, .data, .sentinel, .sentinel, .data], laidTests := true, laidLooks := .later }
def NaiveFindsCardSaid : Prop := Claim7.holds Tryz.pinned (.plain (OpenSpec.ofChange naiveFindsSpec)) naiveFindsCard

/-- THE TIED CARD OF 'clewlaw11.NaiveEnds'. -/
def naiveEndsCard : Claim7 := { stood := { row := naiveEndsRow, standIns := [], harness := (true, "68b4577907b967c432e631b8134720b06856928c05a744d0de598f0596d63f30"), looks := true }, kinds := [], alts := [], laidByText := true, laidKinds := [.data, .data, .data, .sentinel, .sentinel, .data], laidTests := true, laidLooks := .later }
def NaiveEndsCardSaid : Prop := Claim7.holds Tryz.pinned (.plain (OpenSpec.ofChange naiveEndsSpec)) naiveEndsCard

/-- THE TIED CARD OF 'clewlaw11.NaiveLooks'. -/
def naiveLooksCard : Claim7 := { stood := { row := naiveLooksRow, standIns := [], harness := (true, "68b4577907b967c432e631b8134720b06856928c05a744d0de598f0596d63f30"), looks := true }, kinds := [], alts := [], laidByText := true, laidKinds := [.data, .data, .data, .sentinel, .sentinel, .data], laidTests := true, laidLooks := .later }
def NaiveLooksCardSaid : Prop := Claim7.holds Tryz.pinned (.plain (OpenSpec.ofChange naiveLooksSpec)) naiveLooksCard

/-- THE TIED CARD OF 'clewlaw11.NaiveRuled'. -/
def naiveRuledCard : Claim7 := { stood := { row := naiveRuledRow, standIns := [], harness := (true, "68b4577907b967c432e631b8134720b06856928c05a744d0de598f0596d63f30"), looks := true }, kinds := [], alts := [], laidByText := true, laidKinds := [.data, .data, .data, .sentinel, .sentinel, .data], laidTests := true, laidLooks := .later }
def NaiveRuledCardSaid : Prop := Claim7.holds Tryz.pinned (.plain (OpenSpec.ofChange naiveRuledSpec)) naiveRuledCard

/-- THE SECOND FORM's CARD OF 'clewlaw11.NaiveAll'. -/
def naiveAllUptoCard : Claim7 := { stood := { row := naiveAllUptoRow, standIns := [], harness := (true, "68b4577907b967c432e631b8134720b06856928c05a744d0de598f0596d63f30"), looks := true }, kinds := [], alts := [], laidByText := true, laidKinds := [.data, .data, .data, .sentinel, .sentinel, .data], laidTests := true, laidLooks := .later }
def NaiveAllUptoCardSaid : Prop := Claim7.holds Tryz.pinned (.plain (OpenSpec.upto naiveAllSpec)) naiveAllUptoCard

/-- THE SECOND FORM's CARD OF 'clewlaw11.NaiveFind'. -/
def naiveFindUptoCard : Claim7 := { stood := { row := naiveFindUptoRow, standIns := [], harness := (true, "68b4577907b967c432e631b8134720b06856928c05a744d0de598f0596d63f30"), looks := true }, kinds := [], alts := [], laidByText := true, laidKinds := [.data, .data, .data, .sentinel, .sentinel, .data], laidTests := true, laidLooks := .later }
def NaiveFindUptoCardSaid : Prop := Claim7.holds Tryz.pinned (.plain (OpenSpec.upto naiveFindSpec)) naiveFindUptoCard

/-- THE SECOND FORM's CARD OF 'clewlaw11.NaiveHolds'. -/
def naiveHoldsUptoCard : Claim7 := { stood := { row := naiveHoldsUptoRow, standIns := [], harness := (true, "68b4577907b967c432e631b8134720b06856928c05a744d0de598f0596d63f30"), looks := true }, kinds := [], alts := [], laidByText := true, laidKinds := [.data, .data, .data, .sentinel, .sentinel, .data], laidTests := true, laidLooks := .later }
def NaiveHoldsUptoCardSaid : Prop := Claim7.holds Tryz.pinned (.plain (OpenSpec.upto naiveHoldsSpec)) naiveHoldsUptoCard

/-- THE SECOND FORM's CARD OF 'clewlaw11.NaiveAlts'. -/
def naiveAltsUptoCard : Claim7 := { stood := { row := naiveAltsUptoRow, standIns := [], harness := (true, "68b4577907b967c432e631b8134720b06856928c05a744d0de598f0596d63f30"), looks := true }, kinds := [], alts := [], laidByText := true, laidKinds := [.data, .data, .data, .sentinel, .sentinel, .data], laidTests := true, laidLooks := .later }
def NaiveAltsUptoCardSaid : Prop := Claim7.holds Tryz.pinned (.plain (OpenSpec.upto naiveAltsSpec)) naiveAltsUptoCard

/-- THE SECOND FORM's CARD OF 'clewlaw11.NaiveModes'. -/
def naiveModesUptoCard : Claim7 := { stood := { row := naiveModesUptoRow, standIns := [], harness := (true, "68b4577907b967c432e631b8134720b06856928c05a744d0de598f0596d63f30"), looks := true }, kinds := [], alts := [], laidByText := true, laidKinds := [.data, .data, .data, .sentinel, .sentinel, .data], laidTests := true, laidLooks := .later }
def NaiveModesUptoCardSaid : Prop := Claim7.holds Tryz.pinned (.plain (OpenSpec.upto naiveModesSpec)) naiveModesUptoCard

/-- THE SECOND FORM's CARD OF 'clewlaw11.NaiveFinds'. -/
def naiveFindsUptoCard : Claim7 := { stood := { row := naiveFindsUptoRow, standIns := [], harness := (true, "68b4577907b967c432e631b8134720b06856928c05a744d0de598f0596d63f30"), looks := true }, kinds := [], alts := [], laidByText := true, laidKinds := [.data, .data, .data, .sentinel, .sentinel, .data], laidTests := true, laidLooks := .later }
def NaiveFindsUptoCardSaid : Prop := Claim7.holds Tryz.pinned (.plain (OpenSpec.upto naiveFindsSpec)) naiveFindsUptoCard

/-- THE SECOND FORM's CARD OF 'clewlaw11.NaiveEnds'. -/
def naiveEndsUptoCard : Claim7 := { stood := { row := naiveEndsUptoRow, standIns := [], harness := (true, "68b4577907b967c432e631b8134720b06856928c05a744d0de598f0596d63f30"), looks := true }, kinds := [], alts := [], laidByText := true, laidKinds := [.data, .data, .data, .sentinel, .sentinel, .data], laidTests := true, laidLooks := .later }
def NaiveEndsUptoCardSaid : Prop := Claim7.holds Tryz.pinned (.plain (OpenSpec.upto naiveEndsSpec)) naiveEndsUptoCard

/-- THE SECOND FORM's CARD OF 'clewlaw11.NaiveLooks'. -/
def naiveLooksUptoCard : Claim7 := { stood := { row := naiveLooksUptoRow, standIns := [], harness := (true, "68b4577907b967c432e631b8134720b06856928c05a744d0de598f0596d63f30"), looks := true }, kinds := [], alts := [], laidByText := true, laidKinds := [.data, .data, .data, .sentinel, .sentinel, .data], laidTests := true, laidLooks := .later }
def NaiveLooksUptoCardSaid : Prop := Claim7.holds Tryz.pinned (.plain (OpenSpec.upto naiveLooksSpec)) naiveLooksUptoCard

/-- THE SECOND FORM's CARD OF 'clewlaw11.NaiveRuled'. -/
def naiveRuledUptoCard : Claim7 := { stood := { row := naiveRuledUptoRow, standIns := [], harness := (true, "68b4577907b967c432e631b8134720b06856928c05a744d0de598f0596d63f30"), looks := true }, kinds := [], alts := [], laidByText := true, laidKinds := [.data, .data, .data, .sentinel, .sentinel, .data], laidTests := true, laidLooks := .later }
def NaiveRuledUptoCardSaid : Prop := Claim7.holds Tryz.pinned (.plain (OpenSpec.upto naiveRuledSpec)) naiveRuledUptoCard
end Rows
end Go.Proofs.YteiboobdhjdjkaaGreatDoor
