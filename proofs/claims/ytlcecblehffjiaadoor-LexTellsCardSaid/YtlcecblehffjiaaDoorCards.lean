/-
  DERIVED. GIVEN WITH THE SEED: THE CARDS: each row of YtlcecblehffjiaaDoorRows.lean that lists a variable, with what it lists TIED to the program's text (the seventh form; the later family's looks); each row that meets fmt, with fmt's text TOLD by the authors' own Lean function (tested against real Go, not proved from fmt's source: count such statements apart). THE CARD IS WHAT COUNTS. Prove the row's statement (the work); the ties are given (YtlcecblehffjiaaDoorTie.lean); close each card by the builder's one call (the guide's Derived/Test/ToyasCard.lean, 'card_holds'). Laid BY PROGRAM, IN A SANDBOX (cutbox-door.mjs). By AI agents, Wed Nov 11 2026. No macro, syntax, notation, axiom, sorry.
-/
import Derived.Test.YtlcecblehffjiaaDoorRows
import GoSem.ClaimSeven
namespace Go.Proofs.YtlcecblehffjiaaDoor
namespace Rows

/-- THE TIED CARD OF 'clewlaw06.LexTells'. -/
def lexTellsCard : Claim7 := { stood := { row := lexTellsRow, standIns := [], harness := (true, "64991a27af98d47e6a0f680726d5d1f6b114e7e34f53d9e0a2e7751d69318e31"), looks := true }, kinds := [], alts := [], laidByText := true, laidKinds := [.data, .data, .data, .sentinel, .sentinel, .data], laidTests := true, laidLooks := .later }
def LexTellsCardSaid : Prop := Claim7.holds Tryd.pinned (.plain (OpenSpec.ofChange lexTellsSpec)) lexTellsCard

/-- THE TIED CARD OF 'clewlaw06.LexClass'. -/
def lexClassCard : Claim7 := { stood := { row := lexClassRow, standIns := [], harness := (true, "64991a27af98d47e6a0f680726d5d1f6b114e7e34f53d9e0a2e7751d69318e31"), looks := true }, kinds := [], alts := [], laidByText := true, laidKinds := [.data, .data, .data, .sentinel, .sentinel, .data], laidTests := true, laidLooks := .later }
def LexClassCardSaid : Prop := Claim7.holds Tryd.pinned (.plain (OpenSpec.ofChange lexClassSpec)) lexClassCard

/-- THE TIED CARD OF 'clewlaw06.LexJoins'. -/
def lexJoinsCard : Claim7 := { stood := { row := lexJoinsRow, standIns := [], harness := (true, "64991a27af98d47e6a0f680726d5d1f6b114e7e34f53d9e0a2e7751d69318e31"), looks := true }, kinds := [], alts := [], laidByText := true, laidKinds := [.data, .data, .data, .sentinel, .sentinel, .data], laidTests := true, laidLooks := .later }
def LexJoinsCardSaid : Prop := Claim7.holds Tryd.pinned (.plain (OpenSpec.ofChange lexJoinsSpec)) lexJoinsCard

/-- THE TIED CARD OF 'clewlaw06.LexBytes'. -/
def lexBytesCard : Claim7 := { stood := { row := lexBytesRow, standIns := [], harness := (true, "64991a27af98d47e6a0f680726d5d1f6b114e7e34f53d9e0a2e7751d69318e31"), looks := true }, kinds := [], alts := [], laidByText := true, laidKinds := [.data, .data, .data, .sentinel, .sentinel, .data], laidTests := true, laidLooks := .later }
def LexBytesCardSaid : Prop := Claim7.holds Tryd.pinned (.plain (OpenSpec.ofChange lexBytesSpec)) lexBytesCard

/-- THE TIED CARD OF 'clewlaw06.LexCounts'. -/
def lexCountsCard : Claim7 := { stood := { row := lexCountsRow, standIns := [], harness := (true, "64991a27af98d47e6a0f680726d5d1f6b114e7e34f53d9e0a2e7751d69318e31"), looks := true }, kinds := [], alts := [], laidByText := true, laidKinds := [.data, .data, .data, .sentinel, .sentinel, .data], laidTests := true, laidLooks := .later }
def LexCountsCardSaid : Prop := Claim7.holds Tryd.pinned (.plain (OpenSpec.ofChange lexCountsSpec)) lexCountsCard

/-- THE TIED CARD OF 'clewlaw06.LexFlags'. -/
def lexFlagsCard : Claim7 := { stood := { row := lexFlagsRow, standIns := [], harness := (true, "64991a27af98d47e6a0f680726d5d1f6b114e7e34f53d9e0a2e7751d69318e31"), looks := true }, kinds := [], alts := [], laidByText := true, laidKinds := [.data, .data, .data, .sentinel, .sentinel, .data], laidTests := true, laidLooks := .later }
def LexFlagsCardSaid : Prop := Claim7.holds Tryd.pinned (.plain (OpenSpec.ofChange lexFlagsSpec)) lexFlagsCard

/-- THE TIED CARD OF 'clewlaw06.LexFew'. -/
def lexFewCard : Claim7 := { stood := { row := lexFewRow, standIns := [], harness := (true, "64991a27af98d47e6a0f680726d5d1f6b114e7e34f53d9e0a2e7751d69318e31"), looks := true }, kinds := [], alts := [], laidByText := true, laidKinds := [.data, .data, .data, .sentinel, .sentinel, .data], laidTests := true, laidLooks := .later }
def LexFewCardSaid : Prop := Claim7.holds Tryd.pinned (.plain (OpenSpec.ofChange lexFewSpec)) lexFewCard

/-- THE SECOND FORM's CARD OF 'clewlaw06.LexTells'. -/
def lexTellsUptoCard : Claim7 := { stood := { row := lexTellsUptoRow, standIns := [], harness := (true, "64991a27af98d47e6a0f680726d5d1f6b114e7e34f53d9e0a2e7751d69318e31"), looks := true }, kinds := [], alts := [], laidByText := true, laidKinds := [.data, .data, .data, .sentinel, .sentinel, .data], laidTests := true, laidLooks := .later }
def LexTellsUptoCardSaid : Prop := Claim7.holds Tryd.pinned (.plain (OpenSpec.upto lexTellsSpec)) lexTellsUptoCard

/-- THE SECOND FORM's CARD OF 'clewlaw06.LexClass'. -/
def lexClassUptoCard : Claim7 := { stood := { row := lexClassUptoRow, standIns := [], harness := (true, "64991a27af98d47e6a0f680726d5d1f6b114e7e34f53d9e0a2e7751d69318e31"), looks := true }, kinds := [], alts := [], laidByText := true, laidKinds := [.data, .data, .data, .sentinel, .sentinel, .data], laidTests := true, laidLooks := .later }
def LexClassUptoCardSaid : Prop := Claim7.holds Tryd.pinned (.plain (OpenSpec.upto lexClassSpec)) lexClassUptoCard

/-- THE SECOND FORM's CARD OF 'clewlaw06.LexJoins'. -/
def lexJoinsUptoCard : Claim7 := { stood := { row := lexJoinsUptoRow, standIns := [], harness := (true, "64991a27af98d47e6a0f680726d5d1f6b114e7e34f53d9e0a2e7751d69318e31"), looks := true }, kinds := [], alts := [], laidByText := true, laidKinds := [.data, .data, .data, .sentinel, .sentinel, .data], laidTests := true, laidLooks := .later }
def LexJoinsUptoCardSaid : Prop := Claim7.holds Tryd.pinned (.plain (OpenSpec.upto lexJoinsSpec)) lexJoinsUptoCard

/-- THE SECOND FORM's CARD OF 'clewlaw06.LexBytes'. -/
def lexBytesUptoCard : Claim7 := { stood := { row := lexBytesUptoRow, standIns := [], harness := (true, "64991a27af98d47e6a0f680726d5d1f6b114e7e34f53d9e0a2e7751d69318e31"), looks := true }, kinds := [], alts := [], laidByText := true, laidKinds := [.data, .data, .data, .sentinel, .sentinel, .data], laidTests := true, laidLooks := .later }
def LexBytesUptoCardSaid : Prop := Claim7.holds Tryd.pinned (.plain (OpenSpec.upto lexBytesSpec)) lexBytesUptoCard

/-- THE SECOND FORM's CARD OF 'clewlaw06.LexCounts'. -/
def lexCountsUptoCard : Claim7 := { stood := { row := lexCountsUptoRow, standIns := [], harness := (true, "64991a27af98d47e6a0f680726d5d1f6b114e7e34f53d9e0a2e7751d69318e31"), looks := true }, kinds := [], alts := [], laidByText := true, laidKinds := [.data, .data, .data, .sentinel, .sentinel, .data], laidTests := true, laidLooks := .later }
def LexCountsUptoCardSaid : Prop := Claim7.holds Tryd.pinned (.plain (OpenSpec.upto lexCountsSpec)) lexCountsUptoCard

/-- THE SECOND FORM's CARD OF 'clewlaw06.LexFlags'. -/
def lexFlagsUptoCard : Claim7 := { stood := { row := lexFlagsUptoRow, standIns := [], harness := (true, "64991a27af98d47e6a0f680726d5d1f6b114e7e34f53d9e0a2e7751d69318e31"), looks := true }, kinds := [], alts := [], laidByText := true, laidKinds := [.data, .data, .data, .sentinel, .sentinel, .data], laidTests := true, laidLooks := .later }
def LexFlagsUptoCardSaid : Prop := Claim7.holds Tryd.pinned (.plain (OpenSpec.upto lexFlagsSpec)) lexFlagsUptoCard

/-- THE SECOND FORM's CARD OF 'clewlaw06.LexFew'. -/
def lexFewUptoCard : Claim7 := { stood := { row := lexFewUptoRow, standIns := [], harness := (true, "64991a27af98d47e6a0f680726d5d1f6b114e7e34f53d9e0a2e7751d69318e31"), looks := true }, kinds := [], alts := [], laidByText := true, laidKinds := [.data, .data, .data, .sentinel, .sentinel, .data], laidTests := true, laidLooks := .later }
def LexFewUptoCardSaid : Prop := Claim7.holds Tryd.pinned (.plain (OpenSpec.upto lexFewSpec)) lexFewUptoCard
end Rows
end Go.Proofs.YtlcecblehffjiaaDoor
