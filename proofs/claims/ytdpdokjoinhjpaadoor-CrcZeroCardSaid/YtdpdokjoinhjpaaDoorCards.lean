/-
  DERIVED. GIVEN WITH THE SEED: THE CARDS: each row of YtdpdokjoinhjpaaDoorRows.lean that lists a variable, with what it lists TIED to the program's text (the seventh form; the later family's looks); each row that meets fmt, with fmt's text TOLD by the authors' own Lean function (tested against real Go, not proved from fmt's source: count such statements apart). THE CARD IS WHAT COUNTS. Prove the row's statement (the work); the ties are given (YtdpdokjoinhjpaaDoorTie.lean); close each card by the builder's one call (the guide's Derived/Test/ToyasCard.lean, 'card_holds'). Laid BY PROGRAM, IN A SANDBOX (cutbox-door.mjs). By AI agents, Wed Nov 11 2026. No macro, syntax, notation, axiom, sorry.
-/
import Derived.Test.YtdpdokjoinhjpaaDoorRows
import GoSem.ClaimSeven
namespace Go.Proofs.YtdpdokjoinhjpaaDoor
namespace Rows

/-- THE TIED CARD OF 'clewlaw03.CrcSums'. -/
def crcSumsCard : Claim7 := { stood := { row := crcSumsRow, standIns := [], harness := (true, "ef90c37e874e85b114c7ed1a5b5637265326bc22f3969b41cf0f2e32091af084"), looks := false }, kinds := [], alts := [], laidByText := true, laidKinds := [.data], laidTests := true, laidLooks := .later }
def CrcSumsCardSaid : Prop := Claim7.holds Tryd.pinned (.plain (OpenSpec.ofChange crcSumsSpec)) crcSumsCard

/-- THE TIED CARD OF 'clewlaw03.CrcParts'. -/
def crcPartsCard : Claim7 := { stood := { row := crcPartsRow, standIns := [], harness := (true, "ef90c37e874e85b114c7ed1a5b5637265326bc22f3969b41cf0f2e32091af084"), looks := false }, kinds := [], alts := [], laidByText := true, laidKinds := [.data], laidTests := true, laidLooks := .later }
def CrcPartsCardSaid : Prop := Claim7.holds Tryd.pinned (.plain (OpenSpec.ofChange crcPartsSpec)) crcPartsCard

/-- THE TIED CARD OF 'clewlaw03.CrcOne'. -/
def crcOneCard : Claim7 := { stood := { row := crcOneRow, standIns := [], harness := (true, "ef90c37e874e85b114c7ed1a5b5637265326bc22f3969b41cf0f2e32091af084"), looks := false }, kinds := [], alts := [], laidByText := true, laidKinds := [.data], laidTests := true, laidLooks := .later }
def CrcOneCardSaid : Prop := Claim7.holds Tryd.pinned (.plain (OpenSpec.ofChange crcOneSpec)) crcOneCard

/-- THE TIED CARD OF 'clewlaw03.CrcLinear'. -/
def crcLinearCard : Claim7 := { stood := { row := crcLinearRow, standIns := [], harness := (true, "ef90c37e874e85b114c7ed1a5b5637265326bc22f3969b41cf0f2e32091af084"), looks := false }, kinds := [], alts := [], laidByText := true, laidKinds := [.data], laidTests := true, laidLooks := .later }
def CrcLinearCardSaid : Prop := Claim7.holds Tryd.pinned (.plain (OpenSpec.ofChange crcLinearSpec)) crcLinearCard

/-- THE TIED CARD OF 'clewlaw03.CrcZero'. -/
def crcZeroCard : Claim7 := { stood := { row := crcZeroRow, standIns := [], harness := (true, "ef90c37e874e85b114c7ed1a5b5637265326bc22f3969b41cf0f2e32091af084"), looks := false }, kinds := [], alts := [], laidByText := true, laidKinds := [.data], laidTests := true, laidLooks := .later }
def CrcZeroCardSaid : Prop := Claim7.holds Tryd.pinned (.plain (OpenSpec.ofChange crcZeroSpec)) crcZeroCard

/-- THE TIED CARD OF 'clewlaw03.CrcFew'. -/
def crcFewCard : Claim7 := { stood := { row := crcFewRow, standIns := [], harness := (true, "ef90c37e874e85b114c7ed1a5b5637265326bc22f3969b41cf0f2e32091af084"), looks := false }, kinds := [], alts := [], laidByText := true, laidKinds := [.data], laidTests := true, laidLooks := .later }
def CrcFewCardSaid : Prop := Claim7.holds Tryd.pinned (.plain (OpenSpec.ofChange crcFewSpec)) crcFewCard

/-- THE SECOND FORM's CARD OF 'clewlaw03.CrcSums'. -/
def crcSumsUptoCard : Claim7 := { stood := { row := crcSumsUptoRow, standIns := [], harness := (true, "ef90c37e874e85b114c7ed1a5b5637265326bc22f3969b41cf0f2e32091af084"), looks := false }, kinds := [], alts := [], laidByText := true, laidKinds := [.data], laidTests := true, laidLooks := .later }
def CrcSumsUptoCardSaid : Prop := Claim7.holds Tryd.pinned (.plain (OpenSpec.upto crcSumsSpec)) crcSumsUptoCard

/-- THE SECOND FORM's CARD OF 'clewlaw03.CrcParts'. -/
def crcPartsUptoCard : Claim7 := { stood := { row := crcPartsUptoRow, standIns := [], harness := (true, "ef90c37e874e85b114c7ed1a5b5637265326bc22f3969b41cf0f2e32091af084"), looks := false }, kinds := [], alts := [], laidByText := true, laidKinds := [.data], laidTests := true, laidLooks := .later }
def CrcPartsUptoCardSaid : Prop := Claim7.holds Tryd.pinned (.plain (OpenSpec.upto crcPartsSpec)) crcPartsUptoCard

/-- THE SECOND FORM's CARD OF 'clewlaw03.CrcOne'. -/
def crcOneUptoCard : Claim7 := { stood := { row := crcOneUptoRow, standIns := [], harness := (true, "ef90c37e874e85b114c7ed1a5b5637265326bc22f3969b41cf0f2e32091af084"), looks := false }, kinds := [], alts := [], laidByText := true, laidKinds := [.data], laidTests := true, laidLooks := .later }
def CrcOneUptoCardSaid : Prop := Claim7.holds Tryd.pinned (.plain (OpenSpec.upto crcOneSpec)) crcOneUptoCard

/-- THE SECOND FORM's CARD OF 'clewlaw03.CrcLinear'. -/
def crcLinearUptoCard : Claim7 := { stood := { row := crcLinearUptoRow, standIns := [], harness := (true, "ef90c37e874e85b114c7ed1a5b5637265326bc22f3969b41cf0f2e32091af084"), looks := false }, kinds := [], alts := [], laidByText := true, laidKinds := [.data], laidTests := true, laidLooks := .later }
def CrcLinearUptoCardSaid : Prop := Claim7.holds Tryd.pinned (.plain (OpenSpec.upto crcLinearSpec)) crcLinearUptoCard

/-- THE SECOND FORM's CARD OF 'clewlaw03.CrcZero'. -/
def crcZeroUptoCard : Claim7 := { stood := { row := crcZeroUptoRow, standIns := [], harness := (true, "ef90c37e874e85b114c7ed1a5b5637265326bc22f3969b41cf0f2e32091af084"), looks := false }, kinds := [], alts := [], laidByText := true, laidKinds := [.data], laidTests := true, laidLooks := .later }
def CrcZeroUptoCardSaid : Prop := Claim7.holds Tryd.pinned (.plain (OpenSpec.upto crcZeroSpec)) crcZeroUptoCard

/-- THE SECOND FORM's CARD OF 'clewlaw03.CrcFew'. -/
def crcFewUptoCard : Claim7 := { stood := { row := crcFewUptoRow, standIns := [], harness := (true, "ef90c37e874e85b114c7ed1a5b5637265326bc22f3969b41cf0f2e32091af084"), looks := false }, kinds := [], alts := [], laidByText := true, laidKinds := [.data], laidTests := true, laidLooks := .later }
def CrcFewUptoCardSaid : Prop := Claim7.holds Tryd.pinned (.plain (OpenSpec.upto crcFewSpec)) crcFewUptoCard
end Rows
end Go.Proofs.YtdpdokjoinhjpaaDoor
