/-
  DERIVED. GIVEN WITH THE SEED: THE CARDS: each row of YtjfimmfnhlimkaaDoorRows.lean that lists a variable, with what it lists TIED to the program's text (the seventh form; the later family's looks); each row that meets fmt, with fmt's text TOLD by the authors' own Lean function (tested against real Go, not proved from fmt's source: count such statements apart). THE CARD IS WHAT COUNTS. Prove the row's statement (the work); the ties are given (YtjfimmfnhlimkaaDoorTie.lean); close each card by the builder's one call (the guide's Derived/Test/ToyasCard.lean, 'card_holds'). Laid BY PROGRAM, IN A SANDBOX (cutbox-door.mjs). By AI agents, Wed Nov 11 2026. No macro, syntax, notation, axiom, sorry.
-/
import Derived.Test.YtjfimmfnhlimkaaDoorRows
import GoSem.ClaimSeven
namespace Go.Proofs.YtjfimmfnhlimkaaDoor
namespace Rows

/-- THE TIED CARD OF 'laws.FnExactPiecesText'. -/
def fnExactPiecesTextCard : Claim7 := { stood := { row := fnExactPiecesTextRow, standIns := [], harness := (true, "41d7c18e3c0a3dd404c639b478abade04e6dc57a0b79fe04d30cbefd8e79a30f"), looks := true }, kinds := [], alts := [], laidByText := true, laidKinds := [.data, .data, .data, .sentinel, .sentinel], laidTests := true, laidLooks := .later }
def FnExactPiecesTextCardSaid : Prop := Claim7.holds Tryd.pinned (.plain (OpenSpec.ofChange fnExactPiecesTextSpec)) fnExactPiecesTextCard

/-- THE TIED CARD OF 'laws.FnExactReadPieces'. -/
def fnExactReadPiecesCard : Claim7 := { stood := { row := fnExactReadPiecesRow, standIns := [], harness := (true, "41d7c18e3c0a3dd404c639b478abade04e6dc57a0b79fe04d30cbefd8e79a30f"), looks := true }, kinds := [], alts := [], laidByText := true, laidKinds := [.data, .data, .data, .data, .sentinel, .sentinel, .sentinel, .sentinel, .sentinel, .sentinel, .sentinel, .sentinel, .sentinel, .pinned], laidTests := true, laidLooks := .later }
def FnExactReadPiecesCardSaid : Prop := Claim7.holds Tryd.pinned (.plain (OpenSpec.ofChange fnExactReadPiecesSpec)) fnExactReadPiecesCard

/-- THE TIED CARD OF 'laws.FnExactDayText'. -/
def fnExactDayTextCard : Claim7 := { stood := { row := fnExactDayTextRow, standIns := [], harness := (true, "41d7c18e3c0a3dd404c639b478abade04e6dc57a0b79fe04d30cbefd8e79a30f"), looks := true }, kinds := [], alts := [], laidByText := true, laidKinds := [.data, .data, .data], laidTests := true, laidLooks := .later }
def FnExactDayTextCardSaid : Prop := Claim7.holds Tryd.pinned (.plain (OpenSpec.ofChange fnExactDayTextSpec)) fnExactDayTextCard

/-- THE TIED CARD OF 'laws.FnExactReadDay'. -/
def fnExactReadDayCard : Claim7 := { stood := { row := fnExactReadDayRow, standIns := [], harness := (true, "41d7c18e3c0a3dd404c639b478abade04e6dc57a0b79fe04d30cbefd8e79a30f"), looks := true }, kinds := [], alts := [], laidByText := true, laidKinds := [.data, .data, .data, .data, .sentinel, .sentinel, .sentinel, .sentinel, .sentinel, .sentinel, .sentinel, .sentinel, .sentinel, .pinned], laidTests := true, laidLooks := .later }
def FnExactReadDayCardSaid : Prop := Claim7.holds Tryd.pinned (.plain (OpenSpec.ofChange fnExactReadDaySpec)) fnExactReadDayCard

/-- THE TIED CARD OF 'laws.FnExactGarmentsText'. -/
def fnExactGarmentsTextCard : Claim7 := { stood := { row := fnExactGarmentsTextRow, standIns := [], harness := (true, "41d7c18e3c0a3dd404c639b478abade04e6dc57a0b79fe04d30cbefd8e79a30f"), looks := true }, kinds := [], alts := [], laidByText := true, laidKinds := [.data, .data, .data, .sentinel, .sentinel], laidTests := true, laidLooks := .later }
def FnExactGarmentsTextCardSaid : Prop := Claim7.holds Tryd.pinned (.plain (OpenSpec.ofChange fnExactGarmentsTextSpec)) fnExactGarmentsTextCard

/-- THE TIED CARD OF 'laws.FnExactReadGarments'. -/
def fnExactReadGarmentsCard : Claim7 := { stood := { row := fnExactReadGarmentsRow, standIns := [], harness := (true, "41d7c18e3c0a3dd404c639b478abade04e6dc57a0b79fe04d30cbefd8e79a30f"), looks := true }, kinds := [], alts := [], laidByText := true, laidKinds := [.data, .data, .data, .sentinel, .sentinel, .sentinel, .sentinel, .sentinel, .sentinel, .sentinel, .sentinel, .sentinel], laidTests := true, laidLooks := .later }
def FnExactReadGarmentsCardSaid : Prop := Claim7.holds Tryd.pinned (.plain (OpenSpec.ofChange fnExactReadGarmentsSpec)) fnExactReadGarmentsCard

/-- THE TIED CARD OF 'laws.FnExactClothsText'. -/
def fnExactClothsTextCard : Claim7 := { stood := { row := fnExactClothsTextRow, standIns := [], harness := (true, "41d7c18e3c0a3dd404c639b478abade04e6dc57a0b79fe04d30cbefd8e79a30f"), looks := true }, kinds := [], alts := [], laidByText := true, laidKinds := [.data, .data, .data, .sentinel, .sentinel], laidTests := true, laidLooks := .later }
def FnExactClothsTextCardSaid : Prop := Claim7.holds Tryd.pinned (.plain (OpenSpec.ofChange fnExactClothsTextSpec)) fnExactClothsTextCard

/-- THE TIED CARD OF 'laws.FnExactReadCloths'. -/
def fnExactReadClothsCard : Claim7 := { stood := { row := fnExactReadClothsRow, standIns := [], harness := (true, "41d7c18e3c0a3dd404c639b478abade04e6dc57a0b79fe04d30cbefd8e79a30f"), looks := true }, kinds := [], alts := [], laidByText := true, laidKinds := [.data, .data, .data, .data, .sentinel, .sentinel, .sentinel, .sentinel, .sentinel, .sentinel, .sentinel, .sentinel, .sentinel, .pinned], laidTests := true, laidLooks := .later }
def FnExactReadClothsCardSaid : Prop := Claim7.holds Tryd.pinned (.plain (OpenSpec.ofChange fnExactReadClothsSpec)) fnExactReadClothsCard

/-- THE TIED CARD OF 'laws.FnExactHouseText'. -/
def fnExactHouseTextCard : Claim7 := { stood := { row := fnExactHouseTextRow, standIns := [], harness := (true, "41d7c18e3c0a3dd404c639b478abade04e6dc57a0b79fe04d30cbefd8e79a30f"), looks := true }, kinds := [], alts := [], laidByText := true, laidKinds := [.data, .data, .data, .sentinel], laidTests := true, laidLooks := .later }
def FnExactHouseTextCardSaid : Prop := Claim7.holds Tryd.pinned (.plain (OpenSpec.ofChange fnExactHouseTextSpec)) fnExactHouseTextCard

/-- THE TIED CARD OF 'laws.FnExactCupboardText'. -/
def fnExactCupboardTextCard : Claim7 := { stood := { row := fnExactCupboardTextRow, standIns := [], harness := (true, "41d7c18e3c0a3dd404c639b478abade04e6dc57a0b79fe04d30cbefd8e79a30f"), looks := true }, kinds := [], alts := [], laidByText := true, laidKinds := [.data, .data, .data, .sentinel], laidTests := true, laidLooks := .later }
def FnExactCupboardTextCardSaid : Prop := Claim7.holds Tryd.pinned (.plain (OpenSpec.ofChange fnExactCupboardTextSpec)) fnExactCupboardTextCard

/-- THE TIED CARD OF 'laws.FnExactReadCupboard'. -/
def fnExactReadCupboardCard : Claim7 := { stood := { row := fnExactReadCupboardRow, standIns := [], harness := (true, "41d7c18e3c0a3dd404c639b478abade04e6dc57a0b79fe04d30cbefd8e79a30f"), looks := true }, kinds := [], alts := [], laidByText := true, laidKinds := [.data, .data, .data, .data, .sentinel, .sentinel, .sentinel, .sentinel, .sentinel, .sentinel, .sentinel, .sentinel, .sentinel, .pinned], laidTests := true, laidLooks := .later }
def FnExactReadCupboardCardSaid : Prop := Claim7.holds Tryd.pinned (.plain (OpenSpec.ofChange fnExactReadCupboardSpec)) fnExactReadCupboardCard

/-- THE SECOND FORM's CARD OF 'laws.FnExactPiecesText'. -/
def fnExactPiecesTextUptoCard : Claim7 := { stood := { row := fnExactPiecesTextUptoRow, standIns := [], harness := (true, "41d7c18e3c0a3dd404c639b478abade04e6dc57a0b79fe04d30cbefd8e79a30f"), looks := true }, kinds := [], alts := [], laidByText := true, laidKinds := [.data, .data, .data, .sentinel, .sentinel], laidTests := true, laidLooks := .later }
def FnExactPiecesTextUptoCardSaid : Prop := Claim7.holds Tryd.pinned (.plain (OpenSpec.upto fnExactPiecesTextSpec)) fnExactPiecesTextUptoCard

/-- THE SECOND FORM's CARD OF 'laws.FnExactReadPieces'. -/
def fnExactReadPiecesUptoCard : Claim7 := { stood := { row := fnExactReadPiecesUptoRow, standIns := [], harness := (true, "41d7c18e3c0a3dd404c639b478abade04e6dc57a0b79fe04d30cbefd8e79a30f"), looks := true }, kinds := [], alts := [], laidByText := true, laidKinds := [.data, .data, .data, .data, .sentinel, .sentinel, .sentinel, .sentinel, .sentinel, .sentinel, .sentinel, .sentinel, .sentinel, .pinned], laidTests := true, laidLooks := .later }
def FnExactReadPiecesUptoCardSaid : Prop := Claim7.holds Tryd.pinned (.plain (OpenSpec.upto fnExactReadPiecesSpec)) fnExactReadPiecesUptoCard

/-- THE SECOND FORM's CARD OF 'laws.FnExactDayText'. -/
def fnExactDayTextUptoCard : Claim7 := { stood := { row := fnExactDayTextUptoRow, standIns := [], harness := (true, "41d7c18e3c0a3dd404c639b478abade04e6dc57a0b79fe04d30cbefd8e79a30f"), looks := true }, kinds := [], alts := [], laidByText := true, laidKinds := [.data, .data, .data], laidTests := true, laidLooks := .later }
def FnExactDayTextUptoCardSaid : Prop := Claim7.holds Tryd.pinned (.plain (OpenSpec.upto fnExactDayTextSpec)) fnExactDayTextUptoCard

/-- THE SECOND FORM's CARD OF 'laws.FnExactReadDay'. -/
def fnExactReadDayUptoCard : Claim7 := { stood := { row := fnExactReadDayUptoRow, standIns := [], harness := (true, "41d7c18e3c0a3dd404c639b478abade04e6dc57a0b79fe04d30cbefd8e79a30f"), looks := true }, kinds := [], alts := [], laidByText := true, laidKinds := [.data, .data, .data, .data, .sentinel, .sentinel, .sentinel, .sentinel, .sentinel, .sentinel, .sentinel, .sentinel, .sentinel, .pinned], laidTests := true, laidLooks := .later }
def FnExactReadDayUptoCardSaid : Prop := Claim7.holds Tryd.pinned (.plain (OpenSpec.upto fnExactReadDaySpec)) fnExactReadDayUptoCard

/-- THE SECOND FORM's CARD OF 'laws.FnExactGarmentsText'. -/
def fnExactGarmentsTextUptoCard : Claim7 := { stood := { row := fnExactGarmentsTextUptoRow, standIns := [], harness := (true, "41d7c18e3c0a3dd404c639b478abade04e6dc57a0b79fe04d30cbefd8e79a30f"), looks := true }, kinds := [], alts := [], laidByText := true, laidKinds := [.data, .data, .data, .sentinel, .sentinel], laidTests := true, laidLooks := .later }
def FnExactGarmentsTextUptoCardSaid : Prop := Claim7.holds Tryd.pinned (.plain (OpenSpec.upto fnExactGarmentsTextSpec)) fnExactGarmentsTextUptoCard

/-- THE SECOND FORM's CARD OF 'laws.FnExactReadGarments'. -/
def fnExactReadGarmentsUptoCard : Claim7 := { stood := { row := fnExactReadGarmentsUptoRow, standIns := [], harness := (true, "41d7c18e3c0a3dd404c639b478abade04e6dc57a0b79fe04d30cbefd8e79a30f"), looks := true }, kinds := [], alts := [], laidByText := true, laidKinds := [.data, .data, .data, .sentinel, .sentinel, .sentinel, .sentinel, .sentinel, .sentinel, .sentinel, .sentinel, .sentinel], laidTests := true, laidLooks := .later }
def FnExactReadGarmentsUptoCardSaid : Prop := Claim7.holds Tryd.pinned (.plain (OpenSpec.upto fnExactReadGarmentsSpec)) fnExactReadGarmentsUptoCard

/-- THE SECOND FORM's CARD OF 'laws.FnExactClothsText'. -/
def fnExactClothsTextUptoCard : Claim7 := { stood := { row := fnExactClothsTextUptoRow, standIns := [], harness := (true, "41d7c18e3c0a3dd404c639b478abade04e6dc57a0b79fe04d30cbefd8e79a30f"), looks := true }, kinds := [], alts := [], laidByText := true, laidKinds := [.data, .data, .data, .sentinel, .sentinel], laidTests := true, laidLooks := .later }
def FnExactClothsTextUptoCardSaid : Prop := Claim7.holds Tryd.pinned (.plain (OpenSpec.upto fnExactClothsTextSpec)) fnExactClothsTextUptoCard

/-- THE SECOND FORM's CARD OF 'laws.FnExactReadCloths'. -/
def fnExactReadClothsUptoCard : Claim7 := { stood := { row := fnExactReadClothsUptoRow, standIns := [], harness := (true, "41d7c18e3c0a3dd404c639b478abade04e6dc57a0b79fe04d30cbefd8e79a30f"), looks := true }, kinds := [], alts := [], laidByText := true, laidKinds := [.data, .data, .data, .data, .sentinel, .sentinel, .sentinel, .sentinel, .sentinel, .sentinel, .sentinel, .sentinel, .sentinel, .pinned], laidTests := true, laidLooks := .later }
def FnExactReadClothsUptoCardSaid : Prop := Claim7.holds Tryd.pinned (.plain (OpenSpec.upto fnExactReadClothsSpec)) fnExactReadClothsUptoCard

/-- THE SECOND FORM's CARD OF 'laws.FnExactHouseText'. -/
def fnExactHouseTextUptoCard : Claim7 := { stood := { row := fnExactHouseTextUptoRow, standIns := [], harness := (true, "41d7c18e3c0a3dd404c639b478abade04e6dc57a0b79fe04d30cbefd8e79a30f"), looks := true }, kinds := [], alts := [], laidByText := true, laidKinds := [.data, .data, .data, .sentinel], laidTests := true, laidLooks := .later }
def FnExactHouseTextUptoCardSaid : Prop := Claim7.holds Tryd.pinned (.plain (OpenSpec.upto fnExactHouseTextSpec)) fnExactHouseTextUptoCard

/-- THE SECOND FORM's CARD OF 'laws.FnExactCupboardText'. -/
def fnExactCupboardTextUptoCard : Claim7 := { stood := { row := fnExactCupboardTextUptoRow, standIns := [], harness := (true, "41d7c18e3c0a3dd404c639b478abade04e6dc57a0b79fe04d30cbefd8e79a30f"), looks := true }, kinds := [], alts := [], laidByText := true, laidKinds := [.data, .data, .data, .sentinel], laidTests := true, laidLooks := .later }
def FnExactCupboardTextUptoCardSaid : Prop := Claim7.holds Tryd.pinned (.plain (OpenSpec.upto fnExactCupboardTextSpec)) fnExactCupboardTextUptoCard

/-- THE SECOND FORM's CARD OF 'laws.FnExactReadCupboard'. -/
def fnExactReadCupboardUptoCard : Claim7 := { stood := { row := fnExactReadCupboardUptoRow, standIns := [], harness := (true, "41d7c18e3c0a3dd404c639b478abade04e6dc57a0b79fe04d30cbefd8e79a30f"), looks := true }, kinds := [], alts := [], laidByText := true, laidKinds := [.data, .data, .data, .data, .sentinel, .sentinel, .sentinel, .sentinel, .sentinel, .sentinel, .sentinel, .sentinel, .sentinel, .pinned], laidTests := true, laidLooks := .later }
def FnExactReadCupboardUptoCardSaid : Prop := Claim7.holds Tryd.pinned (.plain (OpenSpec.upto fnExactReadCupboardSpec)) fnExactReadCupboardUptoCard
end Rows
end Go.Proofs.YtjfimmfnhlimkaaDoor
