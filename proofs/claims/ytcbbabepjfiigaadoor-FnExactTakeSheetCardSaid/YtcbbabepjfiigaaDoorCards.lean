/-
  DERIVED. GIVEN WITH THE SEED: THE CARDS: each row of YtcbbabepjfiigaaDoorRows.lean that lists a variable, with what it lists TIED to the program's text (the seventh form; the later family's looks); each row that meets fmt, with fmt's text TOLD by the authors' own Lean function (tested against real Go, not proved from fmt's source: count such statements apart). THE CARD IS WHAT COUNTS. Prove the row's statement (the work); the ties are given (YtcbbabepjfiigaaDoorTie.lean); close each card by the builder's one call (the guide's Derived/Test/ToyasCard.lean, 'card_holds'). Laid BY PROGRAM, IN A SANDBOX (cutbox-door.mjs). By AI agents, Wed Nov 11 2026. No macro, syntax, notation, axiom, sorry.
-/
import Derived.Test.YtcbbabepjfiigaaDoorRows
import GoSem.ClaimSeven
namespace Go.Proofs.YtcbbabepjfiigaaDoor
namespace Rows

/-- THE TIED CARD OF 'laws.FnExactFoldSheet'. -/
def fnExactFoldSheetCard : Claim7 := { stood := { row := fnExactFoldSheetRow, standIns := [], harness := (true, "ed5fff400b2371b81df71f3d6656bdb5e630cbef3fc18a0345b9afab37e88590"), looks := true }, kinds := [], alts := [], laidByText := true, laidKinds := [.sentinel, .sentinel, .sentinel, .sentinel, .sentinel, .sentinel, .sentinel], laidTests := true, laidLooks := .later }
def FnExactFoldSheetCardSaid : Prop := Claim7.holds Tryd.pinned (.plain (OpenSpec.ofChange fnExactFoldSheetSpec)) fnExactFoldSheetCard

/-- THE TIED CARD OF 'laws.FnExactFoldAll'. -/
def fnExactFoldAllCard : Claim7 := { stood := { row := fnExactFoldAllRow, standIns := [], harness := (true, "ed5fff400b2371b81df71f3d6656bdb5e630cbef3fc18a0345b9afab37e88590"), looks := true }, kinds := [], alts := [], laidByText := true, laidKinds := [.sentinel, .sentinel, .sentinel, .sentinel, .sentinel, .sentinel, .sentinel], laidTests := true, laidLooks := .later }
def FnExactFoldAllCardSaid : Prop := Claim7.holds Tryd.pinned (.plain (OpenSpec.ofChange fnExactFoldAllSpec)) fnExactFoldAllCard

/-- THE TIED CARD OF 'laws.FnExactFoldsPossible'. -/
def fnExactFoldsPossibleCard : Claim7 := { stood := { row := fnExactFoldsPossibleRow, standIns := [], harness := (true, "ed5fff400b2371b81df71f3d6656bdb5e630cbef3fc18a0345b9afab37e88590"), looks := true }, kinds := [], alts := [], laidByText := true, laidKinds := [.sentinel, .sentinel, .sentinel, .sentinel, .sentinel, .sentinel, .sentinel], laidTests := true, laidLooks := .later }
def FnExactFoldsPossibleCardSaid : Prop := Claim7.holds Tryd.pinned (.plain (OpenSpec.ofChange fnExactFoldsPossibleSpec)) fnExactFoldsPossibleCard

/-- THE TIED CARD OF 'laws.FnExactAreaOf'. -/
def fnExactAreaOfCard : Claim7 := { stood := { row := fnExactAreaOfRow, standIns := [], harness := (true, "ed5fff400b2371b81df71f3d6656bdb5e630cbef3fc18a0345b9afab37e88590"), looks := true }, kinds := [], alts := [], laidByText := true, laidKinds := [.sentinel, .sentinel, .sentinel, .sentinel, .sentinel, .sentinel, .sentinel], laidTests := true, laidLooks := .later }
def FnExactAreaOfCardSaid : Prop := Claim7.holds Tryd.pinned (.plain (OpenSpec.ofChange fnExactAreaOfSpec)) fnExactAreaOfCard

/-- THE TIED CARD OF 'laws.FnExactUnfoldSheet'. -/
def fnExactUnfoldSheetCard : Claim7 := { stood := { row := fnExactUnfoldSheetRow, standIns := [], harness := (true, "ed5fff400b2371b81df71f3d6656bdb5e630cbef3fc18a0345b9afab37e88590"), looks := true }, kinds := [], alts := [], laidByText := true, laidKinds := [.sentinel, .sentinel, .sentinel, .sentinel, .sentinel, .sentinel, .sentinel], laidTests := true, laidLooks := .later }
def FnExactUnfoldSheetCardSaid : Prop := Claim7.holds Tryd.pinned (.plain (OpenSpec.ofChange fnExactUnfoldSheetSpec)) fnExactUnfoldSheetCard

/-- THE TIED CARD OF 'laws.FnExactEdgesAfter'. -/
def fnExactEdgesAfterCard : Claim7 := { stood := { row := fnExactEdgesAfterRow, standIns := [], harness := (true, "ed5fff400b2371b81df71f3d6656bdb5e630cbef3fc18a0345b9afab37e88590"), looks := true }, kinds := [], alts := [], laidByText := true, laidKinds := [.sentinel, .sentinel, .sentinel, .sentinel, .sentinel, .sentinel, .sentinel], laidTests := true, laidLooks := .later }
def FnExactEdgesAfterCardSaid : Prop := Claim7.holds Tryd.pinned (.plain (OpenSpec.ofChange fnExactEdgesAfterSpec)) fnExactEdgesAfterCard

/-- THE TIED CARD OF 'laws.FnExactFitsShelf'. -/
def fnExactFitsShelfCard : Claim7 := { stood := { row := fnExactFitsShelfRow, standIns := [], harness := (true, "ed5fff400b2371b81df71f3d6656bdb5e630cbef3fc18a0345b9afab37e88590"), looks := true }, kinds := [], alts := [], laidByText := true, laidKinds := [.sentinel, .sentinel, .sentinel, .sentinel, .sentinel, .sentinel, .sentinel], laidTests := true, laidLooks := .later }
def FnExactFitsShelfCardSaid : Prop := Claim7.holds Tryd.pinned (.plain (OpenSpec.ofChange fnExactFitsShelfSpec)) fnExactFitsShelfCard

/-- THE TIED CARD OF 'laws.FnExactSameFolded'. -/
def fnExactSameFoldedCard : Claim7 := { stood := { row := fnExactSameFoldedRow, standIns := [], harness := (true, "ed5fff400b2371b81df71f3d6656bdb5e630cbef3fc18a0345b9afab37e88590"), looks := true }, kinds := [], alts := [], laidByText := true, laidKinds := [.sentinel, .sentinel, .sentinel, .sentinel, .sentinel, .sentinel, .sentinel], laidTests := true, laidLooks := .later }
def FnExactSameFoldedCardSaid : Prop := Claim7.holds Tryd.pinned (.plain (OpenSpec.ofChange fnExactSameFoldedSpec)) fnExactSameFoldedCard

/-- THE TIED CARD OF 'laws.FnExactValidCupboard'. -/
def fnExactValidCupboardCard : Claim7 := { stood := { row := fnExactValidCupboardRow, standIns := [], harness := (true, "ed5fff400b2371b81df71f3d6656bdb5e630cbef3fc18a0345b9afab37e88590"), looks := true }, kinds := [], alts := [], laidByText := true, laidKinds := [.sentinel], laidTests := true, laidLooks := .later }
def FnExactValidCupboardCardSaid : Prop := Claim7.holds Tryd.pinned (.plain (OpenSpec.ofChange fnExactValidCupboardSpec)) fnExactValidCupboardCard

/-- THE TIED CARD OF 'laws.FnExactFindSheet'. -/
def fnExactFindSheetCard : Claim7 := { stood := { row := fnExactFindSheetRow, standIns := [], harness := (true, "ed5fff400b2371b81df71f3d6656bdb5e630cbef3fc18a0345b9afab37e88590"), looks := true }, kinds := [], alts := [], laidByText := true, laidKinds := [.sentinel, .sentinel, .sentinel, .sentinel, .sentinel, .sentinel, .sentinel], laidTests := true, laidLooks := .later }
def FnExactFindSheetCardSaid : Prop := Claim7.holds Tryd.pinned (.plain (OpenSpec.ofChange fnExactFindSheetSpec)) fnExactFindSheetCard

/-- THE TIED CARD OF 'laws.FnExactTakeSheet'. -/
def fnExactTakeSheetCard : Claim7 := { stood := { row := fnExactTakeSheetRow, standIns := [], harness := (true, "ed5fff400b2371b81df71f3d6656bdb5e630cbef3fc18a0345b9afab37e88590"), looks := true }, kinds := [], alts := [], laidByText := true, laidKinds := [.sentinel, .sentinel, .sentinel, .sentinel, .sentinel, .sentinel, .sentinel], laidTests := true, laidLooks := .later }
def FnExactTakeSheetCardSaid : Prop := Claim7.holds Tryd.pinned (.plain (OpenSpec.ofChange fnExactTakeSheetSpec)) fnExactTakeSheetCard

/-- THE SECOND FORM's CARD OF 'laws.FnExactFoldSheet'. -/
def fnExactFoldSheetUptoCard : Claim7 := { stood := { row := fnExactFoldSheetUptoRow, standIns := [], harness := (true, "ed5fff400b2371b81df71f3d6656bdb5e630cbef3fc18a0345b9afab37e88590"), looks := true }, kinds := [], alts := [], laidByText := true, laidKinds := [.sentinel, .sentinel, .sentinel, .sentinel, .sentinel, .sentinel, .sentinel], laidTests := true, laidLooks := .later }
def FnExactFoldSheetUptoCardSaid : Prop := Claim7.holds Tryd.pinned (.plain (OpenSpec.upto fnExactFoldSheetSpec)) fnExactFoldSheetUptoCard

/-- THE SECOND FORM's CARD OF 'laws.FnExactFoldAll'. -/
def fnExactFoldAllUptoCard : Claim7 := { stood := { row := fnExactFoldAllUptoRow, standIns := [], harness := (true, "ed5fff400b2371b81df71f3d6656bdb5e630cbef3fc18a0345b9afab37e88590"), looks := true }, kinds := [], alts := [], laidByText := true, laidKinds := [.sentinel, .sentinel, .sentinel, .sentinel, .sentinel, .sentinel, .sentinel], laidTests := true, laidLooks := .later }
def FnExactFoldAllUptoCardSaid : Prop := Claim7.holds Tryd.pinned (.plain (OpenSpec.upto fnExactFoldAllSpec)) fnExactFoldAllUptoCard

/-- THE SECOND FORM's CARD OF 'laws.FnExactFoldsPossible'. -/
def fnExactFoldsPossibleUptoCard : Claim7 := { stood := { row := fnExactFoldsPossibleUptoRow, standIns := [], harness := (true, "ed5fff400b2371b81df71f3d6656bdb5e630cbef3fc18a0345b9afab37e88590"), looks := true }, kinds := [], alts := [], laidByText := true, laidKinds := [.sentinel, .sentinel, .sentinel, .sentinel, .sentinel, .sentinel, .sentinel], laidTests := true, laidLooks := .later }
def FnExactFoldsPossibleUptoCardSaid : Prop := Claim7.holds Tryd.pinned (.plain (OpenSpec.upto fnExactFoldsPossibleSpec)) fnExactFoldsPossibleUptoCard

/-- THE SECOND FORM's CARD OF 'laws.FnExactAreaOf'. -/
def fnExactAreaOfUptoCard : Claim7 := { stood := { row := fnExactAreaOfUptoRow, standIns := [], harness := (true, "ed5fff400b2371b81df71f3d6656bdb5e630cbef3fc18a0345b9afab37e88590"), looks := true }, kinds := [], alts := [], laidByText := true, laidKinds := [.sentinel, .sentinel, .sentinel, .sentinel, .sentinel, .sentinel, .sentinel], laidTests := true, laidLooks := .later }
def FnExactAreaOfUptoCardSaid : Prop := Claim7.holds Tryd.pinned (.plain (OpenSpec.upto fnExactAreaOfSpec)) fnExactAreaOfUptoCard

/-- THE SECOND FORM's CARD OF 'laws.FnExactUnfoldSheet'. -/
def fnExactUnfoldSheetUptoCard : Claim7 := { stood := { row := fnExactUnfoldSheetUptoRow, standIns := [], harness := (true, "ed5fff400b2371b81df71f3d6656bdb5e630cbef3fc18a0345b9afab37e88590"), looks := true }, kinds := [], alts := [], laidByText := true, laidKinds := [.sentinel, .sentinel, .sentinel, .sentinel, .sentinel, .sentinel, .sentinel], laidTests := true, laidLooks := .later }
def FnExactUnfoldSheetUptoCardSaid : Prop := Claim7.holds Tryd.pinned (.plain (OpenSpec.upto fnExactUnfoldSheetSpec)) fnExactUnfoldSheetUptoCard

/-- THE SECOND FORM's CARD OF 'laws.FnExactEdgesAfter'. -/
def fnExactEdgesAfterUptoCard : Claim7 := { stood := { row := fnExactEdgesAfterUptoRow, standIns := [], harness := (true, "ed5fff400b2371b81df71f3d6656bdb5e630cbef3fc18a0345b9afab37e88590"), looks := true }, kinds := [], alts := [], laidByText := true, laidKinds := [.sentinel, .sentinel, .sentinel, .sentinel, .sentinel, .sentinel, .sentinel], laidTests := true, laidLooks := .later }
def FnExactEdgesAfterUptoCardSaid : Prop := Claim7.holds Tryd.pinned (.plain (OpenSpec.upto fnExactEdgesAfterSpec)) fnExactEdgesAfterUptoCard

/-- THE SECOND FORM's CARD OF 'laws.FnExactFitsShelf'. -/
def fnExactFitsShelfUptoCard : Claim7 := { stood := { row := fnExactFitsShelfUptoRow, standIns := [], harness := (true, "ed5fff400b2371b81df71f3d6656bdb5e630cbef3fc18a0345b9afab37e88590"), looks := true }, kinds := [], alts := [], laidByText := true, laidKinds := [.sentinel, .sentinel, .sentinel, .sentinel, .sentinel, .sentinel, .sentinel], laidTests := true, laidLooks := .later }
def FnExactFitsShelfUptoCardSaid : Prop := Claim7.holds Tryd.pinned (.plain (OpenSpec.upto fnExactFitsShelfSpec)) fnExactFitsShelfUptoCard

/-- THE SECOND FORM's CARD OF 'laws.FnExactSameFolded'. -/
def fnExactSameFoldedUptoCard : Claim7 := { stood := { row := fnExactSameFoldedUptoRow, standIns := [], harness := (true, "ed5fff400b2371b81df71f3d6656bdb5e630cbef3fc18a0345b9afab37e88590"), looks := true }, kinds := [], alts := [], laidByText := true, laidKinds := [.sentinel, .sentinel, .sentinel, .sentinel, .sentinel, .sentinel, .sentinel], laidTests := true, laidLooks := .later }
def FnExactSameFoldedUptoCardSaid : Prop := Claim7.holds Tryd.pinned (.plain (OpenSpec.upto fnExactSameFoldedSpec)) fnExactSameFoldedUptoCard

/-- THE SECOND FORM's CARD OF 'laws.FnExactValidCupboard'. -/
def fnExactValidCupboardUptoCard : Claim7 := { stood := { row := fnExactValidCupboardUptoRow, standIns := [], harness := (true, "ed5fff400b2371b81df71f3d6656bdb5e630cbef3fc18a0345b9afab37e88590"), looks := true }, kinds := [], alts := [], laidByText := true, laidKinds := [.sentinel], laidTests := true, laidLooks := .later }
def FnExactValidCupboardUptoCardSaid : Prop := Claim7.holds Tryd.pinned (.plain (OpenSpec.upto fnExactValidCupboardSpec)) fnExactValidCupboardUptoCard

/-- THE SECOND FORM's CARD OF 'laws.FnExactFindSheet'. -/
def fnExactFindSheetUptoCard : Claim7 := { stood := { row := fnExactFindSheetUptoRow, standIns := [], harness := (true, "ed5fff400b2371b81df71f3d6656bdb5e630cbef3fc18a0345b9afab37e88590"), looks := true }, kinds := [], alts := [], laidByText := true, laidKinds := [.sentinel, .sentinel, .sentinel, .sentinel, .sentinel, .sentinel, .sentinel], laidTests := true, laidLooks := .later }
def FnExactFindSheetUptoCardSaid : Prop := Claim7.holds Tryd.pinned (.plain (OpenSpec.upto fnExactFindSheetSpec)) fnExactFindSheetUptoCard

/-- THE SECOND FORM's CARD OF 'laws.FnExactTakeSheet'. -/
def fnExactTakeSheetUptoCard : Claim7 := { stood := { row := fnExactTakeSheetUptoRow, standIns := [], harness := (true, "ed5fff400b2371b81df71f3d6656bdb5e630cbef3fc18a0345b9afab37e88590"), looks := true }, kinds := [], alts := [], laidByText := true, laidKinds := [.sentinel, .sentinel, .sentinel, .sentinel, .sentinel, .sentinel, .sentinel], laidTests := true, laidLooks := .later }
def FnExactTakeSheetUptoCardSaid : Prop := Claim7.holds Tryd.pinned (.plain (OpenSpec.upto fnExactTakeSheetSpec)) fnExactTakeSheetUptoCard
end Rows
end Go.Proofs.YtcbbabepjfiigaaDoor
