/-
  DERIVED. GIVEN WITH THE SEED: THE CARDS: each row of YtbpipcfijbgnhaaDoorRows.lean that lists a variable, with what it lists TIED to the program's text (the seventh form; the later family's looks); each row that meets fmt, with fmt's text TOLD by the authors' own Lean function (tested against real Go, not proved from fmt's source: count such statements apart). THE CARD IS WHAT COUNTS. Prove the row's statement (the work); the ties are given (YtbpipcfijbgnhaaDoorTie.lean); close each card by the builder's one call (the guide's Derived/Test/ToyasCard.lean, 'card_holds'). Laid BY PROGRAM, IN A SANDBOX (cutbox-door.mjs). By AI agents, Wed Nov 11 2026. No macro, syntax, notation, axiom, sorry.
-/
import Derived.Test.YtbpipcfijbgnhaaDoorRows
import GoSem.ClaimSeven
namespace Go.Proofs.YtbpipcfijbgnhaaDoor
namespace Rows

/-- THE TIED CARD OF 'laws.FnExactSharePeg'. -/
def fnExactSharePegCard : Claim7 := { stood := { row := fnExactSharePegRow, standIns := [], harness := (true, "3ce9ef463a31511d3b289e458f1b8ef9a1242bec040d7282a35b8aa61953ea5e"), looks := true }, kinds := [], alts := [], laidByText := true, laidKinds := [.sentinel, .sentinel, .sentinel, .sentinel, .sentinel, .sentinel, .sentinel], laidTests := true, laidLooks := .later }
def FnExactSharePegCardSaid : Prop := Claim7.holds Tryd.pinned (.plain (OpenSpec.ofChange fnExactSharePegSpec)) fnExactSharePegCard

/-- THE TIED CARD OF 'laws.FnExactPegsFor'. -/
def fnExactPegsForCard : Claim7 := { stood := { row := fnExactPegsForRow, standIns := [], harness := (true, "3ce9ef463a31511d3b289e458f1b8ef9a1242bec040d7282a35b8aa61953ea5e"), looks := true }, kinds := [], alts := [], laidByText := true, laidKinds := [.sentinel, .sentinel, .sentinel, .sentinel, .sentinel, .sentinel, .sentinel], laidTests := true, laidLooks := .later }
def FnExactPegsForCardSaid : Prop := Claim7.holds Tryd.pinned (.plain (OpenSpec.ofChange fnExactPegsForSpec)) fnExactPegsForCard

/-- THE TIED CARD OF 'laws.FnExactWidthFor'. -/
def fnExactWidthForCard : Claim7 := { stood := { row := fnExactWidthForRow, standIns := [], harness := (true, "3ce9ef463a31511d3b289e458f1b8ef9a1242bec040d7282a35b8aa61953ea5e"), looks := true }, kinds := [], alts := [], laidByText := true, laidKinds := [.sentinel, .sentinel, .sentinel, .sentinel, .sentinel, .sentinel, .sentinel], laidTests := true, laidLooks := .later }
def FnExactWidthForCardSaid : Prop := Claim7.holds Tryd.pinned (.plain (OpenSpec.ofChange fnExactWidthForSpec)) fnExactWidthForCard

/-- THE TIED CARD OF 'laws.FnExactPlacesOf'. -/
def fnExactPlacesOfCard : Claim7 := { stood := { row := fnExactPlacesOfRow, standIns := [], harness := (true, "3ce9ef463a31511d3b289e458f1b8ef9a1242bec040d7282a35b8aa61953ea5e"), looks := true }, kinds := [], alts := [], laidByText := true, laidKinds := [.sentinel, .sentinel, .sentinel, .sentinel, .sentinel, .sentinel, .sentinel], laidTests := true, laidLooks := .later }
def FnExactPlacesOfCardSaid : Prop := Claim7.holds Tryd.pinned (.plain (OpenSpec.ofChange fnExactPlacesOfSpec)) fnExactPlacesOfCard

/-- THE TIED CARD OF 'laws.FnExactFitsLine'. -/
def fnExactFitsLineCard : Claim7 := { stood := { row := fnExactFitsLineRow, standIns := [], harness := (true, "3ce9ef463a31511d3b289e458f1b8ef9a1242bec040d7282a35b8aa61953ea5e"), looks := true }, kinds := [], alts := [], laidByText := true, laidKinds := [.sentinel, .sentinel, .sentinel, .sentinel, .sentinel, .sentinel, .sentinel], laidTests := true, laidLooks := .later }
def FnExactFitsLineCardSaid : Prop := Claim7.holds Tryd.pinned (.plain (OpenSpec.ofChange fnExactFitsLineSpec)) fnExactFitsLineCard

/-- THE TIED CARD OF 'laws.FnExactInOrder'. -/
def fnExactInOrderCard : Claim7 := { stood := { row := fnExactInOrderRow, standIns := [], harness := (true, "3ce9ef463a31511d3b289e458f1b8ef9a1242bec040d7282a35b8aa61953ea5e"), looks := true }, kinds := [], alts := [], laidByText := true, laidKinds := [.sentinel, .sentinel, .sentinel, .sentinel, .sentinel, .sentinel, .sentinel], laidTests := true, laidLooks := .later }
def FnExactInOrderCardSaid : Prop := Claim7.holds Tryd.pinned (.plain (OpenSpec.ofChange fnExactInOrderSpec)) fnExactInOrderCard

/-- THE TIED CARD OF 'laws.FnExactSagOf'. -/
def fnExactSagOfCard : Claim7 := { stood := { row := fnExactSagOfRow, standIns := [], harness := (true, "3ce9ef463a31511d3b289e458f1b8ef9a1242bec040d7282a35b8aa61953ea5e"), looks := true }, kinds := [], alts := [], laidByText := true, laidKinds := [.sentinel, .sentinel, .sentinel, .sentinel, .sentinel, .sentinel, .sentinel], laidTests := true, laidLooks := .later }
def FnExactSagOfCardSaid : Prop := Claim7.holds Tryd.pinned (.plain (OpenSpec.ofChange fnExactSagOfSpec)) fnExactSagOfCard

/-- THE TIED CARD OF 'laws.FnExactFirstLines'. -/
def fnExactFirstLinesCard : Claim7 := { stood := { row := fnExactFirstLinesRow, standIns := [], harness := (true, "3ce9ef463a31511d3b289e458f1b8ef9a1242bec040d7282a35b8aa61953ea5e"), looks := true }, kinds := [], alts := [], laidByText := true, laidKinds := [.sentinel, .sentinel, .sentinel, .sentinel, .sentinel, .sentinel, .sentinel], laidTests := true, laidLooks := .later }
def FnExactFirstLinesCardSaid : Prop := Claim7.holds Tryd.pinned (.plain (OpenSpec.ofChange fnExactFirstLinesSpec)) fnExactFirstLinesCard

/-- THE TIED CARD OF 'laws.FnExactCheckLines'. -/
def fnExactCheckLinesCard : Claim7 := { stood := { row := fnExactCheckLinesRow, standIns := [], harness := (true, "3ce9ef463a31511d3b289e458f1b8ef9a1242bec040d7282a35b8aa61953ea5e"), looks := true }, kinds := [], alts := [], laidByText := true, laidKinds := [.sentinel, .sentinel, .sentinel, .sentinel, .sentinel, .sentinel, .sentinel], laidTests := true, laidLooks := .later }
def FnExactCheckLinesCardSaid : Prop := Claim7.holds Tryd.pinned (.plain (OpenSpec.ofChange fnExactCheckLinesSpec)) fnExactCheckLinesCard

/-- THE TIED CARD OF 'laws.FnExactWhichLine'. -/
def fnExactWhichLineCard : Claim7 := { stood := { row := fnExactWhichLineRow, standIns := [], harness := (true, "3ce9ef463a31511d3b289e458f1b8ef9a1242bec040d7282a35b8aa61953ea5e"), looks := true }, kinds := [], alts := [], laidByText := true, laidKinds := [.sentinel, .sentinel, .sentinel, .sentinel, .sentinel, .sentinel, .sentinel], laidTests := true, laidLooks := .later }
def FnExactWhichLineCardSaid : Prop := Claim7.holds Tryd.pinned (.plain (OpenSpec.ofChange fnExactWhichLineSpec)) fnExactWhichLineCard

/-- THE SECOND FORM's CARD OF 'laws.FnExactSharePeg'. -/
def fnExactSharePegUptoCard : Claim7 := { stood := { row := fnExactSharePegUptoRow, standIns := [], harness := (true, "3ce9ef463a31511d3b289e458f1b8ef9a1242bec040d7282a35b8aa61953ea5e"), looks := true }, kinds := [], alts := [], laidByText := true, laidKinds := [.sentinel, .sentinel, .sentinel, .sentinel, .sentinel, .sentinel, .sentinel], laidTests := true, laidLooks := .later }
def FnExactSharePegUptoCardSaid : Prop := Claim7.holds Tryd.pinned (.plain (OpenSpec.upto fnExactSharePegSpec)) fnExactSharePegUptoCard

/-- THE SECOND FORM's CARD OF 'laws.FnExactPegsFor'. -/
def fnExactPegsForUptoCard : Claim7 := { stood := { row := fnExactPegsForUptoRow, standIns := [], harness := (true, "3ce9ef463a31511d3b289e458f1b8ef9a1242bec040d7282a35b8aa61953ea5e"), looks := true }, kinds := [], alts := [], laidByText := true, laidKinds := [.sentinel, .sentinel, .sentinel, .sentinel, .sentinel, .sentinel, .sentinel], laidTests := true, laidLooks := .later }
def FnExactPegsForUptoCardSaid : Prop := Claim7.holds Tryd.pinned (.plain (OpenSpec.upto fnExactPegsForSpec)) fnExactPegsForUptoCard

/-- THE SECOND FORM's CARD OF 'laws.FnExactWidthFor'. -/
def fnExactWidthForUptoCard : Claim7 := { stood := { row := fnExactWidthForUptoRow, standIns := [], harness := (true, "3ce9ef463a31511d3b289e458f1b8ef9a1242bec040d7282a35b8aa61953ea5e"), looks := true }, kinds := [], alts := [], laidByText := true, laidKinds := [.sentinel, .sentinel, .sentinel, .sentinel, .sentinel, .sentinel, .sentinel], laidTests := true, laidLooks := .later }
def FnExactWidthForUptoCardSaid : Prop := Claim7.holds Tryd.pinned (.plain (OpenSpec.upto fnExactWidthForSpec)) fnExactWidthForUptoCard

/-- THE SECOND FORM's CARD OF 'laws.FnExactPlacesOf'. -/
def fnExactPlacesOfUptoCard : Claim7 := { stood := { row := fnExactPlacesOfUptoRow, standIns := [], harness := (true, "3ce9ef463a31511d3b289e458f1b8ef9a1242bec040d7282a35b8aa61953ea5e"), looks := true }, kinds := [], alts := [], laidByText := true, laidKinds := [.sentinel, .sentinel, .sentinel, .sentinel, .sentinel, .sentinel, .sentinel], laidTests := true, laidLooks := .later }
def FnExactPlacesOfUptoCardSaid : Prop := Claim7.holds Tryd.pinned (.plain (OpenSpec.upto fnExactPlacesOfSpec)) fnExactPlacesOfUptoCard

/-- THE SECOND FORM's CARD OF 'laws.FnExactFitsLine'. -/
def fnExactFitsLineUptoCard : Claim7 := { stood := { row := fnExactFitsLineUptoRow, standIns := [], harness := (true, "3ce9ef463a31511d3b289e458f1b8ef9a1242bec040d7282a35b8aa61953ea5e"), looks := true }, kinds := [], alts := [], laidByText := true, laidKinds := [.sentinel, .sentinel, .sentinel, .sentinel, .sentinel, .sentinel, .sentinel], laidTests := true, laidLooks := .later }
def FnExactFitsLineUptoCardSaid : Prop := Claim7.holds Tryd.pinned (.plain (OpenSpec.upto fnExactFitsLineSpec)) fnExactFitsLineUptoCard

/-- THE SECOND FORM's CARD OF 'laws.FnExactInOrder'. -/
def fnExactInOrderUptoCard : Claim7 := { stood := { row := fnExactInOrderUptoRow, standIns := [], harness := (true, "3ce9ef463a31511d3b289e458f1b8ef9a1242bec040d7282a35b8aa61953ea5e"), looks := true }, kinds := [], alts := [], laidByText := true, laidKinds := [.sentinel, .sentinel, .sentinel, .sentinel, .sentinel, .sentinel, .sentinel], laidTests := true, laidLooks := .later }
def FnExactInOrderUptoCardSaid : Prop := Claim7.holds Tryd.pinned (.plain (OpenSpec.upto fnExactInOrderSpec)) fnExactInOrderUptoCard

/-- THE SECOND FORM's CARD OF 'laws.FnExactSagOf'. -/
def fnExactSagOfUptoCard : Claim7 := { stood := { row := fnExactSagOfUptoRow, standIns := [], harness := (true, "3ce9ef463a31511d3b289e458f1b8ef9a1242bec040d7282a35b8aa61953ea5e"), looks := true }, kinds := [], alts := [], laidByText := true, laidKinds := [.sentinel, .sentinel, .sentinel, .sentinel, .sentinel, .sentinel, .sentinel], laidTests := true, laidLooks := .later }
def FnExactSagOfUptoCardSaid : Prop := Claim7.holds Tryd.pinned (.plain (OpenSpec.upto fnExactSagOfSpec)) fnExactSagOfUptoCard

/-- THE SECOND FORM's CARD OF 'laws.FnExactFirstLines'. -/
def fnExactFirstLinesUptoCard : Claim7 := { stood := { row := fnExactFirstLinesUptoRow, standIns := [], harness := (true, "3ce9ef463a31511d3b289e458f1b8ef9a1242bec040d7282a35b8aa61953ea5e"), looks := true }, kinds := [], alts := [], laidByText := true, laidKinds := [.sentinel, .sentinel, .sentinel, .sentinel, .sentinel, .sentinel, .sentinel], laidTests := true, laidLooks := .later }
def FnExactFirstLinesUptoCardSaid : Prop := Claim7.holds Tryd.pinned (.plain (OpenSpec.upto fnExactFirstLinesSpec)) fnExactFirstLinesUptoCard

/-- THE SECOND FORM's CARD OF 'laws.FnExactCheckLines'. -/
def fnExactCheckLinesUptoCard : Claim7 := { stood := { row := fnExactCheckLinesUptoRow, standIns := [], harness := (true, "3ce9ef463a31511d3b289e458f1b8ef9a1242bec040d7282a35b8aa61953ea5e"), looks := true }, kinds := [], alts := [], laidByText := true, laidKinds := [.sentinel, .sentinel, .sentinel, .sentinel, .sentinel, .sentinel, .sentinel], laidTests := true, laidLooks := .later }
def FnExactCheckLinesUptoCardSaid : Prop := Claim7.holds Tryd.pinned (.plain (OpenSpec.upto fnExactCheckLinesSpec)) fnExactCheckLinesUptoCard

/-- THE SECOND FORM's CARD OF 'laws.FnExactWhichLine'. -/
def fnExactWhichLineUptoCard : Claim7 := { stood := { row := fnExactWhichLineUptoRow, standIns := [], harness := (true, "3ce9ef463a31511d3b289e458f1b8ef9a1242bec040d7282a35b8aa61953ea5e"), looks := true }, kinds := [], alts := [], laidByText := true, laidKinds := [.sentinel, .sentinel, .sentinel, .sentinel, .sentinel, .sentinel, .sentinel], laidTests := true, laidLooks := .later }
def FnExactWhichLineUptoCardSaid : Prop := Claim7.holds Tryd.pinned (.plain (OpenSpec.upto fnExactWhichLineSpec)) fnExactWhichLineUptoCard
end Rows
end Go.Proofs.YtbpipcfijbgnhaaDoor
