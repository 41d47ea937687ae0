/-
  DERIVED. GIVEN WITH THE SEED: THE CARDS: each row of YtdafnibmoggcnaaDoorRows.lean that lists a variable, with what it lists TIED to the program's text (the seventh form; the later family's looks); each row that meets fmt, with fmt's text TOLD by the authors' own Lean function (tested against real Go, not proved from fmt's source: count such statements apart). THE CARD IS WHAT COUNTS. Prove the row's statement (the work); the ties are given (YtdafnibmoggcnaaDoorTie.lean); close each card by the builder's one call (the guide's Derived/Test/ToyasCard.lean, 'card_holds'). Laid BY PROGRAM, IN A SANDBOX (cutbox-door.mjs). By AI agents, Wed Nov 11 2026. No macro, syntax, notation, axiom, sorry.
-/
import Derived.Test.YtdafnibmoggcnaaDoorRows
import GoSem.ClaimSeven
namespace Go.Proofs.YtdafnibmoggcnaaDoor
namespace Rows

/-- THE TIED CARD OF 'laws.FnExactFitsWith'. -/
def fnExactFitsWithCard : Claim7 := { stood := { row := fnExactFitsWithRow, standIns := [], harness := (true, "6721c854d35e20d811211a2af3a29732869435b6f4eb6e3efb1a8b7c1a6054d8"), looks := true }, kinds := [], alts := [], laidByText := true, laidKinds := [.sentinel, .sentinel, .sentinel, .sentinel, .sentinel, .sentinel, .sentinel], laidTests := true, laidLooks := .later }
def FnExactFitsWithCardSaid : Prop := Claim7.holds Tryd.pinned (.plain (OpenSpec.ofChange fnExactFitsWithSpec)) fnExactFitsWithCard

/-- THE TIED CARD OF 'laws.FnExactColourSets'. -/
def fnExactColourSetsCard : Claim7 := { stood := { row := fnExactColourSetsRow, standIns := [], harness := (true, "6721c854d35e20d811211a2af3a29732869435b6f4eb6e3efb1a8b7c1a6054d8"), looks := true }, kinds := [], alts := [], laidByText := true, laidKinds := [.sentinel, .sentinel, .sentinel, .sentinel, .sentinel, .sentinel, .sentinel], laidTests := true, laidLooks := .later }
def FnExactColourSetsCardSaid : Prop := Claim7.holds Tryd.pinned (.plain (OpenSpec.ofChange fnExactColourSetsSpec)) fnExactColourSetsCard

/-- THE TIED CARD OF 'laws.FnExactApartSet'. -/
def fnExactApartSetCard : Claim7 := { stood := { row := fnExactApartSetRow, standIns := [], harness := (true, "6721c854d35e20d811211a2af3a29732869435b6f4eb6e3efb1a8b7c1a6054d8"), looks := true }, kinds := [], alts := [], laidByText := true, laidKinds := [.sentinel, .sentinel, .sentinel, .sentinel, .sentinel, .sentinel, .sentinel], laidTests := true, laidLooks := .later }
def FnExactApartSetCardSaid : Prop := Claim7.holds Tryd.pinned (.plain (OpenSpec.ofChange fnExactApartSetSpec)) fnExactApartSetCard

/-- THE TIED CARD OF 'laws.FnExactLoadsBound'. -/
def fnExactLoadsBoundCard : Claim7 := { stood := { row := fnExactLoadsBoundRow, standIns := [], harness := (true, "6721c854d35e20d811211a2af3a29732869435b6f4eb6e3efb1a8b7c1a6054d8"), looks := true }, kinds := [], alts := [], laidByText := true, laidKinds := [.sentinel, .sentinel, .sentinel, .sentinel, .sentinel, .sentinel, .sentinel], laidTests := true, laidLooks := .later }
def FnExactLoadsBoundCardSaid : Prop := Claim7.holds Tryd.pinned (.plain (OpenSpec.ofChange fnExactLoadsBoundSpec)) fnExactLoadsBoundCard

/-- THE TIED CARD OF 'laws.FnExactHeaviestLoad'. -/
def fnExactHeaviestLoadCard : Claim7 := { stood := { row := fnExactHeaviestLoadRow, standIns := [], harness := (true, "6721c854d35e20d811211a2af3a29732869435b6f4eb6e3efb1a8b7c1a6054d8"), looks := true }, kinds := [], alts := [], laidByText := true, laidKinds := [.sentinel, .sentinel, .sentinel, .sentinel, .sentinel, .sentinel, .sentinel], laidTests := true, laidLooks := .later }
def FnExactHeaviestLoadCardSaid : Prop := Claim7.holds Tryd.pinned (.plain (OpenSpec.ofChange fnExactHeaviestLoadSpec)) fnExactHeaviestLoadCard

/-- THE SECOND FORM's CARD OF 'laws.FnExactFitsWith'. -/
def fnExactFitsWithUptoCard : Claim7 := { stood := { row := fnExactFitsWithUptoRow, standIns := [], harness := (true, "6721c854d35e20d811211a2af3a29732869435b6f4eb6e3efb1a8b7c1a6054d8"), looks := true }, kinds := [], alts := [], laidByText := true, laidKinds := [.sentinel, .sentinel, .sentinel, .sentinel, .sentinel, .sentinel, .sentinel], laidTests := true, laidLooks := .later }
def FnExactFitsWithUptoCardSaid : Prop := Claim7.holds Tryd.pinned (.plain (OpenSpec.upto fnExactFitsWithSpec)) fnExactFitsWithUptoCard

/-- THE SECOND FORM's CARD OF 'laws.FnExactColourSets'. -/
def fnExactColourSetsUptoCard : Claim7 := { stood := { row := fnExactColourSetsUptoRow, standIns := [], harness := (true, "6721c854d35e20d811211a2af3a29732869435b6f4eb6e3efb1a8b7c1a6054d8"), looks := true }, kinds := [], alts := [], laidByText := true, laidKinds := [.sentinel, .sentinel, .sentinel, .sentinel, .sentinel, .sentinel, .sentinel], laidTests := true, laidLooks := .later }
def FnExactColourSetsUptoCardSaid : Prop := Claim7.holds Tryd.pinned (.plain (OpenSpec.upto fnExactColourSetsSpec)) fnExactColourSetsUptoCard

/-- THE SECOND FORM's CARD OF 'laws.FnExactApartSet'. -/
def fnExactApartSetUptoCard : Claim7 := { stood := { row := fnExactApartSetUptoRow, standIns := [], harness := (true, "6721c854d35e20d811211a2af3a29732869435b6f4eb6e3efb1a8b7c1a6054d8"), looks := true }, kinds := [], alts := [], laidByText := true, laidKinds := [.sentinel, .sentinel, .sentinel, .sentinel, .sentinel, .sentinel, .sentinel], laidTests := true, laidLooks := .later }
def FnExactApartSetUptoCardSaid : Prop := Claim7.holds Tryd.pinned (.plain (OpenSpec.upto fnExactApartSetSpec)) fnExactApartSetUptoCard

/-- THE SECOND FORM's CARD OF 'laws.FnExactLoadsBound'. -/
def fnExactLoadsBoundUptoCard : Claim7 := { stood := { row := fnExactLoadsBoundUptoRow, standIns := [], harness := (true, "6721c854d35e20d811211a2af3a29732869435b6f4eb6e3efb1a8b7c1a6054d8"), looks := true }, kinds := [], alts := [], laidByText := true, laidKinds := [.sentinel, .sentinel, .sentinel, .sentinel, .sentinel, .sentinel, .sentinel], laidTests := true, laidLooks := .later }
def FnExactLoadsBoundUptoCardSaid : Prop := Claim7.holds Tryd.pinned (.plain (OpenSpec.upto fnExactLoadsBoundSpec)) fnExactLoadsBoundUptoCard

/-- THE SECOND FORM's CARD OF 'laws.FnExactHeaviestLoad'. -/
def fnExactHeaviestLoadUptoCard : Claim7 := { stood := { row := fnExactHeaviestLoadUptoRow, standIns := [], harness := (true, "6721c854d35e20d811211a2af3a29732869435b6f4eb6e3efb1a8b7c1a6054d8"), looks := true }, kinds := [], alts := [], laidByText := true, laidKinds := [.sentinel, .sentinel, .sentinel, .sentinel, .sentinel, .sentinel, .sentinel], laidTests := true, laidLooks := .later }
def FnExactHeaviestLoadUptoCardSaid : Prop := Claim7.holds Tryd.pinned (.plain (OpenSpec.upto fnExactHeaviestLoadSpec)) fnExactHeaviestLoadUptoCard
end Rows
end Go.Proofs.YtdafnibmoggcnaaDoor
