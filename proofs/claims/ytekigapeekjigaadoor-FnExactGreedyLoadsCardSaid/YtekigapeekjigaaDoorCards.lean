/-
  DERIVED. GIVEN WITH THE SEED: THE CARDS: each row of YtekigapeekjigaaDoorRows.lean that lists a variable, with what it lists TIED to the program's text (the seventh form; the later family's looks); each row that meets fmt, with fmt's text TOLD by the authors' own Lean function (tested against real Go, not proved from fmt's source: count such statements apart). THE CARD IS WHAT COUNTS. Prove the row's statement (the work); the ties are given (YtekigapeekjigaaDoorTie.lean); close each card by the builder's one call (the guide's Derived/Test/ToyasCard.lean, 'card_holds'). Laid BY PROGRAM, IN A SANDBOX (cutbox-door.mjs). By AI agents, Wed Nov 11 2026. No macro, syntax, notation, axiom, sorry.
-/
import Derived.Test.YtekigapeekjigaaDoorRows
import GoSem.ClaimSeven
namespace Go.Proofs.YtekigapeekjigaaDoor
namespace Rows

/-- THE TIED CARD OF 'laws.FnExactColourSets'. -/
def fnExactColourSetsCard : Claim7 := { stood := { row := fnExactColourSetsRow, standIns := [], harness := (true, "692c3a3602500c0a99672a70725120ab98fbb518c4f3bf840f754cced2701b79"), looks := true }, kinds := [], alts := [], laidByText := true, laidKinds := [.sentinel, .sentinel, .sentinel, .sentinel, .sentinel, .sentinel, .sentinel], laidTests := true, laidLooks := .later }
def FnExactColourSetsCardSaid : Prop := Claim7.holds Tryd.pinned (.plain (OpenSpec.ofChange fnExactColourSetsSpec)) fnExactColourSetsCard

/-- THE TIED CARD OF 'laws.FnExactCheckLoads'. -/
def fnExactCheckLoadsCard : Claim7 := { stood := { row := fnExactCheckLoadsRow, standIns := [], harness := (true, "692c3a3602500c0a99672a70725120ab98fbb518c4f3bf840f754cced2701b79"), looks := true }, kinds := [], alts := [], laidByText := true, laidKinds := [.sentinel, .sentinel, .sentinel, .sentinel, .sentinel, .sentinel, .sentinel], laidTests := true, laidLooks := .later }
def FnExactCheckLoadsCardSaid : Prop := Claim7.holds Tryd.pinned (.plain (OpenSpec.ofChange fnExactCheckLoadsSpec)) fnExactCheckLoadsCard

/-- THE TIED CARD OF 'laws.FnExactGreedyLoads'. -/
def fnExactGreedyLoadsCard : Claim7 := { stood := { row := fnExactGreedyLoadsRow, standIns := [], harness := (true, "692c3a3602500c0a99672a70725120ab98fbb518c4f3bf840f754cced2701b79"), looks := true }, kinds := [], alts := [], laidByText := true, laidKinds := [.sentinel, .sentinel, .sentinel, .sentinel, .sentinel, .sentinel, .sentinel], laidTests := true, laidLooks := .later }
def FnExactGreedyLoadsCardSaid : Prop := Claim7.holds Tryd.pinned (.plain (OpenSpec.ofChange fnExactGreedyLoadsSpec)) fnExactGreedyLoadsCard

/-- THE TIED CARD OF 'laws.FnExactCostOf'. -/
def fnExactCostOfCard : Claim7 := { stood := { row := fnExactCostOfRow, standIns := [], harness := (true, "692c3a3602500c0a99672a70725120ab98fbb518c4f3bf840f754cced2701b79"), looks := true }, kinds := [], alts := [], laidByText := true, laidKinds := [.sentinel, .sentinel, .sentinel, .sentinel, .sentinel, .sentinel, .sentinel], laidTests := true, laidLooks := .later }
def FnExactCostOfCardSaid : Prop := Claim7.holds Tryd.pinned (.plain (OpenSpec.ofChange fnExactCostOfSpec)) fnExactCostOfCard

/-- THE TIED CARD OF 'laws.FnExactApartSet'. -/
def fnExactApartSetCard : Claim7 := { stood := { row := fnExactApartSetRow, standIns := [], harness := (true, "692c3a3602500c0a99672a70725120ab98fbb518c4f3bf840f754cced2701b79"), looks := true }, kinds := [], alts := [], laidByText := true, laidKinds := [.sentinel, .sentinel, .sentinel, .sentinel, .sentinel, .sentinel, .sentinel], laidTests := true, laidLooks := .later }
def FnExactApartSetCardSaid : Prop := Claim7.holds Tryd.pinned (.plain (OpenSpec.ofChange fnExactApartSetSpec)) fnExactApartSetCard

/-- THE TIED CARD OF 'laws.FnExactLoadsBound'. -/
def fnExactLoadsBoundCard : Claim7 := { stood := { row := fnExactLoadsBoundRow, standIns := [], harness := (true, "692c3a3602500c0a99672a70725120ab98fbb518c4f3bf840f754cced2701b79"), looks := true }, kinds := [], alts := [], laidByText := true, laidKinds := [.sentinel, .sentinel, .sentinel, .sentinel, .sentinel, .sentinel, .sentinel], laidTests := true, laidLooks := .later }
def FnExactLoadsBoundCardSaid : Prop := Claim7.holds Tryd.pinned (.plain (OpenSpec.ofChange fnExactLoadsBoundSpec)) fnExactLoadsBoundCard

/-- THE TIED CARD OF 'laws.FnExactFitsWith'. -/
def fnExactFitsWithCard : Claim7 := { stood := { row := fnExactFitsWithRow, standIns := [], harness := (true, "692c3a3602500c0a99672a70725120ab98fbb518c4f3bf840f754cced2701b79"), looks := true }, kinds := [], alts := [], laidByText := true, laidKinds := [.sentinel, .sentinel, .sentinel, .sentinel, .sentinel, .sentinel, .sentinel], laidTests := true, laidLooks := .later }
def FnExactFitsWithCardSaid : Prop := Claim7.holds Tryd.pinned (.plain (OpenSpec.ofChange fnExactFitsWithSpec)) fnExactFitsWithCard

/-- THE TIED CARD OF 'laws.FnExactHeaviestLoad'. -/
def fnExactHeaviestLoadCard : Claim7 := { stood := { row := fnExactHeaviestLoadRow, standIns := [], harness := (true, "692c3a3602500c0a99672a70725120ab98fbb518c4f3bf840f754cced2701b79"), looks := true }, kinds := [], alts := [], laidByText := true, laidKinds := [.sentinel, .sentinel, .sentinel, .sentinel, .sentinel, .sentinel, .sentinel], laidTests := true, laidLooks := .later }
def FnExactHeaviestLoadCardSaid : Prop := Claim7.holds Tryd.pinned (.plain (OpenSpec.ofChange fnExactHeaviestLoadSpec)) fnExactHeaviestLoadCard

/-- THE TIED CARD OF 'laws.FnExactDryHour'. -/
def fnExactDryHourCard : Claim7 := { stood := { row := fnExactDryHourRow, standIns := [], harness := (true, "692c3a3602500c0a99672a70725120ab98fbb518c4f3bf840f754cced2701b79"), looks := true }, kinds := [], alts := [], laidByText := true, laidKinds := [.sentinel, .sentinel, .sentinel, .sentinel, .sentinel, .sentinel, .sentinel], laidTests := true, laidLooks := .later }
def FnExactDryHourCardSaid : Prop := Claim7.holds Tryd.pinned (.plain (OpenSpec.ofChange fnExactDryHourSpec)) fnExactDryHourCard

/-- THE TIED CARD OF 'laws.FnExactRainFrom'. -/
def fnExactRainFromCard : Claim7 := { stood := { row := fnExactRainFromRow, standIns := [], harness := (true, "692c3a3602500c0a99672a70725120ab98fbb518c4f3bf840f754cced2701b79"), looks := true }, kinds := [], alts := [], laidByText := true, laidKinds := [.sentinel, .sentinel, .sentinel, .sentinel, .sentinel, .sentinel, .sentinel], laidTests := true, laidLooks := .later }
def FnExactRainFromCardSaid : Prop := Claim7.holds Tryd.pinned (.plain (OpenSpec.ofChange fnExactRainFromSpec)) fnExactRainFromCard

/-- THE TIED CARD OF 'laws.FnExactLongestDry'. -/
def fnExactLongestDryCard : Claim7 := { stood := { row := fnExactLongestDryRow, standIns := [], harness := (true, "692c3a3602500c0a99672a70725120ab98fbb518c4f3bf840f754cced2701b79"), looks := true }, kinds := [], alts := [], laidByText := true, laidKinds := [.sentinel, .sentinel, .sentinel, .sentinel, .sentinel, .sentinel, .sentinel], laidTests := true, laidLooks := .later }
def FnExactLongestDryCardSaid : Prop := Claim7.holds Tryd.pinned (.plain (OpenSpec.ofChange fnExactLongestDrySpec)) fnExactLongestDryCard

/-- THE TIED CARD OF 'laws.FnExactSunOver'. -/
def fnExactSunOverCard : Claim7 := { stood := { row := fnExactSunOverRow, standIns := [], harness := (true, "692c3a3602500c0a99672a70725120ab98fbb518c4f3bf840f754cced2701b79"), looks := true }, kinds := [], alts := [], laidByText := true, laidKinds := [.sentinel, .sentinel, .sentinel, .sentinel, .sentinel, .sentinel, .sentinel], laidTests := true, laidLooks := .later }
def FnExactSunOverCardSaid : Prop := Claim7.holds Tryd.pinned (.plain (OpenSpec.ofChange fnExactSunOverSpec)) fnExactSunOverCard

/-- THE SECOND FORM's CARD OF 'laws.FnExactColourSets'. -/
def fnExactColourSetsUptoCard : Claim7 := { stood := { row := fnExactColourSetsUptoRow, standIns := [], harness := (true, "692c3a3602500c0a99672a70725120ab98fbb518c4f3bf840f754cced2701b79"), looks := true }, kinds := [], alts := [], laidByText := true, laidKinds := [.sentinel, .sentinel, .sentinel, .sentinel, .sentinel, .sentinel, .sentinel], laidTests := true, laidLooks := .later }
def FnExactColourSetsUptoCardSaid : Prop := Claim7.holds Tryd.pinned (.plain (OpenSpec.upto fnExactColourSetsSpec)) fnExactColourSetsUptoCard

/-- THE SECOND FORM's CARD OF 'laws.FnExactCheckLoads'. -/
def fnExactCheckLoadsUptoCard : Claim7 := { stood := { row := fnExactCheckLoadsUptoRow, standIns := [], harness := (true, "692c3a3602500c0a99672a70725120ab98fbb518c4f3bf840f754cced2701b79"), looks := true }, kinds := [], alts := [], laidByText := true, laidKinds := [.sentinel, .sentinel, .sentinel, .sentinel, .sentinel, .sentinel, .sentinel], laidTests := true, laidLooks := .later }
def FnExactCheckLoadsUptoCardSaid : Prop := Claim7.holds Tryd.pinned (.plain (OpenSpec.upto fnExactCheckLoadsSpec)) fnExactCheckLoadsUptoCard

/-- THE SECOND FORM's CARD OF 'laws.FnExactGreedyLoads'. -/
def fnExactGreedyLoadsUptoCard : Claim7 := { stood := { row := fnExactGreedyLoadsUptoRow, standIns := [], harness := (true, "692c3a3602500c0a99672a70725120ab98fbb518c4f3bf840f754cced2701b79"), looks := true }, kinds := [], alts := [], laidByText := true, laidKinds := [.sentinel, .sentinel, .sentinel, .sentinel, .sentinel, .sentinel, .sentinel], laidTests := true, laidLooks := .later }
def FnExactGreedyLoadsUptoCardSaid : Prop := Claim7.holds Tryd.pinned (.plain (OpenSpec.upto fnExactGreedyLoadsSpec)) fnExactGreedyLoadsUptoCard

/-- THE SECOND FORM's CARD OF 'laws.FnExactCostOf'. -/
def fnExactCostOfUptoCard : Claim7 := { stood := { row := fnExactCostOfUptoRow, standIns := [], harness := (true, "692c3a3602500c0a99672a70725120ab98fbb518c4f3bf840f754cced2701b79"), looks := true }, kinds := [], alts := [], laidByText := true, laidKinds := [.sentinel, .sentinel, .sentinel, .sentinel, .sentinel, .sentinel, .sentinel], laidTests := true, laidLooks := .later }
def FnExactCostOfUptoCardSaid : Prop := Claim7.holds Tryd.pinned (.plain (OpenSpec.upto fnExactCostOfSpec)) fnExactCostOfUptoCard

/-- THE SECOND FORM's CARD OF 'laws.FnExactApartSet'. -/
def fnExactApartSetUptoCard : Claim7 := { stood := { row := fnExactApartSetUptoRow, standIns := [], harness := (true, "692c3a3602500c0a99672a70725120ab98fbb518c4f3bf840f754cced2701b79"), looks := true }, kinds := [], alts := [], laidByText := true, laidKinds := [.sentinel, .sentinel, .sentinel, .sentinel, .sentinel, .sentinel, .sentinel], laidTests := true, laidLooks := .later }
def FnExactApartSetUptoCardSaid : Prop := Claim7.holds Tryd.pinned (.plain (OpenSpec.upto fnExactApartSetSpec)) fnExactApartSetUptoCard

/-- THE SECOND FORM's CARD OF 'laws.FnExactLoadsBound'. -/
def fnExactLoadsBoundUptoCard : Claim7 := { stood := { row := fnExactLoadsBoundUptoRow, standIns := [], harness := (true, "692c3a3602500c0a99672a70725120ab98fbb518c4f3bf840f754cced2701b79"), looks := true }, kinds := [], alts := [], laidByText := true, laidKinds := [.sentinel, .sentinel, .sentinel, .sentinel, .sentinel, .sentinel, .sentinel], laidTests := true, laidLooks := .later }
def FnExactLoadsBoundUptoCardSaid : Prop := Claim7.holds Tryd.pinned (.plain (OpenSpec.upto fnExactLoadsBoundSpec)) fnExactLoadsBoundUptoCard

/-- THE SECOND FORM's CARD OF 'laws.FnExactFitsWith'. -/
def fnExactFitsWithUptoCard : Claim7 := { stood := { row := fnExactFitsWithUptoRow, standIns := [], harness := (true, "692c3a3602500c0a99672a70725120ab98fbb518c4f3bf840f754cced2701b79"), looks := true }, kinds := [], alts := [], laidByText := true, laidKinds := [.sentinel, .sentinel, .sentinel, .sentinel, .sentinel, .sentinel, .sentinel], laidTests := true, laidLooks := .later }
def FnExactFitsWithUptoCardSaid : Prop := Claim7.holds Tryd.pinned (.plain (OpenSpec.upto fnExactFitsWithSpec)) fnExactFitsWithUptoCard

/-- THE SECOND FORM's CARD OF 'laws.FnExactHeaviestLoad'. -/
def fnExactHeaviestLoadUptoCard : Claim7 := { stood := { row := fnExactHeaviestLoadUptoRow, standIns := [], harness := (true, "692c3a3602500c0a99672a70725120ab98fbb518c4f3bf840f754cced2701b79"), looks := true }, kinds := [], alts := [], laidByText := true, laidKinds := [.sentinel, .sentinel, .sentinel, .sentinel, .sentinel, .sentinel, .sentinel], laidTests := true, laidLooks := .later }
def FnExactHeaviestLoadUptoCardSaid : Prop := Claim7.holds Tryd.pinned (.plain (OpenSpec.upto fnExactHeaviestLoadSpec)) fnExactHeaviestLoadUptoCard

/-- THE SECOND FORM's CARD OF 'laws.FnExactDryHour'. -/
def fnExactDryHourUptoCard : Claim7 := { stood := { row := fnExactDryHourUptoRow, standIns := [], harness := (true, "692c3a3602500c0a99672a70725120ab98fbb518c4f3bf840f754cced2701b79"), looks := true }, kinds := [], alts := [], laidByText := true, laidKinds := [.sentinel, .sentinel, .sentinel, .sentinel, .sentinel, .sentinel, .sentinel], laidTests := true, laidLooks := .later }
def FnExactDryHourUptoCardSaid : Prop := Claim7.holds Tryd.pinned (.plain (OpenSpec.upto fnExactDryHourSpec)) fnExactDryHourUptoCard

/-- THE SECOND FORM's CARD OF 'laws.FnExactRainFrom'. -/
def fnExactRainFromUptoCard : Claim7 := { stood := { row := fnExactRainFromUptoRow, standIns := [], harness := (true, "692c3a3602500c0a99672a70725120ab98fbb518c4f3bf840f754cced2701b79"), looks := true }, kinds := [], alts := [], laidByText := true, laidKinds := [.sentinel, .sentinel, .sentinel, .sentinel, .sentinel, .sentinel, .sentinel], laidTests := true, laidLooks := .later }
def FnExactRainFromUptoCardSaid : Prop := Claim7.holds Tryd.pinned (.plain (OpenSpec.upto fnExactRainFromSpec)) fnExactRainFromUptoCard

/-- THE SECOND FORM's CARD OF 'laws.FnExactLongestDry'. -/
def fnExactLongestDryUptoCard : Claim7 := { stood := { row := fnExactLongestDryUptoRow, standIns := [], harness := (true, "692c3a3602500c0a99672a70725120ab98fbb518c4f3bf840f754cced2701b79"), looks := true }, kinds := [], alts := [], laidByText := true, laidKinds := [.sentinel, .sentinel, .sentinel, .sentinel, .sentinel, .sentinel, .sentinel], laidTests := true, laidLooks := .later }
def FnExactLongestDryUptoCardSaid : Prop := Claim7.holds Tryd.pinned (.plain (OpenSpec.upto fnExactLongestDrySpec)) fnExactLongestDryUptoCard

/-- THE SECOND FORM's CARD OF 'laws.FnExactSunOver'. -/
def fnExactSunOverUptoCard : Claim7 := { stood := { row := fnExactSunOverUptoRow, standIns := [], harness := (true, "692c3a3602500c0a99672a70725120ab98fbb518c4f3bf840f754cced2701b79"), looks := true }, kinds := [], alts := [], laidByText := true, laidKinds := [.sentinel, .sentinel, .sentinel, .sentinel, .sentinel, .sentinel, .sentinel], laidTests := true, laidLooks := .later }
def FnExactSunOverUptoCardSaid : Prop := Claim7.holds Tryd.pinned (.plain (OpenSpec.upto fnExactSunOverSpec)) fnExactSunOverUptoCard
end Rows
end Go.Proofs.YtekigapeekjigaaDoor
