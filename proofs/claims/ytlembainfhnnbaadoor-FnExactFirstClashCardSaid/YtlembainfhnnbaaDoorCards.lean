/-
  DERIVED. GIVEN WITH THE SEED: THE CARDS: each row of YtlembainfhnnbaaDoorRows.lean that lists a variable, with what it lists TIED to the program's text (the seventh form; the later family's looks); each row that meets fmt, with fmt's text TOLD by the authors' own Lean function (tested against real Go, not proved from fmt's source: count such statements apart). THE CARD IS WHAT COUNTS. Prove the row's statement (the work); the ties are given (YtlembainfhnnbaaDoorTie.lean); close each card by the builder's one call (the guide's Derived/Test/ToyasCard.lean, 'card_holds'). Laid BY PROGRAM, IN A SANDBOX (cutbox-door.mjs). By AI agents, Wed Nov 11 2026. No macro, syntax, notation, axiom, sorry.
-/
import Derived.Test.YtlembainfhnnbaaDoorRows
import GoSem.ClaimSeven
namespace Go.Proofs.YtlembainfhnnbaaDoor
namespace Rows

/-- THE TIED CARD OF 'laws.FnExactLostFrom'. -/
def fnExactLostFromCard : Claim7 := { stood := { row := fnExactLostFromRow, standIns := [], harness := (true, "e9fb5674e8a852dd295d97154d09afe1c173022a476122119cab50d6c0c93339"), looks := true }, kinds := [], alts := [], laidByText := true, laidKinds := [.sentinel, .sentinel, .sentinel, .sentinel, .sentinel, .sentinel, .sentinel], laidTests := true, laidLooks := .later }
def FnExactLostFromCardSaid : Prop := Claim7.holds Tryd.pinned (.plain (OpenSpec.ofChange fnExactLostFromSpec)) fnExactLostFromCard

/-- THE TIED CARD OF 'laws.FnExactCheckMarks'. -/
def fnExactCheckMarksCard : Claim7 := { stood := { row := fnExactCheckMarksRow, standIns := [], harness := (true, "e9fb5674e8a852dd295d97154d09afe1c173022a476122119cab50d6c0c93339"), looks := true }, kinds := [], alts := [], laidByText := true, laidKinds := [.sentinel, .sentinel, .sentinel, .sentinel, .sentinel, .sentinel, .sentinel], laidTests := true, laidLooks := .later }
def FnExactCheckMarksCardSaid : Prop := Claim7.holds Tryd.pinned (.plain (OpenSpec.ofChange fnExactCheckMarksSpec)) fnExactCheckMarksCard

/-- THE TIED CARD OF 'laws.FnExactFirstClash'. -/
def fnExactFirstClashCard : Claim7 := { stood := { row := fnExactFirstClashRow, standIns := [], harness := (true, "e9fb5674e8a852dd295d97154d09afe1c173022a476122119cab50d6c0c93339"), looks := true }, kinds := [], alts := [], laidByText := true, laidKinds := [.handle, .sentinel, .sentinel, .sentinel, .sentinel, .sentinel, .sentinel, .sentinel], laidTests := true, laidLooks := .later }
def FnExactFirstClashCardSaid : Prop := Claim7.holds Tryd.pinned (.plain (OpenSpec.ofChange fnExactFirstClashSpec)) fnExactFirstClashCard

/-- THE TIED CARD OF 'laws.FnExactReadStitches'. -/
def fnExactReadStitchesCard : Claim7 := { stood := { row := fnExactReadStitchesRow, standIns := [], harness := (true, "e9fb5674e8a852dd295d97154d09afe1c173022a476122119cab50d6c0c93339"), looks := true }, kinds := [], alts := [], laidByText := true, laidKinds := [.sentinel, .sentinel, .sentinel, .sentinel, .sentinel, .sentinel, .sentinel], laidTests := true, laidLooks := .later }
def FnExactReadStitchesCardSaid : Prop := Claim7.holds Tryd.pinned (.plain (OpenSpec.ofChange fnExactReadStitchesSpec)) fnExactReadStitchesCard

/-- THE TIED CARD OF 'laws.FnExactGreedyMarks'. -/
def fnExactGreedyMarksCard : Claim7 := { stood := { row := fnExactGreedyMarksRow, standIns := [], harness := (true, "e9fb5674e8a852dd295d97154d09afe1c173022a476122119cab50d6c0c93339"), looks := true }, kinds := [], alts := [], laidByText := true, laidKinds := [.sentinel, .sentinel, .sentinel, .sentinel, .sentinel, .sentinel, .sentinel], laidTests := true, laidLooks := .later }
def FnExactGreedyMarksCardSaid : Prop := Claim7.holds Tryd.pinned (.plain (OpenSpec.ofChange fnExactGreedyMarksSpec)) fnExactGreedyMarksCard

/-- THE TIED CARD OF 'laws.FnExactClassOf'. -/
def fnExactClassOfCard : Claim7 := { stood := { row := fnExactClassOfRow, standIns := [], harness := (true, "e9fb5674e8a852dd295d97154d09afe1c173022a476122119cab50d6c0c93339"), looks := true }, kinds := [], alts := [], laidByText := true, laidKinds := [.sentinel, .sentinel, .sentinel, .sentinel, .sentinel, .sentinel, .sentinel], laidTests := true, laidLooks := .later }
def FnExactClassOfCardSaid : Prop := Claim7.holds Tryd.pinned (.plain (OpenSpec.ofChange fnExactClassOfSpec)) fnExactClassOfCard

/-- THE TIED CARD OF 'laws.FnExactMendStitch'. -/
def fnExactMendStitchCard : Claim7 := { stood := { row := fnExactMendStitchRow, standIns := [], harness := (true, "e9fb5674e8a852dd295d97154d09afe1c173022a476122119cab50d6c0c93339"), looks := true }, kinds := [], alts := [], laidByText := true, laidKinds := [.sentinel, .sentinel, .sentinel, .sentinel, .sentinel, .sentinel, .sentinel], laidTests := true, laidLooks := .later }
def FnExactMendStitchCardSaid : Prop := Claim7.holds Tryd.pinned (.plain (OpenSpec.ofChange fnExactMendStitchSpec)) fnExactMendStitchCard

/-- THE TIED CARD OF 'laws.FnExactMissingBy'. -/
def fnExactMissingByCard : Claim7 := { stood := { row := fnExactMissingByRow, standIns := [], harness := (true, "e9fb5674e8a852dd295d97154d09afe1c173022a476122119cab50d6c0c93339"), looks := true }, kinds := [], alts := [], laidByText := true, laidKinds := [.sentinel, .sentinel, .sentinel, .sentinel, .sentinel, .sentinel, .sentinel], laidTests := true, laidLooks := .later }
def FnExactMissingByCardSaid : Prop := Claim7.holds Tryd.pinned (.plain (OpenSpec.ofChange fnExactMissingBySpec)) fnExactMissingByCard

/-- THE TIED CARD OF 'laws.FnExactApartBy'. -/
def fnExactApartByCard : Claim7 := { stood := { row := fnExactApartByRow, standIns := [], harness := (true, "e9fb5674e8a852dd295d97154d09afe1c173022a476122119cab50d6c0c93339"), looks := true }, kinds := [], alts := [], laidByText := true, laidKinds := [.sentinel, .sentinel, .sentinel, .sentinel, .sentinel, .sentinel, .sentinel], laidTests := true, laidLooks := .later }
def FnExactApartByCardSaid : Prop := Claim7.holds Tryd.pinned (.plain (OpenSpec.ofChange fnExactApartBySpec)) fnExactApartByCard

/-- THE TIED CARD OF 'laws.FnExactLeastApart'. -/
def fnExactLeastApartCard : Claim7 := { stood := { row := fnExactLeastApartRow, standIns := [], harness := (true, "e9fb5674e8a852dd295d97154d09afe1c173022a476122119cab50d6c0c93339"), looks := true }, kinds := [], alts := [], laidByText := true, laidKinds := [.sentinel, .sentinel, .sentinel, .sentinel, .sentinel, .sentinel, .sentinel], laidTests := true, laidLooks := .later }
def FnExactLeastApartCardSaid : Prop := Claim7.holds Tryd.pinned (.plain (OpenSpec.ofChange fnExactLeastApartSpec)) fnExactLeastApartCard

/-- THE TIED CARD OF 'laws.FnExactSortByMarks'. -/
def fnExactSortByMarksCard : Claim7 := { stood := { row := fnExactSortByMarksRow, standIns := [], harness := (true, "e9fb5674e8a852dd295d97154d09afe1c173022a476122119cab50d6c0c93339"), looks := true }, kinds := [], alts := [], laidByText := true, laidKinds := [.sentinel, .sentinel, .sentinel, .sentinel, .sentinel, .sentinel, .sentinel], laidTests := true, laidLooks := .later }
def FnExactSortByMarksCardSaid : Prop := Claim7.holds Tryd.pinned (.plain (OpenSpec.ofChange fnExactSortByMarksSpec)) fnExactSortByMarksCard

/-- THE TIED CARD OF 'laws.FnExactLikelyLost'. -/
def fnExactLikelyLostCard : Claim7 := { stood := { row := fnExactLikelyLostRow, standIns := [], harness := (true, "e9fb5674e8a852dd295d97154d09afe1c173022a476122119cab50d6c0c93339"), looks := true }, kinds := [], alts := [], laidByText := true, laidKinds := [.sentinel, .sentinel, .sentinel, .sentinel, .sentinel, .sentinel, .sentinel], laidTests := true, laidLooks := .later }
def FnExactLikelyLostCardSaid : Prop := Claim7.holds Tryd.pinned (.plain (OpenSpec.ofChange fnExactLikelyLostSpec)) fnExactLikelyLostCard

/-- THE SECOND FORM's CARD OF 'laws.FnExactLostFrom'. -/
def fnExactLostFromUptoCard : Claim7 := { stood := { row := fnExactLostFromUptoRow, standIns := [], harness := (true, "e9fb5674e8a852dd295d97154d09afe1c173022a476122119cab50d6c0c93339"), looks := true }, kinds := [], alts := [], laidByText := true, laidKinds := [.sentinel, .sentinel, .sentinel, .sentinel, .sentinel, .sentinel, .sentinel], laidTests := true, laidLooks := .later }
def FnExactLostFromUptoCardSaid : Prop := Claim7.holds Tryd.pinned (.plain (OpenSpec.upto fnExactLostFromSpec)) fnExactLostFromUptoCard

/-- THE SECOND FORM's CARD OF 'laws.FnExactCheckMarks'. -/
def fnExactCheckMarksUptoCard : Claim7 := { stood := { row := fnExactCheckMarksUptoRow, standIns := [], harness := (true, "e9fb5674e8a852dd295d97154d09afe1c173022a476122119cab50d6c0c93339"), looks := true }, kinds := [], alts := [], laidByText := true, laidKinds := [.sentinel, .sentinel, .sentinel, .sentinel, .sentinel, .sentinel, .sentinel], laidTests := true, laidLooks := .later }
def FnExactCheckMarksUptoCardSaid : Prop := Claim7.holds Tryd.pinned (.plain (OpenSpec.upto fnExactCheckMarksSpec)) fnExactCheckMarksUptoCard

/-- THE SECOND FORM's CARD OF 'laws.FnExactFirstClash'. -/
def fnExactFirstClashUptoCard : Claim7 := { stood := { row := fnExactFirstClashUptoRow, standIns := [], harness := (true, "e9fb5674e8a852dd295d97154d09afe1c173022a476122119cab50d6c0c93339"), looks := true }, kinds := [], alts := [], laidByText := true, laidKinds := [.handle, .sentinel, .sentinel, .sentinel, .sentinel, .sentinel, .sentinel, .sentinel], laidTests := true, laidLooks := .later }
def FnExactFirstClashUptoCardSaid : Prop := Claim7.holds Tryd.pinned (.plain (OpenSpec.upto fnExactFirstClashSpec)) fnExactFirstClashUptoCard

/-- THE SECOND FORM's CARD OF 'laws.FnExactReadStitches'. -/
def fnExactReadStitchesUptoCard : Claim7 := { stood := { row := fnExactReadStitchesUptoRow, standIns := [], harness := (true, "e9fb5674e8a852dd295d97154d09afe1c173022a476122119cab50d6c0c93339"), looks := true }, kinds := [], alts := [], laidByText := true, laidKinds := [.sentinel, .sentinel, .sentinel, .sentinel, .sentinel, .sentinel, .sentinel], laidTests := true, laidLooks := .later }
def FnExactReadStitchesUptoCardSaid : Prop := Claim7.holds Tryd.pinned (.plain (OpenSpec.upto fnExactReadStitchesSpec)) fnExactReadStitchesUptoCard

/-- THE SECOND FORM's CARD OF 'laws.FnExactGreedyMarks'. -/
def fnExactGreedyMarksUptoCard : Claim7 := { stood := { row := fnExactGreedyMarksUptoRow, standIns := [], harness := (true, "e9fb5674e8a852dd295d97154d09afe1c173022a476122119cab50d6c0c93339"), looks := true }, kinds := [], alts := [], laidByText := true, laidKinds := [.sentinel, .sentinel, .sentinel, .sentinel, .sentinel, .sentinel, .sentinel], laidTests := true, laidLooks := .later }
def FnExactGreedyMarksUptoCardSaid : Prop := Claim7.holds Tryd.pinned (.plain (OpenSpec.upto fnExactGreedyMarksSpec)) fnExactGreedyMarksUptoCard

/-- THE SECOND FORM's CARD OF 'laws.FnExactClassOf'. -/
def fnExactClassOfUptoCard : Claim7 := { stood := { row := fnExactClassOfUptoRow, standIns := [], harness := (true, "e9fb5674e8a852dd295d97154d09afe1c173022a476122119cab50d6c0c93339"), looks := true }, kinds := [], alts := [], laidByText := true, laidKinds := [.sentinel, .sentinel, .sentinel, .sentinel, .sentinel, .sentinel, .sentinel], laidTests := true, laidLooks := .later }
def FnExactClassOfUptoCardSaid : Prop := Claim7.holds Tryd.pinned (.plain (OpenSpec.upto fnExactClassOfSpec)) fnExactClassOfUptoCard

/-- THE SECOND FORM's CARD OF 'laws.FnExactMendStitch'. -/
def fnExactMendStitchUptoCard : Claim7 := { stood := { row := fnExactMendStitchUptoRow, standIns := [], harness := (true, "e9fb5674e8a852dd295d97154d09afe1c173022a476122119cab50d6c0c93339"), looks := true }, kinds := [], alts := [], laidByText := true, laidKinds := [.sentinel, .sentinel, .sentinel, .sentinel, .sentinel, .sentinel, .sentinel], laidTests := true, laidLooks := .later }
def FnExactMendStitchUptoCardSaid : Prop := Claim7.holds Tryd.pinned (.plain (OpenSpec.upto fnExactMendStitchSpec)) fnExactMendStitchUptoCard

/-- THE SECOND FORM's CARD OF 'laws.FnExactMissingBy'. -/
def fnExactMissingByUptoCard : Claim7 := { stood := { row := fnExactMissingByUptoRow, standIns := [], harness := (true, "e9fb5674e8a852dd295d97154d09afe1c173022a476122119cab50d6c0c93339"), looks := true }, kinds := [], alts := [], laidByText := true, laidKinds := [.sentinel, .sentinel, .sentinel, .sentinel, .sentinel, .sentinel, .sentinel], laidTests := true, laidLooks := .later }
def FnExactMissingByUptoCardSaid : Prop := Claim7.holds Tryd.pinned (.plain (OpenSpec.upto fnExactMissingBySpec)) fnExactMissingByUptoCard

/-- THE SECOND FORM's CARD OF 'laws.FnExactApartBy'. -/
def fnExactApartByUptoCard : Claim7 := { stood := { row := fnExactApartByUptoRow, standIns := [], harness := (true, "e9fb5674e8a852dd295d97154d09afe1c173022a476122119cab50d6c0c93339"), looks := true }, kinds := [], alts := [], laidByText := true, laidKinds := [.sentinel, .sentinel, .sentinel, .sentinel, .sentinel, .sentinel, .sentinel], laidTests := true, laidLooks := .later }
def FnExactApartByUptoCardSaid : Prop := Claim7.holds Tryd.pinned (.plain (OpenSpec.upto fnExactApartBySpec)) fnExactApartByUptoCard

/-- THE SECOND FORM's CARD OF 'laws.FnExactLeastApart'. -/
def fnExactLeastApartUptoCard : Claim7 := { stood := { row := fnExactLeastApartUptoRow, standIns := [], harness := (true, "e9fb5674e8a852dd295d97154d09afe1c173022a476122119cab50d6c0c93339"), looks := true }, kinds := [], alts := [], laidByText := true, laidKinds := [.sentinel, .sentinel, .sentinel, .sentinel, .sentinel, .sentinel, .sentinel], laidTests := true, laidLooks := .later }
def FnExactLeastApartUptoCardSaid : Prop := Claim7.holds Tryd.pinned (.plain (OpenSpec.upto fnExactLeastApartSpec)) fnExactLeastApartUptoCard

/-- THE SECOND FORM's CARD OF 'laws.FnExactSortByMarks'. -/
def fnExactSortByMarksUptoCard : Claim7 := { stood := { row := fnExactSortByMarksUptoRow, standIns := [], harness := (true, "e9fb5674e8a852dd295d97154d09afe1c173022a476122119cab50d6c0c93339"), looks := true }, kinds := [], alts := [], laidByText := true, laidKinds := [.sentinel, .sentinel, .sentinel, .sentinel, .sentinel, .sentinel, .sentinel], laidTests := true, laidLooks := .later }
def FnExactSortByMarksUptoCardSaid : Prop := Claim7.holds Tryd.pinned (.plain (OpenSpec.upto fnExactSortByMarksSpec)) fnExactSortByMarksUptoCard

/-- THE SECOND FORM's CARD OF 'laws.FnExactLikelyLost'. -/
def fnExactLikelyLostUptoCard : Claim7 := { stood := { row := fnExactLikelyLostUptoRow, standIns := [], harness := (true, "e9fb5674e8a852dd295d97154d09afe1c173022a476122119cab50d6c0c93339"), looks := true }, kinds := [], alts := [], laidByText := true, laidKinds := [.sentinel, .sentinel, .sentinel, .sentinel, .sentinel, .sentinel, .sentinel], laidTests := true, laidLooks := .later }
def FnExactLikelyLostUptoCardSaid : Prop := Claim7.holds Tryd.pinned (.plain (OpenSpec.upto fnExactLikelyLostSpec)) fnExactLikelyLostUptoCard
end Rows
end Go.Proofs.YtlembainfhnnbaaDoor
