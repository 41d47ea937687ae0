/-
  DERIVED. GIVEN WITH THE SEED: THE CARDS: each row of YtdcckdfemelbiaaDoorRows.lean that lists a variable, with what it lists TIED to the program's text (the seventh form; the later family's looks); each row that meets fmt, with fmt's text TOLD by the authors' own Lean function (tested against real Go, not proved from fmt's source: count such statements apart). THE CARD IS WHAT COUNTS. Prove the row's statement (the work); the ties are given (YtdcckdfemelbiaaDoorTie.lean); close each card by the builder's one call (the guide's Derived/Test/ToyasCard.lean, 'card_holds'). Laid BY PROGRAM, IN A SANDBOX (cutbox-door.mjs). By AI agents, Wed Nov 11 2026. No macro, syntax, notation, axiom, sorry.
-/
import Derived.Test.YtdcckdfemelbiaaDoorRows
import GoSem.ClaimSeven
namespace Go.Proofs.YtdcckdfemelbiaaDoor
namespace Rows

/-- THE TIED CARD OF 'laws.FnExactFoldsText'. -/
def fnExactFoldsTextCard : Claim7 := { stood := { row := fnExactFoldsTextRow, standIns := [], harness := (true, "c489f444a003d2373c37a4d9cbec0423839b5298c5d3c9f64b410717403c5ed6"), looks := true }, kinds := [], alts := [], laidByText := true, laidKinds := [.sentinel, .sentinel], laidTests := true, laidLooks := .later }
def FnExactFoldsTextCardSaid : Prop := Claim7.holds Tryd.pinned (.plain (OpenSpec.ofChange fnExactFoldsTextSpec)) fnExactFoldsTextCard

/-- THE TIED CARD OF 'laws.FnExactPutSheet'. -/
def fnExactPutSheetCard : Claim7 := { stood := { row := fnExactPutSheetRow, standIns := [], harness := (true, "c489f444a003d2373c37a4d9cbec0423839b5298c5d3c9f64b410717403c5ed6"), looks := true }, kinds := [], alts := [], laidByText := true, laidKinds := [.sentinel, .sentinel, .sentinel, .sentinel, .sentinel, .sentinel, .sentinel], laidTests := true, laidLooks := .later }
def FnExactPutSheetCardSaid : Prop := Claim7.holds Tryd.pinned (.plain (OpenSpec.ofChange fnExactPutSheetSpec)) fnExactPutSheetCard

/-- THE TIED CARD OF 'laws.FnExactOldestFirst'. -/
def fnExactOldestFirstCard : Claim7 := { stood := { row := fnExactOldestFirstRow, standIns := [], harness := (true, "c489f444a003d2373c37a4d9cbec0423839b5298c5d3c9f64b410717403c5ed6"), looks := true }, kinds := [], alts := [], laidByText := true, laidKinds := [.sentinel, .sentinel, .sentinel, .sentinel, .sentinel, .sentinel, .sentinel], laidTests := true, laidLooks := .later }
def FnExactOldestFirstCardSaid : Prop := Claim7.holds Tryd.pinned (.plain (OpenSpec.ofChange fnExactOldestFirstSpec)) fnExactOldestFirstCard

/-- THE TIED CARD OF 'laws.FnExactLevelCupboard'. -/
def fnExactLevelCupboardCard : Claim7 := { stood := { row := fnExactLevelCupboardRow, standIns := [], harness := (true, "c489f444a003d2373c37a4d9cbec0423839b5298c5d3c9f64b410717403c5ed6"), looks := true }, kinds := [], alts := [], laidByText := true, laidKinds := [.sentinel, .sentinel, .sentinel, .sentinel, .sentinel, .sentinel, .sentinel], laidTests := true, laidLooks := .later }
def FnExactLevelCupboardCardSaid : Prop := Claim7.holds Tryd.pinned (.plain (OpenSpec.ofChange fnExactLevelCupboardSpec)) fnExactLevelCupboardCard

/-- THE TIED CARD OF 'laws.FnExactFewestFolds'. -/
def fnExactFewestFoldsCard : Claim7 := { stood := { row := fnExactFewestFoldsRow, standIns := [], harness := (true, "c489f444a003d2373c37a4d9cbec0423839b5298c5d3c9f64b410717403c5ed6"), looks := true }, kinds := [], alts := [], laidByText := true, laidKinds := [.sentinel, .sentinel, .sentinel, .sentinel, .sentinel, .sentinel, .sentinel], laidTests := true, laidLooks := .later }
def FnExactFewestFoldsCardSaid : Prop := Claim7.holds Tryd.pinned (.plain (OpenSpec.ofChange fnExactFewestFoldsSpec)) fnExactFewestFoldsCard

/-- THE TIED CARD OF 'laws.FnExactSmallestFor'. -/
def fnExactSmallestForCard : Claim7 := { stood := { row := fnExactSmallestForRow, standIns := [], harness := (true, "c489f444a003d2373c37a4d9cbec0423839b5298c5d3c9f64b410717403c5ed6"), looks := true }, kinds := [], alts := [], laidByText := true, laidKinds := [.sentinel, .sentinel, .sentinel, .sentinel, .sentinel, .sentinel, .sentinel], laidTests := true, laidLooks := .later }
def FnExactSmallestForCardSaid : Prop := Claim7.holds Tryd.pinned (.plain (OpenSpec.ofChange fnExactSmallestForSpec)) fnExactSmallestForCard

/-- THE TIED CARD OF 'laws.FnExactWashHouse'. -/
def fnExactWashHouseCard : Claim7 := { stood := { row := fnExactWashHouseRow, standIns := [], harness := (true, "c489f444a003d2373c37a4d9cbec0423839b5298c5d3c9f64b410717403c5ed6"), looks := true }, kinds := [], alts := [], laidByText := true, laidKinds := [.sentinel, .sentinel, .sentinel, .sentinel, .sentinel, .sentinel, .sentinel], laidTests := true, laidLooks := .later }
def FnExactWashHouseCardSaid : Prop := Claim7.holds Tryd.pinned (.plain (OpenSpec.ofChange fnExactWashHouseSpec)) fnExactWashHouseCard

/-- THE TIED CARD OF 'laws.FnExactDayOnce'. -/
def fnExactDayOnceCard : Claim7 := { stood := { row := fnExactDayOnceRow, standIns := [], harness := (true, "c489f444a003d2373c37a4d9cbec0423839b5298c5d3c9f64b410717403c5ed6"), looks := true }, kinds := [], alts := [], laidByText := true, laidKinds := [.sentinel, .sentinel, .sentinel, .sentinel, .sentinel, .sentinel, .sentinel], laidTests := true, laidLooks := .later }
def FnExactDayOnceCardSaid : Prop := Claim7.holds Tryd.pinned (.plain (OpenSpec.ofChange fnExactDayOnceSpec)) fnExactDayOnceCard

/-- THE TIED CARD OF 'laws.FnExactDayAll'. -/
def fnExactDayAllCard : Claim7 := { stood := { row := fnExactDayAllRow, standIns := [], harness := (true, "c489f444a003d2373c37a4d9cbec0423839b5298c5d3c9f64b410717403c5ed6"), looks := true }, kinds := [], alts := [], laidByText := true, laidKinds := [.sentinel, .sentinel, .sentinel, .sentinel, .sentinel, .sentinel, .sentinel], laidTests := true, laidLooks := .later }
def FnExactDayAllCardSaid : Prop := Claim7.holds Tryd.pinned (.plain (OpenSpec.ofChange fnExactDayAllSpec)) fnExactDayAllCard

/-- THE TIED CARD OF 'laws.FnExactWornOut'. -/
def fnExactWornOutCard : Claim7 := { stood := { row := fnExactWornOutRow, standIns := [], harness := (true, "c489f444a003d2373c37a4d9cbec0423839b5298c5d3c9f64b410717403c5ed6"), looks := true }, kinds := [], alts := [], laidByText := true, laidKinds := [.sentinel, .sentinel, .sentinel, .sentinel, .sentinel, .sentinel, .sentinel], laidTests := true, laidLooks := .later }
def FnExactWornOutCardSaid : Prop := Claim7.holds Tryd.pinned (.plain (OpenSpec.ofChange fnExactWornOutSpec)) fnExactWornOutCard

/-- THE TIED CARD OF 'laws.FnExactFirstShort'. -/
def fnExactFirstShortCard : Claim7 := { stood := { row := fnExactFirstShortRow, standIns := [], harness := (true, "c489f444a003d2373c37a4d9cbec0423839b5298c5d3c9f64b410717403c5ed6"), looks := true }, kinds := [], alts := [], laidByText := true, laidKinds := [.sentinel, .sentinel, .sentinel, .sentinel, .sentinel, .sentinel, .sentinel], laidTests := true, laidLooks := .later }
def FnExactFirstShortCardSaid : Prop := Claim7.holds Tryd.pinned (.plain (OpenSpec.ofChange fnExactFirstShortSpec)) fnExactFirstShortCard

/-- THE TIED CARD OF 'laws.FnExactLeastStock'. -/
def fnExactLeastStockCard : Claim7 := { stood := { row := fnExactLeastStockRow, standIns := [], harness := (true, "c489f444a003d2373c37a4d9cbec0423839b5298c5d3c9f64b410717403c5ed6"), looks := true }, kinds := [], alts := [], laidByText := true, laidKinds := [.sentinel, .sentinel, .sentinel, .sentinel, .sentinel, .sentinel, .sentinel], laidTests := true, laidLooks := .later }
def FnExactLeastStockCardSaid : Prop := Claim7.holds Tryd.pinned (.plain (OpenSpec.ofChange fnExactLeastStockSpec)) fnExactLeastStockCard

/-- THE TIED CARD OF 'laws.FnExactLastsFor'. -/
def fnExactLastsForCard : Claim7 := { stood := { row := fnExactLastsForRow, standIns := [], harness := (true, "c489f444a003d2373c37a4d9cbec0423839b5298c5d3c9f64b410717403c5ed6"), looks := true }, kinds := [], alts := [], laidByText := true, laidKinds := [.sentinel, .sentinel, .sentinel, .sentinel, .sentinel, .sentinel, .sentinel], laidTests := true, laidLooks := .later }
def FnExactLastsForCardSaid : Prop := Claim7.holds Tryd.pinned (.plain (OpenSpec.ofChange fnExactLastsForSpec)) fnExactLastsForCard

/-- THE SECOND FORM's CARD OF 'laws.FnExactFoldsText'. -/
def fnExactFoldsTextUptoCard : Claim7 := { stood := { row := fnExactFoldsTextUptoRow, standIns := [], harness := (true, "c489f444a003d2373c37a4d9cbec0423839b5298c5d3c9f64b410717403c5ed6"), looks := true }, kinds := [], alts := [], laidByText := true, laidKinds := [.sentinel, .sentinel], laidTests := true, laidLooks := .later }
def FnExactFoldsTextUptoCardSaid : Prop := Claim7.holds Tryd.pinned (.plain (OpenSpec.upto fnExactFoldsTextSpec)) fnExactFoldsTextUptoCard

/-- THE SECOND FORM's CARD OF 'laws.FnExactPutSheet'. -/
def fnExactPutSheetUptoCard : Claim7 := { stood := { row := fnExactPutSheetUptoRow, standIns := [], harness := (true, "c489f444a003d2373c37a4d9cbec0423839b5298c5d3c9f64b410717403c5ed6"), looks := true }, kinds := [], alts := [], laidByText := true, laidKinds := [.sentinel, .sentinel, .sentinel, .sentinel, .sentinel, .sentinel, .sentinel], laidTests := true, laidLooks := .later }
def FnExactPutSheetUptoCardSaid : Prop := Claim7.holds Tryd.pinned (.plain (OpenSpec.upto fnExactPutSheetSpec)) fnExactPutSheetUptoCard

/-- THE SECOND FORM's CARD OF 'laws.FnExactOldestFirst'. -/
def fnExactOldestFirstUptoCard : Claim7 := { stood := { row := fnExactOldestFirstUptoRow, standIns := [], harness := (true, "c489f444a003d2373c37a4d9cbec0423839b5298c5d3c9f64b410717403c5ed6"), looks := true }, kinds := [], alts := [], laidByText := true, laidKinds := [.sentinel, .sentinel, .sentinel, .sentinel, .sentinel, .sentinel, .sentinel], laidTests := true, laidLooks := .later }
def FnExactOldestFirstUptoCardSaid : Prop := Claim7.holds Tryd.pinned (.plain (OpenSpec.upto fnExactOldestFirstSpec)) fnExactOldestFirstUptoCard

/-- THE SECOND FORM's CARD OF 'laws.FnExactLevelCupboard'. -/
def fnExactLevelCupboardUptoCard : Claim7 := { stood := { row := fnExactLevelCupboardUptoRow, standIns := [], harness := (true, "c489f444a003d2373c37a4d9cbec0423839b5298c5d3c9f64b410717403c5ed6"), looks := true }, kinds := [], alts := [], laidByText := true, laidKinds := [.sentinel, .sentinel, .sentinel, .sentinel, .sentinel, .sentinel, .sentinel], laidTests := true, laidLooks := .later }
def FnExactLevelCupboardUptoCardSaid : Prop := Claim7.holds Tryd.pinned (.plain (OpenSpec.upto fnExactLevelCupboardSpec)) fnExactLevelCupboardUptoCard

/-- THE SECOND FORM's CARD OF 'laws.FnExactFewestFolds'. -/
def fnExactFewestFoldsUptoCard : Claim7 := { stood := { row := fnExactFewestFoldsUptoRow, standIns := [], harness := (true, "c489f444a003d2373c37a4d9cbec0423839b5298c5d3c9f64b410717403c5ed6"), looks := true }, kinds := [], alts := [], laidByText := true, laidKinds := [.sentinel, .sentinel, .sentinel, .sentinel, .sentinel, .sentinel, .sentinel], laidTests := true, laidLooks := .later }
def FnExactFewestFoldsUptoCardSaid : Prop := Claim7.holds Tryd.pinned (.plain (OpenSpec.upto fnExactFewestFoldsSpec)) fnExactFewestFoldsUptoCard

/-- THE SECOND FORM's CARD OF 'laws.FnExactSmallestFor'. -/
def fnExactSmallestForUptoCard : Claim7 := { stood := { row := fnExactSmallestForUptoRow, standIns := [], harness := (true, "c489f444a003d2373c37a4d9cbec0423839b5298c5d3c9f64b410717403c5ed6"), looks := true }, kinds := [], alts := [], laidByText := true, laidKinds := [.sentinel, .sentinel, .sentinel, .sentinel, .sentinel, .sentinel, .sentinel], laidTests := true, laidLooks := .later }
def FnExactSmallestForUptoCardSaid : Prop := Claim7.holds Tryd.pinned (.plain (OpenSpec.upto fnExactSmallestForSpec)) fnExactSmallestForUptoCard

/-- THE SECOND FORM's CARD OF 'laws.FnExactWashHouse'. -/
def fnExactWashHouseUptoCard : Claim7 := { stood := { row := fnExactWashHouseUptoRow, standIns := [], harness := (true, "c489f444a003d2373c37a4d9cbec0423839b5298c5d3c9f64b410717403c5ed6"), looks := true }, kinds := [], alts := [], laidByText := true, laidKinds := [.sentinel, .sentinel, .sentinel, .sentinel, .sentinel, .sentinel, .sentinel], laidTests := true, laidLooks := .later }
def FnExactWashHouseUptoCardSaid : Prop := Claim7.holds Tryd.pinned (.plain (OpenSpec.upto fnExactWashHouseSpec)) fnExactWashHouseUptoCard

/-- THE SECOND FORM's CARD OF 'laws.FnExactDayOnce'. -/
def fnExactDayOnceUptoCard : Claim7 := { stood := { row := fnExactDayOnceUptoRow, standIns := [], harness := (true, "c489f444a003d2373c37a4d9cbec0423839b5298c5d3c9f64b410717403c5ed6"), looks := true }, kinds := [], alts := [], laidByText := true, laidKinds := [.sentinel, .sentinel, .sentinel, .sentinel, .sentinel, .sentinel, .sentinel], laidTests := true, laidLooks := .later }
def FnExactDayOnceUptoCardSaid : Prop := Claim7.holds Tryd.pinned (.plain (OpenSpec.upto fnExactDayOnceSpec)) fnExactDayOnceUptoCard

/-- THE SECOND FORM's CARD OF 'laws.FnExactDayAll'. -/
def fnExactDayAllUptoCard : Claim7 := { stood := { row := fnExactDayAllUptoRow, standIns := [], harness := (true, "c489f444a003d2373c37a4d9cbec0423839b5298c5d3c9f64b410717403c5ed6"), looks := true }, kinds := [], alts := [], laidByText := true, laidKinds := [.sentinel, .sentinel, .sentinel, .sentinel, .sentinel, .sentinel, .sentinel], laidTests := true, laidLooks := .later }
def FnExactDayAllUptoCardSaid : Prop := Claim7.holds Tryd.pinned (.plain (OpenSpec.upto fnExactDayAllSpec)) fnExactDayAllUptoCard

/-- THE SECOND FORM's CARD OF 'laws.FnExactWornOut'. -/
def fnExactWornOutUptoCard : Claim7 := { stood := { row := fnExactWornOutUptoRow, standIns := [], harness := (true, "c489f444a003d2373c37a4d9cbec0423839b5298c5d3c9f64b410717403c5ed6"), looks := true }, kinds := [], alts := [], laidByText := true, laidKinds := [.sentinel, .sentinel, .sentinel, .sentinel, .sentinel, .sentinel, .sentinel], laidTests := true, laidLooks := .later }
def FnExactWornOutUptoCardSaid : Prop := Claim7.holds Tryd.pinned (.plain (OpenSpec.upto fnExactWornOutSpec)) fnExactWornOutUptoCard

/-- THE SECOND FORM's CARD OF 'laws.FnExactFirstShort'. -/
def fnExactFirstShortUptoCard : Claim7 := { stood := { row := fnExactFirstShortUptoRow, standIns := [], harness := (true, "c489f444a003d2373c37a4d9cbec0423839b5298c5d3c9f64b410717403c5ed6"), looks := true }, kinds := [], alts := [], laidByText := true, laidKinds := [.sentinel, .sentinel, .sentinel, .sentinel, .sentinel, .sentinel, .sentinel], laidTests := true, laidLooks := .later }
def FnExactFirstShortUptoCardSaid : Prop := Claim7.holds Tryd.pinned (.plain (OpenSpec.upto fnExactFirstShortSpec)) fnExactFirstShortUptoCard

/-- THE SECOND FORM's CARD OF 'laws.FnExactLeastStock'. -/
def fnExactLeastStockUptoCard : Claim7 := { stood := { row := fnExactLeastStockUptoRow, standIns := [], harness := (true, "c489f444a003d2373c37a4d9cbec0423839b5298c5d3c9f64b410717403c5ed6"), looks := true }, kinds := [], alts := [], laidByText := true, laidKinds := [.sentinel, .sentinel, .sentinel, .sentinel, .sentinel, .sentinel, .sentinel], laidTests := true, laidLooks := .later }
def FnExactLeastStockUptoCardSaid : Prop := Claim7.holds Tryd.pinned (.plain (OpenSpec.upto fnExactLeastStockSpec)) fnExactLeastStockUptoCard

/-- THE SECOND FORM's CARD OF 'laws.FnExactLastsFor'. -/
def fnExactLastsForUptoCard : Claim7 := { stood := { row := fnExactLastsForUptoRow, standIns := [], harness := (true, "c489f444a003d2373c37a4d9cbec0423839b5298c5d3c9f64b410717403c5ed6"), looks := true }, kinds := [], alts := [], laidByText := true, laidKinds := [.sentinel, .sentinel, .sentinel, .sentinel, .sentinel, .sentinel, .sentinel], laidTests := true, laidLooks := .later }
def FnExactLastsForUptoCardSaid : Prop := Claim7.holds Tryd.pinned (.plain (OpenSpec.upto fnExactLastsForSpec)) fnExactLastsForUptoCard
end Rows
end Go.Proofs.YtdcckdfemelbiaaDoor
