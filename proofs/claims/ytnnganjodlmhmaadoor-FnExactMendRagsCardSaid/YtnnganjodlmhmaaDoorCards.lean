/-
  DERIVED. GIVEN WITH THE SEED: THE CARDS: each row of YtnnganjodlmhmaaDoorRows.lean that lists a variable, with what it lists TIED to the program's text (the seventh form; the later family's looks); each row that meets fmt, with fmt's text TOLD by the authors' own Lean function (tested against real Go, not proved from fmt's source: count such statements apart). THE CARD IS WHAT COUNTS. Prove the row's statement (the work); the ties are given (YtnnganjodlmhmaaDoorTie.lean); close each card by the builder's one call (the guide's Derived/Test/ToyasCard.lean, 'card_holds'). Laid BY PROGRAM, IN A SANDBOX (cutbox-door.mjs). By AI agents, Wed Nov 11 2026. No macro, syntax, notation, axiom, sorry.
-/
import Derived.Test.YtnnganjodlmhmaaDoorRows
import GoSem.ClaimSeven
namespace Go.Proofs.YtnnganjodlmhmaaDoor
namespace Rows

/-- THE TIED CARD OF 'laws.FnExactMendRags'. -/
def fnExactMendRagsCard : Claim7 := { stood := { row := fnExactMendRagsRow, standIns := [], harness := (true, "79d07f078c320a14c75cab838b3933855142a7410c5809f9f49a12a4260c5af0"), looks := true }, kinds := [], alts := [], laidByText := true, laidKinds := [.sentinel, .sentinel, .sentinel, .sentinel, .sentinel, .sentinel, .sentinel], laidTests := true, laidLooks := .later }
def FnExactMendRagsCardSaid : Prop := Claim7.holds Tryd.pinned (.plain (OpenSpec.ofChange fnExactMendRagsSpec)) fnExactMendRagsCard

/-- THE TIED CARD OF 'laws.FnExactWashHouse'. -/
def fnExactWashHouseCard : Claim7 := { stood := { row := fnExactWashHouseRow, standIns := [], harness := (true, "79d07f078c320a14c75cab838b3933855142a7410c5809f9f49a12a4260c5af0"), looks := true }, kinds := [], alts := [], laidByText := true, laidKinds := [.sentinel, .sentinel, .sentinel, .sentinel, .sentinel, .sentinel, .sentinel], laidTests := true, laidLooks := .later }
def FnExactWashHouseCardSaid : Prop := Claim7.holds Tryd.pinned (.plain (OpenSpec.ofChange fnExactWashHouseSpec)) fnExactWashHouseCard

/-- THE TIED CARD OF 'laws.FnExactDayOnce'. -/
def fnExactDayOnceCard : Claim7 := { stood := { row := fnExactDayOnceRow, standIns := [], harness := (true, "79d07f078c320a14c75cab838b3933855142a7410c5809f9f49a12a4260c5af0"), looks := true }, kinds := [], alts := [], laidByText := true, laidKinds := [.sentinel, .sentinel, .sentinel, .sentinel, .sentinel, .sentinel, .sentinel], laidTests := true, laidLooks := .later }
def FnExactDayOnceCardSaid : Prop := Claim7.holds Tryd.pinned (.plain (OpenSpec.ofChange fnExactDayOnceSpec)) fnExactDayOnceCard

/-- THE TIED CARD OF 'laws.FnExactDayAll'. -/
def fnExactDayAllCard : Claim7 := { stood := { row := fnExactDayAllRow, standIns := [], harness := (true, "79d07f078c320a14c75cab838b3933855142a7410c5809f9f49a12a4260c5af0"), looks := true }, kinds := [], alts := [], laidByText := true, laidKinds := [.sentinel, .sentinel, .sentinel, .sentinel, .sentinel, .sentinel, .sentinel], laidTests := true, laidLooks := .later }
def FnExactDayAllCardSaid : Prop := Claim7.holds Tryd.pinned (.plain (OpenSpec.ofChange fnExactDayAllSpec)) fnExactDayAllCard

/-- THE TIED CARD OF 'laws.FnExactWornOut'. -/
def fnExactWornOutCard : Claim7 := { stood := { row := fnExactWornOutRow, standIns := [], harness := (true, "79d07f078c320a14c75cab838b3933855142a7410c5809f9f49a12a4260c5af0"), looks := true }, kinds := [], alts := [], laidByText := true, laidKinds := [.sentinel, .sentinel, .sentinel, .sentinel, .sentinel, .sentinel, .sentinel], laidTests := true, laidLooks := .later }
def FnExactWornOutCardSaid : Prop := Claim7.holds Tryd.pinned (.plain (OpenSpec.ofChange fnExactWornOutSpec)) fnExactWornOutCard

/-- THE TIED CARD OF 'laws.FnExactFirstShort'. -/
def fnExactFirstShortCard : Claim7 := { stood := { row := fnExactFirstShortRow, standIns := [], harness := (true, "79d07f078c320a14c75cab838b3933855142a7410c5809f9f49a12a4260c5af0"), looks := true }, kinds := [], alts := [], laidByText := true, laidKinds := [.sentinel, .sentinel, .sentinel, .sentinel, .sentinel, .sentinel, .sentinel], laidTests := true, laidLooks := .later }
def FnExactFirstShortCardSaid : Prop := Claim7.holds Tryd.pinned (.plain (OpenSpec.ofChange fnExactFirstShortSpec)) fnExactFirstShortCard

/-- THE TIED CARD OF 'laws.FnExactLeastStock'. -/
def fnExactLeastStockCard : Claim7 := { stood := { row := fnExactLeastStockRow, standIns := [], harness := (true, "79d07f078c320a14c75cab838b3933855142a7410c5809f9f49a12a4260c5af0"), looks := true }, kinds := [], alts := [], laidByText := true, laidKinds := [.sentinel, .sentinel, .sentinel, .sentinel, .sentinel, .sentinel, .sentinel], laidTests := true, laidLooks := .later }
def FnExactLeastStockCardSaid : Prop := Claim7.holds Tryd.pinned (.plain (OpenSpec.ofChange fnExactLeastStockSpec)) fnExactLeastStockCard

/-- THE TIED CARD OF 'laws.FnExactLastsFor'. -/
def fnExactLastsForCard : Claim7 := { stood := { row := fnExactLastsForRow, standIns := [], harness := (true, "79d07f078c320a14c75cab838b3933855142a7410c5809f9f49a12a4260c5af0"), looks := true }, kinds := [], alts := [], laidByText := true, laidKinds := [.sentinel, .sentinel, .sentinel, .sentinel, .sentinel, .sentinel, .sentinel], laidTests := true, laidLooks := .later }
def FnExactLastsForCardSaid : Prop := Claim7.holds Tryd.pinned (.plain (OpenSpec.ofChange fnExactLastsForSpec)) fnExactLastsForCard

/-- THE SECOND FORM's CARD OF 'laws.FnExactMendRags'. -/
def fnExactMendRagsUptoCard : Claim7 := { stood := { row := fnExactMendRagsUptoRow, standIns := [], harness := (true, "79d07f078c320a14c75cab838b3933855142a7410c5809f9f49a12a4260c5af0"), looks := true }, kinds := [], alts := [], laidByText := true, laidKinds := [.sentinel, .sentinel, .sentinel, .sentinel, .sentinel, .sentinel, .sentinel], laidTests := true, laidLooks := .later }
def FnExactMendRagsUptoCardSaid : Prop := Claim7.holds Tryd.pinned (.plain (OpenSpec.upto fnExactMendRagsSpec)) fnExactMendRagsUptoCard

/-- THE SECOND FORM's CARD OF 'laws.FnExactWashHouse'. -/
def fnExactWashHouseUptoCard : Claim7 := { stood := { row := fnExactWashHouseUptoRow, standIns := [], harness := (true, "79d07f078c320a14c75cab838b3933855142a7410c5809f9f49a12a4260c5af0"), looks := true }, kinds := [], alts := [], laidByText := true, laidKinds := [.sentinel, .sentinel, .sentinel, .sentinel, .sentinel, .sentinel, .sentinel], laidTests := true, laidLooks := .later }
def FnExactWashHouseUptoCardSaid : Prop := Claim7.holds Tryd.pinned (.plain (OpenSpec.upto fnExactWashHouseSpec)) fnExactWashHouseUptoCard

/-- THE SECOND FORM's CARD OF 'laws.FnExactDayOnce'. -/
def fnExactDayOnceUptoCard : Claim7 := { stood := { row := fnExactDayOnceUptoRow, standIns := [], harness := (true, "79d07f078c320a14c75cab838b3933855142a7410c5809f9f49a12a4260c5af0"), looks := true }, kinds := [], alts := [], laidByText := true, laidKinds := [.sentinel, .sentinel, .sentinel, .sentinel, .sentinel, .sentinel, .sentinel], laidTests := true, laidLooks := .later }
def FnExactDayOnceUptoCardSaid : Prop := Claim7.holds Tryd.pinned (.plain (OpenSpec.upto fnExactDayOnceSpec)) fnExactDayOnceUptoCard

/-- THE SECOND FORM's CARD OF 'laws.FnExactDayAll'. -/
def fnExactDayAllUptoCard : Claim7 := { stood := { row := fnExactDayAllUptoRow, standIns := [], harness := (true, "79d07f078c320a14c75cab838b3933855142a7410c5809f9f49a12a4260c5af0"), looks := true }, kinds := [], alts := [], laidByText := true, laidKinds := [.sentinel, .sentinel, .sentinel, .sentinel, .sentinel, .sentinel, .sentinel], laidTests := true, laidLooks := .later }
def FnExactDayAllUptoCardSaid : Prop := Claim7.holds Tryd.pinned (.plain (OpenSpec.upto fnExactDayAllSpec)) fnExactDayAllUptoCard

/-- THE SECOND FORM's CARD OF 'laws.FnExactWornOut'. -/
def fnExactWornOutUptoCard : Claim7 := { stood := { row := fnExactWornOutUptoRow, standIns := [], harness := (true, "79d07f078c320a14c75cab838b3933855142a7410c5809f9f49a12a4260c5af0"), looks := true }, kinds := [], alts := [], laidByText := true, laidKinds := [.sentinel, .sentinel, .sentinel, .sentinel, .sentinel, .sentinel, .sentinel], laidTests := true, laidLooks := .later }
def FnExactWornOutUptoCardSaid : Prop := Claim7.holds Tryd.pinned (.plain (OpenSpec.upto fnExactWornOutSpec)) fnExactWornOutUptoCard

/-- THE SECOND FORM's CARD OF 'laws.FnExactFirstShort'. -/
def fnExactFirstShortUptoCard : Claim7 := { stood := { row := fnExactFirstShortUptoRow, standIns := [], harness := (true, "79d07f078c320a14c75cab838b3933855142a7410c5809f9f49a12a4260c5af0"), looks := true }, kinds := [], alts := [], laidByText := true, laidKinds := [.sentinel, .sentinel, .sentinel, .sentinel, .sentinel, .sentinel, .sentinel], laidTests := true, laidLooks := .later }
def FnExactFirstShortUptoCardSaid : Prop := Claim7.holds Tryd.pinned (.plain (OpenSpec.upto fnExactFirstShortSpec)) fnExactFirstShortUptoCard

/-- THE SECOND FORM's CARD OF 'laws.FnExactLeastStock'. -/
def fnExactLeastStockUptoCard : Claim7 := { stood := { row := fnExactLeastStockUptoRow, standIns := [], harness := (true, "79d07f078c320a14c75cab838b3933855142a7410c5809f9f49a12a4260c5af0"), looks := true }, kinds := [], alts := [], laidByText := true, laidKinds := [.sentinel, .sentinel, .sentinel, .sentinel, .sentinel, .sentinel, .sentinel], laidTests := true, laidLooks := .later }
def FnExactLeastStockUptoCardSaid : Prop := Claim7.holds Tryd.pinned (.plain (OpenSpec.upto fnExactLeastStockSpec)) fnExactLeastStockUptoCard

/-- THE SECOND FORM's CARD OF 'laws.FnExactLastsFor'. -/
def fnExactLastsForUptoCard : Claim7 := { stood := { row := fnExactLastsForUptoRow, standIns := [], harness := (true, "79d07f078c320a14c75cab838b3933855142a7410c5809f9f49a12a4260c5af0"), looks := true }, kinds := [], alts := [], laidByText := true, laidKinds := [.sentinel, .sentinel, .sentinel, .sentinel, .sentinel, .sentinel, .sentinel], laidTests := true, laidLooks := .later }
def FnExactLastsForUptoCardSaid : Prop := Claim7.holds Tryd.pinned (.plain (OpenSpec.upto fnExactLastsForSpec)) fnExactLastsForUptoCard
end Rows
end Go.Proofs.YtnnganjodlmhmaaDoor
