/-
  DERIVED. GIVEN WITH THE SEED: THE CARDS: each row of YtajhdgoinghmmaaDoorRows.lean that lists a variable, with what it lists TIED to the program's text (the seventh form; the later family's looks); each row that meets fmt, with fmt's text TOLD by the authors' own Lean function (tested against real Go, not proved from fmt's source: count such statements apart). THE CARD IS WHAT COUNTS. Prove the row's statement (the work); the ties are given (YtajhdgoinghmmaaDoorTie.lean); close each card by the builder's one call (the guide's Derived/Test/ToyasCard.lean, 'card_holds'). Laid BY PROGRAM, IN A SANDBOX (cutbox-door.mjs). By AI agents, Wed Nov 11 2026. No macro, syntax, notation, axiom, sorry.
-/
import Derived.Test.YtajhdgoinghmmaaDoorRows
import GoSem.ClaimSeven
namespace Go.Proofs.YtajhdgoinghmmaaDoor
namespace Rows

/-- THE TIED CARD OF 'laws.FnExactChangeTime'. -/
def fnExactChangeTimeCard : Claim7 := { stood := { row := fnExactChangeTimeRow, standIns := [], harness := (true, "8b436b0d4ebc244ca5fa1ecb4acd5e6b323842bc986de5ee1cc583ce84129dc0"), looks := true }, kinds := [], alts := [], laidByText := true, laidKinds := [.sentinel, .sentinel, .sentinel, .sentinel, .sentinel, .sentinel, .sentinel], laidTests := true, laidLooks := .later }
def FnExactChangeTimeCardSaid : Prop := Claim7.holds Tryd.pinned (.plain (OpenSpec.ofChange fnExactChangeTimeSpec)) fnExactChangeTimeCard

/-- THE TIED CARD OF 'laws.FnExactFinishTimes'. -/
def fnExactFinishTimesCard : Claim7 := { stood := { row := fnExactFinishTimesRow, standIns := [], harness := (true, "8b436b0d4ebc244ca5fa1ecb4acd5e6b323842bc986de5ee1cc583ce84129dc0"), looks := true }, kinds := [], alts := [], laidByText := true, laidKinds := [.sentinel, .sentinel, .sentinel, .sentinel, .sentinel, .sentinel, .sentinel], laidTests := true, laidLooks := .later }
def FnExactFinishTimesCardSaid : Prop := Claim7.holds Tryd.pinned (.plain (OpenSpec.ofChange fnExactFinishTimesSpec)) fnExactFinishTimesCard

/-- THE TIED CARD OF 'laws.FnExactTotalTime'. -/
def fnExactTotalTimeCard : Claim7 := { stood := { row := fnExactTotalTimeRow, standIns := [], harness := (true, "8b436b0d4ebc244ca5fa1ecb4acd5e6b323842bc986de5ee1cc583ce84129dc0"), looks := true }, kinds := [], alts := [], laidByText := true, laidKinds := [.sentinel, .sentinel, .sentinel, .sentinel, .sentinel, .sentinel, .sentinel], laidTests := true, laidLooks := .later }
def FnExactTotalTimeCardSaid : Prop := Claim7.holds Tryd.pinned (.plain (OpenSpec.ofChange fnExactTotalTimeSpec)) fnExactTotalTimeCard

/-- THE TIED CARD OF 'laws.FnExactLateIn'. -/
def fnExactLateInCard : Claim7 := { stood := { row := fnExactLateInRow, standIns := [], harness := (true, "8b436b0d4ebc244ca5fa1ecb4acd5e6b323842bc986de5ee1cc583ce84129dc0"), looks := true }, kinds := [], alts := [], laidByText := true, laidKinds := [.sentinel, .sentinel, .sentinel, .sentinel, .sentinel, .sentinel, .sentinel], laidTests := true, laidLooks := .later }
def FnExactLateInCardSaid : Prop := Claim7.holds Tryd.pinned (.plain (OpenSpec.ofChange fnExactLateInSpec)) fnExactLateInCard

/-- THE TIED CARD OF 'laws.FnExactLatenessOf'. -/
def fnExactLatenessOfCard : Claim7 := { stood := { row := fnExactLatenessOfRow, standIns := [], harness := (true, "8b436b0d4ebc244ca5fa1ecb4acd5e6b323842bc986de5ee1cc583ce84129dc0"), looks := true }, kinds := [], alts := [], laidByText := true, laidKinds := [.sentinel, .sentinel, .sentinel, .sentinel, .sentinel, .sentinel, .sentinel], laidTests := true, laidLooks := .later }
def FnExactLatenessOfCardSaid : Prop := Claim7.holds Tryd.pinned (.plain (OpenSpec.ofChange fnExactLatenessOfSpec)) fnExactLatenessOfCard

/-- THE TIED CARD OF 'laws.FnExactRisingOrder'. -/
def fnExactRisingOrderCard : Claim7 := { stood := { row := fnExactRisingOrderRow, standIns := [], harness := (true, "8b436b0d4ebc244ca5fa1ecb4acd5e6b323842bc986de5ee1cc583ce84129dc0"), looks := true }, kinds := [], alts := [], laidByText := true, laidKinds := [.sentinel, .sentinel, .sentinel, .sentinel, .sentinel, .sentinel, .sentinel], laidTests := true, laidLooks := .later }
def FnExactRisingOrderCardSaid : Prop := Claim7.holds Tryd.pinned (.plain (OpenSpec.ofChange fnExactRisingOrderSpec)) fnExactRisingOrderCard

/-- THE TIED CARD OF 'laws.FnExactDueOrder'. -/
def fnExactDueOrderCard : Claim7 := { stood := { row := fnExactDueOrderRow, standIns := [], harness := (true, "8b436b0d4ebc244ca5fa1ecb4acd5e6b323842bc986de5ee1cc583ce84129dc0"), looks := true }, kinds := [], alts := [], laidByText := true, laidKinds := [.sentinel, .sentinel, .sentinel, .sentinel, .sentinel, .sentinel, .sentinel], laidTests := true, laidLooks := .later }
def FnExactDueOrderCardSaid : Prop := Claim7.holds Tryd.pinned (.plain (OpenSpec.ofChange fnExactDueOrderSpec)) fnExactDueOrderCard

/-- THE TIED CARD OF 'laws.FnExactNearestOrder'. -/
def fnExactNearestOrderCard : Claim7 := { stood := { row := fnExactNearestOrderRow, standIns := [], harness := (true, "8b436b0d4ebc244ca5fa1ecb4acd5e6b323842bc986de5ee1cc583ce84129dc0"), looks := true }, kinds := [], alts := [], laidByText := true, laidKinds := [.sentinel, .sentinel, .sentinel, .sentinel, .sentinel, .sentinel, .sentinel], laidTests := true, laidLooks := .later }
def FnExactNearestOrderCardSaid : Prop := Claim7.holds Tryd.pinned (.plain (OpenSpec.ofChange fnExactNearestOrderSpec)) fnExactNearestOrderCard

/-- THE TIED CARD OF 'laws.FnExactTimeBound'. -/
def fnExactTimeBoundCard : Claim7 := { stood := { row := fnExactTimeBoundRow, standIns := [], harness := (true, "8b436b0d4ebc244ca5fa1ecb4acd5e6b323842bc986de5ee1cc583ce84129dc0"), looks := true }, kinds := [], alts := [], laidByText := true, laidKinds := [.sentinel, .sentinel, .sentinel, .sentinel, .sentinel, .sentinel, .sentinel], laidTests := true, laidLooks := .later }
def FnExactTimeBoundCardSaid : Prop := Claim7.holds Tryd.pinned (.plain (OpenSpec.ofChange fnExactTimeBoundSpec)) fnExactTimeBoundCard

/-- THE TIED CARD OF 'laws.FnExactWaitSum'. -/
def fnExactWaitSumCard : Claim7 := { stood := { row := fnExactWaitSumRow, standIns := [], harness := (true, "8b436b0d4ebc244ca5fa1ecb4acd5e6b323842bc986de5ee1cc583ce84129dc0"), looks := true }, kinds := [], alts := [], laidByText := true, laidKinds := [.sentinel, .sentinel, .sentinel, .sentinel, .sentinel, .sentinel, .sentinel], laidTests := true, laidLooks := .later }
def FnExactWaitSumCardSaid : Prop := Claim7.holds Tryd.pinned (.plain (OpenSpec.ofChange fnExactWaitSumSpec)) fnExactWaitSumCard

/-- THE TIED CARD OF 'laws.FnExactShortestOrder'. -/
def fnExactShortestOrderCard : Claim7 := { stood := { row := fnExactShortestOrderRow, standIns := [], harness := (true, "8b436b0d4ebc244ca5fa1ecb4acd5e6b323842bc986de5ee1cc583ce84129dc0"), looks := true }, kinds := [], alts := [], laidByText := true, laidKinds := [.sentinel, .sentinel, .sentinel, .sentinel, .sentinel, .sentinel, .sentinel], laidTests := true, laidLooks := .later }
def FnExactShortestOrderCardSaid : Prop := Claim7.holds Tryd.pinned (.plain (OpenSpec.ofChange fnExactShortestOrderSpec)) fnExactShortestOrderCard

/-- THE TIED CARD OF 'laws.FnExactFewestLate'. -/
def fnExactFewestLateCard : Claim7 := { stood := { row := fnExactFewestLateRow, standIns := [], harness := (true, "8b436b0d4ebc244ca5fa1ecb4acd5e6b323842bc986de5ee1cc583ce84129dc0"), looks := true }, kinds := [], alts := [], laidByText := true, laidKinds := [.sentinel, .sentinel, .sentinel, .sentinel, .sentinel, .sentinel, .sentinel], laidTests := true, laidLooks := .later }
def FnExactFewestLateCardSaid : Prop := Claim7.holds Tryd.pinned (.plain (OpenSpec.ofChange fnExactFewestLateSpec)) fnExactFewestLateCard

/-- THE TIED CARD OF 'laws.FnExactLeastLateness'. -/
def fnExactLeastLatenessCard : Claim7 := { stood := { row := fnExactLeastLatenessRow, standIns := [], harness := (true, "8b436b0d4ebc244ca5fa1ecb4acd5e6b323842bc986de5ee1cc583ce84129dc0"), looks := true }, kinds := [], alts := [], laidByText := true, laidKinds := [.sentinel, .sentinel, .sentinel, .sentinel, .sentinel, .sentinel, .sentinel], laidTests := true, laidLooks := .later }
def FnExactLeastLatenessCardSaid : Prop := Claim7.holds Tryd.pinned (.plain (OpenSpec.ofChange fnExactLeastLatenessSpec)) fnExactLeastLatenessCard

/-- THE TIED CARD OF 'laws.FnExactLeastWait'. -/
def fnExactLeastWaitCard : Claim7 := { stood := { row := fnExactLeastWaitRow, standIns := [], harness := (true, "8b436b0d4ebc244ca5fa1ecb4acd5e6b323842bc986de5ee1cc583ce84129dc0"), looks := true }, kinds := [], alts := [], laidByText := true, laidKinds := [.sentinel, .sentinel, .sentinel, .sentinel, .sentinel, .sentinel, .sentinel], laidTests := true, laidLooks := .later }
def FnExactLeastWaitCardSaid : Prop := Claim7.holds Tryd.pinned (.plain (OpenSpec.ofChange fnExactLeastWaitSpec)) fnExactLeastWaitCard

/-- THE SECOND FORM's CARD OF 'laws.FnExactChangeTime'. -/
def fnExactChangeTimeUptoCard : Claim7 := { stood := { row := fnExactChangeTimeUptoRow, standIns := [], harness := (true, "8b436b0d4ebc244ca5fa1ecb4acd5e6b323842bc986de5ee1cc583ce84129dc0"), looks := true }, kinds := [], alts := [], laidByText := true, laidKinds := [.sentinel, .sentinel, .sentinel, .sentinel, .sentinel, .sentinel, .sentinel], laidTests := true, laidLooks := .later }
def FnExactChangeTimeUptoCardSaid : Prop := Claim7.holds Tryd.pinned (.plain (OpenSpec.upto fnExactChangeTimeSpec)) fnExactChangeTimeUptoCard

/-- THE SECOND FORM's CARD OF 'laws.FnExactFinishTimes'. -/
def fnExactFinishTimesUptoCard : Claim7 := { stood := { row := fnExactFinishTimesUptoRow, standIns := [], harness := (true, "8b436b0d4ebc244ca5fa1ecb4acd5e6b323842bc986de5ee1cc583ce84129dc0"), looks := true }, kinds := [], alts := [], laidByText := true, laidKinds := [.sentinel, .sentinel, .sentinel, .sentinel, .sentinel, .sentinel, .sentinel], laidTests := true, laidLooks := .later }
def FnExactFinishTimesUptoCardSaid : Prop := Claim7.holds Tryd.pinned (.plain (OpenSpec.upto fnExactFinishTimesSpec)) fnExactFinishTimesUptoCard

/-- THE SECOND FORM's CARD OF 'laws.FnExactTotalTime'. -/
def fnExactTotalTimeUptoCard : Claim7 := { stood := { row := fnExactTotalTimeUptoRow, standIns := [], harness := (true, "8b436b0d4ebc244ca5fa1ecb4acd5e6b323842bc986de5ee1cc583ce84129dc0"), looks := true }, kinds := [], alts := [], laidByText := true, laidKinds := [.sentinel, .sentinel, .sentinel, .sentinel, .sentinel, .sentinel, .sentinel], laidTests := true, laidLooks := .later }
def FnExactTotalTimeUptoCardSaid : Prop := Claim7.holds Tryd.pinned (.plain (OpenSpec.upto fnExactTotalTimeSpec)) fnExactTotalTimeUptoCard

/-- THE SECOND FORM's CARD OF 'laws.FnExactLateIn'. -/
def fnExactLateInUptoCard : Claim7 := { stood := { row := fnExactLateInUptoRow, standIns := [], harness := (true, "8b436b0d4ebc244ca5fa1ecb4acd5e6b323842bc986de5ee1cc583ce84129dc0"), looks := true }, kinds := [], alts := [], laidByText := true, laidKinds := [.sentinel, .sentinel, .sentinel, .sentinel, .sentinel, .sentinel, .sentinel], laidTests := true, laidLooks := .later }
def FnExactLateInUptoCardSaid : Prop := Claim7.holds Tryd.pinned (.plain (OpenSpec.upto fnExactLateInSpec)) fnExactLateInUptoCard

/-- THE SECOND FORM's CARD OF 'laws.FnExactLatenessOf'. -/
def fnExactLatenessOfUptoCard : Claim7 := { stood := { row := fnExactLatenessOfUptoRow, standIns := [], harness := (true, "8b436b0d4ebc244ca5fa1ecb4acd5e6b323842bc986de5ee1cc583ce84129dc0"), looks := true }, kinds := [], alts := [], laidByText := true, laidKinds := [.sentinel, .sentinel, .sentinel, .sentinel, .sentinel, .sentinel, .sentinel], laidTests := true, laidLooks := .later }
def FnExactLatenessOfUptoCardSaid : Prop := Claim7.holds Tryd.pinned (.plain (OpenSpec.upto fnExactLatenessOfSpec)) fnExactLatenessOfUptoCard

/-- THE SECOND FORM's CARD OF 'laws.FnExactRisingOrder'. -/
def fnExactRisingOrderUptoCard : Claim7 := { stood := { row := fnExactRisingOrderUptoRow, standIns := [], harness := (true, "8b436b0d4ebc244ca5fa1ecb4acd5e6b323842bc986de5ee1cc583ce84129dc0"), looks := true }, kinds := [], alts := [], laidByText := true, laidKinds := [.sentinel, .sentinel, .sentinel, .sentinel, .sentinel, .sentinel, .sentinel], laidTests := true, laidLooks := .later }
def FnExactRisingOrderUptoCardSaid : Prop := Claim7.holds Tryd.pinned (.plain (OpenSpec.upto fnExactRisingOrderSpec)) fnExactRisingOrderUptoCard

/-- THE SECOND FORM's CARD OF 'laws.FnExactDueOrder'. -/
def fnExactDueOrderUptoCard : Claim7 := { stood := { row := fnExactDueOrderUptoRow, standIns := [], harness := (true, "8b436b0d4ebc244ca5fa1ecb4acd5e6b323842bc986de5ee1cc583ce84129dc0"), looks := true }, kinds := [], alts := [], laidByText := true, laidKinds := [.sentinel, .sentinel, .sentinel, .sentinel, .sentinel, .sentinel, .sentinel], laidTests := true, laidLooks := .later }
def FnExactDueOrderUptoCardSaid : Prop := Claim7.holds Tryd.pinned (.plain (OpenSpec.upto fnExactDueOrderSpec)) fnExactDueOrderUptoCard

/-- THE SECOND FORM's CARD OF 'laws.FnExactNearestOrder'. -/
def fnExactNearestOrderUptoCard : Claim7 := { stood := { row := fnExactNearestOrderUptoRow, standIns := [], harness := (true, "8b436b0d4ebc244ca5fa1ecb4acd5e6b323842bc986de5ee1cc583ce84129dc0"), looks := true }, kinds := [], alts := [], laidByText := true, laidKinds := [.sentinel, .sentinel, .sentinel, .sentinel, .sentinel, .sentinel, .sentinel], laidTests := true, laidLooks := .later }
def FnExactNearestOrderUptoCardSaid : Prop := Claim7.holds Tryd.pinned (.plain (OpenSpec.upto fnExactNearestOrderSpec)) fnExactNearestOrderUptoCard

/-- THE SECOND FORM's CARD OF 'laws.FnExactTimeBound'. -/
def fnExactTimeBoundUptoCard : Claim7 := { stood := { row := fnExactTimeBoundUptoRow, standIns := [], harness := (true, "8b436b0d4ebc244ca5fa1ecb4acd5e6b323842bc986de5ee1cc583ce84129dc0"), looks := true }, kinds := [], alts := [], laidByText := true, laidKinds := [.sentinel, .sentinel, .sentinel, .sentinel, .sentinel, .sentinel, .sentinel], laidTests := true, laidLooks := .later }
def FnExactTimeBoundUptoCardSaid : Prop := Claim7.holds Tryd.pinned (.plain (OpenSpec.upto fnExactTimeBoundSpec)) fnExactTimeBoundUptoCard

/-- THE SECOND FORM's CARD OF 'laws.FnExactWaitSum'. -/
def fnExactWaitSumUptoCard : Claim7 := { stood := { row := fnExactWaitSumUptoRow, standIns := [], harness := (true, "8b436b0d4ebc244ca5fa1ecb4acd5e6b323842bc986de5ee1cc583ce84129dc0"), looks := true }, kinds := [], alts := [], laidByText := true, laidKinds := [.sentinel, .sentinel, .sentinel, .sentinel, .sentinel, .sentinel, .sentinel], laidTests := true, laidLooks := .later }
def FnExactWaitSumUptoCardSaid : Prop := Claim7.holds Tryd.pinned (.plain (OpenSpec.upto fnExactWaitSumSpec)) fnExactWaitSumUptoCard

/-- THE SECOND FORM's CARD OF 'laws.FnExactShortestOrder'. -/
def fnExactShortestOrderUptoCard : Claim7 := { stood := { row := fnExactShortestOrderUptoRow, standIns := [], harness := (true, "8b436b0d4ebc244ca5fa1ecb4acd5e6b323842bc986de5ee1cc583ce84129dc0"), looks := true }, kinds := [], alts := [], laidByText := true, laidKinds := [.sentinel, .sentinel, .sentinel, .sentinel, .sentinel, .sentinel, .sentinel], laidTests := true, laidLooks := .later }
def FnExactShortestOrderUptoCardSaid : Prop := Claim7.holds Tryd.pinned (.plain (OpenSpec.upto fnExactShortestOrderSpec)) fnExactShortestOrderUptoCard

/-- THE SECOND FORM's CARD OF 'laws.FnExactFewestLate'. -/
def fnExactFewestLateUptoCard : Claim7 := { stood := { row := fnExactFewestLateUptoRow, standIns := [], harness := (true, "8b436b0d4ebc244ca5fa1ecb4acd5e6b323842bc986de5ee1cc583ce84129dc0"), looks := true }, kinds := [], alts := [], laidByText := true, laidKinds := [.sentinel, .sentinel, .sentinel, .sentinel, .sentinel, .sentinel, .sentinel], laidTests := true, laidLooks := .later }
def FnExactFewestLateUptoCardSaid : Prop := Claim7.holds Tryd.pinned (.plain (OpenSpec.upto fnExactFewestLateSpec)) fnExactFewestLateUptoCard

/-- THE SECOND FORM's CARD OF 'laws.FnExactLeastLateness'. -/
def fnExactLeastLatenessUptoCard : Claim7 := { stood := { row := fnExactLeastLatenessUptoRow, standIns := [], harness := (true, "8b436b0d4ebc244ca5fa1ecb4acd5e6b323842bc986de5ee1cc583ce84129dc0"), looks := true }, kinds := [], alts := [], laidByText := true, laidKinds := [.sentinel, .sentinel, .sentinel, .sentinel, .sentinel, .sentinel, .sentinel], laidTests := true, laidLooks := .later }
def FnExactLeastLatenessUptoCardSaid : Prop := Claim7.holds Tryd.pinned (.plain (OpenSpec.upto fnExactLeastLatenessSpec)) fnExactLeastLatenessUptoCard

/-- THE SECOND FORM's CARD OF 'laws.FnExactLeastWait'. -/
def fnExactLeastWaitUptoCard : Claim7 := { stood := { row := fnExactLeastWaitUptoRow, standIns := [], harness := (true, "8b436b0d4ebc244ca5fa1ecb4acd5e6b323842bc986de5ee1cc583ce84129dc0"), looks := true }, kinds := [], alts := [], laidByText := true, laidKinds := [.sentinel, .sentinel, .sentinel, .sentinel, .sentinel, .sentinel, .sentinel], laidTests := true, laidLooks := .later }
def FnExactLeastWaitUptoCardSaid : Prop := Claim7.holds Tryd.pinned (.plain (OpenSpec.upto fnExactLeastWaitSpec)) fnExactLeastWaitUptoCard
end Rows
end Go.Proofs.YtajhdgoinghmmaaDoor
