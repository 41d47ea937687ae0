/-
  DERIVED. GIVEN WITH THE SEED: THE CARDS: each row of YtfnlgpnocodonaaDoorRows.lean that lists a variable, with what it lists TIED to the program's text (the seventh form; the later family's looks); each row that meets fmt, with fmt's text TOLD by the authors' own Lean function (tested against real Go, not proved from fmt's source: count such statements apart). THE CARD IS WHAT COUNTS. Prove the row's statement (the work); the ties are given (YtfnlgpnocodonaaDoorTie.lean); close each card by the builder's one call (the guide's Derived/Test/ToyasCard.lean, 'card_holds'). Laid BY PROGRAM, IN A SANDBOX (cutbox-door.mjs). By AI agents, Wed Nov 11 2026. No macro, syntax, notation, axiom, sorry.
-/
import Derived.Test.YtfnlgpnocodonaaDoorRows
import GoSem.ClaimSeven
namespace Go.Proofs.YtfnlgpnocodonaaDoor
namespace Rows

/-- THE TIED CARD OF 'laws.FnExactValidHouse'. -/
def fnExactValidHouseCard : Claim7 := { stood := { row := fnExactValidHouseRow, standIns := [], harness := (true, "16e9806100b1dc28ffaf07b3ab2e92066b8de3004c444bffc8102500bd7aaa0a"), looks := true }, kinds := [], alts := [], laidByText := true, laidKinds := [.sentinel], laidTests := true, laidLooks := .later }
def FnExactValidHouseCardSaid : Prop := Claim7.holds Tryd.pinned (.plain (OpenSpec.ofChange fnExactValidHouseSpec)) fnExactValidHouseCard

/-- THE TIED CARD OF 'laws.FnExactPiecesOf'. -/
def fnExactPiecesOfCard : Claim7 := { stood := { row := fnExactPiecesOfRow, standIns := [], harness := (true, "16e9806100b1dc28ffaf07b3ab2e92066b8de3004c444bffc8102500bd7aaa0a"), looks := true }, kinds := [], alts := [], laidByText := true, laidKinds := [.sentinel, .sentinel, .sentinel, .sentinel, .sentinel, .sentinel, .sentinel], laidTests := true, laidLooks := .later }
def FnExactPiecesOfCardSaid : Prop := Claim7.holds Tryd.pinned (.plain (OpenSpec.ofChange fnExactPiecesOfSpec)) fnExactPiecesOfCard

/-- THE TIED CARD OF 'laws.FnExactNewHouse'. -/
def fnExactNewHouseCard : Claim7 := { stood := { row := fnExactNewHouseRow, standIns := [], harness := (true, "16e9806100b1dc28ffaf07b3ab2e92066b8de3004c444bffc8102500bd7aaa0a"), looks := true }, kinds := [], alts := [], laidByText := true, laidKinds := [.sentinel, .sentinel, .sentinel, .sentinel, .sentinel, .sentinel, .sentinel], laidTests := true, laidLooks := .later }
def FnExactNewHouseCardSaid : Prop := Claim7.holds Tryd.pinned (.plain (OpenSpec.ofChange fnExactNewHouseSpec)) fnExactNewHouseCard

/-- THE TIED CARD OF 'laws.FnExactUseKind'. -/
def fnExactUseKindCard : Claim7 := { stood := { row := fnExactUseKindRow, standIns := [], harness := (true, "16e9806100b1dc28ffaf07b3ab2e92066b8de3004c444bffc8102500bd7aaa0a"), looks := true }, kinds := [], alts := [], laidByText := true, laidKinds := [.sentinel, .sentinel, .sentinel, .sentinel, .sentinel, .sentinel, .sentinel], laidTests := true, laidLooks := .later }
def FnExactUseKindCardSaid : Prop := Claim7.holds Tryd.pinned (.plain (OpenSpec.ofChange fnExactUseKindSpec)) fnExactUseKindCard

/-- THE TIED CARD OF 'laws.FnExactWashHouse'. -/
def fnExactWashHouseCard : Claim7 := { stood := { row := fnExactWashHouseRow, standIns := [], harness := (true, "16e9806100b1dc28ffaf07b3ab2e92066b8de3004c444bffc8102500bd7aaa0a"), looks := true }, kinds := [], alts := [], laidByText := true, laidKinds := [.sentinel, .sentinel, .sentinel, .sentinel, .sentinel, .sentinel, .sentinel], laidTests := true, laidLooks := .later }
def FnExactWashHouseCardSaid : Prop := Claim7.holds Tryd.pinned (.plain (OpenSpec.ofChange fnExactWashHouseSpec)) fnExactWashHouseCard

/-- THE TIED CARD OF 'laws.FnExactAddPieces'. -/
def fnExactAddPiecesCard : Claim7 := { stood := { row := fnExactAddPiecesRow, standIns := [], harness := (true, "16e9806100b1dc28ffaf07b3ab2e92066b8de3004c444bffc8102500bd7aaa0a"), looks := true }, kinds := [], alts := [], laidByText := true, laidKinds := [.sentinel, .sentinel, .sentinel, .sentinel, .sentinel, .sentinel, .sentinel], laidTests := true, laidLooks := .later }
def FnExactAddPiecesCardSaid : Prop := Claim7.holds Tryd.pinned (.plain (OpenSpec.ofChange fnExactAddPiecesSpec)) fnExactAddPiecesCard

/-- THE TIED CARD OF 'laws.FnExactMendRags'. -/
def fnExactMendRagsCard : Claim7 := { stood := { row := fnExactMendRagsRow, standIns := [], harness := (true, "16e9806100b1dc28ffaf07b3ab2e92066b8de3004c444bffc8102500bd7aaa0a"), looks := true }, kinds := [], alts := [], laidByText := true, laidKinds := [.sentinel, .sentinel, .sentinel, .sentinel, .sentinel, .sentinel, .sentinel], laidTests := true, laidLooks := .later }
def FnExactMendRagsCardSaid : Prop := Claim7.holds Tryd.pinned (.plain (OpenSpec.ofChange fnExactMendRagsSpec)) fnExactMendRagsCard

/-- THE TIED CARD OF 'laws.FnExactDayOnce'. -/
def fnExactDayOnceCard : Claim7 := { stood := { row := fnExactDayOnceRow, standIns := [], harness := (true, "16e9806100b1dc28ffaf07b3ab2e92066b8de3004c444bffc8102500bd7aaa0a"), looks := true }, kinds := [], alts := [], laidByText := true, laidKinds := [.sentinel, .sentinel, .sentinel, .sentinel, .sentinel, .sentinel, .sentinel], laidTests := true, laidLooks := .later }
def FnExactDayOnceCardSaid : Prop := Claim7.holds Tryd.pinned (.plain (OpenSpec.ofChange fnExactDayOnceSpec)) fnExactDayOnceCard

/-- THE TIED CARD OF 'laws.FnExactDayAll'. -/
def fnExactDayAllCard : Claim7 := { stood := { row := fnExactDayAllRow, standIns := [], harness := (true, "16e9806100b1dc28ffaf07b3ab2e92066b8de3004c444bffc8102500bd7aaa0a"), looks := true }, kinds := [], alts := [], laidByText := true, laidKinds := [.sentinel, .sentinel, .sentinel, .sentinel, .sentinel, .sentinel, .sentinel], laidTests := true, laidLooks := .later }
def FnExactDayAllCardSaid : Prop := Claim7.holds Tryd.pinned (.plain (OpenSpec.ofChange fnExactDayAllSpec)) fnExactDayAllCard

/-- THE TIED CARD OF 'laws.FnExactWornOut'. -/
def fnExactWornOutCard : Claim7 := { stood := { row := fnExactWornOutRow, standIns := [], harness := (true, "16e9806100b1dc28ffaf07b3ab2e92066b8de3004c444bffc8102500bd7aaa0a"), looks := true }, kinds := [], alts := [], laidByText := true, laidKinds := [.sentinel, .sentinel, .sentinel, .sentinel, .sentinel, .sentinel, .sentinel], laidTests := true, laidLooks := .later }
def FnExactWornOutCardSaid : Prop := Claim7.holds Tryd.pinned (.plain (OpenSpec.ofChange fnExactWornOutSpec)) fnExactWornOutCard

/-- THE SECOND FORM's CARD OF 'laws.FnExactValidHouse'. -/
def fnExactValidHouseUptoCard : Claim7 := { stood := { row := fnExactValidHouseUptoRow, standIns := [], harness := (true, "16e9806100b1dc28ffaf07b3ab2e92066b8de3004c444bffc8102500bd7aaa0a"), looks := true }, kinds := [], alts := [], laidByText := true, laidKinds := [.sentinel], laidTests := true, laidLooks := .later }
def FnExactValidHouseUptoCardSaid : Prop := Claim7.holds Tryd.pinned (.plain (OpenSpec.upto fnExactValidHouseSpec)) fnExactValidHouseUptoCard

/-- THE SECOND FORM's CARD OF 'laws.FnExactPiecesOf'. -/
def fnExactPiecesOfUptoCard : Claim7 := { stood := { row := fnExactPiecesOfUptoRow, standIns := [], harness := (true, "16e9806100b1dc28ffaf07b3ab2e92066b8de3004c444bffc8102500bd7aaa0a"), looks := true }, kinds := [], alts := [], laidByText := true, laidKinds := [.sentinel, .sentinel, .sentinel, .sentinel, .sentinel, .sentinel, .sentinel], laidTests := true, laidLooks := .later }
def FnExactPiecesOfUptoCardSaid : Prop := Claim7.holds Tryd.pinned (.plain (OpenSpec.upto fnExactPiecesOfSpec)) fnExactPiecesOfUptoCard

/-- THE SECOND FORM's CARD OF 'laws.FnExactNewHouse'. -/
def fnExactNewHouseUptoCard : Claim7 := { stood := { row := fnExactNewHouseUptoRow, standIns := [], harness := (true, "16e9806100b1dc28ffaf07b3ab2e92066b8de3004c444bffc8102500bd7aaa0a"), looks := true }, kinds := [], alts := [], laidByText := true, laidKinds := [.sentinel, .sentinel, .sentinel, .sentinel, .sentinel, .sentinel, .sentinel], laidTests := true, laidLooks := .later }
def FnExactNewHouseUptoCardSaid : Prop := Claim7.holds Tryd.pinned (.plain (OpenSpec.upto fnExactNewHouseSpec)) fnExactNewHouseUptoCard

/-- THE SECOND FORM's CARD OF 'laws.FnExactUseKind'. -/
def fnExactUseKindUptoCard : Claim7 := { stood := { row := fnExactUseKindUptoRow, standIns := [], harness := (true, "16e9806100b1dc28ffaf07b3ab2e92066b8de3004c444bffc8102500bd7aaa0a"), looks := true }, kinds := [], alts := [], laidByText := true, laidKinds := [.sentinel, .sentinel, .sentinel, .sentinel, .sentinel, .sentinel, .sentinel], laidTests := true, laidLooks := .later }
def FnExactUseKindUptoCardSaid : Prop := Claim7.holds Tryd.pinned (.plain (OpenSpec.upto fnExactUseKindSpec)) fnExactUseKindUptoCard

/-- THE SECOND FORM's CARD OF 'laws.FnExactWashHouse'. -/
def fnExactWashHouseUptoCard : Claim7 := { stood := { row := fnExactWashHouseUptoRow, standIns := [], harness := (true, "16e9806100b1dc28ffaf07b3ab2e92066b8de3004c444bffc8102500bd7aaa0a"), looks := true }, kinds := [], alts := [], laidByText := true, laidKinds := [.sentinel, .sentinel, .sentinel, .sentinel, .sentinel, .sentinel, .sentinel], laidTests := true, laidLooks := .later }
def FnExactWashHouseUptoCardSaid : Prop := Claim7.holds Tryd.pinned (.plain (OpenSpec.upto fnExactWashHouseSpec)) fnExactWashHouseUptoCard

/-- THE SECOND FORM's CARD OF 'laws.FnExactAddPieces'. -/
def fnExactAddPiecesUptoCard : Claim7 := { stood := { row := fnExactAddPiecesUptoRow, standIns := [], harness := (true, "16e9806100b1dc28ffaf07b3ab2e92066b8de3004c444bffc8102500bd7aaa0a"), looks := true }, kinds := [], alts := [], laidByText := true, laidKinds := [.sentinel, .sentinel, .sentinel, .sentinel, .sentinel, .sentinel, .sentinel], laidTests := true, laidLooks := .later }
def FnExactAddPiecesUptoCardSaid : Prop := Claim7.holds Tryd.pinned (.plain (OpenSpec.upto fnExactAddPiecesSpec)) fnExactAddPiecesUptoCard

/-- THE SECOND FORM's CARD OF 'laws.FnExactMendRags'. -/
def fnExactMendRagsUptoCard : Claim7 := { stood := { row := fnExactMendRagsUptoRow, standIns := [], harness := (true, "16e9806100b1dc28ffaf07b3ab2e92066b8de3004c444bffc8102500bd7aaa0a"), looks := true }, kinds := [], alts := [], laidByText := true, laidKinds := [.sentinel, .sentinel, .sentinel, .sentinel, .sentinel, .sentinel, .sentinel], laidTests := true, laidLooks := .later }
def FnExactMendRagsUptoCardSaid : Prop := Claim7.holds Tryd.pinned (.plain (OpenSpec.upto fnExactMendRagsSpec)) fnExactMendRagsUptoCard

/-- THE SECOND FORM's CARD OF 'laws.FnExactDayOnce'. -/
def fnExactDayOnceUptoCard : Claim7 := { stood := { row := fnExactDayOnceUptoRow, standIns := [], harness := (true, "16e9806100b1dc28ffaf07b3ab2e92066b8de3004c444bffc8102500bd7aaa0a"), looks := true }, kinds := [], alts := [], laidByText := true, laidKinds := [.sentinel, .sentinel, .sentinel, .sentinel, .sentinel, .sentinel, .sentinel], laidTests := true, laidLooks := .later }
def FnExactDayOnceUptoCardSaid : Prop := Claim7.holds Tryd.pinned (.plain (OpenSpec.upto fnExactDayOnceSpec)) fnExactDayOnceUptoCard

/-- THE SECOND FORM's CARD OF 'laws.FnExactDayAll'. -/
def fnExactDayAllUptoCard : Claim7 := { stood := { row := fnExactDayAllUptoRow, standIns := [], harness := (true, "16e9806100b1dc28ffaf07b3ab2e92066b8de3004c444bffc8102500bd7aaa0a"), looks := true }, kinds := [], alts := [], laidByText := true, laidKinds := [.sentinel, .sentinel, .sentinel, .sentinel, .sentinel, .sentinel, .sentinel], laidTests := true, laidLooks := .later }
def FnExactDayAllUptoCardSaid : Prop := Claim7.holds Tryd.pinned (.plain (OpenSpec.upto fnExactDayAllSpec)) fnExactDayAllUptoCard

/-- THE SECOND FORM's CARD OF 'laws.FnExactWornOut'. -/
def fnExactWornOutUptoCard : Claim7 := { stood := { row := fnExactWornOutUptoRow, standIns := [], harness := (true, "16e9806100b1dc28ffaf07b3ab2e92066b8de3004c444bffc8102500bd7aaa0a"), looks := true }, kinds := [], alts := [], laidByText := true, laidKinds := [.sentinel, .sentinel, .sentinel, .sentinel, .sentinel, .sentinel, .sentinel], laidTests := true, laidLooks := .later }
def FnExactWornOutUptoCardSaid : Prop := Claim7.holds Tryd.pinned (.plain (OpenSpec.upto fnExactWornOutSpec)) fnExactWornOutUptoCard
end Rows
end Go.Proofs.YtfnlgpnocodonaaDoor
