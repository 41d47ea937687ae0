/-
  DERIVED. GIVEN WITH THE SEED: THE CARDS: each row of YtjhkjbdpmianfaaDoorRows.lean that lists a variable, with what it lists TIED to the program's text (the seventh form; the later family's looks); each row that meets fmt, with fmt's text TOLD by the authors' own Lean function (tested against real Go, not proved from fmt's source: count such statements apart). THE CARD IS WHAT COUNTS. Prove the row's statement (the work); the ties are given (YtjhkjbdpmianfaaDoorTie.lean); close each card by the builder's one call (the guide's Derived/Test/ToyasCard.lean, 'card_holds'). Laid BY PROGRAM, IN A SANDBOX (cutbox-door.mjs). By AI agents, Wed Nov 11 2026. No macro, syntax, notation, axiom, sorry.
-/
import Derived.Test.YtjhkjbdpmianfaaDoorRows
import GoSem.ClaimSeven
namespace Go.Proofs.YtjhkjbdpmianfaaDoor
namespace Rows

/-- THE TIED CARD OF 'laws.FnExactShortestOrder'. -/
def fnExactShortestOrderCard : Claim7 := { stood := { row := fnExactShortestOrderRow, standIns := [], harness := (true, "dde645c5d0477c3480e8fef4f8223dd5ad5926c3bdb66381aff84f4968e520b8"), looks := true }, kinds := [], alts := [], laidByText := true, laidKinds := [.sentinel, .sentinel, .sentinel, .sentinel, .sentinel, .sentinel, .sentinel], laidTests := true, laidLooks := .later }
def FnExactShortestOrderCardSaid : Prop := Claim7.holds Tryd.pinned (.plain (OpenSpec.ofChange fnExactShortestOrderSpec)) fnExactShortestOrderCard

/-- THE TIED CARD OF 'laws.FnExactFewestLate'. -/
def fnExactFewestLateCard : Claim7 := { stood := { row := fnExactFewestLateRow, standIns := [], harness := (true, "dde645c5d0477c3480e8fef4f8223dd5ad5926c3bdb66381aff84f4968e520b8"), looks := true }, kinds := [], alts := [], laidByText := true, laidKinds := [.sentinel, .sentinel, .sentinel, .sentinel, .sentinel, .sentinel, .sentinel], laidTests := true, laidLooks := .later }
def FnExactFewestLateCardSaid : Prop := Claim7.holds Tryd.pinned (.plain (OpenSpec.ofChange fnExactFewestLateSpec)) fnExactFewestLateCard

/-- THE TIED CARD OF 'laws.FnExactLeastLateness'. -/
def fnExactLeastLatenessCard : Claim7 := { stood := { row := fnExactLeastLatenessRow, standIns := [], harness := (true, "dde645c5d0477c3480e8fef4f8223dd5ad5926c3bdb66381aff84f4968e520b8"), looks := true }, kinds := [], alts := [], laidByText := true, laidKinds := [.sentinel, .sentinel, .sentinel, .sentinel, .sentinel, .sentinel, .sentinel], laidTests := true, laidLooks := .later }
def FnExactLeastLatenessCardSaid : Prop := Claim7.holds Tryd.pinned (.plain (OpenSpec.ofChange fnExactLeastLatenessSpec)) fnExactLeastLatenessCard

/-- THE TIED CARD OF 'laws.FnExactLeastWait'. -/
def fnExactLeastWaitCard : Claim7 := { stood := { row := fnExactLeastWaitRow, standIns := [], harness := (true, "dde645c5d0477c3480e8fef4f8223dd5ad5926c3bdb66381aff84f4968e520b8"), looks := true }, kinds := [], alts := [], laidByText := true, laidKinds := [.sentinel, .sentinel, .sentinel, .sentinel, .sentinel, .sentinel, .sentinel], laidTests := true, laidLooks := .later }
def FnExactLeastWaitCardSaid : Prop := Claim7.holds Tryd.pinned (.plain (OpenSpec.ofChange fnExactLeastWaitSpec)) fnExactLeastWaitCard

/-- THE SECOND FORM's CARD OF 'laws.FnExactShortestOrder'. -/
def fnExactShortestOrderUptoCard : Claim7 := { stood := { row := fnExactShortestOrderUptoRow, standIns := [], harness := (true, "dde645c5d0477c3480e8fef4f8223dd5ad5926c3bdb66381aff84f4968e520b8"), looks := true }, kinds := [], alts := [], laidByText := true, laidKinds := [.sentinel, .sentinel, .sentinel, .sentinel, .sentinel, .sentinel, .sentinel], laidTests := true, laidLooks := .later }
def FnExactShortestOrderUptoCardSaid : Prop := Claim7.holds Tryd.pinned (.plain (OpenSpec.upto fnExactShortestOrderSpec)) fnExactShortestOrderUptoCard

/-- THE SECOND FORM's CARD OF 'laws.FnExactFewestLate'. -/
def fnExactFewestLateUptoCard : Claim7 := { stood := { row := fnExactFewestLateUptoRow, standIns := [], harness := (true, "dde645c5d0477c3480e8fef4f8223dd5ad5926c3bdb66381aff84f4968e520b8"), looks := true }, kinds := [], alts := [], laidByText := true, laidKinds := [.sentinel, .sentinel, .sentinel, .sentinel, .sentinel, .sentinel, .sentinel], laidTests := true, laidLooks := .later }
def FnExactFewestLateUptoCardSaid : Prop := Claim7.holds Tryd.pinned (.plain (OpenSpec.upto fnExactFewestLateSpec)) fnExactFewestLateUptoCard

/-- THE SECOND FORM's CARD OF 'laws.FnExactLeastLateness'. -/
def fnExactLeastLatenessUptoCard : Claim7 := { stood := { row := fnExactLeastLatenessUptoRow, standIns := [], harness := (true, "dde645c5d0477c3480e8fef4f8223dd5ad5926c3bdb66381aff84f4968e520b8"), looks := true }, kinds := [], alts := [], laidByText := true, laidKinds := [.sentinel, .sentinel, .sentinel, .sentinel, .sentinel, .sentinel, .sentinel], laidTests := true, laidLooks := .later }
def FnExactLeastLatenessUptoCardSaid : Prop := Claim7.holds Tryd.pinned (.plain (OpenSpec.upto fnExactLeastLatenessSpec)) fnExactLeastLatenessUptoCard

/-- THE SECOND FORM's CARD OF 'laws.FnExactLeastWait'. -/
def fnExactLeastWaitUptoCard : Claim7 := { stood := { row := fnExactLeastWaitUptoRow, standIns := [], harness := (true, "dde645c5d0477c3480e8fef4f8223dd5ad5926c3bdb66381aff84f4968e520b8"), looks := true }, kinds := [], alts := [], laidByText := true, laidKinds := [.sentinel, .sentinel, .sentinel, .sentinel, .sentinel, .sentinel, .sentinel], laidTests := true, laidLooks := .later }
def FnExactLeastWaitUptoCardSaid : Prop := Claim7.holds Tryd.pinned (.plain (OpenSpec.upto fnExactLeastWaitSpec)) fnExactLeastWaitUptoCard
end Rows
end Go.Proofs.YtjhkjbdpmianfaaDoor
