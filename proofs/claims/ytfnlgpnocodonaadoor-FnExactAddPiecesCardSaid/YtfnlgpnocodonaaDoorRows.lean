/-
  NARROWER THAN 'FOR EVERY INPUT', by the rows' own cells (each row's printed sentence says how): FnExactValidHouse: ifaces, laid · FnExactPiecesOf: ifaces, laid · FnExactNewHouse: ifaces, laid · FnExactUseKind: ifaces, laid · FnExactWashHouse: ifaces, laid · FnExactAddPieces: ifaces, laid · FnExactMendRags: ifaces, laid · FnExactDayOnce: ifaces, laid · FnExactDayAll: ifaces, laid · FnExactWornOut: ifaces, laid.
  DERIVED. THE GIVEN ROWS OF THIS SEAT. 10 by the template 'for every input the law returns true; each argument reads behind the call as it read before'; 0 by the template 'total and deterministic' (their statements: YtfnlgpnocodonaaDoorTotals.lean).
  GIVEN WITH THE SEED: the statements are not yours to turn. If you find one false, say at which input.
  Laid BY PROGRAM, IN A SANDBOX (cutbox-rows.mjs): the forced cells as the released guide's own fill.sh prints them over the translation 0a0dc3af4954efed… (all of the seat's roots in one cut). By AI agents, Wed Nov 11 2026. No macro, syntax, notation, axiom, sorry.
-/
import Derived.Test.YtfnlgpnocodonaaDoorChecked
import GoSem.Claim
import GoSem.ClaimJoined
import GoSem.ClaimMapViews
import Derived.JoinedTies
import Derived.KernelRfl
namespace Go.Proofs.YtfnlgpnocodonaaDoor
/- THE CELL 'sum', in the pinned program and in every row, IS THE sha256 OF THE DUMP (.gsa) THAT YtfnlgpnocodonaaDoorProg.lean LOADS. Nothing in Lean hashes anything: it is a label: what it is worth is what the hold of that sum in a sandbox is worth. -/
noncomputable def Tryd.pinned : Pinned := { name := "ytfnlgpnocodonaadoor", sum := "0a0dc3af4954efedcc97f1224b25f26ca2719812955d403d71e4d02e80afbe20", checked := Tryd.checked }
namespace Rows
def none {H : Type} : Left H := { results := [], args := [] }

/- WHAT THE LISTED PACKAGE-LEVEL VARIABLES READ AS WHEN THE CALL BEGINS. Each datum BY PROGRAM (the guide's laid-datum.mjs) off the statement by which the dump's own 'gosem.cut.vars' lays the variable. In a bare row this is a premise. The card (YtfnlgpnocodonaaDoorCards.lean) ties it to the program's text. -/
def laid_loop_example_g01378_impl_errRange {H : Type} : DataW H := .iface "*errors.errorString" (.ptr (.agg [.lit (.string [114, 97, 110, 103, 101])]))
def laid_loop_example_g01378_impl_errInvalid {H : Type} : DataW H := .iface "*errors.errorString" (.ptr (.agg [.lit (.string [105, 110, 118, 97, 108, 105, 100])]))
def laid_loop_example_g01378_impl_errLimit {H : Type} : DataW H := .iface "*errors.errorString" (.ptr (.agg [.lit (.string [108, 105, 109, 105, 116])]))
def laid_loop_example_g01378_impl_errState {H : Type} : DataW H := .iface "*errors.errorString" (.ptr (.agg [.lit (.string [115, 116, 97, 116, 101])]))
def laid_loop_example_g01378_impl_errSyntax {H : Type} : DataW H := .iface "*errors.errorString" (.ptr (.agg [.lit (.string [115, 121, 110, 116, 97, 120])]))
def laid_loop_example_g01378_impl_errNotFound {H : Type} : DataW H := .iface "*errors.errorString" (.ptr (.agg [.lit (.string [110, 111, 116, 102, 111, 117, 110, 100])]))
def laid_loop_example_g01378_impl_errBudget {H : Type} : DataW H := .iface "*errors.errorString" (.ptr (.agg [.lit (.string [98, 117, 100, 103, 101, 116])]))

/-- 'laws.FnExactValidHouse': WHATEVER THE INPUT: true; the input reads as it did. -/
def fnExactValidHouseSpec : ChangeSpec := { name := "fnExactValidHouse", vars := ["loop.example/g01378/impl.errRange"], fn := fun _ => fun
  | [d, g1] => { results := [.lit (.bool true)], args := [d], vars := [g1] }
  | _ => none }
def fnExactValidHouseRow : OpenClaim := { program := "ytfnlgpnocodonaadoor", sum := "0a0dc3af4954efedcc97f1224b25f26ca2719812955d403d71e4d02e80afbe20", func := "loop.example/g01378/laws.FnExactValidHouse", spec := "fnExactValidHouse", unfollowed := true, recurses := true, named := ["loop.example/g01378/impl.errRange"], ifaces := true, apart := false, laid := [("loop.example/g01378/impl.errRange", laid_loop_example_g01378_impl_errRange)] }
def FnExactValidHouseSaid : Prop := fnExactValidHouseRow.holds Tryd.pinned (OpenSpec.ofChange fnExactValidHouseSpec)

/-- ITS FALSE NEIGHBOUR: 'it returns false'. Refute it at one input. -/
def fnExactValidHouseWrong : ChangeSpec := { name := "fnExactValidHouse", vars := ["loop.example/g01378/impl.errRange"], fn := fun _ => fun
  | [d, g1] => { results := [.lit (.bool false)], args := [d], vars := [g1] }
  | _ => none }
def FnExactValidHouseWrongFalsely : Prop := fnExactValidHouseRow.holds Tryd.pinned (OpenSpec.ofChange fnExactValidHouseWrong)

/-- 'laws.FnExactPiecesOf': WHATEVER THE INPUT: true; the input reads as it did. -/
def fnExactPiecesOfSpec : ChangeSpec := { name := "fnExactPiecesOf", vars := ["loop.example/g01378/impl.errInvalid", "loop.example/g01378/impl.errRange", "loop.example/g01378/impl.errLimit", "loop.example/g01378/impl.errState", "loop.example/g01378/impl.errSyntax", "loop.example/g01378/impl.errNotFound", "loop.example/g01378/impl.errBudget"], fn := fun _ => fun
  | [d, g1, g2, g3, g4, g5, g6, g7] => { results := [.lit (.bool true)], args := [d], vars := [g1, g2, g3, g4, g5, g6, g7] }
  | _ => none }
def fnExactPiecesOfRow : OpenClaim := { program := "ytfnlgpnocodonaadoor", sum := "0a0dc3af4954efedcc97f1224b25f26ca2719812955d403d71e4d02e80afbe20", func := "loop.example/g01378/laws.FnExactPiecesOf", spec := "fnExactPiecesOf", inPlace := ["internal/reflectlite.TypeOf"], unfollowed := true, recurses := true, named := ["loop.example/g01378/impl.errInvalid", "loop.example/g01378/impl.errRange", "loop.example/g01378/impl.errLimit", "loop.example/g01378/impl.errState", "loop.example/g01378/impl.errSyntax", "loop.example/g01378/impl.errNotFound", "loop.example/g01378/impl.errBudget"], ifaces := true, apart := false, laid := [("loop.example/g01378/impl.errInvalid", laid_loop_example_g01378_impl_errInvalid), ("loop.example/g01378/impl.errRange", laid_loop_example_g01378_impl_errRange), ("loop.example/g01378/impl.errLimit", laid_loop_example_g01378_impl_errLimit), ("loop.example/g01378/impl.errState", laid_loop_example_g01378_impl_errState), ("loop.example/g01378/impl.errSyntax", laid_loop_example_g01378_impl_errSyntax), ("loop.example/g01378/impl.errNotFound", laid_loop_example_g01378_impl_errNotFound), ("loop.example/g01378/impl.errBudget", laid_loop_example_g01378_impl_errBudget)] }
def FnExactPiecesOfSaid : Prop := fnExactPiecesOfRow.holds Tryd.pinned (OpenSpec.ofChange fnExactPiecesOfSpec)

/-- ITS FALSE NEIGHBOUR: 'it returns false'. Refute it at one input. -/
def fnExactPiecesOfWrong : ChangeSpec := { name := "fnExactPiecesOf", vars := ["loop.example/g01378/impl.errInvalid", "loop.example/g01378/impl.errRange", "loop.example/g01378/impl.errLimit", "loop.example/g01378/impl.errState", "loop.example/g01378/impl.errSyntax", "loop.example/g01378/impl.errNotFound", "loop.example/g01378/impl.errBudget"], fn := fun _ => fun
  | [d, g1, g2, g3, g4, g5, g6, g7] => { results := [.lit (.bool false)], args := [d], vars := [g1, g2, g3, g4, g5, g6, g7] }
  | _ => none }
def FnExactPiecesOfWrongFalsely : Prop := fnExactPiecesOfRow.holds Tryd.pinned (OpenSpec.ofChange fnExactPiecesOfWrong)

/-- 'laws.FnExactNewHouse': WHATEVER THE INPUT: true; the input reads as it did. -/
def fnExactNewHouseSpec : ChangeSpec := { name := "fnExactNewHouse", vars := ["loop.example/g01378/impl.errRange", "loop.example/g01378/impl.errInvalid", "loop.example/g01378/impl.errLimit", "loop.example/g01378/impl.errState", "loop.example/g01378/impl.errSyntax", "loop.example/g01378/impl.errNotFound", "loop.example/g01378/impl.errBudget"], fn := fun _ => fun
  | [d1, d2, d3, g1, g2, g3, g4, g5, g6, g7] => { results := [.lit (.bool true)], args := [d1, d2, d3], vars := [g1, g2, g3, g4, g5, g6, g7] }
  | _ => none }
def fnExactNewHouseRow : OpenClaim := { program := "ytfnlgpnocodonaadoor", sum := "0a0dc3af4954efedcc97f1224b25f26ca2719812955d403d71e4d02e80afbe20", func := "loop.example/g01378/laws.FnExactNewHouse", spec := "fnExactNewHouse", inPlace := ["internal/reflectlite.TypeOf"], unfollowed := true, recurses := true, named := ["loop.example/g01378/impl.errRange", "loop.example/g01378/impl.errInvalid", "loop.example/g01378/impl.errLimit", "loop.example/g01378/impl.errState", "loop.example/g01378/impl.errSyntax", "loop.example/g01378/impl.errNotFound", "loop.example/g01378/impl.errBudget"], ifaces := true, apart := false, laid := [("loop.example/g01378/impl.errInvalid", laid_loop_example_g01378_impl_errInvalid), ("loop.example/g01378/impl.errRange", laid_loop_example_g01378_impl_errRange), ("loop.example/g01378/impl.errLimit", laid_loop_example_g01378_impl_errLimit), ("loop.example/g01378/impl.errState", laid_loop_example_g01378_impl_errState), ("loop.example/g01378/impl.errSyntax", laid_loop_example_g01378_impl_errSyntax), ("loop.example/g01378/impl.errNotFound", laid_loop_example_g01378_impl_errNotFound), ("loop.example/g01378/impl.errBudget", laid_loop_example_g01378_impl_errBudget)] }
def FnExactNewHouseSaid : Prop := fnExactNewHouseRow.holds Tryd.pinned (OpenSpec.ofChange fnExactNewHouseSpec)

/-- ITS FALSE NEIGHBOUR: 'it returns false'. Refute it at one input. -/
def fnExactNewHouseWrong : ChangeSpec := { name := "fnExactNewHouse", vars := ["loop.example/g01378/impl.errRange", "loop.example/g01378/impl.errInvalid", "loop.example/g01378/impl.errLimit", "loop.example/g01378/impl.errState", "loop.example/g01378/impl.errSyntax", "loop.example/g01378/impl.errNotFound", "loop.example/g01378/impl.errBudget"], fn := fun _ => fun
  | [d1, d2, d3, g1, g2, g3, g4, g5, g6, g7] => { results := [.lit (.bool false)], args := [d1, d2, d3], vars := [g1, g2, g3, g4, g5, g6, g7] }
  | _ => none }
def FnExactNewHouseWrongFalsely : Prop := fnExactNewHouseRow.holds Tryd.pinned (OpenSpec.ofChange fnExactNewHouseWrong)

/-- 'laws.FnExactUseKind': WHATEVER THE INPUT: true; the input reads as it did. -/
def fnExactUseKindSpec : ChangeSpec := { name := "fnExactUseKind", vars := ["loop.example/g01378/impl.errInvalid", "loop.example/g01378/impl.errRange", "loop.example/g01378/impl.errLimit", "loop.example/g01378/impl.errState", "loop.example/g01378/impl.errSyntax", "loop.example/g01378/impl.errNotFound", "loop.example/g01378/impl.errBudget"], fn := fun _ => fun
  | [d1, d2, g1, g2, g3, g4, g5, g6, g7] => { results := [.lit (.bool true)], args := [d1, d2], vars := [g1, g2, g3, g4, g5, g6, g7] }
  | _ => none }
def fnExactUseKindRow : OpenClaim := { program := "ytfnlgpnocodonaadoor", sum := "0a0dc3af4954efedcc97f1224b25f26ca2719812955d403d71e4d02e80afbe20", func := "loop.example/g01378/laws.FnExactUseKind", spec := "fnExactUseKind", inPlace := ["internal/reflectlite.TypeOf"], unfollowed := true, recurses := true, named := ["loop.example/g01378/impl.errInvalid", "loop.example/g01378/impl.errRange", "loop.example/g01378/impl.errLimit", "loop.example/g01378/impl.errState", "loop.example/g01378/impl.errSyntax", "loop.example/g01378/impl.errNotFound", "loop.example/g01378/impl.errBudget"], ifaces := true, apart := false, laid := [("loop.example/g01378/impl.errInvalid", laid_loop_example_g01378_impl_errInvalid), ("loop.example/g01378/impl.errRange", laid_loop_example_g01378_impl_errRange), ("loop.example/g01378/impl.errLimit", laid_loop_example_g01378_impl_errLimit), ("loop.example/g01378/impl.errState", laid_loop_example_g01378_impl_errState), ("loop.example/g01378/impl.errSyntax", laid_loop_example_g01378_impl_errSyntax), ("loop.example/g01378/impl.errNotFound", laid_loop_example_g01378_impl_errNotFound), ("loop.example/g01378/impl.errBudget", laid_loop_example_g01378_impl_errBudget)] }
def FnExactUseKindSaid : Prop := fnExactUseKindRow.holds Tryd.pinned (OpenSpec.ofChange fnExactUseKindSpec)

/-- ITS FALSE NEIGHBOUR: 'it returns false'. Refute it at one input. -/
def fnExactUseKindWrong : ChangeSpec := { name := "fnExactUseKind", vars := ["loop.example/g01378/impl.errInvalid", "loop.example/g01378/impl.errRange", "loop.example/g01378/impl.errLimit", "loop.example/g01378/impl.errState", "loop.example/g01378/impl.errSyntax", "loop.example/g01378/impl.errNotFound", "loop.example/g01378/impl.errBudget"], fn := fun _ => fun
  | [d1, d2, g1, g2, g3, g4, g5, g6, g7] => { results := [.lit (.bool false)], args := [d1, d2], vars := [g1, g2, g3, g4, g5, g6, g7] }
  | _ => none }
def FnExactUseKindWrongFalsely : Prop := fnExactUseKindRow.holds Tryd.pinned (OpenSpec.ofChange fnExactUseKindWrong)

/-- 'laws.FnExactWashHouse': WHATEVER THE INPUT: true; the input reads as it did. -/
def fnExactWashHouseSpec : ChangeSpec := { name := "fnExactWashHouse", vars := ["loop.example/g01378/impl.errInvalid", "loop.example/g01378/impl.errRange", "loop.example/g01378/impl.errLimit", "loop.example/g01378/impl.errState", "loop.example/g01378/impl.errSyntax", "loop.example/g01378/impl.errNotFound", "loop.example/g01378/impl.errBudget"], fn := fun _ => fun
  | [d, g1, g2, g3, g4, g5, g6, g7] => { results := [.lit (.bool true)], args := [d], vars := [g1, g2, g3, g4, g5, g6, g7] }
  | _ => none }
def fnExactWashHouseRow : OpenClaim := { program := "ytfnlgpnocodonaadoor", sum := "0a0dc3af4954efedcc97f1224b25f26ca2719812955d403d71e4d02e80afbe20", func := "loop.example/g01378/laws.FnExactWashHouse", spec := "fnExactWashHouse", inPlace := ["internal/reflectlite.TypeOf"], unfollowed := true, recurses := true, named := ["loop.example/g01378/impl.errInvalid", "loop.example/g01378/impl.errRange", "loop.example/g01378/impl.errLimit", "loop.example/g01378/impl.errState", "loop.example/g01378/impl.errSyntax", "loop.example/g01378/impl.errNotFound", "loop.example/g01378/impl.errBudget"], ifaces := true, apart := false, laid := [("loop.example/g01378/impl.errInvalid", laid_loop_example_g01378_impl_errInvalid), ("loop.example/g01378/impl.errRange", laid_loop_example_g01378_impl_errRange), ("loop.example/g01378/impl.errLimit", laid_loop_example_g01378_impl_errLimit), ("loop.example/g01378/impl.errState", laid_loop_example_g01378_impl_errState), ("loop.example/g01378/impl.errSyntax", laid_loop_example_g01378_impl_errSyntax), ("loop.example/g01378/impl.errNotFound", laid_loop_example_g01378_impl_errNotFound), ("loop.example/g01378/impl.errBudget", laid_loop_example_g01378_impl_errBudget)] }
def FnExactWashHouseSaid : Prop := fnExactWashHouseRow.holds Tryd.pinned (OpenSpec.ofChange fnExactWashHouseSpec)

/-- ITS FALSE NEIGHBOUR: 'it returns false'. Refute it at one input. -/
def fnExactWashHouseWrong : ChangeSpec := { name := "fnExactWashHouse", vars := ["loop.example/g01378/impl.errInvalid", "loop.example/g01378/impl.errRange", "loop.example/g01378/impl.errLimit", "loop.example/g01378/impl.errState", "loop.example/g01378/impl.errSyntax", "loop.example/g01378/impl.errNotFound", "loop.example/g01378/impl.errBudget"], fn := fun _ => fun
  | [d, g1, g2, g3, g4, g5, g6, g7] => { results := [.lit (.bool false)], args := [d], vars := [g1, g2, g3, g4, g5, g6, g7] }
  | _ => none }
def FnExactWashHouseWrongFalsely : Prop := fnExactWashHouseRow.holds Tryd.pinned (OpenSpec.ofChange fnExactWashHouseWrong)

/-- 'laws.FnExactAddPieces': WHATEVER THE INPUT: true; the input reads as it did. -/
def fnExactAddPiecesSpec : ChangeSpec := { name := "fnExactAddPieces", vars := ["loop.example/g01378/impl.errInvalid", "loop.example/g01378/impl.errRange", "loop.example/g01378/impl.errLimit", "loop.example/g01378/impl.errState", "loop.example/g01378/impl.errSyntax", "loop.example/g01378/impl.errNotFound", "loop.example/g01378/impl.errBudget"], fn := fun _ => fun
  | [d1, d2, d3, g1, g2, g3, g4, g5, g6, g7] => { results := [.lit (.bool true)], args := [d1, d2, d3], vars := [g1, g2, g3, g4, g5, g6, g7] }
  | _ => none }
def fnExactAddPiecesRow : OpenClaim := { program := "ytfnlgpnocodonaadoor", sum := "0a0dc3af4954efedcc97f1224b25f26ca2719812955d403d71e4d02e80afbe20", func := "loop.example/g01378/laws.FnExactAddPieces", spec := "fnExactAddPieces", inPlace := ["internal/reflectlite.TypeOf"], unfollowed := true, recurses := true, named := ["loop.example/g01378/impl.errInvalid", "loop.example/g01378/impl.errRange", "loop.example/g01378/impl.errLimit", "loop.example/g01378/impl.errState", "loop.example/g01378/impl.errSyntax", "loop.example/g01378/impl.errNotFound", "loop.example/g01378/impl.errBudget"], ifaces := true, apart := false, laid := [("loop.example/g01378/impl.errInvalid", laid_loop_example_g01378_impl_errInvalid), ("loop.example/g01378/impl.errRange", laid_loop_example_g01378_impl_errRange), ("loop.example/g01378/impl.errLimit", laid_loop_example_g01378_impl_errLimit), ("loop.example/g01378/impl.errState", laid_loop_example_g01378_impl_errState), ("loop.example/g01378/impl.errSyntax", laid_loop_example_g01378_impl_errSyntax), ("loop.example/g01378/impl.errNotFound", laid_loop_example_g01378_impl_errNotFound), ("loop.example/g01378/impl.errBudget", laid_loop_example_g01378_impl_errBudget)] }
def FnExactAddPiecesSaid : Prop := fnExactAddPiecesRow.holds Tryd.pinned (OpenSpec.ofChange fnExactAddPiecesSpec)

/-- ITS FALSE NEIGHBOUR: 'it returns false'. Refute it at one input. -/
def fnExactAddPiecesWrong : ChangeSpec := { name := "fnExactAddPieces", vars := ["loop.example/g01378/impl.errInvalid", "loop.example/g01378/impl.errRange", "loop.example/g01378/impl.errLimit", "loop.example/g01378/impl.errState", "loop.example/g01378/impl.errSyntax", "loop.example/g01378/impl.errNotFound", "loop.example/g01378/impl.errBudget"], fn := fun _ => fun
  | [d1, d2, d3, g1, g2, g3, g4, g5, g6, g7] => { results := [.lit (.bool false)], args := [d1, d2, d3], vars := [g1, g2, g3, g4, g5, g6, g7] }
  | _ => none }
def FnExactAddPiecesWrongFalsely : Prop := fnExactAddPiecesRow.holds Tryd.pinned (OpenSpec.ofChange fnExactAddPiecesWrong)

/-- 'laws.FnExactMendRags': WHATEVER THE INPUT: true; the input reads as it did. -/
def fnExactMendRagsSpec : ChangeSpec := { name := "fnExactMendRags", vars := ["loop.example/g01378/impl.errInvalid", "loop.example/g01378/impl.errRange", "loop.example/g01378/impl.errLimit", "loop.example/g01378/impl.errState", "loop.example/g01378/impl.errSyntax", "loop.example/g01378/impl.errNotFound", "loop.example/g01378/impl.errBudget"], fn := fun _ => fun
  | [d1, d2, d3, d4, g1, g2, g3, g4, g5, g6, g7] => { results := [.lit (.bool true)], args := [d1, d2, d3, d4], vars := [g1, g2, g3, g4, g5, g6, g7] }
  | _ => none }
def fnExactMendRagsRow : OpenClaim := { program := "ytfnlgpnocodonaadoor", sum := "0a0dc3af4954efedcc97f1224b25f26ca2719812955d403d71e4d02e80afbe20", func := "loop.example/g01378/laws.FnExactMendRags", spec := "fnExactMendRags", inPlace := ["internal/reflectlite.TypeOf"], unfollowed := true, recurses := true, named := ["loop.example/g01378/impl.errInvalid", "loop.example/g01378/impl.errRange", "loop.example/g01378/impl.errLimit", "loop.example/g01378/impl.errState", "loop.example/g01378/impl.errSyntax", "loop.example/g01378/impl.errNotFound", "loop.example/g01378/impl.errBudget"], ifaces := true, apart := false, laid := [("loop.example/g01378/impl.errInvalid", laid_loop_example_g01378_impl_errInvalid), ("loop.example/g01378/impl.errRange", laid_loop_example_g01378_impl_errRange), ("loop.example/g01378/impl.errLimit", laid_loop_example_g01378_impl_errLimit), ("loop.example/g01378/impl.errState", laid_loop_example_g01378_impl_errState), ("loop.example/g01378/impl.errSyntax", laid_loop_example_g01378_impl_errSyntax), ("loop.example/g01378/impl.errNotFound", laid_loop_example_g01378_impl_errNotFound), ("loop.example/g01378/impl.errBudget", laid_loop_example_g01378_impl_errBudget)] }
def FnExactMendRagsSaid : Prop := fnExactMendRagsRow.holds Tryd.pinned (OpenSpec.ofChange fnExactMendRagsSpec)

/-- ITS FALSE NEIGHBOUR: 'it returns false'. Refute it at one input. -/
def fnExactMendRagsWrong : ChangeSpec := { name := "fnExactMendRags", vars := ["loop.example/g01378/impl.errInvalid", "loop.example/g01378/impl.errRange", "loop.example/g01378/impl.errLimit", "loop.example/g01378/impl.errState", "loop.example/g01378/impl.errSyntax", "loop.example/g01378/impl.errNotFound", "loop.example/g01378/impl.errBudget"], fn := fun _ => fun
  | [d1, d2, d3, d4, g1, g2, g3, g4, g5, g6, g7] => { results := [.lit (.bool false)], args := [d1, d2, d3, d4], vars := [g1, g2, g3, g4, g5, g6, g7] }
  | _ => none }
def FnExactMendRagsWrongFalsely : Prop := fnExactMendRagsRow.holds Tryd.pinned (OpenSpec.ofChange fnExactMendRagsWrong)

/-- 'laws.FnExactDayOnce': WHATEVER THE INPUT: true; the input reads as it did. -/
def fnExactDayOnceSpec : ChangeSpec := { name := "fnExactDayOnce", vars := ["loop.example/g01378/impl.errInvalid", "loop.example/g01378/impl.errRange", "loop.example/g01378/impl.errLimit", "loop.example/g01378/impl.errState", "loop.example/g01378/impl.errSyntax", "loop.example/g01378/impl.errNotFound", "loop.example/g01378/impl.errBudget"], fn := fun _ => fun
  | [d1, d2, g1, g2, g3, g4, g5, g6, g7] => { results := [.lit (.bool true)], args := [d1, d2], vars := [g1, g2, g3, g4, g5, g6, g7] }
  | _ => none }
def fnExactDayOnceRow : OpenClaim := { program := "ytfnlgpnocodonaadoor", sum := "0a0dc3af4954efedcc97f1224b25f26ca2719812955d403d71e4d02e80afbe20", func := "loop.example/g01378/laws.FnExactDayOnce", spec := "fnExactDayOnce", inPlace := ["internal/reflectlite.TypeOf"], unfollowed := true, recurses := true, named := ["loop.example/g01378/impl.errInvalid", "loop.example/g01378/impl.errRange", "loop.example/g01378/impl.errLimit", "loop.example/g01378/impl.errState", "loop.example/g01378/impl.errSyntax", "loop.example/g01378/impl.errNotFound", "loop.example/g01378/impl.errBudget"], ifaces := true, apart := false, laid := [("loop.example/g01378/impl.errInvalid", laid_loop_example_g01378_impl_errInvalid), ("loop.example/g01378/impl.errRange", laid_loop_example_g01378_impl_errRange), ("loop.example/g01378/impl.errLimit", laid_loop_example_g01378_impl_errLimit), ("loop.example/g01378/impl.errState", laid_loop_example_g01378_impl_errState), ("loop.example/g01378/impl.errSyntax", laid_loop_example_g01378_impl_errSyntax), ("loop.example/g01378/impl.errNotFound", laid_loop_example_g01378_impl_errNotFound), ("loop.example/g01378/impl.errBudget", laid_loop_example_g01378_impl_errBudget)] }
def FnExactDayOnceSaid : Prop := fnExactDayOnceRow.holds Tryd.pinned (OpenSpec.ofChange fnExactDayOnceSpec)

/-- ITS FALSE NEIGHBOUR: 'it returns false'. Refute it at one input. -/
def fnExactDayOnceWrong : ChangeSpec := { name := "fnExactDayOnce", vars := ["loop.example/g01378/impl.errInvalid", "loop.example/g01378/impl.errRange", "loop.example/g01378/impl.errLimit", "loop.example/g01378/impl.errState", "loop.example/g01378/impl.errSyntax", "loop.example/g01378/impl.errNotFound", "loop.example/g01378/impl.errBudget"], fn := fun _ => fun
  | [d1, d2, g1, g2, g3, g4, g5, g6, g7] => { results := [.lit (.bool false)], args := [d1, d2], vars := [g1, g2, g3, g4, g5, g6, g7] }
  | _ => none }
def FnExactDayOnceWrongFalsely : Prop := fnExactDayOnceRow.holds Tryd.pinned (OpenSpec.ofChange fnExactDayOnceWrong)

/-- 'laws.FnExactDayAll': WHATEVER THE INPUT: true; the input reads as it did. -/
def fnExactDayAllSpec : ChangeSpec := { name := "fnExactDayAll", vars := ["loop.example/g01378/impl.errInvalid", "loop.example/g01378/impl.errRange", "loop.example/g01378/impl.errLimit", "loop.example/g01378/impl.errState", "loop.example/g01378/impl.errSyntax", "loop.example/g01378/impl.errNotFound", "loop.example/g01378/impl.errBudget"], fn := fun _ => fun
  | [d1, d2, g1, g2, g3, g4, g5, g6, g7] => { results := [.lit (.bool true)], args := [d1, d2], vars := [g1, g2, g3, g4, g5, g6, g7] }
  | _ => none }
def fnExactDayAllRow : OpenClaim := { program := "ytfnlgpnocodonaadoor", sum := "0a0dc3af4954efedcc97f1224b25f26ca2719812955d403d71e4d02e80afbe20", func := "loop.example/g01378/laws.FnExactDayAll", spec := "fnExactDayAll", inPlace := ["internal/reflectlite.TypeOf"], unfollowed := true, recurses := true, named := ["loop.example/g01378/impl.errInvalid", "loop.example/g01378/impl.errRange", "loop.example/g01378/impl.errLimit", "loop.example/g01378/impl.errState", "loop.example/g01378/impl.errSyntax", "loop.example/g01378/impl.errNotFound", "loop.example/g01378/impl.errBudget"], ifaces := true, apart := false, laid := [("loop.example/g01378/impl.errInvalid", laid_loop_example_g01378_impl_errInvalid), ("loop.example/g01378/impl.errRange", laid_loop_example_g01378_impl_errRange), ("loop.example/g01378/impl.errLimit", laid_loop_example_g01378_impl_errLimit), ("loop.example/g01378/impl.errState", laid_loop_example_g01378_impl_errState), ("loop.example/g01378/impl.errSyntax", laid_loop_example_g01378_impl_errSyntax), ("loop.example/g01378/impl.errNotFound", laid_loop_example_g01378_impl_errNotFound), ("loop.example/g01378/impl.errBudget", laid_loop_example_g01378_impl_errBudget)] }
def FnExactDayAllSaid : Prop := fnExactDayAllRow.holds Tryd.pinned (OpenSpec.ofChange fnExactDayAllSpec)

/-- ITS FALSE NEIGHBOUR: 'it returns false'. Refute it at one input. -/
def fnExactDayAllWrong : ChangeSpec := { name := "fnExactDayAll", vars := ["loop.example/g01378/impl.errInvalid", "loop.example/g01378/impl.errRange", "loop.example/g01378/impl.errLimit", "loop.example/g01378/impl.errState", "loop.example/g01378/impl.errSyntax", "loop.example/g01378/impl.errNotFound", "loop.example/g01378/impl.errBudget"], fn := fun _ => fun
  | [d1, d2, g1, g2, g3, g4, g5, g6, g7] => { results := [.lit (.bool false)], args := [d1, d2], vars := [g1, g2, g3, g4, g5, g6, g7] }
  | _ => none }
def FnExactDayAllWrongFalsely : Prop := fnExactDayAllRow.holds Tryd.pinned (OpenSpec.ofChange fnExactDayAllWrong)

/-- 'laws.FnExactWornOut': WHATEVER THE INPUT: true; the input reads as it did. -/
def fnExactWornOutSpec : ChangeSpec := { name := "fnExactWornOut", vars := ["loop.example/g01378/impl.errInvalid", "loop.example/g01378/impl.errRange", "loop.example/g01378/impl.errLimit", "loop.example/g01378/impl.errState", "loop.example/g01378/impl.errSyntax", "loop.example/g01378/impl.errNotFound", "loop.example/g01378/impl.errBudget"], fn := fun _ => fun
  | [d1, d2, g1, g2, g3, g4, g5, g6, g7] => { results := [.lit (.bool true)], args := [d1, d2], vars := [g1, g2, g3, g4, g5, g6, g7] }
  | _ => none }
def fnExactWornOutRow : OpenClaim := { program := "ytfnlgpnocodonaadoor", sum := "0a0dc3af4954efedcc97f1224b25f26ca2719812955d403d71e4d02e80afbe20", func := "loop.example/g01378/laws.FnExactWornOut", spec := "fnExactWornOut", inPlace := ["internal/reflectlite.TypeOf"], unfollowed := true, recurses := true, named := ["loop.example/g01378/impl.errInvalid", "loop.example/g01378/impl.errRange", "loop.example/g01378/impl.errLimit", "loop.example/g01378/impl.errState", "loop.example/g01378/impl.errSyntax", "loop.example/g01378/impl.errNotFound", "loop.example/g01378/impl.errBudget"], ifaces := true, apart := false, laid := [("loop.example/g01378/impl.errInvalid", laid_loop_example_g01378_impl_errInvalid), ("loop.example/g01378/impl.errRange", laid_loop_example_g01378_impl_errRange), ("loop.example/g01378/impl.errLimit", laid_loop_example_g01378_impl_errLimit), ("loop.example/g01378/impl.errState", laid_loop_example_g01378_impl_errState), ("loop.example/g01378/impl.errSyntax", laid_loop_example_g01378_impl_errSyntax), ("loop.example/g01378/impl.errNotFound", laid_loop_example_g01378_impl_errNotFound), ("loop.example/g01378/impl.errBudget", laid_loop_example_g01378_impl_errBudget)] }
def FnExactWornOutSaid : Prop := fnExactWornOutRow.holds Tryd.pinned (OpenSpec.ofChange fnExactWornOutSpec)

/-- ITS FALSE NEIGHBOUR: 'it returns false'. Refute it at one input. -/
def fnExactWornOutWrong : ChangeSpec := { name := "fnExactWornOut", vars := ["loop.example/g01378/impl.errInvalid", "loop.example/g01378/impl.errRange", "loop.example/g01378/impl.errLimit", "loop.example/g01378/impl.errState", "loop.example/g01378/impl.errSyntax", "loop.example/g01378/impl.errNotFound", "loop.example/g01378/impl.errBudget"], fn := fun _ => fun
  | [d1, d2, g1, g2, g3, g4, g5, g6, g7] => { results := [.lit (.bool false)], args := [d1, d2], vars := [g1, g2, g3, g4, g5, g6, g7] }
  | _ => none }
def FnExactWornOutWrongFalsely : Prop := fnExactWornOutRow.holds Tryd.pinned (OpenSpec.ofChange fnExactWornOutWrong)

/- THE SECOND FORM. 'bulk': how many values and letters a reading holds, each counted each time it is reached (what is shared counts as often as it is met; a slice's spare places count too). A statement '..UptoSaid' is the law's where the arguments, and the package variables that the reading takes, are together of bulk at most 1048576: NARROWER than '..Said'. Prove '..Said' where nothing that the law and all that it calls make is longer than what came in: it says more and counts as full. Else prove '..UptoSaid'. A law counts once. -/
mutual
def uptoBulk {H : Type} : DataW H → Nat
  | .lit (.string bytes) => bytes.length + 1
  | .lit _ => 1
  | .nil => 1
  | .ptr d => uptoBulk d + 1
  | .slice elems spare => uptoBulkAll elems + uptoBulkAll spare + 1
  | .agg parts => uptoBulkAll parts + 1
  | .iface _ d => uptoBulk d + 1
  | .map entries => uptoBulkEntries entries + 1
  | .held _ => 1
def uptoBulkAll {H : Type} : List (DataW H) → Nat
  | [] => 0
  | d :: r => uptoBulk d + uptoBulkAll r
def uptoBulkEntries {H : Type} : List (Lit × DataW H) → Nat
  | [] => 0
  | x :: r => uptoBulkEntry x + uptoBulkEntries r
def uptoBulkEntry {H : Type} : Lit × DataW H → Nat
  | (.string bytes, d) => bytes.length + uptoBulk d + 1
  | (_, d) => uptoBulk d + 1
 end
def uptoSmall : (H : Type) → List (DataW H) → Bool := fun _ ds => decide (uptoBulkAll ds ≤ 1048576)
def OpenSpec.upto (s : _root_.Go.ChangeSpec) : _root_.Go.OpenSpec := { _root_.Go.OpenSpec.ofChange s with cond := some uptoSmall }

/-- 'laws.FnExactValidHouse', WHERE WHAT IT READS IS OF BULK AT MOST 1048576: true; the input reads as it did. -/
def fnExactValidHouseUptoRow : OpenClaim := { program := "ytfnlgpnocodonaadoor", sum := "0a0dc3af4954efedcc97f1224b25f26ca2719812955d403d71e4d02e80afbe20", func := "loop.example/g01378/laws.FnExactValidHouse", spec := "fnExactValidHouse", unfollowed := true, recurses := true, named := ["loop.example/g01378/impl.errRange"], ifaces := true, apart := false, laid := [("loop.example/g01378/impl.errRange", laid_loop_example_g01378_impl_errRange)], narrowed := true }
def FnExactValidHouseUptoSaid : Prop := fnExactValidHouseUptoRow.holds Tryd.pinned (OpenSpec.upto fnExactValidHouseSpec)

/-- 'laws.FnExactPiecesOf', WHERE WHAT IT READS IS OF BULK AT MOST 1048576: true; the input reads as it did. -/
def fnExactPiecesOfUptoRow : OpenClaim := { program := "ytfnlgpnocodonaadoor", sum := "0a0dc3af4954efedcc97f1224b25f26ca2719812955d403d71e4d02e80afbe20", func := "loop.example/g01378/laws.FnExactPiecesOf", spec := "fnExactPiecesOf", inPlace := ["internal/reflectlite.TypeOf"], unfollowed := true, recurses := true, named := ["loop.example/g01378/impl.errInvalid", "loop.example/g01378/impl.errRange", "loop.example/g01378/impl.errLimit", "loop.example/g01378/impl.errState", "loop.example/g01378/impl.errSyntax", "loop.example/g01378/impl.errNotFound", "loop.example/g01378/impl.errBudget"], ifaces := true, apart := false, laid := [("loop.example/g01378/impl.errInvalid", laid_loop_example_g01378_impl_errInvalid), ("loop.example/g01378/impl.errRange", laid_loop_example_g01378_impl_errRange), ("loop.example/g01378/impl.errLimit", laid_loop_example_g01378_impl_errLimit), ("loop.example/g01378/impl.errState", laid_loop_example_g01378_impl_errState), ("loop.example/g01378/impl.errSyntax", laid_loop_example_g01378_impl_errSyntax), ("loop.example/g01378/impl.errNotFound", laid_loop_example_g01378_impl_errNotFound), ("loop.example/g01378/impl.errBudget", laid_loop_example_g01378_impl_errBudget)], narrowed := true }
def FnExactPiecesOfUptoSaid : Prop := fnExactPiecesOfUptoRow.holds Tryd.pinned (OpenSpec.upto fnExactPiecesOfSpec)

/-- 'laws.FnExactNewHouse', WHERE WHAT IT READS IS OF BULK AT MOST 1048576: true; the input reads as it did. -/
def fnExactNewHouseUptoRow : OpenClaim := { program := "ytfnlgpnocodonaadoor", sum := "0a0dc3af4954efedcc97f1224b25f26ca2719812955d403d71e4d02e80afbe20", func := "loop.example/g01378/laws.FnExactNewHouse", spec := "fnExactNewHouse", inPlace := ["internal/reflectlite.TypeOf"], unfollowed := true, recurses := true, named := ["loop.example/g01378/impl.errRange", "loop.example/g01378/impl.errInvalid", "loop.example/g01378/impl.errLimit", "loop.example/g01378/impl.errState", "loop.example/g01378/impl.errSyntax", "loop.example/g01378/impl.errNotFound", "loop.example/g01378/impl.errBudget"], ifaces := true, apart := false, laid := [("loop.example/g01378/impl.errInvalid", laid_loop_example_g01378_impl_errInvalid), ("loop.example/g01378/impl.errRange", laid_loop_example_g01378_impl_errRange), ("loop.example/g01378/impl.errLimit", laid_loop_example_g01378_impl_errLimit), ("loop.example/g01378/impl.errState", laid_loop_example_g01378_impl_errState), ("loop.example/g01378/impl.errSyntax", laid_loop_example_g01378_impl_errSyntax), ("loop.example/g01378/impl.errNotFound", laid_loop_example_g01378_impl_errNotFound), ("loop.example/g01378/impl.errBudget", laid_loop_example_g01378_impl_errBudget)], narrowed := true }
def FnExactNewHouseUptoSaid : Prop := fnExactNewHouseUptoRow.holds Tryd.pinned (OpenSpec.upto fnExactNewHouseSpec)

/-- 'laws.FnExactUseKind', WHERE WHAT IT READS IS OF BULK AT MOST 1048576: true; the input reads as it did. -/
def fnExactUseKindUptoRow : OpenClaim := { program := "ytfnlgpnocodonaadoor", sum := "0a0dc3af4954efedcc97f1224b25f26ca2719812955d403d71e4d02e80afbe20", func := "loop.example/g01378/laws.FnExactUseKind", spec := "fnExactUseKind", inPlace := ["internal/reflectlite.TypeOf"], unfollowed := true, recurses := true, named := ["loop.example/g01378/impl.errInvalid", "loop.example/g01378/impl.errRange", "loop.example/g01378/impl.errLimit", "loop.example/g01378/impl.errState", "loop.example/g01378/impl.errSyntax", "loop.example/g01378/impl.errNotFound", "loop.example/g01378/impl.errBudget"], ifaces := true, apart := false, laid := [("loop.example/g01378/impl.errInvalid", laid_loop_example_g01378_impl_errInvalid), ("loop.example/g01378/impl.errRange", laid_loop_example_g01378_impl_errRange), ("loop.example/g01378/impl.errLimit", laid_loop_example_g01378_impl_errLimit), ("loop.example/g01378/impl.errState", laid_loop_example_g01378_impl_errState), ("loop.example/g01378/impl.errSyntax", laid_loop_example_g01378_impl_errSyntax), ("loop.example/g01378/impl.errNotFound", laid_loop_example_g01378_impl_errNotFound), ("loop.example/g01378/impl.errBudget", laid_loop_example_g01378_impl_errBudget)], narrowed := true }
def FnExactUseKindUptoSaid : Prop := fnExactUseKindUptoRow.holds Tryd.pinned (OpenSpec.upto fnExactUseKindSpec)

/-- 'laws.FnExactWashHouse', WHERE WHAT IT READS IS OF BULK AT MOST 1048576: true; the input reads as it did. -/
def fnExactWashHouseUptoRow : OpenClaim := { program := "ytfnlgpnocodonaadoor", sum := "0a0dc3af4954efedcc97f1224b25f26ca2719812955d403d71e4d02e80afbe20", func := "loop.example/g01378/laws.FnExactWashHouse", spec := "fnExactWashHouse", inPlace := ["internal/reflectlite.TypeOf"], unfollowed := true, recurses := true, named := ["loop.example/g01378/impl.errInvalid", "loop.example/g01378/impl.errRange", "loop.example/g01378/impl.errLimit", "loop.example/g01378/impl.errState", "loop.example/g01378/impl.errSyntax", "loop.example/g01378/impl.errNotFound", "loop.example/g01378/impl.errBudget"], ifaces := true, apart := false, laid := [("loop.example/g01378/impl.errInvalid", laid_loop_example_g01378_impl_errInvalid), ("loop.example/g01378/impl.errRange", laid_loop_example_g01378_impl_errRange), ("loop.example/g01378/impl.errLimit", laid_loop_example_g01378_impl_errLimit), ("loop.example/g01378/impl.errState", laid_loop_example_g01378_impl_errState), ("loop.example/g01378/impl.errSyntax", laid_loop_example_g01378_impl_errSyntax), ("loop.example/g01378/impl.errNotFound", laid_loop_example_g01378_impl_errNotFound), ("loop.example/g01378/impl.errBudget", laid_loop_example_g01378_impl_errBudget)], narrowed := true }
def FnExactWashHouseUptoSaid : Prop := fnExactWashHouseUptoRow.holds Tryd.pinned (OpenSpec.upto fnExactWashHouseSpec)

/-- 'laws.FnExactAddPieces', WHERE WHAT IT READS IS OF BULK AT MOST 1048576: true; the input reads as it did. -/
def fnExactAddPiecesUptoRow : OpenClaim := { program := "ytfnlgpnocodonaadoor", sum := "0a0dc3af4954efedcc97f1224b25f26ca2719812955d403d71e4d02e80afbe20", func := "loop.example/g01378/laws.FnExactAddPieces", spec := "fnExactAddPieces", inPlace := ["internal/reflectlite.TypeOf"], unfollowed := true, recurses := true, named := ["loop.example/g01378/impl.errInvalid", "loop.example/g01378/impl.errRange", "loop.example/g01378/impl.errLimit", "loop.example/g01378/impl.errState", "loop.example/g01378/impl.errSyntax", "loop.example/g01378/impl.errNotFound", "loop.example/g01378/impl.errBudget"], ifaces := true, apart := false, laid := [("loop.example/g01378/impl.errInvalid", laid_loop_example_g01378_impl_errInvalid), ("loop.example/g01378/impl.errRange", laid_loop_example_g01378_impl_errRange), ("loop.example/g01378/impl.errLimit", laid_loop_example_g01378_impl_errLimit), ("loop.example/g01378/impl.errState", laid_loop_example_g01378_impl_errState), ("loop.example/g01378/impl.errSyntax", laid_loop_example_g01378_impl_errSyntax), ("loop.example/g01378/impl.errNotFound", laid_loop_example_g01378_impl_errNotFound), ("loop.example/g01378/impl.errBudget", laid_loop_example_g01378_impl_errBudget)], narrowed := true }
def FnExactAddPiecesUptoSaid : Prop := fnExactAddPiecesUptoRow.holds Tryd.pinned (OpenSpec.upto fnExactAddPiecesSpec)

/-- 'laws.FnExactMendRags', WHERE WHAT IT READS IS OF BULK AT MOST 1048576: true; the input reads as it did. -/
def fnExactMendRagsUptoRow : OpenClaim := { program := "ytfnlgpnocodonaadoor", sum := "0a0dc3af4954efedcc97f1224b25f26ca2719812955d403d71e4d02e80afbe20", func := "loop.example/g01378/laws.FnExactMendRags", spec := "fnExactMendRags", inPlace := ["internal/reflectlite.TypeOf"], unfollowed := true, recurses := true, named := ["loop.example/g01378/impl.errInvalid", "loop.example/g01378/impl.errRange", "loop.example/g01378/impl.errLimit", "loop.example/g01378/impl.errState", "loop.example/g01378/impl.errSyntax", "loop.example/g01378/impl.errNotFound", "loop.example/g01378/impl.errBudget"], ifaces := true, apart := false, laid := [("loop.example/g01378/impl.errInvalid", laid_loop_example_g01378_impl_errInvalid), ("loop.example/g01378/impl.errRange", laid_loop_example_g01378_impl_errRange), ("loop.example/g01378/impl.errLimit", laid_loop_example_g01378_impl_errLimit), ("loop.example/g01378/impl.errState", laid_loop_example_g01378_impl_errState), ("loop.example/g01378/impl.errSyntax", laid_loop_example_g01378_impl_errSyntax), ("loop.example/g01378/impl.errNotFound", laid_loop_example_g01378_impl_errNotFound), ("loop.example/g01378/impl.errBudget", laid_loop_example_g01378_impl_errBudget)], narrowed := true }
def FnExactMendRagsUptoSaid : Prop := fnExactMendRagsUptoRow.holds Tryd.pinned (OpenSpec.upto fnExactMendRagsSpec)

/-- 'laws.FnExactDayOnce', WHERE WHAT IT READS IS OF BULK AT MOST 1048576: true; the input reads as it did. -/
def fnExactDayOnceUptoRow : OpenClaim := { program := "ytfnlgpnocodonaadoor", sum := "0a0dc3af4954efedcc97f1224b25f26ca2719812955d403d71e4d02e80afbe20", func := "loop.example/g01378/laws.FnExactDayOnce", spec := "fnExactDayOnce", inPlace := ["internal/reflectlite.TypeOf"], unfollowed := true, recurses := true, named := ["loop.example/g01378/impl.errInvalid", "loop.example/g01378/impl.errRange", "loop.example/g01378/impl.errLimit", "loop.example/g01378/impl.errState", "loop.example/g01378/impl.errSyntax", "loop.example/g01378/impl.errNotFound", "loop.example/g01378/impl.errBudget"], ifaces := true, apart := false, laid := [("loop.example/g01378/impl.errInvalid", laid_loop_example_g01378_impl_errInvalid), ("loop.example/g01378/impl.errRange", laid_loop_example_g01378_impl_errRange), ("loop.example/g01378/impl.errLimit", laid_loop_example_g01378_impl_errLimit), ("loop.example/g01378/impl.errState", laid_loop_example_g01378_impl_errState), ("loop.example/g01378/impl.errSyntax", laid_loop_example_g01378_impl_errSyntax), ("loop.example/g01378/impl.errNotFound", laid_loop_example_g01378_impl_errNotFound), ("loop.example/g01378/impl.errBudget", laid_loop_example_g01378_impl_errBudget)], narrowed := true }
def FnExactDayOnceUptoSaid : Prop := fnExactDayOnceUptoRow.holds Tryd.pinned (OpenSpec.upto fnExactDayOnceSpec)

/-- 'laws.FnExactDayAll', WHERE WHAT IT READS IS OF BULK AT MOST 1048576: true; the input reads as it did. -/
def fnExactDayAllUptoRow : OpenClaim := { program := "ytfnlgpnocodonaadoor", sum := "0a0dc3af4954efedcc97f1224b25f26ca2719812955d403d71e4d02e80afbe20", func := "loop.example/g01378/laws.FnExactDayAll", spec := "fnExactDayAll", inPlace := ["internal/reflectlite.TypeOf"], unfollowed := true, recurses := true, named := ["loop.example/g01378/impl.errInvalid", "loop.example/g01378/impl.errRange", "loop.example/g01378/impl.errLimit", "loop.example/g01378/impl.errState", "loop.example/g01378/impl.errSyntax", "loop.example/g01378/impl.errNotFound", "loop.example/g01378/impl.errBudget"], ifaces := true, apart := false, laid := [("loop.example/g01378/impl.errInvalid", laid_loop_example_g01378_impl_errInvalid), ("loop.example/g01378/impl.errRange", laid_loop_example_g01378_impl_errRange), ("loop.example/g01378/impl.errLimit", laid_loop_example_g01378_impl_errLimit), ("loop.example/g01378/impl.errState", laid_loop_example_g01378_impl_errState), ("loop.example/g01378/impl.errSyntax", laid_loop_example_g01378_impl_errSyntax), ("loop.example/g01378/impl.errNotFound", laid_loop_example_g01378_impl_errNotFound), ("loop.example/g01378/impl.errBudget", laid_loop_example_g01378_impl_errBudget)], narrowed := true }
def FnExactDayAllUptoSaid : Prop := fnExactDayAllUptoRow.holds Tryd.pinned (OpenSpec.upto fnExactDayAllSpec)

/-- 'laws.FnExactWornOut', WHERE WHAT IT READS IS OF BULK AT MOST 1048576: true; the input reads as it did. -/
def fnExactWornOutUptoRow : OpenClaim := { program := "ytfnlgpnocodonaadoor", sum := "0a0dc3af4954efedcc97f1224b25f26ca2719812955d403d71e4d02e80afbe20", func := "loop.example/g01378/laws.FnExactWornOut", spec := "fnExactWornOut", inPlace := ["internal/reflectlite.TypeOf"], unfollowed := true, recurses := true, named := ["loop.example/g01378/impl.errInvalid", "loop.example/g01378/impl.errRange", "loop.example/g01378/impl.errLimit", "loop.example/g01378/impl.errState", "loop.example/g01378/impl.errSyntax", "loop.example/g01378/impl.errNotFound", "loop.example/g01378/impl.errBudget"], ifaces := true, apart := false, laid := [("loop.example/g01378/impl.errInvalid", laid_loop_example_g01378_impl_errInvalid), ("loop.example/g01378/impl.errRange", laid_loop_example_g01378_impl_errRange), ("loop.example/g01378/impl.errLimit", laid_loop_example_g01378_impl_errLimit), ("loop.example/g01378/impl.errState", laid_loop_example_g01378_impl_errState), ("loop.example/g01378/impl.errSyntax", laid_loop_example_g01378_impl_errSyntax), ("loop.example/g01378/impl.errNotFound", laid_loop_example_g01378_impl_errNotFound), ("loop.example/g01378/impl.errBudget", laid_loop_example_g01378_impl_errBudget)], narrowed := true }
def FnExactWornOutUptoSaid : Prop := fnExactWornOutUptoRow.holds Tryd.pinned (OpenSpec.upto fnExactWornOutSpec)

end Rows
end Go.Proofs.YtfnlgpnocodonaaDoor
