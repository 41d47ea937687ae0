/-
  NARROWER THAN 'FOR EVERY INPUT', by the rows' own cells (each row's printed sentence says how): FnExactMendRags: ifaces, laid · FnExactWashHouse: ifaces, laid · FnExactDayOnce: ifaces, laid · FnExactDayAll: ifaces, laid · FnExactWornOut: ifaces, laid · FnExactFirstShort: ifaces, laid · FnExactLeastStock: ifaces, laid · FnExactLastsFor: ifaces, laid.
  DERIVED. THE GIVEN ROWS OF THIS SEAT. 8 by the template 'for every input the law returns true; each argument reads behind the call as it read before'; 0 by the template 'total and deterministic' (their statements: YtnnganjodlmhmaaDoorTotals.lean).
  GIVEN WITH THE SEED: the statements are not yours to turn. If you find one false, say at which input.
  Laid BY PROGRAM, IN A SANDBOX (cutbox-rows.mjs): the forced cells as the released guide's own fill.sh prints them over the translation ddc89c91608e8fe8… (all of the seat's roots in one cut). By AI agents, Wed Nov 11 2026. No macro, syntax, notation, axiom, sorry.
-/
import Derived.Test.YtnnganjodlmhmaaDoorChecked
import GoSem.Claim
import GoSem.ClaimJoined
import GoSem.ClaimMapViews
import Derived.JoinedTies
import Derived.KernelRfl
namespace Go.Proofs.YtnnganjodlmhmaaDoor
/- THE CELL 'sum', in the pinned program and in every row, IS THE sha256 OF THE DUMP (.gsa) THAT YtnnganjodlmhmaaDoorProg.lean LOADS. Nothing in Lean hashes anything: it is a label: what it is worth is what the hold of that sum in a sandbox is worth. -/
noncomputable def Tryd.pinned : Pinned := { name := "ytnnganjodlmhmaadoor", sum := "ddc89c91608e8fe81ec27500e3035a44b2f76d9112737d4e55d96d4a49d50852", checked := Tryd.checked }
namespace Rows
def none {H : Type} : Left H := { results := [], args := [] }

/- WHAT THE LISTED PACKAGE-LEVEL VARIABLES READ AS WHEN THE CALL BEGINS. Each datum BY PROGRAM (the guide's laid-datum.mjs) off the statement by which the dump's own 'gosem.cut.vars' lays the variable. In a bare row this is a premise. The card (YtnnganjodlmhmaaDoorCards.lean) ties it to the program's text. -/
def laid_loop_example_g01378_impl_errInvalid {H : Type} : DataW H := .iface "*errors.errorString" (.ptr (.agg [.lit (.string [105, 110, 118, 97, 108, 105, 100])]))
def laid_loop_example_g01378_impl_errRange {H : Type} : DataW H := .iface "*errors.errorString" (.ptr (.agg [.lit (.string [114, 97, 110, 103, 101])]))
def laid_loop_example_g01378_impl_errLimit {H : Type} : DataW H := .iface "*errors.errorString" (.ptr (.agg [.lit (.string [108, 105, 109, 105, 116])]))
def laid_loop_example_g01378_impl_errState {H : Type} : DataW H := .iface "*errors.errorString" (.ptr (.agg [.lit (.string [115, 116, 97, 116, 101])]))
def laid_loop_example_g01378_impl_errSyntax {H : Type} : DataW H := .iface "*errors.errorString" (.ptr (.agg [.lit (.string [115, 121, 110, 116, 97, 120])]))
def laid_loop_example_g01378_impl_errNotFound {H : Type} : DataW H := .iface "*errors.errorString" (.ptr (.agg [.lit (.string [110, 111, 116, 102, 111, 117, 110, 100])]))
def laid_loop_example_g01378_impl_errBudget {H : Type} : DataW H := .iface "*errors.errorString" (.ptr (.agg [.lit (.string [98, 117, 100, 103, 101, 116])]))

/-- 'laws.FnExactMendRags': WHATEVER THE INPUT: true; the input reads as it did. -/
def fnExactMendRagsSpec : ChangeSpec := { name := "fnExactMendRags", vars := ["loop.example/g01378/impl.errInvalid", "loop.example/g01378/impl.errRange", "loop.example/g01378/impl.errLimit", "loop.example/g01378/impl.errState", "loop.example/g01378/impl.errSyntax", "loop.example/g01378/impl.errNotFound", "loop.example/g01378/impl.errBudget"], fn := fun _ => fun
  | [d1, d2, d3, d4, g1, g2, g3, g4, g5, g6, g7] => { results := [.lit (.bool true)], args := [d1, d2, d3, d4], vars := [g1, g2, g3, g4, g5, g6, g7] }
  | _ => none }
def fnExactMendRagsRow : OpenClaim := { program := "ytnnganjodlmhmaadoor", sum := "ddc89c91608e8fe81ec27500e3035a44b2f76d9112737d4e55d96d4a49d50852", func := "loop.example/g01378/laws.FnExactMendRags", spec := "fnExactMendRags", inPlace := ["internal/reflectlite.TypeOf"], unfollowed := true, recurses := true, named := ["loop.example/g01378/impl.errInvalid", "loop.example/g01378/impl.errRange", "loop.example/g01378/impl.errLimit", "loop.example/g01378/impl.errState", "loop.example/g01378/impl.errSyntax", "loop.example/g01378/impl.errNotFound", "loop.example/g01378/impl.errBudget"], ifaces := true, apart := false, laid := [("loop.example/g01378/impl.errInvalid", laid_loop_example_g01378_impl_errInvalid), ("loop.example/g01378/impl.errRange", laid_loop_example_g01378_impl_errRange), ("loop.example/g01378/impl.errLimit", laid_loop_example_g01378_impl_errLimit), ("loop.example/g01378/impl.errState", laid_loop_example_g01378_impl_errState), ("loop.example/g01378/impl.errSyntax", laid_loop_example_g01378_impl_errSyntax), ("loop.example/g01378/impl.errNotFound", laid_loop_example_g01378_impl_errNotFound), ("loop.example/g01378/impl.errBudget", laid_loop_example_g01378_impl_errBudget)] }
def FnExactMendRagsSaid : Prop := fnExactMendRagsRow.holds Tryd.pinned (OpenSpec.ofChange fnExactMendRagsSpec)

/-- ITS FALSE NEIGHBOUR: 'it returns false'. Refute it at one input. -/
def fnExactMendRagsWrong : ChangeSpec := { name := "fnExactMendRags", vars := ["loop.example/g01378/impl.errInvalid", "loop.example/g01378/impl.errRange", "loop.example/g01378/impl.errLimit", "loop.example/g01378/impl.errState", "loop.example/g01378/impl.errSyntax", "loop.example/g01378/impl.errNotFound", "loop.example/g01378/impl.errBudget"], fn := fun _ => fun
  | [d1, d2, d3, d4, g1, g2, g3, g4, g5, g6, g7] => { results := [.lit (.bool false)], args := [d1, d2, d3, d4], vars := [g1, g2, g3, g4, g5, g6, g7] }
  | _ => none }
def FnExactMendRagsWrongFalsely : Prop := fnExactMendRagsRow.holds Tryd.pinned (OpenSpec.ofChange fnExactMendRagsWrong)

/-- 'laws.FnExactWashHouse': WHATEVER THE INPUT: true; the input reads as it did. -/
def fnExactWashHouseSpec : ChangeSpec := { name := "fnExactWashHouse", vars := ["loop.example/g01378/impl.errInvalid", "loop.example/g01378/impl.errRange", "loop.example/g01378/impl.errLimit", "loop.example/g01378/impl.errState", "loop.example/g01378/impl.errSyntax", "loop.example/g01378/impl.errNotFound", "loop.example/g01378/impl.errBudget"], fn := fun _ => fun
  | [d, g1, g2, g3, g4, g5, g6, g7] => { results := [.lit (.bool true)], args := [d], vars := [g1, g2, g3, g4, g5, g6, g7] }
  | _ => none }
def fnExactWashHouseRow : OpenClaim := { program := "ytnnganjodlmhmaadoor", sum := "ddc89c91608e8fe81ec27500e3035a44b2f76d9112737d4e55d96d4a49d50852", func := "loop.example/g01378/laws.FnExactWashHouse", spec := "fnExactWashHouse", inPlace := ["internal/reflectlite.TypeOf"], unfollowed := true, recurses := true, named := ["loop.example/g01378/impl.errInvalid", "loop.example/g01378/impl.errRange", "loop.example/g01378/impl.errLimit", "loop.example/g01378/impl.errState", "loop.example/g01378/impl.errSyntax", "loop.example/g01378/impl.errNotFound", "loop.example/g01378/impl.errBudget"], ifaces := true, apart := false, laid := [("loop.example/g01378/impl.errInvalid", laid_loop_example_g01378_impl_errInvalid), ("loop.example/g01378/impl.errRange", laid_loop_example_g01378_impl_errRange), ("loop.example/g01378/impl.errLimit", laid_loop_example_g01378_impl_errLimit), ("loop.example/g01378/impl.errState", laid_loop_example_g01378_impl_errState), ("loop.example/g01378/impl.errSyntax", laid_loop_example_g01378_impl_errSyntax), ("loop.example/g01378/impl.errNotFound", laid_loop_example_g01378_impl_errNotFound), ("loop.example/g01378/impl.errBudget", laid_loop_example_g01378_impl_errBudget)] }
def FnExactWashHouseSaid : Prop := fnExactWashHouseRow.holds Tryd.pinned (OpenSpec.ofChange fnExactWashHouseSpec)

/-- ITS FALSE NEIGHBOUR: 'it returns false'. Refute it at one input. -/
def fnExactWashHouseWrong : ChangeSpec := { name := "fnExactWashHouse", vars := ["loop.example/g01378/impl.errInvalid", "loop.example/g01378/impl.errRange", "loop.example/g01378/impl.errLimit", "loop.example/g01378/impl.errState", "loop.example/g01378/impl.errSyntax", "loop.example/g01378/impl.errNotFound", "loop.example/g01378/impl.errBudget"], fn := fun _ => fun
  | [d, g1, g2, g3, g4, g5, g6, g7] => { results := [.lit (.bool false)], args := [d], vars := [g1, g2, g3, g4, g5, g6, g7] }
  | _ => none }
def FnExactWashHouseWrongFalsely : Prop := fnExactWashHouseRow.holds Tryd.pinned (OpenSpec.ofChange fnExactWashHouseWrong)

/-- 'laws.FnExactDayOnce': WHATEVER THE INPUT: true; the input reads as it did. -/
def fnExactDayOnceSpec : ChangeSpec := { name := "fnExactDayOnce", vars := ["loop.example/g01378/impl.errInvalid", "loop.example/g01378/impl.errRange", "loop.example/g01378/impl.errLimit", "loop.example/g01378/impl.errState", "loop.example/g01378/impl.errSyntax", "loop.example/g01378/impl.errNotFound", "loop.example/g01378/impl.errBudget"], fn := fun _ => fun
  | [d1, d2, g1, g2, g3, g4, g5, g6, g7] => { results := [.lit (.bool true)], args := [d1, d2], vars := [g1, g2, g3, g4, g5, g6, g7] }
  | _ => none }
def fnExactDayOnceRow : OpenClaim := { program := "ytnnganjodlmhmaadoor", sum := "ddc89c91608e8fe81ec27500e3035a44b2f76d9112737d4e55d96d4a49d50852", func := "loop.example/g01378/laws.FnExactDayOnce", spec := "fnExactDayOnce", inPlace := ["internal/reflectlite.TypeOf"], unfollowed := true, recurses := true, named := ["loop.example/g01378/impl.errInvalid", "loop.example/g01378/impl.errRange", "loop.example/g01378/impl.errLimit", "loop.example/g01378/impl.errState", "loop.example/g01378/impl.errSyntax", "loop.example/g01378/impl.errNotFound", "loop.example/g01378/impl.errBudget"], ifaces := true, apart := false, laid := [("loop.example/g01378/impl.errInvalid", laid_loop_example_g01378_impl_errInvalid), ("loop.example/g01378/impl.errRange", laid_loop_example_g01378_impl_errRange), ("loop.example/g01378/impl.errLimit", laid_loop_example_g01378_impl_errLimit), ("loop.example/g01378/impl.errState", laid_loop_example_g01378_impl_errState), ("loop.example/g01378/impl.errSyntax", laid_loop_example_g01378_impl_errSyntax), ("loop.example/g01378/impl.errNotFound", laid_loop_example_g01378_impl_errNotFound), ("loop.example/g01378/impl.errBudget", laid_loop_example_g01378_impl_errBudget)] }
def FnExactDayOnceSaid : Prop := fnExactDayOnceRow.holds Tryd.pinned (OpenSpec.ofChange fnExactDayOnceSpec)

/-- ITS FALSE NEIGHBOUR: 'it returns false'. Refute it at one input. -/
def fnExactDayOnceWrong : ChangeSpec := { name := "fnExactDayOnce", vars := ["loop.example/g01378/impl.errInvalid", "loop.example/g01378/impl.errRange", "loop.example/g01378/impl.errLimit", "loop.example/g01378/impl.errState", "loop.example/g01378/impl.errSyntax", "loop.example/g01378/impl.errNotFound", "loop.example/g01378/impl.errBudget"], fn := fun _ => fun
  | [d1, d2, g1, g2, g3, g4, g5, g6, g7] => { results := [.lit (.bool false)], args := [d1, d2], vars := [g1, g2, g3, g4, g5, g6, g7] }
  | _ => none }
def FnExactDayOnceWrongFalsely : Prop := fnExactDayOnceRow.holds Tryd.pinned (OpenSpec.ofChange fnExactDayOnceWrong)

/-- 'laws.FnExactDayAll': WHATEVER THE INPUT: true; the input reads as it did. -/
def fnExactDayAllSpec : ChangeSpec := { name := "fnExactDayAll", vars := ["loop.example/g01378/impl.errInvalid", "loop.example/g01378/impl.errRange", "loop.example/g01378/impl.errLimit", "loop.example/g01378/impl.errState", "loop.example/g01378/impl.errSyntax", "loop.example/g01378/impl.errNotFound", "loop.example/g01378/impl.errBudget"], fn := fun _ => fun
  | [d1, d2, g1, g2, g3, g4, g5, g6, g7] => { results := [.lit (.bool true)], args := [d1, d2], vars := [g1, g2, g3, g4, g5, g6, g7] }
  | _ => none }
def fnExactDayAllRow : OpenClaim := { program := "ytnnganjodlmhmaadoor", sum := "ddc89c91608e8fe81ec27500e3035a44b2f76d9112737d4e55d96d4a49d50852", func := "loop.example/g01378/laws.FnExactDayAll", spec := "fnExactDayAll", inPlace := ["internal/reflectlite.TypeOf"], unfollowed := true, recurses := true, named := ["loop.example/g01378/impl.errInvalid", "loop.example/g01378/impl.errRange", "loop.example/g01378/impl.errLimit", "loop.example/g01378/impl.errState", "loop.example/g01378/impl.errSyntax", "loop.example/g01378/impl.errNotFound", "loop.example/g01378/impl.errBudget"], ifaces := true, apart := false, laid := [("loop.example/g01378/impl.errInvalid", laid_loop_example_g01378_impl_errInvalid), ("loop.example/g01378/impl.errRange", laid_loop_example_g01378_impl_errRange), ("loop.example/g01378/impl.errLimit", laid_loop_example_g01378_impl_errLimit), ("loop.example/g01378/impl.errState", laid_loop_example_g01378_impl_errState), ("loop.example/g01378/impl.errSyntax", laid_loop_example_g01378_impl_errSyntax), ("loop.example/g01378/impl.errNotFound", laid_loop_example_g01378_impl_errNotFound), ("loop.example/g01378/impl.errBudget", laid_loop_example_g01378_impl_errBudget)] }
def FnExactDayAllSaid : Prop := fnExactDayAllRow.holds Tryd.pinned (OpenSpec.ofChange fnExactDayAllSpec)

/-- ITS FALSE NEIGHBOUR: 'it returns false'. Refute it at one input. -/
def fnExactDayAllWrong : ChangeSpec := { name := "fnExactDayAll", vars := ["loop.example/g01378/impl.errInvalid", "loop.example/g01378/impl.errRange", "loop.example/g01378/impl.errLimit", "loop.example/g01378/impl.errState", "loop.example/g01378/impl.errSyntax", "loop.example/g01378/impl.errNotFound", "loop.example/g01378/impl.errBudget"], fn := fun _ => fun
  | [d1, d2, g1, g2, g3, g4, g5, g6, g7] => { results := [.lit (.bool false)], args := [d1, d2], vars := [g1, g2, g3, g4, g5, g6, g7] }
  | _ => none }
def FnExactDayAllWrongFalsely : Prop := fnExactDayAllRow.holds Tryd.pinned (OpenSpec.ofChange fnExactDayAllWrong)

/-- 'laws.FnExactWornOut': WHATEVER THE INPUT: true; the input reads as it did. -/
def fnExactWornOutSpec : ChangeSpec := { name := "fnExactWornOut", vars := ["loop.example/g01378/impl.errInvalid", "loop.example/g01378/impl.errRange", "loop.example/g01378/impl.errLimit", "loop.example/g01378/impl.errState", "loop.example/g01378/impl.errSyntax", "loop.example/g01378/impl.errNotFound", "loop.example/g01378/impl.errBudget"], fn := fun _ => fun
  | [d1, d2, g1, g2, g3, g4, g5, g6, g7] => { results := [.lit (.bool true)], args := [d1, d2], vars := [g1, g2, g3, g4, g5, g6, g7] }
  | _ => none }
def fnExactWornOutRow : OpenClaim := { program := "ytnnganjodlmhmaadoor", sum := "ddc89c91608e8fe81ec27500e3035a44b2f76d9112737d4e55d96d4a49d50852", func := "loop.example/g01378/laws.FnExactWornOut", spec := "fnExactWornOut", inPlace := ["internal/reflectlite.TypeOf"], unfollowed := true, recurses := true, named := ["loop.example/g01378/impl.errInvalid", "loop.example/g01378/impl.errRange", "loop.example/g01378/impl.errLimit", "loop.example/g01378/impl.errState", "loop.example/g01378/impl.errSyntax", "loop.example/g01378/impl.errNotFound", "loop.example/g01378/impl.errBudget"], ifaces := true, apart := false, laid := [("loop.example/g01378/impl.errInvalid", laid_loop_example_g01378_impl_errInvalid), ("loop.example/g01378/impl.errRange", laid_loop_example_g01378_impl_errRange), ("loop.example/g01378/impl.errLimit", laid_loop_example_g01378_impl_errLimit), ("loop.example/g01378/impl.errState", laid_loop_example_g01378_impl_errState), ("loop.example/g01378/impl.errSyntax", laid_loop_example_g01378_impl_errSyntax), ("loop.example/g01378/impl.errNotFound", laid_loop_example_g01378_impl_errNotFound), ("loop.example/g01378/impl.errBudget", laid_loop_example_g01378_impl_errBudget)] }
def FnExactWornOutSaid : Prop := fnExactWornOutRow.holds Tryd.pinned (OpenSpec.ofChange fnExactWornOutSpec)

/-- ITS FALSE NEIGHBOUR: 'it returns false'. Refute it at one input. -/
def fnExactWornOutWrong : ChangeSpec := { name := "fnExactWornOut", vars := ["loop.example/g01378/impl.errInvalid", "loop.example/g01378/impl.errRange", "loop.example/g01378/impl.errLimit", "loop.example/g01378/impl.errState", "loop.example/g01378/impl.errSyntax", "loop.example/g01378/impl.errNotFound", "loop.example/g01378/impl.errBudget"], fn := fun _ => fun
  | [d1, d2, g1, g2, g3, g4, g5, g6, g7] => { results := [.lit (.bool false)], args := [d1, d2], vars := [g1, g2, g3, g4, g5, g6, g7] }
  | _ => none }
def FnExactWornOutWrongFalsely : Prop := fnExactWornOutRow.holds Tryd.pinned (OpenSpec.ofChange fnExactWornOutWrong)

/-- 'laws.FnExactFirstShort': WHATEVER THE INPUT: true; the input reads as it did. -/
def fnExactFirstShortSpec : ChangeSpec := { name := "fnExactFirstShort", vars := ["loop.example/g01378/impl.errInvalid", "loop.example/g01378/impl.errRange", "loop.example/g01378/impl.errLimit", "loop.example/g01378/impl.errState", "loop.example/g01378/impl.errSyntax", "loop.example/g01378/impl.errNotFound", "loop.example/g01378/impl.errBudget"], fn := fun _ => fun
  | [d1, d2, g1, g2, g3, g4, g5, g6, g7] => { results := [.lit (.bool true)], args := [d1, d2], vars := [g1, g2, g3, g4, g5, g6, g7] }
  | _ => none }
def fnExactFirstShortRow : OpenClaim := { program := "ytnnganjodlmhmaadoor", sum := "ddc89c91608e8fe81ec27500e3035a44b2f76d9112737d4e55d96d4a49d50852", func := "loop.example/g01378/laws.FnExactFirstShort", spec := "fnExactFirstShort", inPlace := ["internal/reflectlite.TypeOf"], unfollowed := true, recurses := true, named := ["loop.example/g01378/impl.errInvalid", "loop.example/g01378/impl.errRange", "loop.example/g01378/impl.errLimit", "loop.example/g01378/impl.errState", "loop.example/g01378/impl.errSyntax", "loop.example/g01378/impl.errNotFound", "loop.example/g01378/impl.errBudget"], ifaces := true, apart := false, laid := [("loop.example/g01378/impl.errInvalid", laid_loop_example_g01378_impl_errInvalid), ("loop.example/g01378/impl.errRange", laid_loop_example_g01378_impl_errRange), ("loop.example/g01378/impl.errLimit", laid_loop_example_g01378_impl_errLimit), ("loop.example/g01378/impl.errState", laid_loop_example_g01378_impl_errState), ("loop.example/g01378/impl.errSyntax", laid_loop_example_g01378_impl_errSyntax), ("loop.example/g01378/impl.errNotFound", laid_loop_example_g01378_impl_errNotFound), ("loop.example/g01378/impl.errBudget", laid_loop_example_g01378_impl_errBudget)] }
def FnExactFirstShortSaid : Prop := fnExactFirstShortRow.holds Tryd.pinned (OpenSpec.ofChange fnExactFirstShortSpec)

/-- ITS FALSE NEIGHBOUR: 'it returns false'. Refute it at one input. -/
def fnExactFirstShortWrong : ChangeSpec := { name := "fnExactFirstShort", vars := ["loop.example/g01378/impl.errInvalid", "loop.example/g01378/impl.errRange", "loop.example/g01378/impl.errLimit", "loop.example/g01378/impl.errState", "loop.example/g01378/impl.errSyntax", "loop.example/g01378/impl.errNotFound", "loop.example/g01378/impl.errBudget"], fn := fun _ => fun
  | [d1, d2, g1, g2, g3, g4, g5, g6, g7] => { results := [.lit (.bool false)], args := [d1, d2], vars := [g1, g2, g3, g4, g5, g6, g7] }
  | _ => none }
def FnExactFirstShortWrongFalsely : Prop := fnExactFirstShortRow.holds Tryd.pinned (OpenSpec.ofChange fnExactFirstShortWrong)

/-- 'laws.FnExactLeastStock': WHATEVER THE INPUT: true; the input reads as it did. -/
def fnExactLeastStockSpec : ChangeSpec := { name := "fnExactLeastStock", vars := ["loop.example/g01378/impl.errRange", "loop.example/g01378/impl.errInvalid", "loop.example/g01378/impl.errLimit", "loop.example/g01378/impl.errState", "loop.example/g01378/impl.errSyntax", "loop.example/g01378/impl.errNotFound", "loop.example/g01378/impl.errBudget"], fn := fun _ => fun
  | [d1, d2, d3, d4, g1, g2, g3, g4, g5, g6, g7] => { results := [.lit (.bool true)], args := [d1, d2, d3, d4], vars := [g1, g2, g3, g4, g5, g6, g7] }
  | _ => none }
def fnExactLeastStockRow : OpenClaim := { program := "ytnnganjodlmhmaadoor", sum := "ddc89c91608e8fe81ec27500e3035a44b2f76d9112737d4e55d96d4a49d50852", func := "loop.example/g01378/laws.FnExactLeastStock", spec := "fnExactLeastStock", inPlace := ["internal/reflectlite.TypeOf"], unfollowed := true, recurses := true, named := ["loop.example/g01378/impl.errRange", "loop.example/g01378/impl.errInvalid", "loop.example/g01378/impl.errLimit", "loop.example/g01378/impl.errState", "loop.example/g01378/impl.errSyntax", "loop.example/g01378/impl.errNotFound", "loop.example/g01378/impl.errBudget"], ifaces := true, apart := false, laid := [("loop.example/g01378/impl.errInvalid", laid_loop_example_g01378_impl_errInvalid), ("loop.example/g01378/impl.errRange", laid_loop_example_g01378_impl_errRange), ("loop.example/g01378/impl.errLimit", laid_loop_example_g01378_impl_errLimit), ("loop.example/g01378/impl.errState", laid_loop_example_g01378_impl_errState), ("loop.example/g01378/impl.errSyntax", laid_loop_example_g01378_impl_errSyntax), ("loop.example/g01378/impl.errNotFound", laid_loop_example_g01378_impl_errNotFound), ("loop.example/g01378/impl.errBudget", laid_loop_example_g01378_impl_errBudget)] }
def FnExactLeastStockSaid : Prop := fnExactLeastStockRow.holds Tryd.pinned (OpenSpec.ofChange fnExactLeastStockSpec)

/-- ITS FALSE NEIGHBOUR: 'it returns false'. Refute it at one input. -/
def fnExactLeastStockWrong : ChangeSpec := { name := "fnExactLeastStock", vars := ["loop.example/g01378/impl.errRange", "loop.example/g01378/impl.errInvalid", "loop.example/g01378/impl.errLimit", "loop.example/g01378/impl.errState", "loop.example/g01378/impl.errSyntax", "loop.example/g01378/impl.errNotFound", "loop.example/g01378/impl.errBudget"], fn := fun _ => fun
  | [d1, d2, d3, d4, g1, g2, g3, g4, g5, g6, g7] => { results := [.lit (.bool false)], args := [d1, d2, d3, d4], vars := [g1, g2, g3, g4, g5, g6, g7] }
  | _ => none }
def FnExactLeastStockWrongFalsely : Prop := fnExactLeastStockRow.holds Tryd.pinned (OpenSpec.ofChange fnExactLeastStockWrong)

/-- 'laws.FnExactLastsFor': WHATEVER THE INPUT: true; the input reads as it did. -/
def fnExactLastsForSpec : ChangeSpec := { name := "fnExactLastsFor", vars := ["loop.example/g01378/impl.errInvalid", "loop.example/g01378/impl.errRange", "loop.example/g01378/impl.errLimit", "loop.example/g01378/impl.errState", "loop.example/g01378/impl.errSyntax", "loop.example/g01378/impl.errNotFound", "loop.example/g01378/impl.errBudget"], fn := fun _ => fun
  | [d1, d2, g1, g2, g3, g4, g5, g6, g7] => { results := [.lit (.bool true)], args := [d1, d2], vars := [g1, g2, g3, g4, g5, g6, g7] }
  | _ => none }
def fnExactLastsForRow : OpenClaim := { program := "ytnnganjodlmhmaadoor", sum := "ddc89c91608e8fe81ec27500e3035a44b2f76d9112737d4e55d96d4a49d50852", func := "loop.example/g01378/laws.FnExactLastsFor", spec := "fnExactLastsFor", inPlace := ["internal/reflectlite.TypeOf"], unfollowed := true, recurses := true, named := ["loop.example/g01378/impl.errInvalid", "loop.example/g01378/impl.errRange", "loop.example/g01378/impl.errLimit", "loop.example/g01378/impl.errState", "loop.example/g01378/impl.errSyntax", "loop.example/g01378/impl.errNotFound", "loop.example/g01378/impl.errBudget"], ifaces := true, apart := false, laid := [("loop.example/g01378/impl.errInvalid", laid_loop_example_g01378_impl_errInvalid), ("loop.example/g01378/impl.errRange", laid_loop_example_g01378_impl_errRange), ("loop.example/g01378/impl.errLimit", laid_loop_example_g01378_impl_errLimit), ("loop.example/g01378/impl.errState", laid_loop_example_g01378_impl_errState), ("loop.example/g01378/impl.errSyntax", laid_loop_example_g01378_impl_errSyntax), ("loop.example/g01378/impl.errNotFound", laid_loop_example_g01378_impl_errNotFound), ("loop.example/g01378/impl.errBudget", laid_loop_example_g01378_impl_errBudget)] }
def FnExactLastsForSaid : Prop := fnExactLastsForRow.holds Tryd.pinned (OpenSpec.ofChange fnExactLastsForSpec)

/-- ITS FALSE NEIGHBOUR: 'it returns false'. Refute it at one input. -/
def fnExactLastsForWrong : ChangeSpec := { name := "fnExactLastsFor", vars := ["loop.example/g01378/impl.errInvalid", "loop.example/g01378/impl.errRange", "loop.example/g01378/impl.errLimit", "loop.example/g01378/impl.errState", "loop.example/g01378/impl.errSyntax", "loop.example/g01378/impl.errNotFound", "loop.example/g01378/impl.errBudget"], fn := fun _ => fun
  | [d1, d2, g1, g2, g3, g4, g5, g6, g7] => { results := [.lit (.bool false)], args := [d1, d2], vars := [g1, g2, g3, g4, g5, g6, g7] }
  | _ => none }
def FnExactLastsForWrongFalsely : Prop := fnExactLastsForRow.holds Tryd.pinned (OpenSpec.ofChange fnExactLastsForWrong)

/- THE SECOND FORM. 'bulk': how many values and letters a reading holds, each counted each time it is reached (what is shared counts as often as it is met; a slice's spare places count too). A statement '..UptoSaid' is the law's where the arguments, and the package variables that the reading takes, are together of bulk at most 1048576: NARROWER than '..Said'. Prove '..Said' where nothing that the law and all that it calls make is longer than what came in: it says more and counts as full. Else prove '..UptoSaid'. A law counts once. -/
mutual
def uptoBulk {H : Type} : DataW H → Nat
  | .lit (.string bytes) => bytes.length + 1
  | .lit _ => 1
  | .nil => 1
  | .ptr d => uptoBulk d + 1
  | .slice elems spare => uptoBulkAll elems + uptoBulkAll spare + 1
  | .agg parts => uptoBulkAll parts + 1
  | .iface _ d => uptoBulk d + 1
  | .map entries => uptoBulkEntries entries + 1
  | .held _ => 1
def uptoBulkAll {H : Type} : List (DataW H) → Nat
  | [] => 0
  | d :: r => uptoBulk d + uptoBulkAll r
def uptoBulkEntries {H : Type} : List (Lit × DataW H) → Nat
  | [] => 0
  | x :: r => uptoBulkEntry x + uptoBulkEntries r
def uptoBulkEntry {H : Type} : Lit × DataW H → Nat
  | (.string bytes, d) => bytes.length + uptoBulk d + 1
  | (_, d) => uptoBulk d + 1
 end
def uptoSmall : (H : Type) → List (DataW H) → Bool := fun _ ds => decide (uptoBulkAll ds ≤ 1048576)
def OpenSpec.upto (s : _root_.Go.ChangeSpec) : _root_.Go.OpenSpec := { _root_.Go.OpenSpec.ofChange s with cond := some uptoSmall }

/-- 'laws.FnExactMendRags', WHERE WHAT IT READS IS OF BULK AT MOST 1048576: true; the input reads as it did. -/
def fnExactMendRagsUptoRow : OpenClaim := { program := "ytnnganjodlmhmaadoor", sum := "ddc89c91608e8fe81ec27500e3035a44b2f76d9112737d4e55d96d4a49d50852", func := "loop.example/g01378/laws.FnExactMendRags", spec := "fnExactMendRags", inPlace := ["internal/reflectlite.TypeOf"], unfollowed := true, recurses := true, named := ["loop.example/g01378/impl.errInvalid", "loop.example/g01378/impl.errRange", "loop.example/g01378/impl.errLimit", "loop.example/g01378/impl.errState", "loop.example/g01378/impl.errSyntax", "loop.example/g01378/impl.errNotFound", "loop.example/g01378/impl.errBudget"], ifaces := true, apart := false, laid := [("loop.example/g01378/impl.errInvalid", laid_loop_example_g01378_impl_errInvalid), ("loop.example/g01378/impl.errRange", laid_loop_example_g01378_impl_errRange), ("loop.example/g01378/impl.errLimit", laid_loop_example_g01378_impl_errLimit), ("loop.example/g01378/impl.errState", laid_loop_example_g01378_impl_errState), ("loop.example/g01378/impl.errSyntax", laid_loop_example_g01378_impl_errSyntax), ("loop.example/g01378/impl.errNotFound", laid_loop_example_g01378_impl_errNotFound), ("loop.example/g01378/impl.errBudget", laid_loop_example_g01378_impl_errBudget)], narrowed := true }
def FnExactMendRagsUptoSaid : Prop := fnExactMendRagsUptoRow.holds Tryd.pinned (OpenSpec.upto fnExactMendRagsSpec)

/-- 'laws.FnExactWashHouse', WHERE WHAT IT READS IS OF BULK AT MOST 1048576: true; the input reads as it did. -/
def fnExactWashHouseUptoRow : OpenClaim := { program := "ytnnganjodlmhmaadoor", sum := "ddc89c91608e8fe81ec27500e3035a44b2f76d9112737d4e55d96d4a49d50852", func := "loop.example/g01378/laws.FnExactWashHouse", spec := "fnExactWashHouse", inPlace := ["internal/reflectlite.TypeOf"], unfollowed := true, recurses := true, named := ["loop.example/g01378/impl.errInvalid", "loop.example/g01378/impl.errRange", "loop.example/g01378/impl.errLimit", "loop.example/g01378/impl.errState", "loop.example/g01378/impl.errSyntax", "loop.example/g01378/impl.errNotFound", "loop.example/g01378/impl.errBudget"], ifaces := true, apart := false, laid := [("loop.example/g01378/impl.errInvalid", laid_loop_example_g01378_impl_errInvalid), ("loop.example/g01378/impl.errRange", laid_loop_example_g01378_impl_errRange), ("loop.example/g01378/impl.errLimit", laid_loop_example_g01378_impl_errLimit), ("loop.example/g01378/impl.errState", laid_loop_example_g01378_impl_errState), ("loop.example/g01378/impl.errSyntax", laid_loop_example_g01378_impl_errSyntax), ("loop.example/g01378/impl.errNotFound", laid_loop_example_g01378_impl_errNotFound), ("loop.example/g01378/impl.errBudget", laid_loop_example_g01378_impl_errBudget)], narrowed := true }
def FnExactWashHouseUptoSaid : Prop := fnExactWashHouseUptoRow.holds Tryd.pinned (OpenSpec.upto fnExactWashHouseSpec)

/-- 'laws.FnExactDayOnce', WHERE WHAT IT READS IS OF BULK AT MOST 1048576: true; the input reads as it did. -/
def fnExactDayOnceUptoRow : OpenClaim := { program := "ytnnganjodlmhmaadoor", sum := "ddc89c91608e8fe81ec27500e3035a44b2f76d9112737d4e55d96d4a49d50852", func := "loop.example/g01378/laws.FnExactDayOnce", spec := "fnExactDayOnce", inPlace := ["internal/reflectlite.TypeOf"], unfollowed := true, recurses := true, named := ["loop.example/g01378/impl.errInvalid", "loop.example/g01378/impl.errRange", "loop.example/g01378/impl.errLimit", "loop.example/g01378/impl.errState", "loop.example/g01378/impl.errSyntax", "loop.example/g01378/impl.errNotFound", "loop.example/g01378/impl.errBudget"], ifaces := true, apart := false, laid := [("loop.example/g01378/impl.errInvalid", laid_loop_example_g01378_impl_errInvalid), ("loop.example/g01378/impl.errRange", laid_loop_example_g01378_impl_errRange), ("loop.example/g01378/impl.errLimit", laid_loop_example_g01378_impl_errLimit), ("loop.example/g01378/impl.errState", laid_loop_example_g01378_impl_errState), ("loop.example/g01378/impl.errSyntax", laid_loop_example_g01378_impl_errSyntax), ("loop.example/g01378/impl.errNotFound", laid_loop_example_g01378_impl_errNotFound), ("loop.example/g01378/impl.errBudget", laid_loop_example_g01378_impl_errBudget)], narrowed := true }
def FnExactDayOnceUptoSaid : Prop := fnExactDayOnceUptoRow.holds Tryd.pinned (OpenSpec.upto fnExactDayOnceSpec)

/-- 'laws.FnExactDayAll', WHERE WHAT IT READS IS OF BULK AT MOST 1048576: true; the input reads as it did. -/
def fnExactDayAllUptoRow : OpenClaim := { program := "ytnnganjodlmhmaadoor", sum := "ddc89c91608e8fe81ec27500e3035a44b2f76d9112737d4e55d96d4a49d50852", func := "loop.example/g01378/laws.FnExactDayAll", spec := "fnExactDayAll", inPlace := ["internal/reflectlite.TypeOf"], unfollowed := true, recurses := true, named := ["loop.example/g01378/impl.errInvalid", "loop.example/g01378/impl.errRange", "loop.example/g01378/impl.errLimit", "loop.example/g01378/impl.errState", "loop.example/g01378/impl.errSyntax", "loop.example/g01378/impl.errNotFound", "loop.example/g01378/impl.errBudget"], ifaces := true, apart := false, laid := [("loop.example/g01378/impl.errInvalid", laid_loop_example_g01378_impl_errInvalid), ("loop.example/g01378/impl.errRange", laid_loop_example_g01378_impl_errRange), ("loop.example/g01378/impl.errLimit", laid_loop_example_g01378_impl_errLimit), ("loop.example/g01378/impl.errState", laid_loop_example_g01378_impl_errState), ("loop.example/g01378/impl.errSyntax", laid_loop_example_g01378_impl_errSyntax), ("loop.example/g01378/impl.errNotFound", laid_loop_example_g01378_impl_errNotFound), ("loop.example/g01378/impl.errBudget", laid_loop_example_g01378_impl_errBudget)], narrowed := true }
def FnExactDayAllUptoSaid : Prop := fnExactDayAllUptoRow.holds Tryd.pinned (OpenSpec.upto fnExactDayAllSpec)

/-- 'laws.FnExactWornOut', WHERE WHAT IT READS IS OF BULK AT MOST 1048576: true; the input reads as it did. -/
def fnExactWornOutUptoRow : OpenClaim := { program := "ytnnganjodlmhmaadoor", sum := "ddc89c91608e8fe81ec27500e3035a44b2f76d9112737d4e55d96d4a49d50852", func := "loop.example/g01378/laws.FnExactWornOut", spec := "fnExactWornOut", inPlace := ["internal/reflectlite.TypeOf"], unfollowed := true, recurses := true, named := ["loop.example/g01378/impl.errInvalid", "loop.example/g01378/impl.errRange", "loop.example/g01378/impl.errLimit", "loop.example/g01378/impl.errState", "loop.example/g01378/impl.errSyntax", "loop.example/g01378/impl.errNotFound", "loop.example/g01378/impl.errBudget"], ifaces := true, apart := false, laid := [("loop.example/g01378/impl.errInvalid", laid_loop_example_g01378_impl_errInvalid), ("loop.example/g01378/impl.errRange", laid_loop_example_g01378_impl_errRange), ("loop.example/g01378/impl.errLimit", laid_loop_example_g01378_impl_errLimit), ("loop.example/g01378/impl.errState", laid_loop_example_g01378_impl_errState), ("loop.example/g01378/impl.errSyntax", laid_loop_example_g01378_impl_errSyntax), ("loop.example/g01378/impl.errNotFound", laid_loop_example_g01378_impl_errNotFound), ("loop.example/g01378/impl.errBudget", laid_loop_example_g01378_impl_errBudget)], narrowed := true }
def FnExactWornOutUptoSaid : Prop := fnExactWornOutUptoRow.holds Tryd.pinned (OpenSpec.upto fnExactWornOutSpec)

/-- 'laws.FnExactFirstShort', WHERE WHAT IT READS IS OF BULK AT MOST 1048576: true; the input reads as it did. -/
def fnExactFirstShortUptoRow : OpenClaim := { program := "ytnnganjodlmhmaadoor", sum := "ddc89c91608e8fe81ec27500e3035a44b2f76d9112737d4e55d96d4a49d50852", func := "loop.example/g01378/laws.FnExactFirstShort", spec := "fnExactFirstShort", inPlace := ["internal/reflectlite.TypeOf"], unfollowed := true, recurses := true, named := ["loop.example/g01378/impl.errInvalid", "loop.example/g01378/impl.errRange", "loop.example/g01378/impl.errLimit", "loop.example/g01378/impl.errState", "loop.example/g01378/impl.errSyntax", "loop.example/g01378/impl.errNotFound", "loop.example/g01378/impl.errBudget"], ifaces := true, apart := false, laid := [("loop.example/g01378/impl.errInvalid", laid_loop_example_g01378_impl_errInvalid), ("loop.example/g01378/impl.errRange", laid_loop_example_g01378_impl_errRange), ("loop.example/g01378/impl.errLimit", laid_loop_example_g01378_impl_errLimit), ("loop.example/g01378/impl.errState", laid_loop_example_g01378_impl_errState), ("loop.example/g01378/impl.errSyntax", laid_loop_example_g01378_impl_errSyntax), ("loop.example/g01378/impl.errNotFound", laid_loop_example_g01378_impl_errNotFound), ("loop.example/g01378/impl.errBudget", laid_loop_example_g01378_impl_errBudget)], narrowed := true }
def FnExactFirstShortUptoSaid : Prop := fnExactFirstShortUptoRow.holds Tryd.pinned (OpenSpec.upto fnExactFirstShortSpec)

/-- 'laws.FnExactLeastStock', WHERE WHAT IT READS IS OF BULK AT MOST 1048576: true; the input reads as it did. -/
def fnExactLeastStockUptoRow : OpenClaim := { program := "ytnnganjodlmhmaadoor", sum := "ddc89c91608e8fe81ec27500e3035a44b2f76d9112737d4e55d96d4a49d50852", func := "loop.example/g01378/laws.FnExactLeastStock", spec := "fnExactLeastStock", inPlace := ["internal/reflectlite.TypeOf"], unfollowed := true, recurses := true, named := ["loop.example/g01378/impl.errRange", "loop.example/g01378/impl.errInvalid", "loop.example/g01378/impl.errLimit", "loop.example/g01378/impl.errState", "loop.example/g01378/impl.errSyntax", "loop.example/g01378/impl.errNotFound", "loop.example/g01378/impl.errBudget"], ifaces := true, apart := false, laid := [("loop.example/g01378/impl.errInvalid", laid_loop_example_g01378_impl_errInvalid), ("loop.example/g01378/impl.errRange", laid_loop_example_g01378_impl_errRange), ("loop.example/g01378/impl.errLimit", laid_loop_example_g01378_impl_errLimit), ("loop.example/g01378/impl.errState", laid_loop_example_g01378_impl_errState), ("loop.example/g01378/impl.errSyntax", laid_loop_example_g01378_impl_errSyntax), ("loop.example/g01378/impl.errNotFound", laid_loop_example_g01378_impl_errNotFound), ("loop.example/g01378/impl.errBudget", laid_loop_example_g01378_impl_errBudget)], narrowed := true }
def FnExactLeastStockUptoSaid : Prop := fnExactLeastStockUptoRow.holds Tryd.pinned (OpenSpec.upto fnExactLeastStockSpec)

/-- 'laws.FnExactLastsFor', WHERE WHAT IT READS IS OF BULK AT MOST 1048576: true; the input reads as it did. -/
def fnExactLastsForUptoRow : OpenClaim := { program := "ytnnganjodlmhmaadoor", sum := "ddc89c91608e8fe81ec27500e3035a44b2f76d9112737d4e55d96d4a49d50852", func := "loop.example/g01378/laws.FnExactLastsFor", spec := "fnExactLastsFor", inPlace := ["internal/reflectlite.TypeOf"], unfollowed := true, recurses := true, named := ["loop.example/g01378/impl.errInvalid", "loop.example/g01378/impl.errRange", "loop.example/g01378/impl.errLimit", "loop.example/g01378/impl.errState", "loop.example/g01378/impl.errSyntax", "loop.example/g01378/impl.errNotFound", "loop.example/g01378/impl.errBudget"], ifaces := true, apart := false, laid := [("loop.example/g01378/impl.errInvalid", laid_loop_example_g01378_impl_errInvalid), ("loop.example/g01378/impl.errRange", laid_loop_example_g01378_impl_errRange), ("loop.example/g01378/impl.errLimit", laid_loop_example_g01378_impl_errLimit), ("loop.example/g01378/impl.errState", laid_loop_example_g01378_impl_errState), ("loop.example/g01378/impl.errSyntax", laid_loop_example_g01378_impl_errSyntax), ("loop.example/g01378/impl.errNotFound", laid_loop_example_g01378_impl_errNotFound), ("loop.example/g01378/impl.errBudget", laid_loop_example_g01378_impl_errBudget)], narrowed := true }
def FnExactLastsForUptoSaid : Prop := fnExactLastsForUptoRow.holds Tryd.pinned (OpenSpec.upto fnExactLastsForSpec)

end Rows
end Go.Proofs.YtnnganjodlmhmaaDoor
