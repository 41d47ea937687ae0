/-
  NARROWER THAN 'FOR EVERY INPUT', by the rows' own cells (each row's printed sentence says how): FnExactFoldSheet: ifaces, laid · FnExactFoldAll: ifaces, laid · FnExactFoldsPossible: ifaces, laid · FnExactAreaOf: ifaces, laid · FnExactUnfoldSheet: ifaces, laid · FnExactEdgesAfter: ifaces, laid · FnExactFitsShelf: ifaces, laid · FnExactSameFolded: ifaces, laid · FnExactValidCupboard: ifaces, laid · FnExactFindSheet: ifaces, laid · FnExactTakeSheet: ifaces, laid.
  DERIVED. THE GIVEN ROWS OF THIS SEAT. 11 by the template 'for every input the law returns true; each argument reads behind the call as it read before'; 0 by the template 'total and deterministic' (their statements: YtcbbabepjfiigaaDoorTotals.lean).
  GIVEN WITH THE SEED: the statements are not yours to turn. If you find one false, say at which input.
  Laid BY PROGRAM, IN A SANDBOX (cutbox-rows.mjs): the forced cells as the released guide's own fill.sh prints them over the translation 0a947dc89bd03651… (all of the seat's roots in one cut). By AI agents, Wed Nov 11 2026. No macro, syntax, notation, axiom, sorry.
-/
import Derived.Test.YtcbbabepjfiigaaDoorChecked
import GoSem.Claim
import GoSem.ClaimJoined
import GoSem.ClaimMapViews
import Derived.JoinedTies
import Derived.KernelRfl
namespace Go.Proofs.YtcbbabepjfiigaaDoor
/- THE CELL 'sum', in the pinned program and in every row, IS THE sha256 OF THE DUMP (.gsa) THAT YtcbbabepjfiigaaDoorProg.lean LOADS. Nothing in Lean hashes anything: it is a label: what it is worth is what the hold of that sum in a sandbox is worth. -/
noncomputable def Tryd.pinned : Pinned := { name := "ytcbbabepjfiigaadoor", sum := "0a947dc89bd03651bf2551966e4b07317ff4ab6d7ec39b7d9d90aed458ac049c", checked := Tryd.checked }
namespace Rows
def none {H : Type} : Left H := { results := [], args := [] }

/- WHAT THE LISTED PACKAGE-LEVEL VARIABLES READ AS WHEN THE CALL BEGINS. Each datum BY PROGRAM (the guide's laid-datum.mjs) off the statement by which the dump's own 'gosem.cut.vars' lays the variable. In a bare row this is a premise. The card (YtcbbabepjfiigaaDoorCards.lean) ties it to the program's text. -/
def laid_loop_example_g01378_impl_errInvalid {H : Type} : DataW H := .iface "*errors.errorString" (.ptr (.agg [.lit (.string [105, 110, 118, 97, 108, 105, 100])]))
def laid_loop_example_g01378_impl_errRange {H : Type} : DataW H := .iface "*errors.errorString" (.ptr (.agg [.lit (.string [114, 97, 110, 103, 101])]))
def laid_loop_example_g01378_impl_errLimit {H : Type} : DataW H := .iface "*errors.errorString" (.ptr (.agg [.lit (.string [108, 105, 109, 105, 116])]))
def laid_loop_example_g01378_impl_errState {H : Type} : DataW H := .iface "*errors.errorString" (.ptr (.agg [.lit (.string [115, 116, 97, 116, 101])]))
def laid_loop_example_g01378_impl_errSyntax {H : Type} : DataW H := .iface "*errors.errorString" (.ptr (.agg [.lit (.string [115, 121, 110, 116, 97, 120])]))
def laid_loop_example_g01378_impl_errNotFound {H : Type} : DataW H := .iface "*errors.errorString" (.ptr (.agg [.lit (.string [110, 111, 116, 102, 111, 117, 110, 100])]))
def laid_loop_example_g01378_impl_errBudget {H : Type} : DataW H := .iface "*errors.errorString" (.ptr (.agg [.lit (.string [98, 117, 100, 103, 101, 116])]))

/-- 'laws.FnExactFoldSheet': WHATEVER THE INPUT: true; the input reads as it did. -/
def fnExactFoldSheetSpec : ChangeSpec := { name := "fnExactFoldSheet", vars := ["loop.example/g01378/impl.errInvalid", "loop.example/g01378/impl.errRange", "loop.example/g01378/impl.errState", "loop.example/g01378/impl.errLimit", "loop.example/g01378/impl.errSyntax", "loop.example/g01378/impl.errNotFound", "loop.example/g01378/impl.errBudget"], fn := fun _ => fun
  | [d1, d2, g1, g2, g3, g4, g5, g6, g7] => { results := [.lit (.bool true)], args := [d1, d2], vars := [g1, g2, g3, g4, g5, g6, g7] }
  | _ => none }
def fnExactFoldSheetRow : OpenClaim := { program := "ytcbbabepjfiigaadoor", sum := "0a947dc89bd03651bf2551966e4b07317ff4ab6d7ec39b7d9d90aed458ac049c", func := "loop.example/g01378/laws.FnExactFoldSheet", spec := "fnExactFoldSheet", inPlace := ["internal/reflectlite.TypeOf"], unfollowed := true, recurses := true, named := ["loop.example/g01378/impl.errInvalid", "loop.example/g01378/impl.errRange", "loop.example/g01378/impl.errState", "loop.example/g01378/impl.errLimit", "loop.example/g01378/impl.errSyntax", "loop.example/g01378/impl.errNotFound", "loop.example/g01378/impl.errBudget"], ifaces := true, apart := false, laid := [("loop.example/g01378/impl.errInvalid", laid_loop_example_g01378_impl_errInvalid), ("loop.example/g01378/impl.errRange", laid_loop_example_g01378_impl_errRange), ("loop.example/g01378/impl.errLimit", laid_loop_example_g01378_impl_errLimit), ("loop.example/g01378/impl.errState", laid_loop_example_g01378_impl_errState), ("loop.example/g01378/impl.errSyntax", laid_loop_example_g01378_impl_errSyntax), ("loop.example/g01378/impl.errNotFound", laid_loop_example_g01378_impl_errNotFound), ("loop.example/g01378/impl.errBudget", laid_loop_example_g01378_impl_errBudget)] }
def FnExactFoldSheetSaid : Prop := fnExactFoldSheetRow.holds Tryd.pinned (OpenSpec.ofChange fnExactFoldSheetSpec)

/-- ITS FALSE NEIGHBOUR: 'it returns false'. Refute it at one input. -/
def fnExactFoldSheetWrong : ChangeSpec := { name := "fnExactFoldSheet", vars := ["loop.example/g01378/impl.errInvalid", "loop.example/g01378/impl.errRange", "loop.example/g01378/impl.errState", "loop.example/g01378/impl.errLimit", "loop.example/g01378/impl.errSyntax", "loop.example/g01378/impl.errNotFound", "loop.example/g01378/impl.errBudget"], fn := fun _ => fun
  | [d1, d2, g1, g2, g3, g4, g5, g6, g7] => { results := [.lit (.bool false)], args := [d1, d2], vars := [g1, g2, g3, g4, g5, g6, g7] }
  | _ => none }
def FnExactFoldSheetWrongFalsely : Prop := fnExactFoldSheetRow.holds Tryd.pinned (OpenSpec.ofChange fnExactFoldSheetWrong)

/-- 'laws.FnExactFoldAll': WHATEVER THE INPUT: true; the input reads as it did. -/
def fnExactFoldAllSpec : ChangeSpec := { name := "fnExactFoldAll", vars := ["loop.example/g01378/impl.errInvalid", "loop.example/g01378/impl.errLimit", "loop.example/g01378/impl.errRange", "loop.example/g01378/impl.errState", "loop.example/g01378/impl.errSyntax", "loop.example/g01378/impl.errNotFound", "loop.example/g01378/impl.errBudget"], fn := fun _ => fun
  | [d1, d2, g1, g2, g3, g4, g5, g6, g7] => { results := [.lit (.bool true)], args := [d1, d2], vars := [g1, g2, g3, g4, g5, g6, g7] }
  | _ => none }
def fnExactFoldAllRow : OpenClaim := { program := "ytcbbabepjfiigaadoor", sum := "0a947dc89bd03651bf2551966e4b07317ff4ab6d7ec39b7d9d90aed458ac049c", func := "loop.example/g01378/laws.FnExactFoldAll", spec := "fnExactFoldAll", inPlace := ["internal/reflectlite.TypeOf"], unfollowed := true, recurses := true, named := ["loop.example/g01378/impl.errInvalid", "loop.example/g01378/impl.errLimit", "loop.example/g01378/impl.errRange", "loop.example/g01378/impl.errState", "loop.example/g01378/impl.errSyntax", "loop.example/g01378/impl.errNotFound", "loop.example/g01378/impl.errBudget"], ifaces := true, apart := false, laid := [("loop.example/g01378/impl.errInvalid", laid_loop_example_g01378_impl_errInvalid), ("loop.example/g01378/impl.errRange", laid_loop_example_g01378_impl_errRange), ("loop.example/g01378/impl.errLimit", laid_loop_example_g01378_impl_errLimit), ("loop.example/g01378/impl.errState", laid_loop_example_g01378_impl_errState), ("loop.example/g01378/impl.errSyntax", laid_loop_example_g01378_impl_errSyntax), ("loop.example/g01378/impl.errNotFound", laid_loop_example_g01378_impl_errNotFound), ("loop.example/g01378/impl.errBudget", laid_loop_example_g01378_impl_errBudget)] }
def FnExactFoldAllSaid : Prop := fnExactFoldAllRow.holds Tryd.pinned (OpenSpec.ofChange fnExactFoldAllSpec)

/-- ITS FALSE NEIGHBOUR: 'it returns false'. Refute it at one input. -/
def fnExactFoldAllWrong : ChangeSpec := { name := "fnExactFoldAll", vars := ["loop.example/g01378/impl.errInvalid", "loop.example/g01378/impl.errLimit", "loop.example/g01378/impl.errRange", "loop.example/g01378/impl.errState", "loop.example/g01378/impl.errSyntax", "loop.example/g01378/impl.errNotFound", "loop.example/g01378/impl.errBudget"], fn := fun _ => fun
  | [d1, d2, g1, g2, g3, g4, g5, g6, g7] => { results := [.lit (.bool false)], args := [d1, d2], vars := [g1, g2, g3, g4, g5, g6, g7] }
  | _ => none }
def FnExactFoldAllWrongFalsely : Prop := fnExactFoldAllRow.holds Tryd.pinned (OpenSpec.ofChange fnExactFoldAllWrong)

/-- 'laws.FnExactFoldsPossible': WHATEVER THE INPUT: true; the input reads as it did. -/
def fnExactFoldsPossibleSpec : ChangeSpec := { name := "fnExactFoldsPossible", vars := ["loop.example/g01378/impl.errInvalid", "loop.example/g01378/impl.errRange", "loop.example/g01378/impl.errLimit", "loop.example/g01378/impl.errState", "loop.example/g01378/impl.errSyntax", "loop.example/g01378/impl.errNotFound", "loop.example/g01378/impl.errBudget"], fn := fun _ => fun
  | [d, g1, g2, g3, g4, g5, g6, g7] => { results := [.lit (.bool true)], args := [d], vars := [g1, g2, g3, g4, g5, g6, g7] }
  | _ => none }
def fnExactFoldsPossibleRow : OpenClaim := { program := "ytcbbabepjfiigaadoor", sum := "0a947dc89bd03651bf2551966e4b07317ff4ab6d7ec39b7d9d90aed458ac049c", func := "loop.example/g01378/laws.FnExactFoldsPossible", spec := "fnExactFoldsPossible", inPlace := ["internal/reflectlite.TypeOf"], unfollowed := true, recurses := true, named := ["loop.example/g01378/impl.errInvalid", "loop.example/g01378/impl.errRange", "loop.example/g01378/impl.errLimit", "loop.example/g01378/impl.errState", "loop.example/g01378/impl.errSyntax", "loop.example/g01378/impl.errNotFound", "loop.example/g01378/impl.errBudget"], ifaces := true, apart := false, laid := [("loop.example/g01378/impl.errInvalid", laid_loop_example_g01378_impl_errInvalid), ("loop.example/g01378/impl.errRange", laid_loop_example_g01378_impl_errRange), ("loop.example/g01378/impl.errLimit", laid_loop_example_g01378_impl_errLimit), ("loop.example/g01378/impl.errState", laid_loop_example_g01378_impl_errState), ("loop.example/g01378/impl.errSyntax", laid_loop_example_g01378_impl_errSyntax), ("loop.example/g01378/impl.errNotFound", laid_loop_example_g01378_impl_errNotFound), ("loop.example/g01378/impl.errBudget", laid_loop_example_g01378_impl_errBudget)] }
def FnExactFoldsPossibleSaid : Prop := fnExactFoldsPossibleRow.holds Tryd.pinned (OpenSpec.ofChange fnExactFoldsPossibleSpec)

/-- ITS FALSE NEIGHBOUR: 'it returns false'. Refute it at one input. -/
def fnExactFoldsPossibleWrong : ChangeSpec := { name := "fnExactFoldsPossible", vars := ["loop.example/g01378/impl.errInvalid", "loop.example/g01378/impl.errRange", "loop.example/g01378/impl.errLimit", "loop.example/g01378/impl.errState", "loop.example/g01378/impl.errSyntax", "loop.example/g01378/impl.errNotFound", "loop.example/g01378/impl.errBudget"], fn := fun _ => fun
  | [d, g1, g2, g3, g4, g5, g6, g7] => { results := [.lit (.bool false)], args := [d], vars := [g1, g2, g3, g4, g5, g6, g7] }
  | _ => none }
def FnExactFoldsPossibleWrongFalsely : Prop := fnExactFoldsPossibleRow.holds Tryd.pinned (OpenSpec.ofChange fnExactFoldsPossibleWrong)

/-- 'laws.FnExactAreaOf': WHATEVER THE INPUT: true; the input reads as it did. -/
def fnExactAreaOfSpec : ChangeSpec := { name := "fnExactAreaOf", vars := ["loop.example/g01378/impl.errInvalid", "loop.example/g01378/impl.errRange", "loop.example/g01378/impl.errLimit", "loop.example/g01378/impl.errState", "loop.example/g01378/impl.errSyntax", "loop.example/g01378/impl.errNotFound", "loop.example/g01378/impl.errBudget"], fn := fun _ => fun
  | [d, g1, g2, g3, g4, g5, g6, g7] => { results := [.lit (.bool true)], args := [d], vars := [g1, g2, g3, g4, g5, g6, g7] }
  | _ => none }
def fnExactAreaOfRow : OpenClaim := { program := "ytcbbabepjfiigaadoor", sum := "0a947dc89bd03651bf2551966e4b07317ff4ab6d7ec39b7d9d90aed458ac049c", func := "loop.example/g01378/laws.FnExactAreaOf", spec := "fnExactAreaOf", inPlace := ["internal/reflectlite.TypeOf"], unfollowed := true, recurses := true, named := ["loop.example/g01378/impl.errInvalid", "loop.example/g01378/impl.errRange", "loop.example/g01378/impl.errLimit", "loop.example/g01378/impl.errState", "loop.example/g01378/impl.errSyntax", "loop.example/g01378/impl.errNotFound", "loop.example/g01378/impl.errBudget"], ifaces := true, apart := false, laid := [("loop.example/g01378/impl.errInvalid", laid_loop_example_g01378_impl_errInvalid), ("loop.example/g01378/impl.errRange", laid_loop_example_g01378_impl_errRange), ("loop.example/g01378/impl.errLimit", laid_loop_example_g01378_impl_errLimit), ("loop.example/g01378/impl.errState", laid_loop_example_g01378_impl_errState), ("loop.example/g01378/impl.errSyntax", laid_loop_example_g01378_impl_errSyntax), ("loop.example/g01378/impl.errNotFound", laid_loop_example_g01378_impl_errNotFound), ("loop.example/g01378/impl.errBudget", laid_loop_example_g01378_impl_errBudget)] }
def FnExactAreaOfSaid : Prop := fnExactAreaOfRow.holds Tryd.pinned (OpenSpec.ofChange fnExactAreaOfSpec)

/-- ITS FALSE NEIGHBOUR: 'it returns false'. Refute it at one input. -/
def fnExactAreaOfWrong : ChangeSpec := { name := "fnExactAreaOf", vars := ["loop.example/g01378/impl.errInvalid", "loop.example/g01378/impl.errRange", "loop.example/g01378/impl.errLimit", "loop.example/g01378/impl.errState", "loop.example/g01378/impl.errSyntax", "loop.example/g01378/impl.errNotFound", "loop.example/g01378/impl.errBudget"], fn := fun _ => fun
  | [d, g1, g2, g3, g4, g5, g6, g7] => { results := [.lit (.bool false)], args := [d], vars := [g1, g2, g3, g4, g5, g6, g7] }
  | _ => none }
def FnExactAreaOfWrongFalsely : Prop := fnExactAreaOfRow.holds Tryd.pinned (OpenSpec.ofChange fnExactAreaOfWrong)

/-- 'laws.FnExactUnfoldSheet': WHATEVER THE INPUT: true; the input reads as it did. -/
def fnExactUnfoldSheetSpec : ChangeSpec := { name := "fnExactUnfoldSheet", vars := ["loop.example/g01378/impl.errInvalid", "loop.example/g01378/impl.errRange", "loop.example/g01378/impl.errState", "loop.example/g01378/impl.errLimit", "loop.example/g01378/impl.errSyntax", "loop.example/g01378/impl.errNotFound", "loop.example/g01378/impl.errBudget"], fn := fun _ => fun
  | [d1, d2, g1, g2, g3, g4, g5, g6, g7] => { results := [.lit (.bool true)], args := [d1, d2], vars := [g1, g2, g3, g4, g5, g6, g7] }
  | _ => none }
def fnExactUnfoldSheetRow : OpenClaim := { program := "ytcbbabepjfiigaadoor", sum := "0a947dc89bd03651bf2551966e4b07317ff4ab6d7ec39b7d9d90aed458ac049c", func := "loop.example/g01378/laws.FnExactUnfoldSheet", spec := "fnExactUnfoldSheet", inPlace := ["internal/reflectlite.TypeOf"], unfollowed := true, recurses := true, named := ["loop.example/g01378/impl.errInvalid", "loop.example/g01378/impl.errRange", "loop.example/g01378/impl.errState", "loop.example/g01378/impl.errLimit", "loop.example/g01378/impl.errSyntax", "loop.example/g01378/impl.errNotFound", "loop.example/g01378/impl.errBudget"], ifaces := true, apart := false, laid := [("loop.example/g01378/impl.errInvalid", laid_loop_example_g01378_impl_errInvalid), ("loop.example/g01378/impl.errRange", laid_loop_example_g01378_impl_errRange), ("loop.example/g01378/impl.errLimit", laid_loop_example_g01378_impl_errLimit), ("loop.example/g01378/impl.errState", laid_loop_example_g01378_impl_errState), ("loop.example/g01378/impl.errSyntax", laid_loop_example_g01378_impl_errSyntax), ("loop.example/g01378/impl.errNotFound", laid_loop_example_g01378_impl_errNotFound), ("loop.example/g01378/impl.errBudget", laid_loop_example_g01378_impl_errBudget)] }
def FnExactUnfoldSheetSaid : Prop := fnExactUnfoldSheetRow.holds Tryd.pinned (OpenSpec.ofChange fnExactUnfoldSheetSpec)

/-- ITS FALSE NEIGHBOUR: 'it returns false'. Refute it at one input. -/
def fnExactUnfoldSheetWrong : ChangeSpec := { name := "fnExactUnfoldSheet", vars := ["loop.example/g01378/impl.errInvalid", "loop.example/g01378/impl.errRange", "loop.example/g01378/impl.errState", "loop.example/g01378/impl.errLimit", "loop.example/g01378/impl.errSyntax", "loop.example/g01378/impl.errNotFound", "loop.example/g01378/impl.errBudget"], fn := fun _ => fun
  | [d1, d2, g1, g2, g3, g4, g5, g6, g7] => { results := [.lit (.bool false)], args := [d1, d2], vars := [g1, g2, g3, g4, g5, g6, g7] }
  | _ => none }
def FnExactUnfoldSheetWrongFalsely : Prop := fnExactUnfoldSheetRow.holds Tryd.pinned (OpenSpec.ofChange fnExactUnfoldSheetWrong)

/-- 'laws.FnExactEdgesAfter': WHATEVER THE INPUT: true; the input reads as it did. -/
def fnExactEdgesAfterSpec : ChangeSpec := { name := "fnExactEdgesAfter", vars := ["loop.example/g01378/impl.errLimit", "loop.example/g01378/impl.errRange", "loop.example/g01378/impl.errInvalid", "loop.example/g01378/impl.errState", "loop.example/g01378/impl.errSyntax", "loop.example/g01378/impl.errNotFound", "loop.example/g01378/impl.errBudget"], fn := fun _ => fun
  | [d, g1, g2, g3, g4, g5, g6, g7] => { results := [.lit (.bool true)], args := [d], vars := [g1, g2, g3, g4, g5, g6, g7] }
  | _ => none }
def fnExactEdgesAfterRow : OpenClaim := { program := "ytcbbabepjfiigaadoor", sum := "0a947dc89bd03651bf2551966e4b07317ff4ab6d7ec39b7d9d90aed458ac049c", func := "loop.example/g01378/laws.FnExactEdgesAfter", spec := "fnExactEdgesAfter", inPlace := ["internal/reflectlite.TypeOf"], unfollowed := true, recurses := true, named := ["loop.example/g01378/impl.errLimit", "loop.example/g01378/impl.errRange", "loop.example/g01378/impl.errInvalid", "loop.example/g01378/impl.errState", "loop.example/g01378/impl.errSyntax", "loop.example/g01378/impl.errNotFound", "loop.example/g01378/impl.errBudget"], ifaces := true, apart := false, laid := [("loop.example/g01378/impl.errInvalid", laid_loop_example_g01378_impl_errInvalid), ("loop.example/g01378/impl.errRange", laid_loop_example_g01378_impl_errRange), ("loop.example/g01378/impl.errLimit", laid_loop_example_g01378_impl_errLimit), ("loop.example/g01378/impl.errState", laid_loop_example_g01378_impl_errState), ("loop.example/g01378/impl.errSyntax", laid_loop_example_g01378_impl_errSyntax), ("loop.example/g01378/impl.errNotFound", laid_loop_example_g01378_impl_errNotFound), ("loop.example/g01378/impl.errBudget", laid_loop_example_g01378_impl_errBudget)] }
def FnExactEdgesAfterSaid : Prop := fnExactEdgesAfterRow.holds Tryd.pinned (OpenSpec.ofChange fnExactEdgesAfterSpec)

/-- ITS FALSE NEIGHBOUR: 'it returns false'. Refute it at one input. -/
def fnExactEdgesAfterWrong : ChangeSpec := { name := "fnExactEdgesAfter", vars := ["loop.example/g01378/impl.errLimit", "loop.example/g01378/impl.errRange", "loop.example/g01378/impl.errInvalid", "loop.example/g01378/impl.errState", "loop.example/g01378/impl.errSyntax", "loop.example/g01378/impl.errNotFound", "loop.example/g01378/impl.errBudget"], fn := fun _ => fun
  | [d, g1, g2, g3, g4, g5, g6, g7] => { results := [.lit (.bool false)], args := [d], vars := [g1, g2, g3, g4, g5, g6, g7] }
  | _ => none }
def FnExactEdgesAfterWrongFalsely : Prop := fnExactEdgesAfterRow.holds Tryd.pinned (OpenSpec.ofChange fnExactEdgesAfterWrong)

/-- 'laws.FnExactFitsShelf': WHATEVER THE INPUT: true; the input reads as it did. -/
def fnExactFitsShelfSpec : ChangeSpec := { name := "fnExactFitsShelf", vars := ["loop.example/g01378/impl.errInvalid", "loop.example/g01378/impl.errRange", "loop.example/g01378/impl.errLimit", "loop.example/g01378/impl.errState", "loop.example/g01378/impl.errSyntax", "loop.example/g01378/impl.errNotFound", "loop.example/g01378/impl.errBudget"], fn := fun _ => fun
  | [d1, d2, d3, d4, g1, g2, g3, g4, g5, g6, g7] => { results := [.lit (.bool true)], args := [d1, d2, d3, d4], vars := [g1, g2, g3, g4, g5, g6, g7] }
  | _ => none }
def fnExactFitsShelfRow : OpenClaim := { program := "ytcbbabepjfiigaadoor", sum := "0a947dc89bd03651bf2551966e4b07317ff4ab6d7ec39b7d9d90aed458ac049c", func := "loop.example/g01378/laws.FnExactFitsShelf", spec := "fnExactFitsShelf", inPlace := ["internal/reflectlite.TypeOf"], unfollowed := true, recurses := true, named := ["loop.example/g01378/impl.errInvalid", "loop.example/g01378/impl.errRange", "loop.example/g01378/impl.errLimit", "loop.example/g01378/impl.errState", "loop.example/g01378/impl.errSyntax", "loop.example/g01378/impl.errNotFound", "loop.example/g01378/impl.errBudget"], ifaces := true, apart := false, laid := [("loop.example/g01378/impl.errInvalid", laid_loop_example_g01378_impl_errInvalid), ("loop.example/g01378/impl.errRange", laid_loop_example_g01378_impl_errRange), ("loop.example/g01378/impl.errLimit", laid_loop_example_g01378_impl_errLimit), ("loop.example/g01378/impl.errState", laid_loop_example_g01378_impl_errState), ("loop.example/g01378/impl.errSyntax", laid_loop_example_g01378_impl_errSyntax), ("loop.example/g01378/impl.errNotFound", laid_loop_example_g01378_impl_errNotFound), ("loop.example/g01378/impl.errBudget", laid_loop_example_g01378_impl_errBudget)] }
def FnExactFitsShelfSaid : Prop := fnExactFitsShelfRow.holds Tryd.pinned (OpenSpec.ofChange fnExactFitsShelfSpec)

/-- ITS FALSE NEIGHBOUR: 'it returns false'. Refute it at one input. -/
def fnExactFitsShelfWrong : ChangeSpec := { name := "fnExactFitsShelf", vars := ["loop.example/g01378/impl.errInvalid", "loop.example/g01378/impl.errRange", "loop.example/g01378/impl.errLimit", "loop.example/g01378/impl.errState", "loop.example/g01378/impl.errSyntax", "loop.example/g01378/impl.errNotFound", "loop.example/g01378/impl.errBudget"], fn := fun _ => fun
  | [d1, d2, d3, d4, g1, g2, g3, g4, g5, g6, g7] => { results := [.lit (.bool false)], args := [d1, d2, d3, d4], vars := [g1, g2, g3, g4, g5, g6, g7] }
  | _ => none }
def FnExactFitsShelfWrongFalsely : Prop := fnExactFitsShelfRow.holds Tryd.pinned (OpenSpec.ofChange fnExactFitsShelfWrong)

/-- 'laws.FnExactSameFolded': WHATEVER THE INPUT: true; the input reads as it did. -/
def fnExactSameFoldedSpec : ChangeSpec := { name := "fnExactSameFolded", vars := ["loop.example/g01378/impl.errInvalid", "loop.example/g01378/impl.errRange", "loop.example/g01378/impl.errLimit", "loop.example/g01378/impl.errState", "loop.example/g01378/impl.errSyntax", "loop.example/g01378/impl.errNotFound", "loop.example/g01378/impl.errBudget"], fn := fun _ => fun
  | [d1, d2, g1, g2, g3, g4, g5, g6, g7] => { results := [.lit (.bool true)], args := [d1, d2], vars := [g1, g2, g3, g4, g5, g6, g7] }
  | _ => none }
def fnExactSameFoldedRow : OpenClaim := { program := "ytcbbabepjfiigaadoor", sum := "0a947dc89bd03651bf2551966e4b07317ff4ab6d7ec39b7d9d90aed458ac049c", func := "loop.example/g01378/laws.FnExactSameFolded", spec := "fnExactSameFolded", inPlace := ["internal/reflectlite.TypeOf"], unfollowed := true, recurses := true, named := ["loop.example/g01378/impl.errInvalid", "loop.example/g01378/impl.errRange", "loop.example/g01378/impl.errLimit", "loop.example/g01378/impl.errState", "loop.example/g01378/impl.errSyntax", "loop.example/g01378/impl.errNotFound", "loop.example/g01378/impl.errBudget"], ifaces := true, apart := false, laid := [("loop.example/g01378/impl.errInvalid", laid_loop_example_g01378_impl_errInvalid), ("loop.example/g01378/impl.errRange", laid_loop_example_g01378_impl_errRange), ("loop.example/g01378/impl.errLimit", laid_loop_example_g01378_impl_errLimit), ("loop.example/g01378/impl.errState", laid_loop_example_g01378_impl_errState), ("loop.example/g01378/impl.errSyntax", laid_loop_example_g01378_impl_errSyntax), ("loop.example/g01378/impl.errNotFound", laid_loop_example_g01378_impl_errNotFound), ("loop.example/g01378/impl.errBudget", laid_loop_example_g01378_impl_errBudget)] }
def FnExactSameFoldedSaid : Prop := fnExactSameFoldedRow.holds Tryd.pinned (OpenSpec.ofChange fnExactSameFoldedSpec)

/-- ITS FALSE NEIGHBOUR: 'it returns false'. Refute it at one input. -/
def fnExactSameFoldedWrong : ChangeSpec := { name := "fnExactSameFolded", vars := ["loop.example/g01378/impl.errInvalid", "loop.example/g01378/impl.errRange", "loop.example/g01378/impl.errLimit", "loop.example/g01378/impl.errState", "loop.example/g01378/impl.errSyntax", "loop.example/g01378/impl.errNotFound", "loop.example/g01378/impl.errBudget"], fn := fun _ => fun
  | [d1, d2, g1, g2, g3, g4, g5, g6, g7] => { results := [.lit (.bool false)], args := [d1, d2], vars := [g1, g2, g3, g4, g5, g6, g7] }
  | _ => none }
def FnExactSameFoldedWrongFalsely : Prop := fnExactSameFoldedRow.holds Tryd.pinned (OpenSpec.ofChange fnExactSameFoldedWrong)

/-- 'laws.FnExactValidCupboard': WHATEVER THE INPUT: true; the input reads as it did. -/
def fnExactValidCupboardSpec : ChangeSpec := { name := "fnExactValidCupboard", vars := ["loop.example/g01378/impl.errInvalid"], fn := fun _ => fun
  | [d, g1] => { results := [.lit (.bool true)], args := [d], vars := [g1] }
  | _ => none }
def fnExactValidCupboardRow : OpenClaim := { program := "ytcbbabepjfiigaadoor", sum := "0a947dc89bd03651bf2551966e4b07317ff4ab6d7ec39b7d9d90aed458ac049c", func := "loop.example/g01378/laws.FnExactValidCupboard", spec := "fnExactValidCupboard", unfollowed := true, recurses := true, named := ["loop.example/g01378/impl.errInvalid"], ifaces := true, apart := false, laid := [("loop.example/g01378/impl.errInvalid", laid_loop_example_g01378_impl_errInvalid)] }
def FnExactValidCupboardSaid : Prop := fnExactValidCupboardRow.holds Tryd.pinned (OpenSpec.ofChange fnExactValidCupboardSpec)

/-- ITS FALSE NEIGHBOUR: 'it returns false'. Refute it at one input. -/
def fnExactValidCupboardWrong : ChangeSpec := { name := "fnExactValidCupboard", vars := ["loop.example/g01378/impl.errInvalid"], fn := fun _ => fun
  | [d, g1] => { results := [.lit (.bool false)], args := [d], vars := [g1] }
  | _ => none }
def FnExactValidCupboardWrongFalsely : Prop := fnExactValidCupboardRow.holds Tryd.pinned (OpenSpec.ofChange fnExactValidCupboardWrong)

/-- 'laws.FnExactFindSheet': WHATEVER THE INPUT: true; the input reads as it did. -/
def fnExactFindSheetSpec : ChangeSpec := { name := "fnExactFindSheet", vars := ["loop.example/g01378/impl.errInvalid", "loop.example/g01378/impl.errRange", "loop.example/g01378/impl.errLimit", "loop.example/g01378/impl.errState", "loop.example/g01378/impl.errSyntax", "loop.example/g01378/impl.errNotFound", "loop.example/g01378/impl.errBudget"], fn := fun _ => fun
  | [d1, d2, g1, g2, g3, g4, g5, g6, g7] => { results := [.lit (.bool true)], args := [d1, d2], vars := [g1, g2, g3, g4, g5, g6, g7] }
  | _ => none }
def fnExactFindSheetRow : OpenClaim := { program := "ytcbbabepjfiigaadoor", sum := "0a947dc89bd03651bf2551966e4b07317ff4ab6d7ec39b7d9d90aed458ac049c", func := "loop.example/g01378/laws.FnExactFindSheet", spec := "fnExactFindSheet", inPlace := ["internal/reflectlite.TypeOf"], unfollowed := true, recurses := true, named := ["loop.example/g01378/impl.errInvalid", "loop.example/g01378/impl.errRange", "loop.example/g01378/impl.errLimit", "loop.example/g01378/impl.errState", "loop.example/g01378/impl.errSyntax", "loop.example/g01378/impl.errNotFound", "loop.example/g01378/impl.errBudget"], ifaces := true, apart := false, laid := [("loop.example/g01378/impl.errInvalid", laid_loop_example_g01378_impl_errInvalid), ("loop.example/g01378/impl.errRange", laid_loop_example_g01378_impl_errRange), ("loop.example/g01378/impl.errLimit", laid_loop_example_g01378_impl_errLimit), ("loop.example/g01378/impl.errState", laid_loop_example_g01378_impl_errState), ("loop.example/g01378/impl.errSyntax", laid_loop_example_g01378_impl_errSyntax), ("loop.example/g01378/impl.errNotFound", laid_loop_example_g01378_impl_errNotFound), ("loop.example/g01378/impl.errBudget", laid_loop_example_g01378_impl_errBudget)] }
def FnExactFindSheetSaid : Prop := fnExactFindSheetRow.holds Tryd.pinned (OpenSpec.ofChange fnExactFindSheetSpec)

/-- ITS FALSE NEIGHBOUR: 'it returns false'. Refute it at one input. -/
def fnExactFindSheetWrong : ChangeSpec := { name := "fnExactFindSheet", vars := ["loop.example/g01378/impl.errInvalid", "loop.example/g01378/impl.errRange", "loop.example/g01378/impl.errLimit", "loop.example/g01378/impl.errState", "loop.example/g01378/impl.errSyntax", "loop.example/g01378/impl.errNotFound", "loop.example/g01378/impl.errBudget"], fn := fun _ => fun
  | [d1, d2, g1, g2, g3, g4, g5, g6, g7] => { results := [.lit (.bool false)], args := [d1, d2], vars := [g1, g2, g3, g4, g5, g6, g7] }
  | _ => none }
def FnExactFindSheetWrongFalsely : Prop := fnExactFindSheetRow.holds Tryd.pinned (OpenSpec.ofChange fnExactFindSheetWrong)

/-- 'laws.FnExactTakeSheet': WHATEVER THE INPUT: true; the input reads as it did. -/
def fnExactTakeSheetSpec : ChangeSpec := { name := "fnExactTakeSheet", vars := ["loop.example/g01378/impl.errInvalid", "loop.example/g01378/impl.errRange", "loop.example/g01378/impl.errLimit", "loop.example/g01378/impl.errState", "loop.example/g01378/impl.errSyntax", "loop.example/g01378/impl.errNotFound", "loop.example/g01378/impl.errBudget"], fn := fun _ => fun
  | [d1, d2, g1, g2, g3, g4, g5, g6, g7] => { results := [.lit (.bool true)], args := [d1, d2], vars := [g1, g2, g3, g4, g5, g6, g7] }
  | _ => none }
def fnExactTakeSheetRow : OpenClaim := { program := "ytcbbabepjfiigaadoor", sum := "0a947dc89bd03651bf2551966e4b07317ff4ab6d7ec39b7d9d90aed458ac049c", func := "loop.example/g01378/laws.FnExactTakeSheet", spec := "fnExactTakeSheet", inPlace := ["internal/reflectlite.TypeOf"], unfollowed := true, recurses := true, named := ["loop.example/g01378/impl.errInvalid", "loop.example/g01378/impl.errRange", "loop.example/g01378/impl.errLimit", "loop.example/g01378/impl.errState", "loop.example/g01378/impl.errSyntax", "loop.example/g01378/impl.errNotFound", "loop.example/g01378/impl.errBudget"], ifaces := true, apart := false, laid := [("loop.example/g01378/impl.errInvalid", laid_loop_example_g01378_impl_errInvalid), ("loop.example/g01378/impl.errRange", laid_loop_example_g01378_impl_errRange), ("loop.example/g01378/impl.errLimit", laid_loop_example_g01378_impl_errLimit), ("loop.example/g01378/impl.errState", laid_loop_example_g01378_impl_errState), ("loop.example/g01378/impl.errSyntax", laid_loop_example_g01378_impl_errSyntax), ("loop.example/g01378/impl.errNotFound", laid_loop_example_g01378_impl_errNotFound), ("loop.example/g01378/impl.errBudget", laid_loop_example_g01378_impl_errBudget)] }
def FnExactTakeSheetSaid : Prop := fnExactTakeSheetRow.holds Tryd.pinned (OpenSpec.ofChange fnExactTakeSheetSpec)

/-- ITS FALSE NEIGHBOUR: 'it returns false'. Refute it at one input. -/
def fnExactTakeSheetWrong : ChangeSpec := { name := "fnExactTakeSheet", vars := ["loop.example/g01378/impl.errInvalid", "loop.example/g01378/impl.errRange", "loop.example/g01378/impl.errLimit", "loop.example/g01378/impl.errState", "loop.example/g01378/impl.errSyntax", "loop.example/g01378/impl.errNotFound", "loop.example/g01378/impl.errBudget"], fn := fun _ => fun
  | [d1, d2, g1, g2, g3, g4, g5, g6, g7] => { results := [.lit (.bool false)], args := [d1, d2], vars := [g1, g2, g3, g4, g5, g6, g7] }
  | _ => none }
def FnExactTakeSheetWrongFalsely : Prop := fnExactTakeSheetRow.holds Tryd.pinned (OpenSpec.ofChange fnExactTakeSheetWrong)

/- THE SECOND FORM. 'bulk': how many values and letters a reading holds, each counted each time it is reached (what is shared counts as often as it is met; a slice's spare places count too). A statement '..UptoSaid' is the law's where the arguments, and the package variables that the reading takes, are together of bulk at most 1048576: NARROWER than '..Said'. Prove '..Said' where nothing that the law and all that it calls make is longer than what came in: it says more and counts as full. Else prove '..UptoSaid'. A law counts once. -/
mutual
def uptoBulk {H : Type} : DataW H → Nat
  | .lit (.string bytes) => bytes.length + 1
  | .lit _ => 1
  | .nil => 1
  | .ptr d => uptoBulk d + 1
  | .slice elems spare => uptoBulkAll elems + uptoBulkAll spare + 1
  | .agg parts => uptoBulkAll parts + 1
  | .iface _ d => uptoBulk d + 1
  | .map entries => uptoBulkEntries entries + 1
  | .held _ => 1
def uptoBulkAll {H : Type} : List (DataW H) → Nat
  | [] => 0
  | d :: r => uptoBulk d + uptoBulkAll r
def uptoBulkEntries {H : Type} : List (Lit × DataW H) → Nat
  | [] => 0
  | x :: r => uptoBulkEntry x + uptoBulkEntries r
def uptoBulkEntry {H : Type} : Lit × DataW H → Nat
  | (.string bytes, d) => bytes.length + uptoBulk d + 1
  | (_, d) => uptoBulk d + 1
 end
def uptoSmall : (H : Type) → List (DataW H) → Bool := fun _ ds => decide (uptoBulkAll ds ≤ 1048576)
def OpenSpec.upto (s : _root_.Go.ChangeSpec) : _root_.Go.OpenSpec := { _root_.Go.OpenSpec.ofChange s with cond := some uptoSmall }

/-- 'laws.FnExactFoldSheet', WHERE WHAT IT READS IS OF BULK AT MOST 1048576: true; the input reads as it did. -/
def fnExactFoldSheetUptoRow : OpenClaim := { program := "ytcbbabepjfiigaadoor", sum := "0a947dc89bd03651bf2551966e4b07317ff4ab6d7ec39b7d9d90aed458ac049c", func := "loop.example/g01378/laws.FnExactFoldSheet", spec := "fnExactFoldSheet", inPlace := ["internal/reflectlite.TypeOf"], unfollowed := true, recurses := true, named := ["loop.example/g01378/impl.errInvalid", "loop.example/g01378/impl.errRange", "loop.example/g01378/impl.errState", "loop.example/g01378/impl.errLimit", "loop.example/g01378/impl.errSyntax", "loop.example/g01378/impl.errNotFound", "loop.example/g01378/impl.errBudget"], ifaces := true, apart := false, laid := [("loop.example/g01378/impl.errInvalid", laid_loop_example_g01378_impl_errInvalid), ("loop.example/g01378/impl.errRange", laid_loop_example_g01378_impl_errRange), ("loop.example/g01378/impl.errLimit", laid_loop_example_g01378_impl_errLimit), ("loop.example/g01378/impl.errState", laid_loop_example_g01378_impl_errState), ("loop.example/g01378/impl.errSyntax", laid_loop_example_g01378_impl_errSyntax), ("loop.example/g01378/impl.errNotFound", laid_loop_example_g01378_impl_errNotFound), ("loop.example/g01378/impl.errBudget", laid_loop_example_g01378_impl_errBudget)], narrowed := true }
def FnExactFoldSheetUptoSaid : Prop := fnExactFoldSheetUptoRow.holds Tryd.pinned (OpenSpec.upto fnExactFoldSheetSpec)

/-- 'laws.FnExactFoldAll', WHERE WHAT IT READS IS OF BULK AT MOST 1048576: true; the input reads as it did. -/
def fnExactFoldAllUptoRow : OpenClaim := { program := "ytcbbabepjfiigaadoor", sum := "0a947dc89bd03651bf2551966e4b07317ff4ab6d7ec39b7d9d90aed458ac049c", func := "loop.example/g01378/laws.FnExactFoldAll", spec := "fnExactFoldAll", inPlace := ["internal/reflectlite.TypeOf"], unfollowed := true, recurses := true, named := ["loop.example/g01378/impl.errInvalid", "loop.example/g01378/impl.errLimit", "loop.example/g01378/impl.errRange", "loop.example/g01378/impl.errState", "loop.example/g01378/impl.errSyntax", "loop.example/g01378/impl.errNotFound", "loop.example/g01378/impl.errBudget"], ifaces := true, apart := false, laid := [("loop.example/g01378/impl.errInvalid", laid_loop_example_g01378_impl_errInvalid), ("loop.example/g01378/impl.errRange", laid_loop_example_g01378_impl_errRange), ("loop.example/g01378/impl.errLimit", laid_loop_example_g01378_impl_errLimit), ("loop.example/g01378/impl.errState", laid_loop_example_g01378_impl_errState), ("loop.example/g01378/impl.errSyntax", laid_loop_example_g01378_impl_errSyntax), ("loop.example/g01378/impl.errNotFound", laid_loop_example_g01378_impl_errNotFound), ("loop.example/g01378/impl.errBudget", laid_loop_example_g01378_impl_errBudget)], narrowed := true }
def FnExactFoldAllUptoSaid : Prop := fnExactFoldAllUptoRow.holds Tryd.pinned (OpenSpec.upto fnExactFoldAllSpec)

/-- 'laws.FnExactFoldsPossible', WHERE WHAT IT READS IS OF BULK AT MOST 1048576: true; the input reads as it did. -/
def fnExactFoldsPossibleUptoRow : OpenClaim := { program := "ytcbbabepjfiigaadoor", sum := "0a947dc89bd03651bf2551966e4b07317ff4ab6d7ec39b7d9d90aed458ac049c", func := "loop.example/g01378/laws.FnExactFoldsPossible", spec := "fnExactFoldsPossible", inPlace := ["internal/reflectlite.TypeOf"], unfollowed := true, recurses := true, named := ["loop.example/g01378/impl.errInvalid", "loop.example/g01378/impl.errRange", "loop.example/g01378/impl.errLimit", "loop.example/g01378/impl.errState", "loop.example/g01378/impl.errSyntax", "loop.example/g01378/impl.errNotFound", "loop.example/g01378/impl.errBudget"], ifaces := true, apart := false, laid := [("loop.example/g01378/impl.errInvalid", laid_loop_example_g01378_impl_errInvalid), ("loop.example/g01378/impl.errRange", laid_loop_example_g01378_impl_errRange), ("loop.example/g01378/impl.errLimit", laid_loop_example_g01378_impl_errLimit), ("loop.example/g01378/impl.errState", laid_loop_example_g01378_impl_errState), ("loop.example/g01378/impl.errSyntax", laid_loop_example_g01378_impl_errSyntax), ("loop.example/g01378/impl.errNotFound", laid_loop_example_g01378_impl_errNotFound), ("loop.example/g01378/impl.errBudget", laid_loop_example_g01378_impl_errBudget)], narrowed := true }
def FnExactFoldsPossibleUptoSaid : Prop := fnExactFoldsPossibleUptoRow.holds Tryd.pinned (OpenSpec.upto fnExactFoldsPossibleSpec)

/-- 'laws.FnExactAreaOf', WHERE WHAT IT READS IS OF BULK AT MOST 1048576: true; the input reads as it did. -/
def fnExactAreaOfUptoRow : OpenClaim := { program := "ytcbbabepjfiigaadoor", sum := "0a947dc89bd03651bf2551966e4b07317ff4ab6d7ec39b7d9d90aed458ac049c", func := "loop.example/g01378/laws.FnExactAreaOf", spec := "fnExactAreaOf", inPlace := ["internal/reflectlite.TypeOf"], unfollowed := true, recurses := true, named := ["loop.example/g01378/impl.errInvalid", "loop.example/g01378/impl.errRange", "loop.example/g01378/impl.errLimit", "loop.example/g01378/impl.errState", "loop.example/g01378/impl.errSyntax", "loop.example/g01378/impl.errNotFound", "loop.example/g01378/impl.errBudget"], ifaces := true, apart := false, laid := [("loop.example/g01378/impl.errInvalid", laid_loop_example_g01378_impl_errInvalid), ("loop.example/g01378/impl.errRange", laid_loop_example_g01378_impl_errRange), ("loop.example/g01378/impl.errLimit", laid_loop_example_g01378_impl_errLimit), ("loop.example/g01378/impl.errState", laid_loop_example_g01378_impl_errState), ("loop.example/g01378/impl.errSyntax", laid_loop_example_g01378_impl_errSyntax), ("loop.example/g01378/impl.errNotFound", laid_loop_example_g01378_impl_errNotFound), ("loop.example/g01378/impl.errBudget", laid_loop_example_g01378_impl_errBudget)], narrowed := true }
def FnExactAreaOfUptoSaid : Prop := fnExactAreaOfUptoRow.holds Tryd.pinned (OpenSpec.upto fnExactAreaOfSpec)

/-- 'laws.FnExactUnfoldSheet', WHERE WHAT IT READS IS OF BULK AT MOST 1048576: true; the input reads as it did. -/
def fnExactUnfoldSheetUptoRow : OpenClaim := { program := "ytcbbabepjfiigaadoor", sum := "0a947dc89bd03651bf2551966e4b07317ff4ab6d7ec39b7d9d90aed458ac049c", func := "loop.example/g01378/laws.FnExactUnfoldSheet", spec := "fnExactUnfoldSheet", inPlace := ["internal/reflectlite.TypeOf"], unfollowed := true, recurses := true, named := ["loop.example/g01378/impl.errInvalid", "loop.example/g01378/impl.errRange", "loop.example/g01378/impl.errState", "loop.example/g01378/impl.errLimit", "loop.example/g01378/impl.errSyntax", "loop.example/g01378/impl.errNotFound", "loop.example/g01378/impl.errBudget"], ifaces := true, apart := false, laid := [("loop.example/g01378/impl.errInvalid", laid_loop_example_g01378_impl_errInvalid), ("loop.example/g01378/impl.errRange", laid_loop_example_g01378_impl_errRange), ("loop.example/g01378/impl.errLimit", laid_loop_example_g01378_impl_errLimit), ("loop.example/g01378/impl.errState", laid_loop_example_g01378_impl_errState), ("loop.example/g01378/impl.errSyntax", laid_loop_example_g01378_impl_errSyntax), ("loop.example/g01378/impl.errNotFound", laid_loop_example_g01378_impl_errNotFound), ("loop.example/g01378/impl.errBudget", laid_loop_example_g01378_impl_errBudget)], narrowed := true }
def FnExactUnfoldSheetUptoSaid : Prop := fnExactUnfoldSheetUptoRow.holds Tryd.pinned (OpenSpec.upto fnExactUnfoldSheetSpec)

/-- 'laws.FnExactEdgesAfter', WHERE WHAT IT READS IS OF BULK AT MOST 1048576: true; the input reads as it did. -/
def fnExactEdgesAfterUptoRow : OpenClaim := { program := "ytcbbabepjfiigaadoor", sum := "0a947dc89bd03651bf2551966e4b07317ff4ab6d7ec39b7d9d90aed458ac049c", func := "loop.example/g01378/laws.FnExactEdgesAfter", spec := "fnExactEdgesAfter", inPlace := ["internal/reflectlite.TypeOf"], unfollowed := true, recurses := true, named := ["loop.example/g01378/impl.errLimit", "loop.example/g01378/impl.errRange", "loop.example/g01378/impl.errInvalid", "loop.example/g01378/impl.errState", "loop.example/g01378/impl.errSyntax", "loop.example/g01378/impl.errNotFound", "loop.example/g01378/impl.errBudget"], ifaces := true, apart := false, laid := [("loop.example/g01378/impl.errInvalid", laid_loop_example_g01378_impl_errInvalid), ("loop.example/g01378/impl.errRange", laid_loop_example_g01378_impl_errRange), ("loop.example/g01378/impl.errLimit", laid_loop_example_g01378_impl_errLimit), ("loop.example/g01378/impl.errState", laid_loop_example_g01378_impl_errState), ("loop.example/g01378/impl.errSyntax", laid_loop_example_g01378_impl_errSyntax), ("loop.example/g01378/impl.errNotFound", laid_loop_example_g01378_impl_errNotFound), ("loop.example/g01378/impl.errBudget", laid_loop_example_g01378_impl_errBudget)], narrowed := true }
def FnExactEdgesAfterUptoSaid : Prop := fnExactEdgesAfterUptoRow.holds Tryd.pinned (OpenSpec.upto fnExactEdgesAfterSpec)

/-- 'laws.FnExactFitsShelf', WHERE WHAT IT READS IS OF BULK AT MOST 1048576: true; the input reads as it did. -/
def fnExactFitsShelfUptoRow : OpenClaim := { program := "ytcbbabepjfiigaadoor", sum := "0a947dc89bd03651bf2551966e4b07317ff4ab6d7ec39b7d9d90aed458ac049c", func := "loop.example/g01378/laws.FnExactFitsShelf", spec := "fnExactFitsShelf", inPlace := ["internal/reflectlite.TypeOf"], unfollowed := true, recurses := true, named := ["loop.example/g01378/impl.errInvalid", "loop.example/g01378/impl.errRange", "loop.example/g01378/impl.errLimit", "loop.example/g01378/impl.errState", "loop.example/g01378/impl.errSyntax", "loop.example/g01378/impl.errNotFound", "loop.example/g01378/impl.errBudget"], ifaces := true, apart := false, laid := [("loop.example/g01378/impl.errInvalid", laid_loop_example_g01378_impl_errInvalid), ("loop.example/g01378/impl.errRange", laid_loop_example_g01378_impl_errRange), ("loop.example/g01378/impl.errLimit", laid_loop_example_g01378_impl_errLimit), ("loop.example/g01378/impl.errState", laid_loop_example_g01378_impl_errState), ("loop.example/g01378/impl.errSyntax", laid_loop_example_g01378_impl_errSyntax), ("loop.example/g01378/impl.errNotFound", laid_loop_example_g01378_impl_errNotFound), ("loop.example/g01378/impl.errBudget", laid_loop_example_g01378_impl_errBudget)], narrowed := true }
def FnExactFitsShelfUptoSaid : Prop := fnExactFitsShelfUptoRow.holds Tryd.pinned (OpenSpec.upto fnExactFitsShelfSpec)

/-- 'laws.FnExactSameFolded', WHERE WHAT IT READS IS OF BULK AT MOST 1048576: true; the input reads as it did. -/
def fnExactSameFoldedUptoRow : OpenClaim := { program := "ytcbbabepjfiigaadoor", sum := "0a947dc89bd03651bf2551966e4b07317ff4ab6d7ec39b7d9d90aed458ac049c", func := "loop.example/g01378/laws.FnExactSameFolded", spec := "fnExactSameFolded", inPlace := ["internal/reflectlite.TypeOf"], unfollowed := true, recurses := true, named := ["loop.example/g01378/impl.errInvalid", "loop.example/g01378/impl.errRange", "loop.example/g01378/impl.errLimit", "loop.example/g01378/impl.errState", "loop.example/g01378/impl.errSyntax", "loop.example/g01378/impl.errNotFound", "loop.example/g01378/impl.errBudget"], ifaces := true, apart := false, laid := [("loop.example/g01378/impl.errInvalid", laid_loop_example_g01378_impl_errInvalid), ("loop.example/g01378/impl.errRange", laid_loop_example_g01378_impl_errRange), ("loop.example/g01378/impl.errLimit", laid_loop_example_g01378_impl_errLimit), ("loop.example/g01378/impl.errState", laid_loop_example_g01378_impl_errState), ("loop.example/g01378/impl.errSyntax", laid_loop_example_g01378_impl_errSyntax), ("loop.example/g01378/impl.errNotFound", laid_loop_example_g01378_impl_errNotFound), ("loop.example/g01378/impl.errBudget", laid_loop_example_g01378_impl_errBudget)], narrowed := true }
def FnExactSameFoldedUptoSaid : Prop := fnExactSameFoldedUptoRow.holds Tryd.pinned (OpenSpec.upto fnExactSameFoldedSpec)

/-- 'laws.FnExactValidCupboard', WHERE WHAT IT READS IS OF BULK AT MOST 1048576: true; the input reads as it did. -/
def fnExactValidCupboardUptoRow : OpenClaim := { program := "ytcbbabepjfiigaadoor", sum := "0a947dc89bd03651bf2551966e4b07317ff4ab6d7ec39b7d9d90aed458ac049c", func := "loop.example/g01378/laws.FnExactValidCupboard", spec := "fnExactValidCupboard", unfollowed := true, recurses := true, named := ["loop.example/g01378/impl.errInvalid"], ifaces := true, apart := false, laid := [("loop.example/g01378/impl.errInvalid", laid_loop_example_g01378_impl_errInvalid)], narrowed := true }
def FnExactValidCupboardUptoSaid : Prop := fnExactValidCupboardUptoRow.holds Tryd.pinned (OpenSpec.upto fnExactValidCupboardSpec)

/-- 'laws.FnExactFindSheet', WHERE WHAT IT READS IS OF BULK AT MOST 1048576: true; the input reads as it did. -/
def fnExactFindSheetUptoRow : OpenClaim := { program := "ytcbbabepjfiigaadoor", sum := "0a947dc89bd03651bf2551966e4b07317ff4ab6d7ec39b7d9d90aed458ac049c", func := "loop.example/g01378/laws.FnExactFindSheet", spec := "fnExactFindSheet", inPlace := ["internal/reflectlite.TypeOf"], unfollowed := true, recurses := true, named := ["loop.example/g01378/impl.errInvalid", "loop.example/g01378/impl.errRange", "loop.example/g01378/impl.errLimit", "loop.example/g01378/impl.errState", "loop.example/g01378/impl.errSyntax", "loop.example/g01378/impl.errNotFound", "loop.example/g01378/impl.errBudget"], ifaces := true, apart := false, laid := [("loop.example/g01378/impl.errInvalid", laid_loop_example_g01378_impl_errInvalid), ("loop.example/g01378/impl.errRange", laid_loop_example_g01378_impl_errRange), ("loop.example/g01378/impl.errLimit", laid_loop_example_g01378_impl_errLimit), ("loop.example/g01378/impl.errState", laid_loop_example_g01378_impl_errState), ("loop.example/g01378/impl.errSyntax", laid_loop_example_g01378_impl_errSyntax), ("loop.example/g01378/impl.errNotFound", laid_loop_example_g01378_impl_errNotFound), ("loop.example/g01378/impl.errBudget", laid_loop_example_g01378_impl_errBudget)], narrowed := true }
def FnExactFindSheetUptoSaid : Prop := fnExactFindSheetUptoRow.holds Tryd.pinned (OpenSpec.upto fnExactFindSheetSpec)

/-- 'laws.FnExactTakeSheet', WHERE WHAT IT READS IS OF BULK AT MOST 1048576: true; the input reads as it did. -/
def fnExactTakeSheetUptoRow : OpenClaim := { program := "ytcbbabepjfiigaadoor", sum := "0a947dc89bd03651bf2551966e4b07317ff4ab6d7ec39b7d9d90aed458ac049c", func := "loop.example/g01378/laws.FnExactTakeSheet", spec := "fnExactTakeSheet", inPlace := ["internal/reflectlite.TypeOf"], unfollowed := true, recurses := true, named := ["loop.example/g01378/impl.errInvalid", "loop.example/g01378/impl.errRange", "loop.example/g01378/impl.errLimit", "loop.example/g01378/impl.errState", "loop.example/g01378/impl.errSyntax", "loop.example/g01378/impl.errNotFound", "loop.example/g01378/impl.errBudget"], ifaces := true, apart := false, laid := [("loop.example/g01378/impl.errInvalid", laid_loop_example_g01378_impl_errInvalid), ("loop.example/g01378/impl.errRange", laid_loop_example_g01378_impl_errRange), ("loop.example/g01378/impl.errLimit", laid_loop_example_g01378_impl_errLimit), ("loop.example/g01378/impl.errState", laid_loop_example_g01378_impl_errState), ("loop.example/g01378/impl.errSyntax", laid_loop_example_g01378_impl_errSyntax), ("loop.example/g01378/impl.errNotFound", laid_loop_example_g01378_impl_errNotFound), ("loop.example/g01378/impl.errBudget", laid_loop_example_g01378_impl_errBudget)], narrowed := true }
def FnExactTakeSheetUptoSaid : Prop := fnExactTakeSheetUptoRow.holds Tryd.pinned (OpenSpec.upto fnExactTakeSheetSpec)

end Rows
end Go.Proofs.YtcbbabepjfiigaaDoor
