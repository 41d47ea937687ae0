/-
  NARROWER THAN 'FOR EVERY INPUT', by the rows' own cells (each row's printed sentence says how): FnExactFitsWith: ifaces, laid · FnExactColourSets: ifaces, laid · FnExactApartSet: ifaces, laid · FnExactLoadsBound: ifaces, laid · FnExactHeaviestLoad: ifaces, laid.
  DERIVED. THE GIVEN ROWS OF THIS SEAT. 5 by the template 'for every input the law returns true; each argument reads behind the call as it read before'; 0 by the template 'total and deterministic' (their statements: YtdafnibmoggcnaaDoorTotals.lean).
  GIVEN WITH THE SEED: the statements are not yours to turn. If you find one false, say at which input.
  Laid BY PROGRAM, IN A SANDBOX (cutbox-rows.mjs): the forced cells as the released guide's own fill.sh prints them over the translation efa069791afd1f2e… (all of the seat's roots in one cut). By AI agents, Wed Nov 11 2026. No macro, syntax, notation, axiom, sorry.
-/
import Derived.Test.YtdafnibmoggcnaaDoorChecked
import GoSem.Claim
import GoSem.ClaimJoined
import GoSem.ClaimMapViews
import Derived.JoinedTies
import Derived.KernelRfl
namespace Go.Proofs.YtdafnibmoggcnaaDoor
/- THE CELL 'sum', in the pinned program and in every row, IS THE sha256 OF THE DUMP (.gsa) THAT YtdafnibmoggcnaaDoorProg.lean LOADS. Nothing in Lean hashes anything: it is a label: what it is worth is what the hold of that sum in a sandbox is worth. -/
noncomputable def Tryd.pinned : Pinned := { name := "ytdafnibmoggcnaadoor", sum := "efa069791afd1f2ef9bf21ba81d51c66b3d758bf3b2b31561a5c10a50f84bb67", checked := Tryd.checked }
namespace Rows
def none {H : Type} : Left H := { results := [], args := [] }

/- WHAT THE LISTED PACKAGE-LEVEL VARIABLES READ AS WHEN THE CALL BEGINS. Each datum BY PROGRAM (the guide's laid-datum.mjs) off the statement by which the dump's own 'gosem.cut.vars' lays the variable. In a bare row this is a premise. The card (YtdafnibmoggcnaaDoorCards.lean) ties it to the program's text. -/
def laid_loop_example_g01378_impl_errInvalid {H : Type} : DataW H := .iface "*errors.errorString" (.ptr (.agg [.lit (.string [105, 110, 118, 97, 108, 105, 100])]))
def laid_loop_example_g01378_impl_errRange {H : Type} : DataW H := .iface "*errors.errorString" (.ptr (.agg [.lit (.string [114, 97, 110, 103, 101])]))
def laid_loop_example_g01378_impl_errLimit {H : Type} : DataW H := .iface "*errors.errorString" (.ptr (.agg [.lit (.string [108, 105, 109, 105, 116])]))
def laid_loop_example_g01378_impl_errState {H : Type} : DataW H := .iface "*errors.errorString" (.ptr (.agg [.lit (.string [115, 116, 97, 116, 101])]))
def laid_loop_example_g01378_impl_errSyntax {H : Type} : DataW H := .iface "*errors.errorString" (.ptr (.agg [.lit (.string [115, 121, 110, 116, 97, 120])]))
def laid_loop_example_g01378_impl_errNotFound {H : Type} : DataW H := .iface "*errors.errorString" (.ptr (.agg [.lit (.string [110, 111, 116, 102, 111, 117, 110, 100])]))
def laid_loop_example_g01378_impl_errBudget {H : Type} : DataW H := .iface "*errors.errorString" (.ptr (.agg [.lit (.string [98, 117, 100, 103, 101, 116])]))

/-- 'laws.FnExactFitsWith': WHATEVER THE INPUT: true; the input reads as it did. -/
def fnExactFitsWithSpec : ChangeSpec := { name := "fnExactFitsWith", vars := ["loop.example/g01378/impl.errInvalid", "loop.example/g01378/impl.errRange", "loop.example/g01378/impl.errLimit", "loop.example/g01378/impl.errState", "loop.example/g01378/impl.errSyntax", "loop.example/g01378/impl.errNotFound", "loop.example/g01378/impl.errBudget"], fn := fun _ => fun
  | [d1, d2, d3, d4, g1, g2, g3, g4, g5, g6, g7] => { results := [.lit (.bool true)], args := [d1, d2, d3, d4], vars := [g1, g2, g3, g4, g5, g6, g7] }
  | _ => none }
def fnExactFitsWithRow : OpenClaim := { program := "ytdafnibmoggcnaadoor", sum := "efa069791afd1f2ef9bf21ba81d51c66b3d758bf3b2b31561a5c10a50f84bb67", func := "loop.example/g01378/laws.FnExactFitsWith", spec := "fnExactFitsWith", inPlace := ["internal/reflectlite.TypeOf"], unfollowed := true, recurses := true, named := ["loop.example/g01378/impl.errInvalid", "loop.example/g01378/impl.errRange", "loop.example/g01378/impl.errLimit", "loop.example/g01378/impl.errState", "loop.example/g01378/impl.errSyntax", "loop.example/g01378/impl.errNotFound", "loop.example/g01378/impl.errBudget"], ifaces := true, plainKeys := false, apart := false, laid := [("loop.example/g01378/impl.errInvalid", laid_loop_example_g01378_impl_errInvalid), ("loop.example/g01378/impl.errRange", laid_loop_example_g01378_impl_errRange), ("loop.example/g01378/impl.errLimit", laid_loop_example_g01378_impl_errLimit), ("loop.example/g01378/impl.errState", laid_loop_example_g01378_impl_errState), ("loop.example/g01378/impl.errSyntax", laid_loop_example_g01378_impl_errSyntax), ("loop.example/g01378/impl.errNotFound", laid_loop_example_g01378_impl_errNotFound), ("loop.example/g01378/impl.errBudget", laid_loop_example_g01378_impl_errBudget)] }
def FnExactFitsWithSaid : Prop := fnExactFitsWithRow.holds Tryd.pinned (OpenSpec.ofChange fnExactFitsWithSpec)

/-- ITS FALSE NEIGHBOUR: 'it returns false'. Refute it at one input. -/
def fnExactFitsWithWrong : ChangeSpec := { name := "fnExactFitsWith", vars := ["loop.example/g01378/impl.errInvalid", "loop.example/g01378/impl.errRange", "loop.example/g01378/impl.errLimit", "loop.example/g01378/impl.errState", "loop.example/g01378/impl.errSyntax", "loop.example/g01378/impl.errNotFound", "loop.example/g01378/impl.errBudget"], fn := fun _ => fun
  | [d1, d2, d3, d4, g1, g2, g3, g4, g5, g6, g7] => { results := [.lit (.bool false)], args := [d1, d2, d3, d4], vars := [g1, g2, g3, g4, g5, g6, g7] }
  | _ => none }
def FnExactFitsWithWrongFalsely : Prop := fnExactFitsWithRow.holds Tryd.pinned (OpenSpec.ofChange fnExactFitsWithWrong)

/-- 'laws.FnExactColourSets': WHATEVER THE INPUT: true; the input reads as it did. -/
def fnExactColourSetsSpec : ChangeSpec := { name := "fnExactColourSets", vars := ["loop.example/g01378/impl.errInvalid", "loop.example/g01378/impl.errRange", "loop.example/g01378/impl.errLimit", "loop.example/g01378/impl.errState", "loop.example/g01378/impl.errSyntax", "loop.example/g01378/impl.errNotFound", "loop.example/g01378/impl.errBudget"], fn := fun _ => fun
  | [d, g1, g2, g3, g4, g5, g6, g7] => { results := [.lit (.bool true)], args := [d], vars := [g1, g2, g3, g4, g5, g6, g7] }
  | _ => none }
def fnExactColourSetsRow : OpenClaim := { program := "ytdafnibmoggcnaadoor", sum := "efa069791afd1f2ef9bf21ba81d51c66b3d758bf3b2b31561a5c10a50f84bb67", func := "loop.example/g01378/laws.FnExactColourSets", spec := "fnExactColourSets", inPlace := ["internal/reflectlite.TypeOf"], unfollowed := true, recurses := true, named := ["loop.example/g01378/impl.errInvalid", "loop.example/g01378/impl.errRange", "loop.example/g01378/impl.errLimit", "loop.example/g01378/impl.errState", "loop.example/g01378/impl.errSyntax", "loop.example/g01378/impl.errNotFound", "loop.example/g01378/impl.errBudget"], ifaces := true, plainKeys := false, apart := false, laid := [("loop.example/g01378/impl.errInvalid", laid_loop_example_g01378_impl_errInvalid), ("loop.example/g01378/impl.errRange", laid_loop_example_g01378_impl_errRange), ("loop.example/g01378/impl.errLimit", laid_loop_example_g01378_impl_errLimit), ("loop.example/g01378/impl.errState", laid_loop_example_g01378_impl_errState), ("loop.example/g01378/impl.errSyntax", laid_loop_example_g01378_impl_errSyntax), ("loop.example/g01378/impl.errNotFound", laid_loop_example_g01378_impl_errNotFound), ("loop.example/g01378/impl.errBudget", laid_loop_example_g01378_impl_errBudget)] }
def FnExactColourSetsSaid : Prop := fnExactColourSetsRow.holds Tryd.pinned (OpenSpec.ofChange fnExactColourSetsSpec)

/-- ITS FALSE NEIGHBOUR: 'it returns false'. Refute it at one input. -/
def fnExactColourSetsWrong : ChangeSpec := { name := "fnExactColourSets", vars := ["loop.example/g01378/impl.errInvalid", "loop.example/g01378/impl.errRange", "loop.example/g01378/impl.errLimit", "loop.example/g01378/impl.errState", "loop.example/g01378/impl.errSyntax", "loop.example/g01378/impl.errNotFound", "loop.example/g01378/impl.errBudget"], fn := fun _ => fun
  | [d, g1, g2, g3, g4, g5, g6, g7] => { results := [.lit (.bool false)], args := [d], vars := [g1, g2, g3, g4, g5, g6, g7] }
  | _ => none }
def FnExactColourSetsWrongFalsely : Prop := fnExactColourSetsRow.holds Tryd.pinned (OpenSpec.ofChange fnExactColourSetsWrong)

/-- 'laws.FnExactApartSet': WHATEVER THE INPUT: true; the input reads as it did. -/
def fnExactApartSetSpec : ChangeSpec := { name := "fnExactApartSet", vars := ["loop.example/g01378/impl.errInvalid", "loop.example/g01378/impl.errLimit", "loop.example/g01378/impl.errRange", "loop.example/g01378/impl.errState", "loop.example/g01378/impl.errSyntax", "loop.example/g01378/impl.errNotFound", "loop.example/g01378/impl.errBudget"], fn := fun _ => fun
  | [d1, d2, g1, g2, g3, g4, g5, g6, g7] => { results := [.lit (.bool true)], args := [d1, d2], vars := [g1, g2, g3, g4, g5, g6, g7] }
  | _ => none }
def fnExactApartSetRow : OpenClaim := { program := "ytdafnibmoggcnaadoor", sum := "efa069791afd1f2ef9bf21ba81d51c66b3d758bf3b2b31561a5c10a50f84bb67", func := "loop.example/g01378/laws.FnExactApartSet", spec := "fnExactApartSet", inPlace := ["internal/reflectlite.TypeOf"], unfollowed := true, recurses := true, named := ["loop.example/g01378/impl.errInvalid", "loop.example/g01378/impl.errLimit", "loop.example/g01378/impl.errRange", "loop.example/g01378/impl.errState", "loop.example/g01378/impl.errSyntax", "loop.example/g01378/impl.errNotFound", "loop.example/g01378/impl.errBudget"], ifaces := true, plainKeys := false, apart := false, laid := [("loop.example/g01378/impl.errInvalid", laid_loop_example_g01378_impl_errInvalid), ("loop.example/g01378/impl.errRange", laid_loop_example_g01378_impl_errRange), ("loop.example/g01378/impl.errLimit", laid_loop_example_g01378_impl_errLimit), ("loop.example/g01378/impl.errState", laid_loop_example_g01378_impl_errState), ("loop.example/g01378/impl.errSyntax", laid_loop_example_g01378_impl_errSyntax), ("loop.example/g01378/impl.errNotFound", laid_loop_example_g01378_impl_errNotFound), ("loop.example/g01378/impl.errBudget", laid_loop_example_g01378_impl_errBudget)] }
def FnExactApartSetSaid : Prop := fnExactApartSetRow.holds Tryd.pinned (OpenSpec.ofChange fnExactApartSetSpec)

/-- ITS FALSE NEIGHBOUR: 'it returns false'. Refute it at one input. -/
def fnExactApartSetWrong : ChangeSpec := { name := "fnExactApartSet", vars := ["loop.example/g01378/impl.errInvalid", "loop.example/g01378/impl.errLimit", "loop.example/g01378/impl.errRange", "loop.example/g01378/impl.errState", "loop.example/g01378/impl.errSyntax", "loop.example/g01378/impl.errNotFound", "loop.example/g01378/impl.errBudget"], fn := fun _ => fun
  | [d1, d2, g1, g2, g3, g4, g5, g6, g7] => { results := [.lit (.bool false)], args := [d1, d2], vars := [g1, g2, g3, g4, g5, g6, g7] }
  | _ => none }
def FnExactApartSetWrongFalsely : Prop := fnExactApartSetRow.holds Tryd.pinned (OpenSpec.ofChange fnExactApartSetWrong)

/-- 'laws.FnExactLoadsBound': WHATEVER THE INPUT: true; the input reads as it did. -/
def fnExactLoadsBoundSpec : ChangeSpec := { name := "fnExactLoadsBound", vars := ["loop.example/g01378/impl.errInvalid", "loop.example/g01378/impl.errRange", "loop.example/g01378/impl.errLimit", "loop.example/g01378/impl.errState", "loop.example/g01378/impl.errSyntax", "loop.example/g01378/impl.errNotFound", "loop.example/g01378/impl.errBudget"], fn := fun _ => fun
  | [d1, d2, d3, g1, g2, g3, g4, g5, g6, g7] => { results := [.lit (.bool true)], args := [d1, d2, d3], vars := [g1, g2, g3, g4, g5, g6, g7] }
  | _ => none }
def fnExactLoadsBoundRow : OpenClaim := { program := "ytdafnibmoggcnaadoor", sum := "efa069791afd1f2ef9bf21ba81d51c66b3d758bf3b2b31561a5c10a50f84bb67", func := "loop.example/g01378/laws.FnExactLoadsBound", spec := "fnExactLoadsBound", inPlace := ["internal/reflectlite.TypeOf"], unfollowed := true, recurses := true, named := ["loop.example/g01378/impl.errInvalid", "loop.example/g01378/impl.errRange", "loop.example/g01378/impl.errLimit", "loop.example/g01378/impl.errState", "loop.example/g01378/impl.errSyntax", "loop.example/g01378/impl.errNotFound", "loop.example/g01378/impl.errBudget"], ifaces := true, plainKeys := false, apart := false, laid := [("loop.example/g01378/impl.errInvalid", laid_loop_example_g01378_impl_errInvalid), ("loop.example/g01378/impl.errRange", laid_loop_example_g01378_impl_errRange), ("loop.example/g01378/impl.errLimit", laid_loop_example_g01378_impl_errLimit), ("loop.example/g01378/impl.errState", laid_loop_example_g01378_impl_errState), ("loop.example/g01378/impl.errSyntax", laid_loop_example_g01378_impl_errSyntax), ("loop.example/g01378/impl.errNotFound", laid_loop_example_g01378_impl_errNotFound), ("loop.example/g01378/impl.errBudget", laid_loop_example_g01378_impl_errBudget)] }
def FnExactLoadsBoundSaid : Prop := fnExactLoadsBoundRow.holds Tryd.pinned (OpenSpec.ofChange fnExactLoadsBoundSpec)

/-- ITS FALSE NEIGHBOUR: 'it returns false'. Refute it at one input. -/
def fnExactLoadsBoundWrong : ChangeSpec := { name := "fnExactLoadsBound", vars := ["loop.example/g01378/impl.errInvalid", "loop.example/g01378/impl.errRange", "loop.example/g01378/impl.errLimit", "loop.example/g01378/impl.errState", "loop.example/g01378/impl.errSyntax", "loop.example/g01378/impl.errNotFound", "loop.example/g01378/impl.errBudget"], fn := fun _ => fun
  | [d1, d2, d3, g1, g2, g3, g4, g5, g6, g7] => { results := [.lit (.bool false)], args := [d1, d2, d3], vars := [g1, g2, g3, g4, g5, g6, g7] }
  | _ => none }
def FnExactLoadsBoundWrongFalsely : Prop := fnExactLoadsBoundRow.holds Tryd.pinned (OpenSpec.ofChange fnExactLoadsBoundWrong)

/-- 'laws.FnExactHeaviestLoad': WHATEVER THE INPUT: true; the input reads as it did. -/
def fnExactHeaviestLoadSpec : ChangeSpec := { name := "fnExactHeaviestLoad", vars := ["loop.example/g01378/impl.errInvalid", "loop.example/g01378/impl.errRange", "loop.example/g01378/impl.errLimit", "loop.example/g01378/impl.errState", "loop.example/g01378/impl.errSyntax", "loop.example/g01378/impl.errNotFound", "loop.example/g01378/impl.errBudget"], fn := fun _ => fun
  | [d1, d2, d3, g1, g2, g3, g4, g5, g6, g7] => { results := [.lit (.bool true)], args := [d1, d2, d3], vars := [g1, g2, g3, g4, g5, g6, g7] }
  | _ => none }
def fnExactHeaviestLoadRow : OpenClaim := { program := "ytdafnibmoggcnaadoor", sum := "efa069791afd1f2ef9bf21ba81d51c66b3d758bf3b2b31561a5c10a50f84bb67", func := "loop.example/g01378/laws.FnExactHeaviestLoad", spec := "fnExactHeaviestLoad", inPlace := ["internal/reflectlite.TypeOf"], unfollowed := true, recurses := true, named := ["loop.example/g01378/impl.errInvalid", "loop.example/g01378/impl.errRange", "loop.example/g01378/impl.errLimit", "loop.example/g01378/impl.errState", "loop.example/g01378/impl.errSyntax", "loop.example/g01378/impl.errNotFound", "loop.example/g01378/impl.errBudget"], ifaces := true, plainKeys := false, apart := false, laid := [("loop.example/g01378/impl.errInvalid", laid_loop_example_g01378_impl_errInvalid), ("loop.example/g01378/impl.errRange", laid_loop_example_g01378_impl_errRange), ("loop.example/g01378/impl.errLimit", laid_loop_example_g01378_impl_errLimit), ("loop.example/g01378/impl.errState", laid_loop_example_g01378_impl_errState), ("loop.example/g01378/impl.errSyntax", laid_loop_example_g01378_impl_errSyntax), ("loop.example/g01378/impl.errNotFound", laid_loop_example_g01378_impl_errNotFound), ("loop.example/g01378/impl.errBudget", laid_loop_example_g01378_impl_errBudget)] }
def FnExactHeaviestLoadSaid : Prop := fnExactHeaviestLoadRow.holds Tryd.pinned (OpenSpec.ofChange fnExactHeaviestLoadSpec)

/-- ITS FALSE NEIGHBOUR: 'it returns false'. Refute it at one input. -/
def fnExactHeaviestLoadWrong : ChangeSpec := { name := "fnExactHeaviestLoad", vars := ["loop.example/g01378/impl.errInvalid", "loop.example/g01378/impl.errRange", "loop.example/g01378/impl.errLimit", "loop.example/g01378/impl.errState", "loop.example/g01378/impl.errSyntax", "loop.example/g01378/impl.errNotFound", "loop.example/g01378/impl.errBudget"], fn := fun _ => fun
  | [d1, d2, d3, g1, g2, g3, g4, g5, g6, g7] => { results := [.lit (.bool false)], args := [d1, d2, d3], vars := [g1, g2, g3, g4, g5, g6, g7] }
  | _ => none }
def FnExactHeaviestLoadWrongFalsely : Prop := fnExactHeaviestLoadRow.holds Tryd.pinned (OpenSpec.ofChange fnExactHeaviestLoadWrong)

/- THE SECOND FORM. 'bulk': how many values and letters a reading holds, each counted each time it is reached (what is shared counts as often as it is met; a slice's spare places count too). A statement '..UptoSaid' is the law's where the arguments, and the package variables that the reading takes, are together of bulk at most 1048576: NARROWER than '..Said'. Prove '..Said' where nothing that the law and all that it calls make is longer than what came in: it says more and counts as full. Else prove '..UptoSaid'. A law counts once. -/
mutual
def uptoBulk {H : Type} : DataW H → Nat
  | .lit (.string bytes) => bytes.length + 1
  | .lit _ => 1
  | .nil => 1
  | .ptr d => uptoBulk d + 1
  | .slice elems spare => uptoBulkAll elems + uptoBulkAll spare + 1
  | .agg parts => uptoBulkAll parts + 1
  | .iface _ d => uptoBulk d + 1
  | .map entries => uptoBulkEntries entries + 1
  | .held _ => 1
def uptoBulkAll {H : Type} : List (DataW H) → Nat
  | [] => 0
  | d :: r => uptoBulk d + uptoBulkAll r
def uptoBulkEntries {H : Type} : List (Lit × DataW H) → Nat
  | [] => 0
  | x :: r => uptoBulkEntry x + uptoBulkEntries r
def uptoBulkEntry {H : Type} : Lit × DataW H → Nat
  | (.string bytes, d) => bytes.length + uptoBulk d + 1
  | (_, d) => uptoBulk d + 1
 end
def uptoSmall : (H : Type) → List (DataW H) → Bool := fun _ ds => decide (uptoBulkAll ds ≤ 1048576)
def OpenSpec.upto (s : _root_.Go.ChangeSpec) : _root_.Go.OpenSpec := { _root_.Go.OpenSpec.ofChange s with cond := some uptoSmall }

/-- 'laws.FnExactFitsWith', WHERE WHAT IT READS IS OF BULK AT MOST 1048576: true; the input reads as it did. -/
def fnExactFitsWithUptoRow : OpenClaim := { program := "ytdafnibmoggcnaadoor", sum := "efa069791afd1f2ef9bf21ba81d51c66b3d758bf3b2b31561a5c10a50f84bb67", func := "loop.example/g01378/laws.FnExactFitsWith", spec := "fnExactFitsWith", inPlace := ["internal/reflectlite.TypeOf"], unfollowed := true, recurses := true, named := ["loop.example/g01378/impl.errInvalid", "loop.example/g01378/impl.errRange", "loop.example/g01378/impl.errLimit", "loop.example/g01378/impl.errState", "loop.example/g01378/impl.errSyntax", "loop.example/g01378/impl.errNotFound", "loop.example/g01378/impl.errBudget"], ifaces := true, plainKeys := false, apart := false, laid := [("loop.example/g01378/impl.errInvalid", laid_loop_example_g01378_impl_errInvalid), ("loop.example/g01378/impl.errRange", laid_loop_example_g01378_impl_errRange), ("loop.example/g01378/impl.errLimit", laid_loop_example_g01378_impl_errLimit), ("loop.example/g01378/impl.errState", laid_loop_example_g01378_impl_errState), ("loop.example/g01378/impl.errSyntax", laid_loop_example_g01378_impl_errSyntax), ("loop.example/g01378/impl.errNotFound", laid_loop_example_g01378_impl_errNotFound), ("loop.example/g01378/impl.errBudget", laid_loop_example_g01378_impl_errBudget)], narrowed := true }
def FnExactFitsWithUptoSaid : Prop := fnExactFitsWithUptoRow.holds Tryd.pinned (OpenSpec.upto fnExactFitsWithSpec)

/-- 'laws.FnExactColourSets', WHERE WHAT IT READS IS OF BULK AT MOST 1048576: true; the input reads as it did. -/
def fnExactColourSetsUptoRow : OpenClaim := { program := "ytdafnibmoggcnaadoor", sum := "efa069791afd1f2ef9bf21ba81d51c66b3d758bf3b2b31561a5c10a50f84bb67", func := "loop.example/g01378/laws.FnExactColourSets", spec := "fnExactColourSets", inPlace := ["internal/reflectlite.TypeOf"], unfollowed := true, recurses := true, named := ["loop.example/g01378/impl.errInvalid", "loop.example/g01378/impl.errRange", "loop.example/g01378/impl.errLimit", "loop.example/g01378/impl.errState", "loop.example/g01378/impl.errSyntax", "loop.example/g01378/impl.errNotFound", "loop.example/g01378/impl.errBudget"], ifaces := true, plainKeys := false, apart := false, laid := [("loop.example/g01378/impl.errInvalid", laid_loop_example_g01378_impl_errInvalid), ("loop.example/g01378/impl.errRange", laid_loop_example_g01378_impl_errRange), ("loop.example/g01378/impl.errLimit", laid_loop_example_g01378_impl_errLimit), ("loop.example/g01378/impl.errState", laid_loop_example_g01378_impl_errState), ("loop.example/g01378/impl.errSyntax", laid_loop_example_g01378_impl_errSyntax), ("loop.example/g01378/impl.errNotFound", laid_loop_example_g01378_impl_errNotFound), ("loop.example/g01378/impl.errBudget", laid_loop_example_g01378_impl_errBudget)], narrowed := true }
def FnExactColourSetsUptoSaid : Prop := fnExactColourSetsUptoRow.holds Tryd.pinned (OpenSpec.upto fnExactColourSetsSpec)

/-- 'laws.FnExactApartSet', WHERE WHAT IT READS IS OF BULK AT MOST 1048576: true; the input reads as it did. -/
def fnExactApartSetUptoRow : OpenClaim := { program := "ytdafnibmoggcnaadoor", sum := "efa069791afd1f2ef9bf21ba81d51c66b3d758bf3b2b31561a5c10a50f84bb67", func := "loop.example/g01378/laws.FnExactApartSet", spec := "fnExactApartSet", inPlace := ["internal/reflectlite.TypeOf"], unfollowed := true, recurses := true, named := ["loop.example/g01378/impl.errInvalid", "loop.example/g01378/impl.errLimit", "loop.example/g01378/impl.errRange", "loop.example/g01378/impl.errState", "loop.example/g01378/impl.errSyntax", "loop.example/g01378/impl.errNotFound", "loop.example/g01378/impl.errBudget"], ifaces := true, plainKeys := false, apart := false, laid := [("loop.example/g01378/impl.errInvalid", laid_loop_example_g01378_impl_errInvalid), ("loop.example/g01378/impl.errRange", laid_loop_example_g01378_impl_errRange), ("loop.example/g01378/impl.errLimit", laid_loop_example_g01378_impl_errLimit), ("loop.example/g01378/impl.errState", laid_loop_example_g01378_impl_errState), ("loop.example/g01378/impl.errSyntax", laid_loop_example_g01378_impl_errSyntax), ("loop.example/g01378/impl.errNotFound", laid_loop_example_g01378_impl_errNotFound), ("loop.example/g01378/impl.errBudget", laid_loop_example_g01378_impl_errBudget)], narrowed := true }
def FnExactApartSetUptoSaid : Prop := fnExactApartSetUptoRow.holds Tryd.pinned (OpenSpec.upto fnExactApartSetSpec)

/-- 'laws.FnExactLoadsBound', WHERE WHAT IT READS IS OF BULK AT MOST 1048576: true; the input reads as it did. -/
def fnExactLoadsBoundUptoRow : OpenClaim := { program := "ytdafnibmoggcnaadoor", sum := "efa069791afd1f2ef9bf21ba81d51c66b3d758bf3b2b31561a5c10a50f84bb67", func := "loop.example/g01378/laws.FnExactLoadsBound", spec := "fnExactLoadsBound", inPlace := ["internal/reflectlite.TypeOf"], unfollowed := true, recurses := true, named := ["loop.example/g01378/impl.errInvalid", "loop.example/g01378/impl.errRange", "loop.example/g01378/impl.errLimit", "loop.example/g01378/impl.errState", "loop.example/g01378/impl.errSyntax", "loop.example/g01378/impl.errNotFound", "loop.example/g01378/impl.errBudget"], ifaces := true, plainKeys := false, apart := false, laid := [("loop.example/g01378/impl.errInvalid", laid_loop_example_g01378_impl_errInvalid), ("loop.example/g01378/impl.errRange", laid_loop_example_g01378_impl_errRange), ("loop.example/g01378/impl.errLimit", laid_loop_example_g01378_impl_errLimit), ("loop.example/g01378/impl.errState", laid_loop_example_g01378_impl_errState), ("loop.example/g01378/impl.errSyntax", laid_loop_example_g01378_impl_errSyntax), ("loop.example/g01378/impl.errNotFound", laid_loop_example_g01378_impl_errNotFound), ("loop.example/g01378/impl.errBudget", laid_loop_example_g01378_impl_errBudget)], narrowed := true }
def FnExactLoadsBoundUptoSaid : Prop := fnExactLoadsBoundUptoRow.holds Tryd.pinned (OpenSpec.upto fnExactLoadsBoundSpec)

/-- 'laws.FnExactHeaviestLoad', WHERE WHAT IT READS IS OF BULK AT MOST 1048576: true; the input reads as it did. -/
def fnExactHeaviestLoadUptoRow : OpenClaim := { program := "ytdafnibmoggcnaadoor", sum := "efa069791afd1f2ef9bf21ba81d51c66b3d758bf3b2b31561a5c10a50f84bb67", func := "loop.example/g01378/laws.FnExactHeaviestLoad", spec := "fnExactHeaviestLoad", inPlace := ["internal/reflectlite.TypeOf"], unfollowed := true, recurses := true, named := ["loop.example/g01378/impl.errInvalid", "loop.example/g01378/impl.errRange", "loop.example/g01378/impl.errLimit", "loop.example/g01378/impl.errState", "loop.example/g01378/impl.errSyntax", "loop.example/g01378/impl.errNotFound", "loop.example/g01378/impl.errBudget"], ifaces := true, plainKeys := false, apart := false, laid := [("loop.example/g01378/impl.errInvalid", laid_loop_example_g01378_impl_errInvalid), ("loop.example/g01378/impl.errRange", laid_loop_example_g01378_impl_errRange), ("loop.example/g01378/impl.errLimit", laid_loop_example_g01378_impl_errLimit), ("loop.example/g01378/impl.errState", laid_loop_example_g01378_impl_errState), ("loop.example/g01378/impl.errSyntax", laid_loop_example_g01378_impl_errSyntax), ("loop.example/g01378/impl.errNotFound", laid_loop_example_g01378_impl_errNotFound), ("loop.example/g01378/impl.errBudget", laid_loop_example_g01378_impl_errBudget)], narrowed := true }
def FnExactHeaviestLoadUptoSaid : Prop := fnExactHeaviestLoadUptoRow.holds Tryd.pinned (OpenSpec.upto fnExactHeaviestLoadSpec)

end Rows
end Go.Proofs.YtdafnibmoggcnaaDoor
