/-
  NARROWER THAN 'FOR EVERY INPUT', by the rows' own cells (each row's printed sentence says how): FnExactShortestOrder: ifaces, laid · FnExactFewestLate: ifaces, laid · FnExactLeastLateness: ifaces, laid · FnExactLeastWait: ifaces, laid.
  DERIVED. THE GIVEN ROWS OF THIS SEAT. 4 by the template 'for every input the law returns true; each argument reads behind the call as it read before'; 0 by the template 'total and deterministic' (their statements: YtjhkjbdpmianfaaDoorTotals.lean).
  GIVEN WITH THE SEED: the statements are not yours to turn. If you find one false, say at which input.
  Laid BY PROGRAM, IN A SANDBOX (cutbox-rows.mjs): the forced cells as the released guide's own fill.sh prints them over the translation f3474931140ab277… (all of the seat's roots in one cut). By AI agents, Wed Nov 11 2026. No macro, syntax, notation, axiom, sorry.
-/
import Derived.Test.YtjhkjbdpmianfaaDoorChecked
import GoSem.Claim
import GoSem.ClaimJoined
import GoSem.ClaimMapViews
import Derived.JoinedTies
import Derived.KernelRfl
namespace Go.Proofs.YtjhkjbdpmianfaaDoor
/- THE CELL 'sum', in the pinned program and in every row, IS THE sha256 OF THE DUMP (.gsa) THAT YtjhkjbdpmianfaaDoorProg.lean LOADS. Nothing in Lean hashes anything: it is a label: what it is worth is what the hold of that sum in a sandbox is worth. -/
noncomputable def Tryd.pinned : Pinned := { name := "ytjhkjbdpmianfaadoor", sum := "f3474931140ab277dc2d25d7ea06f890e8bc7bcefc4694ebb2aaba243c434d59", checked := Tryd.checked }
namespace Rows
def none {H : Type} : Left H := { results := [], args := [] }

/- WHAT THE LISTED PACKAGE-LEVEL VARIABLES READ AS WHEN THE CALL BEGINS. Each datum BY PROGRAM (the guide's laid-datum.mjs) off the statement by which the dump's own 'gosem.cut.vars' lays the variable. In a bare row this is a premise. The card (YtjhkjbdpmianfaaDoorCards.lean) ties it to the program's text. -/
def laid_loop_example_g01378_impl_errInvalid {H : Type} : DataW H := .iface "*errors.errorString" (.ptr (.agg [.lit (.string [105, 110, 118, 97, 108, 105, 100])]))
def laid_loop_example_g01378_impl_errRange {H : Type} : DataW H := .iface "*errors.errorString" (.ptr (.agg [.lit (.string [114, 97, 110, 103, 101])]))
def laid_loop_example_g01378_impl_errLimit {H : Type} : DataW H := .iface "*errors.errorString" (.ptr (.agg [.lit (.string [108, 105, 109, 105, 116])]))
def laid_loop_example_g01378_impl_errState {H : Type} : DataW H := .iface "*errors.errorString" (.ptr (.agg [.lit (.string [115, 116, 97, 116, 101])]))
def laid_loop_example_g01378_impl_errSyntax {H : Type} : DataW H := .iface "*errors.errorString" (.ptr (.agg [.lit (.string [115, 121, 110, 116, 97, 120])]))
def laid_loop_example_g01378_impl_errNotFound {H : Type} : DataW H := .iface "*errors.errorString" (.ptr (.agg [.lit (.string [110, 111, 116, 102, 111, 117, 110, 100])]))
def laid_loop_example_g01378_impl_errBudget {H : Type} : DataW H := .iface "*errors.errorString" (.ptr (.agg [.lit (.string [98, 117, 100, 103, 101, 116])]))

/-- 'laws.FnExactShortestOrder': WHATEVER THE INPUT: true; the input reads as it did. -/
def fnExactShortestOrderSpec : ChangeSpec := { name := "fnExactShortestOrder", vars := ["loop.example/g01378/impl.errInvalid", "loop.example/g01378/impl.errLimit", "loop.example/g01378/impl.errRange", "loop.example/g01378/impl.errState", "loop.example/g01378/impl.errSyntax", "loop.example/g01378/impl.errNotFound", "loop.example/g01378/impl.errBudget"], fn := fun _ => fun
  | [d1, d2, g1, g2, g3, g4, g5, g6, g7] => { results := [.lit (.bool true)], args := [d1, d2], vars := [g1, g2, g3, g4, g5, g6, g7] }
  | _ => none }
def fnExactShortestOrderRow : OpenClaim := { program := "ytjhkjbdpmianfaadoor", sum := "f3474931140ab277dc2d25d7ea06f890e8bc7bcefc4694ebb2aaba243c434d59", func := "loop.example/g01378/laws.FnExactShortestOrder", spec := "fnExactShortestOrder", inPlace := ["internal/reflectlite.TypeOf"], unfollowed := true, recurses := true, named := ["loop.example/g01378/impl.errInvalid", "loop.example/g01378/impl.errLimit", "loop.example/g01378/impl.errRange", "loop.example/g01378/impl.errState", "loop.example/g01378/impl.errSyntax", "loop.example/g01378/impl.errNotFound", "loop.example/g01378/impl.errBudget"], ifaces := true, plainKeys := false, apart := false, laid := [("loop.example/g01378/impl.errInvalid", laid_loop_example_g01378_impl_errInvalid), ("loop.example/g01378/impl.errRange", laid_loop_example_g01378_impl_errRange), ("loop.example/g01378/impl.errLimit", laid_loop_example_g01378_impl_errLimit), ("loop.example/g01378/impl.errState", laid_loop_example_g01378_impl_errState), ("loop.example/g01378/impl.errSyntax", laid_loop_example_g01378_impl_errSyntax), ("loop.example/g01378/impl.errNotFound", laid_loop_example_g01378_impl_errNotFound), ("loop.example/g01378/impl.errBudget", laid_loop_example_g01378_impl_errBudget)] }
def FnExactShortestOrderSaid : Prop := fnExactShortestOrderRow.holds Tryd.pinned (OpenSpec.ofChange fnExactShortestOrderSpec)

/-- ITS FALSE NEIGHBOUR: 'it returns false'. Refute it at one input. -/
def fnExactShortestOrderWrong : ChangeSpec := { name := "fnExactShortestOrder", vars := ["loop.example/g01378/impl.errInvalid", "loop.example/g01378/impl.errLimit", "loop.example/g01378/impl.errRange", "loop.example/g01378/impl.errState", "loop.example/g01378/impl.errSyntax", "loop.example/g01378/impl.errNotFound", "loop.example/g01378/impl.errBudget"], fn := fun _ => fun
  | [d1, d2, g1, g2, g3, g4, g5, g6, g7] => { results := [.lit (.bool false)], args := [d1, d2], vars := [g1, g2, g3, g4, g5, g6, g7] }
  | _ => none }
def FnExactShortestOrderWrongFalsely : Prop := fnExactShortestOrderRow.holds Tryd.pinned (OpenSpec.ofChange fnExactShortestOrderWrong)

/-- 'laws.FnExactFewestLate': WHATEVER THE INPUT: true; the input reads as it did. -/
def fnExactFewestLateSpec : ChangeSpec := { name := "fnExactFewestLate", vars := ["loop.example/g01378/impl.errInvalid", "loop.example/g01378/impl.errLimit", "loop.example/g01378/impl.errRange", "loop.example/g01378/impl.errState", "loop.example/g01378/impl.errSyntax", "loop.example/g01378/impl.errNotFound", "loop.example/g01378/impl.errBudget"], fn := fun _ => fun
  | [d1, d2, g1, g2, g3, g4, g5, g6, g7] => { results := [.lit (.bool true)], args := [d1, d2], vars := [g1, g2, g3, g4, g5, g6, g7] }
  | _ => none }
def fnExactFewestLateRow : OpenClaim := { program := "ytjhkjbdpmianfaadoor", sum := "f3474931140ab277dc2d25d7ea06f890e8bc7bcefc4694ebb2aaba243c434d59", func := "loop.example/g01378/laws.FnExactFewestLate", spec := "fnExactFewestLate", inPlace := ["internal/reflectlite.TypeOf"], unfollowed := true, recurses := true, named := ["loop.example/g01378/impl.errInvalid", "loop.example/g01378/impl.errLimit", "loop.example/g01378/impl.errRange", "loop.example/g01378/impl.errState", "loop.example/g01378/impl.errSyntax", "loop.example/g01378/impl.errNotFound", "loop.example/g01378/impl.errBudget"], ifaces := true, plainKeys := false, apart := false, laid := [("loop.example/g01378/impl.errInvalid", laid_loop_example_g01378_impl_errInvalid), ("loop.example/g01378/impl.errRange", laid_loop_example_g01378_impl_errRange), ("loop.example/g01378/impl.errLimit", laid_loop_example_g01378_impl_errLimit), ("loop.example/g01378/impl.errState", laid_loop_example_g01378_impl_errState), ("loop.example/g01378/impl.errSyntax", laid_loop_example_g01378_impl_errSyntax), ("loop.example/g01378/impl.errNotFound", laid_loop_example_g01378_impl_errNotFound), ("loop.example/g01378/impl.errBudget", laid_loop_example_g01378_impl_errBudget)] }
def FnExactFewestLateSaid : Prop := fnExactFewestLateRow.holds Tryd.pinned (OpenSpec.ofChange fnExactFewestLateSpec)

/-- ITS FALSE NEIGHBOUR: 'it returns false'. Refute it at one input. -/
def fnExactFewestLateWrong : ChangeSpec := { name := "fnExactFewestLate", vars := ["loop.example/g01378/impl.errInvalid", "loop.example/g01378/impl.errLimit", "loop.example/g01378/impl.errRange", "loop.example/g01378/impl.errState", "loop.example/g01378/impl.errSyntax", "loop.example/g01378/impl.errNotFound", "loop.example/g01378/impl.errBudget"], fn := fun _ => fun
  | [d1, d2, g1, g2, g3, g4, g5, g6, g7] => { results := [.lit (.bool false)], args := [d1, d2], vars := [g1, g2, g3, g4, g5, g6, g7] }
  | _ => none }
def FnExactFewestLateWrongFalsely : Prop := fnExactFewestLateRow.holds Tryd.pinned (OpenSpec.ofChange fnExactFewestLateWrong)

/-- 'laws.FnExactLeastLateness': WHATEVER THE INPUT: true; the input reads as it did. -/
def fnExactLeastLatenessSpec : ChangeSpec := { name := "fnExactLeastLateness", vars := ["loop.example/g01378/impl.errInvalid", "loop.example/g01378/impl.errLimit", "loop.example/g01378/impl.errRange", "loop.example/g01378/impl.errState", "loop.example/g01378/impl.errSyntax", "loop.example/g01378/impl.errNotFound", "loop.example/g01378/impl.errBudget"], fn := fun _ => fun
  | [d1, d2, g1, g2, g3, g4, g5, g6, g7] => { results := [.lit (.bool true)], args := [d1, d2], vars := [g1, g2, g3, g4, g5, g6, g7] }
  | _ => none }
def fnExactLeastLatenessRow : OpenClaim := { program := "ytjhkjbdpmianfaadoor", sum := "f3474931140ab277dc2d25d7ea06f890e8bc7bcefc4694ebb2aaba243c434d59", func := "loop.example/g01378/laws.FnExactLeastLateness", spec := "fnExactLeastLateness", inPlace := ["internal/reflectlite.TypeOf"], unfollowed := true, recurses := true, named := ["loop.example/g01378/impl.errInvalid", "loop.example/g01378/impl.errLimit", "loop.example/g01378/impl.errRange", "loop.example/g01378/impl.errState", "loop.example/g01378/impl.errSyntax", "loop.example/g01378/impl.errNotFound", "loop.example/g01378/impl.errBudget"], ifaces := true, plainKeys := false, apart := false, laid := [("loop.example/g01378/impl.errInvalid", laid_loop_example_g01378_impl_errInvalid), ("loop.example/g01378/impl.errRange", laid_loop_example_g01378_impl_errRange), ("loop.example/g01378/impl.errLimit", laid_loop_example_g01378_impl_errLimit), ("loop.example/g01378/impl.errState", laid_loop_example_g01378_impl_errState), ("loop.example/g01378/impl.errSyntax", laid_loop_example_g01378_impl_errSyntax), ("loop.example/g01378/impl.errNotFound", laid_loop_example_g01378_impl_errNotFound), ("loop.example/g01378/impl.errBudget", laid_loop_example_g01378_impl_errBudget)] }
def FnExactLeastLatenessSaid : Prop := fnExactLeastLatenessRow.holds Tryd.pinned (OpenSpec.ofChange fnExactLeastLatenessSpec)

/-- ITS FALSE NEIGHBOUR: 'it returns false'. Refute it at one input. -/
def fnExactLeastLatenessWrong : ChangeSpec := { name := "fnExactLeastLateness", vars := ["loop.example/g01378/impl.errInvalid", "loop.example/g01378/impl.errLimit", "loop.example/g01378/impl.errRange", "loop.example/g01378/impl.errState", "loop.example/g01378/impl.errSyntax", "loop.example/g01378/impl.errNotFound", "loop.example/g01378/impl.errBudget"], fn := fun _ => fun
  | [d1, d2, g1, g2, g3, g4, g5, g6, g7] => { results := [.lit (.bool false)], args := [d1, d2], vars := [g1, g2, g3, g4, g5, g6, g7] }
  | _ => none }
def FnExactLeastLatenessWrongFalsely : Prop := fnExactLeastLatenessRow.holds Tryd.pinned (OpenSpec.ofChange fnExactLeastLatenessWrong)

/-- 'laws.FnExactLeastWait': WHATEVER THE INPUT: true; the input reads as it did. -/
def fnExactLeastWaitSpec : ChangeSpec := { name := "fnExactLeastWait", vars := ["loop.example/g01378/impl.errInvalid", "loop.example/g01378/impl.errLimit", "loop.example/g01378/impl.errRange", "loop.example/g01378/impl.errState", "loop.example/g01378/impl.errSyntax", "loop.example/g01378/impl.errNotFound", "loop.example/g01378/impl.errBudget"], fn := fun _ => fun
  | [d1, d2, g1, g2, g3, g4, g5, g6, g7] => { results := [.lit (.bool true)], args := [d1, d2], vars := [g1, g2, g3, g4, g5, g6, g7] }
  | _ => none }
def fnExactLeastWaitRow : OpenClaim := { program := "ytjhkjbdpmianfaadoor", sum := "f3474931140ab277dc2d25d7ea06f890e8bc7bcefc4694ebb2aaba243c434d59", func := "loop.example/g01378/laws.FnExactLeastWait", spec := "fnExactLeastWait", inPlace := ["internal/reflectlite.TypeOf"], unfollowed := true, recurses := true, named := ["loop.example/g01378/impl.errInvalid", "loop.example/g01378/impl.errLimit", "loop.example/g01378/impl.errRange", "loop.example/g01378/impl.errState", "loop.example/g01378/impl.errSyntax", "loop.example/g01378/impl.errNotFound", "loop.example/g01378/impl.errBudget"], ifaces := true, plainKeys := false, apart := false, laid := [("loop.example/g01378/impl.errInvalid", laid_loop_example_g01378_impl_errInvalid), ("loop.example/g01378/impl.errRange", laid_loop_example_g01378_impl_errRange), ("loop.example/g01378/impl.errLimit", laid_loop_example_g01378_impl_errLimit), ("loop.example/g01378/impl.errState", laid_loop_example_g01378_impl_errState), ("loop.example/g01378/impl.errSyntax", laid_loop_example_g01378_impl_errSyntax), ("loop.example/g01378/impl.errNotFound", laid_loop_example_g01378_impl_errNotFound), ("loop.example/g01378/impl.errBudget", laid_loop_example_g01378_impl_errBudget)] }
def FnExactLeastWaitSaid : Prop := fnExactLeastWaitRow.holds Tryd.pinned (OpenSpec.ofChange fnExactLeastWaitSpec)

/-- ITS FALSE NEIGHBOUR: 'it returns false'. Refute it at one input. -/
def fnExactLeastWaitWrong : ChangeSpec := { name := "fnExactLeastWait", vars := ["loop.example/g01378/impl.errInvalid", "loop.example/g01378/impl.errLimit", "loop.example/g01378/impl.errRange", "loop.example/g01378/impl.errState", "loop.example/g01378/impl.errSyntax", "loop.example/g01378/impl.errNotFound", "loop.example/g01378/impl.errBudget"], fn := fun _ => fun
  | [d1, d2, g1, g2, g3, g4, g5, g6, g7] => { results := [.lit (.bool false)], args := [d1, d2], vars := [g1, g2, g3, g4, g5, g6, g7] }
  | _ => none }
def FnExactLeastWaitWrongFalsely : Prop := fnExactLeastWaitRow.holds Tryd.pinned (OpenSpec.ofChange fnExactLeastWaitWrong)

/- THE SECOND FORM. 'bulk': how many values and letters a reading holds, each counted each time it is reached (what is shared counts as often as it is met; a slice's spare places count too). A statement '..UptoSaid' is the law's where the arguments, and the package variables that the reading takes, are together of bulk at most 1048576: NARROWER than '..Said'. Prove '..Said' where nothing that the law and all that it calls make is longer than what came in: it says more and counts as full. Else prove '..UptoSaid'. A law counts once. -/
mutual
def uptoBulk {H : Type} : DataW H → Nat
  | .lit (.string bytes) => bytes.length + 1
  | .lit _ => 1
  | .nil => 1
  | .ptr d => uptoBulk d + 1
  | .slice elems spare => uptoBulkAll elems + uptoBulkAll spare + 1
  | .agg parts => uptoBulkAll parts + 1
  | .iface _ d => uptoBulk d + 1
  | .map entries => uptoBulkEntries entries + 1
  | .held _ => 1
def uptoBulkAll {H : Type} : List (DataW H) → Nat
  | [] => 0
  | d :: r => uptoBulk d + uptoBulkAll r
def uptoBulkEntries {H : Type} : List (Lit × DataW H) → Nat
  | [] => 0
  | x :: r => uptoBulkEntry x + uptoBulkEntries r
def uptoBulkEntry {H : Type} : Lit × DataW H → Nat
  | (.string bytes, d) => bytes.length + uptoBulk d + 1
  | (_, d) => uptoBulk d + 1
 end
def uptoSmall : (H : Type) → List (DataW H) → Bool := fun _ ds => decide (uptoBulkAll ds ≤ 1048576)
def OpenSpec.upto (s : _root_.Go.ChangeSpec) : _root_.Go.OpenSpec := { _root_.Go.OpenSpec.ofChange s with cond := some uptoSmall }

/-- 'laws.FnExactShortestOrder', WHERE WHAT IT READS IS OF BULK AT MOST 1048576: true; the input reads as it did. -/
def fnExactShortestOrderUptoRow : OpenClaim := { program := "ytjhkjbdpmianfaadoor", sum := "f3474931140ab277dc2d25d7ea06f890e8bc7bcefc4694ebb2aaba243c434d59", func := "loop.example/g01378/laws.FnExactShortestOrder", spec := "fnExactShortestOrder", inPlace := ["internal/reflectlite.TypeOf"], unfollowed := true, recurses := true, named := ["loop.example/g01378/impl.errInvalid", "loop.example/g01378/impl.errLimit", "loop.example/g01378/impl.errRange", "loop.example/g01378/impl.errState", "loop.example/g01378/impl.errSyntax", "loop.example/g01378/impl.errNotFound", "loop.example/g01378/impl.errBudget"], ifaces := true, plainKeys := false, apart := false, laid := [("loop.example/g01378/impl.errInvalid", laid_loop_example_g01378_impl_errInvalid), ("loop.example/g01378/impl.errRange", laid_loop_example_g01378_impl_errRange), ("loop.example/g01378/impl.errLimit", laid_loop_example_g01378_impl_errLimit), ("loop.example/g01378/impl.errState", laid_loop_example_g01378_impl_errState), ("loop.example/g01378/impl.errSyntax", laid_loop_example_g01378_impl_errSyntax), ("loop.example/g01378/impl.errNotFound", laid_loop_example_g01378_impl_errNotFound), ("loop.example/g01378/impl.errBudget", laid_loop_example_g01378_impl_errBudget)], narrowed := true }
def FnExactShortestOrderUptoSaid : Prop := fnExactShortestOrderUptoRow.holds Tryd.pinned (OpenSpec.upto fnExactShortestOrderSpec)

/-- 'laws.FnExactFewestLate', WHERE WHAT IT READS IS OF BULK AT MOST 1048576: true; the input reads as it did. -/
def fnExactFewestLateUptoRow : OpenClaim := { program := "ytjhkjbdpmianfaadoor", sum := "f3474931140ab277dc2d25d7ea06f890e8bc7bcefc4694ebb2aaba243c434d59", func := "loop.example/g01378/laws.FnExactFewestLate", spec := "fnExactFewestLate", inPlace := ["internal/reflectlite.TypeOf"], unfollowed := true, recurses := true, named := ["loop.example/g01378/impl.errInvalid", "loop.example/g01378/impl.errLimit", "loop.example/g01378/impl.errRange", "loop.example/g01378/impl.errState", "loop.example/g01378/impl.errSyntax", "loop.example/g01378/impl.errNotFound", "loop.example/g01378/impl.errBudget"], ifaces := true, plainKeys := false, apart := false, laid := [("loop.example/g01378/impl.errInvalid", laid_loop_example_g01378_impl_errInvalid), ("loop.example/g01378/impl.errRange", laid_loop_example_g01378_impl_errRange), ("loop.example/g01378/impl.errLimit", laid_loop_example_g01378_impl_errLimit), ("loop.example/g01378/impl.errState", laid_loop_example_g01378_impl_errState), ("loop.example/g01378/impl.errSyntax", laid_loop_example_g01378_impl_errSyntax), ("loop.example/g01378/impl.errNotFound", laid_loop_example_g01378_impl_errNotFound), ("loop.example/g01378/impl.errBudget", laid_loop_example_g01378_impl_errBudget)], narrowed := true }
def FnExactFewestLateUptoSaid : Prop := fnExactFewestLateUptoRow.holds Tryd.pinned (OpenSpec.upto fnExactFewestLateSpec)

/-- 'laws.FnExactLeastLateness', WHERE WHAT IT READS IS OF BULK AT MOST 1048576: true; the input reads as it did. -/
def fnExactLeastLatenessUptoRow : OpenClaim := { program := "ytjhkjbdpmianfaadoor", sum := "f3474931140ab277dc2d25d7ea06f890e8bc7bcefc4694ebb2aaba243c434d59", func := "loop.example/g01378/laws.FnExactLeastLateness", spec := "fnExactLeastLateness", inPlace := ["internal/reflectlite.TypeOf"], unfollowed := true, recurses := true, named := ["loop.example/g01378/impl.errInvalid", "loop.example/g01378/impl.errLimit", "loop.example/g01378/impl.errRange", "loop.example/g01378/impl.errState", "loop.example/g01378/impl.errSyntax", "loop.example/g01378/impl.errNotFound", "loop.example/g01378/impl.errBudget"], ifaces := true, plainKeys := false, apart := false, laid := [("loop.example/g01378/impl.errInvalid", laid_loop_example_g01378_impl_errInvalid), ("loop.example/g01378/impl.errRange", laid_loop_example_g01378_impl_errRange), ("loop.example/g01378/impl.errLimit", laid_loop_example_g01378_impl_errLimit), ("loop.example/g01378/impl.errState", laid_loop_example_g01378_impl_errState), ("loop.example/g01378/impl.errSyntax", laid_loop_example_g01378_impl_errSyntax), ("loop.example/g01378/impl.errNotFound", laid_loop_example_g01378_impl_errNotFound), ("loop.example/g01378/impl.errBudget", laid_loop_example_g01378_impl_errBudget)], narrowed := true }
def FnExactLeastLatenessUptoSaid : Prop := fnExactLeastLatenessUptoRow.holds Tryd.pinned (OpenSpec.upto fnExactLeastLatenessSpec)

/-- 'laws.FnExactLeastWait', WHERE WHAT IT READS IS OF BULK AT MOST 1048576: true; the input reads as it did. -/
def fnExactLeastWaitUptoRow : OpenClaim := { program := "ytjhkjbdpmianfaadoor", sum := "f3474931140ab277dc2d25d7ea06f890e8bc7bcefc4694ebb2aaba243c434d59", func := "loop.example/g01378/laws.FnExactLeastWait", spec := "fnExactLeastWait", inPlace := ["internal/reflectlite.TypeOf"], unfollowed := true, recurses := true, named := ["loop.example/g01378/impl.errInvalid", "loop.example/g01378/impl.errLimit", "loop.example/g01378/impl.errRange", "loop.example/g01378/impl.errState", "loop.example/g01378/impl.errSyntax", "loop.example/g01378/impl.errNotFound", "loop.example/g01378/impl.errBudget"], ifaces := true, plainKeys := false, apart := false, laid := [("loop.example/g01378/impl.errInvalid", laid_loop_example_g01378_impl_errInvalid), ("loop.example/g01378/impl.errRange", laid_loop_example_g01378_impl_errRange), ("loop.example/g01378/impl.errLimit", laid_loop_example_g01378_impl_errLimit), ("loop.example/g01378/impl.errState", laid_loop_example_g01378_impl_errState), ("loop.example/g01378/impl.errSyntax", laid_loop_example_g01378_impl_errSyntax), ("loop.example/g01378/impl.errNotFound", laid_loop_example_g01378_impl_errNotFound), ("loop.example/g01378/impl.errBudget", laid_loop_example_g01378_impl_errBudget)], narrowed := true }
def FnExactLeastWaitUptoSaid : Prop := fnExactLeastWaitUptoRow.holds Tryd.pinned (OpenSpec.upto fnExactLeastWaitSpec)

end Rows
end Go.Proofs.YtjhkjbdpmianfaaDoor
