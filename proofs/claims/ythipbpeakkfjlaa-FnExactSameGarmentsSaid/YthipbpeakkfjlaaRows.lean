/-
  No cell of these rows narrows 'for every input' (looked for: loops, veiled, ifaces, maps, wideKeys, modest, calm, conditions, laid).
  DERIVED. THE GIVEN ROWS OF THIS SEAT. 4 by the template 'for every input the law returns true; each argument reads behind the call as it read before'; 0 by the template 'total and deterministic' (their statements: YthipbpeakkfjlaaTotals.lean).
  GIVEN WITH THE SEED: the statements are not yours to turn. If you find one false, say at which input.
  Laid BY PROGRAM, IN A SANDBOX (cutbox-rows.mjs): the forced cells as the released guide's own fill.sh prints them over the translation 01f0aaba38bb1989… (all of the seat's roots in one cut). By AI agents, Wed Nov 11 2026. No macro, syntax, notation, axiom, sorry.
-/
import Derived.Test.YthipbpeakkfjlaaChecked
import GoSem.Claim
import GoSem.ClaimJoined
import GoSem.ClaimMapViews
import Derived.JoinedTies
import Derived.KernelRfl
namespace Go.Proofs.Ythipbpeakkfjlaa
/- THE CELL 'sum', in the pinned program and in every row, IS THE sha256 OF THE DUMP (.gsa) THAT YthipbpeakkfjlaaProg.lean LOADS. Nothing in Lean hashes anything: it is a label: what it is worth is what the hold of that sum in a sandbox is worth. -/
noncomputable def Try.pinned : Pinned := { name := "ythipbpeakkfjlaa", sum := "01f0aaba38bb19893445c4cb0802d33fe96682b6d3a8242f6937496f17474f5b", checked := Try.checked }
namespace Rows
def none {H : Type} : Left H := { results := [], args := [] }

/-- 'laws.FnExactCodeName': WHATEVER THE INPUT: true; the input reads as it did. -/
def fnExactCodeNameSpec : ChangeSpec := { name := "fnExactCodeName", fn := fun _ => fun
  | [d] => { results := [.lit (.bool true)], args := [d] }
  | _ => none }
def fnExactCodeNameRow : OpenClaim := { program := "ythipbpeakkfjlaa", sum := "01f0aaba38bb19893445c4cb0802d33fe96682b6d3a8242f6937496f17474f5b", func := "loop.example/g01378/laws.FnExactCodeName", spec := "fnExactCodeName", apart := false }
def FnExactCodeNameSaid : Prop := fnExactCodeNameRow.holds Try.pinned (OpenSpec.ofChange fnExactCodeNameSpec)

/-- ITS FALSE NEIGHBOUR: 'it returns false'. Refute it at one input. -/
def fnExactCodeNameWrong : ChangeSpec := { name := "fnExactCodeName", fn := fun _ => fun
  | [d] => { results := [.lit (.bool false)], args := [d] }
  | _ => none }
def FnExactCodeNameWrongFalsely : Prop := fnExactCodeNameRow.holds Try.pinned (OpenSpec.ofChange fnExactCodeNameWrong)

/-- 'laws.FnExactValidRules': WHATEVER THE INPUT: true; the input reads as it did. -/
def fnExactValidRulesSpec : ChangeSpec := { name := "fnExactValidRules", fn := fun _ => fun
  | [d] => { results := [.lit (.bool true)], args := [d] }
  | _ => none }
def fnExactValidRulesRow : OpenClaim := { program := "ythipbpeakkfjlaa", sum := "01f0aaba38bb19893445c4cb0802d33fe96682b6d3a8242f6937496f17474f5b", func := "loop.example/g01378/laws.FnExactValidRules", spec := "fnExactValidRules", apart := false }
def FnExactValidRulesSaid : Prop := fnExactValidRulesRow.holds Try.pinned (OpenSpec.ofChange fnExactValidRulesSpec)

/-- ITS FALSE NEIGHBOUR: 'it returns false'. Refute it at one input. -/
def fnExactValidRulesWrong : ChangeSpec := { name := "fnExactValidRules", fn := fun _ => fun
  | [d] => { results := [.lit (.bool false)], args := [d] }
  | _ => none }
def FnExactValidRulesWrongFalsely : Prop := fnExactValidRulesRow.holds Try.pinned (OpenSpec.ofChange fnExactValidRulesWrong)

/-- 'laws.FnExactValidGarment': WHATEVER THE INPUT: true; the input reads as it did. -/
def fnExactValidGarmentSpec : ChangeSpec := { name := "fnExactValidGarment", fn := fun _ => fun
  | [d] => { results := [.lit (.bool true)], args := [d] }
  | _ => none }
def fnExactValidGarmentRow : OpenClaim := { program := "ythipbpeakkfjlaa", sum := "01f0aaba38bb19893445c4cb0802d33fe96682b6d3a8242f6937496f17474f5b", func := "loop.example/g01378/laws.FnExactValidGarment", spec := "fnExactValidGarment", apart := false }
def FnExactValidGarmentSaid : Prop := fnExactValidGarmentRow.holds Try.pinned (OpenSpec.ofChange fnExactValidGarmentSpec)

/-- ITS FALSE NEIGHBOUR: 'it returns false'. Refute it at one input. -/
def fnExactValidGarmentWrong : ChangeSpec := { name := "fnExactValidGarment", fn := fun _ => fun
  | [d] => { results := [.lit (.bool false)], args := [d] }
  | _ => none }
def FnExactValidGarmentWrongFalsely : Prop := fnExactValidGarmentRow.holds Try.pinned (OpenSpec.ofChange fnExactValidGarmentWrong)

/-- 'laws.FnExactSameGarments': WHATEVER THE INPUT: true; the input reads as it did. -/
def fnExactSameGarmentsSpec : ChangeSpec := { name := "fnExactSameGarments", fn := fun _ => fun
  | [d1, d2] => { results := [.lit (.bool true)], args := [d1, d2] }
  | _ => none }
def fnExactSameGarmentsRow : OpenClaim := { program := "ythipbpeakkfjlaa", sum := "01f0aaba38bb19893445c4cb0802d33fe96682b6d3a8242f6937496f17474f5b", func := "loop.example/g01378/laws.FnExactSameGarments", spec := "fnExactSameGarments", apart := false }
def FnExactSameGarmentsSaid : Prop := fnExactSameGarmentsRow.holds Try.pinned (OpenSpec.ofChange fnExactSameGarmentsSpec)

/-- ITS FALSE NEIGHBOUR: 'it returns false'. Refute it at one input. -/
def fnExactSameGarmentsWrong : ChangeSpec := { name := "fnExactSameGarments", fn := fun _ => fun
  | [d1, d2] => { results := [.lit (.bool false)], args := [d1, d2] }
  | _ => none }
def FnExactSameGarmentsWrongFalsely : Prop := fnExactSameGarmentsRow.holds Try.pinned (OpenSpec.ofChange fnExactSameGarmentsWrong)

/- THE SECOND FORM. 'bulk': how many values and letters a reading holds, each counted each time it is reached (what is shared counts as often as it is met; a slice's spare places count too). A statement '..UptoSaid' is the law's where the arguments, and the package variables that the reading takes, are together of bulk at most 1048576: NARROWER than '..Said'. Prove '..Said' where nothing that the law and all that it calls make is longer than what came in: it says more and counts as full. Else prove '..UptoSaid'. A law counts once. -/
mutual
def uptoBulk {H : Type} : DataW H → Nat
  | .lit (.string bytes) => bytes.length + 1
  | .lit _ => 1
  | .nil => 1
  | .ptr d => uptoBulk d + 1
  | .slice elems spare => uptoBulkAll elems + uptoBulkAll spare + 1
  | .agg parts => uptoBulkAll parts + 1
  | .iface _ d => uptoBulk d + 1
  | .map entries => uptoBulkEntries entries + 1
  | .held _ => 1
def uptoBulkAll {H : Type} : List (DataW H) → Nat
  | [] => 0
  | d :: r => uptoBulk d + uptoBulkAll r
def uptoBulkEntries {H : Type} : List (Lit × DataW H) → Nat
  | [] => 0
  | x :: r => uptoBulkEntry x + uptoBulkEntries r
def uptoBulkEntry {H : Type} : Lit × DataW H → Nat
  | (.string bytes, d) => bytes.length + uptoBulk d + 1
  | (_, d) => uptoBulk d + 1
 end
def uptoSmall : (H : Type) → List (DataW H) → Bool := fun _ ds => decide (uptoBulkAll ds ≤ 1048576)
def OpenSpec.upto (s : _root_.Go.ChangeSpec) : _root_.Go.OpenSpec := { _root_.Go.OpenSpec.ofChange s with cond := some uptoSmall }

/-- 'laws.FnExactCodeName', WHERE WHAT IT READS IS OF BULK AT MOST 1048576: true; the input reads as it did. -/
def fnExactCodeNameUptoRow : OpenClaim := { program := "ythipbpeakkfjlaa", sum := "01f0aaba38bb19893445c4cb0802d33fe96682b6d3a8242f6937496f17474f5b", func := "loop.example/g01378/laws.FnExactCodeName", spec := "fnExactCodeName", apart := false, narrowed := true }
def FnExactCodeNameUptoSaid : Prop := fnExactCodeNameUptoRow.holds Try.pinned (OpenSpec.upto fnExactCodeNameSpec)

/-- 'laws.FnExactValidRules', WHERE WHAT IT READS IS OF BULK AT MOST 1048576: true; the input reads as it did. -/
def fnExactValidRulesUptoRow : OpenClaim := { program := "ythipbpeakkfjlaa", sum := "01f0aaba38bb19893445c4cb0802d33fe96682b6d3a8242f6937496f17474f5b", func := "loop.example/g01378/laws.FnExactValidRules", spec := "fnExactValidRules", apart := false, narrowed := true }
def FnExactValidRulesUptoSaid : Prop := fnExactValidRulesUptoRow.holds Try.pinned (OpenSpec.upto fnExactValidRulesSpec)

/-- 'laws.FnExactValidGarment', WHERE WHAT IT READS IS OF BULK AT MOST 1048576: true; the input reads as it did. -/
def fnExactValidGarmentUptoRow : OpenClaim := { program := "ythipbpeakkfjlaa", sum := "01f0aaba38bb19893445c4cb0802d33fe96682b6d3a8242f6937496f17474f5b", func := "loop.example/g01378/laws.FnExactValidGarment", spec := "fnExactValidGarment", apart := false, narrowed := true }
def FnExactValidGarmentUptoSaid : Prop := fnExactValidGarmentUptoRow.holds Try.pinned (OpenSpec.upto fnExactValidGarmentSpec)

/-- 'laws.FnExactSameGarments', WHERE WHAT IT READS IS OF BULK AT MOST 1048576: true; the input reads as it did. -/
def fnExactSameGarmentsUptoRow : OpenClaim := { program := "ythipbpeakkfjlaa", sum := "01f0aaba38bb19893445c4cb0802d33fe96682b6d3a8242f6937496f17474f5b", func := "loop.example/g01378/laws.FnExactSameGarments", spec := "fnExactSameGarments", apart := false, narrowed := true }
def FnExactSameGarmentsUptoSaid : Prop := fnExactSameGarmentsUptoRow.holds Try.pinned (OpenSpec.upto fnExactSameGarmentsSpec)

end Rows
end Go.Proofs.Ythipbpeakkfjlaa
