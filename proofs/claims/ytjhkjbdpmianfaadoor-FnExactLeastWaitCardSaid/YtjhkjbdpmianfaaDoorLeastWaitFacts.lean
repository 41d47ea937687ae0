/-
  THE LAW FnExactLeastWait: the facts of its row, each one by itself.
-/
import Derived.Test.YtjhkjbdpmianfaaDoorCards
import Derived.Test.YtjhkjbdpmianfaaDoorTie
import Derived.Test.YtjhkjbdpmianfaaDoorJoined
import Derived.ProofKit
namespace Go.Proofs.YtjhkjbdpmianfaaDoor.lawLeastWait
open Go
theorem k0 : Rows.fnExactLeastWaitRow.wf (OpenSpec.ofChange Rows.fnExactLeastWaitSpec) = true := by kernel_rfl
theorem k3 : Tryd.f6.params.all (Tryd.prog.readableRec ·) = true := by kernel_rfl
theorem k4 : namedTie Tryd.prog Rows.fnExactLeastWaitRow.named Rows.fnExactLeastWaitSpec.vars = true := by kernel_rfl
theorem k5 : (Rows.fnExactLeastWaitRow.stops == []) = true := by kernel_rfl
theorem k7 : (Rows.fnExactLeastWaitRow.knobs == []) = true := by kernel_rfl
theorem k9 : (Rows.fnExactLeastWaitRow.inPlace == Tryd.prog.inPlace 6) = true := by kernel_rfl
theorem k10 : (Rows.fnExactLeastWaitRow.unfollowed == Tryd.prog.unfollowed 6) = true := by kernel_rfl
theorem k11 : (Rows.fnExactLeastWaitRow.recurses == Tryd.prog.recurses 6) = true := by kernel_rfl
theorem k12 : (Rows.fnExactLeastWaitRow.named == Tryd.prog.varsNamed 6) = true := by kernel_rfl
theorem k13 : (Rows.fnExactLeastWaitRow.maps == (Tryd.f6.params.toList ++ Rows.fnExactLeastWaitSpec.plain.varTypes Tryd.prog).any (Tryd.prog.mapsRec ·)) = true := by kernel_rfl
theorem k14 : (Rows.fnExactLeastWaitRow.ifaces == (Tryd.f6.params.toList ++ Rows.fnExactLeastWaitSpec.plain.varTypes Tryd.prog).any (Tryd.prog.ifacesRec ·)) = true := by kernel_rfl
theorem k15 : (Rows.fnExactLeastWaitRow.mapsOut == Tryd.prog.mapsAmong Tryd.f6.resultTypes.toList) = true := by kernel_rfl
theorem k16 : (Rows.fnExactLeastWaitRow.loops == (Tryd.f6.params.toList ++ Rows.fnExactLeastWaitSpec.plain.varTypes Tryd.prog).any (Tryd.prog.loopsFrom ·)) = true := by kernel_rfl
theorem k17 : (Rows.fnExactLeastWaitRow.wideKeys == (Tryd.f6.params.toList ++ Rows.fnExactLeastWaitSpec.plain.varTypes Tryd.prog ++ Tryd.f6.resultTypes.toList).any (Tryd.prog.wideKeysFrom ·)) = true := by kernel_rfl
theorem k18 : Rows.fnExactLeastWaitSpec.vars.all (Tryd.prog.varReadable ·) = true := by kernel_rfl
theorem k19 : Tryd.f6.resultTypes.all (fun t => Tryd.prog.readableRec t && decide (t < Tryd.prog.types.size)) = true := by kernel_rfl
theorem k20 : (Rows.fnExactLeastWaitRow.ifacesOut == Tryd.f6.resultTypes.toList.any (Tryd.prog.ifacesRec ·)) = true := by kernel_rfl
theorem k21 : (Rows.fnExactLeastWaitRow.loopsOut == Tryd.f6.resultTypes.toList.any (Tryd.prog.loopsFrom ·)) = true := by kernel_rfl
theorem k23 : Rows.fnExactLeastWaitRow.shortTexts.isNone = true := by kernel_rfl
theorem k28 : facts.kindsOf Tryd.prog Tryd.f6 Rows.fnExactLeastWaitRow = true := by kernel_rfl
theorem k29 : (Rows.fnExactLeastWaitRow.pinned == Rows.fnExactLeastWaitRow.pinnedBy) = true := by kernel_rfl
theorem k30 : (Rows.fnExactLeastWaitRow.veiled == (Tryd.f6.params.toList ++ Rows.fnExactLeastWaitSpec.plain.varTypes Tryd.prog ++ Tryd.f6.resultTypes.toList).any (Tryd.prog.veiledRec ·)) = true := by kernel_rfl
theorem k31 : Rows.fnExactLeastWaitRow.veiledFits Tryd.prog Tryd.f6.params.toList (Tryd.f6.params.toList ++ Rows.fnExactLeastWaitSpec.plain.varTypes Tryd.prog ++ Tryd.f6.resultTypes.toList) = true := by kernel_rfl
theorem named : Tryd.pinned.checked.prog.funcNamed Rows.fnExactLeastWaitRow.func = some 6 := by kernel_rfl
theorem inst : decide (Tryd.f6.isInstance Tryd.prog Rows.fnExactLeastWaitRow.origin Rows.fnExactLeastWaitRow.targs) = true := by kernel_rfl
theorem stand : (Tryd.f6.params.toList.all fun u => !Tryd.prog.wantsStandIn u) = true := by kernel_rfl
theorem wft : Rows.fnExactLeastWaitRow.wfByText (OpenSpec.ofChange Rows.fnExactLeastWaitSpec) = true := by kernel_rfl
theorem goes : false = Rows.fnExactLeastWaitRow.goesBy Tryd.pinned.checked.prog := by kernel_rfl
end Go.Proofs.YtjhkjbdpmianfaaDoor.lawLeastWait
