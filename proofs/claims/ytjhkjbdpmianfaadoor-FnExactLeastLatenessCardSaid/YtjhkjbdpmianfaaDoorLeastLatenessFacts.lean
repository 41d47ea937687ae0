/-
  THE LAW FnExactLeastLateness: the facts of its row, each one by itself.
-/
import Derived.Test.YtjhkjbdpmianfaaDoorCards
import Derived.Test.YtjhkjbdpmianfaaDoorTie
import Derived.Test.YtjhkjbdpmianfaaDoorJoined
import Derived.ProofKit
namespace Go.Proofs.YtjhkjbdpmianfaaDoor.lawLeastLateness
open Go
theorem k0 : Rows.fnExactLeastLatenessRow.wf (OpenSpec.ofChange Rows.fnExactLeastLatenessSpec) = true := by kernel_rfl
theorem k3 : Tryd.f5.params.all (Tryd.prog.readableRec ·) = true := by kernel_rfl
theorem k4 : namedTie Tryd.prog Rows.fnExactLeastLatenessRow.named Rows.fnExactLeastLatenessSpec.vars = true := by kernel_rfl
theorem k5 : (Rows.fnExactLeastLatenessRow.stops == []) = true := by kernel_rfl
theorem k7 : (Rows.fnExactLeastLatenessRow.knobs == []) = true := by kernel_rfl
theorem k9 : (Rows.fnExactLeastLatenessRow.inPlace == Tryd.prog.inPlace 5) = true := by kernel_rfl
theorem k10 : (Rows.fnExactLeastLatenessRow.unfollowed == Tryd.prog.unfollowed 5) = true := by kernel_rfl
theorem k11 : (Rows.fnExactLeastLatenessRow.recurses == Tryd.prog.recurses 5) = true := by kernel_rfl
theorem k12 : (Rows.fnExactLeastLatenessRow.named == Tryd.prog.varsNamed 5) = true := by kernel_rfl
theorem k13 : (Rows.fnExactLeastLatenessRow.maps == (Tryd.f5.params.toList ++ Rows.fnExactLeastLatenessSpec.plain.varTypes Tryd.prog).any (Tryd.prog.mapsRec ·)) = true := by kernel_rfl
theorem k14 : (Rows.fnExactLeastLatenessRow.ifaces == (Tryd.f5.params.toList ++ Rows.fnExactLeastLatenessSpec.plain.varTypes Tryd.prog).any (Tryd.prog.ifacesRec ·)) = true := by kernel_rfl
theorem k15 : (Rows.fnExactLeastLatenessRow.mapsOut == Tryd.prog.mapsAmong Tryd.f5.resultTypes.toList) = true := by kernel_rfl
theorem k16 : (Rows.fnExactLeastLatenessRow.loops == (Tryd.f5.params.toList ++ Rows.fnExactLeastLatenessSpec.plain.varTypes Tryd.prog).any (Tryd.prog.loopsFrom ·)) = true := by kernel_rfl
theorem k17 : (Rows.fnExactLeastLatenessRow.wideKeys == (Tryd.f5.params.toList ++ Rows.fnExactLeastLatenessSpec.plain.varTypes Tryd.prog ++ Tryd.f5.resultTypes.toList).any (Tryd.prog.wideKeysFrom ·)) = true := by kernel_rfl
theorem k18 : Rows.fnExactLeastLatenessSpec.vars.all (Tryd.prog.varReadable ·) = true := by kernel_rfl
theorem k19 : Tryd.f5.resultTypes.all (fun t => Tryd.prog.readableRec t && decide (t < Tryd.prog.types.size)) = true := by kernel_rfl
theorem k20 : (Rows.fnExactLeastLatenessRow.ifacesOut == Tryd.f5.resultTypes.toList.any (Tryd.prog.ifacesRec ·)) = true := by kernel_rfl
theorem k21 : (Rows.fnExactLeastLatenessRow.loopsOut == Tryd.f5.resultTypes.toList.any (Tryd.prog.loopsFrom ·)) = true := by kernel_rfl
theorem k23 : Rows.fnExactLeastLatenessRow.shortTexts.isNone = true := by kernel_rfl
theorem k28 : facts.kindsOf Tryd.prog Tryd.f5 Rows.fnExactLeastLatenessRow = true := by kernel_rfl
theorem k29 : (Rows.fnExactLeastLatenessRow.pinned == Rows.fnExactLeastLatenessRow.pinnedBy) = true := by kernel_rfl
theorem k30 : (Rows.fnExactLeastLatenessRow.veiled == (Tryd.f5.params.toList ++ Rows.fnExactLeastLatenessSpec.plain.varTypes Tryd.prog ++ Tryd.f5.resultTypes.toList).any (Tryd.prog.veiledRec ·)) = true := by kernel_rfl
theorem k31 : Rows.fnExactLeastLatenessRow.veiledFits Tryd.prog Tryd.f5.params.toList (Tryd.f5.params.toList ++ Rows.fnExactLeastLatenessSpec.plain.varTypes Tryd.prog ++ Tryd.f5.resultTypes.toList) = true := by kernel_rfl
theorem named : Tryd.pinned.checked.prog.funcNamed Rows.fnExactLeastLatenessRow.func = some 5 := by kernel_rfl
theorem inst : decide (Tryd.f5.isInstance Tryd.prog Rows.fnExactLeastLatenessRow.origin Rows.fnExactLeastLatenessRow.targs) = true := by kernel_rfl
theorem stand : (Tryd.f5.params.toList.all fun u => !Tryd.prog.wantsStandIn u) = true := by kernel_rfl
theorem wft : Rows.fnExactLeastLatenessRow.wfByText (OpenSpec.ofChange Rows.fnExactLeastLatenessSpec) = true := by kernel_rfl
theorem goes : false = Rows.fnExactLeastLatenessRow.goesBy Tryd.pinned.checked.prog := by kernel_rfl
end Go.Proofs.YtjhkjbdpmianfaaDoor.lawLeastLateness
