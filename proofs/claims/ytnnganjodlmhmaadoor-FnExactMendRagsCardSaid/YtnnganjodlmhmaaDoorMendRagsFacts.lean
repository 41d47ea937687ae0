/-
  THE LAW FnExactMendRags: the facts of its row, each one by itself.
-/
import Derived.Test.YtnnganjodlmhmaaDoorCards
import Derived.Test.YtnnganjodlmhmaaDoorTie
import Derived.Test.YtnnganjodlmhmaaDoorJoined
import Derived.ProofKit
namespace Go.Proofs.YtnnganjodlmhmaaDoor.lawMendRags
open Go
theorem k0 : Rows.fnExactMendRagsRow.wf (OpenSpec.ofChange Rows.fnExactMendRagsSpec) = true := by kernel_rfl
theorem k3 : Tryd.f3.params.all (Tryd.prog.readableRec ·) = true := by kernel_rfl
theorem k4 : namedTie Tryd.prog Rows.fnExactMendRagsRow.named Rows.fnExactMendRagsSpec.vars = true := by kernel_rfl
theorem k5 : (Rows.fnExactMendRagsRow.stops == []) = true := by kernel_rfl
theorem k7 : (Rows.fnExactMendRagsRow.knobs == []) = true := by kernel_rfl
theorem k9 : (Rows.fnExactMendRagsRow.inPlace == Tryd.prog.inPlace 3) = true := by kernel_rfl
theorem k10 : (Rows.fnExactMendRagsRow.unfollowed == Tryd.prog.unfollowed 3) = true := by kernel_rfl
theorem k11 : (Rows.fnExactMendRagsRow.recurses == Tryd.prog.recurses 3) = true := by kernel_rfl
theorem k12 : (Rows.fnExactMendRagsRow.named == Tryd.prog.varsNamed 3) = true := by kernel_rfl
theorem k13 : (Rows.fnExactMendRagsRow.maps == (Tryd.f3.params.toList ++ Rows.fnExactMendRagsSpec.plain.varTypes Tryd.prog).any (Tryd.prog.mapsRec ·)) = true := by kernel_rfl
theorem k14 : (Rows.fnExactMendRagsRow.ifaces == (Tryd.f3.params.toList ++ Rows.fnExactMendRagsSpec.plain.varTypes Tryd.prog).any (Tryd.prog.ifacesRec ·)) = true := by kernel_rfl
theorem k15 : (Rows.fnExactMendRagsRow.mapsOut == Tryd.prog.mapsAmong Tryd.f3.resultTypes.toList) = true := by kernel_rfl
theorem k16 : (Rows.fnExactMendRagsRow.loops == (Tryd.f3.params.toList ++ Rows.fnExactMendRagsSpec.plain.varTypes Tryd.prog).any (Tryd.prog.loopsFrom ·)) = true := by kernel_rfl
theorem k17 : (Rows.fnExactMendRagsRow.wideKeys == (Tryd.f3.params.toList ++ Rows.fnExactMendRagsSpec.plain.varTypes Tryd.prog ++ Tryd.f3.resultTypes.toList).any (Tryd.prog.wideKeysFrom ·)) = true := by kernel_rfl
theorem k18 : Rows.fnExactMendRagsSpec.vars.all (Tryd.prog.varReadable ·) = true := by kernel_rfl
theorem k19 : Tryd.f3.resultTypes.all (fun t => Tryd.prog.readableRec t && decide (t < Tryd.prog.types.size)) = true := by kernel_rfl
theorem k20 : (Rows.fnExactMendRagsRow.ifacesOut == Tryd.f3.resultTypes.toList.any (Tryd.prog.ifacesRec ·)) = true := by kernel_rfl
theorem k21 : (Rows.fnExactMendRagsRow.loopsOut == Tryd.f3.resultTypes.toList.any (Tryd.prog.loopsFrom ·)) = true := by kernel_rfl
theorem k23 : Rows.fnExactMendRagsRow.shortTexts.isNone = true := by kernel_rfl
theorem k28 : facts.kindsOf Tryd.prog Tryd.f3 Rows.fnExactMendRagsRow = true := by kernel_rfl
theorem k29 : (Rows.fnExactMendRagsRow.pinned == Rows.fnExactMendRagsRow.pinnedBy) = true := by kernel_rfl
theorem k30 : (Rows.fnExactMendRagsRow.veiled == (Tryd.f3.params.toList ++ Rows.fnExactMendRagsSpec.plain.varTypes Tryd.prog ++ Tryd.f3.resultTypes.toList).any (Tryd.prog.veiledRec ·)) = true := by kernel_rfl
theorem k31 : Rows.fnExactMendRagsRow.veiledFits Tryd.prog Tryd.f3.params.toList (Tryd.f3.params.toList ++ Rows.fnExactMendRagsSpec.plain.varTypes Tryd.prog ++ Tryd.f3.resultTypes.toList) = true := by kernel_rfl
theorem named : Tryd.pinned.checked.prog.funcNamed Rows.fnExactMendRagsRow.func = some 3 := by kernel_rfl
theorem inst : decide (Tryd.f3.isInstance Tryd.prog Rows.fnExactMendRagsRow.origin Rows.fnExactMendRagsRow.targs) = true := by kernel_rfl
theorem stand : (Tryd.f3.params.toList.all fun u => !Tryd.prog.wantsStandIn u) = true := by kernel_rfl
theorem wft : Rows.fnExactMendRagsRow.wfByText (OpenSpec.ofChange Rows.fnExactMendRagsSpec) = true := by kernel_rfl
theorem goes : false = Rows.fnExactMendRagsRow.goesBy Tryd.pinned.checked.prog := by kernel_rfl
end Go.Proofs.YtnnganjodlmhmaaDoor.lawMendRags
