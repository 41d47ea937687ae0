/-
  THE LAW FnExactClassOf: the facts of its row, each one by itself.
-/
import Derived.Test.YtlembainfhnnbaaDoorCards
import Derived.Test.YtlembainfhnnbaaDoorTie
import Derived.Test.YtlembainfhnnbaaDoorJoined
import Derived.ProofKit
namespace Go.Proofs.YtlembainfhnnbaaDoor.lawClassOf
open Go
theorem k0 : Rows.fnExactClassOfRow.wf (OpenSpec.ofChange Rows.fnExactClassOfSpec) = true := by kernel_rfl
theorem k3 : Tryd.f8.params.all (Tryd.prog.readableRec ·) = true := by kernel_rfl
theorem k4 : namedTie Tryd.prog Rows.fnExactClassOfRow.named Rows.fnExactClassOfSpec.vars = true := by kernel_rfl
theorem k5 : (Rows.fnExactClassOfRow.stops == []) = true := by kernel_rfl
theorem k7 : (Rows.fnExactClassOfRow.knobs == []) = true := by kernel_rfl
theorem k9 : (Rows.fnExactClassOfRow.inPlace == Tryd.prog.inPlace 8) = true := by kernel_rfl
theorem k10 : (Rows.fnExactClassOfRow.unfollowed == Tryd.prog.unfollowed 8) = true := by kernel_rfl
theorem k11 : (Rows.fnExactClassOfRow.recurses == Tryd.prog.recurses 8) = true := by kernel_rfl
theorem k12 : (Rows.fnExactClassOfRow.named == Tryd.prog.varsNamed 8) = true := by kernel_rfl
theorem k13 : (Rows.fnExactClassOfRow.maps == (Tryd.f8.params.toList ++ Rows.fnExactClassOfSpec.plain.varTypes Tryd.prog).any (Tryd.prog.mapsRec ·)) = true := by kernel_rfl
theorem k14 : (Rows.fnExactClassOfRow.ifaces == (Tryd.f8.params.toList ++ Rows.fnExactClassOfSpec.plain.varTypes Tryd.prog).any (Tryd.prog.ifacesRec ·)) = true := by kernel_rfl
theorem k15 : (Rows.fnExactClassOfRow.mapsOut == Tryd.prog.mapsAmong Tryd.f8.resultTypes.toList) = true := by kernel_rfl
theorem k16 : (Rows.fnExactClassOfRow.loops == (Tryd.f8.params.toList ++ Rows.fnExactClassOfSpec.plain.varTypes Tryd.prog).any (Tryd.prog.loopsFrom ·)) = true := by kernel_rfl
theorem k17 : (Rows.fnExactClassOfRow.wideKeys == (Tryd.f8.params.toList ++ Rows.fnExactClassOfSpec.plain.varTypes Tryd.prog ++ Tryd.f8.resultTypes.toList).any (Tryd.prog.wideKeysFrom ·)) = true := by kernel_rfl
theorem k18 : Rows.fnExactClassOfSpec.vars.all (Tryd.prog.varReadable ·) = true := by kernel_rfl
theorem k19 : Tryd.f8.resultTypes.all (fun t => Tryd.prog.readableRec t && decide (t < Tryd.prog.types.size)) = true := by kernel_rfl
theorem k20 : (Rows.fnExactClassOfRow.ifacesOut == Tryd.f8.resultTypes.toList.any (Tryd.prog.ifacesRec ·)) = true := by kernel_rfl
theorem k21 : (Rows.fnExactClassOfRow.loopsOut == Tryd.f8.resultTypes.toList.any (Tryd.prog.loopsFrom ·)) = true := by kernel_rfl
theorem k23 : Rows.fnExactClassOfRow.shortTexts.isNone = true := by kernel_rfl
theorem k28 : facts.kindsOf Tryd.prog Tryd.f8 Rows.fnExactClassOfRow = true := by kernel_rfl
theorem k29 : (Rows.fnExactClassOfRow.pinned == Rows.fnExactClassOfRow.pinnedBy) = true := by kernel_rfl
theorem k30 : (Rows.fnExactClassOfRow.veiled == (Tryd.f8.params.toList ++ Rows.fnExactClassOfSpec.plain.varTypes Tryd.prog ++ Tryd.f8.resultTypes.toList).any (Tryd.prog.veiledRec ·)) = true := by kernel_rfl
theorem k31 : Rows.fnExactClassOfRow.veiledFits Tryd.prog Tryd.f8.params.toList (Tryd.f8.params.toList ++ Rows.fnExactClassOfSpec.plain.varTypes Tryd.prog ++ Tryd.f8.resultTypes.toList) = true := by kernel_rfl
theorem named : Tryd.pinned.checked.prog.funcNamed Rows.fnExactClassOfRow.func = some 8 := by kernel_rfl
theorem inst : decide (Tryd.f8.isInstance Tryd.prog Rows.fnExactClassOfRow.origin Rows.fnExactClassOfRow.targs) = true := by kernel_rfl
theorem stand : (Tryd.f8.params.toList.all fun u => !Tryd.prog.wantsStandIn u) = true := by kernel_rfl
theorem wft : Rows.fnExactClassOfRow.wfByText (OpenSpec.ofChange Rows.fnExactClassOfSpec) = true := by kernel_rfl
theorem goes : false = Rows.fnExactClassOfRow.goesBy Tryd.pinned.checked.prog := by kernel_rfl
end Go.Proofs.YtlembainfhnnbaaDoor.lawClassOf
