/-
  THE LAW FnExactLeastApart: the facts of its row, each one by itself.
-/
import Derived.Test.YtlembainfhnnbaaDoorCards
import Derived.Test.YtlembainfhnnbaaDoorTie
import Derived.Test.YtlembainfhnnbaaDoorJoined
import Derived.ProofKit
namespace Go.Proofs.YtlembainfhnnbaaDoor.lawLeastApart
open Go
theorem k0 : Rows.fnExactLeastApartRow.wf (OpenSpec.ofChange Rows.fnExactLeastApartSpec) = true := by kernel_rfl
theorem k3 : Tryd.f12.params.all (Tryd.prog.readableRec ·) = true := by kernel_rfl
theorem k4 : namedTie Tryd.prog Rows.fnExactLeastApartRow.named Rows.fnExactLeastApartSpec.vars = true := by kernel_rfl
theorem k5 : (Rows.fnExactLeastApartRow.stops == []) = true := by kernel_rfl
theorem k7 : (Rows.fnExactLeastApartRow.knobs == []) = true := by kernel_rfl
theorem k9 : (Rows.fnExactLeastApartRow.inPlace == Tryd.prog.inPlace 12) = true := by kernel_rfl
theorem k10 : (Rows.fnExactLeastApartRow.unfollowed == Tryd.prog.unfollowed 12) = true := by kernel_rfl
theorem k11 : (Rows.fnExactLeastApartRow.recurses == Tryd.prog.recurses 12) = true := by kernel_rfl
theorem k12 : (Rows.fnExactLeastApartRow.named == Tryd.prog.varsNamed 12) = true := by kernel_rfl
theorem k13 : (Rows.fnExactLeastApartRow.maps == (Tryd.f12.params.toList ++ Rows.fnExactLeastApartSpec.plain.varTypes Tryd.prog).any (Tryd.prog.mapsRec ·)) = true := by kernel_rfl
theorem k14 : (Rows.fnExactLeastApartRow.ifaces == (Tryd.f12.params.toList ++ Rows.fnExactLeastApartSpec.plain.varTypes Tryd.prog).any (Tryd.prog.ifacesRec ·)) = true := by kernel_rfl
theorem k15 : (Rows.fnExactLeastApartRow.mapsOut == Tryd.prog.mapsAmong Tryd.f12.resultTypes.toList) = true := by kernel_rfl
theorem k16 : (Rows.fnExactLeastApartRow.loops == (Tryd.f12.params.toList ++ Rows.fnExactLeastApartSpec.plain.varTypes Tryd.prog).any (Tryd.prog.loopsFrom ·)) = true := by kernel_rfl
theorem k17 : (Rows.fnExactLeastApartRow.wideKeys == (Tryd.f12.params.toList ++ Rows.fnExactLeastApartSpec.plain.varTypes Tryd.prog ++ Tryd.f12.resultTypes.toList).any (Tryd.prog.wideKeysFrom ·)) = true := by kernel_rfl
theorem k18 : Rows.fnExactLeastApartSpec.vars.all (Tryd.prog.varReadable ·) = true := by kernel_rfl
theorem k19 : Tryd.f12.resultTypes.all (fun t => Tryd.prog.readableRec t && decide (t < Tryd.prog.types.size)) = true := by kernel_rfl
theorem k20 : (Rows.fnExactLeastApartRow.ifacesOut == Tryd.f12.resultTypes.toList.any (Tryd.prog.ifacesRec ·)) = true := by kernel_rfl
theorem k21 : (Rows.fnExactLeastApartRow.loopsOut == Tryd.f12.resultTypes.toList.any (Tryd.prog.loopsFrom ·)) = true := by kernel_rfl
theorem k23 : Rows.fnExactLeastApartRow.shortTexts.isNone = true := by kernel_rfl
theorem k28 : facts.kindsOf Tryd.prog Tryd.f12 Rows.fnExactLeastApartRow = true := by kernel_rfl
theorem k29 : (Rows.fnExactLeastApartRow.pinned == Rows.fnExactLeastApartRow.pinnedBy) = true := by kernel_rfl
theorem k30 : (Rows.fnExactLeastApartRow.veiled == (Tryd.f12.params.toList ++ Rows.fnExactLeastApartSpec.plain.varTypes Tryd.prog ++ Tryd.f12.resultTypes.toList).any (Tryd.prog.veiledRec ·)) = true := by kernel_rfl
theorem k31 : Rows.fnExactLeastApartRow.veiledFits Tryd.prog Tryd.f12.params.toList (Tryd.f12.params.toList ++ Rows.fnExactLeastApartSpec.plain.varTypes Tryd.prog ++ Tryd.f12.resultTypes.toList) = true := by kernel_rfl
theorem named : Tryd.pinned.checked.prog.funcNamed Rows.fnExactLeastApartRow.func = some 12 := by kernel_rfl
theorem inst : decide (Tryd.f12.isInstance Tryd.prog Rows.fnExactLeastApartRow.origin Rows.fnExactLeastApartRow.targs) = true := by kernel_rfl
theorem stand : (Tryd.f12.params.toList.all fun u => !Tryd.prog.wantsStandIn u) = true := by kernel_rfl
theorem wft : Rows.fnExactLeastApartRow.wfByText (OpenSpec.ofChange Rows.fnExactLeastApartSpec) = true := by kernel_rfl
theorem goes : false = Rows.fnExactLeastApartRow.goesBy Tryd.pinned.checked.prog := by kernel_rfl
end Go.Proofs.YtlembainfhnnbaaDoor.lawLeastApart
