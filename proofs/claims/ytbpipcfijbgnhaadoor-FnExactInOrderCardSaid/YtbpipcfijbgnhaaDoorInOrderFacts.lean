/-
  THE LAW FnExactInOrder: the facts of its row, each one by itself.
-/
import Derived.Test.YtbpipcfijbgnhaaDoorCards
import Derived.Test.YtbpipcfijbgnhaaDoorTie
import Derived.Test.YtbpipcfijbgnhaaDoorJoined
import Derived.ProofKit
namespace Go.Proofs.YtbpipcfijbgnhaaDoor.lawInOrder
open Go
theorem k0 : Rows.fnExactInOrderRow.wf (OpenSpec.ofChange Rows.fnExactInOrderSpec) = true := by kernel_rfl
theorem k3 : Tryd.f8.params.all (Tryd.prog.readableRec ·) = true := by kernel_rfl
theorem k4 : namedTie Tryd.prog Rows.fnExactInOrderRow.named Rows.fnExactInOrderSpec.vars = true := by kernel_rfl
theorem k5 : (Rows.fnExactInOrderRow.stops == []) = true := by kernel_rfl
theorem k7 : (Rows.fnExactInOrderRow.knobs == []) = true := by kernel_rfl
theorem k9 : (Rows.fnExactInOrderRow.inPlace == Tryd.prog.inPlace 8) = true := by kernel_rfl
theorem k10 : (Rows.fnExactInOrderRow.unfollowed == Tryd.prog.unfollowed 8) = true := by kernel_rfl
theorem k11 : (Rows.fnExactInOrderRow.recurses == Tryd.prog.recurses 8) = true := by kernel_rfl
theorem k12 : (Rows.fnExactInOrderRow.named == Tryd.prog.varsNamed 8) = true := by kernel_rfl
theorem k13 : (Rows.fnExactInOrderRow.maps == (Tryd.f8.params.toList ++ Rows.fnExactInOrderSpec.plain.varTypes Tryd.prog).any (Tryd.prog.mapsRec ·)) = true := by kernel_rfl
theorem k14 : (Rows.fnExactInOrderRow.ifaces == (Tryd.f8.params.toList ++ Rows.fnExactInOrderSpec.plain.varTypes Tryd.prog).any (Tryd.prog.ifacesRec ·)) = true := by kernel_rfl
theorem k15 : (Rows.fnExactInOrderRow.mapsOut == Tryd.prog.mapsAmong Tryd.f8.resultTypes.toList) = true := by kernel_rfl
theorem k16 : (Rows.fnExactInOrderRow.loops == (Tryd.f8.params.toList ++ Rows.fnExactInOrderSpec.plain.varTypes Tryd.prog).any (Tryd.prog.loopsFrom ·)) = true := by kernel_rfl
theorem k17 : (Rows.fnExactInOrderRow.wideKeys == (Tryd.f8.params.toList ++ Rows.fnExactInOrderSpec.plain.varTypes Tryd.prog ++ Tryd.f8.resultTypes.toList).any (Tryd.prog.wideKeysFrom ·)) = true := by kernel_rfl
theorem k18 : Rows.fnExactInOrderSpec.vars.all (Tryd.prog.varReadable ·) = true := by kernel_rfl
theorem k19 : Tryd.f8.resultTypes.all (fun t => Tryd.prog.readableRec t && decide (t < Tryd.prog.types.size)) = true := by kernel_rfl
theorem k20 : (Rows.fnExactInOrderRow.ifacesOut == Tryd.f8.resultTypes.toList.any (Tryd.prog.ifacesRec ·)) = true := by kernel_rfl
theorem k21 : (Rows.fnExactInOrderRow.loopsOut == Tryd.f8.resultTypes.toList.any (Tryd.prog.loopsFrom ·)) = true := by kernel_rfl
theorem k23 : Rows.fnExactInOrderRow.shortTexts.isNone = true := by kernel_rfl
theorem k28 : facts.kindsOf Tryd.prog Tryd.f8 Rows.fnExactInOrderRow = true := by kernel_rfl
theorem k29 : (Rows.fnExactInOrderRow.pinned == Rows.fnExactInOrderRow.pinnedBy) = true := by kernel_rfl
theorem k30 : (Rows.fnExactInOrderRow.veiled == (Tryd.f8.params.toList ++ Rows.fnExactInOrderSpec.plain.varTypes Tryd.prog ++ Tryd.f8.resultTypes.toList).any (Tryd.prog.veiledRec ·)) = true := by kernel_rfl
theorem k31 : Rows.fnExactInOrderRow.veiledFits Tryd.prog Tryd.f8.params.toList (Tryd.f8.params.toList ++ Rows.fnExactInOrderSpec.plain.varTypes Tryd.prog ++ Tryd.f8.resultTypes.toList) = true := by kernel_rfl
theorem named : Tryd.pinned.checked.prog.funcNamed Rows.fnExactInOrderRow.func = some 8 := by kernel_rfl
theorem inst : decide (Tryd.f8.isInstance Tryd.prog Rows.fnExactInOrderRow.origin Rows.fnExactInOrderRow.targs) = true := by kernel_rfl
theorem stand : (Tryd.f8.params.toList.all fun u => !Tryd.prog.wantsStandIn u) = true := by kernel_rfl
theorem wft : Rows.fnExactInOrderRow.wfByText (OpenSpec.ofChange Rows.fnExactInOrderSpec) = true := by kernel_rfl
theorem goes : false = Rows.fnExactInOrderRow.goesBy Tryd.pinned.checked.prog := by kernel_rfl
end Go.Proofs.YtbpipcfijbgnhaaDoor.lawInOrder
