/-
  THE LAW FnExactClothsText: the facts of its row, each one by itself.
-/
import Derived.Test.YtjfimmfnhlimkaaDoorCards
import Derived.Test.YtjfimmfnhlimkaaDoorTie
import Derived.Test.YtjfimmfnhlimkaaDoorJoined
import Derived.ProofKit
namespace Go.Proofs.YtjfimmfnhlimkaaDoor.lawClothsText
open Go
theorem k0 : Rows.fnExactClothsTextRow.wf (OpenSpec.ofChange Rows.fnExactClothsTextSpec) = true := by kernel_rfl
theorem k3 : Tryd.f9.params.all (Tryd.prog.readableRec ·) = true := by kernel_rfl
theorem k4 : namedTie Tryd.prog Rows.fnExactClothsTextRow.named Rows.fnExactClothsTextSpec.vars = true := by kernel_rfl
theorem k5 : (Rows.fnExactClothsTextRow.stops == []) = true := by kernel_rfl
theorem k7 : (Rows.fnExactClothsTextRow.knobs == []) = true := by kernel_rfl
theorem k9 : (Rows.fnExactClothsTextRow.inPlace == Tryd.prog.inPlace 9) = true := by kernel_rfl
theorem k10 : (Rows.fnExactClothsTextRow.unfollowed == Tryd.prog.unfollowed 9) = true := by kernel_rfl
theorem k11 : (Rows.fnExactClothsTextRow.recurses == Tryd.prog.recurses 9) = true := by kernel_rfl
theorem k12 : (Rows.fnExactClothsTextRow.named == Tryd.prog.varsNamed 9) = true := by kernel_rfl
theorem k13 : (Rows.fnExactClothsTextRow.maps == (Tryd.f9.params.toList ++ Rows.fnExactClothsTextSpec.plain.varTypes Tryd.prog).any (Tryd.prog.mapsRec ·)) = true := by kernel_rfl
theorem k14 : (Rows.fnExactClothsTextRow.ifaces == (Tryd.f9.params.toList ++ Rows.fnExactClothsTextSpec.plain.varTypes Tryd.prog).any (Tryd.prog.ifacesRec ·)) = true := by kernel_rfl
theorem k15 : (Rows.fnExactClothsTextRow.mapsOut == Tryd.prog.mapsAmong Tryd.f9.resultTypes.toList) = true := by kernel_rfl
theorem k16 : (Rows.fnExactClothsTextRow.loops == (Tryd.f9.params.toList ++ Rows.fnExactClothsTextSpec.plain.varTypes Tryd.prog).any (Tryd.prog.loopsFrom ·)) = true := by kernel_rfl
theorem k17 : (Rows.fnExactClothsTextRow.wideKeys == (Tryd.f9.params.toList ++ Rows.fnExactClothsTextSpec.plain.varTypes Tryd.prog ++ Tryd.f9.resultTypes.toList).any (Tryd.prog.wideKeysFrom ·)) = true := by kernel_rfl
theorem k18 : Rows.fnExactClothsTextSpec.vars.all (Tryd.prog.varReadable ·) = true := by kernel_rfl
theorem k19 : Tryd.f9.resultTypes.all (fun t => Tryd.prog.readableRec t && decide (t < Tryd.prog.types.size)) = true := by kernel_rfl
theorem k20 : (Rows.fnExactClothsTextRow.ifacesOut == Tryd.f9.resultTypes.toList.any (Tryd.prog.ifacesRec ·)) = true := by kernel_rfl
theorem k21 : (Rows.fnExactClothsTextRow.loopsOut == Tryd.f9.resultTypes.toList.any (Tryd.prog.loopsFrom ·)) = true := by kernel_rfl
theorem k23 : Rows.fnExactClothsTextRow.shortTexts.isNone = true := by kernel_rfl
theorem k28 : facts.kindsOf Tryd.prog Tryd.f9 Rows.fnExactClothsTextRow = true := by kernel_rfl
theorem k29 : (Rows.fnExactClothsTextRow.pinned == Rows.fnExactClothsTextRow.pinnedBy) = true := by kernel_rfl
theorem k30 : (Rows.fnExactClothsTextRow.veiled == (Tryd.f9.params.toList ++ Rows.fnExactClothsTextSpec.plain.varTypes Tryd.prog ++ Tryd.f9.resultTypes.toList).any (Tryd.prog.veiledRec ·)) = true := by kernel_rfl
theorem k31 : Rows.fnExactClothsTextRow.veiledFits Tryd.prog Tryd.f9.params.toList (Tryd.f9.params.toList ++ Rows.fnExactClothsTextSpec.plain.varTypes Tryd.prog ++ Tryd.f9.resultTypes.toList) = true := by kernel_rfl
theorem named : Tryd.pinned.checked.prog.funcNamed Rows.fnExactClothsTextRow.func = some 9 := by kernel_rfl
theorem inst : decide (Tryd.f9.isInstance Tryd.prog Rows.fnExactClothsTextRow.origin Rows.fnExactClothsTextRow.targs) = true := by kernel_rfl
theorem stand : (Tryd.f9.params.toList.all fun u => !Tryd.prog.wantsStandIn u) = true := by kernel_rfl
theorem wft : Rows.fnExactClothsTextRow.wfByText (OpenSpec.ofChange Rows.fnExactClothsTextSpec) = true := by kernel_rfl
theorem goes : false = Rows.fnExactClothsTextRow.goesBy Tryd.pinned.checked.prog := by kernel_rfl
end Go.Proofs.YtjfimmfnhlimkaaDoor.lawClothsText
