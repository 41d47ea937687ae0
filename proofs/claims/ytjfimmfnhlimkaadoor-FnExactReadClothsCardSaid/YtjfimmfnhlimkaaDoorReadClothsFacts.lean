/-
  THE LAW FnExactReadCloths: the facts of its row, each one by itself.
-/
import Derived.Test.YtjfimmfnhlimkaaDoorCards
import Derived.Test.YtjfimmfnhlimkaaDoorTie
import Derived.Test.YtjfimmfnhlimkaaDoorJoined
import Derived.ProofKit
namespace Go.Proofs.YtjfimmfnhlimkaaDoor.lawReadCloths
open Go
theorem k0 : Rows.fnExactReadClothsRow.wf (OpenSpec.ofChange Rows.fnExactReadClothsSpec) = true := by kernel_rfl
theorem k3 : Tryd.f10.params.all (Tryd.prog.readableRec ·) = true := by kernel_rfl
theorem k4 : namedTie Tryd.prog Rows.fnExactReadClothsRow.named Rows.fnExactReadClothsSpec.vars = true := by kernel_rfl
theorem k5 : (Rows.fnExactReadClothsRow.stops == []) = true := by kernel_rfl
theorem k7 : (Rows.fnExactReadClothsRow.knobs == []) = true := by kernel_rfl
theorem k9 : (Rows.fnExactReadClothsRow.inPlace == Tryd.prog.inPlace 10) = true := by kernel_rfl
theorem k10 : (Rows.fnExactReadClothsRow.unfollowed == Tryd.prog.unfollowed 10) = true := by kernel_rfl
theorem k11 : (Rows.fnExactReadClothsRow.recurses == Tryd.prog.recurses 10) = true := by kernel_rfl
theorem k12 : (Rows.fnExactReadClothsRow.named == Tryd.prog.varsNamed 10) = true := by kernel_rfl
theorem k13 : (Rows.fnExactReadClothsRow.maps == (Tryd.f10.params.toList ++ Rows.fnExactReadClothsSpec.plain.varTypes Tryd.prog).any (Tryd.prog.mapsRec ·)) = true := by kernel_rfl
theorem k14 : (Rows.fnExactReadClothsRow.ifaces == (Tryd.f10.params.toList ++ Rows.fnExactReadClothsSpec.plain.varTypes Tryd.prog).any (Tryd.prog.ifacesRec ·)) = true := by kernel_rfl
theorem k15 : (Rows.fnExactReadClothsRow.mapsOut == Tryd.prog.mapsAmong Tryd.f10.resultTypes.toList) = true := by kernel_rfl
theorem k16 : (Rows.fnExactReadClothsRow.loops == (Tryd.f10.params.toList ++ Rows.fnExactReadClothsSpec.plain.varTypes Tryd.prog).any (Tryd.prog.loopsFrom ·)) = true := by kernel_rfl
theorem k17 : (Rows.fnExactReadClothsRow.wideKeys == (Tryd.f10.params.toList ++ Rows.fnExactReadClothsSpec.plain.varTypes Tryd.prog ++ Tryd.f10.resultTypes.toList).any (Tryd.prog.wideKeysFrom ·)) = true := by kernel_rfl
theorem k18 : Rows.fnExactReadClothsSpec.vars.all (Tryd.prog.varReadable ·) = true := by kernel_rfl
theorem k19 : Tryd.f10.resultTypes.all (fun t => Tryd.prog.readableRec t && decide (t < Tryd.prog.types.size)) = true := by kernel_rfl
theorem k20 : (Rows.fnExactReadClothsRow.ifacesOut == Tryd.f10.resultTypes.toList.any (Tryd.prog.ifacesRec ·)) = true := by kernel_rfl
theorem k21 : (Rows.fnExactReadClothsRow.loopsOut == Tryd.f10.resultTypes.toList.any (Tryd.prog.loopsFrom ·)) = true := by kernel_rfl
theorem k23 : Rows.fnExactReadClothsRow.shortTexts.isNone = true := by kernel_rfl
theorem k28 : facts.kindsOf Tryd.prog Tryd.f10 Rows.fnExactReadClothsRow = true := by kernel_rfl
theorem k29 : (Rows.fnExactReadClothsRow.pinned == Rows.fnExactReadClothsRow.pinnedBy) = true := by kernel_rfl
theorem k30 : (Rows.fnExactReadClothsRow.veiled == (Tryd.f10.params.toList ++ Rows.fnExactReadClothsSpec.plain.varTypes Tryd.prog ++ Tryd.f10.resultTypes.toList).any (Tryd.prog.veiledRec ·)) = true := by kernel_rfl
theorem k31 : Rows.fnExactReadClothsRow.veiledFits Tryd.prog Tryd.f10.params.toList (Tryd.f10.params.toList ++ Rows.fnExactReadClothsSpec.plain.varTypes Tryd.prog ++ Tryd.f10.resultTypes.toList) = true := by kernel_rfl
theorem named : Tryd.pinned.checked.prog.funcNamed Rows.fnExactReadClothsRow.func = some 10 := by kernel_rfl
theorem inst : decide (Tryd.f10.isInstance Tryd.prog Rows.fnExactReadClothsRow.origin Rows.fnExactReadClothsRow.targs) = true := by kernel_rfl
theorem stand : (Tryd.f10.params.toList.all fun u => !Tryd.prog.wantsStandIn u) = true := by kernel_rfl
theorem wft : Rows.fnExactReadClothsRow.wfByText (OpenSpec.ofChange Rows.fnExactReadClothsSpec) = true := by kernel_rfl
theorem goes : false = Rows.fnExactReadClothsRow.goesBy Tryd.pinned.checked.prog := by kernel_rfl
end Go.Proofs.YtjfimmfnhlimkaaDoor.lawReadCloths
