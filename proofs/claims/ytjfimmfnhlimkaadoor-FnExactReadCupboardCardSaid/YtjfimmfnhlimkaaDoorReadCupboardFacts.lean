/-
  THE LAW FnExactReadCupboard: the facts of its row, each one by itself.
-/
import Derived.Test.YtjfimmfnhlimkaaDoorCards
import Derived.Test.YtjfimmfnhlimkaaDoorTie
import Derived.Test.YtjfimmfnhlimkaaDoorJoined
import Derived.ProofKit
namespace Go.Proofs.YtjfimmfnhlimkaaDoor.lawReadCupboard
open Go
theorem k0 : Rows.fnExactReadCupboardRow.wf (OpenSpec.ofChange Rows.fnExactReadCupboardSpec) = true := by kernel_rfl
theorem k3 : Tryd.f13.params.all (Tryd.prog.readableRec ·) = true := by kernel_rfl
theorem k4 : namedTie Tryd.prog Rows.fnExactReadCupboardRow.named Rows.fnExactReadCupboardSpec.vars = true := by kernel_rfl
theorem k5 : (Rows.fnExactReadCupboardRow.stops == []) = true := by kernel_rfl
theorem k7 : (Rows.fnExactReadCupboardRow.knobs == []) = true := by kernel_rfl
theorem k9 : (Rows.fnExactReadCupboardRow.inPlace == Tryd.prog.inPlace 13) = true := by kernel_rfl
theorem k10 : (Rows.fnExactReadCupboardRow.unfollowed == Tryd.prog.unfollowed 13) = true := by kernel_rfl
theorem k11 : (Rows.fnExactReadCupboardRow.recurses == Tryd.prog.recurses 13) = true := by kernel_rfl
theorem k12 : (Rows.fnExactReadCupboardRow.named == Tryd.prog.varsNamed 13) = true := by kernel_rfl
theorem k13 : (Rows.fnExactReadCupboardRow.maps == (Tryd.f13.params.toList ++ Rows.fnExactReadCupboardSpec.plain.varTypes Tryd.prog).any (Tryd.prog.mapsRec ·)) = true := by kernel_rfl
theorem k14 : (Rows.fnExactReadCupboardRow.ifaces == (Tryd.f13.params.toList ++ Rows.fnExactReadCupboardSpec.plain.varTypes Tryd.prog).any (Tryd.prog.ifacesRec ·)) = true := by kernel_rfl
theorem k15 : (Rows.fnExactReadCupboardRow.mapsOut == Tryd.prog.mapsAmong Tryd.f13.resultTypes.toList) = true := by kernel_rfl
theorem k16 : (Rows.fnExactReadCupboardRow.loops == (Tryd.f13.params.toList ++ Rows.fnExactReadCupboardSpec.plain.varTypes Tryd.prog).any (Tryd.prog.loopsFrom ·)) = true := by kernel_rfl
theorem k17 : (Rows.fnExactReadCupboardRow.wideKeys == (Tryd.f13.params.toList ++ Rows.fnExactReadCupboardSpec.plain.varTypes Tryd.prog ++ Tryd.f13.resultTypes.toList).any (Tryd.prog.wideKeysFrom ·)) = true := by kernel_rfl
theorem k18 : Rows.fnExactReadCupboardSpec.vars.all (Tryd.prog.varReadable ·) = true := by kernel_rfl
theorem k19 : Tryd.f13.resultTypes.all (fun t => Tryd.prog.readableRec t && decide (t < Tryd.prog.types.size)) = true := by kernel_rfl
theorem k20 : (Rows.fnExactReadCupboardRow.ifacesOut == Tryd.f13.resultTypes.toList.any (Tryd.prog.ifacesRec ·)) = true := by kernel_rfl
theorem k21 : (Rows.fnExactReadCupboardRow.loopsOut == Tryd.f13.resultTypes.toList.any (Tryd.prog.loopsFrom ·)) = true := by kernel_rfl
theorem k23 : Rows.fnExactReadCupboardRow.shortTexts.isNone = true := by kernel_rfl
theorem k28 : facts.kindsOf Tryd.prog Tryd.f13 Rows.fnExactReadCupboardRow = true := by kernel_rfl
theorem k29 : (Rows.fnExactReadCupboardRow.pinned == Rows.fnExactReadCupboardRow.pinnedBy) = true := by kernel_rfl
theorem k30 : (Rows.fnExactReadCupboardRow.veiled == (Tryd.f13.params.toList ++ Rows.fnExactReadCupboardSpec.plain.varTypes Tryd.prog ++ Tryd.f13.resultTypes.toList).any (Tryd.prog.veiledRec ·)) = true := by kernel_rfl
theorem k31 : Rows.fnExactReadCupboardRow.veiledFits Tryd.prog Tryd.f13.params.toList (Tryd.f13.params.toList ++ Rows.fnExactReadCupboardSpec.plain.varTypes Tryd.prog ++ Tryd.f13.resultTypes.toList) = true := by kernel_rfl
theorem named : Tryd.pinned.checked.prog.funcNamed Rows.fnExactReadCupboardRow.func = some 13 := by kernel_rfl
theorem inst : decide (Tryd.f13.isInstance Tryd.prog Rows.fnExactReadCupboardRow.origin Rows.fnExactReadCupboardRow.targs) = true := by kernel_rfl
theorem stand : (Tryd.f13.params.toList.all fun u => !Tryd.prog.wantsStandIn u) = true := by kernel_rfl
theorem wft : Rows.fnExactReadCupboardRow.wfByText (OpenSpec.ofChange Rows.fnExactReadCupboardSpec) = true := by kernel_rfl
theorem goes : false = Rows.fnExactReadCupboardRow.goesBy Tryd.pinned.checked.prog := by kernel_rfl
end Go.Proofs.YtjfimmfnhlimkaaDoor.lawReadCupboard
