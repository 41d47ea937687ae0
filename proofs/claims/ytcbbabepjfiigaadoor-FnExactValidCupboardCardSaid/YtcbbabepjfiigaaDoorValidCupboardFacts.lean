/-
  THE LAW FnExactValidCupboard: the facts of its row, each one by itself.
-/
import Derived.Test.YtcbbabepjfiigaaDoorCards
import Derived.Test.YtcbbabepjfiigaaDoorTie
import Derived.Test.YtcbbabepjfiigaaDoorJoined
import Derived.ProofKit
namespace Go.Proofs.YtcbbabepjfiigaaDoor.lawValidCupboard
open Go
theorem k0 : Rows.fnExactValidCupboardRow.wf (OpenSpec.ofChange Rows.fnExactValidCupboardSpec) = true := by kernel_rfl
theorem k3 : Tryd.f11.params.all (Tryd.prog.readableRec ·) = true := by kernel_rfl
theorem k4 : namedTie Tryd.prog Rows.fnExactValidCupboardRow.named Rows.fnExactValidCupboardSpec.vars = true := by kernel_rfl
theorem k5 : (Rows.fnExactValidCupboardRow.stops == []) = true := by kernel_rfl
theorem k7 : (Rows.fnExactValidCupboardRow.knobs == []) = true := by kernel_rfl
theorem k9 : (Rows.fnExactValidCupboardRow.inPlace == Tryd.prog.inPlace 11) = true := by kernel_rfl
theorem k10 : (Rows.fnExactValidCupboardRow.unfollowed == Tryd.prog.unfollowed 11) = true := by kernel_rfl
theorem k11 : (Rows.fnExactValidCupboardRow.recurses == Tryd.prog.recurses 11) = true := by kernel_rfl
theorem k12 : (Rows.fnExactValidCupboardRow.named == Tryd.prog.varsNamed 11) = true := by kernel_rfl
theorem k13 : (Rows.fnExactValidCupboardRow.maps == (Tryd.f11.params.toList ++ Rows.fnExactValidCupboardSpec.plain.varTypes Tryd.prog).any (Tryd.prog.mapsRec ·)) = true := by kernel_rfl
theorem k14 : (Rows.fnExactValidCupboardRow.ifaces == (Tryd.f11.params.toList ++ Rows.fnExactValidCupboardSpec.plain.varTypes Tryd.prog).any (Tryd.prog.ifacesRec ·)) = true := by kernel_rfl
theorem k15 : (Rows.fnExactValidCupboardRow.mapsOut == Tryd.prog.mapsAmong Tryd.f11.resultTypes.toList) = true := by kernel_rfl
theorem k16 : (Rows.fnExactValidCupboardRow.loops == (Tryd.f11.params.toList ++ Rows.fnExactValidCupboardSpec.plain.varTypes Tryd.prog).any (Tryd.prog.loopsFrom ·)) = true := by kernel_rfl
theorem k17 : (Rows.fnExactValidCupboardRow.wideKeys == (Tryd.f11.params.toList ++ Rows.fnExactValidCupboardSpec.plain.varTypes Tryd.prog ++ Tryd.f11.resultTypes.toList).any (Tryd.prog.wideKeysFrom ·)) = true := by kernel_rfl
theorem k18 : Rows.fnExactValidCupboardSpec.vars.all (Tryd.prog.varReadable ·) = true := by kernel_rfl
theorem k19 : Tryd.f11.resultTypes.all (fun t => Tryd.prog.readableRec t && decide (t < Tryd.prog.types.size)) = true := by kernel_rfl
theorem k20 : (Rows.fnExactValidCupboardRow.ifacesOut == Tryd.f11.resultTypes.toList.any (Tryd.prog.ifacesRec ·)) = true := by kernel_rfl
theorem k21 : (Rows.fnExactValidCupboardRow.loopsOut == Tryd.f11.resultTypes.toList.any (Tryd.prog.loopsFrom ·)) = true := by kernel_rfl
theorem k23 : Rows.fnExactValidCupboardRow.shortTexts.isNone = true := by kernel_rfl
theorem k28 : facts.kindsOf Tryd.prog Tryd.f11 Rows.fnExactValidCupboardRow = true := by kernel_rfl
theorem k29 : (Rows.fnExactValidCupboardRow.pinned == Rows.fnExactValidCupboardRow.pinnedBy) = true := by kernel_rfl
theorem k30 : (Rows.fnExactValidCupboardRow.veiled == (Tryd.f11.params.toList ++ Rows.fnExactValidCupboardSpec.plain.varTypes Tryd.prog ++ Tryd.f11.resultTypes.toList).any (Tryd.prog.veiledRec ·)) = true := by kernel_rfl
theorem k31 : Rows.fnExactValidCupboardRow.veiledFits Tryd.prog Tryd.f11.params.toList (Tryd.f11.params.toList ++ Rows.fnExactValidCupboardSpec.plain.varTypes Tryd.prog ++ Tryd.f11.resultTypes.toList) = true := by kernel_rfl
theorem named : Tryd.pinned.checked.prog.funcNamed Rows.fnExactValidCupboardRow.func = some 11 := by kernel_rfl
theorem inst : decide (Tryd.f11.isInstance Tryd.prog Rows.fnExactValidCupboardRow.origin Rows.fnExactValidCupboardRow.targs) = true := by kernel_rfl
theorem stand : (Tryd.f11.params.toList.all fun u => !Tryd.prog.wantsStandIn u) = true := by kernel_rfl
theorem wft : Rows.fnExactValidCupboardRow.wfByText (OpenSpec.ofChange Rows.fnExactValidCupboardSpec) = true := by kernel_rfl
theorem goes : false = Rows.fnExactValidCupboardRow.goesBy Tryd.pinned.checked.prog := by kernel_rfl
end Go.Proofs.YtcbbabepjfiigaaDoor.lawValidCupboard
