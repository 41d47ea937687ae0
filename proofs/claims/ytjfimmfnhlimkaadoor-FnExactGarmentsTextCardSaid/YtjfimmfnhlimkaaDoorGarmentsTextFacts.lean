/-
  THE LAW FnExactGarmentsText: the facts of its row, each one by itself.
-/
import Derived.Test.YtjfimmfnhlimkaaDoorCards
import Derived.Test.YtjfimmfnhlimkaaDoorTie
import Derived.Test.YtjfimmfnhlimkaaDoorJoined
import Derived.ProofKit
namespace Go.Proofs.YtjfimmfnhlimkaaDoor.lawGarmentsText
open Go
theorem k0 : Rows.fnExactGarmentsTextRow.wf (OpenSpec.ofChange Rows.fnExactGarmentsTextSpec) = true := by kernel_rfl
theorem k3 : Tryd.f7.params.all (Tryd.prog.readableRec ·) = true := by kernel_rfl
theorem k4 : namedTie Tryd.prog Rows.fnExactGarmentsTextRow.named Rows.fnExactGarmentsTextSpec.vars = true := by kernel_rfl
theorem k5 : (Rows.fnExactGarmentsTextRow.stops == []) = true := by kernel_rfl
theorem k7 : (Rows.fnExactGarmentsTextRow.knobs == []) = true := by kernel_rfl
theorem k9 : (Rows.fnExactGarmentsTextRow.inPlace == Tryd.prog.inPlace 7) = true := by kernel_rfl
theorem k10 : (Rows.fnExactGarmentsTextRow.unfollowed == Tryd.prog.unfollowed 7) = true := by kernel_rfl
theorem k11 : (Rows.fnExactGarmentsTextRow.recurses == Tryd.prog.recurses 7) = true := by kernel_rfl
theorem k12 : (Rows.fnExactGarmentsTextRow.named == Tryd.prog.varsNamed 7) = true := by kernel_rfl
theorem k13 : (Rows.fnExactGarmentsTextRow.maps == (Tryd.f7.params.toList ++ Rows.fnExactGarmentsTextSpec.plain.varTypes Tryd.prog).any (Tryd.prog.mapsRec ·)) = true := by kernel_rfl
theorem k14 : (Rows.fnExactGarmentsTextRow.ifaces == (Tryd.f7.params.toList ++ Rows.fnExactGarmentsTextSpec.plain.varTypes Tryd.prog).any (Tryd.prog.ifacesRec ·)) = true := by kernel_rfl
theorem k15 : (Rows.fnExactGarmentsTextRow.mapsOut == Tryd.prog.mapsAmong Tryd.f7.resultTypes.toList) = true := by kernel_rfl
theorem k16 : (Rows.fnExactGarmentsTextRow.loops == (Tryd.f7.params.toList ++ Rows.fnExactGarmentsTextSpec.plain.varTypes Tryd.prog).any (Tryd.prog.loopsFrom ·)) = true := by kernel_rfl
theorem k17 : (Rows.fnExactGarmentsTextRow.wideKeys == (Tryd.f7.params.toList ++ Rows.fnExactGarmentsTextSpec.plain.varTypes Tryd.prog ++ Tryd.f7.resultTypes.toList).any (Tryd.prog.wideKeysFrom ·)) = true := by kernel_rfl
theorem k18 : Rows.fnExactGarmentsTextSpec.vars.all (Tryd.prog.varReadable ·) = true := by kernel_rfl
theorem k19 : Tryd.f7.resultTypes.all (fun t => Tryd.prog.readableRec t && decide (t < Tryd.prog.types.size)) = true := by kernel_rfl
theorem k20 : (Rows.fnExactGarmentsTextRow.ifacesOut == Tryd.f7.resultTypes.toList.any (Tryd.prog.ifacesRec ·)) = true := by kernel_rfl
theorem k21 : (Rows.fnExactGarmentsTextRow.loopsOut == Tryd.f7.resultTypes.toList.any (Tryd.prog.loopsFrom ·)) = true := by kernel_rfl
theorem k23 : Rows.fnExactGarmentsTextRow.shortTexts.isNone = true := by kernel_rfl
theorem k28 : facts.kindsOf Tryd.prog Tryd.f7 Rows.fnExactGarmentsTextRow = true := by kernel_rfl
theorem k29 : (Rows.fnExactGarmentsTextRow.pinned == Rows.fnExactGarmentsTextRow.pinnedBy) = true := by kernel_rfl
theorem k30 : (Rows.fnExactGarmentsTextRow.veiled == (Tryd.f7.params.toList ++ Rows.fnExactGarmentsTextSpec.plain.varTypes Tryd.prog ++ Tryd.f7.resultTypes.toList).any (Tryd.prog.veiledRec ·)) = true := by kernel_rfl
theorem k31 : Rows.fnExactGarmentsTextRow.veiledFits Tryd.prog Tryd.f7.params.toList (Tryd.f7.params.toList ++ Rows.fnExactGarmentsTextSpec.plain.varTypes Tryd.prog ++ Tryd.f7.resultTypes.toList) = true := by kernel_rfl
theorem named : Tryd.pinned.checked.prog.funcNamed Rows.fnExactGarmentsTextRow.func = some 7 := by kernel_rfl
theorem inst : decide (Tryd.f7.isInstance Tryd.prog Rows.fnExactGarmentsTextRow.origin Rows.fnExactGarmentsTextRow.targs) = true := by kernel_rfl
theorem stand : (Tryd.f7.params.toList.all fun u => !Tryd.prog.wantsStandIn u) = true := by kernel_rfl
theorem wft : Rows.fnExactGarmentsTextRow.wfByText (OpenSpec.ofChange Rows.fnExactGarmentsTextSpec) = true := by kernel_rfl
theorem goes : false = Rows.fnExactGarmentsTextRow.goesBy Tryd.pinned.checked.prog := by kernel_rfl
end Go.Proofs.YtjfimmfnhlimkaaDoor.lawGarmentsText
