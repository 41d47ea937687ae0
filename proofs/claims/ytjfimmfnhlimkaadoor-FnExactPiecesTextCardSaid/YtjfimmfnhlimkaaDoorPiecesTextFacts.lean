/-
  THE LAW FnExactPiecesText: the facts of its row, each one by itself.
-/
import Derived.Test.YtjfimmfnhlimkaaDoorCards
import Derived.Test.YtjfimmfnhlimkaaDoorTie
import Derived.Test.YtjfimmfnhlimkaaDoorJoined
import Derived.ProofKit
namespace Go.Proofs.YtjfimmfnhlimkaaDoor.lawPiecesText
open Go
theorem k0 : Rows.fnExactPiecesTextRow.wf (OpenSpec.ofChange Rows.fnExactPiecesTextSpec) = true := by kernel_rfl
theorem k3 : Tryd.f3.params.all (Tryd.prog.readableRec ·) = true := by kernel_rfl
theorem k4 : namedTie Tryd.prog Rows.fnExactPiecesTextRow.named Rows.fnExactPiecesTextSpec.vars = true := by kernel_rfl
theorem k5 : (Rows.fnExactPiecesTextRow.stops == []) = true := by kernel_rfl
theorem k7 : (Rows.fnExactPiecesTextRow.knobs == []) = true := by kernel_rfl
theorem k9 : (Rows.fnExactPiecesTextRow.inPlace == Tryd.prog.inPlace 3) = true := by kernel_rfl
theorem k10 : (Rows.fnExactPiecesTextRow.unfollowed == Tryd.prog.unfollowed 3) = true := by kernel_rfl
theorem k11 : (Rows.fnExactPiecesTextRow.recurses == Tryd.prog.recurses 3) = true := by kernel_rfl
theorem k12 : (Rows.fnExactPiecesTextRow.named == Tryd.prog.varsNamed 3) = true := by kernel_rfl
theorem k13 : (Rows.fnExactPiecesTextRow.maps == (Tryd.f3.params.toList ++ Rows.fnExactPiecesTextSpec.plain.varTypes Tryd.prog).any (Tryd.prog.mapsRec ·)) = true := by kernel_rfl
theorem k14 : (Rows.fnExactPiecesTextRow.ifaces == (Tryd.f3.params.toList ++ Rows.fnExactPiecesTextSpec.plain.varTypes Tryd.prog).any (Tryd.prog.ifacesRec ·)) = true := by kernel_rfl
theorem k15 : (Rows.fnExactPiecesTextRow.mapsOut == Tryd.prog.mapsAmong Tryd.f3.resultTypes.toList) = true := by kernel_rfl
theorem k16 : (Rows.fnExactPiecesTextRow.loops == (Tryd.f3.params.toList ++ Rows.fnExactPiecesTextSpec.plain.varTypes Tryd.prog).any (Tryd.prog.loopsFrom ·)) = true := by kernel_rfl
theorem k17 : (Rows.fnExactPiecesTextRow.wideKeys == (Tryd.f3.params.toList ++ Rows.fnExactPiecesTextSpec.plain.varTypes Tryd.prog ++ Tryd.f3.resultTypes.toList).any (Tryd.prog.wideKeysFrom ·)) = true := by kernel_rfl
theorem k18 : Rows.fnExactPiecesTextSpec.vars.all (Tryd.prog.varReadable ·) = true := by kernel_rfl
theorem k19 : Tryd.f3.resultTypes.all (fun t => Tryd.prog.readableRec t && decide (t < Tryd.prog.types.size)) = true := by kernel_rfl
theorem k20 : (Rows.fnExactPiecesTextRow.ifacesOut == Tryd.f3.resultTypes.toList.any (Tryd.prog.ifacesRec ·)) = true := by kernel_rfl
theorem k21 : (Rows.fnExactPiecesTextRow.loopsOut == Tryd.f3.resultTypes.toList.any (Tryd.prog.loopsFrom ·)) = true := by kernel_rfl
theorem k23 : Rows.fnExactPiecesTextRow.shortTexts.isNone = true := by kernel_rfl
theorem k28 : facts.kindsOf Tryd.prog Tryd.f3 Rows.fnExactPiecesTextRow = true := by kernel_rfl
theorem k29 : (Rows.fnExactPiecesTextRow.pinned == Rows.fnExactPiecesTextRow.pinnedBy) = true := by kernel_rfl
theorem k30 : (Rows.fnExactPiecesTextRow.veiled == (Tryd.f3.params.toList ++ Rows.fnExactPiecesTextSpec.plain.varTypes Tryd.prog ++ Tryd.f3.resultTypes.toList).any (Tryd.prog.veiledRec ·)) = true := by kernel_rfl
theorem k31 : Rows.fnExactPiecesTextRow.veiledFits Tryd.prog Tryd.f3.params.toList (Tryd.f3.params.toList ++ Rows.fnExactPiecesTextSpec.plain.varTypes Tryd.prog ++ Tryd.f3.resultTypes.toList) = true := by kernel_rfl
theorem named : Tryd.pinned.checked.prog.funcNamed Rows.fnExactPiecesTextRow.func = some 3 := by kernel_rfl
theorem inst : decide (Tryd.f3.isInstance Tryd.prog Rows.fnExactPiecesTextRow.origin Rows.fnExactPiecesTextRow.targs) = true := by kernel_rfl
theorem stand : (Tryd.f3.params.toList.all fun u => !Tryd.prog.wantsStandIn u) = true := by kernel_rfl
theorem wft : Rows.fnExactPiecesTextRow.wfByText (OpenSpec.ofChange Rows.fnExactPiecesTextSpec) = true := by kernel_rfl
theorem goes : false = Rows.fnExactPiecesTextRow.goesBy Tryd.pinned.checked.prog := by kernel_rfl
end Go.Proofs.YtjfimmfnhlimkaaDoor.lawPiecesText
