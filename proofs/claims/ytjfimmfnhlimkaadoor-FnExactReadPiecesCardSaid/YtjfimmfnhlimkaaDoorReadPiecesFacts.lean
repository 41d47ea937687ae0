/-
  THE LAW FnExactReadPieces: the facts of its row, each one by itself.
-/
import Derived.Test.YtjfimmfnhlimkaaDoorCards
import Derived.Test.YtjfimmfnhlimkaaDoorTie
import Derived.Test.YtjfimmfnhlimkaaDoorJoined
import Derived.ProofKit
namespace Go.Proofs.YtjfimmfnhlimkaaDoor.lawReadPieces
open Go
theorem k0 : Rows.fnExactReadPiecesRow.wf (OpenSpec.ofChange Rows.fnExactReadPiecesSpec) = true := by kernel_rfl
theorem k3 : Tryd.f4.params.all (Tryd.prog.readableRec ·) = true := by kernel_rfl
theorem k4 : namedTie Tryd.prog Rows.fnExactReadPiecesRow.named Rows.fnExactReadPiecesSpec.vars = true := by kernel_rfl
theorem k5 : (Rows.fnExactReadPiecesRow.stops == []) = true := by kernel_rfl
theorem k7 : (Rows.fnExactReadPiecesRow.knobs == []) = true := by kernel_rfl
theorem k9 : (Rows.fnExactReadPiecesRow.inPlace == Tryd.prog.inPlace 4) = true := by kernel_rfl
theorem k10 : (Rows.fnExactReadPiecesRow.unfollowed == Tryd.prog.unfollowed 4) = true := by kernel_rfl
theorem k11 : (Rows.fnExactReadPiecesRow.recurses == Tryd.prog.recurses 4) = true := by kernel_rfl
theorem k12 : (Rows.fnExactReadPiecesRow.named == Tryd.prog.varsNamed 4) = true := by kernel_rfl
theorem k13 : (Rows.fnExactReadPiecesRow.maps == (Tryd.f4.params.toList ++ Rows.fnExactReadPiecesSpec.plain.varTypes Tryd.prog).any (Tryd.prog.mapsRec ·)) = true := by kernel_rfl
theorem k14 : (Rows.fnExactReadPiecesRow.ifaces == (Tryd.f4.params.toList ++ Rows.fnExactReadPiecesSpec.plain.varTypes Tryd.prog).any (Tryd.prog.ifacesRec ·)) = true := by kernel_rfl
theorem k15 : (Rows.fnExactReadPiecesRow.mapsOut == Tryd.prog.mapsAmong Tryd.f4.resultTypes.toList) = true := by kernel_rfl
theorem k16 : (Rows.fnExactReadPiecesRow.loops == (Tryd.f4.params.toList ++ Rows.fnExactReadPiecesSpec.plain.varTypes Tryd.prog).any (Tryd.prog.loopsFrom ·)) = true := by kernel_rfl
theorem k17 : (Rows.fnExactReadPiecesRow.wideKeys == (Tryd.f4.params.toList ++ Rows.fnExactReadPiecesSpec.plain.varTypes Tryd.prog ++ Tryd.f4.resultTypes.toList).any (Tryd.prog.wideKeysFrom ·)) = true := by kernel_rfl
theorem k18 : Rows.fnExactReadPiecesSpec.vars.all (Tryd.prog.varReadable ·) = true := by kernel_rfl
theorem k19 : Tryd.f4.resultTypes.all (fun t => Tryd.prog.readableRec t && decide (t < Tryd.prog.types.size)) = true := by kernel_rfl
theorem k20 : (Rows.fnExactReadPiecesRow.ifacesOut == Tryd.f4.resultTypes.toList.any (Tryd.prog.ifacesRec ·)) = true := by kernel_rfl
theorem k21 : (Rows.fnExactReadPiecesRow.loopsOut == Tryd.f4.resultTypes.toList.any (Tryd.prog.loopsFrom ·)) = true := by kernel_rfl
theorem k23 : Rows.fnExactReadPiecesRow.shortTexts.isNone = true := by kernel_rfl
theorem k28 : facts.kindsOf Tryd.prog Tryd.f4 Rows.fnExactReadPiecesRow = true := by kernel_rfl
theorem k29 : (Rows.fnExactReadPiecesRow.pinned == Rows.fnExactReadPiecesRow.pinnedBy) = true := by kernel_rfl
theorem k30 : (Rows.fnExactReadPiecesRow.veiled == (Tryd.f4.params.toList ++ Rows.fnExactReadPiecesSpec.plain.varTypes Tryd.prog ++ Tryd.f4.resultTypes.toList).any (Tryd.prog.veiledRec ·)) = true := by kernel_rfl
theorem k31 : Rows.fnExactReadPiecesRow.veiledFits Tryd.prog Tryd.f4.params.toList (Tryd.f4.params.toList ++ Rows.fnExactReadPiecesSpec.plain.varTypes Tryd.prog ++ Tryd.f4.resultTypes.toList) = true := by kernel_rfl
theorem named : Tryd.pinned.checked.prog.funcNamed Rows.fnExactReadPiecesRow.func = some 4 := by kernel_rfl
theorem inst : decide (Tryd.f4.isInstance Tryd.prog Rows.fnExactReadPiecesRow.origin Rows.fnExactReadPiecesRow.targs) = true := by kernel_rfl
theorem stand : (Tryd.f4.params.toList.all fun u => !Tryd.prog.wantsStandIn u) = true := by kernel_rfl
theorem wft : Rows.fnExactReadPiecesRow.wfByText (OpenSpec.ofChange Rows.fnExactReadPiecesSpec) = true := by kernel_rfl
theorem goes : false = Rows.fnExactReadPiecesRow.goesBy Tryd.pinned.checked.prog := by kernel_rfl
end Go.Proofs.YtjfimmfnhlimkaaDoor.lawReadPieces
