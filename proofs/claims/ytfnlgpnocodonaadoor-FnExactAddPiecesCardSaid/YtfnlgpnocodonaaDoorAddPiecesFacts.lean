/-
  THE LAW FnExactAddPieces: the facts of its row, each one by itself.
-/
import Derived.Test.YtfnlgpnocodonaaDoorCards
import Derived.Test.YtfnlgpnocodonaaDoorTie
import Derived.Test.YtfnlgpnocodonaaDoorJoined
import Derived.ProofKit
namespace Go.Proofs.YtfnlgpnocodonaaDoor.lawAddPieces
open Go
theorem k0 : Rows.fnExactAddPiecesRow.wf (OpenSpec.ofChange Rows.fnExactAddPiecesSpec) = true := by kernel_rfl
theorem k3 : Tryd.f8.params.all (Tryd.prog.readableRec ·) = true := by kernel_rfl
theorem k4 : namedTie Tryd.prog Rows.fnExactAddPiecesRow.named Rows.fnExactAddPiecesSpec.vars = true := by kernel_rfl
theorem k5 : (Rows.fnExactAddPiecesRow.stops == []) = true := by kernel_rfl
theorem k7 : (Rows.fnExactAddPiecesRow.knobs == []) = true := by kernel_rfl
theorem k9 : (Rows.fnExactAddPiecesRow.inPlace == Tryd.prog.inPlace 8) = true := by kernel_rfl
theorem k10 : (Rows.fnExactAddPiecesRow.unfollowed == Tryd.prog.unfollowed 8) = true := by kernel_rfl
theorem k11 : (Rows.fnExactAddPiecesRow.recurses == Tryd.prog.recurses 8) = true := by kernel_rfl
theorem k12 : (Rows.fnExactAddPiecesRow.named == Tryd.prog.varsNamed 8) = true := by kernel_rfl
theorem k13 : (Rows.fnExactAddPiecesRow.maps == (Tryd.f8.params.toList ++ Rows.fnExactAddPiecesSpec.plain.varTypes Tryd.prog).any (Tryd.prog.mapsRec ·)) = true := by kernel_rfl
theorem k14 : (Rows.fnExactAddPiecesRow.ifaces == (Tryd.f8.params.toList ++ Rows.fnExactAddPiecesSpec.plain.varTypes Tryd.prog).any (Tryd.prog.ifacesRec ·)) = true := by kernel_rfl
theorem k15 : (Rows.fnExactAddPiecesRow.mapsOut == Tryd.prog.mapsAmong Tryd.f8.resultTypes.toList) = true := by kernel_rfl
theorem k16 : (Rows.fnExactAddPiecesRow.loops == (Tryd.f8.params.toList ++ Rows.fnExactAddPiecesSpec.plain.varTypes Tryd.prog).any (Tryd.prog.loopsFrom ·)) = true := by kernel_rfl
theorem k17 : (Rows.fnExactAddPiecesRow.wideKeys == (Tryd.f8.params.toList ++ Rows.fnExactAddPiecesSpec.plain.varTypes Tryd.prog ++ Tryd.f8.resultTypes.toList).any (Tryd.prog.wideKeysFrom ·)) = true := by kernel_rfl
theorem k18 : Rows.fnExactAddPiecesSpec.vars.all (Tryd.prog.varReadable ·) = true := by kernel_rfl
theorem k19 : Tryd.f8.resultTypes.all (fun t => Tryd.prog.readableRec t && decide (t < Tryd.prog.types.size)) = true := by kernel_rfl
theorem k20 : (Rows.fnExactAddPiecesRow.ifacesOut == Tryd.f8.resultTypes.toList.any (Tryd.prog.ifacesRec ·)) = true := by kernel_rfl
theorem k21 : (Rows.fnExactAddPiecesRow.loopsOut == Tryd.f8.resultTypes.toList.any (Tryd.prog.loopsFrom ·)) = true := by kernel_rfl
theorem k23 : Rows.fnExactAddPiecesRow.shortTexts.isNone = true := by kernel_rfl
theorem k28 : facts.kindsOf Tryd.prog Tryd.f8 Rows.fnExactAddPiecesRow = true := by kernel_rfl
theorem k29 : (Rows.fnExactAddPiecesRow.pinned == Rows.fnExactAddPiecesRow.pinnedBy) = true := by kernel_rfl
theorem k30 : (Rows.fnExactAddPiecesRow.veiled == (Tryd.f8.params.toList ++ Rows.fnExactAddPiecesSpec.plain.varTypes Tryd.prog ++ Tryd.f8.resultTypes.toList).any (Tryd.prog.veiledRec ·)) = true := by kernel_rfl
theorem k31 : Rows.fnExactAddPiecesRow.veiledFits Tryd.prog Tryd.f8.params.toList (Tryd.f8.params.toList ++ Rows.fnExactAddPiecesSpec.plain.varTypes Tryd.prog ++ Tryd.f8.resultTypes.toList) = true := by kernel_rfl
theorem named : Tryd.pinned.checked.prog.funcNamed Rows.fnExactAddPiecesRow.func = some 8 := by kernel_rfl
theorem inst : decide (Tryd.f8.isInstance Tryd.prog Rows.fnExactAddPiecesRow.origin Rows.fnExactAddPiecesRow.targs) = true := by kernel_rfl
theorem stand : (Tryd.f8.params.toList.all fun u => !Tryd.prog.wantsStandIn u) = true := by kernel_rfl
theorem wft : Rows.fnExactAddPiecesRow.wfByText (OpenSpec.ofChange Rows.fnExactAddPiecesSpec) = true := by kernel_rfl
theorem goes : false = Rows.fnExactAddPiecesRow.goesBy Tryd.pinned.checked.prog := by kernel_rfl
end Go.Proofs.YtfnlgpnocodonaaDoor.lawAddPieces
