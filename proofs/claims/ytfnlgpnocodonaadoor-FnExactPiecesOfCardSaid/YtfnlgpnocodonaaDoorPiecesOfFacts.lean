/-
  THE LAW FnExactPiecesOf: the facts of its row, each one by itself.
-/
import Derived.Test.YtfnlgpnocodonaaDoorCards
import Derived.Test.YtfnlgpnocodonaaDoorTie
import Derived.Test.YtfnlgpnocodonaaDoorJoined
import Derived.ProofKit
namespace Go.Proofs.YtfnlgpnocodonaaDoor.lawPiecesOf
open Go
theorem k0 : Rows.fnExactPiecesOfRow.wf (OpenSpec.ofChange Rows.fnExactPiecesOfSpec) = true := by kernel_rfl
theorem k3 : Tryd.f4.params.all (Tryd.prog.readableRec ·) = true := by kernel_rfl
theorem k4 : namedTie Tryd.prog Rows.fnExactPiecesOfRow.named Rows.fnExactPiecesOfSpec.vars = true := by kernel_rfl
theorem k5 : (Rows.fnExactPiecesOfRow.stops == []) = true := by kernel_rfl
theorem k7 : (Rows.fnExactPiecesOfRow.knobs == []) = true := by kernel_rfl
theorem k9 : (Rows.fnExactPiecesOfRow.inPlace == Tryd.prog.inPlace 4) = true := by kernel_rfl
theorem k10 : (Rows.fnExactPiecesOfRow.unfollowed == Tryd.prog.unfollowed 4) = true := by kernel_rfl
theorem k11 : (Rows.fnExactPiecesOfRow.recurses == Tryd.prog.recurses 4) = true := by kernel_rfl
theorem k12 : (Rows.fnExactPiecesOfRow.named == Tryd.prog.varsNamed 4) = true := by kernel_rfl
theorem k13 : (Rows.fnExactPiecesOfRow.maps == (Tryd.f4.params.toList ++ Rows.fnExactPiecesOfSpec.plain.varTypes Tryd.prog).any (Tryd.prog.mapsRec ·)) = true := by kernel_rfl
theorem k14 : (Rows.fnExactPiecesOfRow.ifaces == (Tryd.f4.params.toList ++ Rows.fnExactPiecesOfSpec.plain.varTypes Tryd.prog).any (Tryd.prog.ifacesRec ·)) = true := by kernel_rfl
theorem k15 : (Rows.fnExactPiecesOfRow.mapsOut == Tryd.prog.mapsAmong Tryd.f4.resultTypes.toList) = true := by kernel_rfl
theorem k16 : (Rows.fnExactPiecesOfRow.loops == (Tryd.f4.params.toList ++ Rows.fnExactPiecesOfSpec.plain.varTypes Tryd.prog).any (Tryd.prog.loopsFrom ·)) = true := by kernel_rfl
theorem k17 : (Rows.fnExactPiecesOfRow.wideKeys == (Tryd.f4.params.toList ++ Rows.fnExactPiecesOfSpec.plain.varTypes Tryd.prog ++ Tryd.f4.resultTypes.toList).any (Tryd.prog.wideKeysFrom ·)) = true := by kernel_rfl
theorem k18 : Rows.fnExactPiecesOfSpec.vars.all (Tryd.prog.varReadable ·) = true := by kernel_rfl
theorem k19 : Tryd.f4.resultTypes.all (fun t => Tryd.prog.readableRec t && decide (t < Tryd.prog.types.size)) = true := by kernel_rfl
theorem k20 : (Rows.fnExactPiecesOfRow.ifacesOut == Tryd.f4.resultTypes.toList.any (Tryd.prog.ifacesRec ·)) = true := by kernel_rfl
theorem k21 : (Rows.fnExactPiecesOfRow.loopsOut == Tryd.f4.resultTypes.toList.any (Tryd.prog.loopsFrom ·)) = true := by kernel_rfl
theorem k23 : Rows.fnExactPiecesOfRow.shortTexts.isNone = true := by kernel_rfl
theorem k28 : facts.kindsOf Tryd.prog Tryd.f4 Rows.fnExactPiecesOfRow = true := by kernel_rfl
theorem k29 : (Rows.fnExactPiecesOfRow.pinned == Rows.fnExactPiecesOfRow.pinnedBy) = true := by kernel_rfl
theorem k30 : (Rows.fnExactPiecesOfRow.veiled == (Tryd.f4.params.toList ++ Rows.fnExactPiecesOfSpec.plain.varTypes Tryd.prog ++ Tryd.f4.resultTypes.toList).any (Tryd.prog.veiledRec ·)) = true := by kernel_rfl
theorem k31 : Rows.fnExactPiecesOfRow.veiledFits Tryd.prog Tryd.f4.params.toList (Tryd.f4.params.toList ++ Rows.fnExactPiecesOfSpec.plain.varTypes Tryd.prog ++ Tryd.f4.resultTypes.toList) = true := by kernel_rfl
theorem named : Tryd.pinned.checked.prog.funcNamed Rows.fnExactPiecesOfRow.func = some 4 := by kernel_rfl
theorem inst : decide (Tryd.f4.isInstance Tryd.prog Rows.fnExactPiecesOfRow.origin Rows.fnExactPiecesOfRow.targs) = true := by kernel_rfl
theorem stand : (Tryd.f4.params.toList.all fun u => !Tryd.prog.wantsStandIn u) = true := by kernel_rfl
theorem wft : Rows.fnExactPiecesOfRow.wfByText (OpenSpec.ofChange Rows.fnExactPiecesOfSpec) = true := by kernel_rfl
theorem goes : false = Rows.fnExactPiecesOfRow.goesBy Tryd.pinned.checked.prog := by kernel_rfl
end Go.Proofs.YtfnlgpnocodonaaDoor.lawPiecesOf
