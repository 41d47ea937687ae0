/-
  THE LAW FnExactFitsShelf: the facts of its row, each one by itself.
-/
import Derived.Test.YtcbbabepjfiigaaDoorCards
import Derived.Test.YtcbbabepjfiigaaDoorTie
import Derived.Test.YtcbbabepjfiigaaDoorJoined
import Derived.ProofKit
namespace Go.Proofs.YtcbbabepjfiigaaDoor.lawFitsShelf
open Go
theorem k0 : Rows.fnExactFitsShelfRow.wf (OpenSpec.ofChange Rows.fnExactFitsShelfSpec) = true := by kernel_rfl
theorem k3 : Tryd.f9.params.all (Tryd.prog.readableRec ·) = true := by kernel_rfl
theorem k4 : namedTie Tryd.prog Rows.fnExactFitsShelfRow.named Rows.fnExactFitsShelfSpec.vars = true := by kernel_rfl
theorem k5 : (Rows.fnExactFitsShelfRow.stops == []) = true := by kernel_rfl
theorem k7 : (Rows.fnExactFitsShelfRow.knobs == []) = true := by kernel_rfl
theorem k9 : (Rows.fnExactFitsShelfRow.inPlace == Tryd.prog.inPlace 9) = true := by kernel_rfl
theorem k10 : (Rows.fnExactFitsShelfRow.unfollowed == Tryd.prog.unfollowed 9) = true := by kernel_rfl
theorem k11 : (Rows.fnExactFitsShelfRow.recurses == Tryd.prog.recurses 9) = true := by kernel_rfl
theorem k12 : (Rows.fnExactFitsShelfRow.named == Tryd.prog.varsNamed 9) = true := by kernel_rfl
theorem k13 : (Rows.fnExactFitsShelfRow.maps == (Tryd.f9.params.toList ++ Rows.fnExactFitsShelfSpec.plain.varTypes Tryd.prog).any (Tryd.prog.mapsRec ·)) = true := by kernel_rfl
theorem k14 : (Rows.fnExactFitsShelfRow.ifaces == (Tryd.f9.params.toList ++ Rows.fnExactFitsShelfSpec.plain.varTypes Tryd.prog).any (Tryd.prog.ifacesRec ·)) = true := by kernel_rfl
theorem k15 : (Rows.fnExactFitsShelfRow.mapsOut == Tryd.prog.mapsAmong Tryd.f9.resultTypes.toList) = true := by kernel_rfl
theorem k16 : (Rows.fnExactFitsShelfRow.loops == (Tryd.f9.params.toList ++ Rows.fnExactFitsShelfSpec.plain.varTypes Tryd.prog).any (Tryd.prog.loopsFrom ·)) = true := by kernel_rfl
theorem k17 : (Rows.fnExactFitsShelfRow.wideKeys == (Tryd.f9.params.toList ++ Rows.fnExactFitsShelfSpec.plain.varTypes Tryd.prog ++ Tryd.f9.resultTypes.toList).any (Tryd.prog.wideKeysFrom ·)) = true := by kernel_rfl
theorem k18 : Rows.fnExactFitsShelfSpec.vars.all (Tryd.prog.varReadable ·) = true := by kernel_rfl
theorem k19 : Tryd.f9.resultTypes.all (fun t => Tryd.prog.readableRec t && decide (t < Tryd.prog.types.size)) = true := by kernel_rfl
theorem k20 : (Rows.fnExactFitsShelfRow.ifacesOut == Tryd.f9.resultTypes.toList.any (Tryd.prog.ifacesRec ·)) = true := by kernel_rfl
theorem k21 : (Rows.fnExactFitsShelfRow.loopsOut == Tryd.f9.resultTypes.toList.any (Tryd.prog.loopsFrom ·)) = true := by kernel_rfl
theorem k23 : Rows.fnExactFitsShelfRow.shortTexts.isNone = true := by kernel_rfl
theorem k28 : facts.kindsOf Tryd.prog Tryd.f9 Rows.fnExactFitsShelfRow = true := by kernel_rfl
theorem k29 : (Rows.fnExactFitsShelfRow.pinned == Rows.fnExactFitsShelfRow.pinnedBy) = true := by kernel_rfl
theorem k30 : (Rows.fnExactFitsShelfRow.veiled == (Tryd.f9.params.toList ++ Rows.fnExactFitsShelfSpec.plain.varTypes Tryd.prog ++ Tryd.f9.resultTypes.toList).any (Tryd.prog.veiledRec ·)) = true := by kernel_rfl
theorem k31 : Rows.fnExactFitsShelfRow.veiledFits Tryd.prog Tryd.f9.params.toList (Tryd.f9.params.toList ++ Rows.fnExactFitsShelfSpec.plain.varTypes Tryd.prog ++ Tryd.f9.resultTypes.toList) = true := by kernel_rfl
theorem named : Tryd.pinned.checked.prog.funcNamed Rows.fnExactFitsShelfRow.func = some 9 := by kernel_rfl
theorem inst : decide (Tryd.f9.isInstance Tryd.prog Rows.fnExactFitsShelfRow.origin Rows.fnExactFitsShelfRow.targs) = true := by kernel_rfl
theorem stand : (Tryd.f9.params.toList.all fun u => !Tryd.prog.wantsStandIn u) = true := by kernel_rfl
theorem wft : Rows.fnExactFitsShelfRow.wfByText (OpenSpec.ofChange Rows.fnExactFitsShelfSpec) = true := by kernel_rfl
theorem goes : false = Rows.fnExactFitsShelfRow.goesBy Tryd.pinned.checked.prog := by kernel_rfl
end Go.Proofs.YtcbbabepjfiigaaDoor.lawFitsShelf
