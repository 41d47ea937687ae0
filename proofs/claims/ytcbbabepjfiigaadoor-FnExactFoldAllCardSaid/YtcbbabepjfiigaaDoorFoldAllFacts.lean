/-
  THE LAW FnExactFoldAll: the facts of its row, each one by itself.
-/
import Derived.Test.YtcbbabepjfiigaaDoorCards
import Derived.Test.YtcbbabepjfiigaaDoorTie
import Derived.Test.YtcbbabepjfiigaaDoorJoined
import Derived.ProofKit
namespace Go.Proofs.YtcbbabepjfiigaaDoor.lawFoldAll
open Go
theorem k0 : Rows.fnExactFoldAllRow.wf (OpenSpec.ofChange Rows.fnExactFoldAllSpec) = true := by kernel_rfl
theorem k3 : Tryd.f4.params.all (Tryd.prog.readableRec ·) = true := by kernel_rfl
theorem k4 : namedTie Tryd.prog Rows.fnExactFoldAllRow.named Rows.fnExactFoldAllSpec.vars = true := by kernel_rfl
theorem k5 : (Rows.fnExactFoldAllRow.stops == []) = true := by kernel_rfl
theorem k7 : (Rows.fnExactFoldAllRow.knobs == []) = true := by kernel_rfl
theorem k9 : (Rows.fnExactFoldAllRow.inPlace == Tryd.prog.inPlace 4) = true := by kernel_rfl
theorem k10 : (Rows.fnExactFoldAllRow.unfollowed == Tryd.prog.unfollowed 4) = true := by kernel_rfl
theorem k11 : (Rows.fnExactFoldAllRow.recurses == Tryd.prog.recurses 4) = true := by kernel_rfl
theorem k12 : (Rows.fnExactFoldAllRow.named == Tryd.prog.varsNamed 4) = true := by kernel_rfl
theorem k13 : (Rows.fnExactFoldAllRow.maps == (Tryd.f4.params.toList ++ Rows.fnExactFoldAllSpec.plain.varTypes Tryd.prog).any (Tryd.prog.mapsRec ·)) = true := by kernel_rfl
theorem k14 : (Rows.fnExactFoldAllRow.ifaces == (Tryd.f4.params.toList ++ Rows.fnExactFoldAllSpec.plain.varTypes Tryd.prog).any (Tryd.prog.ifacesRec ·)) = true := by kernel_rfl
theorem k15 : (Rows.fnExactFoldAllRow.mapsOut == Tryd.prog.mapsAmong Tryd.f4.resultTypes.toList) = true := by kernel_rfl
theorem k16 : (Rows.fnExactFoldAllRow.loops == (Tryd.f4.params.toList ++ Rows.fnExactFoldAllSpec.plain.varTypes Tryd.prog).any (Tryd.prog.loopsFrom ·)) = true := by kernel_rfl
theorem k17 : (Rows.fnExactFoldAllRow.wideKeys == (Tryd.f4.params.toList ++ Rows.fnExactFoldAllSpec.plain.varTypes Tryd.prog ++ Tryd.f4.resultTypes.toList).any (Tryd.prog.wideKeysFrom ·)) = true := by kernel_rfl
theorem k18 : Rows.fnExactFoldAllSpec.vars.all (Tryd.prog.varReadable ·) = true := by kernel_rfl
theorem k19 : Tryd.f4.resultTypes.all (fun t => Tryd.prog.readableRec t && decide (t < Tryd.prog.types.size)) = true := by kernel_rfl
theorem k20 : (Rows.fnExactFoldAllRow.ifacesOut == Tryd.f4.resultTypes.toList.any (Tryd.prog.ifacesRec ·)) = true := by kernel_rfl
theorem k21 : (Rows.fnExactFoldAllRow.loopsOut == Tryd.f4.resultTypes.toList.any (Tryd.prog.loopsFrom ·)) = true := by kernel_rfl
theorem k23 : Rows.fnExactFoldAllRow.shortTexts.isNone = true := by kernel_rfl
theorem k28 : facts.kindsOf Tryd.prog Tryd.f4 Rows.fnExactFoldAllRow = true := by kernel_rfl
theorem k29 : (Rows.fnExactFoldAllRow.pinned == Rows.fnExactFoldAllRow.pinnedBy) = true := by kernel_rfl
theorem k30 : (Rows.fnExactFoldAllRow.veiled == (Tryd.f4.params.toList ++ Rows.fnExactFoldAllSpec.plain.varTypes Tryd.prog ++ Tryd.f4.resultTypes.toList).any (Tryd.prog.veiledRec ·)) = true := by kernel_rfl
theorem k31 : Rows.fnExactFoldAllRow.veiledFits Tryd.prog Tryd.f4.params.toList (Tryd.f4.params.toList ++ Rows.fnExactFoldAllSpec.plain.varTypes Tryd.prog ++ Tryd.f4.resultTypes.toList) = true := by kernel_rfl
theorem named : Tryd.pinned.checked.prog.funcNamed Rows.fnExactFoldAllRow.func = some 4 := by kernel_rfl
theorem inst : decide (Tryd.f4.isInstance Tryd.prog Rows.fnExactFoldAllRow.origin Rows.fnExactFoldAllRow.targs) = true := by kernel_rfl
theorem stand : (Tryd.f4.params.toList.all fun u => !Tryd.prog.wantsStandIn u) = true := by kernel_rfl
theorem wft : Rows.fnExactFoldAllRow.wfByText (OpenSpec.ofChange Rows.fnExactFoldAllSpec) = true := by kernel_rfl
theorem goes : false = Rows.fnExactFoldAllRow.goesBy Tryd.pinned.checked.prog := by kernel_rfl
end Go.Proofs.YtcbbabepjfiigaaDoor.lawFoldAll
