/-
  THE LAW FnExactOldestFirst: the facts of its row, each one by itself.
-/
import Derived.Test.YtdcckdfemelbiaaDoorCards
import Derived.Test.YtdcckdfemelbiaaDoorTie
import Derived.Test.YtdcckdfemelbiaaDoorJoined
import Derived.ProofKit
namespace Go.Proofs.YtdcckdfemelbiaaDoor.lawOldestFirst
open Go
theorem k0 : Rows.fnExactOldestFirstRow.wf (OpenSpec.ofChange Rows.fnExactOldestFirstSpec) = true := by kernel_rfl
theorem k3 : Tryd.f5.params.all (Tryd.prog.readableRec ·) = true := by kernel_rfl
theorem k4 : namedTie Tryd.prog Rows.fnExactOldestFirstRow.named Rows.fnExactOldestFirstSpec.vars = true := by kernel_rfl
theorem k5 : (Rows.fnExactOldestFirstRow.stops == []) = true := by kernel_rfl
theorem k7 : (Rows.fnExactOldestFirstRow.knobs == []) = true := by kernel_rfl
theorem k9 : (Rows.fnExactOldestFirstRow.inPlace == Tryd.prog.inPlace 5) = true := by kernel_rfl
theorem k10 : (Rows.fnExactOldestFirstRow.unfollowed == Tryd.prog.unfollowed 5) = true := by kernel_rfl
theorem k11 : (Rows.fnExactOldestFirstRow.recurses == Tryd.prog.recurses 5) = true := by kernel_rfl
theorem k12 : (Rows.fnExactOldestFirstRow.named == Tryd.prog.varsNamed 5) = true := by kernel_rfl
theorem k13 : (Rows.fnExactOldestFirstRow.maps == (Tryd.f5.params.toList ++ Rows.fnExactOldestFirstSpec.plain.varTypes Tryd.prog).any (Tryd.prog.mapsRec ·)) = true := by kernel_rfl
theorem k14 : (Rows.fnExactOldestFirstRow.ifaces == (Tryd.f5.params.toList ++ Rows.fnExactOldestFirstSpec.plain.varTypes Tryd.prog).any (Tryd.prog.ifacesRec ·)) = true := by kernel_rfl
theorem k15 : (Rows.fnExactOldestFirstRow.mapsOut == Tryd.prog.mapsAmong Tryd.f5.resultTypes.toList) = true := by kernel_rfl
theorem k16 : (Rows.fnExactOldestFirstRow.loops == (Tryd.f5.params.toList ++ Rows.fnExactOldestFirstSpec.plain.varTypes Tryd.prog).any (Tryd.prog.loopsFrom ·)) = true := by kernel_rfl
theorem k17 : (Rows.fnExactOldestFirstRow.wideKeys == (Tryd.f5.params.toList ++ Rows.fnExactOldestFirstSpec.plain.varTypes Tryd.prog ++ Tryd.f5.resultTypes.toList).any (Tryd.prog.wideKeysFrom ·)) = true := by kernel_rfl
theorem k18 : Rows.fnExactOldestFirstSpec.vars.all (Tryd.prog.varReadable ·) = true := by kernel_rfl
theorem k19 : Tryd.f5.resultTypes.all (fun t => Tryd.prog.readableRec t && decide (t < Tryd.prog.types.size)) = true := by kernel_rfl
theorem k20 : (Rows.fnExactOldestFirstRow.ifacesOut == Tryd.f5.resultTypes.toList.any (Tryd.prog.ifacesRec ·)) = true := by kernel_rfl
theorem k21 : (Rows.fnExactOldestFirstRow.loopsOut == Tryd.f5.resultTypes.toList.any (Tryd.prog.loopsFrom ·)) = true := by kernel_rfl
theorem k23 : Rows.fnExactOldestFirstRow.shortTexts.isNone = true := by kernel_rfl
theorem k28 : facts.kindsOf Tryd.prog Tryd.f5 Rows.fnExactOldestFirstRow = true := by kernel_rfl
theorem k29 : (Rows.fnExactOldestFirstRow.pinned == Rows.fnExactOldestFirstRow.pinnedBy) = true := by kernel_rfl
theorem k30 : (Rows.fnExactOldestFirstRow.veiled == (Tryd.f5.params.toList ++ Rows.fnExactOldestFirstSpec.plain.varTypes Tryd.prog ++ Tryd.f5.resultTypes.toList).any (Tryd.prog.veiledRec ·)) = true := by kernel_rfl
theorem k31 : Rows.fnExactOldestFirstRow.veiledFits Tryd.prog Tryd.f5.params.toList (Tryd.f5.params.toList ++ Rows.fnExactOldestFirstSpec.plain.varTypes Tryd.prog ++ Tryd.f5.resultTypes.toList) = true := by kernel_rfl
theorem named : Tryd.pinned.checked.prog.funcNamed Rows.fnExactOldestFirstRow.func = some 5 := by kernel_rfl
theorem inst : decide (Tryd.f5.isInstance Tryd.prog Rows.fnExactOldestFirstRow.origin Rows.fnExactOldestFirstRow.targs) = true := by kernel_rfl
theorem stand : (Tryd.f5.params.toList.all fun u => !Tryd.prog.wantsStandIn u) = true := by kernel_rfl
theorem wft : Rows.fnExactOldestFirstRow.wfByText (OpenSpec.ofChange Rows.fnExactOldestFirstSpec) = true := by kernel_rfl
theorem goes : false = Rows.fnExactOldestFirstRow.goesBy Tryd.pinned.checked.prog := by kernel_rfl
end Go.Proofs.YtdcckdfemelbiaaDoor.lawOldestFirst
