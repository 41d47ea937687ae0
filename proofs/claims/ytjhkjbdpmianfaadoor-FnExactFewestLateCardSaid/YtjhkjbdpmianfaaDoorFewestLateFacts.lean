/-
  THE LAW FnExactFewestLate: the facts of its row, each one by itself.
-/
import Derived.Test.YtjhkjbdpmianfaaDoorCards
import Derived.Test.YtjhkjbdpmianfaaDoorTie
import Derived.Test.YtjhkjbdpmianfaaDoorJoined
import Derived.ProofKit
namespace Go.Proofs.YtjhkjbdpmianfaaDoor.lawFewestLate
open Go
theorem k0 : Rows.fnExactFewestLateRow.wf (OpenSpec.ofChange Rows.fnExactFewestLateSpec) = true := by kernel_rfl
theorem k3 : Tryd.f4.params.all (Tryd.prog.readableRec ·) = true := by kernel_rfl
theorem k4 : namedTie Tryd.prog Rows.fnExactFewestLateRow.named Rows.fnExactFewestLateSpec.vars = true := by kernel_rfl
theorem k5 : (Rows.fnExactFewestLateRow.stops == []) = true := by kernel_rfl
theorem k7 : (Rows.fnExactFewestLateRow.knobs == []) = true := by kernel_rfl
theorem k9 : (Rows.fnExactFewestLateRow.inPlace == Tryd.prog.inPlace 4) = true := by kernel_rfl
theorem k10 : (Rows.fnExactFewestLateRow.unfollowed == Tryd.prog.unfollowed 4) = true := by kernel_rfl
theorem k11 : (Rows.fnExactFewestLateRow.recurses == Tryd.prog.recurses 4) = true := by kernel_rfl
theorem k12 : (Rows.fnExactFewestLateRow.named == Tryd.prog.varsNamed 4) = true := by kernel_rfl
theorem k13 : (Rows.fnExactFewestLateRow.maps == (Tryd.f4.params.toList ++ Rows.fnExactFewestLateSpec.plain.varTypes Tryd.prog).any (Tryd.prog.mapsRec ·)) = true := by kernel_rfl
theorem k14 : (Rows.fnExactFewestLateRow.ifaces == (Tryd.f4.params.toList ++ Rows.fnExactFewestLateSpec.plain.varTypes Tryd.prog).any (Tryd.prog.ifacesRec ·)) = true := by kernel_rfl
theorem k15 : (Rows.fnExactFewestLateRow.mapsOut == Tryd.prog.mapsAmong Tryd.f4.resultTypes.toList) = true := by kernel_rfl
theorem k16 : (Rows.fnExactFewestLateRow.loops == (Tryd.f4.params.toList ++ Rows.fnExactFewestLateSpec.plain.varTypes Tryd.prog).any (Tryd.prog.loopsFrom ·)) = true := by kernel_rfl
theorem k17 : (Rows.fnExactFewestLateRow.wideKeys == (Tryd.f4.params.toList ++ Rows.fnExactFewestLateSpec.plain.varTypes Tryd.prog ++ Tryd.f4.resultTypes.toList).any (Tryd.prog.wideKeysFrom ·)) = true := by kernel_rfl
theorem k18 : Rows.fnExactFewestLateSpec.vars.all (Tryd.prog.varReadable ·) = true := by kernel_rfl
theorem k19 : Tryd.f4.resultTypes.all (fun t => Tryd.prog.readableRec t && decide (t < Tryd.prog.types.size)) = true := by kernel_rfl
theorem k20 : (Rows.fnExactFewestLateRow.ifacesOut == Tryd.f4.resultTypes.toList.any (Tryd.prog.ifacesRec ·)) = true := by kernel_rfl
theorem k21 : (Rows.fnExactFewestLateRow.loopsOut == Tryd.f4.resultTypes.toList.any (Tryd.prog.loopsFrom ·)) = true := by kernel_rfl
theorem k23 : Rows.fnExactFewestLateRow.shortTexts.isNone = true := by kernel_rfl
theorem k28 : facts.kindsOf Tryd.prog Tryd.f4 Rows.fnExactFewestLateRow = true := by kernel_rfl
theorem k29 : (Rows.fnExactFewestLateRow.pinned == Rows.fnExactFewestLateRow.pinnedBy) = true := by kernel_rfl
theorem k30 : (Rows.fnExactFewestLateRow.veiled == (Tryd.f4.params.toList ++ Rows.fnExactFewestLateSpec.plain.varTypes Tryd.prog ++ Tryd.f4.resultTypes.toList).any (Tryd.prog.veiledRec ·)) = true := by kernel_rfl
theorem k31 : Rows.fnExactFewestLateRow.veiledFits Tryd.prog Tryd.f4.params.toList (Tryd.f4.params.toList ++ Rows.fnExactFewestLateSpec.plain.varTypes Tryd.prog ++ Tryd.f4.resultTypes.toList) = true := by kernel_rfl
theorem named : Tryd.pinned.checked.prog.funcNamed Rows.fnExactFewestLateRow.func = some 4 := by kernel_rfl
theorem inst : decide (Tryd.f4.isInstance Tryd.prog Rows.fnExactFewestLateRow.origin Rows.fnExactFewestLateRow.targs) = true := by kernel_rfl
theorem stand : (Tryd.f4.params.toList.all fun u => !Tryd.prog.wantsStandIn u) = true := by kernel_rfl
theorem wft : Rows.fnExactFewestLateRow.wfByText (OpenSpec.ofChange Rows.fnExactFewestLateSpec) = true := by kernel_rfl
theorem goes : false = Rows.fnExactFewestLateRow.goesBy Tryd.pinned.checked.prog := by kernel_rfl
end Go.Proofs.YtjhkjbdpmianfaaDoor.lawFewestLate
