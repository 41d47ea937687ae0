/-
  THE LAW FnExactWhichLine: the facts of its row, each one by itself.
-/
import Derived.Test.YtbpipcfijbgnhaaDoorCards
import Derived.Test.YtbpipcfijbgnhaaDoorTie
import Derived.Test.YtbpipcfijbgnhaaDoorJoined
import Derived.ProofKit
namespace Go.Proofs.YtbpipcfijbgnhaaDoor.lawWhichLine
open Go
theorem k0 : Rows.fnExactWhichLineRow.wf (OpenSpec.ofChange Rows.fnExactWhichLineSpec) = true := by kernel_rfl
theorem k3 : Tryd.f12.params.all (Tryd.prog.readableRec ·) = true := by kernel_rfl
theorem k4 : namedTie Tryd.prog Rows.fnExactWhichLineRow.named Rows.fnExactWhichLineSpec.vars = true := by kernel_rfl
theorem k5 : (Rows.fnExactWhichLineRow.stops == []) = true := by kernel_rfl
theorem k7 : (Rows.fnExactWhichLineRow.knobs == []) = true := by kernel_rfl
theorem k9 : (Rows.fnExactWhichLineRow.inPlace == Tryd.prog.inPlace 12) = true := by kernel_rfl
theorem k10 : (Rows.fnExactWhichLineRow.unfollowed == Tryd.prog.unfollowed 12) = true := by kernel_rfl
theorem k11 : (Rows.fnExactWhichLineRow.recurses == Tryd.prog.recurses 12) = true := by kernel_rfl
theorem k12 : (Rows.fnExactWhichLineRow.named == Tryd.prog.varsNamed 12) = true := by kernel_rfl
theorem k13 : (Rows.fnExactWhichLineRow.maps == (Tryd.f12.params.toList ++ Rows.fnExactWhichLineSpec.plain.varTypes Tryd.prog).any (Tryd.prog.mapsRec ·)) = true := by kernel_rfl
theorem k14 : (Rows.fnExactWhichLineRow.ifaces == (Tryd.f12.params.toList ++ Rows.fnExactWhichLineSpec.plain.varTypes Tryd.prog).any (Tryd.prog.ifacesRec ·)) = true := by kernel_rfl
theorem k15 : (Rows.fnExactWhichLineRow.mapsOut == Tryd.prog.mapsAmong Tryd.f12.resultTypes.toList) = true := by kernel_rfl
theorem k16 : (Rows.fnExactWhichLineRow.loops == (Tryd.f12.params.toList ++ Rows.fnExactWhichLineSpec.plain.varTypes Tryd.prog).any (Tryd.prog.loopsFrom ·)) = true := by kernel_rfl
theorem k17 : (Rows.fnExactWhichLineRow.wideKeys == (Tryd.f12.params.toList ++ Rows.fnExactWhichLineSpec.plain.varTypes Tryd.prog ++ Tryd.f12.resultTypes.toList).any (Tryd.prog.wideKeysFrom ·)) = true := by kernel_rfl
theorem k18 : Rows.fnExactWhichLineSpec.vars.all (Tryd.prog.varReadable ·) = true := by kernel_rfl
theorem k19 : Tryd.f12.resultTypes.all (fun t => Tryd.prog.readableRec t && decide (t < Tryd.prog.types.size)) = true := by kernel_rfl
theorem k20 : (Rows.fnExactWhichLineRow.ifacesOut == Tryd.f12.resultTypes.toList.any (Tryd.prog.ifacesRec ·)) = true := by kernel_rfl
theorem k21 : (Rows.fnExactWhichLineRow.loopsOut == Tryd.f12.resultTypes.toList.any (Tryd.prog.loopsFrom ·)) = true := by kernel_rfl
theorem k23 : Rows.fnExactWhichLineRow.shortTexts.isNone = true := by kernel_rfl
theorem k28 : facts.kindsOf Tryd.prog Tryd.f12 Rows.fnExactWhichLineRow = true := by kernel_rfl
theorem k29 : (Rows.fnExactWhichLineRow.pinned == Rows.fnExactWhichLineRow.pinnedBy) = true := by kernel_rfl
theorem k30 : (Rows.fnExactWhichLineRow.veiled == (Tryd.f12.params.toList ++ Rows.fnExactWhichLineSpec.plain.varTypes Tryd.prog ++ Tryd.f12.resultTypes.toList).any (Tryd.prog.veiledRec ·)) = true := by kernel_rfl
theorem k31 : Rows.fnExactWhichLineRow.veiledFits Tryd.prog Tryd.f12.params.toList (Tryd.f12.params.toList ++ Rows.fnExactWhichLineSpec.plain.varTypes Tryd.prog ++ Tryd.f12.resultTypes.toList) = true := by kernel_rfl
theorem named : Tryd.pinned.checked.prog.funcNamed Rows.fnExactWhichLineRow.func = some 12 := by kernel_rfl
theorem inst : decide (Tryd.f12.isInstance Tryd.prog Rows.fnExactWhichLineRow.origin Rows.fnExactWhichLineRow.targs) = true := by kernel_rfl
theorem stand : (Tryd.f12.params.toList.all fun u => !Tryd.prog.wantsStandIn u) = true := by kernel_rfl
theorem wft : Rows.fnExactWhichLineRow.wfByText (OpenSpec.ofChange Rows.fnExactWhichLineSpec) = true := by kernel_rfl
theorem goes : false = Rows.fnExactWhichLineRow.goesBy Tryd.pinned.checked.prog := by kernel_rfl
end Go.Proofs.YtbpipcfijbgnhaaDoor.lawWhichLine
