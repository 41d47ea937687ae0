/-
  THE LAW FnExactSharePeg: the facts of its row, each one by itself.
-/
import Derived.Test.YtbpipcfijbgnhaaDoorCards
import Derived.Test.YtbpipcfijbgnhaaDoorTie
import Derived.Test.YtbpipcfijbgnhaaDoorJoined
import Derived.ProofKit
namespace Go.Proofs.YtbpipcfijbgnhaaDoor.lawSharePeg
open Go
theorem k0 : Rows.fnExactSharePegRow.wf (OpenSpec.ofChange Rows.fnExactSharePegSpec) = true := by kernel_rfl
theorem k3 : Tryd.f3.params.all (Tryd.prog.readableRec ·) = true := by kernel_rfl
theorem k4 : namedTie Tryd.prog Rows.fnExactSharePegRow.named Rows.fnExactSharePegSpec.vars = true := by kernel_rfl
theorem k5 : (Rows.fnExactSharePegRow.stops == []) = true := by kernel_rfl
theorem k7 : (Rows.fnExactSharePegRow.knobs == []) = true := by kernel_rfl
theorem k9 : (Rows.fnExactSharePegRow.inPlace == Tryd.prog.inPlace 3) = true := by kernel_rfl
theorem k10 : (Rows.fnExactSharePegRow.unfollowed == Tryd.prog.unfollowed 3) = true := by kernel_rfl
theorem k11 : (Rows.fnExactSharePegRow.recurses == Tryd.prog.recurses 3) = true := by kernel_rfl
theorem k12 : (Rows.fnExactSharePegRow.named == Tryd.prog.varsNamed 3) = true := by kernel_rfl
theorem k13 : (Rows.fnExactSharePegRow.maps == (Tryd.f3.params.toList ++ Rows.fnExactSharePegSpec.plain.varTypes Tryd.prog).any (Tryd.prog.mapsRec ·)) = true := by kernel_rfl
theorem k14 : (Rows.fnExactSharePegRow.ifaces == (Tryd.f3.params.toList ++ Rows.fnExactSharePegSpec.plain.varTypes Tryd.prog).any (Tryd.prog.ifacesRec ·)) = true := by kernel_rfl
theorem k15 : (Rows.fnExactSharePegRow.mapsOut == Tryd.prog.mapsAmong Tryd.f3.resultTypes.toList) = true := by kernel_rfl
theorem k16 : (Rows.fnExactSharePegRow.loops == (Tryd.f3.params.toList ++ Rows.fnExactSharePegSpec.plain.varTypes Tryd.prog).any (Tryd.prog.loopsFrom ·)) = true := by kernel_rfl
theorem k17 : (Rows.fnExactSharePegRow.wideKeys == (Tryd.f3.params.toList ++ Rows.fnExactSharePegSpec.plain.varTypes Tryd.prog ++ Tryd.f3.resultTypes.toList).any (Tryd.prog.wideKeysFrom ·)) = true := by kernel_rfl
theorem k18 : Rows.fnExactSharePegSpec.vars.all (Tryd.prog.varReadable ·) = true := by kernel_rfl
theorem k19 : Tryd.f3.resultTypes.all (fun t => Tryd.prog.readableRec t && decide (t < Tryd.prog.types.size)) = true := by kernel_rfl
theorem k20 : (Rows.fnExactSharePegRow.ifacesOut == Tryd.f3.resultTypes.toList.any (Tryd.prog.ifacesRec ·)) = true := by kernel_rfl
theorem k21 : (Rows.fnExactSharePegRow.loopsOut == Tryd.f3.resultTypes.toList.any (Tryd.prog.loopsFrom ·)) = true := by kernel_rfl
theorem k23 : Rows.fnExactSharePegRow.shortTexts.isNone = true := by kernel_rfl
theorem k28 : facts.kindsOf Tryd.prog Tryd.f3 Rows.fnExactSharePegRow = true := by kernel_rfl
theorem k29 : (Rows.fnExactSharePegRow.pinned == Rows.fnExactSharePegRow.pinnedBy) = true := by kernel_rfl
theorem k30 : (Rows.fnExactSharePegRow.veiled == (Tryd.f3.params.toList ++ Rows.fnExactSharePegSpec.plain.varTypes Tryd.prog ++ Tryd.f3.resultTypes.toList).any (Tryd.prog.veiledRec ·)) = true := by kernel_rfl
theorem k31 : Rows.fnExactSharePegRow.veiledFits Tryd.prog Tryd.f3.params.toList (Tryd.f3.params.toList ++ Rows.fnExactSharePegSpec.plain.varTypes Tryd.prog ++ Tryd.f3.resultTypes.toList) = true := by kernel_rfl
theorem named : Tryd.pinned.checked.prog.funcNamed Rows.fnExactSharePegRow.func = some 3 := by kernel_rfl
theorem inst : decide (Tryd.f3.isInstance Tryd.prog Rows.fnExactSharePegRow.origin Rows.fnExactSharePegRow.targs) = true := by kernel_rfl
theorem stand : (Tryd.f3.params.toList.all fun u => !Tryd.prog.wantsStandIn u) = true := by kernel_rfl
theorem wft : Rows.fnExactSharePegRow.wfByText (OpenSpec.ofChange Rows.fnExactSharePegSpec) = true := by kernel_rfl
theorem goes : false = Rows.fnExactSharePegRow.goesBy Tryd.pinned.checked.prog := by kernel_rfl
end Go.Proofs.YtbpipcfijbgnhaaDoor.lawSharePeg
