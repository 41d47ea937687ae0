/-
  THE LAW FnExactPegsFor: the facts of its row, each one by itself.
-/
import Derived.Test.YtbpipcfijbgnhaaDoorCards
import Derived.Test.YtbpipcfijbgnhaaDoorTie
import Derived.Test.YtbpipcfijbgnhaaDoorJoined
import Derived.ProofKit
namespace Go.Proofs.YtbpipcfijbgnhaaDoor.lawPegsFor
open Go
theorem k0 : Rows.fnExactPegsForRow.wf (OpenSpec.ofChange Rows.fnExactPegsForSpec) = true := by kernel_rfl
theorem k3 : Tryd.f4.params.all (Tryd.prog.readableRec ·) = true := by kernel_rfl
theorem k4 : namedTie Tryd.prog Rows.fnExactPegsForRow.named Rows.fnExactPegsForSpec.vars = true := by kernel_rfl
theorem k5 : (Rows.fnExactPegsForRow.stops == []) = true := by kernel_rfl
theorem k7 : (Rows.fnExactPegsForRow.knobs == []) = true := by kernel_rfl
theorem k9 : (Rows.fnExactPegsForRow.inPlace == Tryd.prog.inPlace 4) = true := by kernel_rfl
theorem k10 : (Rows.fnExactPegsForRow.unfollowed == Tryd.prog.unfollowed 4) = true := by kernel_rfl
theorem k11 : (Rows.fnExactPegsForRow.recurses == Tryd.prog.recurses 4) = true := by kernel_rfl
theorem k12 : (Rows.fnExactPegsForRow.named == Tryd.prog.varsNamed 4) = true := by kernel_rfl
theorem k13 : (Rows.fnExactPegsForRow.maps == (Tryd.f4.params.toList ++ Rows.fnExactPegsForSpec.plain.varTypes Tryd.prog).any (Tryd.prog.mapsRec ·)) = true := by kernel_rfl
theorem k14 : (Rows.fnExactPegsForRow.ifaces == (Tryd.f4.params.toList ++ Rows.fnExactPegsForSpec.plain.varTypes Tryd.prog).any (Tryd.prog.ifacesRec ·)) = true := by kernel_rfl
theorem k15 : (Rows.fnExactPegsForRow.mapsOut == Tryd.prog.mapsAmong Tryd.f4.resultTypes.toList) = true := by kernel_rfl
theorem k16 : (Rows.fnExactPegsForRow.loops == (Tryd.f4.params.toList ++ Rows.fnExactPegsForSpec.plain.varTypes Tryd.prog).any (Tryd.prog.loopsFrom ·)) = true := by kernel_rfl
theorem k17 : (Rows.fnExactPegsForRow.wideKeys == (Tryd.f4.params.toList ++ Rows.fnExactPegsForSpec.plain.varTypes Tryd.prog ++ Tryd.f4.resultTypes.toList).any (Tryd.prog.wideKeysFrom ·)) = true := by kernel_rfl
theorem k18 : Rows.fnExactPegsForSpec.vars.all (Tryd.prog.varReadable ·) = true := by kernel_rfl
theorem k19 : Tryd.f4.resultTypes.all (fun t => Tryd.prog.readableRec t && decide (t < Tryd.prog.types.size)) = true := by kernel_rfl
theorem k20 : (Rows.fnExactPegsForRow.ifacesOut == Tryd.f4.resultTypes.toList.any (Tryd.prog.ifacesRec ·)) = true := by kernel_rfl
theorem k21 : (Rows.fnExactPegsForRow.loopsOut == Tryd.f4.resultTypes.toList.any (Tryd.prog.loopsFrom ·)) = true := by kernel_rfl
theorem k23 : Rows.fnExactPegsForRow.shortTexts.isNone = true := by kernel_rfl
theorem k28 : facts.kindsOf Tryd.prog Tryd.f4 Rows.fnExactPegsForRow = true := by kernel_rfl
theorem k29 : (Rows.fnExactPegsForRow.pinned == Rows.fnExactPegsForRow.pinnedBy) = true := by kernel_rfl
theorem k30 : (Rows.fnExactPegsForRow.veiled == (Tryd.f4.params.toList ++ Rows.fnExactPegsForSpec.plain.varTypes Tryd.prog ++ Tryd.f4.resultTypes.toList).any (Tryd.prog.veiledRec ·)) = true := by kernel_rfl
theorem k31 : Rows.fnExactPegsForRow.veiledFits Tryd.prog Tryd.f4.params.toList (Tryd.f4.params.toList ++ Rows.fnExactPegsForSpec.plain.varTypes Tryd.prog ++ Tryd.f4.resultTypes.toList) = true := by kernel_rfl
theorem named : Tryd.pinned.checked.prog.funcNamed Rows.fnExactPegsForRow.func = some 4 := by kernel_rfl
theorem inst : decide (Tryd.f4.isInstance Tryd.prog Rows.fnExactPegsForRow.origin Rows.fnExactPegsForRow.targs) = true := by kernel_rfl
theorem stand : (Tryd.f4.params.toList.all fun u => !Tryd.prog.wantsStandIn u) = true := by kernel_rfl
theorem wft : Rows.fnExactPegsForRow.wfByText (OpenSpec.ofChange Rows.fnExactPegsForSpec) = true := by kernel_rfl
theorem goes : false = Rows.fnExactPegsForRow.goesBy Tryd.pinned.checked.prog := by kernel_rfl
end Go.Proofs.YtbpipcfijbgnhaaDoor.lawPegsFor
