/-
  THE LAW FnExactFitsLine: the facts of its row, each one by itself.
-/
import Derived.Test.YtbpipcfijbgnhaaDoorCards
import Derived.Test.YtbpipcfijbgnhaaDoorTie
import Derived.Test.YtbpipcfijbgnhaaDoorJoined
import Derived.ProofKit
namespace Go.Proofs.YtbpipcfijbgnhaaDoor.lawFitsLine
open Go
theorem k0 : Rows.fnExactFitsLineRow.wf (OpenSpec.ofChange Rows.fnExactFitsLineSpec) = true := by kernel_rfl
theorem k3 : Tryd.f7.params.all (Tryd.prog.readableRec ·) = true := by kernel_rfl
theorem k4 : namedTie Tryd.prog Rows.fnExactFitsLineRow.named Rows.fnExactFitsLineSpec.vars = true := by kernel_rfl
theorem k5 : (Rows.fnExactFitsLineRow.stops == []) = true := by kernel_rfl
theorem k7 : (Rows.fnExactFitsLineRow.knobs == []) = true := by kernel_rfl
theorem k9 : (Rows.fnExactFitsLineRow.inPlace == Tryd.prog.inPlace 7) = true := by kernel_rfl
theorem k10 : (Rows.fnExactFitsLineRow.unfollowed == Tryd.prog.unfollowed 7) = true := by kernel_rfl
theorem k11 : (Rows.fnExactFitsLineRow.recurses == Tryd.prog.recurses 7) = true := by kernel_rfl
theorem k12 : (Rows.fnExactFitsLineRow.named == Tryd.prog.varsNamed 7) = true := by kernel_rfl
theorem k13 : (Rows.fnExactFitsLineRow.maps == (Tryd.f7.params.toList ++ Rows.fnExactFitsLineSpec.plain.varTypes Tryd.prog).any (Tryd.prog.mapsRec ·)) = true := by kernel_rfl
theorem k14 : (Rows.fnExactFitsLineRow.ifaces == (Tryd.f7.params.toList ++ Rows.fnExactFitsLineSpec.plain.varTypes Tryd.prog).any (Tryd.prog.ifacesRec ·)) = true := by kernel_rfl
theorem k15 : (Rows.fnExactFitsLineRow.mapsOut == Tryd.prog.mapsAmong Tryd.f7.resultTypes.toList) = true := by kernel_rfl
theorem k16 : (Rows.fnExactFitsLineRow.loops == (Tryd.f7.params.toList ++ Rows.fnExactFitsLineSpec.plain.varTypes Tryd.prog).any (Tryd.prog.loopsFrom ·)) = true := by kernel_rfl
theorem k17 : (Rows.fnExactFitsLineRow.wideKeys == (Tryd.f7.params.toList ++ Rows.fnExactFitsLineSpec.plain.varTypes Tryd.prog ++ Tryd.f7.resultTypes.toList).any (Tryd.prog.wideKeysFrom ·)) = true := by kernel_rfl
theorem k18 : Rows.fnExactFitsLineSpec.vars.all (Tryd.prog.varReadable ·) = true := by kernel_rfl
theorem k19 : Tryd.f7.resultTypes.all (fun t => Tryd.prog.readableRec t && decide (t < Tryd.prog.types.size)) = true := by kernel_rfl
theorem k20 : (Rows.fnExactFitsLineRow.ifacesOut == Tryd.f7.resultTypes.toList.any (Tryd.prog.ifacesRec ·)) = true := by kernel_rfl
theorem k21 : (Rows.fnExactFitsLineRow.loopsOut == Tryd.f7.resultTypes.toList.any (Tryd.prog.loopsFrom ·)) = true := by kernel_rfl
theorem k23 : Rows.fnExactFitsLineRow.shortTexts.isNone = true := by kernel_rfl
theorem k28 : facts.kindsOf Tryd.prog Tryd.f7 Rows.fnExactFitsLineRow = true := by kernel_rfl
theorem k29 : (Rows.fnExactFitsLineRow.pinned == Rows.fnExactFitsLineRow.pinnedBy) = true := by kernel_rfl
theorem k30 : (Rows.fnExactFitsLineRow.veiled == (Tryd.f7.params.toList ++ Rows.fnExactFitsLineSpec.plain.varTypes Tryd.prog ++ Tryd.f7.resultTypes.toList).any (Tryd.prog.veiledRec ·)) = true := by kernel_rfl
theorem k31 : Rows.fnExactFitsLineRow.veiledFits Tryd.prog Tryd.f7.params.toList (Tryd.f7.params.toList ++ Rows.fnExactFitsLineSpec.plain.varTypes Tryd.prog ++ Tryd.f7.resultTypes.toList) = true := by kernel_rfl
theorem named : Tryd.pinned.checked.prog.funcNamed Rows.fnExactFitsLineRow.func = some 7 := by kernel_rfl
theorem inst : decide (Tryd.f7.isInstance Tryd.prog Rows.fnExactFitsLineRow.origin Rows.fnExactFitsLineRow.targs) = true := by kernel_rfl
theorem stand : (Tryd.f7.params.toList.all fun u => !Tryd.prog.wantsStandIn u) = true := by kernel_rfl
theorem wft : Rows.fnExactFitsLineRow.wfByText (OpenSpec.ofChange Rows.fnExactFitsLineSpec) = true := by kernel_rfl
theorem goes : false = Rows.fnExactFitsLineRow.goesBy Tryd.pinned.checked.prog := by kernel_rfl
end Go.Proofs.YtbpipcfijbgnhaaDoor.lawFitsLine
