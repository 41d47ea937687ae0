/-
  THE LAW FnExactCupboardText: the facts of its row, each one by itself.
-/
import Derived.Test.YtjfimmfnhlimkaaDoorCards
import Derived.Test.YtjfimmfnhlimkaaDoorTie
import Derived.Test.YtjfimmfnhlimkaaDoorJoined
import Derived.ProofKit
namespace Go.Proofs.YtjfimmfnhlimkaaDoor.lawCupboardText
open Go
theorem k0 : Rows.fnExactCupboardTextRow.wf (OpenSpec.ofChange Rows.fnExactCupboardTextSpec) = true := by kernel_rfl
theorem k3 : Tryd.f12.params.all (Tryd.prog.readableRec ·) = true := by kernel_rfl
theorem k4 : namedTie Tryd.prog Rows.fnExactCupboardTextRow.named Rows.fnExactCupboardTextSpec.vars = true := by kernel_rfl
theorem k5 : (Rows.fnExactCupboardTextRow.stops == []) = true := by kernel_rfl
theorem k7 : (Rows.fnExactCupboardTextRow.knobs == []) = true := by kernel_rfl
theorem k9 : (Rows.fnExactCupboardTextRow.inPlace == Tryd.prog.inPlace 12) = true := by kernel_rfl
theorem k10 : (Rows.fnExactCupboardTextRow.unfollowed == Tryd.prog.unfollowed 12) = true := by kernel_rfl
theorem k11 : (Rows.fnExactCupboardTextRow.recurses == Tryd.prog.recurses 12) = true := by kernel_rfl
theorem k12 : (Rows.fnExactCupboardTextRow.named == Tryd.prog.varsNamed 12) = true := by kernel_rfl
theorem k13 : (Rows.fnExactCupboardTextRow.maps == (Tryd.f12.params.toList ++ Rows.fnExactCupboardTextSpec.plain.varTypes Tryd.prog).any (Tryd.prog.mapsRec ·)) = true := by kernel_rfl
theorem k14 : (Rows.fnExactCupboardTextRow.ifaces == (Tryd.f12.params.toList ++ Rows.fnExactCupboardTextSpec.plain.varTypes Tryd.prog).any (Tryd.prog.ifacesRec ·)) = true := by kernel_rfl
theorem k15 : (Rows.fnExactCupboardTextRow.mapsOut == Tryd.prog.mapsAmong Tryd.f12.resultTypes.toList) = true := by kernel_rfl
theorem k16 : (Rows.fnExactCupboardTextRow.loops == (Tryd.f12.params.toList ++ Rows.fnExactCupboardTextSpec.plain.varTypes Tryd.prog).any (Tryd.prog.loopsFrom ·)) = true := by kernel_rfl
theorem k17 : (Rows.fnExactCupboardTextRow.wideKeys == (Tryd.f12.params.toList ++ Rows.fnExactCupboardTextSpec.plain.varTypes Tryd.prog ++ Tryd.f12.resultTypes.toList).any (Tryd.prog.wideKeysFrom ·)) = true := by kernel_rfl
theorem k18 : Rows.fnExactCupboardTextSpec.vars.all (Tryd.prog.varReadable ·) = true := by kernel_rfl
theorem k19 : Tryd.f12.resultTypes.all (fun t => Tryd.prog.readableRec t && decide (t < Tryd.prog.types.size)) = true := by kernel_rfl
theorem k20 : (Rows.fnExactCupboardTextRow.ifacesOut == Tryd.f12.resultTypes.toList.any (Tryd.prog.ifacesRec ·)) = true := by kernel_rfl
theorem k21 : (Rows.fnExactCupboardTextRow.loopsOut == Tryd.f12.resultTypes.toList.any (Tryd.prog.loopsFrom ·)) = true := by kernel_rfl
theorem k23 : Rows.fnExactCupboardTextRow.shortTexts.isNone = true := by kernel_rfl
theorem k28 : facts.kindsOf Tryd.prog Tryd.f12 Rows.fnExactCupboardTextRow = true := by kernel_rfl
theorem k29 : (Rows.fnExactCupboardTextRow.pinned == Rows.fnExactCupboardTextRow.pinnedBy) = true := by kernel_rfl
theorem k30 : (Rows.fnExactCupboardTextRow.veiled == (Tryd.f12.params.toList ++ Rows.fnExactCupboardTextSpec.plain.varTypes Tryd.prog ++ Tryd.f12.resultTypes.toList).any (Tryd.prog.veiledRec ·)) = true := by kernel_rfl
theorem k31 : Rows.fnExactCupboardTextRow.veiledFits Tryd.prog Tryd.f12.params.toList (Tryd.f12.params.toList ++ Rows.fnExactCupboardTextSpec.plain.varTypes Tryd.prog ++ Tryd.f12.resultTypes.toList) = true := by kernel_rfl
theorem named : Tryd.pinned.checked.prog.funcNamed Rows.fnExactCupboardTextRow.func = some 12 := by kernel_rfl
theorem inst : decide (Tryd.f12.isInstance Tryd.prog Rows.fnExactCupboardTextRow.origin Rows.fnExactCupboardTextRow.targs) = true := by kernel_rfl
theorem stand : (Tryd.f12.params.toList.all fun u => !Tryd.prog.wantsStandIn u) = true := by kernel_rfl
theorem wft : Rows.fnExactCupboardTextRow.wfByText (OpenSpec.ofChange Rows.fnExactCupboardTextSpec) = true := by kernel_rfl
theorem goes : false = Rows.fnExactCupboardTextRow.goesBy Tryd.pinned.checked.prog := by kernel_rfl
end Go.Proofs.YtjfimmfnhlimkaaDoor.lawCupboardText
