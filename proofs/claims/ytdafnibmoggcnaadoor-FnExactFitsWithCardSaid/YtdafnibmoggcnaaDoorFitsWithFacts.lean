/-
  THE LAW FnExactFitsWith: the facts of its row, each one by itself.
-/
import Derived.Test.YtdafnibmoggcnaaDoorCards
import Derived.Test.YtdafnibmoggcnaaDoorTie
import Derived.Test.YtdafnibmoggcnaaDoorJoined
import Derived.ProofKit
namespace Go.Proofs.YtdafnibmoggcnaaDoor.lawFitsWith
open Go
theorem k0 : Rows.fnExactFitsWithRow.wf (OpenSpec.ofChange Rows.fnExactFitsWithSpec) = true := by kernel_rfl
theorem k3 : Tryd.f3.params.all (Tryd.prog.readableRec ·) = true := by kernel_rfl
theorem k4 : namedTie Tryd.prog Rows.fnExactFitsWithRow.named Rows.fnExactFitsWithSpec.vars = true := by kernel_rfl
theorem k5 : (Rows.fnExactFitsWithRow.stops == []) = true := by kernel_rfl
theorem k7 : (Rows.fnExactFitsWithRow.knobs == []) = true := by kernel_rfl
theorem k9 : (Rows.fnExactFitsWithRow.inPlace == Tryd.prog.inPlace 3) = true := by kernel_rfl
theorem k10 : (Rows.fnExactFitsWithRow.unfollowed == Tryd.prog.unfollowed 3) = true := by kernel_rfl
theorem k11 : (Rows.fnExactFitsWithRow.recurses == Tryd.prog.recurses 3) = true := by kernel_rfl
theorem k12 : (Rows.fnExactFitsWithRow.named == Tryd.prog.varsNamed 3) = true := by kernel_rfl
theorem k13 : (Rows.fnExactFitsWithRow.maps == (Tryd.f3.params.toList ++ Rows.fnExactFitsWithSpec.plain.varTypes Tryd.prog).any (Tryd.prog.mapsRec ·)) = true := by kernel_rfl
theorem k14 : (Rows.fnExactFitsWithRow.ifaces == (Tryd.f3.params.toList ++ Rows.fnExactFitsWithSpec.plain.varTypes Tryd.prog).any (Tryd.prog.ifacesRec ·)) = true := by kernel_rfl
theorem k15 : (Rows.fnExactFitsWithRow.mapsOut == Tryd.prog.mapsAmong Tryd.f3.resultTypes.toList) = true := by kernel_rfl
theorem k16 : (Rows.fnExactFitsWithRow.loops == (Tryd.f3.params.toList ++ Rows.fnExactFitsWithSpec.plain.varTypes Tryd.prog).any (Tryd.prog.loopsFrom ·)) = true := by kernel_rfl
theorem k17 : (Rows.fnExactFitsWithRow.wideKeys == (Tryd.f3.params.toList ++ Rows.fnExactFitsWithSpec.plain.varTypes Tryd.prog ++ Tryd.f3.resultTypes.toList).any (Tryd.prog.wideKeysFrom ·)) = true := by kernel_rfl
theorem k18 : Rows.fnExactFitsWithSpec.vars.all (Tryd.prog.varReadable ·) = true := by kernel_rfl
theorem k19 : Tryd.f3.resultTypes.all (fun t => Tryd.prog.readableRec t && decide (t < Tryd.prog.types.size)) = true := by kernel_rfl
theorem k20 : (Rows.fnExactFitsWithRow.ifacesOut == Tryd.f3.resultTypes.toList.any (Tryd.prog.ifacesRec ·)) = true := by kernel_rfl
theorem k21 : (Rows.fnExactFitsWithRow.loopsOut == Tryd.f3.resultTypes.toList.any (Tryd.prog.loopsFrom ·)) = true := by kernel_rfl
theorem k23 : Rows.fnExactFitsWithRow.shortTexts.isNone = true := by kernel_rfl
theorem k28 : facts.kindsOf Tryd.prog Tryd.f3 Rows.fnExactFitsWithRow = true := by kernel_rfl
theorem k29 : (Rows.fnExactFitsWithRow.pinned == Rows.fnExactFitsWithRow.pinnedBy) = true := by kernel_rfl
theorem k30 : (Rows.fnExactFitsWithRow.veiled == (Tryd.f3.params.toList ++ Rows.fnExactFitsWithSpec.plain.varTypes Tryd.prog ++ Tryd.f3.resultTypes.toList).any (Tryd.prog.veiledRec ·)) = true := by kernel_rfl
theorem k31 : Rows.fnExactFitsWithRow.veiledFits Tryd.prog Tryd.f3.params.toList (Tryd.f3.params.toList ++ Rows.fnExactFitsWithSpec.plain.varTypes Tryd.prog ++ Tryd.f3.resultTypes.toList) = true := by kernel_rfl
theorem named : Tryd.pinned.checked.prog.funcNamed Rows.fnExactFitsWithRow.func = some 3 := by kernel_rfl
theorem inst : decide (Tryd.f3.isInstance Tryd.prog Rows.fnExactFitsWithRow.origin Rows.fnExactFitsWithRow.targs) = true := by kernel_rfl
theorem stand : (Tryd.f3.params.toList.all fun u => !Tryd.prog.wantsStandIn u) = true := by kernel_rfl
theorem wft : Rows.fnExactFitsWithRow.wfByText (OpenSpec.ofChange Rows.fnExactFitsWithSpec) = true := by kernel_rfl
theorem goes : false = Rows.fnExactFitsWithRow.goesBy Tryd.pinned.checked.prog := by kernel_rfl
end Go.Proofs.YtdafnibmoggcnaaDoor.lawFitsWith
