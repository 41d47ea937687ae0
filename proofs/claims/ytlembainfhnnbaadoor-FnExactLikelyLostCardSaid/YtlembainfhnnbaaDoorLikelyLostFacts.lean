/-
  THE LAW FnExactLikelyLost: the facts of its row, each one by itself.
-/
import Derived.Test.YtlembainfhnnbaaDoorCards
import Derived.Test.YtlembainfhnnbaaDoorTie
import Derived.Test.YtlembainfhnnbaaDoorJoined
import Derived.ProofKit
namespace Go.Proofs.YtlembainfhnnbaaDoor.lawLikelyLost
open Go
theorem k0 : Rows.fnExactLikelyLostRow.wf (OpenSpec.ofChange Rows.fnExactLikelyLostSpec) = true := by kernel_rfl
theorem k3 : Tryd.f14.params.all (Tryd.prog.readableRec ·) = true := by kernel_rfl
theorem k4 : namedTie Tryd.prog Rows.fnExactLikelyLostRow.named Rows.fnExactLikelyLostSpec.vars = true := by kernel_rfl
theorem k5 : (Rows.fnExactLikelyLostRow.stops == []) = true := by kernel_rfl
theorem k7 : (Rows.fnExactLikelyLostRow.knobs == []) = true := by kernel_rfl
theorem k9 : (Rows.fnExactLikelyLostRow.inPlace == Tryd.prog.inPlace 14) = true := by kernel_rfl
theorem k10 : (Rows.fnExactLikelyLostRow.unfollowed == Tryd.prog.unfollowed 14) = true := by kernel_rfl
theorem k11 : (Rows.fnExactLikelyLostRow.recurses == Tryd.prog.recurses 14) = true := by kernel_rfl
theorem k12 : (Rows.fnExactLikelyLostRow.named == Tryd.prog.varsNamed 14) = true := by kernel_rfl
theorem k13 : (Rows.fnExactLikelyLostRow.maps == (Tryd.f14.params.toList ++ Rows.fnExactLikelyLostSpec.plain.varTypes Tryd.prog).any (Tryd.prog.mapsRec ·)) = true := by kernel_rfl
theorem k14 : (Rows.fnExactLikelyLostRow.ifaces == (Tryd.f14.params.toList ++ Rows.fnExactLikelyLostSpec.plain.varTypes Tryd.prog).any (Tryd.prog.ifacesRec ·)) = true := by kernel_rfl
theorem k15 : (Rows.fnExactLikelyLostRow.mapsOut == Tryd.prog.mapsAmong Tryd.f14.resultTypes.toList) = true := by kernel_rfl
theorem k16 : (Rows.fnExactLikelyLostRow.loops == (Tryd.f14.params.toList ++ Rows.fnExactLikelyLostSpec.plain.varTypes Tryd.prog).any (Tryd.prog.loopsFrom ·)) = true := by kernel_rfl
theorem k17 : (Rows.fnExactLikelyLostRow.wideKeys == (Tryd.f14.params.toList ++ Rows.fnExactLikelyLostSpec.plain.varTypes Tryd.prog ++ Tryd.f14.resultTypes.toList).any (Tryd.prog.wideKeysFrom ·)) = true := by kernel_rfl
theorem k18 : Rows.fnExactLikelyLostSpec.vars.all (Tryd.prog.varReadable ·) = true := by kernel_rfl
theorem k19 : Tryd.f14.resultTypes.all (fun t => Tryd.prog.readableRec t && decide (t < Tryd.prog.types.size)) = true := by kernel_rfl
theorem k20 : (Rows.fnExactLikelyLostRow.ifacesOut == Tryd.f14.resultTypes.toList.any (Tryd.prog.ifacesRec ·)) = true := by kernel_rfl
theorem k21 : (Rows.fnExactLikelyLostRow.loopsOut == Tryd.f14.resultTypes.toList.any (Tryd.prog.loopsFrom ·)) = true := by kernel_rfl
theorem k23 : Rows.fnExactLikelyLostRow.shortTexts.isNone = true := by kernel_rfl
theorem k28 : facts.kindsOf Tryd.prog Tryd.f14 Rows.fnExactLikelyLostRow = true := by kernel_rfl
theorem k29 : (Rows.fnExactLikelyLostRow.pinned == Rows.fnExactLikelyLostRow.pinnedBy) = true := by kernel_rfl
theorem k30 : (Rows.fnExactLikelyLostRow.veiled == (Tryd.f14.params.toList ++ Rows.fnExactLikelyLostSpec.plain.varTypes Tryd.prog ++ Tryd.f14.resultTypes.toList).any (Tryd.prog.veiledRec ·)) = true := by kernel_rfl
theorem k31 : Rows.fnExactLikelyLostRow.veiledFits Tryd.prog Tryd.f14.params.toList (Tryd.f14.params.toList ++ Rows.fnExactLikelyLostSpec.plain.varTypes Tryd.prog ++ Tryd.f14.resultTypes.toList) = true := by kernel_rfl
theorem named : Tryd.pinned.checked.prog.funcNamed Rows.fnExactLikelyLostRow.func = some 14 := by kernel_rfl
theorem inst : decide (Tryd.f14.isInstance Tryd.prog Rows.fnExactLikelyLostRow.origin Rows.fnExactLikelyLostRow.targs) = true := by kernel_rfl
theorem stand : (Tryd.f14.params.toList.all fun u => !Tryd.prog.wantsStandIn u) = true := by kernel_rfl
theorem wft : Rows.fnExactLikelyLostRow.wfByText (OpenSpec.ofChange Rows.fnExactLikelyLostSpec) = true := by kernel_rfl
theorem goes : false = Rows.fnExactLikelyLostRow.goesBy Tryd.pinned.checked.prog := by kernel_rfl
end Go.Proofs.YtlembainfhnnbaaDoor.lawLikelyLost
