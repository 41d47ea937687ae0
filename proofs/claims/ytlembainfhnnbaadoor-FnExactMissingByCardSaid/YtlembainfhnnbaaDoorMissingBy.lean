/-
  THE LAW FnExactMissingBy: for every two lists of numbers the law returns true: the program tells what is missing as the model does, changes no number, and what it returns is its own. No condition but that the package's errors are what the program's text lays.
-/
import Derived.Test.YtlembainfhnnbaaDoorMkMiss
import Derived.Test.YtlembainfhnnbaaDoorIntOpen
import Derived.Test.YtlembainfhnnbaaDoorOpenWords
import Derived.Test.YtlembainfhnnbaaDoorClose
import Derived.Test.YtlembainfhnnbaaDoorLaid
import Derived.Test.YtlembainfhnnbaaDoorCards
import Derived.Test.YtlembainfhnnbaaDoorTie
import Derived.ProofKit
import Derived.OpenShut
import Derived.Lib.SmallJoins
namespace Go.Proofs.YtlembainfhnnbaaDoor.lawMissingBy
open Go.ChangeShapes Go.WideShapes Go.ChangeAt Go.RowKit Go.Joins sl errs mks 

set_option maxRecDepth 100000 in
set_option maxHeartbeats 8000000 in
theorem walk (Axs : Option Addr) (nxs cxs : Nat) (xs : List Int) (enxs : nxs = xs.length) (hnxs : nxs ≤ 1048576) (Ays0 : Option Addr) (nys0 cys0 : Nat) (ys0 : List Int) (enys0 : nys0 = ys0.length) (hnys0 : nys0 ≤ 1048576) (w : World) (e : Nat → Addr) (hE : Errs w w.heap.size e) (hgxs : Sl intS.C 1 w w.heap.size Axs xs) (hgys0 : Sl intS.C 1 w w.heap.size Ays0 ys0) :
    Calls Tryd.prog 10 #[.slice Axs nxs cxs, .slice Ays0 nys0 cys0] w fun o w' => o = .returned (.bool true) ∧ Below w.heap.size w w' := by
  have Exs := Lib.hid enxs
  have Gxs := Lib.hid hgxs
  have Eys0 := Lib.hid enys0
  have Gys0 := Lib.hid hgys0
  obtain ⟨ys, k, hr⟩ : ∃ ys k, misR xs ys0 = (ys, k) := ⟨_, _, rfl⟩
  have HR := Lib.hid hr
  have hys : ys.length ≤ 1048576 := misR_le HR.out
  have HE := Lib.hid hE
  have H0 := Lib.hid (Below.refl w.heap.size w)
  clear hr hE enxs hgxs enys0 hgys0
  go_enter Tryd.func10, Tryd.ntmps10
  go_wp2_with fail
  refine (intS.toS_any Axs nxs cxs xs Exs.out hnxs _ ((Gxs.out.below H0.out).more H0.out.size)).mono ?_
  rintro o u ⟨ga0, rfl, P, hb⟩
  have ga0l := (P.lt ga0 rfl).1
  have ga0h := (P.lt ga0 rfl).2
  have LXa0 := Lib.hid (fun k hk => P.lt k hk)
  have z1 := hb.size
  have H1 := Lib.hid (below_next H0.out hb (Nat.le_refl _))
  clear hb H0
  have Xa0 := Lib.hid P
  clear P
  go_wp2_with fail
  refine (intS.toS_any Ays0 nys0 cys0 ys0 Eys0.out hnys0 _ ((Gys0.out.below H1.out).more H1.out.size)).mono ?_
  rintro o u ⟨ga1, rfl, P, hb⟩
  have ga1l := (P.lt ga1 rfl).1
  have ga1h := (P.lt ga1 rfl).2
  have LXa1 := Lib.hid (fun k hk => P.lt k hk)
  have z2 := hb.size
  have H2 := Lib.hid (below_next H1.out hb (Nat.le_refl _))
  have Xa0_2 := Lib.hid (owns_next Xa0.out hb)
  clear hb H1 Xa0
  have Xa1 := Lib.hid P
  clear P
  go_wp2_with fail
  refine (MissingBy_spec (some ⟨ga0, 0, none⟩) nxs nxs xs Exs.out hnxs (some ⟨ga1, 0, none⟩) nys0 nys0 ys0 Eys0.out hnys0 ys k HR.out _ (Sl.of_owns Xa0_2.out (intS.len _) (by decide)) (Sl.of_owns Xa1.out (intS.len _) (by decide))).mono ?_
  rintro o u ⟨v, rfl, P, hb⟩
  obtain ⟨Aw, cw, rfl, _⟩ := owns_slice P
  have LPW := Lib.hid (fun k hk => P.lt k hk)
  clear Xa0_2 LXa0
  clear Xa1 LXa1
  have z3 := hb.size
  have H3 := Lib.hid (below_next H2.out hb (Nat.le_refl _))
  clear hb H2
  have PW := Lib.hid P
  clear P
  go_wp2_with fail
  refine (intS.toS_any Axs nxs cxs xs Exs.out hnxs _ ((Gxs.out.below H3.out).more H3.out.size)).mono ?_
  rintro o u ⟨gb0, rfl, P, hb⟩
  have gb0l := (P.lt gb0 rfl).1
  have gb0h := (P.lt gb0 rfl).2
  have LXb0 := Lib.hid (fun k hk => P.lt k hk)
  have z4 := hb.size
  have H4 := Lib.hid (below_next H3.out hb (Nat.le_refl _))
  have PW_4 := Lib.hid (owns_next PW.out hb)
  clear hb H3 PW
  have Xb0 := Lib.hid P
  clear P
  go_wp2_with fail
  refine (intS.toS_any Ays0 nys0 cys0 ys0 Eys0.out hnys0 _ ((Gys0.out.below H4.out).more H4.out.size)).mono ?_
  rintro o u ⟨gb1, rfl, P, hb⟩
  have gb1l := (P.lt gb1 rfl).1
  have gb1h := (P.lt gb1 rfl).2
  have LXb1 := Lib.hid (fun k hk => P.lt k hk)
  have z5 := hb.size
  have H5 := Lib.hid (below_next H4.out hb (Nat.le_refl _))
  have PW_5 := Lib.hid (owns_next PW_4.out hb)
  have Xb0_5 := Lib.hid (owns_next Xb0.out hb)
  clear hb H4 PW_4 Xb0
  have Xb1 := Lib.hid P
  clear P
  go_wp2_with fail
  refine (MissingBy_any (some ⟨gb0, 0, none⟩) nxs xs Exs.out hnxs (some ⟨gb1, 0, none⟩) nys0 ys0 Eys0.out hnys0 ys k HR.out (HE.out.below H5.out) H5.out.size (Sl.of_owns Xb0_5.out (intS.len _) (by decide)) (Sl.of_owns Xb1.out (intS.len _) (by decide))).mono ?_
  rintro o u ⟨v, rfl, P, hb⟩
  obtain ⟨Ag, cg, rfl, _⟩ := owns_slice P
  have LPG := Lib.hid (fun k hk => P.lt k hk)
  have z6 := hb.size
  have H6 := Lib.hid (below_next H5.out hb (Nat.le_refl _))
  have PW_6 := Lib.hid (owns_next PW_5.out hb)
  have Xb0_6 := Lib.hid (owns_next Xb0_5.out hb)
  have Xb1_6 := Lib.hid (owns_next Xb1.out hb)
  clear hb H5 PW_5 Xb0_5 Xb1
  have PG := Lib.hid P
  clear P
  go_wp2_with fail
  refine (intS.eqS_any Ag Aw _ _ cg cw ys ys rfl rfl hys (by omega) _ (Sl.of_owns PG.out (intS.len _) (by decide)) (Sl.of_owns PW_6.out (intS.len _) (by decide)) true (by simp)).mono ?_
  rintro o u ⟨rfl, hb⟩
  have z7 := hb.size
  have H7 := Lib.hid (below_next H6.out hb (Nat.le_refl _))
  have PW_7 := Lib.hid (owns_next PW_6.out hb)
  have Xb0_7 := Lib.hid (owns_next Xb0_6.out hb)
  have Xb1_7 := Lib.hid (owns_next Xb1_6.out hb)
  have PG_7 := Lib.hid (owns_next PG.out hb)
  clear hb H6 PW_6 Xb0_6 Xb1_6 PG
  go_wp2_with fail
  refine (intS.toS_any Axs nxs cxs xs Exs.out hnxs _ ((Gxs.out.below H7.out).more H7.out.size)).mono ?_
  rintro o u ⟨gc0, rfl, P, hb⟩
  have gc0l := (P.lt gc0 rfl).1
  have gc0h := (P.lt gc0 rfl).2
  have LXc0 := Lib.hid (fun k hk => P.lt k hk)
  have z8 := hb.size
  have H8 := Lib.hid (below_next H7.out hb (Nat.le_refl _))
  have PW_8 := Lib.hid (owns_next PW_7.out hb)
  have Xb0_8 := Lib.hid (owns_next Xb0_7.out hb)
  have Xb1_8 := Lib.hid (owns_next Xb1_7.out hb)
  have PG_8 := Lib.hid (owns_next PG_7.out hb)
  clear hb H7 PW_7 Xb0_7 Xb1_7 PG_7
  have Xc0 := Lib.hid P
  clear P
  go_wp2_with fail
  refine (intS.eqS_any (some ⟨gb0, 0, none⟩) (some ⟨gc0, 0, none⟩) nxs nxs nxs nxs xs xs Exs.out Exs.out hnxs (by omega) _ (Sl.of_owns Xb0_8.out (intS.len _) (by decide)) (Sl.of_owns Xc0.out (intS.len _) (by decide)) true (by simp)).mono ?_
  rintro o u ⟨rfl, hb⟩
  clear Xc0 LXc0
  have z9 := hb.size
  have H9 := Lib.hid (below_next H8.out hb (Nat.le_refl _))
  have PW_9 := Lib.hid (owns_next PW_8.out hb)
  have Xb0_9 := Lib.hid (owns_next Xb0_8.out hb)
  have Xb1_9 := Lib.hid (owns_next Xb1_8.out hb)
  have PG_9 := Lib.hid (owns_next PG_8.out hb)
  clear hb H8 PW_8 Xb0_8 Xb1_8 PG_8
  go_wp2_with fail
  refine (intS.toS_any Ays0 nys0 cys0 ys0 Eys0.out hnys0 _ ((Gys0.out.below H9.out).more H9.out.size)).mono ?_
  rintro o u ⟨gc1, rfl, P, hb⟩
  have gc1l := (P.lt gc1 rfl).1
  have gc1h := (P.lt gc1 rfl).2
  have LXc1 := Lib.hid (fun k hk => P.lt k hk)
  have z10 := hb.size
  have H10 := Lib.hid (below_next H9.out hb (Nat.le_refl _))
  have PW_10 := Lib.hid (owns_next PW_9.out hb)
  have Xb0_10 := Lib.hid (owns_next Xb0_9.out hb)
  have Xb1_10 := Lib.hid (owns_next Xb1_9.out hb)
  have PG_10 := Lib.hid (owns_next PG_9.out hb)
  clear hb H9 PW_9 Xb0_9 Xb1_9 PG_9
  have Xc1 := Lib.hid P
  clear P
  go_wp2_with fail
  refine (intS.eqS_any (some ⟨gb1, 0, none⟩) (some ⟨gc1, 0, none⟩) nys0 nys0 nys0 nys0 ys0 ys0 Eys0.out Eys0.out hnys0 (by omega) _ (Sl.of_owns Xb1_10.out (intS.len _) (by decide)) (Sl.of_owns Xc1.out (intS.len _) (by decide)) true (by simp)).mono ?_
  rintro o u ⟨rfl, hb⟩
  clear Xc1 LXc1
  have z11 := hb.size
  have H11 := Lib.hid (below_next H10.out hb (Nat.le_refl _))
  have PW_11 := Lib.hid (owns_next PW_10.out hb)
  have Xb0_11 := Lib.hid (owns_next Xb0_10.out hb)
  have Xb1_11 := Lib.hid (owns_next Xb1_10.out hb)
  have PG_11 := Lib.hid (owns_next PG_10.out hb)
  clear hb H10 PW_10 Xb0_10 Xb1_10 PG_10
  go_wp2_with fail
  refine (intS.markS_row _ gb0 nxs nxs (1 : Int) (by omega) hnxs _ _ Xb0_11.out).mono ?_
  rintro o u ⟨rfl, _, hgr⟩
  have z12 := hgr.size
  have H12 := Lib.hid (H11.out.trans (grownBy_below hgr H11.out.size (by omega)))
  have PW_12 := Lib.hid (owns_other PW_11.out hgr (fun k hk e => by have t := LPW.out k hk; omega))
  have Xb1_12 := Lib.hid (owns_other Xb1_11.out hgr (fun k hk e => by have t := LXb1.out k hk; omega))
  have PG_12 := Lib.hid (owns_other PG_11.out hgr (fun k hk e => by have t := LPG.out k hk; omega))
  clear hgr H11 PW_11 Xb1_11 PG_11
  clear Xb0_11 LXb0
  go_wp2_with fail
  refine (intS.markS_row _ gb1 nys0 nys0 ((1 : Int) + (nxs : Int)) (by omega) hnys0 _ _ Xb1_12.out).mono ?_
  rintro o u ⟨rfl, _, hgr⟩
  have k1 : decide ((((1 : Int) + (nxs : Int)) + (nys0 : Int)) < 0) = false := by simp; omega
  have z13 := hgr.size
  have H13 := Lib.hid (H12.out.trans (grownBy_below hgr H12.out.size (by omega)))
  have PW_13 := Lib.hid (owns_other PW_12.out hgr (fun k hk e => by have t := LPW.out k hk; omega))
  have PG_13 := Lib.hid (owns_other PG_12.out hgr (fun k hk e => by have t := LPG.out k hk; omega))
  clear hgr H12 PW_12 PG_12
  clear Xb1_12 LXb1
  go_wp2_with fail
  refine (intS.eqS_any Ag Aw _ _ cg cw ys ys rfl rfl hys (by omega) _ (Sl.of_owns PG_13.out (intS.len _) (by decide)) (Sl.of_owns PW_13.out (intS.len _) (by decide)) true (by simp)).mono ?_
  rintro o u ⟨rfl, hb⟩
  have z14 := hb.size
  have H14 := Lib.hid (below_next H13.out hb (Nat.le_refl _))
  have PW_14 := Lib.hid (owns_next PW_13.out hb)
  have PG_14 := Lib.hid (owns_next PG_13.out hb)
  clear hb H13 PW_13 PG_13
  go_wp2_with fail
  refine (intS.markS_any _ _ _ 1 (by omega) hys _ _ PG_14.out).mono ?_
  rintro o u ⟨rfl, P, g9, hg9, hgr, _⟩
  have z15 := hgr.size
  have H15 := Lib.hid (H14.out.trans (grownBy_below hgr H14.out.size (by omega)))
  have PW_15 := Lib.hid (owns_other PW_14.out hgr (fun k hk e => by have t := LPW.out k hk; omega))
  clear hgr H14 PW_14
  clear PG_14
  have PM := Lib.hid P
  clear P
  have LPM := LPG
  clear LPG
  have k2 : decide ((1 : Int) + (ys.length : Int) < 0) = false := by simp; omega
  go_wp2_with fail
  refine (intS.heldS_any Ag _ cg 1 (by omega) hys _ _ (Sl.of_owns PM.out (intS.len _) (by decide))).mono ?_
  rintro o u ⟨rfl, rfl⟩
  go_wp2_with fail
  refine (intS.toS_any Axs nxs cxs xs Exs.out hnxs _ ((Gxs.out.below H15.out).more H15.out.size)).mono ?_
  rintro o u ⟨gd0, rfl, P, hb⟩
  have gd0l := (P.lt gd0 rfl).1
  have gd0h := (P.lt gd0 rfl).2
  have LXd0 := Lib.hid (fun k hk => P.lt k hk)
  have z16 := hb.size
  have H16 := Lib.hid (below_next H15.out hb (Nat.le_refl _))
  have PW_16 := Lib.hid (owns_next PW_15.out hb)
  have PM_16 := Lib.hid (owns_next PM.out hb)
  clear hb H15 PW_15 PM
  have Xd0 := Lib.hid P
  clear P
  go_wp2_with fail
  refine (intS.toS_any Ays0 nys0 cys0 ys0 Eys0.out hnys0 _ ((Gys0.out.below H16.out).more H16.out.size)).mono ?_
  rintro o u ⟨gd1, rfl, P, hb⟩
  have gd1l := (P.lt gd1 rfl).1
  have gd1h := (P.lt gd1 rfl).2
  have LXd1 := Lib.hid (fun k hk => P.lt k hk)
  have z17 := hb.size
  have H17 := Lib.hid (below_next H16.out hb (Nat.le_refl _))
  have PW_17 := Lib.hid (owns_next PW_16.out hb)
  have PM_17 := Lib.hid (owns_next PM_16.out hb)
  have Xd0_17 := Lib.hid (owns_next Xd0.out hb)
  clear hb H16 PW_16 PM_16 Xd0
  have Xd1 := Lib.hid P
  clear P
  go_wp2_with fail
  refine (MissingBy_any (some ⟨gd0, 0, none⟩) nxs xs Exs.out hnxs (some ⟨gd1, 0, none⟩) nys0 ys0 Eys0.out hnys0 ys k HR.out (HE.out.below H17.out) H17.out.size (Sl.of_owns Xd0_17.out (intS.len _) (by decide)) (Sl.of_owns Xd1.out (intS.len _) (by decide))).mono ?_
  rintro o u ⟨v, rfl, P, hb⟩
  obtain ⟨Ah, ch, rfl, _⟩ := owns_slice P
  have LPH := Lib.hid (fun k hk => P.lt k hk)
  clear Xd0_17 LXd0
  clear Xd1 LXd1
  have z18 := hb.size
  have H18 := Lib.hid (below_next H17.out hb (Nat.le_refl _))
  have PW_18 := Lib.hid (owns_next PW_17.out hb)
  have PM_18 := Lib.hid (owns_next PM_17.out hb)
  clear hb H17 PW_17 PM_17
  have PH := Lib.hid P
  clear P
  go_wp2_with fail
  refine (intS.eqS_any Ah Aw _ _ ch cw ys ys rfl rfl hys (by omega) _ (Sl.of_owns PH.out (intS.len _) (by decide)) (Sl.of_owns PW_18.out (intS.len _) (by decide)) true (by simp)).mono ?_
  rintro o u ⟨rfl, hb⟩
  have z19 := hb.size
  have H19 := Lib.hid (below_next H18.out hb (Nat.le_refl _))
  have PW_19 := Lib.hid (owns_next PW_18.out hb)
  have PM_19 := Lib.hid (owns_next PM_18.out hb)
  have PH_19 := Lib.hid (owns_next PH.out hb)
  clear hb H18 PW_18 PM_18 PH
  go_wp2_with fail
  refine (intS.heldS_any Ag _ cg 1 (by omega) hys _ _ (Sl.of_owns PM_19.out (intS.len _) (by decide))).mono ?_
  rintro o u ⟨rfl, rfl⟩
  go_wp2_with fail
  go_ret
  exact ⟨rfl, H19.out⟩

set_option maxHeartbeats 1000000 in
theorem walk_long0 (Axs : Option Addr) (nxs cxs : Nat) (hmxs : nxs ≤ 9223372036854775807) (Ays0 : Option Addr) (nys0 cys0 : Nat) (hmys0 : nys0 ≤ 9223372036854775807)  (hbxs : 1048576 < nxs) (w : World) :
    Calls Tryd.prog 10 #[.slice Axs nxs cxs, .slice Ays0 nys0 cys0] w fun e w' => e = .returned (.bool true) ∧ Below w.heap.size w w' := by
  go_enter Tryd.func10, Tryd.ntmps10
  go_wp2_with fail
  go_ret
  exact ⟨rfl, Below.refl _ _⟩

set_option maxHeartbeats 1000000 in
theorem walk_long1 (Axs : Option Addr) (nxs cxs : Nat) (hmxs : nxs ≤ 9223372036854775807) (Ays0 : Option Addr) (nys0 cys0 : Nat) (hmys0 : nys0 ≤ 9223372036854775807) (hsxs : nxs ≤ 1048576) (hbys0 : 1048576 < nys0) (w : World) :
    Calls Tryd.prog 10 #[.slice Axs nxs cxs, .slice Ays0 nys0 cys0] w fun e w' => e = .returned (.bool true) ∧ Below w.heap.size w w' := by
  go_enter Tryd.func10, Tryd.ntmps10
  go_wp2_with fail
  go_ret
  exact ⟨rfl, Below.refl _ _⟩

theorem readables : ∀ t ∈ Tryd.f10.params.toList, Tryd.prog.readableRec t = true ∧ t < Tryd.prog.types.size := by
  rw [Tryd.params10]
  intro t ht
  simp only [List.mem_cons, List.not_mem_nil, or_false] at ht
  rcases ht with rfl | rfl <;> exact ⟨by kernel_rfl, of_decide_eq_true (by kernel_rfl)⟩

set_option maxRecDepth 100000 in
/-- what the row's list gives -/
theorem errsLaid {W : World} (h : laidMetH Tryd.prog Rows.fnExactMissingByRow.laid W) : ∃ e, Errs W W.heap.size e := by
  rw [MakeChecks.laidMetH_plain _ _ _ (by kernel_rfl)] at h
  refine errs_of Rows.fnExactMissingByRow.laid (fun i => i) h (by kernel_rfl) ?_ ?_ (fun i j _ _ h => h)
  · have hall : ((listOf Rows.fnExactMissingByRow.laid).all fun x => match Tryd.prog.globalNamed x.1 with | some g => decide ((Tryd.prog.globals[g]?).map (·.type) = some 65) | none => false) = true := by kernel_rfl
    intro x hx
    have h1 := List.all_eq_true.1 hall x hx
    split at h1
    · rename_i g hg
      exact ⟨g, hg, of_decide_eq_true h1⟩
    · cases h1
  · have b0 : ((listOf Rows.fnExactMissingByRow.laid)[0]?).bind (fun x => Tryd.prog.globalNamed x.1) = some (gvar 0) := by kernel_rfl
    have b1 : ((listOf Rows.fnExactMissingByRow.laid)[1]?).bind (fun x => Tryd.prog.globalNamed x.1) = some (gvar 1) := by kernel_rfl
    have b2 : ((listOf Rows.fnExactMissingByRow.laid)[2]?).bind (fun x => Tryd.prog.globalNamed x.1) = some (gvar 2) := by kernel_rfl
    have b3 : ((listOf Rows.fnExactMissingByRow.laid)[3]?).bind (fun x => Tryd.prog.globalNamed x.1) = some (gvar 3) := by kernel_rfl
    have b4 : ((listOf Rows.fnExactMissingByRow.laid)[4]?).bind (fun x => Tryd.prog.globalNamed x.1) = some (gvar 4) := by kernel_rfl
    have b5 : ((listOf Rows.fnExactMissingByRow.laid)[5]?).bind (fun x => Tryd.prog.globalNamed x.1) = some (gvar 5) := by kernel_rfl
    have b6 : ((listOf Rows.fnExactMissingByRow.laid)[6]?).bind (fun x => Tryd.prog.globalNamed x.1) = some (gvar 6) := by kernel_rfl
    intro i hi
    match i, hi with
    | 0, _ => exact b0
    | 1, _ => exact b1
    | 2, _ => exact b2
    | 3, _ => exact b3
    | 4, _ => exact b4
    | 5, _ => exact b5
    | 6, _ => exact b6

set_option maxRecDepth 100000 in
theorem contract (H : Type) (enc : TypeId × Value → H) (W : World) (base : Nat) (args : Array Value) (ds gs : List (DataW H)) (before : List MemPlace)
    (hval : ∀ (j : Nat) t v, Tryd.f10.params[j]? = some t → args[j]? = some v → Value.okWide Tryd.prog W .any base t v)
    (hW : DataW.Whole enc Tryd.prog Tryd.f10.params.toList Rows.fnExactMissingBySpec.vars false W args.toList ds gs before) (hL : laidMetH Tryd.prog Rows.fnExactMissingByRow.laid W) :
    Calls Tryd.prog 10 args W fun e W' => ∃ v, e = .returned v ∧ Rows.fnExactMissingBySpec.post enc Tryd.prog Tryd.f10 false true false false W args v W' := by
  obtain ⟨ee, hE⟩ := errsLaid hL
  have hW' := hW
  obtain ⟨p, q, hA0, hV, rfl, hfz, hnd⟩ := hW
  have hA : DataW.TrodAll enc Tryd.prog W 0 (fun _ => true) true Tryd.f10.params.toList args.toList ds p := hA0
  rw [Tryd.params10] at hA hval
  clear hA0
  obtain ⟨v0, vs0, d0, ds0, p0, q0, hargs, rfl, rfl, h0, r0⟩ := trodAll_cons hA
  obtain ⟨v1, vs1, d1, ds1, p1, q1, rfl, rfl, rfl, h1, r1⟩ := trodAll_cons r0
  obtain ⟨rfl, rfl, rfl⟩ := trodAll_nil r1
  obtain rfl : args = #[v0, v1] := by cases args; simp_all
  obtain ⟨z0, z1, z2, z3, z4, z5, z6, rfl⟩ := vars_of hV
  obtain ⟨Axs, cxs, xs, rfl, hlxs, hgxs⟩ := intS.open_many (hval 0 46 v0 rfl rfl) h0
  obtain ⟨Ays0, cys0, ys0, rfl, hlys0, hgys0⟩ := intS.open_many (hval 1 46 v1 rfl rfl) h1
  have walk : Calls Tryd.prog 10 #[.slice Axs xs.length cxs, .slice Ays0 ys0.length cys0] W fun e W' => e = .returned (.bool true) ∧ Below W.heap.size W W' := by
    unfold maxLen at hlxs
    unfold maxLen at hlys0
    rcases Nat.lt_or_ge 1048576 xs.length with hxss | hxss
    · exact walk_long0 Axs _ cxs hlxs Ays0 _ cys0 hlys0  hxss W
    rcases Nat.lt_or_ge 1048576 ys0.length with hys0s | hys0s
    · exact walk_long1 Axs _ cxs hlxs Ays0 _ cys0 hlys0 hxss hys0s W
    exact walk Axs _ cxs xs rfl hxss Ays0 _ cys0 ys0 rfl hys0s W ee hE hgxs hgys0
  refine walk.mono fun e W' ⟨he, hb⟩ => ?_
  subst he
  exact ⟨_, rfl, close_vars laidOut readables (by kernel_rfl) Tryd.underlying4 rfl rfl hW' hb⟩

end Go.Proofs.YtlembainfhnnbaaDoor.lawMissingBy
