/-
  THE LAW FnExactSortByMarks: for every number of stitches and every two lists of marks the law returns true: the program sorts what has been seen as the model does, changes no mark, and what it returns is its own. No condition but that the package's errors are what the program's text lays.
-/
import Derived.Test.YtlembainfhnnbaaDoorJoin16
import Derived.Test.YtlembainfhnnbaaDoorJoin18
import Derived.Test.YtlembainfhnnbaaDoorOpenWords
import Derived.Test.YtlembainfhnnbaaDoorClose
import Derived.Test.YtlembainfhnnbaaDoorLaid
import Derived.Test.YtlembainfhnnbaaDoorCards
import Derived.Test.YtlembainfhnnbaaDoorTie
import Derived.ProofKit
import Derived.OpenShut
import Derived.Lib.SmallJoins
namespace Go.Proofs.YtlembainfhnnbaaDoor.lawSortByMarks
open Go.ChangeShapes Go.WideShapes Go.ChangeAt Go.RowKit Go.Joins sl errs rows mks 

set_option maxRecDepth 100000 in
set_option maxHeartbeats 8000000 in
theorem walk (s : Int) (Axs : Option Addr) (nxs cxs : Nat) (xs : List Nat) (enxs : nxs = xs.length) (hnxs : nxs ≤ 1048576) (hfxs : ∀ x ∈ xs, x < 65536) (Ass : Option Addr) (nss css : Nat) (ss : List Nat) (enss : nss = ss.length) (hnss : nss ≤ 1048576) (hfss : ∀ x ∈ ss, x < 65536) (w : World) (e : Nat → Addr) (hE : Errs w w.heap.size e) (hgxs : Sl marS.C 1 w w.heap.size Axs xs) (hgss : Sl marS.C 1 w w.heap.size Ass ss) :
    Calls Tryd.prog 13 #[.int .i64 s, .slice Axs nxs cxs, .slice Ass nss css] w fun o w' => o = .returned (.bool true) ∧ Below w.heap.size w w' := by
  have Exs := Lib.hid enxs
  have Gxs := Lib.hid hgxs
  have HFxs := Lib.hid hfxs
  have Ess := Lib.hid enss
  have Gss := Lib.hid hgss
  have HFss := Lib.hid hfss
  obtain ⟨st, k, hr⟩ : ∃ st k, sorR s xs ss = (st, k) := ⟨_, _, rfl⟩
  have HR := Lib.hid hr
  have hys : st.2.length ≤ 1048576 := (sorR_small hr).1
  have HSM := Lib.hid (sorR_small hr).2
  have HE := Lib.hid hE
  have H0 := Lib.hid (Below.refl w.heap.size w)
  clear hr hE enxs hgxs hfxs enss hgss hfss
  go_enter Tryd.func13, Tryd.ntmps13
  go_wp2_with fail
  refine (marS.toS_any Axs nxs cxs xs Exs.out hnxs _ ((Gxs.out.below H0.out).more H0.out.size)).mono ?_
  rintro o u ⟨ga0, rfl, P, hb⟩
  have ga0l := (P.lt ga0 rfl).1
  have ga0h := (P.lt ga0 rfl).2
  have LXa0 := Lib.hid (fun k hk => P.lt k hk)
  have z1 := hb.size
  have H1 := Lib.hid (below_next H0.out hb (Nat.le_refl _))
  clear hb H0
  have Xa0 := Lib.hid P
  clear P
  go_wp2_with fail
  refine (marS.toS_any Ass nss css ss Ess.out hnss _ ((Gss.out.below H1.out).more H1.out.size)).mono ?_
  rintro o u ⟨ga1, rfl, P, hb⟩
  have ga1l := (P.lt ga1 rfl).1
  have ga1h := (P.lt ga1 rfl).2
  have LXa1 := Lib.hid (fun k hk => P.lt k hk)
  have z2 := hb.size
  have H2 := Lib.hid (below_next H1.out hb (Nat.le_refl _))
  have Xa0_2 := Lib.hid (owns_next Xa0.out hb)
  clear hb H1 Xa0
  have Xa1 := Lib.hid P
  clear P
  go_wp2_with fail
  refine (SortByMarks_spec s (some ⟨ga0, 0, none⟩) nxs nxs xs Exs.out hnxs HFxs.out (some ⟨ga1, 0, none⟩) nss nss ss Ess.out hnss HFss.out st k HR.out _ (Sl.of_owns Xa0_2.out (marS.len _) (by decide)) (Sl.of_owns Xa1.out (marS.len _) (by decide))).mono ?_
  rintro o u ⟨AW, cW, rsW, v, rfl, SRR, nm, hb⟩
  obtain ⟨BW, dW, rfl, _⟩ := owns_slice SRR.own
  have NW := Lib.hid nm
  have SEPW := Lib.hid (sr_free SRR)
  have LPW := Lib.hid (fun k hk => SRR.own.lt k hk)
  have LQW := Lib.hid (ot_blocks (OT.of SRR.os))
  obtain ⟨tW, smW⟩ := HSM.out rsW nm
  have SW := Lib.hid smW
  have TW := Lib.hid tW
  clear nm smW
  clear Xa0_2 LXa0
  clear Xa1 LXa1
  have z3 := hb.size
  have H3 := Lib.hid (below_next H2.out hb (Nat.le_refl _))
  clear hb H2
  have QW := Lib.hid (OT.of SRR.os)
  have PW := Lib.hid SRR.own
  clear SRR
  go_wp2_with fail
  refine (marS.toS_any Axs nxs cxs xs Exs.out hnxs _ ((Gxs.out.below H3.out).more H3.out.size)).mono ?_
  rintro o u ⟨gb0, rfl, P, hb⟩
  have gb0l := (P.lt gb0 rfl).1
  have gb0h := (P.lt gb0 rfl).2
  have LXb0 := Lib.hid (fun k hk => P.lt k hk)
  have z4 := hb.size
  have H4 := Lib.hid (below_next H3.out hb (Nat.le_refl _))
  have QW_4 := Lib.hid (QW.out.next hb)
  have PW_4 := Lib.hid (owns_next PW.out hb)
  clear hb H3 QW PW
  have Xb0 := Lib.hid P
  clear P
  go_wp2_with fail
  refine (marS.toS_any Ass nss css ss Ess.out hnss _ ((Gss.out.below H4.out).more H4.out.size)).mono ?_
  rintro o u ⟨gb1, rfl, P, hb⟩
  have gb1l := (P.lt gb1 rfl).1
  have gb1h := (P.lt gb1 rfl).2
  have LXb1 := Lib.hid (fun k hk => P.lt k hk)
  have z5 := hb.size
  have H5 := Lib.hid (below_next H4.out hb (Nat.le_refl _))
  have QW_5 := Lib.hid (QW_4.out.next hb)
  have PW_5 := Lib.hid (owns_next PW_4.out hb)
  have Xb0_5 := Lib.hid (owns_next Xb0.out hb)
  clear hb H4 QW_4 PW_4 Xb0
  have Xb1 := Lib.hid P
  clear P
  go_wp2_with fail
  refine (SortByMarks_any s (some ⟨gb0, 0, none⟩) nxs xs Exs.out hnxs HFxs.out (some ⟨gb1, 0, none⟩) nss ss Ess.out hnss HFss.out st k HR.out (HE.out.below H5.out) H5.out.size (Sl.of_owns Xb0_5.out (marS.len _) (by decide)) (Sl.of_owns Xb1.out (marS.len _) (by decide))).mono ?_
  rintro o u ⟨AG, cG, rsG, v, rfl, SRR, nm, hb⟩
  obtain ⟨BG, dG, rfl, _⟩ := owns_slice SRR.own
  have NG := Lib.hid nm
  have SEPG := Lib.hid (sr_free SRR)
  have LPG := Lib.hid (fun k hk => SRR.own.lt k hk)
  have LQG := Lib.hid (ot_blocks (OT.of SRR.os))
  obtain ⟨tG, smG⟩ := HSM.out rsG nm
  have SG := Lib.hid smG
  have TG := Lib.hid tG
  clear nm smG
  have z6 := hb.size
  have H6 := Lib.hid (below_next H5.out hb (Nat.le_refl _))
  have QW_6 := Lib.hid (QW_5.out.next hb)
  have PW_6 := Lib.hid (owns_next PW_5.out hb)
  have Xb0_6 := Lib.hid (owns_next Xb0_5.out hb)
  have Xb1_6 := Lib.hid (owns_next Xb1.out hb)
  clear hb H5 QW_5 PW_5 Xb0_5 Xb1
  have QG := Lib.hid (OT.of SRR.os)
  have PG := Lib.hid SRR.own
  clear SRR
  go_wp2_with fail
  refine (eqSS_any AG AW rsG.length rsW.length cG cW rsG rsW rfl rfl (by omega) (by omega) SG.out _ QG.out.ss QW_6.out.ss true (by rw [NG.out, NW.out]; simp)).mono ?_
  rintro o u ⟨rfl, hb⟩
  have z7 := hb.size
  have H7 := Lib.hid (below_next H6.out hb (Nat.le_refl _))
  have QW_7 := Lib.hid (QW_6.out.next hb)
  have PW_7 := Lib.hid (owns_next PW_6.out hb)
  have Xb0_7 := Lib.hid (owns_next Xb0_6.out hb)
  have Xb1_7 := Lib.hid (owns_next Xb1_6.out hb)
  have QG_7 := Lib.hid (QG.out.next hb)
  have PG_7 := Lib.hid (owns_next PG.out hb)
  clear hb H6 QW_6 PW_6 Xb0_6 Xb1_6 QG PG
  go_wp2_with fail
  refine (intS.eqS_any BG BW _ _ dG dW st.2 st.2 rfl rfl hys (by omega) _ (Sl.of_owns PG_7.out (intS.len _) (by decide)) (Sl.of_owns PW_7.out (intS.len _) (by decide)) true (by simp)).mono ?_
  rintro o u ⟨rfl, hb⟩
  have z8 := hb.size
  have H8 := Lib.hid (below_next H7.out hb (Nat.le_refl _))
  have QW_8 := Lib.hid (QW_7.out.next hb)
  have PW_8 := Lib.hid (owns_next PW_7.out hb)
  have Xb0_8 := Lib.hid (owns_next Xb0_7.out hb)
  have Xb1_8 := Lib.hid (owns_next Xb1_7.out hb)
  have QG_8 := Lib.hid (QG_7.out.next hb)
  have PG_8 := Lib.hid (owns_next PG_7.out hb)
  clear hb H7 QW_7 PW_7 Xb0_7 Xb1_7 QG_7 PG_7
  go_wp2_with fail
  refine (marS.toS_any Axs nxs cxs xs Exs.out hnxs _ ((Gxs.out.below H8.out).more H8.out.size)).mono ?_
  rintro o u ⟨gc0, rfl, P, hb⟩
  have gc0l := (P.lt gc0 rfl).1
  have gc0h := (P.lt gc0 rfl).2
  have LXc0 := Lib.hid (fun k hk => P.lt k hk)
  have z9 := hb.size
  have H9 := Lib.hid (below_next H8.out hb (Nat.le_refl _))
  have QW_9 := Lib.hid (QW_8.out.next hb)
  have PW_9 := Lib.hid (owns_next PW_8.out hb)
  have Xb0_9 := Lib.hid (owns_next Xb0_8.out hb)
  have Xb1_9 := Lib.hid (owns_next Xb1_8.out hb)
  have QG_9 := Lib.hid (QG_8.out.next hb)
  have PG_9 := Lib.hid (owns_next PG_8.out hb)
  clear hb H8 QW_8 PW_8 Xb0_8 Xb1_8 QG_8 PG_8
  have Xc0 := Lib.hid P
  clear P
  go_wp2_with fail
  refine (marS.eqS_any (some ⟨gb0, 0, none⟩) (some ⟨gc0, 0, none⟩) nxs nxs nxs nxs xs xs Exs.out Exs.out hnxs (by omega) _ (Sl.of_owns Xb0_9.out (marS.len _) (by decide)) (Sl.of_owns Xc0.out (marS.len _) (by decide)) true (by simp)).mono ?_
  rintro o u ⟨rfl, hb⟩
  clear Xc0 LXc0
  have z10 := hb.size
  have H10 := Lib.hid (below_next H9.out hb (Nat.le_refl _))
  have QW_10 := Lib.hid (QW_9.out.next hb)
  have PW_10 := Lib.hid (owns_next PW_9.out hb)
  have Xb0_10 := Lib.hid (owns_next Xb0_9.out hb)
  have Xb1_10 := Lib.hid (owns_next Xb1_9.out hb)
  have QG_10 := Lib.hid (QG_9.out.next hb)
  have PG_10 := Lib.hid (owns_next PG_9.out hb)
  clear hb H9 QW_9 PW_9 Xb0_9 Xb1_9 QG_9 PG_9
  go_wp2_with fail
  refine (marS.toS_any Ass nss css ss Ess.out hnss _ ((Gss.out.below H10.out).more H10.out.size)).mono ?_
  rintro o u ⟨gc1, rfl, P, hb⟩
  have gc1l := (P.lt gc1 rfl).1
  have gc1h := (P.lt gc1 rfl).2
  have LXc1 := Lib.hid (fun k hk => P.lt k hk)
  have z11 := hb.size
  have H11 := Lib.hid (below_next H10.out hb (Nat.le_refl _))
  have QW_11 := Lib.hid (QW_10.out.next hb)
  have PW_11 := Lib.hid (owns_next PW_10.out hb)
  have Xb0_11 := Lib.hid (owns_next Xb0_10.out hb)
  have Xb1_11 := Lib.hid (owns_next Xb1_10.out hb)
  have QG_11 := Lib.hid (QG_10.out.next hb)
  have PG_11 := Lib.hid (owns_next PG_10.out hb)
  clear hb H10 QW_10 PW_10 Xb0_10 Xb1_10 QG_10 PG_10
  have Xc1 := Lib.hid P
  clear P
  go_wp2_with fail
  refine (marS.eqS_any (some ⟨gb1, 0, none⟩) (some ⟨gc1, 0, none⟩) nss nss nss nss ss ss Ess.out Ess.out hnss (by omega) _ (Sl.of_owns Xb1_11.out (marS.len _) (by decide)) (Sl.of_owns Xc1.out (marS.len _) (by decide)) true (by simp)).mono ?_
  rintro o u ⟨rfl, hb⟩
  clear Xc1 LXc1
  have z12 := hb.size
  have H12 := Lib.hid (below_next H11.out hb (Nat.le_refl _))
  have QW_12 := Lib.hid (QW_11.out.next hb)
  have PW_12 := Lib.hid (owns_next PW_11.out hb)
  have Xb0_12 := Lib.hid (owns_next Xb0_11.out hb)
  have Xb1_12 := Lib.hid (owns_next Xb1_11.out hb)
  have QG_12 := Lib.hid (QG_11.out.next hb)
  have PG_12 := Lib.hid (owns_next PG_11.out hb)
  clear hb H11 QW_11 PW_11 Xb0_11 Xb1_11 QG_11 PG_11
  go_wp2_with fail
  refine (marS.markS_rowZ _ gb0 nxs nxs (1 : Int) (by omega) hnxs _ _ Xb0_12.out).mono ?_
  rintro o u ⟨rfl, _, hgr⟩
  have z13 := hgr.size
  have H13 := Lib.hid (H12.out.trans (grownBy_below hgr H12.out.size (by omega)))
  have QW_13 := Lib.hid (ot_apart QW_12.out (But.of_grown hgr) (fun k hk e => by have t := LQW.out k hk; omega))
  have PW_13 := Lib.hid (owns_other PW_12.out hgr (fun k hk e => by have t := LPW.out k hk; omega))
  have Xb1_13 := Lib.hid (owns_other Xb1_12.out hgr (fun k hk e => by have t := LXb1.out k hk; omega))
  have QG_13 := Lib.hid (ot_apart QG_12.out (But.of_grown hgr) (fun k hk e => by have t := LQG.out k hk; omega))
  have PG_13 := Lib.hid (owns_other PG_12.out hgr (fun k hk e => by have t := LPG.out k hk; omega))
  clear hgr H12 QW_12 PW_12 Xb1_12 QG_12 PG_12
  clear Xb0_12 LXb0
  go_wp2_with fail
  refine (marS.markS_rowZ _ gb1 nss nss ((1 : Int) + (nxs : Int)) (by omega) hnss _ _ Xb1_13.out).mono ?_
  rintro o u ⟨rfl, _, hgr⟩
  have k1 : decide ((((1 : Int) + (nxs : Int)) + (nss : Int)) < 0) = false := by simp; omega
  have z14 := hgr.size
  have H14 := Lib.hid (H13.out.trans (grownBy_below hgr H13.out.size (by omega)))
  have QW_14 := Lib.hid (ot_apart QW_13.out (But.of_grown hgr) (fun k hk e => by have t := LQW.out k hk; omega))
  have PW_14 := Lib.hid (owns_other PW_13.out hgr (fun k hk e => by have t := LPW.out k hk; omega))
  have QG_14 := Lib.hid (ot_apart QG_13.out (But.of_grown hgr) (fun k hk e => by have t := LQG.out k hk; omega))
  have PG_14 := Lib.hid (owns_other PG_13.out hgr (fun k hk e => by have t := LPG.out k hk; omega))
  clear hgr H13 QW_13 PW_13 QG_13 PG_13
  clear Xb1_13 LXb1
  go_wp2_with fail
  refine (eqSS_any AG AW rsG.length rsW.length cG cW rsG rsW rfl rfl (by omega) (by omega) SG.out _ QG_14.out.ss QW_14.out.ss true (by rw [NG.out, NW.out]; simp)).mono ?_
  rintro o u ⟨rfl, hb⟩
  have z15 := hb.size
  have H15 := Lib.hid (below_next H14.out hb (Nat.le_refl _))
  have QW_15 := Lib.hid (QW_14.out.next hb)
  have PW_15 := Lib.hid (owns_next PW_14.out hb)
  have QG_15 := Lib.hid (QG_14.out.next hb)
  have PG_15 := Lib.hid (owns_next PG_14.out hb)
  clear hb H14 QW_14 PW_14 QG_14 PG_14
  go_wp2_with fail
  refine (intS.eqS_any BG BW _ _ dG dW st.2 st.2 rfl rfl hys (by omega) _ (Sl.of_owns PG_15.out (intS.len _) (by decide)) (Sl.of_owns PW_15.out (intS.len _) (by decide)) true (by simp)).mono ?_
  rintro o u ⟨rfl, hb⟩
  have z16 := hb.size
  have H16 := Lib.hid (below_next H15.out hb (Nat.le_refl _))
  have QW_16 := Lib.hid (QW_15.out.next hb)
  have PW_16 := Lib.hid (owns_next PW_15.out hb)
  have QG_16 := Lib.hid (QG_15.out.next hb)
  have PG_16 := Lib.hid (owns_next PG_15.out hb)
  clear hb H15 QW_15 PW_15 QG_15 PG_15
  go_wp2_with fail
  refine (markSS_any _ _ AG cG rsG.length rsG rfl QG_16.out 1 (by omega) TG.out).mono ?_
  rintro o u ⟨rfl, OM, hbut⟩
  have z17 := hbut.size
  have H17 := Lib.hid (H16.out.trans (hbut.below H16.out.size (fun k hk => by have t := LQG.out k hk; omega)))
  have QW_17 := Lib.hid (ot_apart QW_16.out hbut (fun k hk hx => by have t := LQW.out k hk; have t2 := LQG.out k hx; omega))
  have PW_17 := Lib.hid (owns_but PW_16.out hbut (fun k hk hx => by have t := LPW.out k hk; have t2 := LQG.out k hx; omega))
  have PG_17 := Lib.hid (owns_but PG_16.out hbut (fun k hk hx => SEPG.out k hk hx))
  clear hbut H16 QW_16 PW_16 PG_16
  have QM := Lib.hid OM
  clear OM QG_16
  go_wp2_with fail
  refine (markI_but _ _ _ ((1 : Int) + (tot rsG : Int)) (by omega) hys _ _ PG_17.out).mono ?_
  rintro o u ⟨rfl, P, hbut⟩
  have z18 := hbut.size
  have H18 := Lib.hid (H17.out.trans (hbut.below H17.out.size (fun k hk => by have t := LPG.out k hk; omega)))
  have QW_18 := Lib.hid (ot_apart QW_17.out hbut (fun k hk hx => by have t := LQW.out k hk; have t2 := LPG.out k hx; omega))
  have PW_18 := Lib.hid (owns_but PW_17.out hbut (fun k hk hx => by have t := LPW.out k hk; have t2 := LPG.out k hx; omega))
  have QM_18 := Lib.hid (ot_apart QM.out hbut (fun k hk hx => SEPG.out k hx (blocks_markR hk)))
  clear hbut H17 QW_17 PW_17 QM
  have PM := Lib.hid P
  clear P PG_17
  have k2 : decide ((1 : Int) + (tot rsG : Int) < 0) = false := by simp; omega
  have k3 : decide ((1 : Int) + (tot rsG : Int) + (st.2.length : Int) < 0) = false := by simp; omega
  go_wp2_with fail
  refine (heldSS_any _ AG cG rsG.length rsG rfl 1 QM_18.out.ss (by omega) TG.out).mono ?_
  rintro o u ⟨rfl, rfl⟩
  go_wp2_with fail
  refine (intS.heldS_any BG _ dG ((1 : Int) + (tot rsG : Int)) (by omega) hys _ _ (Sl.of_owns PM.out (intS.len _) (by decide))).mono ?_
  rintro o u ⟨rfl, rfl⟩
  go_wp2_with fail
  refine (marS.toS_any Axs nxs cxs xs Exs.out hnxs _ ((Gxs.out.below H18.out).more H18.out.size)).mono ?_
  rintro o u ⟨gd0, rfl, P, hb⟩
  have gd0l := (P.lt gd0 rfl).1
  have gd0h := (P.lt gd0 rfl).2
  have LXd0 := Lib.hid (fun k hk => P.lt k hk)
  have z19 := hb.size
  have H19 := Lib.hid (below_next H18.out hb (Nat.le_refl _))
  have QW_19 := Lib.hid (QW_18.out.next hb)
  have PW_19 := Lib.hid (owns_next PW_18.out hb)
  have QM_19 := Lib.hid (QM_18.out.next hb)
  have PM_19 := Lib.hid (owns_next PM.out hb)
  clear hb H18 QW_18 PW_18 QM_18 PM
  have Xd0 := Lib.hid P
  clear P
  go_wp2_with fail
  refine (marS.toS_any Ass nss css ss Ess.out hnss _ ((Gss.out.below H19.out).more H19.out.size)).mono ?_
  rintro o u ⟨gd1, rfl, P, hb⟩
  have gd1l := (P.lt gd1 rfl).1
  have gd1h := (P.lt gd1 rfl).2
  have LXd1 := Lib.hid (fun k hk => P.lt k hk)
  have z20 := hb.size
  have H20 := Lib.hid (below_next H19.out hb (Nat.le_refl _))
  have QW_20 := Lib.hid (QW_19.out.next hb)
  have PW_20 := Lib.hid (owns_next PW_19.out hb)
  have QM_20 := Lib.hid (QM_19.out.next hb)
  have PM_20 := Lib.hid (owns_next PM_19.out hb)
  have Xd0_20 := Lib.hid (owns_next Xd0.out hb)
  clear hb H19 QW_19 PW_19 QM_19 PM_19 Xd0
  have Xd1 := Lib.hid P
  clear P
  go_wp2_with fail
  refine (SortByMarks_any s (some ⟨gd0, 0, none⟩) nxs xs Exs.out hnxs HFxs.out (some ⟨gd1, 0, none⟩) nss ss Ess.out hnss HFss.out st k HR.out (HE.out.below H20.out) H20.out.size (Sl.of_owns Xd0_20.out (marS.len _) (by decide)) (Sl.of_owns Xd1.out (marS.len _) (by decide))).mono ?_
  rintro o u ⟨AH, cH, rsH, v, rfl, SRR, nm, hb⟩
  obtain ⟨BH, dH, rfl, _⟩ := owns_slice SRR.own
  have NH := Lib.hid nm
  have SEPH := Lib.hid (sr_free SRR)
  have LPH := Lib.hid (fun k hk => SRR.own.lt k hk)
  have LQH := Lib.hid (ot_blocks (OT.of SRR.os))
  obtain ⟨tH, smH⟩ := HSM.out rsH nm
  have SH := Lib.hid smH
  have TH := Lib.hid tH
  clear nm smH
  clear Xd0_20 LXd0
  clear Xd1 LXd1
  have z21 := hb.size
  have H21 := Lib.hid (below_next H20.out hb (Nat.le_refl _))
  have QW_21 := Lib.hid (QW_20.out.next hb)
  have PW_21 := Lib.hid (owns_next PW_20.out hb)
  have QM_21 := Lib.hid (QM_20.out.next hb)
  have PM_21 := Lib.hid (owns_next PM_20.out hb)
  clear hb H20 QW_20 PW_20 QM_20 PM_20
  have QH := Lib.hid (OT.of SRR.os)
  have PH := Lib.hid SRR.own
  clear SRR
  go_wp2_with fail
  refine (eqSS_any AH AW rsH.length rsW.length cH cW rsH rsW rfl rfl (by omega) (by omega) SH.out _ QH.out.ss QW_21.out.ss true (by rw [NH.out, NW.out]; simp)).mono ?_
  rintro o u ⟨rfl, hb⟩
  have z22 := hb.size
  have H22 := Lib.hid (below_next H21.out hb (Nat.le_refl _))
  have QW_22 := Lib.hid (QW_21.out.next hb)
  have PW_22 := Lib.hid (owns_next PW_21.out hb)
  have QM_22 := Lib.hid (QM_21.out.next hb)
  have PM_22 := Lib.hid (owns_next PM_21.out hb)
  have QH_22 := Lib.hid (QH.out.next hb)
  have PH_22 := Lib.hid (owns_next PH.out hb)
  clear hb H21 QW_21 PW_21 QM_21 PM_21 QH PH
  go_wp2_with fail
  refine (intS.eqS_any BH BW _ _ dH dW st.2 st.2 rfl rfl hys (by omega) _ (Sl.of_owns PH_22.out (intS.len _) (by decide)) (Sl.of_owns PW_22.out (intS.len _) (by decide)) true (by simp)).mono ?_
  rintro o u ⟨rfl, hb⟩
  have z23 := hb.size
  have H23 := Lib.hid (below_next H22.out hb (Nat.le_refl _))
  have QW_23 := Lib.hid (QW_22.out.next hb)
  have PW_23 := Lib.hid (owns_next PW_22.out hb)
  have QM_23 := Lib.hid (QM_22.out.next hb)
  have PM_23 := Lib.hid (owns_next PM_22.out hb)
  have QH_23 := Lib.hid (QH_22.out.next hb)
  have PH_23 := Lib.hid (owns_next PH_22.out hb)
  clear hb H22 QW_22 PW_22 QM_22 PM_22 QH_22 PH_22
  go_wp2_with fail
  refine (heldSS_any _ AG cG rsG.length rsG rfl 1 QM_23.out.ss (by omega) TG.out).mono ?_
  rintro o u ⟨rfl, rfl⟩
  go_wp2_with fail
  refine (intS.heldS_any BG _ dG ((1 : Int) + (tot rsG : Int)) (by omega) hys _ _ (Sl.of_owns PM_23.out (intS.len _) (by decide))).mono ?_
  rintro o u ⟨rfl, rfl⟩
  go_wp2_with fail
  go_ret
  exact ⟨rfl, H23.out⟩

set_option maxHeartbeats 1000000 in
theorem walk_long0 (s : Int) (Axs : Option Addr) (nxs cxs : Nat) (hmxs : nxs ≤ 9223372036854775807) (Ass : Option Addr) (nss css : Nat) (hmss : nss ≤ 9223372036854775807)  (hbxs : 1048576 < nxs) (w : World) :
    Calls Tryd.prog 13 #[.int .i64 s, .slice Axs nxs cxs, .slice Ass nss css] w fun e w' => e = .returned (.bool true) ∧ Below w.heap.size w w' := by
  go_enter Tryd.func13, Tryd.ntmps13
  go_wp2_with fail
  go_ret
  exact ⟨rfl, Below.refl _ _⟩

set_option maxHeartbeats 1000000 in
theorem walk_long1 (s : Int) (Axs : Option Addr) (nxs cxs : Nat) (hmxs : nxs ≤ 9223372036854775807) (Ass : Option Addr) (nss css : Nat) (hmss : nss ≤ 9223372036854775807) (hsxs : nxs ≤ 1048576) (hbss : 1048576 < nss) (w : World) :
    Calls Tryd.prog 13 #[.int .i64 s, .slice Axs nxs cxs, .slice Ass nss css] w fun e w' => e = .returned (.bool true) ∧ Below w.heap.size w w' := by
  go_enter Tryd.func13, Tryd.ntmps13
  go_wp2_with fail
  go_ret
  exact ⟨rfl, Below.refl _ _⟩

theorem readables : ∀ t ∈ Tryd.f13.params.toList, Tryd.prog.readableRec t = true ∧ t < Tryd.prog.types.size := by
  rw [Tryd.params13]
  intro t ht
  simp only [List.mem_cons, List.not_mem_nil, or_false] at ht
  rcases ht with rfl | rfl | rfl <;> exact ⟨by kernel_rfl, of_decide_eq_true (by kernel_rfl)⟩

set_option maxRecDepth 100000 in
/-- what the row's list gives -/
theorem errsLaid {W : World} (h : laidMetH Tryd.prog Rows.fnExactSortByMarksRow.laid W) : ∃ e, Errs W W.heap.size e := by
  rw [MakeChecks.laidMetH_plain _ _ _ (by kernel_rfl)] at h
  refine errs_of Rows.fnExactSortByMarksRow.laid (fun i => i) h (by kernel_rfl) ?_ ?_ (fun i j _ _ h => h)
  · have hall : ((listOf Rows.fnExactSortByMarksRow.laid).all fun x => match Tryd.prog.globalNamed x.1 with | some g => decide ((Tryd.prog.globals[g]?).map (·.type) = some 65) | none => false) = true := by kernel_rfl
    intro x hx
    have h1 := List.all_eq_true.1 hall x hx
    split at h1
    · rename_i g hg
      exact ⟨g, hg, of_decide_eq_true h1⟩
    · cases h1
  · have b0 : ((listOf Rows.fnExactSortByMarksRow.laid)[0]?).bind (fun x => Tryd.prog.globalNamed x.1) = some (gvar 0) := by kernel_rfl
    have b1 : ((listOf Rows.fnExactSortByMarksRow.laid)[1]?).bind (fun x => Tryd.prog.globalNamed x.1) = some (gvar 1) := by kernel_rfl
    have b2 : ((listOf Rows.fnExactSortByMarksRow.laid)[2]?).bind (fun x => Tryd.prog.globalNamed x.1) = some (gvar 2) := by kernel_rfl
    have b3 : ((listOf Rows.fnExactSortByMarksRow.laid)[3]?).bind (fun x => Tryd.prog.globalNamed x.1) = some (gvar 3) := by kernel_rfl
    have b4 : ((listOf Rows.fnExactSortByMarksRow.laid)[4]?).bind (fun x => Tryd.prog.globalNamed x.1) = some (gvar 4) := by kernel_rfl
    have b5 : ((listOf Rows.fnExactSortByMarksRow.laid)[5]?).bind (fun x => Tryd.prog.globalNamed x.1) = some (gvar 5) := by kernel_rfl
    have b6 : ((listOf Rows.fnExactSortByMarksRow.laid)[6]?).bind (fun x => Tryd.prog.globalNamed x.1) = some (gvar 6) := by kernel_rfl
    intro i hi
    match i, hi with
    | 0, _ => exact b0
    | 1, _ => exact b1
    | 2, _ => exact b2
    | 3, _ => exact b3
    | 4, _ => exact b4
    | 5, _ => exact b5
    | 6, _ => exact b6

set_option maxRecDepth 100000 in
theorem contract (H : Type) (enc : TypeId × Value → H) (W : World) (base : Nat) (args : Array Value) (ds gs : List (DataW H)) (before : List MemPlace)
    (hval : ∀ (j : Nat) t v, Tryd.f13.params[j]? = some t → args[j]? = some v → Value.okWide Tryd.prog W .any base t v)
    (hW : DataW.Whole enc Tryd.prog Tryd.f13.params.toList Rows.fnExactSortByMarksSpec.vars false W args.toList ds gs before) (hL : laidMetH Tryd.prog Rows.fnExactSortByMarksRow.laid W) :
    Calls Tryd.prog 13 args W fun e W' => ∃ v, e = .returned v ∧ Rows.fnExactSortByMarksSpec.post enc Tryd.prog Tryd.f13 false true false false W args v W' := by
  obtain ⟨ee, hE⟩ := errsLaid hL
  have hW' := hW
  obtain ⟨p, q, hA0, hV, rfl, hfz, hnd⟩ := hW
  have hA : DataW.TrodAll enc Tryd.prog W 0 (fun _ => true) true Tryd.f13.params.toList args.toList ds p := hA0
  rw [Tryd.params13] at hA hval
  clear hA0
  obtain ⟨v0, vs0, d0, ds0, p0, q0, hargs, rfl, rfl, h0, r0⟩ := trodAll_cons hA
  obtain ⟨v1, vs1, d1, ds1, p1, q1, rfl, rfl, rfl, h1, r1⟩ := trodAll_cons r0
  obtain ⟨v2, vs2, d2, ds2, p2, q2, rfl, rfl, rfl, h2, r2⟩ := trodAll_cons r1
  obtain ⟨rfl, rfl, rfl⟩ := trodAll_nil r2
  obtain rfl : args = #[v0, v1, v2] := by cases args; simp_all
  obtain ⟨z0, z1, z2, z3, z4, z5, z6, rfl⟩ := vars_of hV
  obtain ⟨s, rfl, rfl, rfl, _⟩ := open_int Tryd.underlying2 (hval 0 2 v0 rfl rfl) h0
  obtain ⟨Axs, cxs, xs, rfl, hlxs, hgxs, hfxs⟩ := marS.open_many (hval 1 30 v1 rfl rfl) h1
  obtain ⟨Ass, css, ss, rfl, hlss, hgss, hfss⟩ := marS.open_many (hval 2 30 v2 rfl rfl) h2
  have walk : Calls Tryd.prog 13 #[.int .i64 s, .slice Axs xs.length cxs, .slice Ass ss.length css] W fun e W' => e = .returned (.bool true) ∧ Below W.heap.size W W' := by
    unfold maxLen at hlxs
    unfold maxLen at hlss
    rcases Nat.lt_or_ge 1048576 xs.length with hxss | hxss
    · exact walk_long0 s Axs _ cxs hlxs Ass _ css hlss  hxss W
    rcases Nat.lt_or_ge 1048576 ss.length with hsss | hsss
    · exact walk_long1 s Axs _ cxs hlxs Ass _ css hlss hxss hsss W
    exact walk s Axs _ cxs xs rfl hxss hfxs Ass _ css ss rfl hsss hfss W ee hE hgxs hgss
  refine walk.mono fun e W' ⟨he, hb⟩ => ?_
  subst he
  exact ⟨_, rfl, close_vars laidOut readables (by kernel_rfl) Tryd.underlying4 rfl rfl hW' hb⟩

end Go.Proofs.YtlembainfhnnbaaDoor.lawSortByMarks
