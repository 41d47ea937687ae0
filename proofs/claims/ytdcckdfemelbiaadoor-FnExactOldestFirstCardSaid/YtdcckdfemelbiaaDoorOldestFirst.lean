/-
  THE LAW FnExactOldestFirst: for every list of piles and every number the law returns true: the program takes the sheets that the model takes, changes no pile that it was given, and what it returns is its own. No condition but that the package's errors are what the program's text lays.
-/
import Derived.Test.YtdcckdfemelbiaaDoorJoin17
import Derived.Test.YtdcckdfemelbiaaDoorRowsOpen
import Derived.Test.YtdcckdfemelbiaaDoorOpenWords
import Derived.Test.YtdcckdfemelbiaaDoorClose
import Derived.Test.YtdcckdfemelbiaaDoorLaid
import Derived.Test.YtdcckdfemelbiaaDoorCards
import Derived.Test.YtdcckdfemelbiaaDoorTie
namespace Go.Proofs.YtdcckdfemelbiaaDoor.lawOldestFirst
open Go.ChangeShapes Go.WideShapes Go.ChangeAt Go.RowKit Go.Joins sl errs fold rows cup

set_option maxRecDepth 100000 in
set_option maxHeartbeats 8000000 in
theorem walk (A : Option Addr) (n c : Nat) (rs : List Rw) (en : n = rs.length) (hm : n ≤ 9223372036854775807) (w : World) (e : Nat → Addr) (hE : Errs w w.heap.size e) (hg : SS w w.heap.size A rs) (t : Int) (ht : t ≤ 9223372036854775807) :
    Calls Tryd.prog 5 #[.slice A n c, .int .i64 t] w fun o w' => o = .returned (.bool true) ∧ Below w.heap.size w w' := by
  have En := Lib.hid en
  have HE := Lib.hid hE
  obtain ⟨ts, out, k, hr⟩ := OR.exists (nums rs) t
  have HR := Lib.hid hr
  have HSM := Lib.hid (hr.small en)
  clear en hE hr
  go_enter Tryd.func5, Tryd.ntmps5
  go_wp2_with fail
  refine (szSS_tot A n c rs En.out hm 1048576 (by omega) _ hg).mono ?_
  rintro o u ⟨z, rfl, rfl, hz0, hz1, hz⟩
  by_cases hz2 : z < 0
  · clear hz
    go_wp2_with fail
    go_ret
    exact ⟨rfl, Below.refl _ _⟩
  · have htot := hz (by omega)
    have HT := Lib.hid htot
    have HS := Lib.hid (tot_le htot)
    have hn : n ≤ 1048576 := by omega
    have hys : ts.length ≤ 1048576 := (HSM.out htot).1
    have H0 := Lib.hid (Below.refl w.heap.size w)
    clear hz htot
    go_wp2_with fail
    refine (toSS_any A n c rs En.out hn HS.out _ ((hg.below H0.out).more H0.out.size)).mono ?_
    rintro o u ⟨ga, rsa, rfl, la, na, O, hb⟩
    have La := Lib.hid la
    have Na := Lib.hid na
    have Ta : Hid (n + tot rsa ≤ 1048576) := Lib.hid (by rw [tot_nums na]; exact HT.out)
    have Ca := Lib.hid O.noneC
    have LXa := Lib.hid (OT.of O).blocksE
    have z1 := hb.size
    have H1 := Lib.hid (below_next H0.out hb (Nat.le_refl _))
    clear hb H0
    have Xa := Lib.hid (OT.of O)
    clear O la na
    go_wp2_with fail
    refine (OldestFirst_spec (some ⟨ga, 0, none⟩) n n rsa t ht La.out.symm Ta.out Ca.out _ Xa.out.ss ts out k (by rw [Na.out]; exact HR.out)).mono ?_
    rintro o u ⟨AW, cW, rsW, v, rfl, TT, nm, hb⟩
    obtain ⟨BW, dW, rfl, _⟩ := owns_slice TT.own
    have NW := Lib.hid nm
    have SEPW := Lib.hid TT.sep
    have LPW := Lib.hid (fun k hk => TT.own.lt k hk)
    have LQW := Lib.hid TT.ot.blocksE
    obtain ⟨tW, smW⟩ := (HSM.out HT.out).2 rsW nm
    have SW := Lib.hid smW
    have TW := Lib.hid tW
    clear nm smW tW
    clear Xa LXa
    have z2 := hb.size
    have H2 := Lib.hid (below_next H1.out hb (Nat.le_refl _))
    clear hb H1
    have QW := Lib.hid TT.ot
    have PW := Lib.hid TT.own
    clear TT
    go_wp2_with fail
    refine (toSS_any A n c rs En.out hn HS.out _ ((hg.below H2.out).more H2.out.size)).mono ?_
    rintro o u ⟨gb, rsb, rfl, lb, nb, O, hb⟩
    have Lb := Lib.hid lb
    have Nb := Lib.hid nb
    have Tb : Hid (n + tot rsb ≤ 1048576) := Lib.hid (by rw [tot_nums nb]; exact HT.out)
    have Cb := Lib.hid O.noneC
    have LXb := Lib.hid (OT.of O).blocksE
    have z3 := hb.size
    have H3 := Lib.hid (below_next H2.out hb (Nat.le_refl _))
    have QW_3 := Lib.hid (QW.out.next hb)
    have PW_3 := Lib.hid (owns_next PW.out hb)
    clear hb H2 QW PW
    have Xb := Lib.hid (OT.of O)
    clear O lb nb
    go_wp2_with fail
    refine (OldestFirst_any (some ⟨gb, 0, none⟩) n n rsb t ht Lb.out.symm Tb.out Cb.out (HE.out.below H3.out) H3.out.size Xb.out.ss ts out k (by rw [Nb.out]; exact HR.out)).mono ?_
    rintro o u ⟨AG, cG, rsG, v, rfl, TT, nm, hb⟩
    obtain ⟨BG, dG, rfl, _⟩ := owns_slice TT.own
    have NG := Lib.hid nm
    have SEPG := Lib.hid TT.sep
    have LPG := Lib.hid (fun k hk => TT.own.lt k hk)
    have LQG := Lib.hid TT.ot.blocksE
    obtain ⟨tG, smG⟩ := (HSM.out HT.out).2 rsG nm
    have SG := Lib.hid smG
    have TG := Lib.hid tG
    clear nm smG tG
    have z4 := hb.size
    have H4 := Lib.hid (below_next H3.out hb (Nat.le_refl _))
    have QW_4 := Lib.hid (QW_3.out.next hb)
    have PW_4 := Lib.hid (owns_next PW_3.out hb)
    have Xb_4 := Lib.hid (Xb.out.next hb)
    clear hb H3 QW_3 PW_3 Xb
    have QG := Lib.hid TT.ot
    have PG := Lib.hid TT.own
    clear TT
    go_wp2_with fail
    refine (intS.eqS_any BG BW _ _ dG dW ts ts rfl rfl hys (by omega) _ (Sl.of_owns PG.out (intS.len _) (by decide)) (Sl.of_owns PW_4.out (intS.len _) (by decide)) true (by simp)).mono ?_
    rintro o u ⟨rfl, hb⟩
    have z5 := hb.size
    have H5 := Lib.hid (below_next H4.out hb (Nat.le_refl _))
    have QW_5 := Lib.hid (QW_4.out.next hb)
    have PW_5 := Lib.hid (owns_next PW_4.out hb)
    have Xb_5 := Lib.hid (Xb_4.out.next hb)
    have QG_5 := Lib.hid (QG.out.next hb)
    have PG_5 := Lib.hid (owns_next PG.out hb)
    clear hb H4 QW_4 PW_4 Xb_4 QG PG
    go_wp2_with fail
    refine (eqSS_any AG AW rsG.length rsW.length cG cW rsG rsW rfl rfl (by have := TG.out; omega) (by have := TW.out; omega) SG.out _ QG_5.out.ss QW_5.out.ss true (by rw [NG.out, NW.out]; simp)).mono ?_
    rintro o u ⟨rfl, hb⟩
    have z6 := hb.size
    have H6 := Lib.hid (below_next H5.out hb (Nat.le_refl _))
    have QW_6 := Lib.hid (QW_5.out.next hb)
    have PW_6 := Lib.hid (owns_next PW_5.out hb)
    have Xb_6 := Lib.hid (Xb_5.out.next hb)
    have QG_6 := Lib.hid (QG_5.out.next hb)
    have PG_6 := Lib.hid (owns_next PG_5.out hb)
    clear hb H5 QW_5 PW_5 Xb_5 QG_5 PG_5
    go_wp2_with fail
    refine (toSS_any A n c rs En.out hn HS.out _ ((hg.below H6.out).more H6.out.size)).mono ?_
    rintro o u ⟨gc, rsc, rfl, lc, nc, O, hb⟩
    have Lc := Lib.hid lc
    have Nc := Lib.hid nc
    have Tc : Hid (n + tot rsc ≤ 1048576) := Lib.hid (by rw [tot_nums nc]; exact HT.out)
    have Cc := Lib.hid O.noneC
    have LXc := Lib.hid (OT.of O).blocksE
    have z7 := hb.size
    have H7 := Lib.hid (below_next H6.out hb (Nat.le_refl _))
    have QW_7 := Lib.hid (QW_6.out.next hb)
    have PW_7 := Lib.hid (owns_next PW_6.out hb)
    have Xb_7 := Lib.hid (Xb_6.out.next hb)
    have QG_7 := Lib.hid (QG_6.out.next hb)
    have PG_7 := Lib.hid (owns_next PG_6.out hb)
    clear hb H6 QW_6 PW_6 Xb_6 QG_6 PG_6
    have Xc := Lib.hid (OT.of O)
    clear O lc nc
    go_wp2_with fail
    refine (eqSS_any (some ⟨gb, 0, none⟩) (some ⟨gc, 0, none⟩) n n n n rsb rsc Lb.out.symm Lc.out.symm hn (by omega) (tot_le Tb.out) _ Xb_7.out.ss Xc.out.ss true (by rw [Nb.out, Nc.out]; simp)).mono ?_
    rintro o u ⟨rfl, hb⟩
    clear Xc LXc
    have z8 := hb.size
    have H8 := Lib.hid (below_next H7.out hb (Nat.le_refl _))
    have QW_8 := Lib.hid (QW_7.out.next hb)
    have PW_8 := Lib.hid (owns_next PW_7.out hb)
    have Xb_8 := Lib.hid (Xb_7.out.next hb)
    have QG_8 := Lib.hid (QG_7.out.next hb)
    have PG_8 := Lib.hid (owns_next PG_7.out hb)
    clear hb H7 QW_7 PW_7 Xb_7 QG_7 PG_7
    go_wp2_with fail
    refine (markSS_any _ _ (some ⟨gb, 0, none⟩) n n rsb Lb.out.symm Xb_8.out 1 (by omega) Tb.out).mono ?_
    rintro o u ⟨rfl, _, hbut⟩
    have z9 := hbut.size
    have H9 := Lib.hid (H8.out.trans (hbut.below H8.out.size (fun k hk => by have t := LXb.out k hk; omega)))
    have QW_9 := Lib.hid (OT.apartE QW_8.out hbut (fun k hk hx => by have t := LQW.out k hk; have t2 := LXb.out k hx; omega))
    have PW_9 := Lib.hid (owns_but PW_8.out hbut (fun k hk hx => by have t := LPW.out k hk; have t2 := LXb.out k hx; omega))
    have QG_9 := Lib.hid (OT.apartE QG_8.out hbut (fun k hk hx => by have t := LQG.out k hk; have t2 := LXb.out k hx; omega))
    have PG_9 := Lib.hid (owns_but PG_8.out hbut (fun k hk hx => by have t := LPG.out k hk; have t2 := LXb.out k hx; omega))
    clear hbut H8 QW_8 PW_8 QG_8 PG_8
    clear Xb_8 LXb
    have k1 : decide ((1 : Int) + (tot rsb : Int) < 0) = false := by simp; omega
    go_wp2_with fail
    refine (intS.eqS_any BG BW _ _ dG dW ts ts rfl rfl hys (by omega) _ (Sl.of_owns PG_9.out (intS.len _) (by decide)) (Sl.of_owns PW_9.out (intS.len _) (by decide)) true (by simp)).mono ?_
    rintro o u ⟨rfl, hb⟩
    have z10 := hb.size
    have H10 := Lib.hid (below_next H9.out hb (Nat.le_refl _))
    have QW_10 := Lib.hid (QW_9.out.next hb)
    have PW_10 := Lib.hid (owns_next PW_9.out hb)
    have QG_10 := Lib.hid (QG_9.out.next hb)
    have PG_10 := Lib.hid (owns_next PG_9.out hb)
    clear hb H9 QW_9 PW_9 QG_9 PG_9
    go_wp2_with fail
    refine (eqSS_any AG AW rsG.length rsW.length cG cW rsG rsW rfl rfl (by have := TG.out; omega) (by have := TW.out; omega) SG.out _ QG_10.out.ss QW_10.out.ss true (by rw [NG.out, NW.out]; simp)).mono ?_
    rintro o u ⟨rfl, hb⟩
    have z11 := hb.size
    have H11 := Lib.hid (below_next H10.out hb (Nat.le_refl _))
    have QW_11 := Lib.hid (QW_10.out.next hb)
    have PW_11 := Lib.hid (owns_next PW_10.out hb)
    have QG_11 := Lib.hid (QG_10.out.next hb)
    have PG_11 := Lib.hid (owns_next PG_10.out hb)
    clear hb H10 QW_10 PW_10 QG_10 PG_10
    go_wp2_with fail
    refine (markI_but _ _ _ (1 : Int) (by omega) hys _ _ PG_11.out).mono ?_
    rintro o u ⟨rfl, P, hbut⟩
    have z12 := hbut.size
    have H12 := Lib.hid (H11.out.trans (hbut.below H11.out.size (fun k hk => by have t := LPG.out k hk; omega)))
    have QW_12 := Lib.hid (OT.apartE QW_11.out hbut (fun k hk hx => by have t := LQW.out k hk; have t2 := LPG.out k hx; omega))
    have PW_12 := Lib.hid (owns_but PW_11.out hbut (fun k hk hx => by have t := LPW.out k hk; have t2 := LPG.out k hx; omega))
    have QG_12 := Lib.hid (OT.apartE QG_11.out hbut (fun k hk hx => SEPG.out k hx hk))
    clear hbut H11 QW_11 PW_11 QG_11
    have PM := Lib.hid P
    clear P PG_11
    go_wp2_with fail
    refine (markSS_any _ _ AG cG rsG.length rsG rfl QG_12.out ((1 : Int) + (ts.length : Int)) (by omega) TG.out).mono ?_
    rintro o u ⟨rfl, OM, hbut⟩
    have z13 := hbut.size
    have H13 := Lib.hid (H12.out.trans (hbut.below H12.out.size (fun k hk => by have t := LQG.out k hk; omega)))
    have QW_13 := Lib.hid (OT.apartE QW_12.out hbut (fun k hk hx => by have t := LQW.out k hk; have t2 := LQG.out k hx; omega))
    have PW_13 := Lib.hid (owns_but PW_12.out hbut (fun k hk hx => by have t := LPW.out k hk; have t2 := LQG.out k hx; omega))
    have PM_13 := Lib.hid (owns_but PM.out hbut (fun k hk hx => SEPG.out k hk hx))
    clear hbut H12 QW_12 PW_12 PM
    have QM := Lib.hid OM
    clear OM QG_12
    have k2 : decide ((1 : Int) + (ts.length : Int) < 0) = false := by simp; omega
    have k3 : decide ((1 : Int) + (ts.length : Int) + (tot rsG : Int) < 0) = false := by simp; omega
    go_wp2_with fail
    refine (intS.heldS_any BG _ dG (1 : Int) (by omega) hys _ _ (Sl.of_owns PM_13.out (intS.len _) (by decide))).mono ?_
    rintro o u ⟨rfl, rfl⟩
    go_wp2_with fail
    refine (heldSS_any _ AG cG rsG.length rsG rfl ((1 : Int) + (ts.length : Int)) QM.out.ss (by omega) TG.out).mono ?_
    rintro o u ⟨rfl, rfl⟩
    go_wp2_with fail
    refine (toSS_any A n c rs En.out hn HS.out _ ((hg.below H13.out).more H13.out.size)).mono ?_
    rintro o u ⟨gd, rsd, rfl, ld, nd, O, hb⟩
    have Ld := Lib.hid ld
    have Nd := Lib.hid nd
    have Td : Hid (n + tot rsd ≤ 1048576) := Lib.hid (by rw [tot_nums nd]; exact HT.out)
    have Cd := Lib.hid O.noneC
    have LXd := Lib.hid (OT.of O).blocksE
    have z14 := hb.size
    have H14 := Lib.hid (below_next H13.out hb (Nat.le_refl _))
    have QW_14 := Lib.hid (QW_13.out.next hb)
    have PW_14 := Lib.hid (owns_next PW_13.out hb)
    have PM_14 := Lib.hid (owns_next PM_13.out hb)
    have QM_14 := Lib.hid (QM.out.next hb)
    clear hb H13 QW_13 PW_13 PM_13 QM
    have Xd := Lib.hid (OT.of O)
    clear O ld nd
    go_wp2_with fail
    refine (OldestFirst_any (some ⟨gd, 0, none⟩) n n rsd t ht Ld.out.symm Td.out Cd.out (HE.out.below H14.out) H14.out.size Xd.out.ss ts out k (by rw [Nd.out]; exact HR.out)).mono ?_
    rintro o u ⟨AH, cH, rsH, v, rfl, TT, nm, hb⟩
    obtain ⟨BH, dH, rfl, _⟩ := owns_slice TT.own
    have NH := Lib.hid nm
    have SEPH := Lib.hid TT.sep
    have LPH := Lib.hid (fun k hk => TT.own.lt k hk)
    have LQH := Lib.hid TT.ot.blocksE
    obtain ⟨tH, smH⟩ := (HSM.out HT.out).2 rsH nm
    have SH := Lib.hid smH
    have TH := Lib.hid tH
    clear nm smH tH
    clear Xd LXd
    have z15 := hb.size
    have H15 := Lib.hid (below_next H14.out hb (Nat.le_refl _))
    have QW_15 := Lib.hid (QW_14.out.next hb)
    have PW_15 := Lib.hid (owns_next PW_14.out hb)
    have PM_15 := Lib.hid (owns_next PM_14.out hb)
    have QM_15 := Lib.hid (QM_14.out.next hb)
    clear hb H14 QW_14 PW_14 PM_14 QM_14
    have QH := Lib.hid TT.ot
    have PH := Lib.hid TT.own
    clear TT
    go_wp2_with fail
    refine (intS.eqS_any BH BW _ _ dH dW ts ts rfl rfl hys (by omega) _ (Sl.of_owns PH.out (intS.len _) (by decide)) (Sl.of_owns PW_15.out (intS.len _) (by decide)) true (by simp)).mono ?_
    rintro o u ⟨rfl, hb⟩
    have z16 := hb.size
    have H16 := Lib.hid (below_next H15.out hb (Nat.le_refl _))
    have QW_16 := Lib.hid (QW_15.out.next hb)
    have PW_16 := Lib.hid (owns_next PW_15.out hb)
    have PM_16 := Lib.hid (owns_next PM_15.out hb)
    have QM_16 := Lib.hid (QM_15.out.next hb)
    have QH_16 := Lib.hid (QH.out.next hb)
    have PH_16 := Lib.hid (owns_next PH.out hb)
    clear hb H15 QW_15 PW_15 PM_15 QM_15 QH PH
    go_wp2_with fail
    refine (eqSS_any AH AW rsH.length rsW.length cH cW rsH rsW rfl rfl (by have := TH.out; omega) (by have := TW.out; omega) SH.out _ QH_16.out.ss QW_16.out.ss true (by rw [NH.out, NW.out]; simp)).mono ?_
    rintro o u ⟨rfl, hb⟩
    have z17 := hb.size
    have H17 := Lib.hid (below_next H16.out hb (Nat.le_refl _))
    have QW_17 := Lib.hid (QW_16.out.next hb)
    have PW_17 := Lib.hid (owns_next PW_16.out hb)
    have PM_17 := Lib.hid (owns_next PM_16.out hb)
    have QM_17 := Lib.hid (QM_16.out.next hb)
    have QH_17 := Lib.hid (QH_16.out.next hb)
    have PH_17 := Lib.hid (owns_next PH_16.out hb)
    clear hb H16 QW_16 PW_16 PM_16 QM_16 QH_16 PH_16
    go_wp2_with fail
    refine (intS.heldS_any BG _ dG (1 : Int) (by omega) hys _ _ (Sl.of_owns PM_17.out (intS.len _) (by decide))).mono ?_
    rintro o u ⟨rfl, rfl⟩
    go_wp2_with fail
    refine (heldSS_any _ AG cG rsG.length rsG rfl ((1 : Int) + (ts.length : Int)) QM_17.out.ss (by omega) TG.out).mono ?_
    rintro o u ⟨rfl, rfl⟩
    go_wp2_with fail
    go_ret
    exact ⟨rfl, H17.out⟩

theorem readables : ∀ t ∈ Tryd.f5.params.toList, Tryd.prog.readableRec t = true ∧ t < Tryd.prog.types.size := by
  rw [Tryd.params5]
  intro t ht
  simp only [List.mem_cons, List.not_mem_nil, or_false] at ht
  rcases ht with rfl | rfl <;> exact ⟨by kernel_rfl, of_decide_eq_true (by kernel_rfl)⟩

set_option maxRecDepth 100000 in
/-- what the row's list gives -/
theorem errsLaid {W : World} (h : laidMetH Tryd.prog Rows.fnExactOldestFirstRow.laid W) : ∃ e, Errs W W.heap.size e := by
  rw [MakeChecks.laidMetH_plain _ _ _ (by kernel_rfl)] at h
  refine errs_of Rows.fnExactOldestFirstRow.laid (fun i => i) h (by kernel_rfl) ?_ ?_ (fun i j _ _ h => h)
  · have hall : ((listOf Rows.fnExactOldestFirstRow.laid).all fun x => match Tryd.prog.globalNamed x.1 with | some g => decide ((Tryd.prog.globals[g]?).map (·.type) = some 80) | none => false) = true := by kernel_rfl
    intro x hx
    have h1 := List.all_eq_true.1 hall x hx
    split at h1
    · rename_i g hg
      exact ⟨g, hg, of_decide_eq_true h1⟩
    · cases h1
  · have b0 : ((listOf Rows.fnExactOldestFirstRow.laid)[0]?).bind (fun x => Tryd.prog.globalNamed x.1) = some (gvar 0) := by kernel_rfl
    have b1 : ((listOf Rows.fnExactOldestFirstRow.laid)[1]?).bind (fun x => Tryd.prog.globalNamed x.1) = some (gvar 1) := by kernel_rfl
    have b2 : ((listOf Rows.fnExactOldestFirstRow.laid)[2]?).bind (fun x => Tryd.prog.globalNamed x.1) = some (gvar 2) := by kernel_rfl
    have b3 : ((listOf Rows.fnExactOldestFirstRow.laid)[3]?).bind (fun x => Tryd.prog.globalNamed x.1) = some (gvar 3) := by kernel_rfl
    have b4 : ((listOf Rows.fnExactOldestFirstRow.laid)[4]?).bind (fun x => Tryd.prog.globalNamed x.1) = some (gvar 4) := by kernel_rfl
    have b5 : ((listOf Rows.fnExactOldestFirstRow.laid)[5]?).bind (fun x => Tryd.prog.globalNamed x.1) = some (gvar 5) := by kernel_rfl
    have b6 : ((listOf Rows.fnExactOldestFirstRow.laid)[6]?).bind (fun x => Tryd.prog.globalNamed x.1) = some (gvar 6) := by kernel_rfl
    intro i hi
    match i, hi with
    | 0, _ => exact b0
    | 1, _ => exact b1
    | 2, _ => exact b2
    | 3, _ => exact b3
    | 4, _ => exact b4
    | 5, _ => exact b5
    | 6, _ => exact b6

set_option maxRecDepth 100000 in
theorem contract (H : Type) (enc : TypeId × Value → H) (W : World) (base : Nat) (args : Array Value) (ds gs : List (DataW H)) (before : List MemPlace)
    (hval : ∀ (j : Nat) t v, Tryd.f5.params[j]? = some t → args[j]? = some v → Value.okWide Tryd.prog W .any base t v)
    (hW : DataW.Whole enc Tryd.prog Tryd.f5.params.toList Rows.fnExactOldestFirstSpec.vars false W args.toList ds gs before) (hL : laidMetH Tryd.prog Rows.fnExactOldestFirstRow.laid W) :
    Calls Tryd.prog 5 args W fun e W' => ∃ v, e = .returned v ∧ Rows.fnExactOldestFirstSpec.post enc Tryd.prog Tryd.f5 false true false false W args v W' := by
  obtain ⟨ee, hE⟩ := errsLaid hL
  have hW' := hW
  obtain ⟨p, q, hA0, hV, rfl, hfz, hnd⟩ := hW
  have hA : DataW.TrodAll enc Tryd.prog W 0 (fun _ => true) true Tryd.f5.params.toList args.toList ds p := hA0
  rw [Tryd.params5] at hA hval
  clear hA0
  obtain ⟨v0, vs0, d0, ds0, p0, q0, hargs, rfl, rfl, h0, r0⟩ := trodAll_cons hA
  obtain ⟨v1, vs1, d1, ds1, p1, q1, rfl, rfl, rfl, h1, r1⟩ := trodAll_cons r0
  obtain ⟨rfl, rfl, rfl⟩ := trodAll_nil r1
  obtain rfl : args = #[v0, v1] := by cases args; simp_all
  obtain ⟨z0, z1, z2, z3, z4, z5, z6, rfl⟩ := vars_of hV
  obtain ⟨A, c, rs, rfl, hl, hg⟩ := open_rows (hval 0 27 v0 rfl rfl) h0
  obtain ⟨t, rfl, rfl, rfl, bt⟩ := open_int Tryd.underlying2 (hval 1 2 v1 rfl rfl) h1
  unfold maxLen at hl
  refine (walk A rs.length c rs rfl hl W ee hE hg t (bd_i64' bt).2).mono fun e W' ⟨he, hb⟩ => ?_
  subst he
  exact ⟨_, rfl, close_vars laidOut readables (by kernel_rfl) Tryd.underlying4 rfl rfl hW' hb⟩

end Go.Proofs.YtdcckdfemelbiaaDoor.lawOldestFirst
