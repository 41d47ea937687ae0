/-
  THE LAW FnExactLeastLateness: for every iron and all pieces the law returns true: the program answers as the model does, changes no argument, and what it returns is its own. No condition but that the package's errors are what the program's text lays.
-/
import Derived.Test.YtjhkjbdpmianfaaDoorJoin25
import Derived.Test.YtjhkjbdpmianfaaDoorIrFound
import Derived.Test.YtjhkjbdpmianfaaDoorJoin26
import Derived.Test.YtjhkjbdpmianfaaDoorJoin15
import Derived.Test.YtjhkjbdpmianfaaDoorOpenWords
import Derived.Test.YtjhkjbdpmianfaaDoorClose
import Derived.Test.YtjhkjbdpmianfaaDoorLaid
import Derived.Test.YtjhkjbdpmianfaaDoorCards
import Derived.Test.YtjhkjbdpmianfaaDoorTie
import Derived.ProofKit
import Derived.OpenShut
import Derived.Lib.SmallJoins
namespace Go.Proofs.YtjhkjbdpmianfaaDoor.lawLeastLateness
open Go.ChangeShapes Go.WideShapes Go.ChangeAt Go.RowKit Go.Joins sl errs iron 

set_option maxRecDepth 100000 in
set_option maxHeartbeats 8000000 in
theorem walk (x : Iro) (hx : x.Fits) (Aps : Option Addr) (nps cps : Nat) (ps : List Pie) (enps : nps = ps.length) (hnps : nps ≤ 1048576) (hfps : ∀ x ∈ ps, x.Fits) (w : World) (e : Nat → Addr) (hE : Errs w w.heap.size e) (hgps : Sl Pie.cells 3 w w.heap.size Aps ps) :
    Calls Tryd.prog 5 #[x.v, .slice Aps nps cps] w fun o w' => o = .returned (.bool true) ∧ Below w.heap.size w w' := by
  have Eps := Lib.hid enps
  have Gps := Lib.hid hgps
  have HFps := Lib.hid hfps
  obtain ⟨ys, r0, r1, hr⟩ : ∃ ys r0 r1, bestR 2 x ps = (ys, r0, r1) := ⟨_, _, _, rfl⟩
  have HR := Lib.hid hr
  have hys : ys.length ≤ 1048576 := bestR_le HR.out
  have HE := Lib.hid hE
  have S0 := Lib.hid (HotS.new x w 24)
  clear hr hE enps hgps hfps
  have c0 := S0.out.c0
  have c1 := S0.out.c1
  go_enter Tryd.func5, Tryd.ntmps5
  go_wp2_with fail
  refine (pieS.szS_any Aps nps cps 1048576 (by omega) (by omega) _).mono ?_
  rintro o u ⟨rfl, rfl⟩
  rw [if_neg (by omega)]
  go_wp2_with fail
  refine (iroS.to_any x _).mono ?_
  rintro o u ⟨rfl, hb⟩
  clear c0 c1
  have z1 := hb.size
  have S1 := Lib.hid (S0.out.next hb)
  clear hb S0
  have zz1 := S1.out.z
  go_wp2_with fail
  have TT := pieS.toS_any Aps cps ps (by rw [← Eps.out]; exact hnps) _ ((Gps.out.below S1.out.b).more S1.out.b.size)
  rw [← Eps.out] at TT
  refine TT.mono ?_
  clear TT
  rintro o u ⟨ga0, rfl, P, hb⟩
  have ga0l := (P.lt ga0 rfl).1
  have ga0h := (P.lt ga0 rfl).2
  have LXa0 := Lib.hid (fun k hk => P.lt k hk)
  have z2 := hb.size
  have S2 := Lib.hid (S1.out.next hb)
  clear hb S1
  have Xa0 := Lib.hid P
  clear P
  go_wp2_with fail
  refine (LeastLateness_spec x hx (some ⟨ga0, 0, none⟩) nps nps ps Eps.out hnps HFps.out ys r0 r1 HR.out _ (Sl.of_owns Xa0.out (Pie.len _) (by decide))).mono ?_
  rintro o u ⟨v, rfl, P, hb⟩
  obtain ⟨Aw, cw, rfl, _⟩ := owns_slice P
  have LPW := Lib.hid (fun k hk => P.lt k hk)
  clear Xa0 LXa0
  have z3 := hb.size
  have S3 := Lib.hid (S2.out.next hb)
  clear hb S2
  have PW := Lib.hid P
  clear P
  go_wp2_with fail
  have TT := pieS.toS_any Aps cps ps (by rw [← Eps.out]; exact hnps) _ ((Gps.out.below S3.out.b).more S3.out.b.size)
  rw [← Eps.out] at TT
  refine TT.mono ?_
  clear TT
  rintro o u ⟨gb0, rfl, P, hb⟩
  have gb0l := (P.lt gb0 rfl).1
  have gb0h := (P.lt gb0 rfl).2
  have LXb0 := Lib.hid (fun k hk => P.lt k hk)
  have z4 := hb.size
  have S4 := Lib.hid (S3.out.next hb)
  have PW_4 := Lib.hid (owns_next PW.out hb)
  clear hb S3 PW
  have Xb0 := Lib.hid P
  clear P
  have c0 := S4.out.c0
  have c1 := S4.out.c1
  go_wp2_with fail
  refine (iroS.to_any x _).mono ?_
  rintro o u ⟨rfl, hb⟩
  clear c0 c1
  have z5 := hb.size
  have S5 := Lib.hid (S4.out.next hb)
  have PW_5 := Lib.hid (owns_next PW_4.out hb)
  have Xb0_5 := Lib.hid (owns_next Xb0.out hb)
  clear hb S4 PW_4 Xb0
  go_wp2_with fail
  refine (LeastLateness_any x hx (some ⟨gb0, 0, none⟩) nps nps ps Eps.out hnps HFps.out ys r0 r1 HR.out (HE.out.below S5.out.b) S5.out.b.size (Sl.of_owns Xb0_5.out (Pie.len _) (by decide))).mono ?_
  rintro o u ⟨v, rfl, P, hb⟩
  obtain ⟨Ag, cg, rfl, _⟩ := owns_slice P
  have LPG := Lib.hid (fun k hk => P.lt k hk)
  have z6 := hb.size
  have S6 := Lib.hid (S5.out.next hb)
  have PW_6 := Lib.hid (owns_next PW_5.out hb)
  have Xb0_6 := Lib.hid (owns_next Xb0_5.out hb)
  clear hb S5 PW_5 Xb0_5
  have PG := Lib.hid P
  clear P
  go_wp2_with fail
  refine (intS.eqS_any Ag Aw _ _ cg cw ys ys rfl rfl hys (by omega) _ (Sl.of_owns PG.out (intS.len _) (by decide)) (Sl.of_owns PW_6.out (intS.len _) (by decide)) true (by simp)).mono ?_
  rintro o u ⟨rfl, hb⟩
  have z7 := hb.size
  have S7 := Lib.hid (S6.out.next hb)
  have PW_7 := Lib.hid (owns_next PW_6.out hb)
  have Xb0_7 := Lib.hid (owns_next Xb0_6.out hb)
  have PG_7 := Lib.hid (owns_next PG.out hb)
  clear hb S6 PW_6 Xb0_6 PG
  go_wp2_with fail
  have TT := pieS.toS_any Aps cps ps (by rw [← Eps.out]; exact hnps) _ ((Gps.out.below S7.out.b).more S7.out.b.size)
  rw [← Eps.out] at TT
  refine TT.mono ?_
  clear TT
  rintro o u ⟨gc0, rfl, P, hb⟩
  have gc0l := (P.lt gc0 rfl).1
  have gc0h := (P.lt gc0 rfl).2
  have LXc0 := Lib.hid (fun k hk => P.lt k hk)
  have z8 := hb.size
  have S8 := Lib.hid (S7.out.next hb)
  have PW_8 := Lib.hid (owns_next PW_7.out hb)
  have Xb0_8 := Lib.hid (owns_next Xb0_7.out hb)
  have PG_8 := Lib.hid (owns_next PG_7.out hb)
  clear hb S7 PW_7 Xb0_7 PG_7
  have Xc0 := Lib.hid P
  clear P
  go_wp2_with fail
  refine (pieS.eqS_any (some ⟨gb0, 0, none⟩) (some ⟨gc0, 0, none⟩) nps nps nps nps ps ps Eps.out Eps.out hnps (by omega) _ (Sl.of_owns Xb0_8.out (Pie.len _) (by decide)) (Sl.of_owns Xc0.out (Pie.len _) (by decide)) true (by simp)).mono ?_
  rintro o u ⟨rfl, hb⟩
  clear Xc0 LXc0
  have z9 := hb.size
  have S9 := Lib.hid (S8.out.next hb)
  have PW_9 := Lib.hid (owns_next PW_8.out hb)
  have Xb0_9 := Lib.hid (owns_next Xb0_8.out hb)
  have PG_9 := Lib.hid (owns_next PG_8.out hb)
  clear hb S8 PW_8 Xb0_8 PG_8
  go_wp2_with fail
  refine (pieS.markS_row _ gb0 nps nps (1 : Int) (by omega) hnps _ _ Xb0_9.out).mono ?_
  rintro o u ⟨rfl, _, hgr⟩
  have k1 : decide (((1 : Int) + 3 * (nps : Int)) < 0) = false := by simp; omega
  have z10 := hgr.size
  have S10 := Lib.hid (S9.out.mark hgr (by omega))
  have PW_10 := Lib.hid (owns_other PW_9.out hgr (fun k hk e => by have t := LPW.out k hk; omega))
  have PG_10 := Lib.hid (owns_other PG_9.out hgr (fun k hk e => by have t := LPG.out k hk; omega))
  clear hgr S9 PW_9 PG_9
  clear Xb0_9 LXb0
  go_wp2_with fail
  refine (intS.eqS_any Ag Aw _ _ cg cw ys ys rfl rfl hys (by omega) _ (Sl.of_owns PG_10.out (intS.len _) (by decide)) (Sl.of_owns PW_10.out (intS.len _) (by decide)) true (by simp)).mono ?_
  rintro o u ⟨rfl, hb⟩
  have z11 := hb.size
  have S11 := Lib.hid (S10.out.next hb)
  have PW_11 := Lib.hid (owns_next PW_10.out hb)
  have PG_11 := Lib.hid (owns_next PG_10.out hb)
  clear hb S10 PW_10 PG_10
  go_wp2_with fail
  refine (intS.markS_any _ _ _ 1 (by omega) hys _ _ PG_11.out).mono ?_
  rintro o u ⟨rfl, P, g9, hg9, hgr, _⟩
  have z12 := hgr.size
  have S12 := Lib.hid (S11.out.mark hgr (by omega))
  have PW_12 := Lib.hid (owns_other PW_11.out hgr (fun k hk e => by have t := LPW.out k hk; omega))
  clear hgr S11 PW_11
  clear PG_11
  have PM := Lib.hid P
  clear P
  have LPM := LPG
  clear LPG
  have k2 : decide ((1 : Int) + (ys.length : Int) < 0) = false := by simp; omega
  go_wp2_with fail
  refine (intS.heldS_any Ag _ cg 1 (by omega) hys _ _ (Sl.of_owns PM.out (intS.len _) (by decide))).mono ?_
  rintro o u ⟨rfl, rfl⟩
  have c0 := S12.out.c0
  have c1 := S12.out.c1
  go_wp2_with fail
  refine (iroS.to_any x _).mono ?_
  rintro o u ⟨rfl, hb⟩
  clear c0 c1
  have z13 := hb.size
  have S13 := Lib.hid (S12.out.next hb)
  have PW_13 := Lib.hid (owns_next PW_12.out hb)
  have PM_13 := Lib.hid (owns_next PM.out hb)
  clear hb S12 PW_12 PM
  go_wp2_with fail
  have TT := pieS.toS_any Aps cps ps (by rw [← Eps.out]; exact hnps) _ ((Gps.out.below S13.out.b).more S13.out.b.size)
  rw [← Eps.out] at TT
  refine TT.mono ?_
  clear TT
  rintro o u ⟨gd0, rfl, P, hb⟩
  have gd0l := (P.lt gd0 rfl).1
  have gd0h := (P.lt gd0 rfl).2
  have LXd0 := Lib.hid (fun k hk => P.lt k hk)
  have z14 := hb.size
  have S14 := Lib.hid (S13.out.next hb)
  have PW_14 := Lib.hid (owns_next PW_13.out hb)
  have PM_14 := Lib.hid (owns_next PM_13.out hb)
  clear hb S13 PW_13 PM_13
  have Xd0 := Lib.hid P
  clear P
  go_wp2_with fail
  refine (LeastLateness_any x hx (some ⟨gd0, 0, none⟩) nps nps ps Eps.out hnps HFps.out ys r0 r1 HR.out (HE.out.below S14.out.b) S14.out.b.size (Sl.of_owns Xd0.out (Pie.len _) (by decide))).mono ?_
  rintro o u ⟨v, rfl, P, hb⟩
  obtain ⟨Ah, ch, rfl, _⟩ := owns_slice P
  have LPH := Lib.hid (fun k hk => P.lt k hk)
  clear Xd0 LXd0
  have z15 := hb.size
  have S15 := Lib.hid (S14.out.next hb)
  have PW_15 := Lib.hid (owns_next PW_14.out hb)
  have PM_15 := Lib.hid (owns_next PM_14.out hb)
  clear hb S14 PW_14 PM_14
  have PH := Lib.hid P
  clear P
  go_wp2_with fail
  refine (intS.eqS_any Ah Aw _ _ ch cw ys ys rfl rfl hys (by omega) _ (Sl.of_owns PH.out (intS.len _) (by decide)) (Sl.of_owns PW_15.out (intS.len _) (by decide)) true (by simp)).mono ?_
  rintro o u ⟨rfl, hb⟩
  have z16 := hb.size
  have S16 := Lib.hid (S15.out.next hb)
  have PW_16 := Lib.hid (owns_next PW_15.out hb)
  have PM_16 := Lib.hid (owns_next PM_15.out hb)
  have PH_16 := Lib.hid (owns_next PH.out hb)
  clear hb S15 PW_15 PM_15 PH
  go_wp2_with fail
  refine (intS.heldS_any Ag _ cg 1 (by omega) hys _ _ (Sl.of_owns PM_16.out (intS.len _) (by decide))).mono ?_
  rintro o u ⟨rfl, rfl⟩
  go_wp2_with fail
  go_ret
  exact ⟨rfl, S16.out.b⟩

set_option maxHeartbeats 1000000 in
theorem walk_long0 (x : Iro) (Aps : Option Addr) (nps cps : Nat) (hmps : nps ≤ 9223372036854775807)  (hbps : 1048576 < nps) (w : World) :
    Calls Tryd.prog 5 #[x.v, .slice Aps nps cps] w fun e w' => e = .returned (.bool true) ∧ Below w.heap.size w w' := by
  go_enter Tryd.func5, Tryd.ntmps5
  go_wp2_with fail
  refine (pieS.szS_any Aps nps cps 1048576 hmps (by omega) _).mono ?_
  rintro o w1 ⟨rfl, rfl⟩
  rw [if_pos (by omega)]
  go_wp2_with fail
  go_ret
  exact ⟨rfl, by repeat (first | exact Below.refl _ _ | assumption | apply Below.drew | (refine Below.alloc ?_ (by first | (simp; done) | (simp; omega) | omega) _) | (refine Below.setCell ?_ (by first | (simp; done) | (simp; omega) | omega) _))⟩

theorem readables : ∀ t ∈ Tryd.f5.params.toList, Tryd.prog.readableRec t = true ∧ t < Tryd.prog.types.size := by
  rw [Tryd.params5]
  intro t ht
  simp only [List.mem_cons, List.not_mem_nil, or_false] at ht
  rcases ht with rfl | rfl <;> exact ⟨by kernel_rfl, of_decide_eq_true (by kernel_rfl)⟩

set_option maxRecDepth 100000 in
/-- what the row's list gives -/
theorem errsLaid {W : World} (h : laidMetH Tryd.prog Rows.fnExactLeastLatenessRow.laid W) : ∃ e, Errs W W.heap.size e := by
  rw [MakeChecks.laidMetH_plain _ _ _ (by kernel_rfl)] at h
  refine errs_of Rows.fnExactLeastLatenessRow.laid (fun i => i) h (by kernel_rfl) ?_ ?_ (fun i j _ _ h => h)
  · have hall : ((listOf Rows.fnExactLeastLatenessRow.laid).all fun x => match Tryd.prog.globalNamed x.1 with | some g => decide ((Tryd.prog.globals[g]?).map (·.type) = some 52) | none => false) = true := by kernel_rfl
    intro x hx
    have h1 := List.all_eq_true.1 hall x hx
    split at h1
    · rename_i g hg
      exact ⟨g, hg, of_decide_eq_true h1⟩
    · cases h1
  · have b0 : ((listOf Rows.fnExactLeastLatenessRow.laid)[0]?).bind (fun x => Tryd.prog.globalNamed x.1) = some (gvar 0) := by kernel_rfl
    have b1 : ((listOf Rows.fnExactLeastLatenessRow.laid)[1]?).bind (fun x => Tryd.prog.globalNamed x.1) = some (gvar 1) := by kernel_rfl
    have b2 : ((listOf Rows.fnExactLeastLatenessRow.laid)[2]?).bind (fun x => Tryd.prog.globalNamed x.1) = some (gvar 2) := by kernel_rfl
    have b3 : ((listOf Rows.fnExactLeastLatenessRow.laid)[3]?).bind (fun x => Tryd.prog.globalNamed x.1) = some (gvar 3) := by kernel_rfl
    have b4 : ((listOf Rows.fnExactLeastLatenessRow.laid)[4]?).bind (fun x => Tryd.prog.globalNamed x.1) = some (gvar 4) := by kernel_rfl
    have b5 : ((listOf Rows.fnExactLeastLatenessRow.laid)[5]?).bind (fun x => Tryd.prog.globalNamed x.1) = some (gvar 5) := by kernel_rfl
    have b6 : ((listOf Rows.fnExactLeastLatenessRow.laid)[6]?).bind (fun x => Tryd.prog.globalNamed x.1) = some (gvar 6) := by kernel_rfl
    intro i hi
    match i, hi with
    | 0, _ => exact b0
    | 1, _ => exact b1
    | 2, _ => exact b2
    | 3, _ => exact b3
    | 4, _ => exact b4
    | 5, _ => exact b5
    | 6, _ => exact b6

set_option maxRecDepth 100000 in
theorem contract (H : Type) (enc : TypeId × Value → H) (W : World) (base : Nat) (args : Array Value) (ds gs : List (DataW H)) (before : List MemPlace)
    (hval : ∀ (j : Nat) t v, Tryd.f5.params[j]? = some t → args[j]? = some v → Value.okWide Tryd.prog W .any base t v)
    (hW : DataW.Whole enc Tryd.prog Tryd.f5.params.toList Rows.fnExactLeastLatenessSpec.vars false W args.toList ds gs before) (hL : laidMetH Tryd.prog Rows.fnExactLeastLatenessRow.laid W) :
    Calls Tryd.prog 5 args W fun e W' => ∃ v, e = .returned v ∧ Rows.fnExactLeastLatenessSpec.post enc Tryd.prog Tryd.f5 false true false false W args v W' := by
  obtain ⟨ee, hE⟩ := errsLaid hL
  have hW' := hW
  obtain ⟨p, q, hA0, hV, rfl, hfz, hnd⟩ := hW
  have hA : DataW.TrodAll enc Tryd.prog W 0 (fun _ => true) true Tryd.f5.params.toList args.toList ds p := hA0
  rw [Tryd.params5] at hA hval
  clear hA0
  obtain ⟨v0, vs0, d0, ds0, p0, q0, hargs, rfl, rfl, h0, r0⟩ := trodAll_cons hA
  obtain ⟨v1, vs1, d1, ds1, p1, q1, rfl, rfl, rfl, h1, r1⟩ := trodAll_cons r0
  obtain ⟨rfl, rfl, rfl⟩ := trodAll_nil r1
  obtain rfl : args = #[v0, v1] := by cases args; simp_all
  obtain ⟨z0, z1, z2, z3, z4, z5, z6, rfl⟩ := vars_of hV
  obtain ⟨x, hx, rfl⟩ := iroS.open_one (hval 0 24 v0 rfl rfl) h0
  obtain ⟨Aps, cps, ps, rfl, hlps, hgps, hfps⟩ := pieS.open_many (hval 1 25 v1 rfl rfl) h1
  have walk : Calls Tryd.prog 5 #[x.v, .slice Aps ps.length cps] W fun e W' => e = .returned (.bool true) ∧ Below W.heap.size W W' := by
    unfold maxLen at hlps
    rcases Nat.lt_or_ge 1048576 ps.length with hpss | hpss
    · exact walk_long0 x Aps _ cps hlps  hpss W
    exact walk x hx Aps _ cps ps rfl hpss hfps W ee hE hgps
  refine walk.mono fun e W' ⟨he, hb⟩ => ?_
  subst he
  exact ⟨_, rfl, close_vars laidOut readables (by kernel_rfl) Tryd.underlying4 rfl rfl hW' hb⟩

end Go.Proofs.YtjhkjbdpmianfaaDoor.lawLeastLateness
