/-
  THE LAW FnExactGreedyMarks: for every number of stitches and every most the law returns true: the program takes the marks that the model takes, and what it returns is its own. No condition but that the package's errors are what the program's text lays.
-/
import Derived.Test.YtlembainfhnnbaaDoorJoin16
import Derived.Test.YtlembainfhnnbaaDoorMarOpen
import Derived.Test.YtlembainfhnnbaaDoorOpenWords
import Derived.Test.YtlembainfhnnbaaDoorClose
import Derived.Test.YtlembainfhnnbaaDoorLaid
import Derived.Test.YtlembainfhnnbaaDoorCards
import Derived.Test.YtlembainfhnnbaaDoorTie
import Derived.ProofKit
import Derived.OpenShut
import Derived.Lib.SmallJoins
namespace Go.Proofs.YtlembainfhnnbaaDoor.lawGreedyMarks
open Go.ChangeShapes Go.WideShapes Go.ChangeAt Go.RowKit Go.Joins sl errs mks 

set_option maxRecDepth 100000 in
set_option maxHeartbeats 8000000 in
theorem walk (s : Int) (p : Int) (w : World) (e : Nat → Addr) (hE : Errs w w.heap.size e)  :
    Calls Tryd.prog 7 #[.int .i64 s, .int .i64 p] w fun o w' => o = .returned (.bool true) ∧ Below w.heap.size w w' := by
  obtain ⟨ys, k, hr⟩ : ∃ ys k, greR s p = (ys, k) := ⟨_, _, rfl⟩
  have HR := Lib.hid hr
  have hys : ys.length ≤ 1048576 := greR_le HR.out
  have HE := Lib.hid hE
  have H0 := Lib.hid (Below.refl w.heap.size w)
  clear hr hE 
  go_enter Tryd.func7, Tryd.ntmps7
  go_wp2_with fail
  refine (GreedyMarks_spec s p ys k HR.out _ ).mono ?_
  rintro o u ⟨v, rfl, P, hb⟩
  obtain ⟨Aw, cw, rfl, _⟩ := owns_slice P
  have LPW := Lib.hid (fun k hk => P.lt k hk)
  have z1 := hb.size
  have H1 := Lib.hid (below_next H0.out hb (Nat.le_refl _))
  clear hb H0
  have PW := Lib.hid P
  clear P
  go_wp2_with fail
  refine (GreedyMarks_any s p ys k HR.out (HE.out.below H1.out) H1.out.size ).mono ?_
  rintro o u ⟨v, rfl, P, hb⟩
  obtain ⟨Ag, cg, rfl, _⟩ := owns_slice P
  have LPG := Lib.hid (fun k hk => P.lt k hk)
  have z2 := hb.size
  have H2 := Lib.hid (below_next H1.out hb (Nat.le_refl _))
  have PW_2 := Lib.hid (owns_next PW.out hb)
  clear hb H1 PW
  have PG := Lib.hid P
  clear P
  go_wp2_with fail
  refine (marS.eqS_any Ag Aw _ _ cg cw ys ys rfl rfl hys (by omega) _ (Sl.of_owns PG.out (marS.len _) (by decide)) (Sl.of_owns PW_2.out (marS.len _) (by decide)) true (by simp)).mono ?_
  rintro o u ⟨rfl, hb⟩
  have z3 := hb.size
  have H3 := Lib.hid (below_next H2.out hb (Nat.le_refl _))
  have PW_3 := Lib.hid (owns_next PW_2.out hb)
  have PG_3 := Lib.hid (owns_next PG.out hb)
  clear hb H2 PW_2 PG
  go_wp2_with fail
  refine (marS.markS_anyZ _ _ _ 1 (by omega) hys _ _ PG_3.out).mono ?_
  rintro o u ⟨rfl, P, g9, hg9, hgr, _⟩
  have z4 := hgr.size
  have H4 := Lib.hid (H3.out.trans (grownBy_below hgr H3.out.size (by omega)))
  have PW_4 := Lib.hid (owns_other PW_3.out hgr (fun k hk e => by have t := LPW.out k hk; omega))
  clear hgr H3 PW_3
  clear PG_3
  have PM := Lib.hid P
  clear P
  have LPM := LPG
  clear LPG
  have k2 : decide ((1 : Int) + (ys.length : Int) < 0) = false := by simp; omega
  go_wp2_with fail
  refine (marS.heldS_anyZ Ag _ cg 1 (by omega) hys _ _ (Sl.of_owns PM.out (marS.len _) (by decide))).mono ?_
  rintro o u ⟨rfl, rfl⟩
  go_wp2_with fail
  refine (GreedyMarks_any s p ys k HR.out (HE.out.below H4.out) H4.out.size ).mono ?_
  rintro o u ⟨v, rfl, P, hb⟩
  obtain ⟨Ah, ch, rfl, _⟩ := owns_slice P
  have LPH := Lib.hid (fun k hk => P.lt k hk)
  have z5 := hb.size
  have H5 := Lib.hid (below_next H4.out hb (Nat.le_refl _))
  have PW_5 := Lib.hid (owns_next PW_4.out hb)
  have PM_5 := Lib.hid (owns_next PM.out hb)
  clear hb H4 PW_4 PM
  have PH := Lib.hid P
  clear P
  go_wp2_with fail
  refine (marS.eqS_any Ah Aw _ _ ch cw ys ys rfl rfl hys (by omega) _ (Sl.of_owns PH.out (marS.len _) (by decide)) (Sl.of_owns PW_5.out (marS.len _) (by decide)) true (by simp)).mono ?_
  rintro o u ⟨rfl, hb⟩
  have z6 := hb.size
  have H6 := Lib.hid (below_next H5.out hb (Nat.le_refl _))
  have PW_6 := Lib.hid (owns_next PW_5.out hb)
  have PM_6 := Lib.hid (owns_next PM_5.out hb)
  have PH_6 := Lib.hid (owns_next PH.out hb)
  clear hb H5 PW_5 PM_5 PH
  go_wp2_with fail
  refine (marS.heldS_anyZ Ag _ cg 1 (by omega) hys _ _ (Sl.of_owns PM_6.out (marS.len _) (by decide))).mono ?_
  rintro o u ⟨rfl, rfl⟩
  go_wp2_with fail
  go_ret
  exact ⟨rfl, H6.out⟩

theorem readables : ∀ t ∈ Tryd.f7.params.toList, Tryd.prog.readableRec t = true ∧ t < Tryd.prog.types.size := by
  rw [Tryd.params7]
  intro t ht
  simp only [List.mem_cons, List.not_mem_nil, or_false] at ht
  rcases ht with rfl | rfl <;> exact ⟨by kernel_rfl, of_decide_eq_true (by kernel_rfl)⟩

set_option maxRecDepth 100000 in
/-- what the row's list gives -/
theorem errsLaid {W : World} (h : laidMetH Tryd.prog Rows.fnExactGreedyMarksRow.laid W) : ∃ e, Errs W W.heap.size e := by
  rw [MakeChecks.laidMetH_plain _ _ _ (by kernel_rfl)] at h
  refine errs_of Rows.fnExactGreedyMarksRow.laid (fun i => i) h (by kernel_rfl) ?_ ?_ (fun i j _ _ h => h)
  · have hall : ((listOf Rows.fnExactGreedyMarksRow.laid).all fun x => match Tryd.prog.globalNamed x.1 with | some g => decide ((Tryd.prog.globals[g]?).map (·.type) = some 65) | none => false) = true := by kernel_rfl
    intro x hx
    have h1 := List.all_eq_true.1 hall x hx
    split at h1
    · rename_i g hg
      exact ⟨g, hg, of_decide_eq_true h1⟩
    · cases h1
  · have b0 : ((listOf Rows.fnExactGreedyMarksRow.laid)[0]?).bind (fun x => Tryd.prog.globalNamed x.1) = some (gvar 0) := by kernel_rfl
    have b1 : ((listOf Rows.fnExactGreedyMarksRow.laid)[1]?).bind (fun x => Tryd.prog.globalNamed x.1) = some (gvar 1) := by kernel_rfl
    have b2 : ((listOf Rows.fnExactGreedyMarksRow.laid)[2]?).bind (fun x => Tryd.prog.globalNamed x.1) = some (gvar 2) := by kernel_rfl
    have b3 : ((listOf Rows.fnExactGreedyMarksRow.laid)[3]?).bind (fun x => Tryd.prog.globalNamed x.1) = some (gvar 3) := by kernel_rfl
    have b4 : ((listOf Rows.fnExactGreedyMarksRow.laid)[4]?).bind (fun x => Tryd.prog.globalNamed x.1) = some (gvar 4) := by kernel_rfl
    have b5 : ((listOf Rows.fnExactGreedyMarksRow.laid)[5]?).bind (fun x => Tryd.prog.globalNamed x.1) = some (gvar 5) := by kernel_rfl
    have b6 : ((listOf Rows.fnExactGreedyMarksRow.laid)[6]?).bind (fun x => Tryd.prog.globalNamed x.1) = some (gvar 6) := by kernel_rfl
    intro i hi
    match i, hi with
    | 0, _ => exact b0
    | 1, _ => exact b1
    | 2, _ => exact b2
    | 3, _ => exact b3
    | 4, _ => exact b4
    | 5, _ => exact b5
    | 6, _ => exact b6

set_option maxRecDepth 100000 in
theorem contract (H : Type) (enc : TypeId × Value → H) (W : World) (base : Nat) (args : Array Value) (ds gs : List (DataW H)) (before : List MemPlace)
    (hval : ∀ (j : Nat) t v, Tryd.f7.params[j]? = some t → args[j]? = some v → Value.okWide Tryd.prog W .any base t v)
    (hW : DataW.Whole enc Tryd.prog Tryd.f7.params.toList Rows.fnExactGreedyMarksSpec.vars false W args.toList ds gs before) (hL : laidMetH Tryd.prog Rows.fnExactGreedyMarksRow.laid W) :
    Calls Tryd.prog 7 args W fun e W' => ∃ v, e = .returned v ∧ Rows.fnExactGreedyMarksSpec.post enc Tryd.prog Tryd.f7 false true false false W args v W' := by
  obtain ⟨ee, hE⟩ := errsLaid hL
  have hW' := hW
  obtain ⟨p, q, hA0, hV, rfl, hfz, hnd⟩ := hW
  have hA : DataW.TrodAll enc Tryd.prog W 0 (fun _ => true) true Tryd.f7.params.toList args.toList ds p := hA0
  rw [Tryd.params7] at hA hval
  clear hA0
  obtain ⟨v0, vs0, d0, ds0, p0, q0, hargs, rfl, rfl, h0, r0⟩ := trodAll_cons hA
  obtain ⟨v1, vs1, d1, ds1, p1, q1, rfl, rfl, rfl, h1, r1⟩ := trodAll_cons r0
  obtain ⟨rfl, rfl, rfl⟩ := trodAll_nil r1
  obtain rfl : args = #[v0, v1] := by cases args; simp_all
  obtain ⟨z0, z1, z2, z3, z4, z5, z6, rfl⟩ := vars_of hV
  obtain ⟨s, rfl, rfl, rfl, _⟩ := open_int Tryd.underlying2 (hval 0 2 v0 rfl rfl) h0
  obtain ⟨p, rfl, rfl, rfl, _⟩ := open_int Tryd.underlying2 (hval 1 2 v1 rfl rfl) h1
  have walk : Calls Tryd.prog 7 #[.int .i64 s, .int .i64 p] W fun e W' => e = .returned (.bool true) ∧ Below W.heap.size W W' := by
    exact walk s p W ee hE 
  refine walk.mono fun e W' ⟨he, hb⟩ => ?_
  subst he
  exact ⟨_, rfl, close_vars laidOut readables (by kernel_rfl) Tryd.underlying4 rfl rfl hW' hb⟩

end Go.Proofs.YtlembainfhnnbaaDoor.lawGreedyMarks
