/-
  THE LAW FnExactLongestDry: for every day the law returns true: the program answers as the model does. No condition but that the package's errors are what the program's text lays.
-/
import Derived.Test.YtmjfdbhogobpfaaDoorCLongI
import Derived.Test.YtmjfdbhogobpfaaDoorDayOpen
import Derived.Test.YtmjfdbhogobpfaaDoorClose
import Derived.Test.YtmjfdbhogobpfaaDoorLaid
import Derived.Test.YtmjfdbhogobpfaaDoorCards
import Derived.Test.YtmjfdbhogobpfaaDoorTie
namespace Go.Proofs.YtmjfdbhogobpfaaDoor.lawLongestDry
open Go.ChangeShapes Go.WideShapes Go.ChangeAt Go.RowKit Go.Joins sl errs day

set_option maxRecDepth 100000 in
set_option maxHeartbeats 4000000 in
theorem walk (d : List Wea) (hd : d.length = 24) (hf : ∀ x ∈ d, x.Fits) (w : World) (e : Nat → Addr) (hE : Errs w w.heap.size e) :
    Calls Tryd.prog 5 #[dayV d] w fun o w' => o = .returned (.bool true) ∧ Below w.heap.size w w' := by
  have HD := Lib.hid hd
  clear hd
  have A0 := Lib.hid (DayAt.new d 36 w)
  have B0 : Hid (Below w.heap.size w (w.alloc (.cells (dayCs d) 36))) := Lib.hid (by repeat (first | exact Below.refl _ _ | assumption | apply Below.drew | (refine Below.alloc ?_ (by first | (simp; done) | (simp; omega) | omega) _) | (refine Below.setCell ?_ (by first | (simp; done) | (simp; omega) | omega) _)))
  go_enter Tryd.func5, Tryd.ntmps5
  go_wp2_with (refine wpl_load_arg rfl (.tmp 1) rfl w.heap.size rfl HD.out A0.out ?_)
  refine (toDay_any d HD.out _).mono ?_
  rintro o w1 ⟨rfl, hb1⟩
  have A1 := Lib.hid (A0.out.next hb1)
  have B1 := Lib.hid (below_next B0.out hb1 (Nat.le_refl _))
  clear hb1 A0 B0
  go_wp2_with fail
  refine (LongestDry_spec d HD.out hf _).mono ?_
  rintro o w2 ⟨hcase, hb2⟩
  have A2 := Lib.hid (A1.out.next hb2)
  have B2 := Lib.hid (below_next B1.out hb2 (Nat.le_refl _))
  clear hb2 A1 B1
  rcases hcase with ⟨hv, rfl⟩ | ⟨hv, a, n, hL, rfl⟩
  · have HV := Lib.hid hv
    clear hv
    go_wp2_with (refine wpl_load_arg rfl (.tmp 1) rfl w.heap.size rfl HD.out A2.out ?_)
    refine (toDay_any d HD.out _).mono ?_
    rintro o w3 ⟨rfl, hb3⟩
    have B3 := Lib.hid (below_next B2.out hb3 (Nat.le_refl _))
    clear hb3 A2 B2
    go_wp2_with fail
    refine (LongestDry_any d HD.out hf (hE.below B3.out) B3.out.size).mono ?_
    rintro o w4 ⟨hcase, hb4⟩
    have B4 := Lib.hid (below_next B3.out hb4 (Nat.le_refl _))
    clear hb4 B3
    rcases hcase with ⟨hv, rfl⟩ | ⟨hv, a, n, hL, rfl⟩
    · clear hv
      go_wp2_with fail
      go_ret
      exact ⟨rfl, B4.out⟩
    · exfalso
      rw [HV.out] at hv
      cases hv
  · have HV := Lib.hid hv
    have HL := Lib.hid hL
    obtain ⟨p0, p1, p2, hpq⟩ : ∃ p0 p1 p2, longRes a n = (p0, p1, p2) := ⟨_, _, _, rfl⟩
    have HP := Lib.hid hpq
    rw [hpq]
    clear hv hL hpq
    go_wp2_with (refine wpl_load_arg rfl (.tmp 1) rfl w.heap.size rfl HD.out A2.out ?_)
    refine (toDay_any d HD.out _).mono ?_
    rintro o w3 ⟨rfl, hb3⟩
    have B3 := Lib.hid (below_next B2.out hb3 (Nat.le_refl _))
    clear hb3 A2 B2
    go_wp2_with fail
    refine (LongestDry_any d HD.out hf (hE.below B3.out) B3.out.size).mono ?_
    rintro o w4 ⟨hcase, hb4⟩
    have B4 := Lib.hid (below_next B3.out hb4 (Nat.le_refl _))
    clear hb4 B3
    rcases hcase with ⟨hv, rfl⟩ | ⟨hv, b, m, hL, rfl⟩
    · exfalso
      rw [HV.out] at hv
      cases hv
    · obtain ⟨rfl, rfl⟩ := HL.out.unique hL
      rw [HP.out]
      clear hv hL
      go_wp2_with fail
      go_ret
      exact ⟨rfl, B4.out⟩

theorem readables : ∀ t ∈ Tryd.f5.params.toList, Tryd.prog.readableRec t = true ∧ t < Tryd.prog.types.size := by
  rw [Tryd.params5]
  intro t ht
  simp only [List.mem_cons, List.not_mem_nil, or_false] at ht
  subst ht
  exact ⟨by kernel_rfl, of_decide_eq_true (by kernel_rfl)⟩

set_option maxRecDepth 100000 in
/-- what the row's list gives -/
theorem errsLaid {W : World} (h : laidMetH Tryd.prog Rows.fnExactLongestDryRow.laid W) : ∃ e, Errs W W.heap.size e := by
  rw [MakeChecks.laidMetH_plain _ _ _ (by kernel_rfl)] at h
  refine errs_of Rows.fnExactLongestDryRow.laid (fun i => i) h (by kernel_rfl) ?_ ?_ (fun i j _ _ h => h)
  · have hall : ((listOf Rows.fnExactLongestDryRow.laid).all fun x => match Tryd.prog.globalNamed x.1 with | some g => decide ((Tryd.prog.globals[g]?).map (·.type) = some 85) | none => false) = true := by kernel_rfl
    intro x hx
    have h1 := List.all_eq_true.1 hall x hx
    split at h1
    · rename_i g hg
      exact ⟨g, hg, of_decide_eq_true h1⟩
    · cases h1
  · have b0 : ((listOf Rows.fnExactLongestDryRow.laid)[0]?).bind (fun x => Tryd.prog.globalNamed x.1) = some (gvar 0) := by kernel_rfl
    have b1 : ((listOf Rows.fnExactLongestDryRow.laid)[1]?).bind (fun x => Tryd.prog.globalNamed x.1) = some (gvar 1) := by kernel_rfl
    have b2 : ((listOf Rows.fnExactLongestDryRow.laid)[2]?).bind (fun x => Tryd.prog.globalNamed x.1) = some (gvar 2) := by kernel_rfl
    have b3 : ((listOf Rows.fnExactLongestDryRow.laid)[3]?).bind (fun x => Tryd.prog.globalNamed x.1) = some (gvar 3) := by kernel_rfl
    have b4 : ((listOf Rows.fnExactLongestDryRow.laid)[4]?).bind (fun x => Tryd.prog.globalNamed x.1) = some (gvar 4) := by kernel_rfl
    have b5 : ((listOf Rows.fnExactLongestDryRow.laid)[5]?).bind (fun x => Tryd.prog.globalNamed x.1) = some (gvar 5) := by kernel_rfl
    have b6 : ((listOf Rows.fnExactLongestDryRow.laid)[6]?).bind (fun x => Tryd.prog.globalNamed x.1) = some (gvar 6) := by kernel_rfl
    intro i hi
    match i, hi with
    | 0, _ => exact b0
    | 1, _ => exact b1
    | 2, _ => exact b2
    | 3, _ => exact b3
    | 4, _ => exact b4
    | 5, _ => exact b5
    | 6, _ => exact b6

set_option maxRecDepth 100000 in
theorem contract (H : Type) (enc : TypeId × Value → H) (W : World) (base : Nat) (args : Array Value) (ds gs : List (DataW H)) (before : List MemPlace)
    (hval : ∀ (j : Nat) t v, Tryd.f5.params[j]? = some t → args[j]? = some v → Value.okWide Tryd.prog W .any base t v)
    (hW : DataW.Whole enc Tryd.prog Tryd.f5.params.toList Rows.fnExactLongestDrySpec.vars false W args.toList ds gs before) (hL : laidMetH Tryd.prog Rows.fnExactLongestDryRow.laid W) :
    Calls Tryd.prog 5 args W fun e W' => ∃ v, e = .returned v ∧ Rows.fnExactLongestDrySpec.post enc Tryd.prog Tryd.f5 false true false false W args v W' := by
  obtain ⟨ee, hE⟩ := errsLaid hL
  have hW' := hW
  obtain ⟨p, q, hA0, hV, rfl, hfz, hnd⟩ := hW
  have hA : DataW.TrodAll enc Tryd.prog W 0 (fun _ => true) true Tryd.f5.params.toList args.toList ds p := hA0
  rw [Tryd.params5] at hA hval
  clear hA0
  obtain ⟨v0, vs0, d0, ds0, p0, q0, hargs, rfl, rfl, h0, r0⟩ := trodAll_cons hA
  obtain ⟨rfl, rfl, rfl⟩ := trodAll_nil r0
  obtain rfl : args = #[v0] := by cases args; simp_all
  obtain ⟨z0, z1, z2, z3, z4, z5, z6, rfl⟩ := vars_of hV
  obtain ⟨d, hd, hf, rfl⟩ := open_day (hval 0 36 v0 rfl rfl) h0
  refine (walk d hd hf W ee hE).mono fun e W' ⟨he, hb⟩ => ?_
  subst he
  exact ⟨_, rfl, close_vars laidOut readables (by kernel_rfl) Tryd.underlying4 rfl rfl hW' hb⟩

end Go.Proofs.YtmjfdbhogobpfaaDoor.lawLongestDry
