/-
  THE LAW FnExactSameFolded: for every two sheets the law returns true: the program answers as the model does. No condition but that the package's errors are what the program's text lays.
-/
import Derived.Test.YtcbbabepjfiigaaDoorJoin12
import Derived.Test.YtcbbabepjfiigaaDoorSheOpen
import Derived.Test.YtcbbabepjfiigaaDoorClose
import Derived.Test.YtcbbabepjfiigaaDoorLaid
import Derived.Test.YtcbbabepjfiigaaDoorCards
import Derived.Test.YtcbbabepjfiigaaDoorTie
namespace Go.Proofs.YtcbbabepjfiigaaDoor.lawSameFolded
open Go.ChangeShapes Go.WideShapes Go.ChangeAt Go.RowKit Go.Joins sl errs fold

set_option maxRecDepth 100000 in
set_option maxHeartbeats 1000000 in
theorem walk (x y : She) (hx : x.Fits) (hy : y.Fits) (w : World) (e : Nat → Addr) (hE : Errs w w.heap.size e) :
    Calls Tryd.prog 10 #[x.v, y.v] w fun o w' => o = .returned (.bool true) ∧ Below w.heap.size w w' := by
  have S0 := Lib.hid (Two.new x y w 24 24)
  have hsp := SameFolded_spec x y hx hy
  have him := fun (u : World) (hb : Below w.heap.size w u) => SameFolded_any x y hx hy (hE.below hb) hb.size
  obtain ⟨t, ht⟩ : ∃ t, sameS x y = t := ⟨_, rfl⟩
  obtain ⟨k, hk⟩ : ∃ t, codeT x y = t := ⟨_, rfl⟩
  rw [ht, hk] at hsp him
  have HSP := Lib.hid hsp
  have HIM := Lib.hid him
  clear ht hk hsp him hE
  go_enter Tryd.func10, Tryd.ntmps10
  go_wp2_with fail
  go_region_held3 (Two x y w)
    (first | assumption | exact S0.out.next (below_drewN _ _ 1) | exact Two.next (by assumption) hb2 | fail)
    (first | (go_at_call 15; refine (sheS.to_parts _ _ _ _).mono ?_; rintro o w2 ⟨rfl, hb2⟩) | (go_at_call 35; refine (HSP.out _).mono ?_; rintro o w2 ⟨rfl, hb2⟩) | fail)
  rename_i hS
  have S1 := Lib.hid hS
  clear hS S0
  go_wp2_with fail
  go_region_held3 (Two x y w)
    (first | assumption | exact S1.out.next (below_drewN _ _ 1) | exact Two.next (by assumption) hb2 | fail)
    (first | (go_at_call 15; refine (sheS.to_parts _ _ _ _).mono ?_; rintro o w2 ⟨rfl, hb2⟩) | (go_at_call 36; refine (HIM.out _ ?_).mono ?_; (exact Two.below (x := x) (y := y) (by assumption)); rintro o w2 ⟨rfl, hb2⟩) | fail)
  rename_i hS
  have S2 := Lib.hid (Two.below (x := x) (y := y) hS)
  clear hS S1
  go_wp2_with fail
  go_ret
  exact ⟨rfl, S2.out⟩

theorem readables : ∀ t ∈ Tryd.f10.params.toList, Tryd.prog.readableRec t = true ∧ t < Tryd.prog.types.size := by
  rw [Tryd.params10]
  intro t ht
  simp only [List.mem_cons, List.not_mem_nil, or_false] at ht
  rcases ht with rfl | rfl <;> exact ⟨by kernel_rfl, of_decide_eq_true (by kernel_rfl)⟩

set_option maxRecDepth 100000 in
/-- what the row's list gives -/
theorem errsLaid {W : World} (h : laidMetH Tryd.prog Rows.fnExactSameFoldedRow.laid W) : ∃ e, Errs W W.heap.size e := by
  rw [MakeChecks.laidMetH_plain _ _ _ (by kernel_rfl)] at h
  refine errs_of Rows.fnExactSameFoldedRow.laid (fun i => i) h (by kernel_rfl) ?_ ?_ (fun i j _ _ h => h)
  · have hall : ((listOf Rows.fnExactSameFoldedRow.laid).all fun x => match Tryd.prog.globalNamed x.1 with | some g => decide ((Tryd.prog.globals[g]?).map (·.type) = some 65) | none => false) = true := by kernel_rfl
    intro x hx
    have h1 := List.all_eq_true.1 hall x hx
    split at h1
    · rename_i g hg
      exact ⟨g, hg, of_decide_eq_true h1⟩
    · cases h1
  · have b0 : ((listOf Rows.fnExactSameFoldedRow.laid)[0]?).bind (fun x => Tryd.prog.globalNamed x.1) = some (gvar 0) := by kernel_rfl
    have b1 : ((listOf Rows.fnExactSameFoldedRow.laid)[1]?).bind (fun x => Tryd.prog.globalNamed x.1) = some (gvar 1) := by kernel_rfl
    have b2 : ((listOf Rows.fnExactSameFoldedRow.laid)[2]?).bind (fun x => Tryd.prog.globalNamed x.1) = some (gvar 2) := by kernel_rfl
    have b3 : ((listOf Rows.fnExactSameFoldedRow.laid)[3]?).bind (fun x => Tryd.prog.globalNamed x.1) = some (gvar 3) := by kernel_rfl
    have b4 : ((listOf Rows.fnExactSameFoldedRow.laid)[4]?).bind (fun x => Tryd.prog.globalNamed x.1) = some (gvar 4) := by kernel_rfl
    have b5 : ((listOf Rows.fnExactSameFoldedRow.laid)[5]?).bind (fun x => Tryd.prog.globalNamed x.1) = some (gvar 5) := by kernel_rfl
    have b6 : ((listOf Rows.fnExactSameFoldedRow.laid)[6]?).bind (fun x => Tryd.prog.globalNamed x.1) = some (gvar 6) := by kernel_rfl
    intro i hi
    match i, hi with
    | 0, _ => exact b0
    | 1, _ => exact b1
    | 2, _ => exact b2
    | 3, _ => exact b3
    | 4, _ => exact b4
    | 5, _ => exact b5
    | 6, _ => exact b6

set_option maxRecDepth 100000 in
theorem contract (H : Type) (enc : TypeId × Value → H) (W : World) (base : Nat) (args : Array Value) (ds gs : List (DataW H)) (before : List MemPlace)
    (hval : ∀ (j : Nat) t v, Tryd.f10.params[j]? = some t → args[j]? = some v → Value.okWide Tryd.prog W .any base t v)
    (hW : DataW.Whole enc Tryd.prog Tryd.f10.params.toList Rows.fnExactSameFoldedSpec.vars false W args.toList ds gs before) (hL : laidMetH Tryd.prog Rows.fnExactSameFoldedRow.laid W) :
    Calls Tryd.prog 10 args W fun e W' => ∃ v, e = .returned v ∧ Rows.fnExactSameFoldedSpec.post enc Tryd.prog Tryd.f10 false true false false W args v W' := by
  obtain ⟨ee, hE⟩ := errsLaid hL
  have hW' := hW
  obtain ⟨p, q, hA0, hV, rfl, hfz, hnd⟩ := hW
  have hA : DataW.TrodAll enc Tryd.prog W 0 (fun _ => true) true Tryd.f10.params.toList args.toList ds p := hA0
  rw [Tryd.params10] at hA hval
  clear hA0
  obtain ⟨v0, vs0, d0, ds0, p0, q0, hargs, rfl, rfl, h0, r0⟩ := trodAll_cons hA
  obtain ⟨v1, vs1, d1, ds1, p1, q1, rfl, rfl, rfl, h1, r1⟩ := trodAll_cons r0
  obtain ⟨rfl, rfl, rfl⟩ := trodAll_nil r1
  obtain rfl : args = #[v0, v1] := by cases args; simp_all
  obtain ⟨z0, z1, z2, z3, z4, z5, z6, rfl⟩ := vars_of hV
  obtain ⟨x, hx, rfl⟩ := sheS.open_one (hval 0 24 v0 rfl rfl) h0
  obtain ⟨y, hy, rfl⟩ := sheS.open_one (hval 1 24 v1 rfl rfl) h1
  refine (walk x y hx hy W ee hE).mono fun e W' ⟨he, hb⟩ => ?_
  subst he
  exact ⟨_, rfl, close_vars laidOut readables (by kernel_rfl) Tryd.underlying4 rfl rfl hW' hb⟩

end Go.Proofs.YtcbbabepjfiigaaDoor.lawSameFolded
