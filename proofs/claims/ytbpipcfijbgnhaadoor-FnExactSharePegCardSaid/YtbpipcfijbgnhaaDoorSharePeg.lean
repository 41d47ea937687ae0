/-
  THE LAW FnExactSharePeg: for all two cloths the law returns true: the program tells whether they share a peg as the model does, and its code. No condition but that the package's errors are what the program's text lays.
-/
import Derived.Test.YtbpipcfijbgnhaaDoorCShare
import Derived.Test.YtbpipcfijbgnhaaDoorCloOpen
import Derived.Test.YtbpipcfijbgnhaaDoorClose
import Derived.Test.YtbpipcfijbgnhaaDoorLaid
import Derived.Test.YtbpipcfijbgnhaaDoorCards
import Derived.Test.YtbpipcfijbgnhaaDoorTie
namespace Go.Proofs.YtbpipcfijbgnhaaDoor.lawSharePeg
open Go.ChangeShapes Go.WideShapes Go.ChangeAt Go.RowKit Go.Joins sl errs hang

theorem spec_parts (a b : Clo) (ha : a.Fits) (hb : b.Fits) (v : Value) (hv : shareV a b = v) (w : World) :
    Calls Tryd.prog 13 #[.agg #[.int .i16 a.wide, .int .i16 a.heavy], .agg #[.int .i16 b.wide, .int .i16 b.heavy]] w fun o w' => o = .returned v ∧ Below w.heap.size w w' := by
  subst hv
  exact SharePeg_spec a b ha hb w
theorem any_parts (a b : Clo) (ha : a.Fits) (hb : b.Fits) (v : Value) (hv : shareV a b = v) {w u : World} {e : Nat → Addr} (h : Errs w w.heap.size e) (hu : TwoP a b w u) :
    Calls Tryd.prog 15 #[.agg #[.int .i16 a.wide, .int .i16 a.heavy], .agg #[.int .i16 b.wide, .int .i16 b.heavy]] u fun o w' => o = .returned v ∧ Below u.heap.size u w' := by
  subst hv
  exact SharePeg_any a b ha hb (h.below hu.s.b) hu.s.b.size

set_option maxRecDepth 100000 in
set_option maxHeartbeats 4000000 in
theorem walk (a b : Clo) (ha : a.Fits) (hb : b.Fits) (w : World) (e : Nat → Addr) (hE : Errs w w.heap.size e) :
    Calls Tryd.prog 3 #[a.v, b.v] w fun o w' => o = .returned (.bool true) ∧ Below w.heap.size w w' := by
  have S0 := Lib.hid (TwoS.new a b w 24 24)
  have HE := Lib.hid hE
  obtain ⟨p, q, hpq⟩ : ∃ p q, shareV a b = tupB (p, q) := ⟨_, _, rfl⟩
  have HP := Lib.hid hpq
  clear hpq hE
  go_enter Tryd.func3, Tryd.ntmps3
  go_wp2_with fail
  go_region_held3 (fun u => TwoP a b w u)
    (first | assumption | exact S0.out.p | exact (S0.out.drewN _).p | exact ((by assumption : TwoP a b w _).s.next hb2).p)
    (first
      | (go_at_call 14; refine (cloS.to_parts _ _ _).mono ?_; rintro o w2 ⟨rfl, hb2⟩)
      | (go_at_call 13; refine (spec_parts a b ha hb _ HP.out _).mono ?_; rintro o w2 ⟨rfl, hb2⟩)
      | fail)
  all_goals
    rename_i hS
    have S1 := Lib.hid hS.s
    go_wp2_with fail
    go_region_held3 (fun u => TwoP a b w u)
      (first | assumption | exact S1.out.p | exact (S1.out.drewN _).p | exact ((by assumption : TwoP a b w _).s.next hb2).p)
      (first
        | (go_at_call 14; refine (cloS.to_parts _ _ _).mono ?_; rintro o w2 ⟨rfl, hb2⟩)
        | (go_at_call 15; refine (any_parts a b ha hb _ HP.out HE.out (by assumption)).mono ?_; rintro o w2 ⟨rfl, hb2⟩)
        | fail)
    all_goals
      rename_i hS2
      have S2 := Lib.hid hS2.s
      clear hS2 hS
      go_wp2_with fail
      go_ret
      exact ⟨rfl, S2.out.b⟩

theorem readables : ∀ t ∈ Tryd.f3.params.toList, Tryd.prog.readableRec t = true ∧ t < Tryd.prog.types.size := by
  rw [Tryd.params3]
  intro t ht
  simp only [List.mem_cons, List.not_mem_nil, or_false] at ht
  rcases ht with rfl | rfl <;> exact ⟨by kernel_rfl, of_decide_eq_true (by kernel_rfl)⟩

set_option maxRecDepth 100000 in
/-- what the row's list gives -/
theorem errsLaid {W : World} (h : laidMetH Tryd.prog Rows.fnExactSharePegRow.laid W) : ∃ e, Errs W W.heap.size e := by
  rw [MakeChecks.laidMetH_plain _ _ _ (by kernel_rfl)] at h
  refine errs_of Rows.fnExactSharePegRow.laid (fun i => i) h (by kernel_rfl) ?_ ?_ (fun i j _ _ h => h)
  · have hall : ((listOf Rows.fnExactSharePegRow.laid).all fun x => match Tryd.prog.globalNamed x.1 with | some g => decide ((Tryd.prog.globals[g]?).map (·.type) = some 69) | none => false) = true := by kernel_rfl
    intro x hx
    have h1 := List.all_eq_true.1 hall x hx
    split at h1
    · rename_i g hg
      exact ⟨g, hg, of_decide_eq_true h1⟩
    · cases h1
  · have b0 : ((listOf Rows.fnExactSharePegRow.laid)[0]?).bind (fun x => Tryd.prog.globalNamed x.1) = some (gvar 0) := by kernel_rfl
    have b1 : ((listOf Rows.fnExactSharePegRow.laid)[1]?).bind (fun x => Tryd.prog.globalNamed x.1) = some (gvar 1) := by kernel_rfl
    have b2 : ((listOf Rows.fnExactSharePegRow.laid)[2]?).bind (fun x => Tryd.prog.globalNamed x.1) = some (gvar 2) := by kernel_rfl
    have b3 : ((listOf Rows.fnExactSharePegRow.laid)[3]?).bind (fun x => Tryd.prog.globalNamed x.1) = some (gvar 3) := by kernel_rfl
    have b4 : ((listOf Rows.fnExactSharePegRow.laid)[4]?).bind (fun x => Tryd.prog.globalNamed x.1) = some (gvar 4) := by kernel_rfl
    have b5 : ((listOf Rows.fnExactSharePegRow.laid)[5]?).bind (fun x => Tryd.prog.globalNamed x.1) = some (gvar 5) := by kernel_rfl
    have b6 : ((listOf Rows.fnExactSharePegRow.laid)[6]?).bind (fun x => Tryd.prog.globalNamed x.1) = some (gvar 6) := by kernel_rfl
    intro i hi
    match i, hi with
    | 0, _ => exact b0
    | 1, _ => exact b1
    | 2, _ => exact b2
    | 3, _ => exact b3
    | 4, _ => exact b4
    | 5, _ => exact b5
    | 6, _ => exact b6

set_option maxRecDepth 100000 in
theorem contract (H : Type) (enc : TypeId × Value → H) (W : World) (base : Nat) (args : Array Value) (ds gs : List (DataW H)) (before : List MemPlace)
    (hval : ∀ (j : Nat) t v, Tryd.f3.params[j]? = some t → args[j]? = some v → Value.okWide Tryd.prog W .any base t v)
    (hW : DataW.Whole enc Tryd.prog Tryd.f3.params.toList Rows.fnExactSharePegSpec.vars false W args.toList ds gs before) (hL : laidMetH Tryd.prog Rows.fnExactSharePegRow.laid W) :
    Calls Tryd.prog 3 args W fun e W' => ∃ v, e = .returned v ∧ Rows.fnExactSharePegSpec.post enc Tryd.prog Tryd.f3 false true false false W args v W' := by
  obtain ⟨ee, hE⟩ := errsLaid hL
  have hW' := hW
  obtain ⟨p, q, hA0, hV, rfl, hfz, hnd⟩ := hW
  have hA : DataW.TrodAll enc Tryd.prog W 0 (fun _ => true) true Tryd.f3.params.toList args.toList ds p := hA0
  rw [Tryd.params3] at hA hval
  clear hA0
  obtain ⟨v0, vs0, d0, ds0, p0, q0, hargs, rfl, rfl, h0, r0⟩ := trodAll_cons hA
  obtain ⟨v1, vs1, d1, ds1, p1, q1, rfl, rfl, rfl, h1, r1⟩ := trodAll_cons r0
  obtain ⟨rfl, rfl, rfl⟩ := trodAll_nil r1
  obtain rfl : args = #[v0, v1] := by cases args; simp_all
  obtain ⟨z0, z1, z2, z3, z4, z5, z6, rfl⟩ := vars_of hV
  obtain ⟨a, ha, rfl⟩ := cloS.open_one (hval 0 24 v0 rfl rfl) h0
  obtain ⟨b, hb, rfl⟩ := cloS.open_one (hval 1 24 v1 rfl rfl) h1
  refine (walk a b ha hb W ee hE).mono fun e W' ⟨he, hb⟩ => ?_
  subst he
  exact ⟨_, rfl, close_vars laidOut readables (by kernel_rfl) Tryd.underlying4 rfl rfl hW' hb⟩

end Go.Proofs.YtbpipcfijbgnhaaDoor.lawSharePeg
