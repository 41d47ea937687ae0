/-
  THE LAW FnExactMayMeet: for all rules and garments the law returns true: the program tells what the model tells, and its code. No condition but that the package's errors are what the program's text lays.
-/
import Derived.Test.YtechjcplaaagfaaDoorMay
import Derived.Test.YtechjcplaaagfaaDoorOpenS
import Derived.Test.YtechjcplaaagfaaDoorClose
import Derived.Test.YtechjcplaaagfaaDoorLaid
import Derived.Test.YtechjcplaaagfaaDoorCards
import Derived.Test.YtechjcplaaagfaaDoorTie
namespace Go.Proofs.YtechjcplaaagfaaDoor.lawMayMeet
open Go.ChangeShapes Go.WideShapes Go.ChangeAt Go.RowKit Go.Joins garS errs meet

theorem MayMeet_at (r : Nat → Int) (hr : Six r) (a b : Gar) (ha : a.Fits) (hb : b.Fits) {w x : World} {e : Nat → Addr} (hS : MS r a b w w.heap.size e x) (v : Value) (hv : mayV r a b = v) :
    Calls Tryd.prog 17 #[rulesV r, a.v, b.v] x fun o w' => o = .returned v ∧ Below x.heap.size x w' := by
  subst hv
  have hs := hS.boxes.size
  exact MayMeet_any r hr a b ha hb hS.errs (by omega)

theorem toGarment_parts (c n m g : Int) (w : World) :
    Calls Tryd.prog 16 #[.agg #[.int .u8 c, .int .i8 n, .int .i8 m, .int .i16 g]] w fun o w' => o = .returned (.agg #[.int .u8 c, .int .i8 n, .int .i8 m, .int .i16 g]) ∧ Below w.heap.size w w' :=
  garm.toGarment_any ⟨c, n, m, g⟩ w
theorem toRules_parts (r : Nat → Int) (w : World) :
    Calls Tryd.prog 15 #[.agg #[.int .u8 (r 0), .int .u8 (r 1), .int .u8 (r 2), .int .u8 (r 3), .int .u8 (r 4), .int .u8 (r 5)]] w fun o w' => o = .returned (rulesV r) ∧ Below w.heap.size w w' :=
  rules.toRules_any r w
theorem MayMeet_parts (r : Nat → Int) (hr : Six r) (a b : Gar) (ha : a.Fits) (hb : b.Fits) (v : Value) (hv : mayV r a b = v) (w : World) :
    Calls Tryd.prog 14 #[rulesV r, .agg #[.int .u8 a.c, .int .i8 a.n, .int .i8 a.m, .int .i16 a.g], .agg #[.int .u8 b.c, .int .i8 b.n, .int .i8 b.m, .int .i16 b.g]] w fun o w' => o = .returned v ∧ Below w.heap.size w w' := by
  subst hv
  exact MayMeet_spec r hr a b ha hb w

set_option maxRecDepth 100000 in
set_option maxHeartbeats 4000000 in
theorem walk (r : Nat → Int) (hr : Six r) (a b : Gar) (ha : a.Fits) (hb : b.Fits) (w : World) (e : Nat → Addr) (hE : Errs w w.heap.size e) :
    Calls Tryd.prog 3 #[rulesV r, a.v, b.v] w fun o w' => o = .returned (.bool true) ∧ Below w.heap.size w w' := by
  have S0 := Lib.hid (MS.new r a b 22 26 26 (Nat.le_refl _) hE)
  obtain ⟨p, q, hpq⟩ : ∃ p q, mayV r a b = .tuple #[.bool p, .int .i64 q] := ⟨_, _, rfl⟩
  have HP := Lib.hid hpq
  clear hE hpq
  go_enter Tryd.func3, Tryd.ntmps3
  go_wp2_with fail
  go_region_held3 (fun u => MS r a b w w.heap.size e u)
    (first | assumption | exact S0.out | exact MS.drewN (Nat.le_refl _) S0.out _ | exact MS.next (Nat.le_refl _) (by assumption) hb2)
    (first
      | (go_at_call 15; refine (toRules_parts r _).mono ?_; rintro o w2 ⟨rfl, hb2⟩)
      | (go_at_call 16; refine (toGarment_parts _ _ _ _ _).mono ?_; rintro o w2 ⟨rfl, hb2⟩)
      | (go_at_call 14; refine (MayMeet_parts r hr a b ha hb _ HP.out _).mono ?_; rintro o w2 ⟨rfl, hb2⟩)
      | fail)
  all_goals
    rename_i hS
    have S1 := Lib.hid hS
    go_wp2_with fail
    go_region_held3 (fun u => MS r a b w w.heap.size e u)
      (first | assumption | exact S1.out | exact MS.drewN (Nat.le_refl _) S1.out _ | exact MS.next (Nat.le_refl _) (by assumption) hb2)
      (first
        | (go_at_call 15; refine (toRules_parts r _).mono ?_; rintro o w2 ⟨rfl, hb2⟩)
        | (go_at_call 16; refine (toGarment_parts _ _ _ _ _).mono ?_; rintro o w2 ⟨rfl, hb2⟩)
        | (go_at_call 17; refine (MayMeet_at r hr a b ha hb (by assumption) _ HP.out).mono ?_; rintro o w2 ⟨rfl, hb2⟩)
        | fail)
    all_goals
      rename_i hS2
      have S2 := Lib.hid hS2
      clear hS2
      go_wp2_with fail
      go_ret
      exact ⟨rfl, S2.out.boxes.below⟩

theorem readables : ∀ t ∈ Tryd.f3.params.toList, Tryd.prog.readableRec t = true ∧ t < Tryd.prog.types.size := by
  rw [Tryd.params3]
  intro t ht
  simp only [List.mem_cons, List.not_mem_nil, or_false] at ht
  rcases ht with rfl | rfl | rfl <;> exact ⟨by kernel_rfl, of_decide_eq_true (by kernel_rfl)⟩

set_option maxRecDepth 100000 in
/-- what the row's list gives -/
theorem errsLaid {W : World} (h : laidMetH Tryd.prog Rows.fnExactMayMeetRow.laid W) : ∃ e, Errs W W.heap.size e := by
  rw [MakeChecks.laidMetH_plain _ _ _ (by kernel_rfl)] at h
  refine errs_of Rows.fnExactMayMeetRow.laid (fun i => i) h (by kernel_rfl) ?_ ?_ (fun i j _ _ h => h)
  · have hall : ((listOf Rows.fnExactMayMeetRow.laid).all fun x => match Tryd.prog.globalNamed x.1 with | some g => decide ((Tryd.prog.globals[g]?).map (·.type) = some 72) | none => false) = true := by kernel_rfl
    intro x hx
    have h1 := List.all_eq_true.1 hall x hx
    split at h1
    · rename_i g hg
      exact ⟨g, hg, of_decide_eq_true h1⟩
    · cases h1
  · have b0 : ((listOf Rows.fnExactMayMeetRow.laid)[0]?).bind (fun x => Tryd.prog.globalNamed x.1) = some (gvar 0) := by kernel_rfl
    have b1 : ((listOf Rows.fnExactMayMeetRow.laid)[1]?).bind (fun x => Tryd.prog.globalNamed x.1) = some (gvar 1) := by kernel_rfl
    have b2 : ((listOf Rows.fnExactMayMeetRow.laid)[2]?).bind (fun x => Tryd.prog.globalNamed x.1) = some (gvar 2) := by kernel_rfl
    have b3 : ((listOf Rows.fnExactMayMeetRow.laid)[3]?).bind (fun x => Tryd.prog.globalNamed x.1) = some (gvar 3) := by kernel_rfl
    have b4 : ((listOf Rows.fnExactMayMeetRow.laid)[4]?).bind (fun x => Tryd.prog.globalNamed x.1) = some (gvar 4) := by kernel_rfl
    have b5 : ((listOf Rows.fnExactMayMeetRow.laid)[5]?).bind (fun x => Tryd.prog.globalNamed x.1) = some (gvar 5) := by kernel_rfl
    have b6 : ((listOf Rows.fnExactMayMeetRow.laid)[6]?).bind (fun x => Tryd.prog.globalNamed x.1) = some (gvar 6) := by kernel_rfl
    intro i hi
    match i, hi with
    | 0, _ => exact b0
    | 1, _ => exact b1
    | 2, _ => exact b2
    | 3, _ => exact b3
    | 4, _ => exact b4
    | 5, _ => exact b5
    | 6, _ => exact b6

set_option maxRecDepth 100000 in
theorem contract (H : Type) (enc : TypeId × Value → H) (W : World) (base : Nat) (args : Array Value) (ds gs : List (DataW H)) (before : List MemPlace)
    (hval : ∀ (j : Nat) t v, Tryd.f3.params[j]? = some t → args[j]? = some v → Value.okWide Tryd.prog W .any base t v)
    (hW : DataW.Whole enc Tryd.prog Tryd.f3.params.toList Rows.fnExactMayMeetSpec.vars false W args.toList ds gs before) (hL : laidMetH Tryd.prog Rows.fnExactMayMeetRow.laid W) :
    Calls Tryd.prog 3 args W fun e W' => ∃ v, e = .returned v ∧ Rows.fnExactMayMeetSpec.post enc Tryd.prog Tryd.f3 false true false false W args v W' := by
  obtain ⟨ee, hE⟩ := errsLaid hL
  have hW' := hW
  obtain ⟨p, q, hA0, hV, rfl, hfz, hnd⟩ := hW
  have hA : DataW.TrodAll enc Tryd.prog W 0 (fun _ => true) true Tryd.f3.params.toList args.toList ds p := hA0
  rw [Tryd.params3] at hA hval
  clear hA0
  obtain ⟨v0, vs0, d0, ds0, p0, q0, hargs, rfl, rfl, h0, r0⟩ := trodAll_cons hA
  obtain ⟨v1, vs1, d1, ds1, p1, q1, rfl, rfl, rfl, h1, r1⟩ := trodAll_cons r0
  obtain ⟨v2, vs2, d2, ds2, p2, q2, rfl, rfl, rfl, h2, r2⟩ := trodAll_cons r1
  obtain ⟨rfl, rfl, rfl⟩ := trodAll_nil r2
  obtain rfl : args = #[v0, v1, v2] := by cases args; simp_all
  obtain ⟨z0, z1, z2, z3, z4, z5, z6, rfl⟩ := vars_of hV
  obtain ⟨r, hr, rfl⟩ := open_rules (hval 0 22 v0 rfl rfl) h0
  obtain ⟨a, ha, rfl⟩ := open_gar (hval 1 26 v1 rfl rfl) h1
  obtain ⟨b, hb, rfl⟩ := open_gar (hval 2 26 v2 rfl rfl) h2
  refine (walk r hr a b ha hb W ee hE).mono fun e W' ⟨he, hb⟩ => ?_
  subst he
  exact ⟨_, rfl, close_vars laidOut readables (by kernel_rfl) Tryd.underlying4 rfl rfl hW' hb⟩

end Go.Proofs.YtechjcplaaagfaaDoor.lawMayMeet
