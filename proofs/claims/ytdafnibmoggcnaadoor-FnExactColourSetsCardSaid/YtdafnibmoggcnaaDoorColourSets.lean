/-
  THE LAW FnExactColourSets: for all rules: the law returns true: the program tells the sets of colours that the model tells, and what it returns is its own. No condition but that the package's errors are what the program's text lays.
-/
import Derived.Test.YtdafnibmoggcnaaDoorJoin21
import Derived.Test.YtdafnibmoggcnaaDoorOpen
import Derived.Test.YtdafnibmoggcnaaDoorClose
import Derived.Test.YtdafnibmoggcnaaDoorLaid
import Derived.Test.YtdafnibmoggcnaaDoorCards
import Derived.Test.YtdafnibmoggcnaaDoorTie
namespace Go.Proofs.YtdafnibmoggcnaaDoor.lawColourSets
open Go.ChangeShapes Go.WideShapes Go.ChangeAt Go.RowKit Go.Joins garS errs meet heats load mem sl col

theorem toRules_c (r : Nat → Int) (w : World) :
    Calls Tryd.prog 10 #[.agg #[.int .u8 (r 0), .int .u8 (r 1), .int .u8 (r 2), .int .u8 (r 3), .int .u8 (r 4), .int .u8 (r 5)]] w fun o w' => o = .returned (rulesV r) ∧ Below w.heap.size w w' := rules.toRules_any r w
set_option maxRecDepth 100000 in
set_option maxHeartbeats 8000000 in
theorem walk (r : Nat → Int) (hr : Six r) (w : World) (e : Nat → Addr) (hE : Errs w w.heap.size e) :
    Calls Tryd.prog 4 #[rulesV r] w fun o w' => o = .returned (.bool true) ∧ Below w.heap.size w w' := by
  obtain ⟨ys, code, hres⟩ : ∃ ys code, colR r = (ys, code) := ⟨_, _, rfl⟩
  have HR := Lib.hid hres
  have hys := colR_len hres
  have L0 : Hid (LS r w (w.alloc (.cells (rulesCs r) 22))) := Lib.hid ⟨SixAt.new r w 22, by simp, (Below.refl w.heap.size w).alloc (Nat.le_refl _) _⟩
  clear hres
  go_enter Tryd.func4, Tryd.ntmps4
  obtain ⟨⟨s0, s1, s2, s3, s4, s5⟩, _, _⟩ := L0.out
  go_wp2_with fail
  refine (toRules_c r _).mono ?_
  rintro o u ⟨rfl, hb⟩
  clear s0 s1 s2 s3 s4 s5
  have L1 := Lib.hid (L0.out.next hb)
  clear hb L0
  go_wp2_with fail
  refine (ColourSets_spec r hr ys code HR.out _).mono ?_
  rintro o u1 ⟨v, rfl, P, hb⟩
  obtain ⟨Aw, cw, rfl, _⟩ := owns_slice P
  have L2 := Lib.hid (L1.out.next hb)
  clear hb L1
  have LPW : Hid (∀ k, (Value.slice Aw ys.length cw).ownBlock = some k → k < u1.heap.size) := Lib.hid fun k hk => (P.lt k hk).2
  have PW := Lib.hid P
  clear P
  obtain ⟨⟨s0, s1, s2, s3, s4, s5⟩, _, _⟩ := L2.out
  go_wp2_with fail
  refine (toRules_c r _).mono ?_
  rintro o u ⟨rfl, hb⟩
  clear s0 s1 s2 s3 s4 s5
  have hz2 := hb.size
  have L3 := Lib.hid (L2.out.next hb)
  have PW_3 := Lib.hid (owns_next PW.out hb)
  clear hb L2 PW
  have hgw := L3.out.2.1
  go_wp2_with fail
  refine (ColourSets_any r hr ys code HR.out (hE.below L3.out.2.2) L3.out.2.2.size).mono ?_
  rintro o u3 ⟨v, rfl, P, hb⟩
  obtain ⟨Ag, cg, rfl, _⟩ := owns_slice P
  have LPG : Hid (∀ k, (Value.slice Ag ys.length cg).ownBlock = some k → u.heap.size ≤ k) := Lib.hid fun k hk => (P.lt k hk).1
  have L4 := Lib.hid (L3.out.next hb)
  have PW_4 := Lib.hid (owns_next PW_3.out hb)
  clear hb L3 PW_3
  have PG := Lib.hid P
  clear P
  go_wp2_with fail
  refine (bytS.eqS_any Ag Aw _ _ cg cw ys ys rfl rfl hys (by omega) _ (Sl.of_owns PG.out (bytS.len _) (by decide)) (Sl.of_owns PW_4.out (bytS.len _) (by decide)) true (by simp)).mono ?_
  rintro o u ⟨rfl, hb⟩
  have L5 := Lib.hid (L4.out.next hb)
  have PW_5 := Lib.hid (owns_next PW_4.out hb)
  have PG_5 := Lib.hid (owns_next PG.out hb)
  clear hb L4 PW_4 PG
  go_wp2_with fail
  refine (bytS.markS_anyZ _ _ _ 1 (by omega) hys _ _ PG_5.out).mono ?_
  rintro o u ⟨rfl, P, g9, hg9, hgr, _⟩
  have L6 := Lib.hid (LS_grow L5.out hgr (fun k hk => by obtain rfl := Option.some.inj hk; omega))
  have PW_6 := Lib.hid (owns_other PW_5.out hgr (fun k hk e => by have t := LPW.out k hk; omega))
  clear hgr L5 PW_5 PG_5
  have PM := Lib.hid P
  clear P
  have k2 : decide ((1 : Int) + (ys.length : Int) < 0) = false := by simp; omega
  go_wp2_with fail
  refine (bytS.heldS_anyZ Ag _ cg 1 (by omega) hys _ _ (Sl.of_owns PM.out (bytS.len _) (by decide))).mono ?_
  rintro o u ⟨rfl, rfl⟩
  obtain ⟨⟨s0, s1, s2, s3, s4, s5⟩, _, _⟩ := L6.out
  go_wp2_with fail
  refine (toRules_c r _).mono ?_
  rintro o u ⟨rfl, hb⟩
  clear s0 s1 s2 s3 s4 s5
  have L7 := Lib.hid (L6.out.next hb)
  have PW_7 := Lib.hid (owns_next PW_6.out hb)
  have PM_7 := Lib.hid (owns_next PM.out hb)
  clear hb L6 PW_6 PM
  go_wp2_with fail
  refine (ColourSets_any r hr ys code HR.out (hE.below L7.out.2.2) L7.out.2.2.size).mono ?_
  rintro o u ⟨v, rfl, P, hb⟩
  obtain ⟨Ah, ch, rfl, _⟩ := owns_slice P
  have L8 := Lib.hid (L7.out.next hb)
  have PW_8 := Lib.hid (owns_next PW_7.out hb)
  have PM_8 := Lib.hid (owns_next PM_7.out hb)
  clear hb L7 PW_7 PM_7
  have PH := Lib.hid P
  clear P
  go_wp2_with fail
  refine (bytS.eqS_any Ah Aw _ _ ch cw ys ys rfl rfl hys (by omega) _ (Sl.of_owns PH.out (bytS.len _) (by decide)) (Sl.of_owns PW_8.out (bytS.len _) (by decide)) true (by simp)).mono ?_
  rintro o u ⟨rfl, hb⟩
  have L9 := Lib.hid (L8.out.next hb)
  have PW_9 := Lib.hid (owns_next PW_8.out hb)
  have PM_9 := Lib.hid (owns_next PM_8.out hb)
  have PH_9 := Lib.hid (owns_next PH.out hb)
  clear hb L8 PW_8 PM_8 PH
  go_wp2_with fail
  refine (bytS.heldS_anyZ Ag _ cg 1 (by omega) hys _ _ (Sl.of_owns PM_9.out (bytS.len _) (by decide))).mono ?_
  rintro o u ⟨rfl, rfl⟩
  go_wp2_with fail
  go_ret
  exact ⟨rfl, L9.out.2.2⟩

theorem readables : ∀ t ∈ Tryd.f4.params.toList, Tryd.prog.readableRec t = true ∧ t < Tryd.prog.types.size := by
  rw [Tryd.params4]
  intro t ht
  simp only [List.mem_cons, List.not_mem_nil, or_false] at ht
  subst ht
  exact ⟨by kernel_rfl, of_decide_eq_true (by kernel_rfl)⟩

set_option maxRecDepth 100000 in
/-- what the row's list gives -/
theorem errsLaid {W : World} (h : laidMetH Tryd.prog Rows.fnExactColourSetsRow.laid W) : ∃ e, Errs W W.heap.size e := by
  rw [MakeChecks.laidMetH_plain _ _ _ (by kernel_rfl)] at h
  refine errs_of Rows.fnExactColourSetsRow.laid (fun i => i) h (by kernel_rfl) ?_ ?_ (fun i j _ _ h => h)
  · have hall : ((listOf Rows.fnExactColourSetsRow.laid).all fun x => match Tryd.prog.globalNamed x.1 with | some g => decide ((Tryd.prog.globals[g]?).map (·.type) = some 60) | none => false) = true := by kernel_rfl
    intro x hx
    have h1 := List.all_eq_true.1 hall x hx
    split at h1
    · rename_i g hg
      exact ⟨g, hg, of_decide_eq_true h1⟩
    · cases h1
  · have b0 : ((listOf Rows.fnExactColourSetsRow.laid)[0]?).bind (fun x => Tryd.prog.globalNamed x.1) = some (gvar 0) := by kernel_rfl
    have b1 : ((listOf Rows.fnExactColourSetsRow.laid)[1]?).bind (fun x => Tryd.prog.globalNamed x.1) = some (gvar 1) := by kernel_rfl
    have b2 : ((listOf Rows.fnExactColourSetsRow.laid)[2]?).bind (fun x => Tryd.prog.globalNamed x.1) = some (gvar 2) := by kernel_rfl
    have b3 : ((listOf Rows.fnExactColourSetsRow.laid)[3]?).bind (fun x => Tryd.prog.globalNamed x.1) = some (gvar 3) := by kernel_rfl
    have b4 : ((listOf Rows.fnExactColourSetsRow.laid)[4]?).bind (fun x => Tryd.prog.globalNamed x.1) = some (gvar 4) := by kernel_rfl
    have b5 : ((listOf Rows.fnExactColourSetsRow.laid)[5]?).bind (fun x => Tryd.prog.globalNamed x.1) = some (gvar 5) := by kernel_rfl
    have b6 : ((listOf Rows.fnExactColourSetsRow.laid)[6]?).bind (fun x => Tryd.prog.globalNamed x.1) = some (gvar 6) := by kernel_rfl
    intro i hi
    match i, hi with
    | 0, _ => exact b0
    | 1, _ => exact b1
    | 2, _ => exact b2
    | 3, _ => exact b3
    | 4, _ => exact b4
    | 5, _ => exact b5
    | 6, _ => exact b6

set_option maxRecDepth 100000 in
theorem contract (H : Type) (enc : TypeId × Value → H) (W : World) (base : Nat) (args : Array Value) (ds gs : List (DataW H)) (before : List MemPlace)
    (hval : ∀ (j : Nat) t v, Tryd.f4.params[j]? = some t → args[j]? = some v → Value.okWide Tryd.prog W .any base t v)
    (hW : DataW.Whole enc Tryd.prog Tryd.f4.params.toList Rows.fnExactColourSetsSpec.vars false W args.toList ds gs before) (hL : laidMetH Tryd.prog Rows.fnExactColourSetsRow.laid W) :
    Calls Tryd.prog 4 args W fun e W' => ∃ v, e = .returned v ∧ Rows.fnExactColourSetsSpec.post enc Tryd.prog Tryd.f4 false true false false W args v W' := by
  obtain ⟨ee, hE⟩ := errsLaid hL
  have hW' := hW
  obtain ⟨p, q, hA0, hV, rfl, hfz, hnd⟩ := hW
  have hA : DataW.TrodAll enc Tryd.prog W 0 (fun _ => true) true Tryd.f4.params.toList args.toList ds p := hA0
  rw [Tryd.params4] at hA hval
  clear hA0
  obtain ⟨v0, vs0, d0, ds0, p0, q0, hargs, rfl, rfl, h0, r0⟩ := trodAll_cons hA
  obtain ⟨rfl, rfl, rfl⟩ := trodAll_nil r0
  obtain rfl : args = #[v0] := by cases args; simp_all
  obtain ⟨z0, z1, z2, z3, z4, z5, z6, rfl⟩ := vars_of hV
  obtain ⟨r, hr, rfl⟩ := open_rules (hval 0 22 v0 rfl rfl) h0
  refine (walk r hr W ee hE).mono fun e W' ⟨he, hb⟩ => ?_
  subst he
  exact ⟨_, rfl, close_vars laidOut readables (by kernel_rfl) Tryd.underlying4 rfl rfl hW' hb⟩

end Go.Proofs.YtdafnibmoggcnaaDoor.lawColourSets
