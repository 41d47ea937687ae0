/-
  THE LAW FnExactChangeTime: for every iron and every two levels the law returns true: the program answers as the model does, changes no argument. No condition but that the package's errors are what the program's text lays.
-/
import Derived.Test.YtajhdgoinghmmaaDoorJoin12
import Derived.Test.YtajhdgoinghmmaaDoorIroOpen
import Derived.Test.YtajhdgoinghmmaaDoorJoin11
import Derived.Test.YtajhdgoinghmmaaDoorOpenWords
import Derived.Test.YtajhdgoinghmmaaDoorClose
import Derived.Test.YtajhdgoinghmmaaDoorLaid
import Derived.Test.YtajhdgoinghmmaaDoorCards
import Derived.Test.YtajhdgoinghmmaaDoorTie
import Derived.ProofKit
import Derived.OpenShut
import Derived.Lib.SmallJoins
namespace Go.Proofs.YtajhdgoinghmmaaDoor.lawChangeTime
open Go.ChangeShapes Go.WideShapes Go.ChangeAt Go.RowKit Go.Joins sl errs iron 

set_option maxRecDepth 100000 in
set_option maxHeartbeats 8000000 in
theorem walk (x : Iro) (hx : x.Fits) (a : Int) (b : Int) (w : World) (e : Nat → Addr) (hE : Errs w w.heap.size e)  :
    Calls Tryd.prog 3 #[x.v, .int .i64 a, .int .i64 b] w fun o w' => o = .returned (.bool true) ∧ Below w.heap.size w w' := by
  obtain ⟨r0, r1, hr⟩ : ∃ r0 r1, chgR x a b = (r0, r1) := ⟨_, _, rfl⟩
  have HR := Lib.hid hr
  have HE := Lib.hid hE
  have S0 := Lib.hid (HotS.new x w 24)
  clear hr hE 
  have c0 := S0.out.c0
  have c1 := S0.out.c1
  go_enter Tryd.func3, Tryd.ntmps3
  go_wp2_with fail
  refine (iroS.to_any x _).mono ?_
  rintro o u ⟨rfl, hb⟩
  clear c0 c1
  have z1 := hb.size
  have S1 := Lib.hid (S0.out.next hb)
  clear hb S0
  go_wp2_with fail
  refine (ChangeTime_spec x hx a b r0 r1 HR.out _ ).mono ?_
  rintro o u ⟨rfl, hb⟩
  have z2 := hb.size
  have S2 := Lib.hid (S1.out.next hb)
  clear hb S1
  have c0 := S2.out.c0
  have c1 := S2.out.c1
  go_wp2_with fail
  refine (iroS.to_any x _).mono ?_
  rintro o u ⟨rfl, hb⟩
  clear c0 c1
  have z3 := hb.size
  have S3 := Lib.hid (S2.out.next hb)
  clear hb S2
  go_wp2_with fail
  refine (ChangeTime_any x hx a b r0 r1 HR.out (HE.out.below S3.out.b) S3.out.b.size ).mono ?_
  rintro o u ⟨rfl, hb⟩
  have z4 := hb.size
  have S4 := Lib.hid (S3.out.next hb)
  clear hb S3
  go_wp2_with fail
  go_ret
  exact ⟨rfl, S4.out.b⟩

theorem readables : ∀ t ∈ Tryd.f3.params.toList, Tryd.prog.readableRec t = true ∧ t < Tryd.prog.types.size := by
  rw [Tryd.params3]
  intro t ht
  simp only [List.mem_cons, List.not_mem_nil, or_false] at ht
  rcases ht with rfl | rfl | rfl <;> exact ⟨by kernel_rfl, of_decide_eq_true (by kernel_rfl)⟩

set_option maxRecDepth 100000 in
/-- what the row's list gives -/
theorem errsLaid {W : World} (h : laidMetH Tryd.prog Rows.fnExactChangeTimeRow.laid W) : ∃ e, Errs W W.heap.size e := by
  rw [MakeChecks.laidMetH_plain _ _ _ (by kernel_rfl)] at h
  refine errs_of Rows.fnExactChangeTimeRow.laid (fun i => i) h (by kernel_rfl) ?_ ?_ (fun i j _ _ h => h)
  · have hall : ((listOf Rows.fnExactChangeTimeRow.laid).all fun x => match Tryd.prog.globalNamed x.1 with | some g => decide ((Tryd.prog.globals[g]?).map (·.type) = some 55) | none => false) = true := by kernel_rfl
    intro x hx
    have h1 := List.all_eq_true.1 hall x hx
    split at h1
    · rename_i g hg
      exact ⟨g, hg, of_decide_eq_true h1⟩
    · cases h1
  · have b0 : ((listOf Rows.fnExactChangeTimeRow.laid)[0]?).bind (fun x => Tryd.prog.globalNamed x.1) = some (gvar 0) := by kernel_rfl
    have b1 : ((listOf Rows.fnExactChangeTimeRow.laid)[1]?).bind (fun x => Tryd.prog.globalNamed x.1) = some (gvar 1) := by kernel_rfl
    have b2 : ((listOf Rows.fnExactChangeTimeRow.laid)[2]?).bind (fun x => Tryd.prog.globalNamed x.1) = some (gvar 2) := by kernel_rfl
    have b3 : ((listOf Rows.fnExactChangeTimeRow.laid)[3]?).bind (fun x => Tryd.prog.globalNamed x.1) = some (gvar 3) := by kernel_rfl
    have b4 : ((listOf Rows.fnExactChangeTimeRow.laid)[4]?).bind (fun x => Tryd.prog.globalNamed x.1) = some (gvar 4) := by kernel_rfl
    have b5 : ((listOf Rows.fnExactChangeTimeRow.laid)[5]?).bind (fun x => Tryd.prog.globalNamed x.1) = some (gvar 5) := by kernel_rfl
    have b6 : ((listOf Rows.fnExactChangeTimeRow.laid)[6]?).bind (fun x => Tryd.prog.globalNamed x.1) = some (gvar 6) := by kernel_rfl
    intro i hi
    match i, hi with
    | 0, _ => exact b0
    | 1, _ => exact b1
    | 2, _ => exact b2
    | 3, _ => exact b3
    | 4, _ => exact b4
    | 5, _ => exact b5
    | 6, _ => exact b6

set_option maxRecDepth 100000 in
theorem contract (H : Type) (enc : TypeId × Value → H) (W : World) (base : Nat) (args : Array Value) (ds gs : List (DataW H)) (before : List MemPlace)
    (hval : ∀ (j : Nat) t v, Tryd.f3.params[j]? = some t → args[j]? = some v → Value.okWide Tryd.prog W .any base t v)
    (hW : DataW.Whole enc Tryd.prog Tryd.f3.params.toList Rows.fnExactChangeTimeSpec.vars false W args.toList ds gs before) (hL : laidMetH Tryd.prog Rows.fnExactChangeTimeRow.laid W) :
    Calls Tryd.prog 3 args W fun e W' => ∃ v, e = .returned v ∧ Rows.fnExactChangeTimeSpec.post enc Tryd.prog Tryd.f3 false true false false W args v W' := by
  obtain ⟨ee, hE⟩ := errsLaid hL
  have hW' := hW
  obtain ⟨p, q, hA0, hV, rfl, hfz, hnd⟩ := hW
  have hA : DataW.TrodAll enc Tryd.prog W 0 (fun _ => true) true Tryd.f3.params.toList args.toList ds p := hA0
  rw [Tryd.params3] at hA hval
  clear hA0
  obtain ⟨v0, vs0, d0, ds0, p0, q0, hargs, rfl, rfl, h0, r0⟩ := trodAll_cons hA
  obtain ⟨v1, vs1, d1, ds1, p1, q1, rfl, rfl, rfl, h1, r1⟩ := trodAll_cons r0
  obtain ⟨v2, vs2, d2, ds2, p2, q2, rfl, rfl, rfl, h2, r2⟩ := trodAll_cons r1
  obtain ⟨rfl, rfl, rfl⟩ := trodAll_nil r2
  obtain rfl : args = #[v0, v1, v2] := by cases args; simp_all
  obtain ⟨z0, z1, z2, z3, z4, z5, z6, rfl⟩ := vars_of hV
  obtain ⟨x, hx, rfl⟩ := iroS.open_one (hval 0 24 v0 rfl rfl) h0
  obtain ⟨a, rfl, rfl, rfl, _⟩ := open_int Tryd.underlying2 (hval 1 2 v1 rfl rfl) h1
  obtain ⟨b, rfl, rfl, rfl, _⟩ := open_int Tryd.underlying2 (hval 2 2 v2 rfl rfl) h2
  have walk : Calls Tryd.prog 3 #[x.v, .int .i64 a, .int .i64 b] W fun e W' => e = .returned (.bool true) ∧ Below W.heap.size W W' := by
    exact walk x hx a b W ee hE 
  refine walk.mono fun e W' ⟨he, hb⟩ => ?_
  subst he
  exact ⟨_, rfl, close_vars laidOut readables (by kernel_rfl) Tryd.underlying4 rfl rfl hW' hb⟩

end Go.Proofs.YtajhdgoinghmmaaDoor.lawChangeTime
