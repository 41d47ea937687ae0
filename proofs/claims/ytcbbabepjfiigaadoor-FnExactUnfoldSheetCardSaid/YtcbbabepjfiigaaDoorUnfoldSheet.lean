/-
  THE LAW FnExactUnfoldSheet: for every sheet and every fold the law returns true: the program answers as the model does. No condition but that the package's errors are what the program's text lays.
-/
import Derived.Test.YtcbbabepjfiigaaDoorJoin13
import Derived.Test.YtcbbabepjfiigaaDoorSheOpen
import Derived.Test.YtcbbabepjfiigaaDoorClose
import Derived.Test.YtcbbabepjfiigaaDoorLaid
import Derived.Test.YtcbbabepjfiigaaDoorCards
import Derived.Test.YtcbbabepjfiigaaDoorTie
namespace Go.Proofs.YtcbbabepjfiigaaDoor.lawUnfoldSheet
open Go.ChangeShapes Go.WideShapes Go.ChangeAt Go.RowKit Go.Joins sl errs fold

set_option maxRecDepth 100000 in
set_option maxHeartbeats 2000000 in
theorem walk (x : She) (hx : x.Fits) (k : Int) (w : World) (e : Nat → Addr) (hE : Errs w w.heap.size e) :
    Calls Tryd.prog 7 #[x.v, .int .i64 k] w fun o w' => o = .returned (.bool true) ∧ Below w.heap.size w w' := by
  have S0 := Lib.hid (Box.new x.cells (Below.refl w.heap.size w) #[.int .i16 x.wide, .int .i16 x.high, .int .i16 x.lay] rfl 24)
  have hsp := UnfoldSheet_spec x hx k
  have him := fun (u : World) (hb : Below w.heap.size w u) => do_undone x hx k (hE.below hb) hb.size
  obtain ⟨r, hr⟩ : ∃ r, chgR undoR x k = r := ⟨_, rfl⟩
  rw [hr] at hsp him
  obtain ⟨⟨rp, rq, rl⟩, rc⟩ := r
  have HSP := Lib.hid hsp
  have HIM := Lib.hid him
  clear hr hsp him hE
  go_enter Tryd.func7, Tryd.ntmps7
  go_wp2_with fail
  refine (sheS.to_any x _).mono ?_
  rintro o w1 ⟨rfl, hb⟩
  have S1 := Lib.hid (S0.out.next hb)
  clear hb S0
  go_wp2_with fail
  refine (HSP.out _).mono ?_
  rintro o w2 ⟨rfl, hb⟩
  have S2 := Lib.hid ((S1.out.next hb).alloc (.cells #[.int .i16 rp, .int .i16 rq, .int .i16 rl] 25))
  have R2 := Lib.hid (Box.new (⟨rp, rq, rl⟩ : She).cells (Below.refl w2.heap.size w2) #[.int .i16 rp, .int .i16 rq, .int .i16 rl] rfl 25)
  clear hb S1
  have s0 := (S2.out).1 0 _ rfl
  have s1 := (S2.out).1 1 _ rfl
  have s2 := (S2.out).1 2 _ rfl
  go_wp2_with fail
  refine (sheS.to_any x _).mono ?_
  rintro o w3 ⟨rfl, hb⟩
  have S3 := Lib.hid (S2.out.next hb)
  have R3 := Lib.hid (R2.out.next hb)
  clear hb s0 s1 s2 S2 R2
  go_wp2_with fail
  refine (HIM.out _ S3.out.2.2).mono ?_
  rintro o w4 ⟨rfl, hb⟩
  have S4 := Lib.hid ((S3.out.next hb).alloc (.cells #[.int .i16 rp, .int .i16 rq, .int .i16 rl] 25))
  have R4 := Lib.hid ((R3.out.next hb).alloc (.cells #[.int .i16 rp, .int .i16 rq, .int .i16 rl] 25))
  clear hb S3 R3
  have s0 := (R4.out).1 0 _ rfl
  have s1 := (R4.out).1 1 _ rfl
  have s2 := (R4.out).1 2 _ rfl
  go_wp2_with fail
  refine (sheS.eq_any ⟨rp, rq, rl⟩ ⟨rp, rq, rl⟩ _).mono ?_
  rintro o w5 ⟨rfl, hb⟩
  rw [(She.eq_iff _ _).2 rfl]
  have S5 := Lib.hid (S4.out.next hb)
  clear hb s0 s1 s2 S4 R4
  go_wp2_with fail
  go_ret
  exact ⟨rfl, S5.out.2.2⟩

theorem readables : ∀ t ∈ Tryd.f7.params.toList, Tryd.prog.readableRec t = true ∧ t < Tryd.prog.types.size := by
  rw [Tryd.params7]
  intro t ht
  simp only [List.mem_cons, List.not_mem_nil, or_false] at ht
  rcases ht with rfl | rfl <;> exact ⟨by kernel_rfl, of_decide_eq_true (by kernel_rfl)⟩

set_option maxRecDepth 100000 in
/-- what the row's list gives -/
theorem errsLaid {W : World} (h : laidMetH Tryd.prog Rows.fnExactUnfoldSheetRow.laid W) : ∃ e, Errs W W.heap.size e := by
  rw [MakeChecks.laidMetH_plain _ _ _ (by kernel_rfl)] at h
  refine errs_of Rows.fnExactUnfoldSheetRow.laid (fun i => i) h (by kernel_rfl) ?_ ?_ (fun i j _ _ h => h)
  · have hall : ((listOf Rows.fnExactUnfoldSheetRow.laid).all fun x => match Tryd.prog.globalNamed x.1 with | some g => decide ((Tryd.prog.globals[g]?).map (·.type) = some 65) | none => false) = true := by kernel_rfl
    intro x hx
    have h1 := List.all_eq_true.1 hall x hx
    split at h1
    · rename_i g hg
      exact ⟨g, hg, of_decide_eq_true h1⟩
    · cases h1
  · have b0 : ((listOf Rows.fnExactUnfoldSheetRow.laid)[0]?).bind (fun x => Tryd.prog.globalNamed x.1) = some (gvar 0) := by kernel_rfl
    have b1 : ((listOf Rows.fnExactUnfoldSheetRow.laid)[1]?).bind (fun x => Tryd.prog.globalNamed x.1) = some (gvar 1) := by kernel_rfl
    have b2 : ((listOf Rows.fnExactUnfoldSheetRow.laid)[2]?).bind (fun x => Tryd.prog.globalNamed x.1) = some (gvar 2) := by kernel_rfl
    have b3 : ((listOf Rows.fnExactUnfoldSheetRow.laid)[3]?).bind (fun x => Tryd.prog.globalNamed x.1) = some (gvar 3) := by kernel_rfl
    have b4 : ((listOf Rows.fnExactUnfoldSheetRow.laid)[4]?).bind (fun x => Tryd.prog.globalNamed x.1) = some (gvar 4) := by kernel_rfl
    have b5 : ((listOf Rows.fnExactUnfoldSheetRow.laid)[5]?).bind (fun x => Tryd.prog.globalNamed x.1) = some (gvar 5) := by kernel_rfl
    have b6 : ((listOf Rows.fnExactUnfoldSheetRow.laid)[6]?).bind (fun x => Tryd.prog.globalNamed x.1) = some (gvar 6) := by kernel_rfl
    intro i hi
    match i, hi with
    | 0, _ => exact b0
    | 1, _ => exact b1
    | 2, _ => exact b2
    | 3, _ => exact b3
    | 4, _ => exact b4
    | 5, _ => exact b5
    | 6, _ => exact b6

set_option maxRecDepth 100000 in
theorem contract (H : Type) (enc : TypeId × Value → H) (W : World) (base : Nat) (args : Array Value) (ds gs : List (DataW H)) (before : List MemPlace)
    (hval : ∀ (j : Nat) t v, Tryd.f7.params[j]? = some t → args[j]? = some v → Value.okWide Tryd.prog W .any base t v)
    (hW : DataW.Whole enc Tryd.prog Tryd.f7.params.toList Rows.fnExactUnfoldSheetSpec.vars false W args.toList ds gs before) (hL : laidMetH Tryd.prog Rows.fnExactUnfoldSheetRow.laid W) :
    Calls Tryd.prog 7 args W fun e W' => ∃ v, e = .returned v ∧ Rows.fnExactUnfoldSheetSpec.post enc Tryd.prog Tryd.f7 false true false false W args v W' := by
  obtain ⟨ee, hE⟩ := errsLaid hL
  have hW' := hW
  obtain ⟨p, q, hA0, hV, rfl, hfz, hnd⟩ := hW
  have hA : DataW.TrodAll enc Tryd.prog W 0 (fun _ => true) true Tryd.f7.params.toList args.toList ds p := hA0
  rw [Tryd.params7] at hA hval
  clear hA0
  obtain ⟨v0, vs0, d0, ds0, p0, q0, hargs, rfl, rfl, h0, r0⟩ := trodAll_cons hA
  obtain ⟨v1, vs1, d1, ds1, p1, q1, rfl, rfl, rfl, h1, r1⟩ := trodAll_cons r0
  obtain ⟨rfl, rfl, rfl⟩ := trodAll_nil r1
  obtain rfl : args = #[v0, v1] := by cases args; simp_all
  obtain ⟨z0, z1, z2, z3, z4, z5, z6, rfl⟩ := vars_of hV
  obtain ⟨x, hx, rfl⟩ := sheS.open_one (hval 0 24 v0 rfl rfl) h0
  obtain ⟨k, rfl, rfl, rfl, _⟩ := open_int Tryd.underlying2 (hval 1 2 v1 rfl rfl) h1
  refine (walk x hx k W ee hE).mono fun e W' ⟨he, hb⟩ => ?_
  subst he
  exact ⟨_, rfl, close_vars laidOut readables (by kernel_rfl) Tryd.underlying4 rfl rfl hW' hb⟩

end Go.Proofs.YtcbbabepjfiigaaDoor.lawUnfoldSheet
