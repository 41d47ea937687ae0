/-
  THE LAW FnExactSagOf: for every line and every list of cloths the law returns true: the program answers as the model does, and changes no cloth. No condition but that the package's errors are what the program's text lays.
-/
import Derived.Test.YtbpipcfijbgnhaaDoorCSagOf
import Derived.Test.YtbpipcfijbgnhaaDoorCloOpen
import Derived.Test.YtbpipcfijbgnhaaDoorLinOpen
import Derived.Test.YtbpipcfijbgnhaaDoorClose
import Derived.Test.YtbpipcfijbgnhaaDoorLaid
import Derived.Test.YtbpipcfijbgnhaaDoorCards
import Derived.Test.YtbpipcfijbgnhaaDoorTie
namespace Go.Proofs.YtbpipcfijbgnhaaDoor.lawSagOf
open Go.ChangeShapes Go.WideShapes Go.ChangeAt Go.RowKit Go.Joins sl errs hang

set_option maxRecDepth 100000 in
set_option maxHeartbeats 4000000 in
theorem walk_fits (l : Lin) (hl : l.Fits) (A : Option Addr) (n c : Nat) (xs : List Clo) (en : n = xs.length) (hn : n ≤ 1048576) (hf : ∀ x ∈ xs, x.Fits) (w : World) (e : Nat → Addr) (hE : Errs w w.heap.size e) (hg : Sl Clo.cells 2 w w.heap.size A xs) :
    Calls Tryd.prog 9 #[l.v, .slice A n c] w fun o w' => o = .returned (.bool true) ∧ Below w.heap.size w w' := by
  have En := Lib.hid en
  subst en
  have S0 := Lib.hid (FitS.new l w 45)
  have c0 := S0.out.c0
  have c1 := S0.out.c1
  go_enter Tryd.func9, Tryd.ntmps9
  go_wp2_with fail
  refine (cloS.szS_any A xs.length c 1048576 (by omega) (by omega) _).mono ?_
  rintro o w1 ⟨rfl, rfl⟩
  rw [if_neg (by omega)]
  go_wp2_with fail
  refine (linS.to_any l _).mono ?_
  rintro o w2 ⟨rfl, hb2⟩
  have S2 := Lib.hid (S0.out.next hb2)
  clear c0 c1 S0 hb2
  go_wp2_with fail
  refine (cloS.toS_any A c xs hn _ ((hg.below S2.out.b).more S2.out.b.size)).mono ?_
  rintro o w3 ⟨g3, rfl, P3, hb3⟩
  have T3 := Sl.of_owns P3 (Clo.len xs) (by decide)
  have S3 := Lib.hid (S2.out.next hb3)
  clear P3 hb3 S2
  go_wp2_with fail
  refine (SagOf_spec l hl (some ⟨g3, 0, none⟩) xs.length xs.length xs rfl hn hf _ T3).mono ?_
  rintro o w4 ⟨rfl, hb4⟩
  have S4 := Lib.hid (S3.out.next hb4)
  clear T3 hb4 S3
  go_wp2_with fail
  refine (cloS.toS_any A c xs hn _ ((hg.below S4.out.b).more S4.out.b.size)).mono ?_
  rintro o w5 ⟨g5, rfl, P5, hb5⟩
  have T5 := Sl.of_owns P5 (Clo.len xs) (by decide)
  have S5 := Lib.hid (S4.out.next hb5)
  have c0 := S5.out.c0
  have c1 := S5.out.c1
  clear P5 hb5 S4
  go_wp2_with fail
  refine (linS.to_any l _).mono ?_
  rintro o w6 ⟨rfl, hb6⟩
  have S6 := Lib.hid (S5.out.next hb6)
  have T6 := T5.next hb6
  clear c0 c1 hb6 T5 S5
  go_wp2_with fail
  refine (SagOf_any l hl (some ⟨g5, 0, none⟩) xs.length xs.length xs rfl hn hf (hE.below S6.out.b) S6.out.b.size T6).mono ?_
  rintro o w7 ⟨rfl, hb7⟩
  have S7 := Lib.hid (S6.out.next hb7)
  have T7 := T6.next hb7
  clear hb7 T6 S6
  go_wp2_with fail
  refine (cloS.toS_any A c xs hn _ ((hg.below S7.out.b).more S7.out.b.size)).mono ?_
  rintro o w8 ⟨g8, rfl, P8, hb8⟩
  have T8 := Sl.of_owns P8 (Clo.len xs) (by decide)
  have S8 := Lib.hid (S7.out.next hb8)
  have T9 := T7.next hb8
  clear P8 hb8 T7 S7
  go_wp2_with fail
  refine (cloS.eqS_any (some ⟨g5, 0, none⟩) (some ⟨g8, 0, none⟩) xs.length xs.length xs.length xs.length xs xs rfl rfl hn (by omega) _ T9 T8 true (by simp)).mono ?_
  rintro o w10 ⟨rfl, hb10⟩
  have S10 := Lib.hid (S8.out.next hb10)
  clear hb10 S8
  go_wp2_with fail
  go_ret
  exact ⟨rfl, S10.out.b⟩

set_option maxHeartbeats 1000000 in
theorem walk_long (l : Lin) (A : Option Addr) (n c : Nat) (hm : n ≤ 9223372036854775807) (hn : 1048576 < n) (w : World) :
    Calls Tryd.prog 9 #[l.v, .slice A n c] w fun e w' => e = .returned (.bool true) ∧ Below w.heap.size w w' := by
  have S0 := Lib.hid (FitS.new l w 45)
  go_enter Tryd.func9, Tryd.ntmps9
  go_wp2_with fail
  refine (cloS.szS_any A n c 1048576 hm (by omega) _).mono ?_
  rintro o w1 ⟨rfl, rfl⟩
  rw [if_pos (by omega)]
  go_wp2_with fail
  go_ret
  exact ⟨rfl, S0.out.b⟩

theorem readables : ∀ t ∈ Tryd.f9.params.toList, Tryd.prog.readableRec t = true ∧ t < Tryd.prog.types.size := by
  rw [Tryd.params9]
  intro t ht
  simp only [List.mem_cons, List.not_mem_nil, or_false] at ht
  rcases ht with rfl | rfl <;> exact ⟨by kernel_rfl, of_decide_eq_true (by kernel_rfl)⟩

set_option maxRecDepth 100000 in
/-- what the row's list gives -/
theorem errsLaid {W : World} (h : laidMetH Tryd.prog Rows.fnExactSagOfRow.laid W) : ∃ e, Errs W W.heap.size e := by
  rw [MakeChecks.laidMetH_plain _ _ _ (by kernel_rfl)] at h
  refine errs_of Rows.fnExactSagOfRow.laid (fun i => i) h (by kernel_rfl) ?_ ?_ (fun i j _ _ h => h)
  · have hall : ((listOf Rows.fnExactSagOfRow.laid).all fun x => match Tryd.prog.globalNamed x.1 with | some g => decide ((Tryd.prog.globals[g]?).map (·.type) = some 69) | none => false) = true := by kernel_rfl
    intro x hx
    have h1 := List.all_eq_true.1 hall x hx
    split at h1
    · rename_i g hg
      exact ⟨g, hg, of_decide_eq_true h1⟩
    · cases h1
  · have b0 : ((listOf Rows.fnExactSagOfRow.laid)[0]?).bind (fun x => Tryd.prog.globalNamed x.1) = some (gvar 0) := by kernel_rfl
    have b1 : ((listOf Rows.fnExactSagOfRow.laid)[1]?).bind (fun x => Tryd.prog.globalNamed x.1) = some (gvar 1) := by kernel_rfl
    have b2 : ((listOf Rows.fnExactSagOfRow.laid)[2]?).bind (fun x => Tryd.prog.globalNamed x.1) = some (gvar 2) := by kernel_rfl
    have b3 : ((listOf Rows.fnExactSagOfRow.laid)[3]?).bind (fun x => Tryd.prog.globalNamed x.1) = some (gvar 3) := by kernel_rfl
    have b4 : ((listOf Rows.fnExactSagOfRow.laid)[4]?).bind (fun x => Tryd.prog.globalNamed x.1) = some (gvar 4) := by kernel_rfl
    have b5 : ((listOf Rows.fnExactSagOfRow.laid)[5]?).bind (fun x => Tryd.prog.globalNamed x.1) = some (gvar 5) := by kernel_rfl
    have b6 : ((listOf Rows.fnExactSagOfRow.laid)[6]?).bind (fun x => Tryd.prog.globalNamed x.1) = some (gvar 6) := by kernel_rfl
    intro i hi
    match i, hi with
    | 0, _ => exact b0
    | 1, _ => exact b1
    | 2, _ => exact b2
    | 3, _ => exact b3
    | 4, _ => exact b4
    | 5, _ => exact b5
    | 6, _ => exact b6

set_option maxRecDepth 100000 in
theorem contract (H : Type) (enc : TypeId × Value → H) (W : World) (base : Nat) (args : Array Value) (ds gs : List (DataW H)) (before : List MemPlace)
    (hval : ∀ (j : Nat) t v, Tryd.f9.params[j]? = some t → args[j]? = some v → Value.okWide Tryd.prog W .any base t v)
    (hW : DataW.Whole enc Tryd.prog Tryd.f9.params.toList Rows.fnExactSagOfSpec.vars false W args.toList ds gs before) (hL : laidMetH Tryd.prog Rows.fnExactSagOfRow.laid W) :
    Calls Tryd.prog 9 args W fun e W' => ∃ v, e = .returned v ∧ Rows.fnExactSagOfSpec.post enc Tryd.prog Tryd.f9 false true false false W args v W' := by
  obtain ⟨ee, hE⟩ := errsLaid hL
  have hW' := hW
  obtain ⟨p, q, hA0, hV, rfl, hfz, hnd⟩ := hW
  have hA : DataW.TrodAll enc Tryd.prog W 0 (fun _ => true) true Tryd.f9.params.toList args.toList ds p := hA0
  rw [Tryd.params9] at hA hval
  clear hA0
  obtain ⟨v0, vs0, d0, ds0, p0, q0, hargs, rfl, rfl, h0, r0⟩ := trodAll_cons hA
  obtain ⟨v1, vs1, d1, ds1, p1, q1, rfl, rfl, rfl, h1, r1⟩ := trodAll_cons r0
  obtain ⟨rfl, rfl, rfl⟩ := trodAll_nil r1
  obtain rfl : args = #[v0, v1] := by cases args; simp_all
  obtain ⟨z0, z1, z2, z3, z4, z5, z6, rfl⟩ := vars_of hV
  obtain ⟨l, hl0, rfl⟩ := linS.open_one (hval 0 45 v0 rfl rfl) h0
  obtain ⟨A, c, xs, rfl, hl, hg, hf⟩ := cloS.open_many (hval 1 30 v1 rfl rfl) h1
  have walk : Calls Tryd.prog 9 #[l.v, .slice A xs.length c] W fun e W' => e = .returned (.bool true) ∧ Below W.heap.size W W' := by
    unfold maxLen at hl
    rcases Nat.lt_or_ge 1048576 xs.length with h | h
    · exact walk_long l A _ c hl h W
    · exact walk_fits l hl0 A _ c xs rfl h hf W ee hE hg
  refine walk.mono fun e W' ⟨he, hb⟩ => ?_
  subst he
  exact ⟨_, rfl, close_vars laidOut readables (by kernel_rfl) Tryd.underlying4 rfl rfl hW' hb⟩

end Go.Proofs.YtbpipcfijbgnhaaDoor.lawSagOf
