/-
  THE LAW FnExactFoldsPossible: for every sheet the law returns true: the program answers as the model does, and what it returns is its own. No condition but that the package's errors are what the program's text lays.
-/
import Derived.Test.YtcbbabepjfiigaaDoorShePoss
import Derived.Test.YtcbbabepjfiigaaDoorJoin16
import Derived.Test.YtcbbabepjfiigaaDoorClose
import Derived.Test.YtcbbabepjfiigaaDoorLaid
import Derived.Test.YtcbbabepjfiigaaDoorCards
import Derived.Test.YtcbbabepjfiigaaDoorTie
namespace Go.Proofs.YtcbbabepjfiigaaDoor.lawFoldsPossible
open Go.ChangeShapes Go.WideShapes Go.ChangeAt Go.RowKit Go.Joins sl errs fold hang

set_option maxRecDepth 100000 in
set_option maxHeartbeats 8000000 in
theorem walk (x : She) (hx : x.Fits) (w : World) (e : Nat → Addr) (hE : Errs w w.heap.size e) :
    Calls Tryd.prog 5 #[x.v] w fun o w' => o = .returned (.bool true) ∧ Below w.heap.size w w' := by
  have S0 := Lib.hid (Box.new x.cells (Below.refl w.heap.size w) #[.int .i16 x.wide, .int .i16 x.high, .int .i16 x.lay] rfl 24)
  have HE := Lib.hid hE
  have hys := possR_len x
  have hsp := FoldsPossible_spec x hx
  have him := fun (u : World) (hb : Below w.heap.size w u) => FoldsPossible_any x hx (hE.below hb) hb.size
  obtain ⟨ys, hy⟩ : ∃ ys, possR x = ys := ⟨_, rfl⟩
  obtain ⟨k, hk⟩ : ∃ k, codeS x = k := ⟨_, rfl⟩
  rw [hy, hk] at hsp him
  rw [hy] at hys
  have HSP := Lib.hid hsp
  have HIM := Lib.hid him
  clear hy hk hsp him hE
  go_enter Tryd.func5, Tryd.ntmps5
  go_wp2_with fail
  refine (sheS.to_any x _).mono ?_
  rintro o u ⟨rfl, hb⟩
  have S1 := Lib.hid (S0.out.next hb)
  clear hb S0
  go_wp2_with fail
  refine (HSP.out _).mono ?_
  rintro o u1 ⟨v, rfl, P, hb⟩
  obtain ⟨Aw, cw, rfl, _⟩ := owns_slice P
  have S2 := Lib.hid (S1.out.next hb)
  have PW := Lib.hid P
  have LtW : Hid (∀ k, (Value.slice Aw ys.length cw).ownBlock = some k → k < u1.heap.size) := Lib.hid fun k hk => (PW.out.lt k hk).2
  clear P hb S1
  have s0 := (S2.out).1 0 _ rfl
  have s1 := (S2.out).1 1 _ rfl
  have s2 := (S2.out).1 2 _ rfl
  go_wp2_with fail
  refine (sheS.to_any x _).mono ?_
  rintro o u3 ⟨rfl, hb⟩
  have S3 := Lib.hid (S2.out.next hb)
  have PW3 := Lib.hid (owns_next PW.out hb)
  have G3 := hb.size
  clear hb S2 PW s0 s1 s2
  go_wp2_with fail
  refine (HIM.out _ S3.out.2.2).mono ?_
  rintro o u4 ⟨v, rfl, P, hb⟩
  obtain ⟨Ag, cg, rfl, _⟩ := owns_slice P
  have S4 := Lib.hid (S3.out.next hb)
  have PW4 := Lib.hid (owns_next PW3.out hb)
  have PG := Lib.hid P
  have B3 := S3.out.2.1
  clear P hb S3 PW3
  go_wp2_with fail
  refine (intS.eqS_any Ag Aw _ _ cg cw ys ys rfl rfl hys (by omega) _ (Sl.of_owns PG.out (intS.len _) (by decide)) (Sl.of_owns PW4.out (intS.len _) (by decide)) true (by simp)).mono ?_
  rintro o u ⟨rfl, hb⟩
  have S5 := Lib.hid (S4.out.next hb)
  have PW5 := Lib.hid (owns_next PW4.out hb)
  have PG5 := Lib.hid (owns_next PG.out hb)
  clear hb S4 PW4 PG
  go_wp2_with fail
  refine (intS.markS_any _ _ _ 1 (by omega) hys _ _ PG5.out).mono ?_
  rintro o u ⟨rfl, P, g9, hg9, hgr, _⟩
  have S6 := Lib.hid (S5.out.grow (Nat.le_refl _) hgr (fun k hk => by have : g9 = k := Option.some.inj hk; omega))
  have PW6 := Lib.hid (owns_other PW5.out hgr (fun k hk e => by have := LtW.out k hk; omega))
  have PM := Lib.hid P
  have k2 : decide ((1 : Int) + (ys.length : Int) < 0) = false := by simp; omega
  clear P hgr S5 PW5 PG5
  go_wp2_with fail
  refine (intS.heldS_any Ag _ cg 1 (by omega) hys _ _ (Sl.of_owns PM.out (intS.len _) (by decide))).mono ?_
  rintro o u ⟨rfl, rfl⟩
  have s0 := (S6.out).1 0 _ rfl
  have s1 := (S6.out).1 1 _ rfl
  have s2 := (S6.out).1 2 _ rfl
  go_wp2_with fail
  refine (sheS.to_any x _).mono ?_
  rintro o u7 ⟨rfl, hb⟩
  have S7 := Lib.hid (S6.out.next hb)
  have PW7 := Lib.hid (owns_next PW6.out hb)
  have PM7 := Lib.hid (owns_next PM.out hb)
  clear hb S6 PW6 PM s0 s1 s2
  go_wp2_with fail
  refine (HIM.out _ S7.out.2.2).mono ?_
  rintro o u8 ⟨v, rfl, P, hb⟩
  obtain ⟨Ah, ch, rfl, _⟩ := owns_slice P
  have S8 := Lib.hid (S7.out.next hb)
  have PW8 := Lib.hid (owns_next PW7.out hb)
  have PM8 := Lib.hid (owns_next PM7.out hb)
  have PH := Lib.hid P
  clear P hb S7 PW7 PM7
  go_wp2_with fail
  refine (intS.eqS_any Ah Aw _ _ ch cw ys ys rfl rfl hys (by omega) _ (Sl.of_owns PH.out (intS.len _) (by decide)) (Sl.of_owns PW8.out (intS.len _) (by decide)) true (by simp)).mono ?_
  rintro o u ⟨rfl, hb⟩
  have S9 := Lib.hid (S8.out.next hb)
  have PM9 := Lib.hid (owns_next PM8.out hb)
  clear hb S8 PW8 PM8 PH
  go_wp2_with fail
  refine (intS.heldS_any Ag _ cg 1 (by omega) hys _ _ (Sl.of_owns PM9.out (intS.len _) (by decide))).mono ?_
  rintro o u ⟨rfl, rfl⟩
  go_wp2_with fail
  go_ret
  exact ⟨rfl, S9.out.2.2⟩

theorem readables : ∀ t ∈ Tryd.f5.params.toList, Tryd.prog.readableRec t = true ∧ t < Tryd.prog.types.size := by
  rw [Tryd.params5]
  intro t ht
  simp only [List.mem_cons, List.not_mem_nil, or_false] at ht
  subst ht
  exact ⟨by kernel_rfl, of_decide_eq_true (by kernel_rfl)⟩

set_option maxRecDepth 100000 in
/-- what the row's list gives -/
theorem errsLaid {W : World} (h : laidMetH Tryd.prog Rows.fnExactFoldsPossibleRow.laid W) : ∃ e, Errs W W.heap.size e := by
  rw [MakeChecks.laidMetH_plain _ _ _ (by kernel_rfl)] at h
  refine errs_of Rows.fnExactFoldsPossibleRow.laid (fun i => i) h (by kernel_rfl) ?_ ?_ (fun i j _ _ h => h)
  · have hall : ((listOf Rows.fnExactFoldsPossibleRow.laid).all fun x => match Tryd.prog.globalNamed x.1 with | some g => decide ((Tryd.prog.globals[g]?).map (·.type) = some 65) | none => false) = true := by kernel_rfl
    intro x hx
    have h1 := List.all_eq_true.1 hall x hx
    split at h1
    · rename_i g hg
      exact ⟨g, hg, of_decide_eq_true h1⟩
    · cases h1
  · have b0 : ((listOf Rows.fnExactFoldsPossibleRow.laid)[0]?).bind (fun x => Tryd.prog.globalNamed x.1) = some (gvar 0) := by kernel_rfl
    have b1 : ((listOf Rows.fnExactFoldsPossibleRow.laid)[1]?).bind (fun x => Tryd.prog.globalNamed x.1) = some (gvar 1) := by kernel_rfl
    have b2 : ((listOf Rows.fnExactFoldsPossibleRow.laid)[2]?).bind (fun x => Tryd.prog.globalNamed x.1) = some (gvar 2) := by kernel_rfl
    have b3 : ((listOf Rows.fnExactFoldsPossibleRow.laid)[3]?).bind (fun x => Tryd.prog.globalNamed x.1) = some (gvar 3) := by kernel_rfl
    have b4 : ((listOf Rows.fnExactFoldsPossibleRow.laid)[4]?).bind (fun x => Tryd.prog.globalNamed x.1) = some (gvar 4) := by kernel_rfl
    have b5 : ((listOf Rows.fnExactFoldsPossibleRow.laid)[5]?).bind (fun x => Tryd.prog.globalNamed x.1) = some (gvar 5) := by kernel_rfl
    have b6 : ((listOf Rows.fnExactFoldsPossibleRow.laid)[6]?).bind (fun x => Tryd.prog.globalNamed x.1) = some (gvar 6) := by kernel_rfl
    intro i hi
    match i, hi with
    | 0, _ => exact b0
    | 1, _ => exact b1
    | 2, _ => exact b2
    | 3, _ => exact b3
    | 4, _ => exact b4
    | 5, _ => exact b5
    | 6, _ => exact b6

set_option maxRecDepth 100000 in
theorem contract (H : Type) (enc : TypeId × Value → H) (W : World) (base : Nat) (args : Array Value) (ds gs : List (DataW H)) (before : List MemPlace)
    (hval : ∀ (j : Nat) t v, Tryd.f5.params[j]? = some t → args[j]? = some v → Value.okWide Tryd.prog W .any base t v)
    (hW : DataW.Whole enc Tryd.prog Tryd.f5.params.toList Rows.fnExactFoldsPossibleSpec.vars false W args.toList ds gs before) (hL : laidMetH Tryd.prog Rows.fnExactFoldsPossibleRow.laid W) :
    Calls Tryd.prog 5 args W fun e W' => ∃ v, e = .returned v ∧ Rows.fnExactFoldsPossibleSpec.post enc Tryd.prog Tryd.f5 false true false false W args v W' := by
  obtain ⟨ee, hE⟩ := errsLaid hL
  have hW' := hW
  obtain ⟨p, q, hA0, hV, rfl, hfz, hnd⟩ := hW
  have hA : DataW.TrodAll enc Tryd.prog W 0 (fun _ => true) true Tryd.f5.params.toList args.toList ds p := hA0
  rw [Tryd.params5] at hA hval
  clear hA0
  obtain ⟨v0, vs0, d0, ds0, p0, q0, hargs, rfl, rfl, h0, r0⟩ := trodAll_cons hA
  obtain ⟨rfl, rfl, rfl⟩ := trodAll_nil r0
  obtain rfl : args = #[v0] := by cases args; simp_all
  obtain ⟨z0, z1, z2, z3, z4, z5, z6, rfl⟩ := vars_of hV
  obtain ⟨x, hx, rfl⟩ := sheS.open_one (hval 0 24 v0 rfl rfl) h0
  refine (walk x hx W ee hE).mono fun e W' ⟨he, hb⟩ => ?_
  subst he
  exact ⟨_, rfl, close_vars laidOut readables (by kernel_rfl) Tryd.underlying4 rfl rfl hW' hb⟩

end Go.Proofs.YtcbbabepjfiigaaDoor.lawFoldsPossible
