/-
  THE LAW FnExactIsLoad: for all rules, weights and garments the law returns true: the program tells what the model tells, and its code, and changes no garment. No condition but that the package's errors are what the program's text lays.
-/
import Derived.Test.YtechjcplaaagfaaDoorLoadK
import Derived.Test.YtechjcplaaagfaaDoorMayMeet
import Derived.Test.YtechjcplaaagfaaDoorIntOpen
import Derived.Test.YtechjcplaaagfaaDoorOpenS
import Derived.Test.YtechjcplaaagfaaDoorClose
import Derived.Test.YtechjcplaaagfaaDoorLaid
import Derived.Test.YtechjcplaaagfaaDoorCards
import Derived.Test.YtechjcplaaagfaaDoorTie
namespace Go.Proofs.YtechjcplaaagfaaDoor.lawIsLoad
open Go.ChangeShapes Go.WideShapes Go.ChangeAt Go.RowKit Go.Joins garS errs meet heats load mem

theorem ask_rules {r : Nat → Int} {gs : List Gar} {fine : Bool} (h : 0 = codeAsk r gs fine) : validR r := by
  apply Classical.byContradiction
  intro hv
  rw [codeAsk, if_neg (by rw [validRB_false hv]; decide)] at h
  omega
theorem both {r : Nat → Int} {gs : List Gar} {fine : Bool} (h : 0 = codeAsk r gs fine) (hf : ∀ x ∈ gs, x.Fits) (hold : Int) (n : Nat) (en : n = gs.length) :
    isLoadB gs (msOf r gs n) hold (2 ^ n - 1) = true ↔ 0 < n ∧ Pairs r gs ∧ wAll gs ≤ hold := by
  have hl := ask_len h
  have hv := ask_valid h
  have hr := ask_rules h
  have hc : ∀ x ∈ gs, x.c.toNat < 6 := fun x hx => by
    have := (valid_parts (hv x hx)).1
    have := (hf x hx).c0
    omega
  have hm := msOf_meets (r := r) hl
  rw [← en] at hm
  refine isLoadB_all hm hold n en (by omega) (fun x y hx hy => meet_symm (fun a b ha hb => (hr a ha).2.2 b hb) (hc x hx) (hc y hy)) fun x hx => ?_
  obtain ⟨_, _, h1, _, _, _⟩ := valid_parts (hv x hx)
  unfold meetB
  rw [show bitZ (r x.c.toNat) x.c.toNat = true from (hr _ (hc x hx)).2.1]
  simp [h1]
theorem toRules_q (r : Nat → Int) (w : World) :
    Calls Tryd.prog 15 #[.agg #[.int .u8 (r 0), .int .u8 (r 1), .int .u8 (r 2), .int .u8 (r 3), .int .u8 (r 4), .int .u8 (r 5)]] w fun o w' => o = .returned (rulesV r) ∧ Below w.heap.size w w' := rules.toRules_any r w

set_option maxRecDepth 100000 in
set_option maxHeartbeats 8000000 in
theorem walk_fits (r : Nat → Int) (hr : Six r) (hold : Int) (A : Option Addr) (c : Nat) (gs : List Gar) (hn : gs.length ≤ 1048576) (w : World) (e : Nat → Addr) (hE : Errs w w.heap.size e) (hg : GS w w.heap.size A gs) :
    Calls Tryd.prog 6 #[rulesV r, .int .i64 hold, .slice A gs.length c] w fun e w' => e = .returned (.bool true) ∧ Below w.heap.size w w' := by
  obtain ⟨fine, hfine⟩ : ∃ f : Bool, f = true ↔ (1 ≤ hold ∧ hold ≤ 20000) := ⟨decide (1 ≤ hold ∧ hold ≤ 20000), by simp⟩
  obtain ⟨code, hcode⟩ : ∃ k, k = codeAsk r gs fine := ⟨_, rfl⟩
  obtain ⟨b, hb⟩ : ∃ b, b = (if code = 0 then isLoadB gs (msOf r gs gs.length) hold (2 ^ gs.length - 1) else false) := ⟨_, rfl⟩
  have HF := Lib.hid hfine
  have HC := Lib.hid hcode
  have H1 : Hid (code ≠ 0 → b = false) := Lib.hid fun h => by rw [hb, if_neg h]
  have H2 : Hid (code = 0 → isLoadB gs (msOf r gs gs.length) hold (2 ^ gs.length - 1) = b) := Lib.hid fun h => by rw [hb, if_pos h]
  have H3 : Hid (code = 0 → (b = true ↔ (0 < gs.length ∧ Pairs r gs ∧ wAll gs ≤ hold))) := Lib.hid fun h => by
    rw [hb, if_pos h]
    exact both (by rw [← h]; exact hcode) hg.fits hold gs.length rfl
  have L0 : Hid (LS r w (w.alloc (.cells (rulesCs r) 22))) := Lib.hid ⟨SixAt.new r w 22, by simp, (Below.refl w.heap.size w).alloc (Nat.le_refl _) _⟩
  obtain ⟨⟨s0, s1, s2, s3, s4, s5⟩, _, _⟩ := L0.out
  clear hfine hcode hb
  go_enter Tryd.func6, Tryd.ntmps6
  go_wp2_with fail
  refine (szGarmentS_any A gs.length c 1048576 (by omega) (by omega) _).mono ?_
  rintro o w1 ⟨rfl, rfl⟩
  rw [if_neg (by omega)]
  go_wp2_with fail
  refine (toRules_q r _).mono ?_
  rintro o w1 ⟨rfl, hb1⟩
  have L1 := Lib.hid (L0.out.next hb1)
  clear hb1 s0 s1 s2 s3 s4 s5
  go_wp2_with fail
  refine (toGarmentS_any A c gs (by omega) _ ((hg.below L1.out.2.2).more L1.out.2.2.size)).mono ?_
  rintro o w2 ⟨g1, cs1, rfl, hg1, P1, hb2⟩
  have L2 := Lib.hid (L1.out.next hb2)
  clear hb2
  go_wp2_with fail
  refine (IsLoad_spec r hr hold _ _ _ gs rfl hn _ (P1.gs P1.lt hg.fits) fine HF.out code HC.out b H1.out H3.out).mono ?_
  rintro o w3 ⟨rfl, hb3⟩
  have L3 := Lib.hid (L2.out.next hb3)
  clear hb3 P1 hg1
  go_wp2_with fail
  refine (toGarmentS_any A c gs (by omega) _ ((hg.below L3.out.2.2).more L3.out.2.2.size)).mono ?_
  rintro o w4 ⟨g3, cs3, rfl, hg3, P3, hb4⟩
  have L4 := Lib.hid (L3.out.next hb4)
  obtain ⟨⟨s0, s1, s2, s3, s4, s5⟩, _, _⟩ := L4.out
  have HP3 := Lib.hid P3
  clear hb4 P3
  go_wp2_with fail
  refine (toRules_q r _).mono ?_
  rintro o w5 ⟨rfl, hb5⟩
  have L5 := Lib.hid (L4.out.next hb5)
  have HP5 := Lib.hid (HP3.out.next hb5)
  clear hb5 s0 s1 s2 s3 s4 s5
  go_wp2_with fail
  refine (IsLoad_any r hr hold _ _ _ gs rfl hn (hE.below L5.out.2.2) L5.out.2.2.size (HP5.out.gs HP5.out.lt hg.fits) fine HF.out code HC.out b H1.out H2.out).mono ?_
  rintro o w6 ⟨rfl, hb6⟩
  have L6 := Lib.hid (L5.out.next hb6)
  have HP6 := Lib.hid (HP5.out.next hb6)
  clear hb6
  go_wp2_with fail
  refine (toGarmentS_any A c gs (by omega) _ ((hg.below L6.out.2.2).more L6.out.2.2.size)).mono ?_
  rintro o w7 ⟨g5, cs5, rfl, hg5, P7, hb7⟩
  have L7 := Lib.hid (L6.out.next hb7)
  have HP7 := Lib.hid (HP6.out.next hb7)
  clear hb7
  go_wp2_with fail
  refine (eqGarmentS_any _ _ _ _ gs gs (by omega) _ (HP7.out.gs HP7.out.lt hg.fits) (P7.gs P7.lt hg.fits) true (by simp)).mono ?_
  rintro o w8 ⟨rfl, hb8⟩
  have L8 := Lib.hid (L7.out.next hb8)
  clear hb8
  go_wp2_with fail
  go_ret
  exact ⟨rfl, L8.out.2.2⟩

set_option maxHeartbeats 1000000 in
theorem walk_long (r : Nat → Int) (hold : Int) (A : Option Addr) (n c : Nat) (hm : n ≤ 9223372036854775807) (hn : 1048576 < n) (w : World) :
    Calls Tryd.prog 6 #[rulesV r, .int .i64 hold, .slice A n c] w fun e w' => e = .returned (.bool true) ∧ Below w.heap.size w w' := by
  go_enter Tryd.func6, Tryd.ntmps6
  go_wp2_with fail
  refine (szGarmentS_any A n c 1048576 hm (by omega) _).mono ?_
  rintro o w1 ⟨rfl, rfl⟩
  rw [if_pos (by omega)]
  go_wp2_with fail
  go_ret
  exact ⟨rfl, (Below.refl _ _).alloc (Nat.le_refl _) _⟩

theorem readables : ∀ t ∈ Tryd.f6.params.toList, Tryd.prog.readableRec t = true ∧ t < Tryd.prog.types.size := by
  rw [Tryd.params6]
  intro t ht
  simp only [List.mem_cons, List.not_mem_nil, or_false] at ht
  rcases ht with rfl | rfl | rfl <;> exact ⟨by kernel_rfl, of_decide_eq_true (by kernel_rfl)⟩

set_option maxRecDepth 100000 in
/-- what the row's list gives -/
theorem errsLaid {W : World} (h : laidMetH Tryd.prog Rows.fnExactIsLoadRow.laid W) : ∃ e, Errs W W.heap.size e := by
  rw [MakeChecks.laidMetH_plain _ _ _ (by kernel_rfl)] at h
  refine errs_of Rows.fnExactIsLoadRow.laid (fun i => i) h (by kernel_rfl) ?_ ?_ (fun i j _ _ h => h)
  · have hall : ((listOf Rows.fnExactIsLoadRow.laid).all fun x => match Tryd.prog.globalNamed x.1 with | some g => decide ((Tryd.prog.globals[g]?).map (·.type) = some 72) | none => false) = true := by kernel_rfl
    intro x hx
    have h1 := List.all_eq_true.1 hall x hx
    split at h1
    · rename_i g hg
      exact ⟨g, hg, of_decide_eq_true h1⟩
    · cases h1
  · have b0 : ((listOf Rows.fnExactIsLoadRow.laid)[0]?).bind (fun x => Tryd.prog.globalNamed x.1) = some (gvar 0) := by kernel_rfl
    have b1 : ((listOf Rows.fnExactIsLoadRow.laid)[1]?).bind (fun x => Tryd.prog.globalNamed x.1) = some (gvar 1) := by kernel_rfl
    have b2 : ((listOf Rows.fnExactIsLoadRow.laid)[2]?).bind (fun x => Tryd.prog.globalNamed x.1) = some (gvar 2) := by kernel_rfl
    have b3 : ((listOf Rows.fnExactIsLoadRow.laid)[3]?).bind (fun x => Tryd.prog.globalNamed x.1) = some (gvar 3) := by kernel_rfl
    have b4 : ((listOf Rows.fnExactIsLoadRow.laid)[4]?).bind (fun x => Tryd.prog.globalNamed x.1) = some (gvar 4) := by kernel_rfl
    have b5 : ((listOf Rows.fnExactIsLoadRow.laid)[5]?).bind (fun x => Tryd.prog.globalNamed x.1) = some (gvar 5) := by kernel_rfl
    have b6 : ((listOf Rows.fnExactIsLoadRow.laid)[6]?).bind (fun x => Tryd.prog.globalNamed x.1) = some (gvar 6) := by kernel_rfl
    intro i hi
    match i, hi with
    | 0, _ => exact b0
    | 1, _ => exact b1
    | 2, _ => exact b2
    | 3, _ => exact b3
    | 4, _ => exact b4
    | 5, _ => exact b5
    | 6, _ => exact b6

set_option maxRecDepth 100000 in
theorem contract (H : Type) (enc : TypeId × Value → H) (W : World) (base : Nat) (args : Array Value) (ds gs : List (DataW H)) (before : List MemPlace)
    (hval : ∀ (j : Nat) t v, Tryd.f6.params[j]? = some t → args[j]? = some v → Value.okWide Tryd.prog W .any base t v)
    (hW : DataW.Whole enc Tryd.prog Tryd.f6.params.toList Rows.fnExactIsLoadSpec.vars false W args.toList ds gs before) (hL : laidMetH Tryd.prog Rows.fnExactIsLoadRow.laid W) :
    Calls Tryd.prog 6 args W fun e W' => ∃ v, e = .returned v ∧ Rows.fnExactIsLoadSpec.post enc Tryd.prog Tryd.f6 false true false false W args v W' := by
  obtain ⟨ee, hE⟩ := errsLaid hL
  have hW' := hW
  obtain ⟨p, q, hA0, hV, rfl, hfz, hnd⟩ := hW
  have hA : DataW.TrodAll enc Tryd.prog W 0 (fun _ => true) true Tryd.f6.params.toList args.toList ds p := hA0
  rw [Tryd.params6] at hA hval
  clear hA0
  obtain ⟨v0, vs0, d0, ds0, p0, q0, hargs, rfl, rfl, h0, r0⟩ := trodAll_cons hA
  obtain ⟨v1, vs1, d1, ds1, p1, q1, rfl, rfl, rfl, h1, r1⟩ := trodAll_cons r0
  obtain ⟨v2, vs2, d2, ds2, p2, q2, rfl, rfl, rfl, h2, r2⟩ := trodAll_cons r1
  obtain ⟨rfl, rfl, rfl⟩ := trodAll_nil r2
  obtain rfl : args = #[v0, v1, v2] := by cases args; simp_all
  obtain ⟨z0, z1, z2, z3, z4, z5, z6, rfl⟩ := vars_of hV
  obtain ⟨r, hr, rfl⟩ := open_rules (hval 0 22 v0 rfl rfl) h0
  obtain ⟨hold, rfl⟩ : ∃ n : Int, v1 = .int .i64 n := okWide_int Tryd.underlying2 (hval 1 2 v1 rfl rfl)
  obtain ⟨A, c, gs, rfl, hl, hg⟩ := open_garS (hval 2 34 v2 rfl rfl) h2
  have walk : Calls Tryd.prog 6 #[rulesV r, .int .i64 hold, .slice A gs.length c] W fun e w' => e = .returned (.bool true) ∧ Below W.heap.size W w' := by
    unfold maxLen at hl
    rcases Nat.lt_or_ge 1048576 gs.length with h | h
    · exact walk_long r hold A _ c hl h W
    · exact walk_fits r hr hold A c gs h W ee hE hg
  refine walk.mono fun e W' ⟨he, hb⟩ => ?_
  subst he
  exact ⟨_, rfl, close_vars laidOut readables (by kernel_rfl) Tryd.underlying4 rfl rfl hW' hb⟩

end Go.Proofs.YtechjcplaaagfaaDoor.lawIsLoad
