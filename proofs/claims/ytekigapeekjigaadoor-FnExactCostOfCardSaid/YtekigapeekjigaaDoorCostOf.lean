/-
  THE LAW FnExactCostOf: for all rules, weights, garments, numbers and prices the law returns true: the program tells the cost that the model tells, and its code, and changes neither a garment nor a number. No condition but that the package's errors are what the program's text lays.
-/
import Derived.Test.YtekigapeekjigaaDoorJoin19
import Derived.Test.YtekigapeekjigaaDoorOpen
import Derived.Test.YtekigapeekjigaaDoorJoin17
import Derived.Test.YtekigapeekjigaaDoorClose
import Derived.Test.YtekigapeekjigaaDoorLaid
import Derived.Test.YtekigapeekjigaaDoorCards
import Derived.Test.YtekigapeekjigaaDoorTie
namespace Go.Proofs.YtekigapeekjigaaDoor.lawCostOf
open Go.ChangeShapes Go.WideShapes Go.ChangeAt Go.RowKit Go.Joins garS errs meet heats load mem sl

theorem right_cost {r : Nat → Int} {gs : List Gar} {hold : Int} {fh fe : Bool} (h : 0 = codeAsk r gs (fh && fe)) (hf : ∀ x ∈ gs, x.Fits) (hfh : decide (1 ≤ hold ∧ hold ≤ 20000) = fh) (ls : List Int) :
    RightB gs (msOf r gs gs.length) hold ls ↔ Right r gs hold ls := by
  have hF := ask_good h hf
  have h1 : 1 ≤ hold ∧ hold ≤ 20000 := by
    rw [(Bool.and_eq_true_iff.1 (ask_fine h)).1] at hfh
    simpa using hfh
  exact right_iff (msOf_meets (r := r) hF.len) hold (by omega) ls hF.len hF.meets hF.self
set_option maxRecDepth 100000 in
set_option maxHeartbeats 8000000 in
theorem walk_fits (r : Nat → Int) (hr : Six r) (hold : Int) (A : Option Addr) (c : Nat) (gs : List Gar) (hn : gs.length ≤ 1048576) (A' : Option Addr) (c' : Nat) (ls : List Int) (hm : ls.length ≤ 1048576) (each : Int) (w : World) (e : Nat → Addr) (hE : Errs w w.heap.size e) (hg : GS w w.heap.size A gs) (hl : Sl intS.C 1 w w.heap.size A' ls) :
    Calls Tryd.prog 6 #[rulesV r, .int .i64 hold, .slice A gs.length c, .slice A' ls.length c', .int .i64 each] w fun e w' => e = .returned (.bool true) ∧ Below w.heap.size w w' := by
  obtain ⟨fh, hfh⟩ : ∃ f : Bool, decide (1 ≤ hold ∧ hold ≤ 20000) = f := ⟨_, rfl⟩
  obtain ⟨fe, hfe⟩ : ∃ f : Bool, decide (0 ≤ each ∧ each ≤ 1000) = f := ⟨_, rfl⟩
  obtain ⟨code, hcode⟩ : ∃ k, k = codeAsk r gs (fh && fe) := ⟨_, rfl⟩
  obtain ⟨b, hb⟩ : ∃ b, b = rightV r gs hold ls code := ⟨_, rfl⟩
  obtain ⟨z, k, hz⟩ := costRes_exists r gs hold ls each code b
  have HFH := Lib.hid hfh
  have HFE := Lib.hid hfe
  have HC := Lib.hid hcode
  have HZ := Lib.hid hz
  have H3 : Hid (code = 0 → (b = true ↔ Right r gs hold ls)) := Lib.hid fun h => by rw [hb, rightV_yes h]
  have H2 : Hid (code = 0 → (b = true ↔ RightB gs (msOf r gs gs.length) hold ls)) := Lib.hid fun h => (H3.out h).trans (right_cost (by rw [← h]; exact hcode) hg.fits hfh ls).symm
  have L0 : Hid (LS r w (w.alloc (.cells (rulesCs r) 22))) := Lib.hid ⟨SixAt.new r w 22, by simp, (Below.refl w.heap.size w).alloc (Nat.le_refl _) _⟩
  obtain ⟨⟨s0, s1, s2, s3, s4, s5⟩, _, _⟩ := L0.out
  clear hfh hfe hcode hb hz
  go_enter Tryd.func6, Tryd.ntmps6
  go_wp2_with fail
  refine (szGarmentS_any A gs.length c 1048576 (by omega) (by omega) _).mono ?_
  rintro o w1 ⟨rfl, rfl⟩
  rw [if_neg (by omega)]
  go_wp2_with fail
  refine (toRules_q r _).mono ?_
  rintro o w1 ⟨rfl, hb1⟩
  have L1 := Lib.hid (L0.out.next hb1)
  clear hb1 s0 s1 s2 s3 s4 s5
  go_wp2_with fail
  refine (toGarmentS_any A c gs (by omega) _ ((hg.below L1.out.2.2).more L1.out.2.2.size)).mono ?_
  rintro o w2 ⟨g1, cs1, rfl, hg1, P1, hb2⟩
  have L2 := Lib.hid (L1.out.next hb2)
  have HP1 := Lib.hid P1
  clear hb2 P1
  go_wp2_with fail
  refine (intS.toS_any A' ls.length c' ls rfl (by omega) _ ((hl.below L2.out.2.2).more L2.out.2.2.size)).mono ?_
  rintro o w3 ⟨i1, rfl, I1, hb3⟩
  have L3 := Lib.hid (L2.out.next hb3)
  have HP2 := Lib.hid (HP1.out.next hb3)
  clear hb3
  go_wp2_with fail
  refine (CostOf_spec r hr hold _ _ _ gs rfl hn _ _ _ ls rfl hm each _ (HP2.out.gs HP2.out.lt hg.fits) (Sl.of_owns I1 (intS.len _) (by decide)) fh fe HFH.out HFE.out code HC.out b H3.out z k HZ.out).mono ?_
  rintro o w4 ⟨rfl, hb4⟩
  have L4 := Lib.hid (L3.out.next hb4)
  clear hb4 HP2 HP1 I1 hg1
  go_wp2_with fail
  refine (toGarmentS_any A c gs (by omega) _ ((hg.below L4.out.2.2).more L4.out.2.2.size)).mono ?_
  rintro o w5 ⟨g3, cs3, rfl, hg3, P3, hb5⟩
  have L5 := Lib.hid (L4.out.next hb5)
  have HP5 := Lib.hid P3
  clear hb5 P3
  go_wp2_with fail
  refine (intS.toS_any A' ls.length c' ls rfl (by omega) _ ((hl.below L5.out.2.2).more L5.out.2.2.size)).mono ?_
  rintro o w6 ⟨i3, rfl, I3, hb6⟩
  have L6 := Lib.hid (L5.out.next hb6)
  have HP6 := Lib.hid (HP5.out.next hb6)
  have HI6 := Lib.hid I3
  obtain ⟨⟨s0, s1, s2, s3, s4, s5⟩, _, _⟩ := L6.out
  clear hb6 I3
  go_wp2_with fail
  refine (toRules_q r _).mono ?_
  rintro o w7 ⟨rfl, hb7⟩
  have L7 := Lib.hid (L6.out.next hb7)
  have HP7 := Lib.hid (HP6.out.next hb7)
  have HI7 := Lib.hid (owns_next HI6.out hb7)
  clear hb7 s0 s1 s2 s3 s4 s5
  go_wp2_with fail
  refine (CostOf_any r hr hold _ _ _ gs rfl hn _ _ _ ls rfl hm each (hE.below L7.out.2.2) L7.out.2.2.size (HP7.out.gs HP7.out.lt hg.fits) (Sl.of_owns HI7.out (intS.len _) (by decide)) fh fe HFH.out HFE.out code HC.out b H2.out z k HZ.out).mono ?_
  rintro o w8 ⟨rfl, hb8⟩
  have L8 := Lib.hid (L7.out.next hb8)
  have HP8 := Lib.hid (HP7.out.next hb8)
  have HI8 := Lib.hid (owns_next HI7.out hb8)
  clear hb8
  go_wp2_with fail
  refine (toGarmentS_any A c gs (by omega) _ ((hg.below L8.out.2.2).more L8.out.2.2.size)).mono ?_
  rintro o w9 ⟨g5, cs5, rfl, hg5, P9, hb9⟩
  have L9 := Lib.hid (L8.out.next hb9)
  have HP9 := Lib.hid (HP8.out.next hb9)
  have HI9 := Lib.hid (owns_next HI8.out hb9)
  clear hb9
  go_wp2_with fail
  refine (eqGarmentS_any _ _ _ _ gs gs (by omega) _ (HP9.out.gs HP9.out.lt hg.fits) (P9.gs P9.lt hg.fits) true (by simp)).mono ?_
  rintro o w10 ⟨rfl, hb10⟩
  have L10 := Lib.hid (L9.out.next hb10)
  have HI10 := Lib.hid (owns_next HI9.out hb10)
  clear hb10
  go_wp2_with fail
  refine (intS.toS_any A' ls.length c' ls rfl (by omega) _ ((hl.below L10.out.2.2).more L10.out.2.2.size)).mono ?_
  rintro o w11 ⟨i5, rfl, I11, hb11⟩
  have L11 := Lib.hid (L10.out.next hb11)
  have HI11 := Lib.hid (owns_next HI10.out hb11)
  clear hb11
  go_wp2_with fail
  refine (intS.eqS_any _ _ _ _ _ _ ls ls rfl rfl (by omega) (by omega) _ (Sl.of_owns HI11.out (intS.len _) (by decide)) (Sl.of_owns I11 (intS.len _) (by decide)) true (by simp)).mono ?_
  rintro o w12 ⟨rfl, hb12⟩
  have L12 := Lib.hid (L11.out.next hb12)
  clear hb12
  go_wp2_with fail
  go_ret
  exact ⟨rfl, L12.out.2.2⟩

set_option maxHeartbeats 1000000 in
theorem walk_long (r : Nat → Int) (hold : Int) (A : Option Addr) (n c : Nat) (hm : n ≤ 9223372036854775807) (hn : 1048576 < n) (A' : Option Addr) (m c' : Nat) (hm' : m ≤ 1048576) (each : Int) (w : World) :
    Calls Tryd.prog 6 #[rulesV r, .int .i64 hold, .slice A n c, .slice A' m c', .int .i64 each] w fun e w' => e = .returned (.bool true) ∧ Below w.heap.size w w' := by
  go_enter Tryd.func6, Tryd.ntmps6
  go_wp2_with fail
  refine (szGarmentS_any A n c 1048576 hm (by omega) _).mono ?_
  rintro o w1 ⟨rfl, rfl⟩
  rw [if_pos (by omega)]
  go_wp2_with fail
  go_ret
  exact ⟨rfl, (Below.refl _ _).alloc (Nat.le_refl _) _⟩
set_option maxHeartbeats 1000000 in
theorem walk_many (r : Nat → Int) (hold : Int) (A : Option Addr) (n c : Nat) (A' : Option Addr) (m c' : Nat) (hm : m ≤ 9223372036854775807) (hm' : 1048576 < m) (each : Int) (w : World) :
    Calls Tryd.prog 6 #[rulesV r, .int .i64 hold, .slice A n c, .slice A' m c', .int .i64 each] w fun e w' => e = .returned (.bool true) ∧ Below w.heap.size w w' := by
  go_enter Tryd.func6, Tryd.ntmps6
  go_wp2_with fail
  go_ret
  exact ⟨rfl, (Below.refl _ _).alloc (Nat.le_refl _) _⟩

theorem readables : ∀ t ∈ Tryd.f6.params.toList, Tryd.prog.readableRec t = true ∧ t < Tryd.prog.types.size := by
  rw [Tryd.params6]
  intro t ht
  simp only [List.mem_cons, List.not_mem_nil, or_false] at ht
  rcases ht with rfl | rfl | rfl | rfl | rfl <;> exact ⟨by kernel_rfl, of_decide_eq_true (by kernel_rfl)⟩

set_option maxRecDepth 100000 in
/-- what the row's list gives -/
theorem errsLaid {W : World} (h : laidMetH Tryd.prog Rows.fnExactCostOfRow.laid W) : ∃ e, Errs W W.heap.size e := by
  rw [MakeChecks.laidMetH_plain _ _ _ (by kernel_rfl)] at h
  refine errs_of Rows.fnExactCostOfRow.laid (fun i => i) h (by kernel_rfl) ?_ ?_ (fun i j _ _ h => h)
  · have hall : ((listOf Rows.fnExactCostOfRow.laid).all fun x => match Tryd.prog.globalNamed x.1 with | some g => decide ((Tryd.prog.globals[g]?).map (·.type) = some 86) | none => false) = true := by kernel_rfl
    intro x hx
    have h1 := List.all_eq_true.1 hall x hx
    split at h1
    · rename_i g hg
      exact ⟨g, hg, of_decide_eq_true h1⟩
    · cases h1
  · have b0 : ((listOf Rows.fnExactCostOfRow.laid)[0]?).bind (fun x => Tryd.prog.globalNamed x.1) = some (gvar 0) := by kernel_rfl
    have b1 : ((listOf Rows.fnExactCostOfRow.laid)[1]?).bind (fun x => Tryd.prog.globalNamed x.1) = some (gvar 1) := by kernel_rfl
    have b2 : ((listOf Rows.fnExactCostOfRow.laid)[2]?).bind (fun x => Tryd.prog.globalNamed x.1) = some (gvar 2) := by kernel_rfl
    have b3 : ((listOf Rows.fnExactCostOfRow.laid)[3]?).bind (fun x => Tryd.prog.globalNamed x.1) = some (gvar 3) := by kernel_rfl
    have b4 : ((listOf Rows.fnExactCostOfRow.laid)[4]?).bind (fun x => Tryd.prog.globalNamed x.1) = some (gvar 4) := by kernel_rfl
    have b5 : ((listOf Rows.fnExactCostOfRow.laid)[5]?).bind (fun x => Tryd.prog.globalNamed x.1) = some (gvar 5) := by kernel_rfl
    have b6 : ((listOf Rows.fnExactCostOfRow.laid)[6]?).bind (fun x => Tryd.prog.globalNamed x.1) = some (gvar 6) := by kernel_rfl
    intro i hi
    match i, hi with
    | 0, _ => exact b0
    | 1, _ => exact b1
    | 2, _ => exact b2
    | 3, _ => exact b3
    | 4, _ => exact b4
    | 5, _ => exact b5
    | 6, _ => exact b6

set_option maxRecDepth 100000 in
theorem contract (H : Type) (enc : TypeId × Value → H) (W : World) (base : Nat) (args : Array Value) (ds gs : List (DataW H)) (before : List MemPlace)
    (hval : ∀ (j : Nat) t v, Tryd.f6.params[j]? = some t → args[j]? = some v → Value.okWide Tryd.prog W .any base t v)
    (hW : DataW.Whole enc Tryd.prog Tryd.f6.params.toList Rows.fnExactCostOfSpec.vars false W args.toList ds gs before) (hL : laidMetH Tryd.prog Rows.fnExactCostOfRow.laid W) :
    Calls Tryd.prog 6 args W fun e W' => ∃ v, e = .returned v ∧ Rows.fnExactCostOfSpec.post enc Tryd.prog Tryd.f6 false true false false W args v W' := by
  obtain ⟨ee, hE⟩ := errsLaid hL
  have hW' := hW
  obtain ⟨p, q, hA0, hV, rfl, hfz, hnd⟩ := hW
  have hA : DataW.TrodAll enc Tryd.prog W 0 (fun _ => true) true Tryd.f6.params.toList args.toList ds p := hA0
  rw [Tryd.params6] at hA hval
  clear hA0
  obtain ⟨v0, vs0, d0, ds0, p0, q0, hargs, rfl, rfl, h0, r0⟩ := trodAll_cons hA
  obtain ⟨v1, vs1, d1, ds1, p1, q1, rfl, rfl, rfl, h1, r1⟩ := trodAll_cons r0
  obtain ⟨v2, vs2, d2, ds2, p2, q2, rfl, rfl, rfl, h2, r2⟩ := trodAll_cons r1
  obtain ⟨v3, vs3, d3, ds3, p3, q3, rfl, rfl, rfl, h3, r3⟩ := trodAll_cons r2
  obtain ⟨v4, vs4, d4, ds4, p4, q4, rfl, rfl, rfl, h4, r4⟩ := trodAll_cons r3
  obtain ⟨rfl, rfl, rfl⟩ := trodAll_nil r4
  obtain rfl : args = #[v0, v1, v2, v3, v4] := by cases args; simp_all
  obtain ⟨z0, z1, z2, z3, z4, z5, z6, rfl⟩ := vars_of hV
  obtain ⟨r, hr, rfl⟩ := open_rules (hval 0 22 v0 rfl rfl) h0
  obtain ⟨hold, rfl⟩ : ∃ n : Int, v1 = .int .i64 n := okWide_int Tryd.underlying2 (hval 1 2 v1 rfl rfl)
  obtain ⟨A, c, gs, rfl, hl, hg⟩ := open_garS (hval 2 31 v2 rfl rfl) h2
  obtain ⟨A', c', ls, rfl, hl', hg'⟩ := intS.open_many (hval 3 32 v3 rfl rfl) h3
  obtain ⟨each, rfl⟩ : ∃ n : Int, v4 = .int .i64 n := okWide_int Tryd.underlying2 (hval 4 2 v4 rfl rfl)
  have walk : Calls Tryd.prog 6 #[rulesV r, .int .i64 hold, .slice A gs.length c, .slice A' ls.length c', .int .i64 each] W fun e W' => e = .returned (.bool true) ∧ Below W.heap.size W W' := by
    unfold maxLen at hl hl'
    rcases Nat.lt_or_ge 1048576 ls.length with h' | h'
    · exact walk_many r hold A _ c A' _ c' hl' h' each W
    · rcases Nat.lt_or_ge 1048576 gs.length with h | h
      · exact walk_long r hold A _ c hl h A' _ c' h' each W
      · exact walk_fits r hr hold A c gs h A' c' ls h' each W ee hE hg hg'
  refine walk.mono fun e W' ⟨he, hb⟩ => ?_
  subst he
  exact ⟨_, rfl, close_vars laidOut readables (by kernel_rfl) Tryd.underlying4 rfl rfl hW' hb⟩

end Go.Proofs.YtekigapeekjigaaDoor.lawCostOf
