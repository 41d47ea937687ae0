/-
  THE LAW FnExactFoldAll: for every sheet and every list of folds the law returns true: the program answers as the model does, and changes no list. No condition but that the package's errors are what the program's text lays.
-/
import Derived.Test.YtcbbabepjfiigaaDoorJoin13
import Derived.Test.YtcbbabepjfiigaaDoorJoin15
import Derived.Test.YtcbbabepjfiigaaDoorClose
import Derived.Test.YtcbbabepjfiigaaDoorLaid
import Derived.Test.YtcbbabepjfiigaaDoorCards
import Derived.Test.YtcbbabepjfiigaaDoorTie
namespace Go.Proofs.YtcbbabepjfiigaaDoor.lawFoldAll
open Go.ChangeShapes Go.WideShapes Go.ChangeAt Go.RowKit Go.Joins sl errs fold

set_option maxRecDepth 100000 in
set_option maxHeartbeats 4000000 in
theorem walk_fits (x : She) (hx : x.Fits) (A : Option Addr) (n c : Nat) (ks : List Int) (en : n = ks.length) (hn : n ≤ 1048576) (w : World) (e : Nat → Addr) (hE : Errs w w.heap.size e) (hg : Sl intS.C 1 w w.heap.size A ks) :
    Calls Tryd.prog 4 #[x.v, .slice A n c] w fun o w' => o = .returned (.bool true) ∧ Below w.heap.size w w' := by
  subst en
  have S0 := Lib.hid (Box.new x.cells (Below.refl w.heap.size w) #[.int .i16 x.wide, .int .i16 x.high, .int .i16 x.lay] rfl 24)
  have hsp := fun (g : Nat) (u : World) (hh : Sl intS.C 1 u u.heap.size (some ⟨g, 0, none⟩) ks) => FoldAll_spec x hx (some ⟨g, 0, none⟩) ks.length ks.length ks rfl (by omega) u hh
  have him := fun (g : Nat) (u : World) (hb : Below w.heap.size w u) (hh : Sl intS.C 1 u u.heap.size (some ⟨g, 0, none⟩) ks) => FoldAll_any x hx (some ⟨g, 0, none⟩) ks.length ks.length ks rfl (by omega) (hE.below hb) hb.size hh
  obtain ⟨r, hr⟩ : ∃ r, allR x ks = r := ⟨_, rfl⟩
  rw [hr] at hsp him
  obtain ⟨⟨rp, rq, rl⟩, rc⟩ := r
  have HSP := Lib.hid hsp
  have HIM := Lib.hid him
  clear hr hsp him hE
  go_enter Tryd.func4, Tryd.ntmps4
  go_wp2_with fail
  refine (sheS.to_any x _).mono ?_
  rintro o w1 ⟨rfl, hb⟩
  have S1 := Lib.hid (S0.out.next hb)
  clear hb S0
  go_wp2_with fail
  refine (intS.toS_any A ks.length c ks rfl hn _ ((hg.below S1.out.2.2).more S1.out.2.2.size)).mono ?_
  rintro o u ⟨g1, rfl, P, hb⟩
  have S2 := Lib.hid (S1.out.next hb)
  have I1 := Lib.hid P
  clear P hb S1
  go_wp2_with fail
  refine (HSP.out g1 _ (Sl.of_owns I1.out (intS.len _) (by decide))).mono ?_
  rintro o w2 ⟨rfl, hb⟩
  have S3 := Lib.hid ((S2.out.next hb).alloc (.cells #[.int .i16 rp, .int .i16 rq, .int .i16 rl] 25))
  have R3 := Lib.hid (Box.new (⟨rp, rq, rl⟩ : She).cells (Below.refl w2.heap.size w2) #[.int .i16 rp, .int .i16 rq, .int .i16 rl] rfl 25)
  clear hb S2 I1
  go_wp2_with fail
  refine (intS.toS_any A ks.length c ks rfl hn _ ((hg.below S3.out.2.2).more S3.out.2.2.size)).mono ?_
  rintro o u ⟨g3, rfl, P, hb⟩
  have S4 := Lib.hid (S3.out.next hb)
  have R4 := Lib.hid (R3.out.next hb)
  have I4 := Lib.hid P
  clear P hb S3 R3
  have s0 := (S4.out).1 0 _ rfl
  have s1 := (S4.out).1 1 _ rfl
  have s2 := (S4.out).1 2 _ rfl
  go_wp2_with fail
  refine (sheS.to_any x _).mono ?_
  rintro o w5 ⟨rfl, hb⟩
  have S5 := Lib.hid (S4.out.next hb)
  have R5 := Lib.hid (R4.out.next hb)
  have I5 := Lib.hid (owns_next I4.out hb)
  clear hb S4 R4 I4 s0 s1 s2
  go_wp2_with fail
  refine (HIM.out g3 _ S5.out.2.2 (Sl.of_owns I5.out (intS.len _) (by decide))).mono ?_
  rintro o w6 ⟨rfl, hb⟩
  have S6 := Lib.hid ((S5.out.next hb).alloc (.cells #[.int .i16 rp, .int .i16 rq, .int .i16 rl] 25))
  have R6 := Lib.hid ((R5.out.next hb).alloc (.cells #[.int .i16 rp, .int .i16 rq, .int .i16 rl] 25))
  have I6 := Lib.hid (owns_next (owns_next I5.out hb) ((Below.refl _ _).alloc (Nat.le_refl _) (.cells #[.int .i16 rp, .int .i16 rq, .int .i16 rl] 25)))
  clear hb S5 R5 I5
  have s0 := (R6.out).1 0 _ rfl
  have s1 := (R6.out).1 1 _ rfl
  have s2 := (R6.out).1 2 _ rfl
  go_wp2_with fail
  refine (sheS.eq_any ⟨rp, rq, rl⟩ ⟨rp, rq, rl⟩ _).mono ?_
  rintro o w7 ⟨rfl, hb⟩
  rw [(She.eq_iff _ _).2 rfl]
  have S7 := Lib.hid (S6.out.next hb)
  have I7 := Lib.hid (owns_next I6.out hb)
  clear hb S6 R6 I6 s0 s1 s2
  go_wp2_with fail
  refine (intS.toS_any A ks.length c ks rfl hn _ ((hg.below S7.out.2.2).more S7.out.2.2.size)).mono ?_
  rintro o u ⟨g8, rfl, P, hb⟩
  have S8 := Lib.hid (S7.out.next hb)
  have I8 := Lib.hid (owns_next I7.out hb)
  have J8 := Lib.hid P
  clear P hb S7 I7
  go_wp2_with fail
  refine (intS.eqS_any (some ⟨g3, 0, none⟩) (some ⟨g8, 0, none⟩) ks.length ks.length ks.length ks.length ks ks rfl rfl hn (by omega) _ (Sl.of_owns I8.out (intS.len _) (by decide)) (Sl.of_owns J8.out (intS.len _) (by decide)) true (by simp)).mono ?_
  rintro o u ⟨rfl, hb⟩
  have S9 := Lib.hid (S8.out.next hb)
  clear hb S8 I8 J8
  go_wp2_with fail
  go_ret
  exact ⟨rfl, S9.out.2.2⟩

set_option maxHeartbeats 1000000 in
theorem walk_long (x : She) (A : Option Addr) (n c : Nat) (hm : n ≤ 9223372036854775807) (hn : 1048576 < n) (w : World) :
    Calls Tryd.prog 4 #[x.v, .slice A n c] w fun e w' => e = .returned (.bool true) ∧ Below w.heap.size w w' := by
  go_enter Tryd.func4, Tryd.ntmps4
  go_wp2_with fail
  go_ret
  exact ⟨rfl, (Below.refl _ _).alloc (Nat.le_refl _) _⟩

theorem readables : ∀ t ∈ Tryd.f4.params.toList, Tryd.prog.readableRec t = true ∧ t < Tryd.prog.types.size := by
  rw [Tryd.params4]
  intro t ht
  simp only [List.mem_cons, List.not_mem_nil, or_false] at ht
  rcases ht with rfl | rfl <;> exact ⟨by kernel_rfl, of_decide_eq_true (by kernel_rfl)⟩

set_option maxRecDepth 100000 in
/-- what the row's list gives -/
theorem errsLaid {W : World} (h : laidMetH Tryd.prog Rows.fnExactFoldAllRow.laid W) : ∃ e, Errs W W.heap.size e := by
  rw [MakeChecks.laidMetH_plain _ _ _ (by kernel_rfl)] at h
  refine errs_of Rows.fnExactFoldAllRow.laid (fun i => i) h (by kernel_rfl) ?_ ?_ (fun i j _ _ h => h)
  · have hall : ((listOf Rows.fnExactFoldAllRow.laid).all fun x => match Tryd.prog.globalNamed x.1 with | some g => decide ((Tryd.prog.globals[g]?).map (·.type) = some 65) | none => false) = true := by kernel_rfl
    intro x hx
    have h1 := List.all_eq_true.1 hall x hx
    split at h1
    · rename_i g hg
      exact ⟨g, hg, of_decide_eq_true h1⟩
    · cases h1
  · have b0 : ((listOf Rows.fnExactFoldAllRow.laid)[0]?).bind (fun x => Tryd.prog.globalNamed x.1) = some (gvar 0) := by kernel_rfl
    have b1 : ((listOf Rows.fnExactFoldAllRow.laid)[1]?).bind (fun x => Tryd.prog.globalNamed x.1) = some (gvar 1) := by kernel_rfl
    have b2 : ((listOf Rows.fnExactFoldAllRow.laid)[2]?).bind (fun x => Tryd.prog.globalNamed x.1) = some (gvar 2) := by kernel_rfl
    have b3 : ((listOf Rows.fnExactFoldAllRow.laid)[3]?).bind (fun x => Tryd.prog.globalNamed x.1) = some (gvar 3) := by kernel_rfl
    have b4 : ((listOf Rows.fnExactFoldAllRow.laid)[4]?).bind (fun x => Tryd.prog.globalNamed x.1) = some (gvar 4) := by kernel_rfl
    have b5 : ((listOf Rows.fnExactFoldAllRow.laid)[5]?).bind (fun x => Tryd.prog.globalNamed x.1) = some (gvar 5) := by kernel_rfl
    have b6 : ((listOf Rows.fnExactFoldAllRow.laid)[6]?).bind (fun x => Tryd.prog.globalNamed x.1) = some (gvar 6) := by kernel_rfl
    intro i hi
    match i, hi with
    | 0, _ => exact b0
    | 1, _ => exact b1
    | 2, _ => exact b2
    | 3, _ => exact b3
    | 4, _ => exact b4
    | 5, _ => exact b5
    | 6, _ => exact b6

set_option maxRecDepth 100000 in
theorem contract (H : Type) (enc : TypeId × Value → H) (W : World) (base : Nat) (args : Array Value) (ds gs : List (DataW H)) (before : List MemPlace)
    (hval : ∀ (j : Nat) t v, Tryd.f4.params[j]? = some t → args[j]? = some v → Value.okWide Tryd.prog W .any base t v)
    (hW : DataW.Whole enc Tryd.prog Tryd.f4.params.toList Rows.fnExactFoldAllSpec.vars false W args.toList ds gs before) (hL : laidMetH Tryd.prog Rows.fnExactFoldAllRow.laid W) :
    Calls Tryd.prog 4 args W fun e W' => ∃ v, e = .returned v ∧ Rows.fnExactFoldAllSpec.post enc Tryd.prog Tryd.f4 false true false false W args v W' := by
  obtain ⟨ee, hE⟩ := errsLaid hL
  have hW' := hW
  obtain ⟨p, q, hA0, hV, rfl, hfz, hnd⟩ := hW
  have hA : DataW.TrodAll enc Tryd.prog W 0 (fun _ => true) true Tryd.f4.params.toList args.toList ds p := hA0
  rw [Tryd.params4] at hA hval
  clear hA0
  obtain ⟨v0, vs0, d0, ds0, p0, q0, hargs, rfl, rfl, h0, r0⟩ := trodAll_cons hA
  obtain ⟨v1, vs1, d1, ds1, p1, q1, rfl, rfl, rfl, h1, r1⟩ := trodAll_cons r0
  obtain ⟨rfl, rfl, rfl⟩ := trodAll_nil r1
  obtain rfl : args = #[v0, v1] := by cases args; simp_all
  obtain ⟨z0, z1, z2, z3, z4, z5, z6, rfl⟩ := vars_of hV
  obtain ⟨x, hx, rfl⟩ := sheS.open_one (hval 0 24 v0 rfl rfl) h0
  obtain ⟨A, c, ks, rfl, hl, hg⟩ := intS.open_many (hval 1 31 v1 rfl rfl) h1
  have walk : Calls Tryd.prog 4 #[x.v, .slice A ks.length c] W fun e W' => e = .returned (.bool true) ∧ Below W.heap.size W W' := by
    unfold maxLen at hl
    rcases Nat.lt_or_ge 1048576 ks.length with h | h
    · exact walk_long x A _ c hl h W
    · exact walk_fits x hx A _ c ks rfl h W ee hE hg
  refine walk.mono fun e W' ⟨he, hb⟩ => ?_
  subst he
  exact ⟨_, rfl, close_vars laidOut readables (by kernel_rfl) Tryd.underlying4 rfl rfl hW' hb⟩

end Go.Proofs.YtcbbabepjfiigaaDoor.lawFoldAll
