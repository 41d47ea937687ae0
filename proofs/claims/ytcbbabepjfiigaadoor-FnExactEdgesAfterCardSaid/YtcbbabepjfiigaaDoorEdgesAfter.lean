/-
  THE LAW FnExactEdgesAfter: for every list of folds the law returns true: the program answers as the model does, and changes no list. No condition but that the package's errors are what the program's text lays.
-/
import Derived.Test.YtcbbabepjfiigaaDoorJoin14
import Derived.Test.YtcbbabepjfiigaaDoorJoin16
import Derived.Test.YtcbbabepjfiigaaDoorClose
import Derived.Test.YtcbbabepjfiigaaDoorLaid
import Derived.Test.YtcbbabepjfiigaaDoorCards
import Derived.Test.YtcbbabepjfiigaaDoorTie
namespace Go.Proofs.YtcbbabepjfiigaaDoor.lawEdgesAfter
open Go.ChangeShapes Go.WideShapes Go.ChangeAt Go.RowKit Go.Joins sl errs fold

set_option maxRecDepth 100000 in
set_option maxHeartbeats 4000000 in
theorem walk_fits (A : Option Addr) (n c : Nat) (ks : List Int) (en : n = ks.length) (hn : n ≤ 1048576) (w : World) (e : Nat → Addr) (hE : Errs w w.heap.size e) (hg : Sl intS.C 1 w w.heap.size A ks) :
    Calls Tryd.prog 8 #[.slice A n c] w fun o w' => o = .returned (.bool true) ∧ Below w.heap.size w w' := by
  subst en
  have S0 := Lib.hid (Below.refl w.heap.size w)
  have hsp := fun (g : Nat) (u : World) (hh : Sl intS.C 1 u u.heap.size (some ⟨g, 0, none⟩) ks) => EdgesAfter_spec (some ⟨g, 0, none⟩) ks.length ks.length ks rfl (by omega) u hh
  have him := fun (g : Nat) (u : World) (hb : Below w.heap.size w u) (hh : Sl intS.C 1 u u.heap.size (some ⟨g, 0, none⟩) ks) => EdgesAfter_any (some ⟨g, 0, none⟩) ks.length ks.length ks rfl (by omega) (hE.below hb) hb.size hh
  obtain ⟨r, hr⟩ : ∃ r, edgesR ks = r := ⟨_, rfl⟩
  obtain ⟨rc, hc⟩ : ∃ r, codeE ks = r := ⟨_, rfl⟩
  rw [hr, hc] at hsp him
  obtain ⟨rl, rr, ru, rd⟩ := r
  have HSP := Lib.hid hsp
  have HIM := Lib.hid him
  clear hr hc hsp him hE
  go_enter Tryd.func8, Tryd.ntmps8
  go_wp2_with fail
  refine (intS.toS_any A ks.length c ks rfl hn _ (hg.below S0.out)).mono ?_
  rintro o u ⟨g1, rfl, P, hb⟩
  have S2 := Lib.hid (S0.out.trans hb)
  have I1 := Lib.hid P
  clear P hb S0
  go_wp2_with fail
  refine (HSP.out g1 _ (Sl.of_owns I1.out (intS.len _) (by decide))).mono ?_
  rintro o w2 ⟨rfl, hb⟩
  have B2 := Lib.hid (below_next S2.out hb (Nat.le_refl _))
  clear hb S2 I1
  have S3 := Lib.hid (Box.new (⟨rl, rr, ru, rd⟩ : Edg).cells (Below.refl w2.heap.size w2) #[.int .i64 rl, .int .i64 rr, .int .i64 ru, .int .i64 rd] rfl 43)
  have B3 := Lib.hid (B2.out.alloc B2.out.size (.cells #[.int .i64 rl, .int .i64 rr, .int .i64 ru, .int .i64 rd] 43))
  clear B2
  go_wp2_with fail
  refine (intS.toS_any A ks.length c ks rfl hn _ ((hg.below B3.out).more B3.out.size)).mono ?_
  rintro o u ⟨g3, rfl, P, hb⟩
  have S4 := Lib.hid (S3.out.next hb)
  have B4 := Lib.hid (below_next B3.out hb (Nat.le_refl _))
  have I4 := Lib.hid P
  clear P hb S3 B3
  go_wp2_with fail
  refine (HIM.out g3 _ B4.out (Sl.of_owns I4.out (intS.len _) (by decide))).mono ?_
  rintro o w6 ⟨rfl, hb⟩
  have S6 := Lib.hid ((S4.out.next hb).alloc (.cells #[.int .i64 rl, .int .i64 rr, .int .i64 ru, .int .i64 rd] 43))
  have R6 := Lib.hid (Box.new (⟨rl, rr, ru, rd⟩ : Edg).cells (Below.refl w6.heap.size w6) #[.int .i64 rl, .int .i64 rr, .int .i64 ru, .int .i64 rd] rfl 43)
  have B6 := Lib.hid ((below_next B4.out hb (Nat.le_refl _)).alloc (Nat.le_trans B4.out.size hb.size) (.cells #[.int .i64 rl, .int .i64 rr, .int .i64 ru, .int .i64 rd] 43))
  have I6 := Lib.hid (owns_next (owns_next I4.out hb) ((Below.refl _ _).alloc (Nat.le_refl _) (.cells #[.int .i64 rl, .int .i64 rr, .int .i64 ru, .int .i64 rd] 43)))
  clear hb S4 B4 I4
  obtain ⟨s0, s1, s2, s3⟩ := Box.four S6.out
  obtain ⟨r0, r1, r2, r3⟩ := Box.four R6.out
  go_wp2_with fail
  refine (eqE ⟨rl, rr, ru, rd⟩ _).mono ?_
  rintro o w7 ⟨rfl, hb⟩
  have B7 := Lib.hid (below_next B6.out hb (Nat.le_refl _))
  have I7 := Lib.hid (owns_next I6.out hb)
  clear hb S6 R6 B6 I6 s0 s1 s2 s3 r0 r1 r2 r3
  go_wp2_with fail
  refine (intS.toS_any A ks.length c ks rfl hn _ ((hg.below B7.out).more B7.out.size)).mono ?_
  rintro o u ⟨g8, rfl, P, hb⟩
  have B8 := Lib.hid (below_next B7.out hb (Nat.le_refl _))
  have I8 := Lib.hid (owns_next I7.out hb)
  have J8 := Lib.hid P
  clear P hb B7 I7
  go_wp2_with fail
  refine (intS.eqS_any (some ⟨g3, 0, none⟩) (some ⟨g8, 0, none⟩) ks.length ks.length ks.length ks.length ks ks rfl rfl hn (by omega) _ (Sl.of_owns I8.out (intS.len _) (by decide)) (Sl.of_owns J8.out (intS.len _) (by decide)) true (by simp)).mono ?_
  rintro o u ⟨rfl, hb⟩
  have B9 := Lib.hid (below_next B8.out hb (Nat.le_refl _))
  clear hb B8 I8 J8
  go_wp2_with fail
  go_ret
  exact ⟨rfl, B9.out⟩

set_option maxHeartbeats 1000000 in
theorem walk_long (A : Option Addr) (n c : Nat) (hm : n ≤ 9223372036854775807) (hn : 1048576 < n) (w : World) :
    Calls Tryd.prog 8 #[.slice A n c] w fun e w' => e = .returned (.bool true) ∧ Below w.heap.size w w' := by
  go_enter Tryd.func8, Tryd.ntmps8
  go_wp2_with fail
  go_ret
  exact ⟨rfl, Below.refl _ _⟩

theorem readables : ∀ t ∈ Tryd.f8.params.toList, Tryd.prog.readableRec t = true ∧ t < Tryd.prog.types.size := by
  rw [Tryd.params8]
  intro t ht
  simp only [List.mem_cons, List.not_mem_nil, or_false] at ht
  rcases ht with rfl | rfl <;> exact ⟨by kernel_rfl, of_decide_eq_true (by kernel_rfl)⟩

set_option maxRecDepth 100000 in
/-- what the row's list gives -/
theorem errsLaid {W : World} (h : laidMetH Tryd.prog Rows.fnExactEdgesAfterRow.laid W) : ∃ e, Errs W W.heap.size e := by
  rw [MakeChecks.laidMetH_plain _ _ _ (by kernel_rfl)] at h
  refine errs_of Rows.fnExactEdgesAfterRow.laid (fun i => i) h (by kernel_rfl) ?_ ?_ (fun i j _ _ h => h)
  · have hall : ((listOf Rows.fnExactEdgesAfterRow.laid).all fun x => match Tryd.prog.globalNamed x.1 with | some g => decide ((Tryd.prog.globals[g]?).map (·.type) = some 65) | none => false) = true := by kernel_rfl
    intro x hx
    have h1 := List.all_eq_true.1 hall x hx
    split at h1
    · rename_i g hg
      exact ⟨g, hg, of_decide_eq_true h1⟩
    · cases h1
  · have b0 : ((listOf Rows.fnExactEdgesAfterRow.laid)[0]?).bind (fun x => Tryd.prog.globalNamed x.1) = some (gvar 0) := by kernel_rfl
    have b1 : ((listOf Rows.fnExactEdgesAfterRow.laid)[1]?).bind (fun x => Tryd.prog.globalNamed x.1) = some (gvar 1) := by kernel_rfl
    have b2 : ((listOf Rows.fnExactEdgesAfterRow.laid)[2]?).bind (fun x => Tryd.prog.globalNamed x.1) = some (gvar 2) := by kernel_rfl
    have b3 : ((listOf Rows.fnExactEdgesAfterRow.laid)[3]?).bind (fun x => Tryd.prog.globalNamed x.1) = some (gvar 3) := by kernel_rfl
    have b4 : ((listOf Rows.fnExactEdgesAfterRow.laid)[4]?).bind (fun x => Tryd.prog.globalNamed x.1) = some (gvar 4) := by kernel_rfl
    have b5 : ((listOf Rows.fnExactEdgesAfterRow.laid)[5]?).bind (fun x => Tryd.prog.globalNamed x.1) = some (gvar 5) := by kernel_rfl
    have b6 : ((listOf Rows.fnExactEdgesAfterRow.laid)[6]?).bind (fun x => Tryd.prog.globalNamed x.1) = some (gvar 6) := by kernel_rfl
    intro i hi
    match i, hi with
    | 0, _ => exact b0
    | 1, _ => exact b1
    | 2, _ => exact b2
    | 3, _ => exact b3
    | 4, _ => exact b4
    | 5, _ => exact b5
    | 6, _ => exact b6

set_option maxRecDepth 100000 in
theorem contract (H : Type) (enc : TypeId × Value → H) (W : World) (base : Nat) (args : Array Value) (ds gs : List (DataW H)) (before : List MemPlace)
    (hval : ∀ (j : Nat) t v, Tryd.f8.params[j]? = some t → args[j]? = some v → Value.okWide Tryd.prog W .any base t v)
    (hW : DataW.Whole enc Tryd.prog Tryd.f8.params.toList Rows.fnExactEdgesAfterSpec.vars false W args.toList ds gs before) (hL : laidMetH Tryd.prog Rows.fnExactEdgesAfterRow.laid W) :
    Calls Tryd.prog 8 args W fun e W' => ∃ v, e = .returned v ∧ Rows.fnExactEdgesAfterSpec.post enc Tryd.prog Tryd.f8 false true false false W args v W' := by
  obtain ⟨ee, hE⟩ := errsLaid hL
  have hW' := hW
  obtain ⟨p, q, hA0, hV, rfl, hfz, hnd⟩ := hW
  have hA : DataW.TrodAll enc Tryd.prog W 0 (fun _ => true) true Tryd.f8.params.toList args.toList ds p := hA0
  rw [Tryd.params8] at hA hval
  clear hA0
  obtain ⟨v0, vs0, d0, ds0, p0, q0, hargs, rfl, rfl, h0, r0⟩ := trodAll_cons hA
  obtain ⟨rfl, rfl, rfl⟩ := trodAll_nil r0
  obtain rfl : args = #[v0] := by cases args; simp_all
  obtain ⟨z0, z1, z2, z3, z4, z5, z6, rfl⟩ := vars_of hV
  obtain ⟨A, c, ks, rfl, hl, hg⟩ := intS.open_many (hval 0 31 v0 rfl rfl) h0
  have walk : Calls Tryd.prog 8 #[.slice A ks.length c] W fun e W' => e = .returned (.bool true) ∧ Below W.heap.size W W' := by
    unfold maxLen at hl
    rcases Nat.lt_or_ge 1048576 ks.length with h | h
    · exact walk_long A _ c hl h W
    · exact walk_fits A _ c ks rfl h W ee hE hg
  refine walk.mono fun e W' ⟨he, hb⟩ => ?_
  subst he
  exact ⟨_, rfl, close_vars laidOut readables (by kernel_rfl) Tryd.underlying4 rfl rfl hW' hb⟩

end Go.Proofs.YtcbbabepjfiigaaDoor.lawEdgesAfter
