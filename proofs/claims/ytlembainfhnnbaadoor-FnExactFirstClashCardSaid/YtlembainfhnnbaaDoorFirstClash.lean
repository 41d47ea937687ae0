/-
  THE LAW FnExactFirstClash: for every number of stitches and every list of marks the law returns true: the program finds the first pair that is not told apart as the model does, and changes no mark. No condition but that the package's errors are what the program's text lays.
-/
import Derived.Test.YtlembainfhnnbaaDoorJoin16
import Derived.Test.YtlembainfhnnbaaDoorMarOpen
import Derived.Test.YtlembainfhnnbaaDoorClose
import Derived.Test.YtlembainfhnnbaaDoorLaid
import Derived.Test.YtlembainfhnnbaaDoorCards
import Derived.Test.YtlembainfhnnbaaDoorTie
import Derived.ProofKit
import Derived.LaidLaws
import Derived.LaidHandle
import Derived.OpenShut
import Derived.Lib.SmallJoins
namespace Go.Proofs.YtlembainfhnnbaaDoor.lawFirstClash
open Go.ChangeShapes Go.WideShapes Go.ChangeAt Go.RowKit Go.Joins sl errs mks

set_option maxRecDepth 100000 in
set_option maxHeartbeats 4000000 in
theorem walk (s : Int) (A : Option Addr) (n c : Nat) (xs : List Nat) (en : n = xs.length)  (hn : n ≤ 1048576) (hf : ∀ x ∈ xs, x < 65536) (w : World) (e : Nat → Addr) (hE : Errs w w.heap.size e) (hT : w.cell? ⟨7, 0, none⟩ = some (.iface 121 (.agg #[.pointer (some ⟨8, 65, none⟩)]))) (hTl : 7 < w.heap.size) (hg : Sl marS.C 1 w w.heap.size A xs) :
    Calls Tryd.prog 5 #[.int .i64 s, .slice A n c] w fun o w' => o = .returned (.bool true) ∧ Below w.heap.size w w' := by
  obtain ⟨a, b, k, hr⟩ : ∃ a b k, fstR s xs = (a, b, k) := ⟨_, _, _, rfl⟩
  have HR := Lib.hid hr
  have En := Lib.hid en
  have HF := Lib.hid hf
  have HG := Lib.hid hg
  have HE := Lib.hid hE
  have HT := Lib.hid hT
  have HTL := Lib.hid hTl
  clear hr en hf hg hE hT hTl
  go_enter Tryd.func5, Tryd.ntmps5
  go_wp2_with fail
  refine (marS.toS_any A n c xs En.out hn _ HG.out).mono ?_
  rintro o w1 ⟨g1, rfl, P1, hb1⟩
  have S1 := Lib.hid (Sl.of_owns P1 (marS.len xs) (by decide))
  have H1 := Lib.hid hb1
  clear P1 hb1
  go_wp2_with fail
  refine (FirstClash_spec s (some ⟨g1, 0, none⟩) n n xs En.out hn HF.out a b k HR.out _ S1.out).mono ?_
  rintro o w2 ⟨rfl, hb2⟩
  have H2 := Lib.hid (below_next H1.out hb2 (Nat.le_refl _))
  clear S1 hb2 H1
  go_wp2_with fail
  refine (marS.toS_any A n c xs En.out hn _ ((HG.out.below H2.out).more H2.out.size)).mono ?_
  rintro o w3 ⟨g3, rfl, P3, hb3⟩
  have S3 := Lib.hid (Sl.of_owns P3 (marS.len xs) (by decide))
  have H3 := Lib.hid (below_next H2.out hb3 (Nat.le_refl _))
  clear hb3 H2 P3
  go_wp2_with fail
  refine (FirstClash_any s (some ⟨g3, 0, none⟩) n xs En.out hn HF.out a b k HR.out (HE.out.below H3.out) H3.out.size ((H3.out.cell (p := ⟨7, 0, none⟩) HTL.out).trans HT.out) (Nat.lt_of_lt_of_le HTL.out H3.out.size) S3.out).mono ?_
  rintro o w4 ⟨rfl, hb4⟩
  have S4 := Lib.hid (S3.out.next hb4)
  have H4 := Lib.hid (below_next H3.out hb4 (Nat.le_refl _))
  clear hb4 H3 S3
  go_wp2_with fail
  refine (marS.toS_any A n c xs En.out hn _ ((HG.out.below H4.out).more H4.out.size)).mono ?_
  rintro o w5 ⟨g5, rfl, P5, hb5⟩
  have S5 := Lib.hid (Sl.of_owns P5 (marS.len xs) (by decide))
  have S4b := Lib.hid (S4.out.next hb5)
  have H5 := Lib.hid (below_next H4.out hb5 (Nat.le_refl _))
  clear hb5 H4 P5 S4
  go_wp2_with fail
  refine (marS.eqS_any (some ⟨g3, 0, none⟩) (some ⟨g5, 0, none⟩) n n n n xs xs En.out En.out hn (by omega) _ S4b.out S5.out true (by simp)).mono ?_
  rintro o w6 ⟨rfl, hb6⟩
  have H6 := below_next H5.out hb6 (Nat.le_refl _)
  go_wp2_with fail
  go_ret
  exact ⟨rfl, H6⟩

set_option maxHeartbeats 1000000 in
theorem walk_long (s : Int) (A : Option Addr) (n c : Nat) (hm : n ≤ 9223372036854775807) (hn : 1048576 < n) (w : World) :
    Calls Tryd.prog 5 #[.int .i64 s, .slice A n c] w fun e w' => e = .returned (.bool true) ∧ Below w.heap.size w w' := by
  go_enter Tryd.func5, Tryd.ntmps5
  go_wp2_with fail
  go_ret
  exact ⟨rfl, Below.refl _ _⟩

theorem readables : ∀ t ∈ Tryd.f5.params.toList, Tryd.prog.readableRec t = true ∧ t < Tryd.prog.types.size := by
  rw [Tryd.params5]
  intro t ht
  simp only [List.mem_cons, List.not_mem_nil, or_false] at ht
  rcases ht with rfl | rfl <;> exact ⟨by kernel_rfl, of_decide_eq_true (by kernel_rfl)⟩

abbrev rowL : List (String × DataW Unit) := Rows.fnExactFirstClashRow.laid
abbrev plainL : List (String × DataW Unit) := rowL.filter fun x => x.2.handleName?.isNone
theorem handL : (rowL.filter fun x => x.2.handleName?.isSome) = [("errors.errorType", Rows.laid_errors_errorType)] := by kernel_rfl
theorem laidParts {W : World} (h : laidMetH Tryd.prog Rows.fnExactFirstClashRow.laid W) : laidMet Tryd.prog plainL W ∧ handlesMet Tryd.prog [("errors.errorType", Rows.laid_errors_errorType)] W := by
  unfold laidMetH at h
  rw [handL] at h
  exact h
set_option maxRecDepth 100000 in
/-- what the row's list gives -/
theorem errsLaid {W : World} (h : laidMetH Tryd.prog Rows.fnExactFirstClashRow.laid W) : ∃ e, Errs W W.heap.size e := by
  have h := (laidParts h).1
  refine errs_of plainL (fun i => i) h (by kernel_rfl) ?_ ?_ (fun i j _ _ h => h)
  · have hall : ((listOf plainL).all fun x => match Tryd.prog.globalNamed x.1 with | some g => decide ((Tryd.prog.globals[g]?).map (·.type) = some 65) | none => false) = true := by kernel_rfl
    intro x hx
    have h1 := List.all_eq_true.1 hall x hx
    split at h1
    · rename_i g hg
      exact ⟨g, hg, of_decide_eq_true h1⟩
    · cases h1
  · have b0 : ((listOf plainL)[0]?).bind (fun x => Tryd.prog.globalNamed x.1) = some (gvar 0) := by kernel_rfl
    have b1 : ((listOf plainL)[1]?).bind (fun x => Tryd.prog.globalNamed x.1) = some (gvar 1) := by kernel_rfl
    have b2 : ((listOf plainL)[2]?).bind (fun x => Tryd.prog.globalNamed x.1) = some (gvar 2) := by kernel_rfl
    have b3 : ((listOf plainL)[3]?).bind (fun x => Tryd.prog.globalNamed x.1) = some (gvar 3) := by kernel_rfl
    have b4 : ((listOf plainL)[4]?).bind (fun x => Tryd.prog.globalNamed x.1) = some (gvar 4) := by kernel_rfl
    have b5 : ((listOf plainL)[5]?).bind (fun x => Tryd.prog.globalNamed x.1) = some (gvar 5) := by kernel_rfl
    have b6 : ((listOf plainL)[6]?).bind (fun x => Tryd.prog.globalNamed x.1) = some (gvar 6) := by kernel_rfl
    intro i hi
    match i, hi with
    | 0, _ => exact b0
    | 1, _ => exact b1
    | 2, _ => exact b2
    | 3, _ => exact b3
    | 4, _ => exact b4
    | 5, _ => exact b5
    | 6, _ => exact b6
theorem et : Tryd.prog.globalNamed "errors.errorType" = some 7 := by kernel_rfl
theorem rt : (Tryd.prog.cutTypes.find? (·.1 == "internal/reflectlite.rtype")).map (·.2) = some 121 := by kernel_rfl
theorem oneRow : ((List.range Tryd.prog.types.size).filter fun t => Tryd.prog.rowNamed t [101, 114, 114, 111, 114]) = [65] := by kernel_rfl
/-- the cell of the type's variable -/
theorem handleLaid {W : World} (h : laidMetH Tryd.prog Rows.fnExactFirstClashRow.laid W) : W.cell? ⟨7, 0, none⟩ = some (.iface 121 (.agg #[.pointer (some ⟨8, 65, none⟩)])) ∧ 7 < W.heap.size := by
  obtain ⟨name, u, ty, e1, e2, e3, e4, e5⟩ := (laidParts h).2 _ (List.mem_singleton.2 rfl)
  have en : name = [101, 114, 114, 111, 114] := (Option.some.inj e1).symm
  subst en
  obtain rfl := Option.some.inj (rt.symm.trans e2)
  have hm : ty ∈ (List.range Tryd.prog.types.size).filter fun t => Tryd.prog.rowNamed t [101, 114, 114, 111, 114] := List.mem_filter.2 ⟨List.mem_range.2 e3, e4⟩
  rw [oneRow] at hm
  obtain rfl := List.mem_singleton.1 hm
  have hh : typeHandle Tryd.prog 65 = .pointer (some ⟨8, 65, none⟩) := by kernel_rfl
  rw [hh] at e5
  have hc : W.cell? ⟨7, 0, none⟩ = some (.iface 121 (.agg #[.pointer (some ⟨8, 65, none⟩)])) := by simpa using World.var?_cell et e5 0
  refine ⟨hc, ?_⟩
  rcases Nat.lt_or_ge 7 W.heap.size with h1 | h1
  · exact h1
  · simp [World.cell?, Array.getElem?_eq_none h1] at hc

set_option maxRecDepth 100000 in
theorem contract (H : Type) (enc : TypeId × Value → H) (W : World) (base : Nat) (args : Array Value) (ds gs : List (DataW H)) (before : List MemPlace)
    (hval : ∀ (j : Nat) t v, Tryd.f5.params[j]? = some t → args[j]? = some v → Value.okWide Tryd.prog W .any base t v)
    (hW : DataW.Whole enc Tryd.prog Tryd.f5.params.toList Rows.fnExactFirstClashSpec.vars false W args.toList ds gs before) (hL : laidMetH Tryd.prog Rows.fnExactFirstClashRow.laid W) :
    Calls Tryd.prog 5 args W fun e W' => ∃ v, e = .returned v ∧ Rows.fnExactFirstClashSpec.post enc Tryd.prog Tryd.f5 false true false false W args v W' := by
  obtain ⟨ee, hE⟩ := errsLaid hL
  have hW' := hW
  obtain ⟨p, q, hA0, hV, rfl, hfz, hnd⟩ := hW
  have hA : DataW.TrodAll enc Tryd.prog W 0 (fun _ => true) true Tryd.f5.params.toList args.toList ds p := hA0
  rw [Tryd.params5] at hA hval
  clear hA0
  obtain ⟨v0, vs0, d0, ds0, p0, q0, hargs, rfl, rfl, h0, r0⟩ := trodAll_cons hA
  obtain ⟨v1, vs1, d1, ds1, p1, q1, rfl, rfl, rfl, h1, r1⟩ := trodAll_cons r0
  obtain ⟨rfl, rfl, rfl⟩ := trodAll_nil r1
  obtain rfl : args = #[v0, v1] := by cases args; simp_all
  obtain ⟨z0, z1, z2, z3, z4, z5, z6, rfl⟩ := vars_of hV
  obtain ⟨s, rfl, rfl, rfl, _⟩ := open_int Tryd.underlying2 (hval 0 2 v0 rfl rfl) h0
  obtain ⟨A, c, xs, rfl, hl, hg, hf⟩ := marS.open_many (hval 1 30 v1 rfl rfl) h1
  have walk : Calls Tryd.prog 5 #[.int .i64 s, .slice A xs.length c] W fun e W' => e = .returned (.bool true) ∧ Below W.heap.size W W' := by
    unfold maxLen at hl
    rcases Nat.lt_or_ge 1048576 xs.length with h | h
    · exact walk_long s A _ c hl h W
    · exact walk s A _ c xs rfl  h hf W ee hE (handleLaid hL).1 (handleLaid hL).2 hg
  refine walk.mono fun e W' ⟨he, hb⟩ => ?_
  subst he
  exact ⟨_, rfl, close_vars laidOut readables (by kernel_rfl) Tryd.underlying4 rfl rfl hW' hb⟩

end Go.Proofs.YtlembainfhnnbaaDoor.lawFirstClash
