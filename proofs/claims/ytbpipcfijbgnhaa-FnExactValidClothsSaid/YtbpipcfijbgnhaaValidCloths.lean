/-
  THE LAW FnExactValidCloths: for every list of cloths the law returns true: the program says that all are valid just where the model does, and changes no cloth. No condition.
-/
import Derived.Test.YtbpipcfijbgnhaaCloVal
import Derived.Test.YtbpipcfijbgnhaaCloOpen
import Derived.Test.YtbpipcfijbgnhaaClose
import Derived.ProofKit
import Derived.OpenShut
import Derived.Lib.SmallJoins
namespace Go.Proofs.Ytbpipcfijbgnhaa.validCloths
open Go.ChangeShapes Go.WideShapes Go.ChangeAt Go.RowKit Go.Joins sl hang

theorem own : ownKnob Try.prog.godebug = none := by kernel_rfl
theorem laidOut : laidOutB Try.prog = true := by kernel_rfl
set_option maxHeartbeats 1000000 in
theorem ValidCloths_spec (A : Option Addr) (n c : Nat) (xs : List Clo) (en : n = xs.length) (hn : n ≤ 9223372036854775807) (hf : ∀ x ∈ xs, x.Fits) (w : World) (hg : Sl Clo.cells 2 w w.heap.size A xs) :
    Calls Try.prog 6 #[.slice A n c] w fun e w' => e = .returned (.bool (xs.all Clo.valid)) ∧ w = w' := by
  have En := Lib.hid en
  clear en
  go_enter Try.func6, Try.ntmps6
  go_wp2_with fail
  refine (l02Cloths_any A n c xs En.out hn hf _ _ hg).mono ?_
  rintro o w1 ⟨rfl, rfl⟩
  go_wp2_with fail
  go_ret
  exact ⟨rfl, rfl⟩

set_option maxHeartbeats 4000000 in
theorem walk_fits (A : Option Addr) (n c : Nat) (xs : List Clo) (en : n = xs.length) (hn : n ≤ 1048576) (hf : ∀ x ∈ xs, x.Fits) (w : World) (hg : Sl Clo.cells 2 w w.heap.size A xs) :
    Calls Try.prog 3 #[.slice A n c] w fun o w' => o = .returned (.bool true) ∧ Below w.heap.size w w' := by
  have En := Lib.hid en
  subst en
  go_enter Try.func3, Try.ntmps3
  go_wp2_with fail
  refine (cloS.szS_any A xs.length c 1048576 (by omega) (by omega) _).mono ?_
  rintro o w1 ⟨rfl, rfl⟩
  rw [if_neg (by omega)]
  go_wp2_with fail
  refine (cloS.toS_any A c xs hn _ hg).mono ?_
  rintro o w1 ⟨g1, rfl, P1, hb1⟩
  have S1 := Sl.of_owns P1 (Clo.len xs) (by decide)
  have H1 := hb1
  clear P1 hb1
  go_wp2_with fail
  refine (ValidCloths_spec (some ⟨g1, 0, none⟩) xs.length xs.length xs rfl (by omega) hf _ S1).mono ?_
  rintro o w2 ⟨rfl, rfl⟩
  clear S1
  go_wp2_with fail
  refine (cloS.toS_any A c xs hn _ ((hg.below H1).more H1.size)).mono ?_
  rintro o w3 ⟨g3, rfl, P3, hb3⟩
  have H3 := below_next H1 hb3 (Nat.le_refl _)
  have S3 := Sl.of_owns P3 (Clo.len xs) (by decide)
  clear hb3 H1 P3
  go_wp2_with fail
  refine (ValidCloths_any (some ⟨g3, 0, none⟩) xs.length xs.length xs rfl (by omega) hf _ S3).mono ?_
  rintro o w4 ⟨rfl, hb4⟩
  have S4 := S3.next hb4
  have H4 := below_next H3 hb4 (Nat.le_refl _)
  clear hb4 H3 S3
  go_wp2_with fail
  refine (cloS.toS_any A c xs hn _ ((hg.below H4).more H4.size)).mono ?_
  rintro o w5 ⟨g5, rfl, P5, hb5⟩
  have S5 := Sl.of_owns P5 (Clo.len xs) (by decide)
  have S4 := S4.next hb5
  have H5 := below_next H4 hb5 (Nat.le_refl _)
  clear hb5 H4 P5
  go_wp2_with fail
  refine (cloS.eqS_any (some ⟨g3, 0, none⟩) (some ⟨g5, 0, none⟩) xs.length xs.length xs.length xs.length xs xs rfl rfl hn (by omega) _ S4 S5 true (by simp)).mono ?_
  rintro o w6 ⟨rfl, hb6⟩
  have H6 := below_next H5 hb6 (Nat.le_refl _)
  go_wp2_with fail
  go_ret
  exact ⟨rfl, H6⟩

set_option maxHeartbeats 1000000 in
theorem walk_long (A : Option Addr) (n c : Nat) (hm : n ≤ 9223372036854775807) (hn : 1048576 < n) (w : World) :
    Calls Try.prog 3 #[.slice A n c] w fun e w' => e = .returned (.bool true) ∧ Below w.heap.size w w' := by
  go_enter Try.func3, Try.ntmps3
  go_wp2_with fail
  refine (cloS.szS_any A n c 1048576 hm (by omega) _).mono ?_
  rintro o w1 ⟨rfl, rfl⟩
  rw [if_pos (by omega)]
  go_wp2_with fail
  go_ret
  exact ⟨rfl, Below.refl _ _⟩

theorem readables : ∀ t ∈ Try.f3.params.toList, Try.prog.readableRec t = true ∧ t < Try.prog.types.size := by
  rw [Try.params3]
  intro t ht
  simp only [List.mem_cons, List.not_mem_nil, or_false] at ht
  subst ht
  exact ⟨by kernel_rfl, of_decide_eq_true (by kernel_rfl)⟩

theorem contract (H : Type) (enc : TypeId × Value → H) (W : World) (base : Nat) (args : Array Value) (ds gs : List (DataW H)) (before : List MemPlace)
    (hval : ∀ (j : Nat) t v, Try.f3.params[j]? = some t → args[j]? = some v → Value.okWide Try.prog W .any base t v)
    (hW : DataW.Whole enc Try.prog Try.f3.params.toList Rows.fnExactValidClothsSpec.vars false W args.toList ds gs before) :
    Calls Try.prog 3 args W fun e W' => ∃ v, e = .returned v ∧ Rows.fnExactValidClothsSpec.post enc Try.prog Try.f3 false true false false W args v W' := by
  have hW' := hW
  obtain ⟨p, q, hA0, hV, rfl, hfz, hnd⟩ := hW
  have hA : DataW.TrodAll enc Try.prog W 0 (fun _ => true) true Try.f3.params.toList args.toList ds p := hA0
  rw [Try.params3] at hA hval
  clear hA0
  obtain ⟨v0, vs0, d0, ds0, p0, q0, hargs, rfl, rfl, h0, r0⟩ := trodAll_cons hA
  obtain ⟨rfl, rfl, rfl⟩ := trodAll_nil r0
  obtain rfl : args = #[v0] := by cases args; simp_all
  obtain ⟨rfl, rfl⟩ := trodVars_none hV
  obtain ⟨A, c, xs, rfl, hl, hg, hf⟩ := cloS.open_many (hval 0 22 v0 rfl rfl) h0
  have walk : Calls Try.prog 3 #[.slice A xs.length c] W fun e W' => e = .returned (.bool true) ∧ Below W.heap.size W W' := by
    unfold maxLen at hl
    rcases Nat.lt_or_ge 1048576 xs.length with h | h
    · exact walk_long A _ c hl h W
    · exact walk_fits A _ c xs rfl h hf W hg
  refine walk.mono fun e W' ⟨he, hb⟩ => ?_
  subst he
  exact ⟨_, rfl, close_law laidOut readables rfl Try.underlying4 rfl rfl hW' hb⟩

set_option maxRecDepth 100000 in
theorem lifted (os : Os) (started : os.Started) (H : Type) (enc : TypeId × Value → H) :
    ReturnsInHanded {} Try.checked os 3 .any (Rows.fnExactValidClothsSpec.pre6 enc Try.prog Try.f3 Rows.fnExactValidClothsRow.domain false) (Rows.fnExactValidClothsSpec.post enc Try.prog Try.f3 false true false false) := by
  refine returnsInHanded_of_change (C := Try.checked) own started (by kernel_rfl) Try.func3
    (ChangeSpec.witness6 (enc := enc) (C := Try.checked) false ⟨#[], #[.slice none 0 0], []⟩ 8 (by kernel_rfl) (by kernel_rfl) (by kernel_rfl) (by kernel_rfl)) ?_
  intro W base args ds gs before hval hW _ _
  exact contract H enc W base args ds gs before hval hW

theorem holds : Rows.FnExactValidClothsSaid :=
  OpenClaim.holds_of_wide 3 Try.f3 rfl rfl rfl rfl rfl rfl rfl ⟨rfl, rfl, rfl, rfl, rfl⟩ rfl rfl rfl rfl rfl (by kernel_rfl) Try.func3 (by kernel_rfl)
    (of_decide_eq_true (by kernel_rfl)) (by unfold Func.isWrapper; first | (rw [if_pos (by decide +kernel)]; kernel_rfl) | (rw [if_neg (by decide +kernel)]; exact ⟨rfl, rfl⟩))
    (fun os started H enc _ => lifted os started H enc)
end Go.Proofs.Ytbpipcfijbgnhaa.validCloths
