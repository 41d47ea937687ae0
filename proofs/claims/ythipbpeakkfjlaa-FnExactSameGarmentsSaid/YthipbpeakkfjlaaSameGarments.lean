/-
  THE LAW FnExactSameGarments: for all two lists of garments the law returns true: the program says that they are equal just where the model does, and changes none. No condition.
-/
import Derived.Test.YthipbpeakkfjlaaOpenS
import Derived.Test.YthipbpeakkfjlaaClose
namespace Go.Proofs.Ythipbpeakkfjlaa.sameGarments
open Go.ChangeShapes Go.WideShapes Go.ChangeAt Go.RowKit Go.Joins garS

theorem some_bool (p : Prop) : ∃ b : Bool, b = true ↔ p := by
  by_cases h : p
  · exact ⟨true, by simp [h]⟩
  · exact ⟨false, by simp [h]⟩

set_option maxHeartbeats 4000000 in
theorem walk_fits (A A' : Option Addr) (c c' : Nat) (gs gs' : List Gar) (hn : gs.length + gs'.length ≤ 1048576) (w : World) (hg : GS w w.heap.size A gs) (hg' : GS w w.heap.size A' gs') :
    Calls Try.prog 6 #[.slice A gs.length c, .slice A' gs'.length c'] w fun e w' => e = .returned (.bool true) ∧ Below w.heap.size w w' := by
  obtain ⟨b, hb⟩ := some_bool (gs = gs')
  have Hb := Lib.hid hb
  clear hb
  go_enter Try.func6, Try.ntmps6
  go_wp2_with fail
  refine (szGarmentS_any A gs.length c 1048576 (by omega) (by omega) _).mono ?_
  rintro e w1 ⟨rfl, rfl⟩
  rw [if_neg (by omega)]
  go_wp2_with fail
  refine (szGarmentS_any A' gs'.length c' (1048576 - gs.length) (by omega) (by omega) _).mono ?_
  rintro e w1 ⟨rfl, rfl⟩
  rw [if_neg (by omega)]
  go_wp2_with fail
  refine (toGarmentS_any A c gs (by omega) _ hg).mono ?_
  rintro e w1 ⟨g1, cs1, rfl, hg1, P1, hb1⟩
  have H1 := hb1
  go_wp2_with fail
  refine (toGarmentS_any A' c' gs' (by omega) _ ((hg'.below H1).more H1.size)).mono ?_
  rintro e w2 ⟨g2, cs2, rfl, hg2, P2, hb2⟩
  have P1 := P1.next hb2
  have H2 := below_next H1 hb2 (Nat.le_refl _)
  clear hb1 hb2 H1
  go_wp2_with fail
  refine (SameGarments_spec _ _ _ _ gs gs' _ (by omega) _ (P1.gs P1.lt hg.fits) (P2.gs P2.lt hg'.fits) b Hb.out).mono ?_
  rintro e w3 ⟨rfl, hb3⟩
  have H3 := below_next H2 hb3 (Nat.le_refl _)
  clear P1 P2 hb3 H2 hg1 hg2
  go_wp2_with fail
  refine (toGarmentS_any A c gs (by omega) _ ((hg.below H3).more H3.size)).mono ?_
  rintro e w4 ⟨g4, cs4, rfl, hg4, P4, hb4⟩
  have H4 := below_next H3 hb4 (Nat.le_refl _)
  go_wp2_with fail
  refine (toGarmentS_any A' c' gs' (by omega) _ ((hg'.below H4).more H4.size)).mono ?_
  rintro e w5 ⟨g5, cs5, rfl, hg5, P5, hb5⟩
  have P4 := P4.next hb5
  have H5 := below_next H4 hb5 (Nat.le_refl _)
  clear hb4 hb5 H3 H4
  go_wp2_with fail
  refine (SameGarments_any _ _ _ _ gs gs' _ (by omega) _ (P4.gs P4.lt hg.fits) (P5.gs P5.lt hg'.fits) b Hb.out).mono ?_
  rintro e w6 ⟨rfl, hb6⟩
  have P4 := P4.next hb6
  have P5 := P5.next hb6
  have H6 := below_next H5 hb6 (Nat.le_refl _)
  clear hb6 H5
  go_wp2_with fail
  refine (toGarmentS_any A c gs (by omega) _ ((hg.below H6).more H6.size)).mono ?_
  rintro e w7 ⟨g7, cs7, rfl, hg7, P7, hb7⟩
  have P4 := P4.next hb7
  have P5 := P5.next hb7
  have H7 := below_next H6 hb7 (Nat.le_refl _)
  clear hb7 H6
  go_wp2_with fail
  refine (eqGarmentS_any _ _ _ _ gs gs (by omega) _ (P4.gs P4.lt hg.fits) (P7.gs P7.lt hg.fits) true (by simp)).mono ?_
  rintro e w8 ⟨rfl, hb8⟩
  have P5 := P5.next hb8
  have H8 := below_next H7 hb8 (Nat.le_refl _)
  clear hb8 H7 P4 P7
  go_wp2_with fail
  refine (toGarmentS_any A' c' gs' (by omega) _ ((hg'.below H8).more H8.size)).mono ?_
  rintro e w9 ⟨g9, cs9, rfl, hg9, P9, hb9⟩
  have P5 := P5.next hb9
  have H9 := below_next H8 hb9 (Nat.le_refl _)
  clear hb9 H8
  go_wp2_with fail
  refine (eqGarmentS_any _ _ _ _ gs' gs' (by omega) _ (P5.gs P5.lt hg'.fits) (P9.gs P9.lt hg'.fits) true (by simp)).mono ?_
  rintro e w10 ⟨rfl, hb10⟩
  have H10 := below_next H9 hb10 (Nat.le_refl _)
  go_wp2_with fail
  go_ret
  exact ⟨rfl, H10⟩

set_option maxHeartbeats 1000000 in
theorem walk_first (A A' : Option Addr) (c c' n n' : Nat) (hm : n ≤ 9223372036854775807) (hn : 1048576 < n) (w : World) :
    Calls Try.prog 6 #[.slice A n c, .slice A' n' c'] w fun e w' => e = .returned (.bool true) ∧ Below w.heap.size w w' := by
  go_enter Try.func6, Try.ntmps6
  go_wp2_with fail
  refine (szGarmentS_any A n c 1048576 hm (by omega) _).mono ?_
  rintro e w1 ⟨rfl, rfl⟩
  rw [if_pos (by omega)]
  go_wp2_with fail
  go_ret
  exact ⟨rfl, Below.refl _ _⟩

set_option maxHeartbeats 1000000 in
theorem walk_second (A A' : Option Addr) (c c' n n' : Nat) (hm : n' ≤ 9223372036854775807) (hn : n ≤ 1048576) (hn' : 1048576 < n + n') (w : World) :
    Calls Try.prog 6 #[.slice A n c, .slice A' n' c'] w fun e w' => e = .returned (.bool true) ∧ Below w.heap.size w w' := by
  go_enter Try.func6, Try.ntmps6
  go_wp2_with fail
  refine (szGarmentS_any A n c 1048576 (by omega) (by omega) _).mono ?_
  rintro e w1 ⟨rfl, rfl⟩
  rw [if_neg (by omega)]
  go_wp2_with fail
  refine (szGarmentS_any A' n' c' (1048576 - n) hm (by omega) _).mono ?_
  rintro e w1 ⟨rfl, rfl⟩
  rw [if_pos (by omega)]
  go_wp2_with fail
  go_ret
  exact ⟨rfl, Below.refl _ _⟩

theorem readables : ∀ t ∈ Try.f6.params.toList, Try.prog.readableRec t = true ∧ t < Try.prog.types.size := by
  rw [Try.params6]
  intro t ht
  simp only [List.mem_cons, List.not_mem_nil, or_false] at ht
  rcases ht with rfl | rfl
  all_goals exact ⟨by kernel_rfl, of_decide_eq_true (by kernel_rfl)⟩

theorem contract (H : Type) (enc : TypeId × Value → H) (W : World) (base : Nat) (args : Array Value) (ds gs : List (DataW H)) (before : List MemPlace)
    (hval : ∀ (j : Nat) t v, Try.f6.params[j]? = some t → args[j]? = some v → Value.okWide Try.prog W .any base t v)
    (hW : DataW.Whole enc Try.prog Try.f6.params.toList Rows.fnExactSameGarmentsSpec.vars false W args.toList ds gs before) :
    Calls Try.prog 6 args W fun e W' => ∃ v, e = .returned v ∧ Rows.fnExactSameGarmentsSpec.post enc Try.prog Try.f6 false true false false W args v W' := by
  have hW' := hW
  obtain ⟨p, q, hA0, hV, rfl, hfz, hnd⟩ := hW
  have hA : DataW.TrodAll enc Try.prog W 0 (fun _ => true) true Try.f6.params.toList args.toList ds p := hA0
  rw [Try.params6] at hA hval
  clear hA0
  obtain ⟨v0, vs0, d0, ds0, p0, q0, hargs, rfl, rfl, h0, r0⟩ := trodAll_cons hA
  obtain ⟨v1, vs1, d1, ds1, p1, q1, rfl, rfl, rfl, h1, r1⟩ := trodAll_cons r0
  obtain ⟨rfl, rfl, rfl⟩ := trodAll_nil r1
  obtain rfl : args = #[v0, v1] := by cases args; simp_all
  obtain ⟨rfl, rfl⟩ := trodVars_none hV
  obtain ⟨A, c, gs, rfl, hl, hg⟩ := open_garS (hval 0 37 v0 rfl rfl) h0
  obtain ⟨A', c', gs', rfl, hl', hg'⟩ := open_garS (hval 1 37 v1 rfl rfl) h1
  have walk : Calls Try.prog 6 #[.slice A gs.length c, .slice A' gs'.length c'] W fun e w' => e = .returned (.bool true) ∧ Below W.heap.size W w' := by
    unfold maxLen at hl hl'
    rcases Nat.lt_or_ge 1048576 gs.length with h | h
    · exact walk_first A A' c c' _ _ hl h W
    · rcases Nat.lt_or_ge 1048576 (gs.length + gs'.length) with h' | h'
      · exact walk_second A A' c c' _ _ hl' h h' W
      · exact walk_fits A A' c c' gs gs' h' W hg hg'
  refine walk.mono fun e W' ⟨he, hb⟩ => ?_
  subst he
  exact ⟨_, rfl, close_law laidOut readables rfl Try.underlying4 rfl rfl hW' hb⟩

set_option maxRecDepth 100000 in
theorem lifted (os : Os) (started : os.Started) (H : Type) (enc : TypeId × Value → H) :
    ReturnsInHanded {} Try.checked os 6 .any (Rows.fnExactSameGarmentsSpec.pre6 enc Try.prog Try.f6 Rows.fnExactSameGarmentsRow.domain false) (Rows.fnExactSameGarmentsSpec.post enc Try.prog Try.f6 false true false false) := by
  refine returnsInHanded_of_change (C := Try.checked) own started (by kernel_rfl) Try.func6
    (ChangeSpec.witness6 (enc := enc) (C := Try.checked) false ⟨#[], #[.slice none 0 0, .slice none 0 0], []⟩ 8 (by kernel_rfl) (by kernel_rfl) (by kernel_rfl) (by kernel_rfl)) ?_
  intro W base args ds gs before hval hW _ _
  exact contract H enc W base args ds gs before hval hW

theorem holds : Rows.FnExactSameGarmentsSaid :=
  OpenClaim.holds_of_wide 6 Try.f6 rfl rfl rfl rfl rfl rfl rfl ⟨rfl, rfl, rfl, rfl, rfl⟩ rfl rfl rfl rfl rfl (by kernel_rfl) Try.func6 (by kernel_rfl)
    (of_decide_eq_true (by kernel_rfl)) (by unfold Func.isWrapper; first | (rw [if_pos (by decide +kernel)]; kernel_rfl) | (rw [if_neg (by decide +kernel)]; exact ⟨rfl, rfl⟩))
    (fun os started H enc _ => lifted os started H enc)
end Go.Proofs.Ythipbpeakkfjlaa.sameGarments
