/-
  THE LAW FnExactHeatsFor: for every list of garments the law returns true: the program tells the model's heats and its code, and changes no garment. No condition but that the package's errors are what the program's text lays.
-/
import Derived.Test.YtechjcplaaagfaaDoorHeats
import Derived.Test.YtechjcplaaagfaaDoorOpenS
import Derived.Test.YtechjcplaaagfaaDoorClose
import Derived.Test.YtechjcplaaagfaaDoorLaid
import Derived.Test.YtechjcplaaagfaaDoorCards
import Derived.Test.YtechjcplaaagfaaDoorTie
namespace Go.Proofs.YtechjcplaaagfaaDoor.heatsFor
open Go.ChangeShapes Go.WideShapes Go.ChangeAt Go.RowKit Go.Joins garS errs heats

set_option maxHeartbeats 4000000 in
theorem walk_fits (A : Option Addr) (c : Nat) (gs : List Gar) (hn : gs.length ≤ 1048576) (w : World) (e : Nat → Addr) (hE : Errs w w.heap.size e) (hg : GS w w.heap.size A gs) :
    Calls Tryd.prog 4 #[.slice A gs.length c] w fun e w' => e = .returned (.bool true) ∧ Below w.heap.size w w' := by
  go_enter Tryd.func4, Tryd.ntmps4
  go_wp2_with fail
  refine (szGarmentS_any A gs.length c 1048576 (by omega) (by omega) _).mono ?_
  rintro o w1 ⟨rfl, rfl⟩
  rw [if_neg (by omega)]
  go_wp2_with fail
  refine (toGarmentS_any A c gs (by omega) _ hg).mono ?_
  rintro o w1 ⟨g1, cs1, rfl, hg1, P1, hb1⟩
  have H1 := hb1
  go_wp2_with fail
  refine (HeatsFor_spec _ _ _ gs rfl hn _ (P1.gs P1.lt hg.fits)).mono ?_
  rintro o w2 ⟨rfl, hb2⟩
  have H2 := below_next H1 hb2 (Nat.le_refl _)
  clear P1 hb1 hb2 H1 hg1
  go_wp2_with fail
  refine (toGarmentS_any A c gs (by omega) _ ((hg.below H2).more H2.size)).mono ?_
  rintro o w3 ⟨g3, cs3, rfl, hg3, P3, hb3⟩
  have H3 := below_next H2 hb3 (Nat.le_refl _)
  clear hb3 H2
  go_wp2_with fail
  refine (HeatsFor_any _ _ _ gs rfl hn (hE.below H3) H3.size (P3.gs P3.lt hg.fits)).mono ?_
  rintro o w4 ⟨rfl, hb4⟩
  have P3 := P3.next hb4
  have H4 := below_next H3 hb4 (Nat.le_refl _)
  clear hb4 H3
  go_wp2_with fail
  refine (toGarmentS_any A c gs (by omega) _ ((hg.below H4).more H4.size)).mono ?_
  rintro o w5 ⟨g5, cs5, rfl, hg5, P5, hb5⟩
  have P3 := P3.next hb5
  have H5 := below_next H4 hb5 (Nat.le_refl _)
  clear hb5 H4
  go_wp2_with fail
  refine (eqGarmentS_any _ _ _ _ gs gs (by omega) _ (P3.gs P3.lt hg.fits) (P5.gs P5.lt hg.fits) true (by simp)).mono ?_
  rintro o w6 ⟨rfl, hb6⟩
  have H6 := below_next H5 hb6 (Nat.le_refl _)
  go_wp2_with fail
  go_ret
  exact ⟨rfl, H6⟩

set_option maxHeartbeats 1000000 in
theorem walk_long (A : Option Addr) (n c : Nat) (hm : n ≤ 9223372036854775807) (hn : 1048576 < n) (w : World) :
    Calls Tryd.prog 4 #[.slice A n c] w fun e w' => e = .returned (.bool true) ∧ Below w.heap.size w w' := by
  go_enter Tryd.func4, Tryd.ntmps4
  go_wp2_with fail
  refine (szGarmentS_any A n c 1048576 hm (by omega) _).mono ?_
  rintro o w1 ⟨rfl, rfl⟩
  rw [if_pos (by omega)]
  go_wp2_with fail
  go_ret
  exact ⟨rfl, Below.refl _ _⟩

theorem readables : ∀ t ∈ Tryd.f4.params.toList, Tryd.prog.readableRec t = true ∧ t < Tryd.prog.types.size := by
  rw [Tryd.params4]
  intro t ht
  simp only [List.mem_cons, List.not_mem_nil, or_false] at ht
  subst ht
  exact ⟨by kernel_rfl, of_decide_eq_true (by kernel_rfl)⟩

set_option maxRecDepth 100000 in
/-- what the row's list gives -/
theorem errsLaid {W : World} (h : laidMetH Tryd.prog Rows.fnExactHeatsForRow.laid W) : ∃ e, Errs W W.heap.size e := by
  rw [MakeChecks.laidMetH_plain _ _ _ (by kernel_rfl)] at h
  refine errs_of Rows.fnExactHeatsForRow.laid (fun i => i) h (by kernel_rfl) ?_ ?_ (fun i j _ _ h => h)
  · have hall : ((listOf Rows.fnExactHeatsForRow.laid).all fun x => match Tryd.prog.globalNamed x.1 with | some g => decide ((Tryd.prog.globals[g]?).map (·.type) = some 72) | none => false) = true := by kernel_rfl
    intro x hx
    have h1 := List.all_eq_true.1 hall x hx
    split at h1
    · rename_i g hg
      exact ⟨g, hg, of_decide_eq_true h1⟩
    · cases h1
  · have b0 : ((listOf Rows.fnExactHeatsForRow.laid)[0]?).bind (fun x => Tryd.prog.globalNamed x.1) = some (gvar 0) := by kernel_rfl
    have b1 : ((listOf Rows.fnExactHeatsForRow.laid)[1]?).bind (fun x => Tryd.prog.globalNamed x.1) = some (gvar 1) := by kernel_rfl
    have b2 : ((listOf Rows.fnExactHeatsForRow.laid)[2]?).bind (fun x => Tryd.prog.globalNamed x.1) = some (gvar 2) := by kernel_rfl
    have b3 : ((listOf Rows.fnExactHeatsForRow.laid)[3]?).bind (fun x => Tryd.prog.globalNamed x.1) = some (gvar 3) := by kernel_rfl
    have b4 : ((listOf Rows.fnExactHeatsForRow.laid)[4]?).bind (fun x => Tryd.prog.globalNamed x.1) = some (gvar 4) := by kernel_rfl
    have b5 : ((listOf Rows.fnExactHeatsForRow.laid)[5]?).bind (fun x => Tryd.prog.globalNamed x.1) = some (gvar 5) := by kernel_rfl
    have b6 : ((listOf Rows.fnExactHeatsForRow.laid)[6]?).bind (fun x => Tryd.prog.globalNamed x.1) = some (gvar 6) := by kernel_rfl
    intro i hi
    match i, hi with
    | 0, _ => exact b0
    | 1, _ => exact b1
    | 2, _ => exact b2
    | 3, _ => exact b3
    | 4, _ => exact b4
    | 5, _ => exact b5
    | 6, _ => exact b6

set_option maxRecDepth 100000 in
theorem contract (H : Type) (enc : TypeId × Value → H) (W : World) (base : Nat) (args : Array Value) (ds gs : List (DataW H)) (before : List MemPlace)
    (hval : ∀ (j : Nat) t v, Tryd.f4.params[j]? = some t → args[j]? = some v → Value.okWide Tryd.prog W .any base t v)
    (hW : DataW.Whole enc Tryd.prog Tryd.f4.params.toList Rows.fnExactHeatsForSpec.vars false W args.toList ds gs before) (hL : laidMetH Tryd.prog Rows.fnExactHeatsForRow.laid W) :
    Calls Tryd.prog 4 args W fun e W' => ∃ v, e = .returned v ∧ Rows.fnExactHeatsForSpec.post enc Tryd.prog Tryd.f4 false true false false W args v W' := by
  obtain ⟨ee, hE⟩ := errsLaid hL
  have hW' := hW
  obtain ⟨p, q, hA0, hV, rfl, hfz, hnd⟩ := hW
  have hA : DataW.TrodAll enc Tryd.prog W 0 (fun _ => true) true Tryd.f4.params.toList args.toList ds p := hA0
  rw [Tryd.params4] at hA hval
  clear hA0
  obtain ⟨v0, vs0, d0, ds0, p0, q0, hargs, rfl, rfl, h0, r0⟩ := trodAll_cons hA
  obtain ⟨rfl, rfl, rfl⟩ := trodAll_nil r0
  obtain rfl : args = #[v0] := by cases args; simp_all
  obtain ⟨z0, z1, z2, z3, z4, z5, z6, rfl⟩ := vars_of hV
  obtain ⟨A, c, gs, rfl, hl, hg⟩ := open_garS (hval 0 34 v0 rfl rfl) h0
  have walk : Calls Tryd.prog 4 #[.slice A gs.length c] W fun e w' => e = .returned (.bool true) ∧ Below W.heap.size W w' := by
    unfold maxLen at hl
    rcases Nat.lt_or_ge 1048576 gs.length with h | h
    · exact walk_long A _ c hl h W
    · exact walk_fits A c gs h W ee hE hg
  refine walk.mono fun e W' ⟨he, hb⟩ => ?_
  subst he
  exact ⟨_, rfl, close_vars laidOut readables (by kernel_rfl) Tryd.underlying4 rfl rfl hW' hb⟩

end Go.Proofs.YtechjcplaaagfaaDoor.heatsFor
