/-
  THE LAW FnExactPlacesOf: for every list of cloths the law returns true: the program answers as the model does, changes no cloth, and what it returns is its own. No condition but that the package's errors are what the program's text lays.
-/
import Derived.Test.YtbpipcfijbgnhaaDoorCPlacesOf
import Derived.Test.YtbpipcfijbgnhaaDoorCloMark
import Derived.Test.YtbpipcfijbgnhaaDoorCloOpen
import Derived.Test.YtbpipcfijbgnhaaDoorClose
import Derived.Test.YtbpipcfijbgnhaaDoorLaid
import Derived.Test.YtbpipcfijbgnhaaDoorCards
import Derived.Test.YtbpipcfijbgnhaaDoorTie
namespace Go.Proofs.YtbpipcfijbgnhaaDoor.lawPlacesOf
open Go.ChangeShapes Go.WideShapes Go.ChangeAt Go.RowKit Go.Joins sl errs hang

set_option maxRecDepth 100000 in
set_option maxHeartbeats 8000000 in
theorem walk_fits (A : Option Addr) (n c : Nat) (xs : List Clo) (en : n = xs.length) (hn : n ≤ 1048576) (hf : ∀ x ∈ xs, x.Fits) (w : World) (e : Nat → Addr) (hE : Errs w w.heap.size e) (hg : Sl Clo.cells 2 w w.heap.size A xs) :
    Calls Tryd.prog 6 #[.slice A n c] w fun o w' => o = .returned (.bool true) ∧ Below w.heap.size w w' := by
  have En := Lib.hid en
  subst en
  have H0 := Lib.hid (Below.refl w.heap.size w)
  have hys : (placesRes xs).length ≤ 1048576 := placesRes_le xs hn
  go_enter Tryd.func6, Tryd.ntmps6
  go_wp2_with fail
  refine (cloS.szS_any A xs.length c 1048576 (by omega) (by omega) _).mono ?_
  rintro o u ⟨rfl, rfl⟩
  rw [if_neg (by omega)]
  have B0 := H0.out.size
  go_wp2_with fail
  refine (cloS.toS_any A c xs hn _ ((hg.below H0.out).more H0.out.size)).mono ?_
  rintro o u ⟨g1, rfl, P, hb⟩
  have H1 := Lib.hid (below_next H0.out hb (Nat.le_refl _))
  clear hb H0
  have Xg1 := Lib.hid P
  clear P
  go_wp2_with fail
  refine (PlacesOf_spec (some ⟨g1, 0, none⟩) xs.length xs.length xs rfl hn hf _ (Sl.of_owns Xg1.out (Clo.len xs) (by decide))).mono ?_
  rintro o u1 ⟨v, rfl, P, hb⟩
  obtain ⟨Aw, cw, rfl, _⟩ := owns_slice P
  have LtG0 : w.heap.size < u1.heap.size := by
    have t := Xg1.out.lt g1 rfl
    have b := hb.size
    omega
  clear Xg1
  have H2 := Lib.hid (below_next H1.out hb (Nat.le_refl _))
  clear hb H1
  have PW := Lib.hid P
  have LtW : Hid (∀ k, (Value.slice Aw (placesRes xs).length cw).ownBlock = some k → k < u1.heap.size) := Lib.hid fun k hk => (PW.out.lt k hk).2
  clear P
  go_wp2_with fail
  refine (cloS.toS_any A c xs hn _ ((hg.below H2.out).more H2.out.size)).mono ?_
  rintro o u ⟨g3, rfl, P, hb⟩
  have H3 := Lib.hid (below_next H2.out hb (Nat.le_refl _))
  have PW3 := Lib.hid (owns_next PW.out hb)
  clear hb H2 PW
  have Xg3 := Lib.hid P
  clear P
  have G3 : u1.heap.size ≤ g3 := (Xg3.out.lt g3 rfl).1
  have W3 : w.heap.size < g3 := by omega
  go_wp2_with fail
  have E5 := Xg3.out.lt g3 rfl
  refine (PlacesOf_any (some ⟨g3, 0, none⟩) xs.length xs.length xs rfl hn hf (hE.below H3.out) H3.out.size (Sl.of_owns Xg3.out (Clo.len xs) (by decide))).mono ?_
  rintro o u5 ⟨v, rfl, P, hb⟩
  obtain ⟨Ag, cg, rfl, _⟩ := owns_slice P
  have G5 : Hid (∀ k, (Value.slice Ag (placesRes xs).length cg).ownBlock = some k → g3 < k) := Lib.hid fun k hk => Nat.lt_of_lt_of_le E5.2 (P.lt k hk).1
  have H4 := Lib.hid (below_next H3.out hb (Nat.le_refl _))
  have PW4 := Lib.hid (owns_next PW3.out hb)
  have Xg34 := Lib.hid (owns_next Xg3.out hb)
  clear hb H3 PW3 Xg3
  have PG := Lib.hid P
  clear P
  go_wp2_with fail
  refine (intS.eqS_any Ag Aw _ _ cg cw (placesRes xs) (placesRes xs) rfl rfl hys (by omega) _ (Sl.of_owns PG.out (intS.len _) (by decide)) (Sl.of_owns PW4.out (intS.len _) (by decide)) true (by simp)).mono ?_
  rintro o u ⟨rfl, hb⟩
  have H5 := Lib.hid (below_next H4.out hb (Nat.le_refl _))
  have PW5 := Lib.hid (owns_next PW4.out hb)
  have Xg35 := Lib.hid (owns_next Xg34.out hb)
  have PG5 := Lib.hid (owns_next PG.out hb)
  clear hb H4 PW4 Xg34 PG
  go_wp2_with fail
  refine (cloS.toS_any A c xs hn _ ((hg.below H5.out).more H5.out.size)).mono ?_
  rintro o u ⟨g7, rfl, P, hb⟩
  have H6 := Lib.hid (below_next H5.out hb (Nat.le_refl _))
  have PW6 := Lib.hid (owns_next PW5.out hb)
  have Xg36 := Lib.hid (owns_next Xg35.out hb)
  have PG6 := Lib.hid (owns_next PG5.out hb)
  clear hb H5 PW5 Xg35 PG5
  have Xg7 := Lib.hid P
  clear P
  go_wp2_with fail
  refine (cloS.eqS_any (some ⟨g3, 0, none⟩) (some ⟨g7, 0, none⟩) xs.length xs.length xs.length xs.length xs xs rfl rfl hn (by omega) _ (Sl.of_owns Xg36.out (Clo.len xs) (by decide)) (Sl.of_owns Xg7.out (Clo.len xs) (by decide)) true (by simp)).mono ?_
  rintro o u ⟨rfl, hb⟩
  clear Xg7
  have H7 := Lib.hid (below_next H6.out hb (Nat.le_refl _))
  have PW7 := Lib.hid (owns_next PW6.out hb)
  have Xg37 := Lib.hid (owns_next Xg36.out hb)
  have PG7 := Lib.hid (owns_next PG6.out hb)
  clear hb H6 PW6 Xg36 PG6
  go_wp2_with fail
  refine (cloS.markS_row _ g3 xs.length xs.length 1 (by omega) hn _ _ Xg37.out).mono ?_
  rintro o u ⟨rfl, _, hgr⟩
  clear Xg37
  have k1 : decide ((1 : Int) + 2 * (xs.length : Int) < 0) = false := by simp; omega
  have H8 := Lib.hid (H7.out.trans (grownBy_below hgr H7.out.size (Nat.le_of_lt W3)))
  have PW8 := Lib.hid (owns_other PW7.out hgr (fun k hk e => by have := LtW.out k hk; omega))
  have PG8 := Lib.hid (owns_other PG7.out hgr (fun k hk e => by have := G5.out k hk; omega))
  clear hgr H7 PW7 PG7
  go_wp2_with fail
  refine (intS.eqS_any Ag Aw _ _ cg cw (placesRes xs) (placesRes xs) rfl rfl hys (by omega) _ (Sl.of_owns PG8.out (intS.len _) (by decide)) (Sl.of_owns PW8.out (intS.len _) (by decide)) true (by simp)).mono ?_
  rintro o u ⟨rfl, hb⟩
  have H9 := Lib.hid (below_next H8.out hb (Nat.le_refl _))
  have PW9 := Lib.hid (owns_next PW8.out hb)
  have PG9 := Lib.hid (owns_next PG8.out hb)
  clear hb H8 PW8 PG8
  go_wp2_with fail
  refine (intS.markS_any _ _ _ 1 (by omega) hys _ _ PG9.out).mono ?_
  rintro o u ⟨rfl, P, g9, hg9, hgr, _⟩
  clear PG9
  have W9 : w.heap.size < g9 := by omega
  have H10 := Lib.hid (H9.out.trans (grownBy_below hgr H9.out.size (Nat.le_of_lt W9)))
  have PW10 := Lib.hid (owns_other PW9.out hgr (fun k hk e => by have := LtW.out k hk; omega))
  clear hgr H9 PW9
  have PM := Lib.hid P
  clear P
  have k2 : decide ((1 : Int) + ((placesRes xs).length : Int) < 0) = false := by simp; omega
  go_wp2_with fail
  refine (intS.heldS_any Ag _ cg 1 (by omega) hys _ _ (Sl.of_owns PM.out (intS.len _) (by decide))).mono ?_
  rintro o u ⟨rfl, rfl⟩
  go_wp2_with fail
  refine (cloS.toS_any A c xs hn _ ((hg.below H10.out).more H10.out.size)).mono ?_
  rintro o u ⟨g11, rfl, P, hb⟩
  have H11 := Lib.hid (below_next H10.out hb (Nat.le_refl _))
  have PW11 := Lib.hid (owns_next PW10.out hb)
  have PM11 := Lib.hid (owns_next PM.out hb)
  clear hb H10 PW10 PM
  have Xg11 := Lib.hid P
  clear P
  go_wp2_with fail
  refine (PlacesOf_any (some ⟨g11, 0, none⟩) xs.length xs.length xs rfl hn hf (hE.below H11.out) H11.out.size (Sl.of_owns Xg11.out (Clo.len xs) (by decide))).mono ?_
  rintro o u ⟨v, rfl, P, hb⟩
  obtain ⟨Ah, ch, rfl, _⟩ := owns_slice P
  clear Xg11
  have H12 := Lib.hid (below_next H11.out hb (Nat.le_refl _))
  have PW12 := Lib.hid (owns_next PW11.out hb)
  have PM12 := Lib.hid (owns_next PM11.out hb)
  clear hb H11 PW11 PM11
  have PH := Lib.hid P
  clear P
  go_wp2_with fail
  refine (intS.eqS_any Ah Aw _ _ ch cw (placesRes xs) (placesRes xs) rfl rfl hys (by omega) _ (Sl.of_owns PH.out (intS.len _) (by decide)) (Sl.of_owns PW12.out (intS.len _) (by decide)) true (by simp)).mono ?_
  rintro o u ⟨rfl, hb⟩
  have H13 := Lib.hid (below_next H12.out hb (Nat.le_refl _))
  have PW13 := Lib.hid (owns_next PW12.out hb)
  have PM13 := Lib.hid (owns_next PM12.out hb)
  have PH13 := Lib.hid (owns_next PH.out hb)
  clear hb H12 PW12 PM12 PH
  go_wp2_with fail
  refine (intS.heldS_any Ag _ cg 1 (by omega) hys _ _ (Sl.of_owns PM13.out (intS.len _) (by decide))).mono ?_
  rintro o u ⟨rfl, rfl⟩
  go_wp2_with fail
  go_ret
  exact ⟨rfl, H13.out⟩

set_option maxHeartbeats 1000000 in
theorem walk_long (A : Option Addr) (n c : Nat) (hm : n ≤ 9223372036854775807) (hn : 1048576 < n) (w : World) :
    Calls Tryd.prog 6 #[.slice A n c] w fun e w' => e = .returned (.bool true) ∧ Below w.heap.size w w' := by
  go_enter Tryd.func6, Tryd.ntmps6
  go_wp2_with fail
  refine (cloS.szS_any A n c 1048576 hm (by omega) _).mono ?_
  rintro o w1 ⟨rfl, rfl⟩
  rw [if_pos (by omega)]
  go_wp2_with fail
  go_ret
  exact ⟨rfl, Below.refl _ _⟩

theorem readables : ∀ t ∈ Tryd.f6.params.toList, Tryd.prog.readableRec t = true ∧ t < Tryd.prog.types.size := by
  rw [Tryd.params6]
  intro t ht
  simp only [List.mem_cons, List.not_mem_nil, or_false] at ht
  subst ht
  exact ⟨by kernel_rfl, of_decide_eq_true (by kernel_rfl)⟩

set_option maxRecDepth 100000 in
/-- what the row's list gives -/
theorem errsLaid {W : World} (h : laidMetH Tryd.prog Rows.fnExactPlacesOfRow.laid W) : ∃ e, Errs W W.heap.size e := by
  rw [MakeChecks.laidMetH_plain _ _ _ (by kernel_rfl)] at h
  refine errs_of Rows.fnExactPlacesOfRow.laid (fun i => i) h (by kernel_rfl) ?_ ?_ (fun i j _ _ h => h)
  · have hall : ((listOf Rows.fnExactPlacesOfRow.laid).all fun x => match Tryd.prog.globalNamed x.1 with | some g => decide ((Tryd.prog.globals[g]?).map (·.type) = some 69) | none => false) = true := by kernel_rfl
    intro x hx
    have h1 := List.all_eq_true.1 hall x hx
    split at h1
    · rename_i g hg
      exact ⟨g, hg, of_decide_eq_true h1⟩
    · cases h1
  · have b0 : ((listOf Rows.fnExactPlacesOfRow.laid)[0]?).bind (fun x => Tryd.prog.globalNamed x.1) = some (gvar 0) := by kernel_rfl
    have b1 : ((listOf Rows.fnExactPlacesOfRow.laid)[1]?).bind (fun x => Tryd.prog.globalNamed x.1) = some (gvar 1) := by kernel_rfl
    have b2 : ((listOf Rows.fnExactPlacesOfRow.laid)[2]?).bind (fun x => Tryd.prog.globalNamed x.1) = some (gvar 2) := by kernel_rfl
    have b3 : ((listOf Rows.fnExactPlacesOfRow.laid)[3]?).bind (fun x => Tryd.prog.globalNamed x.1) = some (gvar 3) := by kernel_rfl
    have b4 : ((listOf Rows.fnExactPlacesOfRow.laid)[4]?).bind (fun x => Tryd.prog.globalNamed x.1) = some (gvar 4) := by kernel_rfl
    have b5 : ((listOf Rows.fnExactPlacesOfRow.laid)[5]?).bind (fun x => Tryd.prog.globalNamed x.1) = some (gvar 5) := by kernel_rfl
    have b6 : ((listOf Rows.fnExactPlacesOfRow.laid)[6]?).bind (fun x => Tryd.prog.globalNamed x.1) = some (gvar 6) := by kernel_rfl
    intro i hi
    match i, hi with
    | 0, _ => exact b0
    | 1, _ => exact b1
    | 2, _ => exact b2
    | 3, _ => exact b3
    | 4, _ => exact b4
    | 5, _ => exact b5
    | 6, _ => exact b6

set_option maxRecDepth 100000 in
theorem contract (H : Type) (enc : TypeId × Value → H) (W : World) (base : Nat) (args : Array Value) (ds gs : List (DataW H)) (before : List MemPlace)
    (hval : ∀ (j : Nat) t v, Tryd.f6.params[j]? = some t → args[j]? = some v → Value.okWide Tryd.prog W .any base t v)
    (hW : DataW.Whole enc Tryd.prog Tryd.f6.params.toList Rows.fnExactPlacesOfSpec.vars false W args.toList ds gs before) (hL : laidMetH Tryd.prog Rows.fnExactPlacesOfRow.laid W) :
    Calls Tryd.prog 6 args W fun e W' => ∃ v, e = .returned v ∧ Rows.fnExactPlacesOfSpec.post enc Tryd.prog Tryd.f6 false true false false W args v W' := by
  obtain ⟨ee, hE⟩ := errsLaid hL
  have hW' := hW
  obtain ⟨p, q, hA0, hV, rfl, hfz, hnd⟩ := hW
  have hA : DataW.TrodAll enc Tryd.prog W 0 (fun _ => true) true Tryd.f6.params.toList args.toList ds p := hA0
  rw [Tryd.params6] at hA hval
  clear hA0
  obtain ⟨v0, vs0, d0, ds0, p0, q0, hargs, rfl, rfl, h0, r0⟩ := trodAll_cons hA
  obtain ⟨rfl, rfl, rfl⟩ := trodAll_nil r0
  obtain rfl : args = #[v0] := by cases args; simp_all
  obtain ⟨z0, z1, z2, z3, z4, z5, z6, rfl⟩ := vars_of hV
  obtain ⟨A, c, xs, rfl, hl, hg, hf⟩ := cloS.open_many (hval 0 30 v0 rfl rfl) h0
  have walk : Calls Tryd.prog 6 #[.slice A xs.length c] W fun e W' => e = .returned (.bool true) ∧ Below W.heap.size W W' := by
    unfold maxLen at hl
    rcases Nat.lt_or_ge 1048576 xs.length with h | h
    · exact walk_long A _ c hl h W
    · exact walk_fits A _ c xs rfl h hf W ee hE hg
  refine walk.mono fun e W' ⟨he, hb⟩ => ?_
  subst he
  exact ⟨_, rfl, close_vars laidOut readables (by kernel_rfl) Tryd.underlying4 rfl rfl hW' hb⟩

end Go.Proofs.YtbpipcfijbgnhaaDoor.lawPlacesOf
