/-
  THE LAW FnExactInOrder: for every list of cloths and every list of numbers the law returns true: the program answers as the model does, changes neither, and what it returns is its own. No condition but that the package's errors are what the program's text lays.
-/
import Derived.Test.YtbpipcfijbgnhaaDoorCInOrder
import Derived.Test.YtbpipcfijbgnhaaDoorCloMark
import Derived.Test.YtbpipcfijbgnhaaDoorCloOpen
import Derived.Test.YtbpipcfijbgnhaaDoorIntOpen
import Derived.Test.YtbpipcfijbgnhaaDoorClose
import Derived.Test.YtbpipcfijbgnhaaDoorLaid
import Derived.Test.YtbpipcfijbgnhaaDoorCards
import Derived.Test.YtbpipcfijbgnhaaDoorTie
namespace Go.Proofs.YtbpipcfijbgnhaaDoor.lawInOrder
open Go.ChangeShapes Go.WideShapes Go.ChangeAt Go.RowKit Go.Joins sl errs hang

theorem inRes_le (xs : List Clo) (os : List Int) (code : Nat) (hn : os.length ≤ 1048576) : (inRes xs os code).length ≤ 1048576 := by
  unfold inRes
  split
  · rw [turn_len]; exact hn
  · simp
set_option maxRecDepth 100000 in
set_option maxHeartbeats 8000000 in
theorem walk_fits (A : Option Addr) (n c : Nat) (xs : List Clo) (en : n = xs.length) (hn : n ≤ 1048576) (hf : ∀ x ∈ xs, x.Fits) (A' : Option Addr) (n' c' : Nat) (os : List Int) (en' : n' = os.length) (hn' : n' ≤ 1048576) (w : World) (e : Nat → Addr) (hE : Errs w w.heap.size e) (hg : Sl Clo.cells 2 w w.heap.size A xs) (hg' : Sl intS.C 1 w w.heap.size A' os) :
    Calls Tryd.prog 8 #[.slice A n c, .slice A' n' c'] w fun o w' => o = .returned (.bool true) ∧ Below w.heap.size w w' := by
  subst en en'
  have H0 := Lib.hid (Below.refl w.heap.size w)
  obtain ⟨code, hcode⟩ : ∃ k, k = codeOrd xs (ordB xs.length os) := ⟨_, rfl⟩
  have HC := Lib.hid hcode
  have hys : (inRes xs os code).length ≤ 1048576 := inRes_le xs os code hn'
  clear hcode
  go_enter Tryd.func8, Tryd.ntmps8
  go_wp2_with fail
  refine (cloS.szS_any A xs.length c 1048576 (by omega) (by omega) _).mono ?_
  rintro o u ⟨rfl, rfl⟩
  rw [if_neg (by omega)]
  have B0 := H0.out.size
  go_wp2_with fail
  refine (cloS.toS_any A c xs hn _ ((hg.below H0.out).more H0.out.size)).mono ?_
  rintro o u ⟨g1, rfl, P, hb⟩
  have H1 := Lib.hid (below_next H0.out hb (Nat.le_refl _))
  clear hb H0
  have Xg1 := Lib.hid P
  clear P
  go_wp2_with fail
  refine (intS.toS_any A' os.length c' os rfl hn' _ ((hg'.below H1.out).more H1.out.size)).mono ?_
  rintro o u ⟨g2, rfl, P, hb⟩
  have H2 := Lib.hid (below_next H1.out hb (Nat.le_refl _))
  have Xg12 := Lib.hid (owns_next Xg1.out hb)
  clear hb H1 Xg1
  have Ig2 := Lib.hid P
  clear P
  go_wp2_with fail
  refine (InOrder_spec (some ⟨g1, 0, none⟩) xs.length xs.length xs rfl hn hf (some ⟨g2, 0, none⟩) os.length os rfl hn' _ (Sl.of_owns Xg12.out (Clo.len _) (by decide)) (Sl.of_owns Ig2.out (intS.len _) (by decide)) code HC.out).mono ?_
  rintro o u1 ⟨v, rfl, P, hb⟩
  obtain ⟨Aw, cw, rfl, _⟩ := owns_slice P
  have LtG0 : w.heap.size < u1.heap.size := by
    have t := Xg12.out.lt g1 rfl
    have b := hb.size
    omega
  clear Xg12
  clear Ig2
  have H3 := Lib.hid (below_next H2.out hb (Nat.le_refl _))
  clear hb H2
  have PW := Lib.hid P
  have LtW : Hid (∀ k, (Value.slice Aw (inRes xs os code).length cw).ownBlock = some k → k < u1.heap.size) := Lib.hid fun k hk => (PW.out.lt k hk).2
  clear P
  go_wp2_with fail
  refine (cloS.toS_any A c xs hn _ ((hg.below H3.out).more H3.out.size)).mono ?_
  rintro o u ⟨g3, rfl, P, hb⟩
  have H4 := Lib.hid (below_next H3.out hb (Nat.le_refl _))
  have PW4 := Lib.hid (owns_next PW.out hb)
  clear hb H3 PW
  have Xg3 := Lib.hid P
  clear P
  have G3 : u1.heap.size ≤ g3 := (Xg3.out.lt g3 rfl).1
  have W3 : w.heap.size < g3 := by omega
  have E3 := Xg3.out.lt g3 rfl
  go_wp2_with fail
  refine (intS.toS_any A' os.length c' os rfl hn' _ ((hg'.below H4.out).more H4.out.size)).mono ?_
  rintro o u ⟨g4, rfl, P, hb⟩
  have H5 := Lib.hid (below_next H4.out hb (Nat.le_refl _))
  have PW5 := Lib.hid (owns_next PW4.out hb)
  have Xg35 := Lib.hid (owns_next Xg3.out hb)
  clear hb H4 PW4 Xg3
  have Ig4 := Lib.hid P
  clear P
  have G4 := (Ig4.out.lt g4 rfl).1
  have W4 : w.heap.size < g4 := by omega
  have E4 := Ig4.out.lt g4 rfl
  go_wp2_with fail
  refine (InOrder_any (some ⟨g3, 0, none⟩) xs.length xs.length xs rfl hn hf (some ⟨g4, 0, none⟩) os.length os.length os rfl hn' (hE.below H5.out) H5.out.size (Sl.of_owns Xg35.out (Clo.len _) (by decide)) (Sl.of_owns Ig4.out (intS.len _) (by decide)) code HC.out).mono ?_
  rintro o u5 ⟨v, rfl, P, hb⟩
  obtain ⟨Ag, cg, rfl, _⟩ := owns_slice P
  have G5 : Hid (∀ k, (Value.slice Ag (inRes xs os code).length cg).ownBlock = some k → g4 < k) := Lib.hid fun k hk => Nat.lt_of_lt_of_le E4.2 (P.lt k hk).1
  have H6 := Lib.hid (below_next H5.out hb (Nat.le_refl _))
  have PW6 := Lib.hid (owns_next PW5.out hb)
  have Xg36 := Lib.hid (owns_next Xg35.out hb)
  have Ig46 := Lib.hid (owns_next Ig4.out hb)
  clear hb H5 PW5 Xg35 Ig4
  have PG := Lib.hid P
  clear P
  go_wp2_with fail
  refine (cloS.eqS_any Ag Aw _ _ cg cw (inRes xs os code) (inRes xs os code) rfl rfl hys (by omega) _ (Sl.of_owns PG.out (Clo.len _) (by decide)) (Sl.of_owns PW6.out (Clo.len _) (by decide)) true (by simp)).mono ?_
  rintro o u ⟨rfl, hb⟩
  have H7 := Lib.hid (below_next H6.out hb (Nat.le_refl _))
  have PW7 := Lib.hid (owns_next PW6.out hb)
  have Xg37 := Lib.hid (owns_next Xg36.out hb)
  have Ig47 := Lib.hid (owns_next Ig46.out hb)
  have PG7 := Lib.hid (owns_next PG.out hb)
  clear hb H6 PW6 Xg36 Ig46 PG
  go_wp2_with fail
  refine (cloS.toS_any A c xs hn _ ((hg.below H7.out).more H7.out.size)).mono ?_
  rintro o u ⟨g7, rfl, P, hb⟩
  have H8 := Lib.hid (below_next H7.out hb (Nat.le_refl _))
  have PW8 := Lib.hid (owns_next PW7.out hb)
  have Xg38 := Lib.hid (owns_next Xg37.out hb)
  have Ig48 := Lib.hid (owns_next Ig47.out hb)
  have PG8 := Lib.hid (owns_next PG7.out hb)
  clear hb H7 PW7 Xg37 Ig47 PG7
  have Xg7 := Lib.hid P
  clear P
  go_wp2_with fail
  refine (cloS.eqS_any (some ⟨g3, 0, none⟩) (some ⟨g7, 0, none⟩) xs.length xs.length xs.length xs.length xs xs rfl rfl hn (by omega) _ (Sl.of_owns Xg38.out (Clo.len _) (by decide)) (Sl.of_owns Xg7.out (Clo.len _) (by decide)) true (by simp)).mono ?_
  rintro o u ⟨rfl, hb⟩
  clear Xg7
  have H9 := Lib.hid (below_next H8.out hb (Nat.le_refl _))
  have PW9 := Lib.hid (owns_next PW8.out hb)
  have Xg39 := Lib.hid (owns_next Xg38.out hb)
  have Ig49 := Lib.hid (owns_next Ig48.out hb)
  have PG9 := Lib.hid (owns_next PG8.out hb)
  clear hb H8 PW8 Xg38 Ig48 PG8
  go_wp2_with fail
  refine (intS.toS_any A' os.length c' os rfl hn' _ ((hg'.below H9.out).more H9.out.size)).mono ?_
  rintro o u ⟨g8, rfl, P, hb⟩
  have H10 := Lib.hid (below_next H9.out hb (Nat.le_refl _))
  have PW10 := Lib.hid (owns_next PW9.out hb)
  have Xg310 := Lib.hid (owns_next Xg39.out hb)
  have Ig410 := Lib.hid (owns_next Ig49.out hb)
  have PG10 := Lib.hid (owns_next PG9.out hb)
  clear hb H9 PW9 Xg39 Ig49 PG9
  have Ig8 := Lib.hid P
  clear P
  go_wp2_with fail
  refine (intS.eqS_any (some ⟨g4, 0, none⟩) (some ⟨g8, 0, none⟩) os.length os.length os.length os.length os os rfl rfl hn' (by omega) _ (Sl.of_owns Ig410.out (intS.len _) (by decide)) (Sl.of_owns Ig8.out (intS.len _) (by decide)) true (by simp)).mono ?_
  rintro o u ⟨rfl, hb⟩
  clear Ig8
  have H11 := Lib.hid (below_next H10.out hb (Nat.le_refl _))
  have PW11 := Lib.hid (owns_next PW10.out hb)
  have Xg311 := Lib.hid (owns_next Xg310.out hb)
  have Ig411 := Lib.hid (owns_next Ig410.out hb)
  have PG11 := Lib.hid (owns_next PG10.out hb)
  clear hb H10 PW10 Xg310 Ig410 PG10
  go_wp2_with fail
  refine (cloS.markS_row _ g3 xs.length xs.length 1 (by omega) hn _ _ Xg311.out).mono ?_
  rintro o u ⟨rfl, _, hgr⟩
  clear Xg311
  have H12 := Lib.hid (H11.out.trans (grownBy_below hgr H11.out.size (Nat.le_of_lt W3)))
  have PW12 := Lib.hid (owns_other PW11.out hgr (fun k hk e => by have := LtW.out k hk; omega))
  have Ig412 := Lib.hid (owns_other Ig411.out hgr (fun k hk e => by have : g4 = k := Option.some.inj hk; omega))
  have PG12 := Lib.hid (owns_other PG11.out hgr (fun k hk e => by have := G5.out k hk; omega))
  clear hgr H11 PW11 Ig411 PG11
  go_wp2_with fail
  refine (intS.markS_row _ g4 os.length os.length (1 + 2 * (xs.length : Int)) (by omega) hn' _ _ Ig412.out).mono ?_
  rintro o u ⟨rfl, _, hgr⟩
  clear Ig412
  have k1 : decide ((1 : Int) + 2 * (xs.length : Int) + (os.length : Int) < 0) = false := by simp; omega
  have H13 := Lib.hid (H12.out.trans (grownBy_below hgr H12.out.size (Nat.le_of_lt W4)))
  have PW13 := Lib.hid (owns_other PW12.out hgr (fun k hk e => by have := LtW.out k hk; omega))
  have PG13 := Lib.hid (owns_other PG12.out hgr (fun k hk e => by have := G5.out k hk; omega))
  clear hgr H12 PW12 PG12
  go_wp2_with fail
  refine (cloS.eqS_any Ag Aw _ _ cg cw (inRes xs os code) (inRes xs os code) rfl rfl hys (by omega) _ (Sl.of_owns PG13.out (Clo.len _) (by decide)) (Sl.of_owns PW13.out (Clo.len _) (by decide)) true (by simp)).mono ?_
  rintro o u ⟨rfl, hb⟩
  have H14 := Lib.hid (below_next H13.out hb (Nat.le_refl _))
  have PW14 := Lib.hid (owns_next PW13.out hb)
  have PG14 := Lib.hid (owns_next PG13.out hb)
  clear hb H13 PW13 PG13
  go_wp2_with fail
  refine (cloS.markS_any _ _ _ 1 (by omega) hys _ _ PG14.out).mono ?_
  rintro o u ⟨rfl, P, g9, hg9, hgr, _⟩
  clear PG14
  have W9 : w.heap.size < g9 := by omega
  have H15 := Lib.hid (H14.out.trans (grownBy_below hgr H14.out.size (Nat.le_of_lt W9)))
  have PW15 := Lib.hid (owns_other PW14.out hgr (fun k hk e => by have := LtW.out k hk; omega))
  clear hgr H14 PW14
  have PM := Lib.hid P
  clear P
  have k2 : decide ((1 : Int) + 2 * ((inRes xs os code).length : Int) < 0) = false := by simp; omega
  go_wp2_with fail
  refine (cloS.heldS_any Ag _ cg 1 (by omega) hys _ _ (Sl.of_owns PM.out (Clo.len _) (by decide))).mono ?_
  rintro o u ⟨rfl, rfl⟩
  go_wp2_with fail
  refine (cloS.toS_any A c xs hn _ ((hg.below H15.out).more H15.out.size)).mono ?_
  rintro o u ⟨g11, rfl, P, hb⟩
  have H16 := Lib.hid (below_next H15.out hb (Nat.le_refl _))
  have PW16 := Lib.hid (owns_next PW15.out hb)
  have PM16 := Lib.hid (owns_next PM.out hb)
  clear hb H15 PW15 PM
  have Xg11 := Lib.hid P
  clear P
  go_wp2_with fail
  refine (intS.toS_any A' os.length c' os rfl hn' _ ((hg'.below H16.out).more H16.out.size)).mono ?_
  rintro o u ⟨g12, rfl, P, hb⟩
  have H17 := Lib.hid (below_next H16.out hb (Nat.le_refl _))
  have PW17 := Lib.hid (owns_next PW16.out hb)
  have PM17 := Lib.hid (owns_next PM16.out hb)
  have Xg1117 := Lib.hid (owns_next Xg11.out hb)
  clear hb H16 PW16 PM16 Xg11
  have Ig12 := Lib.hid P
  clear P
  go_wp2_with fail
  refine (InOrder_any (some ⟨g11, 0, none⟩) xs.length xs.length xs rfl hn hf (some ⟨g12, 0, none⟩) os.length os.length os rfl hn' (hE.below H17.out) H17.out.size (Sl.of_owns Xg1117.out (Clo.len _) (by decide)) (Sl.of_owns Ig12.out (intS.len _) (by decide)) code HC.out).mono ?_
  rintro o u ⟨v, rfl, P, hb⟩
  obtain ⟨Ah, ch, rfl, _⟩ := owns_slice P
  clear Xg1117
  clear Ig12
  have H18 := Lib.hid (below_next H17.out hb (Nat.le_refl _))
  have PW18 := Lib.hid (owns_next PW17.out hb)
  have PM18 := Lib.hid (owns_next PM17.out hb)
  clear hb H17 PW17 PM17
  have PH := Lib.hid P
  clear P
  go_wp2_with fail
  refine (cloS.eqS_any Ah Aw _ _ ch cw (inRes xs os code) (inRes xs os code) rfl rfl hys (by omega) _ (Sl.of_owns PH.out (Clo.len _) (by decide)) (Sl.of_owns PW18.out (Clo.len _) (by decide)) true (by simp)).mono ?_
  rintro o u ⟨rfl, hb⟩
  have H19 := Lib.hid (below_next H18.out hb (Nat.le_refl _))
  have PW19 := Lib.hid (owns_next PW18.out hb)
  have PM19 := Lib.hid (owns_next PM18.out hb)
  have PH19 := Lib.hid (owns_next PH.out hb)
  clear hb H18 PW18 PM18 PH
  go_wp2_with fail
  refine (cloS.heldS_any Ag _ cg 1 (by omega) hys _ _ (Sl.of_owns PM19.out (Clo.len _) (by decide))).mono ?_
  rintro o u ⟨rfl, rfl⟩
  go_wp2_with fail
  go_ret
  exact ⟨rfl, H19.out⟩

set_option maxHeartbeats 1000000 in
theorem walk_long (A : Option Addr) (n c : Nat) (A' : Option Addr) (n' c' : Nat) (hm : n' ≤ 9223372036854775807) (hn : 1048576 < n') (w : World) :
    Calls Tryd.prog 8 #[.slice A n c, .slice A' n' c'] w fun e w' => e = .returned (.bool true) ∧ Below w.heap.size w w' := by
  go_enter Tryd.func8, Tryd.ntmps8
  go_wp2_with fail
  go_ret
  exact ⟨rfl, Below.refl _ _⟩
set_option maxHeartbeats 1000000 in
theorem walk_long2 (A : Option Addr) (n c : Nat) (hm : n ≤ 9223372036854775807) (hn : 1048576 < n) (A' : Option Addr) (n' c' : Nat) (hn' : n' ≤ 1048576) (w : World) :
    Calls Tryd.prog 8 #[.slice A n c, .slice A' n' c'] w fun e w' => e = .returned (.bool true) ∧ Below w.heap.size w w' := by
  go_enter Tryd.func8, Tryd.ntmps8
  go_wp2_with fail
  refine (cloS.szS_any A n c 1048576 hm (by omega) _).mono ?_
  rintro o w1 ⟨rfl, rfl⟩
  rw [if_pos (by omega)]
  go_wp2_with fail
  go_ret
  exact ⟨rfl, Below.refl _ _⟩

theorem readables : ∀ t ∈ Tryd.f8.params.toList, Tryd.prog.readableRec t = true ∧ t < Tryd.prog.types.size := by
  rw [Tryd.params8]
  intro t ht
  simp only [List.mem_cons, List.not_mem_nil, or_false] at ht
  rcases ht with rfl | rfl <;> exact ⟨by kernel_rfl, of_decide_eq_true (by kernel_rfl)⟩

set_option maxRecDepth 100000 in
/-- what the row's list gives -/
theorem errsLaid {W : World} (h : laidMetH Tryd.prog Rows.fnExactInOrderRow.laid W) : ∃ e, Errs W W.heap.size e := by
  rw [MakeChecks.laidMetH_plain _ _ _ (by kernel_rfl)] at h
  refine errs_of Rows.fnExactInOrderRow.laid (fun i => i) h (by kernel_rfl) ?_ ?_ (fun i j _ _ h => h)
  · have hall : ((listOf Rows.fnExactInOrderRow.laid).all fun x => match Tryd.prog.globalNamed x.1 with | some g => decide ((Tryd.prog.globals[g]?).map (·.type) = some 69) | none => false) = true := by kernel_rfl
    intro x hx
    have h1 := List.all_eq_true.1 hall x hx
    split at h1
    · rename_i g hg
      exact ⟨g, hg, of_decide_eq_true h1⟩
    · cases h1
  · have b0 : ((listOf Rows.fnExactInOrderRow.laid)[0]?).bind (fun x => Tryd.prog.globalNamed x.1) = some (gvar 0) := by kernel_rfl
    have b1 : ((listOf Rows.fnExactInOrderRow.laid)[1]?).bind (fun x => Tryd.prog.globalNamed x.1) = some (gvar 1) := by kernel_rfl
    have b2 : ((listOf Rows.fnExactInOrderRow.laid)[2]?).bind (fun x => Tryd.prog.globalNamed x.1) = some (gvar 2) := by kernel_rfl
    have b3 : ((listOf Rows.fnExactInOrderRow.laid)[3]?).bind (fun x => Tryd.prog.globalNamed x.1) = some (gvar 3) := by kernel_rfl
    have b4 : ((listOf Rows.fnExactInOrderRow.laid)[4]?).bind (fun x => Tryd.prog.globalNamed x.1) = some (gvar 4) := by kernel_rfl
    have b5 : ((listOf Rows.fnExactInOrderRow.laid)[5]?).bind (fun x => Tryd.prog.globalNamed x.1) = some (gvar 5) := by kernel_rfl
    have b6 : ((listOf Rows.fnExactInOrderRow.laid)[6]?).bind (fun x => Tryd.prog.globalNamed x.1) = some (gvar 6) := by kernel_rfl
    intro i hi
    match i, hi with
    | 0, _ => exact b0
    | 1, _ => exact b1
    | 2, _ => exact b2
    | 3, _ => exact b3
    | 4, _ => exact b4
    | 5, _ => exact b5
    | 6, _ => exact b6

set_option maxRecDepth 100000 in
theorem contract (H : Type) (enc : TypeId × Value → H) (W : World) (base : Nat) (args : Array Value) (ds gs : List (DataW H)) (before : List MemPlace)
    (hval : ∀ (j : Nat) t v, Tryd.f8.params[j]? = some t → args[j]? = some v → Value.okWide Tryd.prog W .any base t v)
    (hW : DataW.Whole enc Tryd.prog Tryd.f8.params.toList Rows.fnExactInOrderSpec.vars false W args.toList ds gs before) (hL : laidMetH Tryd.prog Rows.fnExactInOrderRow.laid W) :
    Calls Tryd.prog 8 args W fun e W' => ∃ v, e = .returned v ∧ Rows.fnExactInOrderSpec.post enc Tryd.prog Tryd.f8 false true false false W args v W' := by
  obtain ⟨ee, hE⟩ := errsLaid hL
  have hW' := hW
  obtain ⟨p, q, hA0, hV, rfl, hfz, hnd⟩ := hW
  have hA : DataW.TrodAll enc Tryd.prog W 0 (fun _ => true) true Tryd.f8.params.toList args.toList ds p := hA0
  rw [Tryd.params8] at hA hval
  clear hA0
  obtain ⟨v0, vs0, d0, ds0, p0, q0, hargs, rfl, rfl, h0, r0⟩ := trodAll_cons hA
  obtain ⟨v1, vs1, d1, ds1, p1, q1, rfl, rfl, rfl, h1, r1⟩ := trodAll_cons r0
  obtain ⟨rfl, rfl, rfl⟩ := trodAll_nil r1
  obtain rfl : args = #[v0, v1] := by cases args; simp_all
  obtain ⟨z0, z1, z2, z3, z4, z5, z6, rfl⟩ := vars_of hV
  obtain ⟨A, c, xs, rfl, hl, hg, hf⟩ := cloS.open_many (hval 0 30 v0 rfl rfl) h0
  obtain ⟨A', c', os, rfl, hl', hg'⟩ := intS.open_many (hval 1 38 v1 rfl rfl) h1
  have walk : Calls Tryd.prog 8 #[.slice A xs.length c, .slice A' os.length c'] W fun e W' => e = .returned (.bool true) ∧ Below W.heap.size W W' := by
    unfold maxLen at hl hl'
    rcases Nat.lt_or_ge 1048576 os.length with h | h
    · exact walk_long A _ c A' _ c' hl' h W
    · rcases Nat.lt_or_ge 1048576 xs.length with h2 | h2
      · exact walk_long2 A _ c hl h2 A' _ c' h W
      · exact walk_fits A _ c xs rfl h2 hf A' _ c' os rfl h W ee hE hg hg'
  refine walk.mono fun e W' ⟨he, hb⟩ => ?_
  subst he
  exact ⟨_, rfl, close_vars laidOut readables (by kernel_rfl) Tryd.underlying4 rfl rfl hW' hb⟩

end Go.Proofs.YtbpipcfijbgnhaaDoor.lawInOrder
