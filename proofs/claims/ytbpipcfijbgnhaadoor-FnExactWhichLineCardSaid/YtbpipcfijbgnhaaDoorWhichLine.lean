/-
  THE LAW FnExactWhichLine: for every list of lines and every list of cloths the law returns true: the program answers as the model does, and changes neither. No condition but that the package's errors are what the program's text lays.
-/
import Derived.Test.YtbpipcfijbgnhaaDoorCWhich
import Derived.Test.YtbpipcfijbgnhaaDoorCloOpen
import Derived.Test.YtbpipcfijbgnhaaDoorLinOpen
import Derived.Test.YtbpipcfijbgnhaaDoorClose
import Derived.Test.YtbpipcfijbgnhaaDoorLaid
import Derived.Test.YtbpipcfijbgnhaaDoorCards
import Derived.Test.YtbpipcfijbgnhaaDoorTie
namespace Go.Proofs.YtbpipcfijbgnhaaDoor.lawWhichLine
open Go.ChangeShapes Go.WideShapes Go.ChangeAt Go.RowKit Go.Joins sl errs hang

set_option maxRecDepth 100000 in
set_option maxHeartbeats 4000000 in
theorem walk_fits (A : Option Addr) (n c : Nat) (ls : List Lin) (en : n = ls.length) (hlf : ∀ x ∈ ls, x.Fits) (A' : Option Addr) (n' c' : Nat) (xs : List Clo) (en' : n' = xs.length) (hn : n + n' ≤ 1048576) (hf : ∀ x ∈ xs, x.Fits) (w : World) (e : Nat → Addr) (hE : Errs w w.heap.size e) (hgl : Sl Lin.cells 2 w w.heap.size A ls) (hg : Sl Clo.cells 2 w w.heap.size A' xs) :
    Calls Tryd.prog 12 #[.slice A n c, .slice A' n' c'] w fun o w' => o = .returned (.bool true) ∧ Below w.heap.size w w' := by
  have En := Lib.hid en
  subst en
  subst en'
  obtain ⟨p, q, hpq⟩ : ∃ p q, whichRes ls xs = (p, q) := ⟨_, _, rfl⟩
  have HR := Lib.hid hpq
  clear hpq
  go_enter Tryd.func12, Tryd.ntmps12
  go_wp2_with fail
  refine (linS.szS_any A ls.length c 1048576 (by omega) (by omega) _).mono ?_
  rintro o w1 ⟨rfl, rfl⟩
  rw [if_neg (by omega)]
  go_wp2_with fail
  refine (cloS.szS_any A' xs.length c' (1048576 - ls.length) (by omega) (by omega) _).mono ?_
  rintro o w1 ⟨rfl, rfl⟩
  rw [if_neg (by omega)]
  go_wp2_with fail
  refine (linS.toS_any A c ls (by omega) _ hgl).mono ?_
  rintro o w1 ⟨g1, rfl, P1, hb1⟩
  have L1 := Sl.of_owns P1 (Lin.len ls) (by decide)
  have H1 := Lib.hid hb1
  clear P1 hb1
  go_wp2_with fail
  refine (cloS.toS_any A' c' xs (by omega) _ (hg.next H1.out)).mono ?_
  rintro o w2 ⟨g2, rfl, P2, hb2⟩
  have L2 := L1.next hb2
  have X2 := Sl.of_owns P2 (Clo.len xs) (by decide)
  have H2 := Lib.hid (below_next H1.out hb2 (Nat.le_refl _))
  clear P2 hb2 L1 H1
  go_wp2_with fail
  refine (WhichLine_spec (some ⟨g1, 0, none⟩) ls.length ls.length ls rfl (by omega) hlf (some ⟨g2, 0, none⟩) xs.length xs.length xs rfl (by omega) hf _ L2 X2).mono ?_
  rintro o w3 ⟨rfl, hb3⟩
  rw [HR.out]
  have H3 := Lib.hid (below_next H2.out hb3 (Nat.le_refl _))
  clear hb3 L2 X2 H2
  go_wp2_with fail
  refine (linS.toS_any A c ls (by omega) _ (hgl.next H3.out)).mono ?_
  rintro o w4 ⟨g4, rfl, P4, hb4⟩
  have L4 := Sl.of_owns P4 (Lin.len ls) (by decide)
  have H4 := Lib.hid (below_next H3.out hb4 (Nat.le_refl _))
  clear P4 hb4 H3
  go_wp2_with fail
  refine (cloS.toS_any A' c' xs (by omega) _ (hg.next H4.out)).mono ?_
  rintro o w5 ⟨g5, rfl, P5, hb5⟩
  have L5 := L4.next hb5
  have X5 := Sl.of_owns P5 (Clo.len xs) (by decide)
  have H5 := Lib.hid (below_next H4.out hb5 (Nat.le_refl _))
  clear P5 hb5 L4 H4
  go_wp2_with fail
  refine (WhichLine_any (some ⟨g4, 0, none⟩) ls.length ls.length ls rfl (by omega) hlf (some ⟨g5, 0, none⟩) xs.length xs.length xs rfl (by omega) hf (hE.below H5.out) H5.out.size L5 X5).mono ?_
  rintro o w6 ⟨rfl, hb6⟩
  rw [HR.out]
  have L6 := L5.next hb6
  have X6 := X5.next hb6
  have H6 := Lib.hid (below_next H5.out hb6 (Nat.le_refl _))
  clear hb6 L5 X5 H5
  go_wp2_with fail
  refine (linS.toS_any A c ls (by omega) _ (hgl.next H6.out)).mono ?_
  rintro o w7 ⟨g7, rfl, P7, hb7⟩
  have L7 := L6.next hb7
  have X7 := X6.next hb7
  have M7 := Sl.of_owns P7 (Lin.len ls) (by decide)
  have H7 := Lib.hid (below_next H6.out hb7 (Nat.le_refl _))
  clear P7 hb7 L6 X6 H6
  go_wp2_with fail
  refine (linS.eqS_any (some ⟨g4, 0, none⟩) (some ⟨g7, 0, none⟩) ls.length ls.length ls.length ls.length ls ls rfl rfl (by omega) (by omega) _ L7 M7 true (by simp)).mono ?_
  rintro o w8 ⟨rfl, hb8⟩
  have X8 := X7.next hb8
  have H8 := Lib.hid (below_next H7.out hb8 (Nat.le_refl _))
  clear hb8 L7 M7 X7 H7
  go_wp2_with fail
  refine (cloS.toS_any A' c' xs (by omega) _ (hg.next H8.out)).mono ?_
  rintro o w9 ⟨g9, rfl, P9, hb9⟩
  have X9 := X8.next hb9
  have Y9 := Sl.of_owns P9 (Clo.len xs) (by decide)
  have H9 := Lib.hid (below_next H8.out hb9 (Nat.le_refl _))
  clear P9 hb9 X8 H8
  go_wp2_with fail
  refine (cloS.eqS_any (some ⟨g5, 0, none⟩) (some ⟨g9, 0, none⟩) xs.length xs.length xs.length xs.length xs xs rfl rfl (by omega) (by omega) _ X9 Y9 true (by simp)).mono ?_
  rintro o w10 ⟨rfl, hb10⟩
  have H10 := Lib.hid (below_next H9.out hb10 (Nat.le_refl _))
  clear hb10 H9
  go_wp2_with fail
  go_ret
  exact ⟨rfl, H10.out⟩

set_option maxHeartbeats 1000000 in
theorem walk_long (A : Option Addr) (n c : Nat) (hm : n ≤ 9223372036854775807) (hn : 1048576 < n) (A' : Option Addr) (n' c' : Nat) (w : World) :
    Calls Tryd.prog 12 #[.slice A n c, .slice A' n' c'] w fun e w' => e = .returned (.bool true) ∧ Below w.heap.size w w' := by
  go_enter Tryd.func12, Tryd.ntmps12
  go_wp2_with fail
  refine (linS.szS_any A n c 1048576 hm (by omega) _).mono ?_
  rintro o w1 ⟨rfl, rfl⟩
  rw [if_pos (by omega)]
  go_wp2_with fail
  go_ret
  exact ⟨rfl, Below.refl _ _⟩
set_option maxHeartbeats 1000000 in
theorem walk_long2 (A : Option Addr) (n c : Nat) (hm : n ≤ 1048576) (A' : Option Addr) (n' c' : Nat) (hm' : n' ≤ 9223372036854775807) (hn : 1048576 < n + n') (w : World) :
    Calls Tryd.prog 12 #[.slice A n c, .slice A' n' c'] w fun e w' => e = .returned (.bool true) ∧ Below w.heap.size w w' := by
  go_enter Tryd.func12, Tryd.ntmps12
  go_wp2_with fail
  refine (linS.szS_any A n c 1048576 (by omega) (by omega) _).mono ?_
  rintro o w1 ⟨rfl, rfl⟩
  rw [if_neg (by omega)]
  go_wp2_with fail
  refine (cloS.szS_any A' n' c' (1048576 - n) hm' (by omega) _).mono ?_
  rintro o w1 ⟨rfl, rfl⟩
  rw [if_pos (by omega)]
  go_wp2_with fail
  go_ret
  exact ⟨rfl, Below.refl _ _⟩

theorem readables : ∀ t ∈ Tryd.f12.params.toList, Tryd.prog.readableRec t = true ∧ t < Tryd.prog.types.size := by
  rw [Tryd.params12]
  intro t ht
  simp only [List.mem_cons, List.not_mem_nil, or_false] at ht
  rcases ht with rfl | rfl <;> exact ⟨by kernel_rfl, of_decide_eq_true (by kernel_rfl)⟩

set_option maxRecDepth 100000 in
/-- what the row's list gives -/
theorem errsLaid {W : World} (h : laidMetH Tryd.prog Rows.fnExactWhichLineRow.laid W) : ∃ e, Errs W W.heap.size e := by
  rw [MakeChecks.laidMetH_plain _ _ _ (by kernel_rfl)] at h
  refine errs_of Rows.fnExactWhichLineRow.laid (fun i => i) h (by kernel_rfl) ?_ ?_ (fun i j _ _ h => h)
  · have hall : ((listOf Rows.fnExactWhichLineRow.laid).all fun x => match Tryd.prog.globalNamed x.1 with | some g => decide ((Tryd.prog.globals[g]?).map (·.type) = some 69) | none => false) = true := by kernel_rfl
    intro x hx
    have h1 := List.all_eq_true.1 hall x hx
    split at h1
    · rename_i g hg
      exact ⟨g, hg, of_decide_eq_true h1⟩
    · cases h1
  · have b0 : ((listOf Rows.fnExactWhichLineRow.laid)[0]?).bind (fun x => Tryd.prog.globalNamed x.1) = some (gvar 0) := by kernel_rfl
    have b1 : ((listOf Rows.fnExactWhichLineRow.laid)[1]?).bind (fun x => Tryd.prog.globalNamed x.1) = some (gvar 1) := by kernel_rfl
    have b2 : ((listOf Rows.fnExactWhichLineRow.laid)[2]?).bind (fun x => Tryd.prog.globalNamed x.1) = some (gvar 2) := by kernel_rfl
    have b3 : ((listOf Rows.fnExactWhichLineRow.laid)[3]?).bind (fun x => Tryd.prog.globalNamed x.1) = some (gvar 3) := by kernel_rfl
    have b4 : ((listOf Rows.fnExactWhichLineRow.laid)[4]?).bind (fun x => Tryd.prog.globalNamed x.1) = some (gvar 4) := by kernel_rfl
    have b5 : ((listOf Rows.fnExactWhichLineRow.laid)[5]?).bind (fun x => Tryd.prog.globalNamed x.1) = some (gvar 5) := by kernel_rfl
    have b6 : ((listOf Rows.fnExactWhichLineRow.laid)[6]?).bind (fun x => Tryd.prog.globalNamed x.1) = some (gvar 6) := by kernel_rfl
    intro i hi
    match i, hi with
    | 0, _ => exact b0
    | 1, _ => exact b1
    | 2, _ => exact b2
    | 3, _ => exact b3
    | 4, _ => exact b4
    | 5, _ => exact b5
    | 6, _ => exact b6

set_option maxRecDepth 100000 in
theorem contract (H : Type) (enc : TypeId × Value → H) (W : World) (base : Nat) (args : Array Value) (ds gs : List (DataW H)) (before : List MemPlace)
    (hval : ∀ (j : Nat) t v, Tryd.f12.params[j]? = some t → args[j]? = some v → Value.okWide Tryd.prog W .any base t v)
    (hW : DataW.Whole enc Tryd.prog Tryd.f12.params.toList Rows.fnExactWhichLineSpec.vars false W args.toList ds gs before) (hL : laidMetH Tryd.prog Rows.fnExactWhichLineRow.laid W) :
    Calls Tryd.prog 12 args W fun e W' => ∃ v, e = .returned v ∧ Rows.fnExactWhichLineSpec.post enc Tryd.prog Tryd.f12 false true false false W args v W' := by
  obtain ⟨ee, hE⟩ := errsLaid hL
  have hW' := hW
  obtain ⟨p, q, hA0, hV, rfl, hfz, hnd⟩ := hW
  have hA : DataW.TrodAll enc Tryd.prog W 0 (fun _ => true) true Tryd.f12.params.toList args.toList ds p := hA0
  rw [Tryd.params12] at hA hval
  clear hA0
  obtain ⟨v0, vs0, d0, ds0, p0, q0, hargs, rfl, rfl, h0, r0⟩ := trodAll_cons hA
  obtain ⟨v1, vs1, d1, ds1, p1, q1, rfl, rfl, rfl, h1, r1⟩ := trodAll_cons r0
  obtain ⟨rfl, rfl, rfl⟩ := trodAll_nil r1
  obtain rfl : args = #[v0, v1] := by cases args; simp_all
  obtain ⟨z0, z1, z2, z3, z4, z5, z6, rfl⟩ := vars_of hV
  obtain ⟨A, c, ls, rfl, hl, hgl, hlf⟩ := linS.open_many (hval 0 59 v0 rfl rfl) h0
  obtain ⟨A', c', xs, rfl, hl', hg, hf⟩ := cloS.open_many (hval 1 30 v1 rfl rfl) h1
  have walk : Calls Tryd.prog 12 #[.slice A ls.length c, .slice A' xs.length c'] W fun e W' => e = .returned (.bool true) ∧ Below W.heap.size W W' := by
    unfold maxLen at hl hl'
    rcases Nat.lt_or_ge 1048576 ls.length with h | h
    · exact walk_long A _ c hl h A' _ c' W
    · rcases Nat.lt_or_ge 1048576 (ls.length + xs.length) with h2 | h2
      · exact walk_long2 A _ c h A' _ c' hl' h2 W
      · exact walk_fits A _ c ls rfl hlf A' _ c' xs rfl h2 hf W ee hE hgl hg
  refine walk.mono fun e W' ⟨he, hb⟩ => ?_
  subst he
  exact ⟨_, rfl, close_vars laidOut readables (by kernel_rfl) Tryd.underlying4 rfl rfl hW' hb⟩

end Go.Proofs.YtbpipcfijbgnhaaDoor.lawWhichLine
