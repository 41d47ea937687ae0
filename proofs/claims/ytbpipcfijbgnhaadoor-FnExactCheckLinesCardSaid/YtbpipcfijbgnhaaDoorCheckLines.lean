/-
  THE LAW FnExactCheckLines: for every line, every list of cloths and every list of numbers the law returns true: the program answers as the model does, and changes neither list. No condition but that the package's errors are what the program's text lays.
-/
import Derived.Test.YtbpipcfijbgnhaaDoorCCheckLines
import Derived.Test.YtbpipcfijbgnhaaDoorCloOpen
import Derived.Test.YtbpipcfijbgnhaaDoorLinOpen
import Derived.Test.YtbpipcfijbgnhaaDoorIntOpen
import Derived.Test.YtbpipcfijbgnhaaDoorClose
import Derived.Test.YtbpipcfijbgnhaaDoorLaid
import Derived.Test.YtbpipcfijbgnhaaDoorCards
import Derived.Test.YtbpipcfijbgnhaaDoorTie
namespace Go.Proofs.YtbpipcfijbgnhaaDoor.lawCheckLines
open Go.ChangeShapes Go.WideShapes Go.ChangeAt Go.RowKit Go.Joins sl errs hang

set_option maxRecDepth 100000 in
set_option maxHeartbeats 8000000 in
theorem walk_fits (l : Lin) (hl : l.Fits) (A : Option Addr) (n c : Nat) (xs : List Clo) (en : n = xs.length) (hn : n ≤ 1048576) (hf : ∀ x ∈ xs, x.Fits) (A' : Option Addr) (n' c' : Nat) (os : List Int) (en' : n' = os.length) (hn' : n' ≤ 1048576) (w : World) (e : Nat → Addr) (hE : Errs w w.heap.size e) (hg : Sl Clo.cells 2 w w.heap.size A xs) (hg' : Sl intS.C 1 w w.heap.size A' os) :
    Calls Tryd.prog 11 #[l.v, .slice A n c, .slice A' n' c'] w fun o w' => o = .returned (.bool true) ∧ Below w.heap.size w w' := by
  subst en en'
  have S0 := Lib.hid (FitS.new l w 45)
  obtain ⟨code, hcode⟩ : ∃ k, k = codeHung l xs := ⟨_, rfl⟩
  have HC := Lib.hid hcode
  obtain ⟨b, hb0⟩ : ∃ b, chkRes l xs os = b := ⟨_, rfl⟩
  have HR := Lib.hid hb0
  clear hcode hb0
  have c0 := S0.out.c0
  have c1 := S0.out.c1
  go_enter Tryd.func11, Tryd.ntmps11
  go_wp2_with fail
  refine (cloS.szS_any A xs.length c 1048576 (by omega) (by omega) _).mono ?_
  rintro o u ⟨rfl, rfl⟩
  rw [if_neg (by omega)]
  go_wp2_with fail
  refine (linS.to_any l _).mono ?_
  rintro o u ⟨rfl, hb⟩
  clear c0 c1
  have S1 := Lib.hid (S0.out.next hb)
  clear hb S0
  go_wp2_with fail
  refine (cloS.toS_any A c xs hn _ ((hg.below S1.out.b).more S1.out.b.size)).mono ?_
  rintro o u ⟨g1, rfl, P, hb⟩
  have S2 := Lib.hid (S1.out.next hb)
  clear hb S1
  have Xg1 := Lib.hid P
  clear P
  go_wp2_with fail
  refine (intS.toS_any A' os.length c' os rfl hn' _ ((hg'.below S2.out.b).more S2.out.b.size)).mono ?_
  rintro o u ⟨g2, rfl, P, hb⟩
  have S3 := Lib.hid (S2.out.next hb)
  have Xg13 := Lib.hid (owns_next Xg1.out hb)
  clear hb S2 Xg1
  have Ig2 := Lib.hid P
  clear P
  go_wp2_with fail
  refine (CheckLines_spec l hl (some ⟨g1, 0, none⟩) xs.length xs.length xs rfl hn hf (some ⟨g2, 0, none⟩) os.length os.length os rfl hn' _ (Sl.of_owns Xg13.out (Clo.len _) (by decide)) (Sl.of_owns Ig2.out (intS.len _) (by decide)) code HC.out).mono ?_
  rintro o u ⟨rfl, hb⟩
  rw [HR.out]
  clear Xg13
  clear Ig2
  have S4 := Lib.hid (S3.out.next hb)
  clear hb S3
  go_wp2_with fail
  refine (cloS.toS_any A c xs hn _ ((hg.below S4.out.b).more S4.out.b.size)).mono ?_
  rintro o u ⟨g3, rfl, P, hb⟩
  have S5 := Lib.hid (S4.out.next hb)
  clear hb S4
  have Xg3 := Lib.hid P
  clear P
  go_wp2_with fail
  refine (intS.toS_any A' os.length c' os rfl hn' _ ((hg'.below S5.out.b).more S5.out.b.size)).mono ?_
  rintro o u ⟨g4, rfl, P, hb⟩
  have S6 := Lib.hid (S5.out.next hb)
  have Xg36 := Lib.hid (owns_next Xg3.out hb)
  clear hb S5 Xg3
  have Ig4 := Lib.hid P
  clear P
  have c0 := S6.out.c0
  have c1 := S6.out.c1
  go_wp2_with fail
  refine (linS.to_any l _).mono ?_
  rintro o u ⟨rfl, hb⟩
  clear c0 c1
  have S7 := Lib.hid (S6.out.next hb)
  have Xg37 := Lib.hid (owns_next Xg36.out hb)
  have Ig47 := Lib.hid (owns_next Ig4.out hb)
  clear hb S6 Xg36 Ig4
  go_wp2_with fail
  refine (CheckLines_any l hl (some ⟨g3, 0, none⟩) xs.length xs.length xs rfl hn hf (some ⟨g4, 0, none⟩) os.length os.length os rfl hn' (hE.below S7.out.b) S7.out.b.size (Sl.of_owns Xg37.out (Clo.len _) (by decide)) (Sl.of_owns Ig47.out (intS.len _) (by decide)) code HC.out).mono ?_
  rintro o u ⟨rfl, hb⟩
  rw [HR.out]
  have S8 := Lib.hid (S7.out.next hb)
  have Xg38 := Lib.hid (owns_next Xg37.out hb)
  have Ig48 := Lib.hid (owns_next Ig47.out hb)
  clear hb S7 Xg37 Ig47
  go_wp2_with fail
  refine (cloS.toS_any A c xs hn _ ((hg.below S8.out.b).more S8.out.b.size)).mono ?_
  rintro o u ⟨g7, rfl, P, hb⟩
  have S9 := Lib.hid (S8.out.next hb)
  have Xg39 := Lib.hid (owns_next Xg38.out hb)
  have Ig49 := Lib.hid (owns_next Ig48.out hb)
  clear hb S8 Xg38 Ig48
  have Xg7 := Lib.hid P
  clear P
  go_wp2_with fail
  refine (cloS.eqS_any (some ⟨g3, 0, none⟩) (some ⟨g7, 0, none⟩) xs.length xs.length xs.length xs.length xs xs rfl rfl hn (by omega) _ (Sl.of_owns Xg39.out (Clo.len _) (by decide)) (Sl.of_owns Xg7.out (Clo.len _) (by decide)) true (by simp)).mono ?_
  rintro o u ⟨rfl, hb⟩
  clear Xg7
  clear Xg39
  have S10 := Lib.hid (S9.out.next hb)
  have Ig410 := Lib.hid (owns_next Ig49.out hb)
  clear hb S9 Ig49
  go_wp2_with fail
  refine (intS.toS_any A' os.length c' os rfl hn' _ ((hg'.below S10.out.b).more S10.out.b.size)).mono ?_
  rintro o u ⟨g8, rfl, P, hb⟩
  have S11 := Lib.hid (S10.out.next hb)
  have Ig411 := Lib.hid (owns_next Ig410.out hb)
  clear hb S10 Ig410
  have Ig8 := Lib.hid P
  clear P
  go_wp2_with fail
  refine (intS.eqS_any (some ⟨g4, 0, none⟩) (some ⟨g8, 0, none⟩) os.length os.length os.length os.length os os rfl rfl hn' (by omega) _ (Sl.of_owns Ig411.out (intS.len _) (by decide)) (Sl.of_owns Ig8.out (intS.len _) (by decide)) true (by simp)).mono ?_
  rintro o u ⟨rfl, hb⟩
  clear Ig8
  clear Ig411
  have S12 := Lib.hid (S11.out.next hb)
  clear hb S11
  go_wp2_with fail
  go_ret
  exact ⟨rfl, S12.out.b⟩

set_option maxHeartbeats 1000000 in
theorem walk_long (l : Lin) (A : Option Addr) (n c : Nat) (A' : Option Addr) (n' c' : Nat) (hm : n' ≤ 9223372036854775807) (hn : 1048576 < n') (w : World) :
    Calls Tryd.prog 11 #[l.v, .slice A n c, .slice A' n' c'] w fun e w' => e = .returned (.bool true) ∧ Below w.heap.size w w' := by
  have S0 := Lib.hid (FitS.new l w 45)
  go_enter Tryd.func11, Tryd.ntmps11
  go_wp2_with fail
  go_ret
  exact ⟨rfl, S0.out.b⟩
set_option maxHeartbeats 1000000 in
theorem walk_long2 (l : Lin) (A : Option Addr) (n c : Nat) (hm : n ≤ 9223372036854775807) (hn : 1048576 < n) (A' : Option Addr) (n' c' : Nat) (hn' : n' ≤ 1048576) (w : World) :
    Calls Tryd.prog 11 #[l.v, .slice A n c, .slice A' n' c'] w fun e w' => e = .returned (.bool true) ∧ Below w.heap.size w w' := by
  have S0 := Lib.hid (FitS.new l w 45)
  go_enter Tryd.func11, Tryd.ntmps11
  go_wp2_with fail
  refine (cloS.szS_any A n c 1048576 hm (by omega) _).mono ?_
  rintro o w1 ⟨rfl, rfl⟩
  rw [if_pos (by omega)]
  go_wp2_with fail
  go_ret
  exact ⟨rfl, S0.out.b⟩

theorem readables : ∀ t ∈ Tryd.f11.params.toList, Tryd.prog.readableRec t = true ∧ t < Tryd.prog.types.size := by
  rw [Tryd.params11]
  intro t ht
  simp only [List.mem_cons, List.not_mem_nil, or_false] at ht
  rcases ht with rfl | rfl | rfl <;> exact ⟨by kernel_rfl, of_decide_eq_true (by kernel_rfl)⟩

set_option maxRecDepth 100000 in
/-- what the row's list gives -/
theorem errsLaid {W : World} (h : laidMetH Tryd.prog Rows.fnExactCheckLinesRow.laid W) : ∃ e, Errs W W.heap.size e := by
  rw [MakeChecks.laidMetH_plain _ _ _ (by kernel_rfl)] at h
  refine errs_of Rows.fnExactCheckLinesRow.laid (fun i => i) h (by kernel_rfl) ?_ ?_ (fun i j _ _ h => h)
  · have hall : ((listOf Rows.fnExactCheckLinesRow.laid).all fun x => match Tryd.prog.globalNamed x.1 with | some g => decide ((Tryd.prog.globals[g]?).map (·.type) = some 69) | none => false) = true := by kernel_rfl
    intro x hx
    have h1 := List.all_eq_true.1 hall x hx
    split at h1
    · rename_i g hg
      exact ⟨g, hg, of_decide_eq_true h1⟩
    · cases h1
  · have b0 : ((listOf Rows.fnExactCheckLinesRow.laid)[0]?).bind (fun x => Tryd.prog.globalNamed x.1) = some (gvar 0) := by kernel_rfl
    have b1 : ((listOf Rows.fnExactCheckLinesRow.laid)[1]?).bind (fun x => Tryd.prog.globalNamed x.1) = some (gvar 1) := by kernel_rfl
    have b2 : ((listOf Rows.fnExactCheckLinesRow.laid)[2]?).bind (fun x => Tryd.prog.globalNamed x.1) = some (gvar 2) := by kernel_rfl
    have b3 : ((listOf Rows.fnExactCheckLinesRow.laid)[3]?).bind (fun x => Tryd.prog.globalNamed x.1) = some (gvar 3) := by kernel_rfl
    have b4 : ((listOf Rows.fnExactCheckLinesRow.laid)[4]?).bind (fun x => Tryd.prog.globalNamed x.1) = some (gvar 4) := by kernel_rfl
    have b5 : ((listOf Rows.fnExactCheckLinesRow.laid)[5]?).bind (fun x => Tryd.prog.globalNamed x.1) = some (gvar 5) := by kernel_rfl
    have b6 : ((listOf Rows.fnExactCheckLinesRow.laid)[6]?).bind (fun x => Tryd.prog.globalNamed x.1) = some (gvar 6) := by kernel_rfl
    intro i hi
    match i, hi with
    | 0, _ => exact b0
    | 1, _ => exact b1
    | 2, _ => exact b2
    | 3, _ => exact b3
    | 4, _ => exact b4
    | 5, _ => exact b5
    | 6, _ => exact b6

set_option maxRecDepth 100000 in
theorem contract (H : Type) (enc : TypeId × Value → H) (W : World) (base : Nat) (args : Array Value) (ds gs : List (DataW H)) (before : List MemPlace)
    (hval : ∀ (j : Nat) t v, Tryd.f11.params[j]? = some t → args[j]? = some v → Value.okWide Tryd.prog W .any base t v)
    (hW : DataW.Whole enc Tryd.prog Tryd.f11.params.toList Rows.fnExactCheckLinesSpec.vars false W args.toList ds gs before) (hL : laidMetH Tryd.prog Rows.fnExactCheckLinesRow.laid W) :
    Calls Tryd.prog 11 args W fun e W' => ∃ v, e = .returned v ∧ Rows.fnExactCheckLinesSpec.post enc Tryd.prog Tryd.f11 false true false false W args v W' := by
  obtain ⟨ee, hE⟩ := errsLaid hL
  have hW' := hW
  obtain ⟨p, q, hA0, hV, rfl, hfz, hnd⟩ := hW
  have hA : DataW.TrodAll enc Tryd.prog W 0 (fun _ => true) true Tryd.f11.params.toList args.toList ds p := hA0
  rw [Tryd.params11] at hA hval
  clear hA0
  obtain ⟨v0, vs0, d0, ds0, p0, q0, hargs, rfl, rfl, h0, r0⟩ := trodAll_cons hA
  obtain ⟨v1, vs1, d1, ds1, p1, q1, rfl, rfl, rfl, h1, r1⟩ := trodAll_cons r0
  obtain ⟨v2, vs2, d2, ds2, p2, q2, rfl, rfl, rfl, h2, r2⟩ := trodAll_cons r1
  obtain ⟨rfl, rfl, rfl⟩ := trodAll_nil r2
  obtain rfl : args = #[v0, v1, v2] := by cases args; simp_all
  obtain ⟨z0, z1, z2, z3, z4, z5, z6, rfl⟩ := vars_of hV
  obtain ⟨l, hl0, rfl⟩ := linS.open_one (hval 0 45 v0 rfl rfl) h0
  obtain ⟨A, c, xs, rfl, hl, hg, hf⟩ := cloS.open_many (hval 1 30 v1 rfl rfl) h1
  obtain ⟨A', c', os, rfl, hl', hg'⟩ := intS.open_many (hval 2 38 v2 rfl rfl) h2
  have walk : Calls Tryd.prog 11 #[l.v, .slice A xs.length c, .slice A' os.length c'] W fun e W' => e = .returned (.bool true) ∧ Below W.heap.size W W' := by
    unfold maxLen at hl hl'
    rcases Nat.lt_or_ge 1048576 os.length with h | h
    · exact walk_long l A _ c A' _ c' hl' h W
    · rcases Nat.lt_or_ge 1048576 xs.length with h2 | h2
      · exact walk_long2 l A _ c hl h2 A' _ c' h W
      · exact walk_fits l hl0 A _ c xs rfl h2 hf A' _ c' os rfl h W ee hE hg hg'
  refine walk.mono fun e W' ⟨he, hb⟩ => ?_
  subst he
  exact ⟨_, rfl, close_vars laidOut readables (by kernel_rfl) Tryd.underlying4 rfl rfl hW' hb⟩

end Go.Proofs.YtbpipcfijbgnhaaDoor.lawCheckLines
