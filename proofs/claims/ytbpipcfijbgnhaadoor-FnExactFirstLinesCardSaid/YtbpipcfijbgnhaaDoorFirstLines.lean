/-
  THE LAW FnExactFirstLines: for every line and every list of cloths the law returns true: the program answers as the model does, changes no cloth, and what it returns is its own. No condition but that the package's errors are what the program's text lays.
-/
import Derived.Test.YtbpipcfijbgnhaaDoorCFirstA
import Derived.Test.YtbpipcfijbgnhaaDoorCFirstS
import Derived.Test.YtbpipcfijbgnhaaDoorCloMark
import Derived.Test.YtbpipcfijbgnhaaDoorCloOpen
import Derived.Test.YtbpipcfijbgnhaaDoorLinOpen
import Derived.Test.YtbpipcfijbgnhaaDoorClose
import Derived.Test.YtbpipcfijbgnhaaDoorLaid
import Derived.Test.YtbpipcfijbgnhaaDoorCards
import Derived.Test.YtbpipcfijbgnhaaDoorTie
namespace Go.Proofs.YtbpipcfijbgnhaaDoor.lawFirstLines
open Go.ChangeShapes Go.WideShapes Go.ChangeAt Go.RowKit Go.Joins sl errs hang

set_option maxRecDepth 100000 in
set_option maxHeartbeats 8000000 in
theorem walk_fits (l : Lin) (hl : l.Fits) (A : Option Addr) (n c : Nat) (xs : List Clo) (en : n = xs.length) (hn : n ≤ 1048576) (hf : ∀ x ∈ xs, x.Fits) (w : World) (e : Nat → Addr) (hE : Errs w w.heap.size e) (hg : Sl Clo.cells 2 w w.heap.size A xs) :
    Calls Tryd.prog 10 #[l.v, .slice A n c] w fun o w' => o = .returned (.bool true) ∧ Below w.heap.size w w' := by
  have En := Lib.hid en
  subst en
  obtain ⟨num, hnum⟩ := numFirst_exists l xs
  obtain ⟨code, hcode⟩ : ∃ k, k = codeFirst l xs := ⟨_, rfl⟩
  rw [← hcode] at hnum
  have HC := Lib.hid hcode
  have HN := Lib.hid hnum
  clear hcode hnum
  have S0 := Lib.hid (FitS.new l w 45)
  have hys : (firstLs l xs code).length ≤ 1048576 := firstLs_le l xs code hn
  have c0 := S0.out.c0
  have c1 := S0.out.c1
  go_enter Tryd.func10, Tryd.ntmps10
  go_wp2_with fail
  refine (cloS.szS_any A xs.length c 1048576 (by omega) (by omega) _).mono ?_
  rintro o u ⟨rfl, rfl⟩
  rw [if_neg (by omega)]
  go_wp2_with fail
  refine (linS.to_any l _).mono ?_
  rintro o u ⟨rfl, hb⟩
  clear c0 c1
  have S1 := Lib.hid (S0.out.next hb)
  clear hb S0
  have B0 := S1.out.b.size
  go_wp2_with fail
  refine (cloS.toS_any A c xs hn _ ((hg.below S1.out.b).more S1.out.b.size)).mono ?_
  rintro o u ⟨g1, rfl, P, hb⟩
  have S2 := Lib.hid (S1.out.next hb)
  clear hb S1
  have Xg1 := Lib.hid P
  clear P
  go_wp2_with fail
  refine (FirstLines_spec l hl (some ⟨g1, 0, none⟩) xs.length xs rfl hn hf _ (Sl.of_owns Xg1.out (Clo.len xs) (by decide)) code num HC.out HN.out.1 HN.out.2).mono ?_
  rintro o u1 ⟨v, rfl, P, hb⟩
  obtain ⟨Aw, cw, rfl, _⟩ := owns_slice P
  have LtG0 : w.heap.size < u1.heap.size := by
    have t := Xg1.out.lt g1 rfl
    have b := hb.size
    omega
  clear Xg1
  have S3 := Lib.hid (S2.out.next hb)
  clear hb S2
  have PW := Lib.hid P
  have LtW : Hid (∀ k, (Value.slice Aw (firstLs l xs code).length cw).ownBlock = some k → k < u1.heap.size) := Lib.hid fun k hk => (PW.out.lt k hk).2
  clear P
  go_wp2_with fail
  refine (cloS.toS_any A c xs hn _ ((hg.below S3.out.b).more S3.out.b.size)).mono ?_
  rintro o u ⟨g3, rfl, P, hb⟩
  have S4 := Lib.hid (S3.out.next hb)
  have PW4 := Lib.hid (owns_next PW.out hb)
  clear hb S3 PW
  have Xg3 := Lib.hid P
  clear P
  have G3 : u1.heap.size ≤ g3 := (Xg3.out.lt g3 rfl).1
  have W3 : w.heap.size < g3 := by omega
  have c0 := S4.out.c0
  have c1 := S4.out.c1
  go_wp2_with fail
  refine (linS.to_any l _).mono ?_
  rintro o u ⟨rfl, hb⟩
  clear c0 c1
  have S5 := Lib.hid (S4.out.next hb)
  have PW5 := Lib.hid (owns_next PW4.out hb)
  have Xg35 := Lib.hid (owns_next Xg3.out hb)
  clear hb S4 PW4 Xg3
  go_wp2_with fail
  have E5 := Xg35.out.lt g3 rfl
  refine (FirstLines_any l hl (some ⟨g3, 0, none⟩) xs.length xs.length xs rfl hn hf (hE.below S5.out.b) S5.out.b.size (Sl.of_owns Xg35.out (Clo.len xs) (by decide)) code num HC.out HN.out).mono ?_
  rintro o u5 ⟨v, rfl, P, hb⟩
  obtain ⟨Ag, cg, rfl, _⟩ := owns_slice P
  have G5 : Hid (∀ k, (Value.slice Ag (firstLs l xs code).length cg).ownBlock = some k → g3 < k) := Lib.hid fun k hk => Nat.lt_of_lt_of_le E5.2 (P.lt k hk).1
  have S6 := Lib.hid (S5.out.next hb)
  have PW6 := Lib.hid (owns_next PW5.out hb)
  have Xg36 := Lib.hid (owns_next Xg35.out hb)
  clear hb S5 PW5 Xg35
  have PG := Lib.hid P
  clear P
  go_wp2_with fail
  refine (intS.eqS_any Ag Aw _ _ cg cw (firstLs l xs code) (firstLs l xs code) rfl rfl hys (by omega) _ (Sl.of_owns PG.out (intS.len _) (by decide)) (Sl.of_owns PW6.out (intS.len _) (by decide)) true (by simp)).mono ?_
  rintro o u ⟨rfl, hb⟩
  have S7 := Lib.hid (S6.out.next hb)
  have PW7 := Lib.hid (owns_next PW6.out hb)
  have Xg37 := Lib.hid (owns_next Xg36.out hb)
  have PG7 := Lib.hid (owns_next PG.out hb)
  clear hb S6 PW6 Xg36 PG
  go_wp2_with fail
  refine (cloS.toS_any A c xs hn _ ((hg.below S7.out.b).more S7.out.b.size)).mono ?_
  rintro o u ⟨g7, rfl, P, hb⟩
  have S8 := Lib.hid (S7.out.next hb)
  have PW8 := Lib.hid (owns_next PW7.out hb)
  have Xg38 := Lib.hid (owns_next Xg37.out hb)
  have PG8 := Lib.hid (owns_next PG7.out hb)
  clear hb S7 PW7 Xg37 PG7
  have Xg7 := Lib.hid P
  clear P
  go_wp2_with fail
  refine (cloS.eqS_any (some ⟨g3, 0, none⟩) (some ⟨g7, 0, none⟩) xs.length xs.length xs.length xs.length xs xs rfl rfl hn (by omega) _ (Sl.of_owns Xg38.out (Clo.len xs) (by decide)) (Sl.of_owns Xg7.out (Clo.len xs) (by decide)) true (by simp)).mono ?_
  rintro o u ⟨rfl, hb⟩
  clear Xg7
  have S9 := Lib.hid (S8.out.next hb)
  have PW9 := Lib.hid (owns_next PW8.out hb)
  have Xg39 := Lib.hid (owns_next Xg38.out hb)
  have PG9 := Lib.hid (owns_next PG8.out hb)
  clear hb S8 PW8 Xg38 PG8
  go_wp2_with fail
  refine (cloS.markS_row _ g3 xs.length xs.length 1 (by omega) hn _ _ Xg39.out).mono ?_
  rintro o u ⟨rfl, _, hgr⟩
  clear Xg39
  have k1 : decide ((1 : Int) + 2 * (xs.length : Int) < 0) = false := by simp; omega
  have S10 := Lib.hid (S9.out.mark hgr W3)
  have PW10 := Lib.hid (owns_other PW9.out hgr (fun k hk e => by have := LtW.out k hk; omega))
  have PG10 := Lib.hid (owns_other PG9.out hgr (fun k hk e => by have := G5.out k hk; omega))
  clear hgr S9 PW9 PG9
  go_wp2_with fail
  refine (intS.eqS_any Ag Aw _ _ cg cw (firstLs l xs code) (firstLs l xs code) rfl rfl hys (by omega) _ (Sl.of_owns PG10.out (intS.len _) (by decide)) (Sl.of_owns PW10.out (intS.len _) (by decide)) true (by simp)).mono ?_
  rintro o u ⟨rfl, hb⟩
  have S11 := Lib.hid (S10.out.next hb)
  have PW11 := Lib.hid (owns_next PW10.out hb)
  have PG11 := Lib.hid (owns_next PG10.out hb)
  clear hb S10 PW10 PG10
  go_wp2_with fail
  refine (intS.markS_any _ _ _ 1 (by omega) hys _ _ PG11.out).mono ?_
  rintro o u ⟨rfl, P, g9, hg9, hgr, _⟩
  clear PG11
  have W9 : w.heap.size < g9 := by omega
  have S12 := Lib.hid (S11.out.mark hgr W9)
  have PW12 := Lib.hid (owns_other PW11.out hgr (fun k hk e => by have := LtW.out k hk; omega))
  clear hgr S11 PW11
  have PM := Lib.hid P
  clear P
  have k2 : decide ((1 : Int) + ((firstLs l xs code).length : Int) < 0) = false := by simp; omega
  go_wp2_with fail
  refine (intS.heldS_any Ag _ cg 1 (by omega) hys _ _ (Sl.of_owns PM.out (intS.len _) (by decide))).mono ?_
  rintro o u ⟨rfl, rfl⟩
  have c0 := S12.out.c0
  have c1 := S12.out.c1
  go_wp2_with fail
  refine (linS.to_any l _).mono ?_
  rintro o u ⟨rfl, hb⟩
  clear c0 c1
  have S13 := Lib.hid (S12.out.next hb)
  have PW13 := Lib.hid (owns_next PW12.out hb)
  have PM13 := Lib.hid (owns_next PM.out hb)
  clear hb S12 PW12 PM
  go_wp2_with fail
  refine (cloS.toS_any A c xs hn _ ((hg.below S13.out.b).more S13.out.b.size)).mono ?_
  rintro o u ⟨g11, rfl, P, hb⟩
  have S14 := Lib.hid (S13.out.next hb)
  have PW14 := Lib.hid (owns_next PW13.out hb)
  have PM14 := Lib.hid (owns_next PM13.out hb)
  clear hb S13 PW13 PM13
  have Xg11 := Lib.hid P
  clear P
  go_wp2_with fail
  refine (FirstLines_any l hl (some ⟨g11, 0, none⟩) xs.length xs.length xs rfl hn hf (hE.below S14.out.b) S14.out.b.size (Sl.of_owns Xg11.out (Clo.len xs) (by decide)) code num HC.out HN.out).mono ?_
  rintro o u ⟨v, rfl, P, hb⟩
  obtain ⟨Ah, ch, rfl, _⟩ := owns_slice P
  clear Xg11
  have S15 := Lib.hid (S14.out.next hb)
  have PW15 := Lib.hid (owns_next PW14.out hb)
  have PM15 := Lib.hid (owns_next PM14.out hb)
  clear hb S14 PW14 PM14
  have PH := Lib.hid P
  clear P
  go_wp2_with fail
  refine (intS.eqS_any Ah Aw _ _ ch cw (firstLs l xs code) (firstLs l xs code) rfl rfl hys (by omega) _ (Sl.of_owns PH.out (intS.len _) (by decide)) (Sl.of_owns PW15.out (intS.len _) (by decide)) true (by simp)).mono ?_
  rintro o u ⟨rfl, hb⟩
  have S16 := Lib.hid (S15.out.next hb)
  have PW16 := Lib.hid (owns_next PW15.out hb)
  have PM16 := Lib.hid (owns_next PM15.out hb)
  have PH16 := Lib.hid (owns_next PH.out hb)
  clear hb S15 PW15 PM15 PH
  go_wp2_with fail
  refine (intS.heldS_any Ag _ cg 1 (by omega) hys _ _ (Sl.of_owns PM16.out (intS.len _) (by decide))).mono ?_
  rintro o u ⟨rfl, rfl⟩
  go_wp2_with fail
  go_ret
  exact ⟨rfl, S16.out.b⟩

set_option maxHeartbeats 1000000 in
theorem walk_long (l : Lin) (A : Option Addr) (n c : Nat) (hm : n ≤ 9223372036854775807) (hn : 1048576 < n) (w : World) :
    Calls Tryd.prog 10 #[l.v, .slice A n c] w fun e w' => e = .returned (.bool true) ∧ Below w.heap.size w w' := by
  have S0 := Lib.hid (FitS.new l w 45)
  go_enter Tryd.func10, Tryd.ntmps10
  go_wp2_with fail
  refine (cloS.szS_any A n c 1048576 hm (by omega) _).mono ?_
  rintro o w1 ⟨rfl, rfl⟩
  rw [if_pos (by omega)]
  go_wp2_with fail
  go_ret
  exact ⟨rfl, S0.out.b⟩

theorem readables : ∀ t ∈ Tryd.f10.params.toList, Tryd.prog.readableRec t = true ∧ t < Tryd.prog.types.size := by
  rw [Tryd.params10]
  intro t ht
  simp only [List.mem_cons, List.not_mem_nil, or_false] at ht
  rcases ht with rfl | rfl <;> exact ⟨by kernel_rfl, of_decide_eq_true (by kernel_rfl)⟩

set_option maxRecDepth 100000 in
/-- what the row's list gives -/
theorem errsLaid {W : World} (h : laidMetH Tryd.prog Rows.fnExactFirstLinesRow.laid W) : ∃ e, Errs W W.heap.size e := by
  rw [MakeChecks.laidMetH_plain _ _ _ (by kernel_rfl)] at h
  refine errs_of Rows.fnExactFirstLinesRow.laid (fun i => i) h (by kernel_rfl) ?_ ?_ (fun i j _ _ h => h)
  · have hall : ((listOf Rows.fnExactFirstLinesRow.laid).all fun x => match Tryd.prog.globalNamed x.1 with | some g => decide ((Tryd.prog.globals[g]?).map (·.type) = some 69) | none => false) = true := by kernel_rfl
    intro x hx
    have h1 := List.all_eq_true.1 hall x hx
    split at h1
    · rename_i g hg
      exact ⟨g, hg, of_decide_eq_true h1⟩
    · cases h1
  · have b0 : ((listOf Rows.fnExactFirstLinesRow.laid)[0]?).bind (fun x => Tryd.prog.globalNamed x.1) = some (gvar 0) := by kernel_rfl
    have b1 : ((listOf Rows.fnExactFirstLinesRow.laid)[1]?).bind (fun x => Tryd.prog.globalNamed x.1) = some (gvar 1) := by kernel_rfl
    have b2 : ((listOf Rows.fnExactFirstLinesRow.laid)[2]?).bind (fun x => Tryd.prog.globalNamed x.1) = some (gvar 2) := by kernel_rfl
    have b3 : ((listOf Rows.fnExactFirstLinesRow.laid)[3]?).bind (fun x => Tryd.prog.globalNamed x.1) = some (gvar 3) := by kernel_rfl
    have b4 : ((listOf Rows.fnExactFirstLinesRow.laid)[4]?).bind (fun x => Tryd.prog.globalNamed x.1) = some (gvar 4) := by kernel_rfl
    have b5 : ((listOf Rows.fnExactFirstLinesRow.laid)[5]?).bind (fun x => Tryd.prog.globalNamed x.1) = some (gvar 5) := by kernel_rfl
    have b6 : ((listOf Rows.fnExactFirstLinesRow.laid)[6]?).bind (fun x => Tryd.prog.globalNamed x.1) = some (gvar 6) := by kernel_rfl
    intro i hi
    match i, hi with
    | 0, _ => exact b0
    | 1, _ => exact b1
    | 2, _ => exact b2
    | 3, _ => exact b3
    | 4, _ => exact b4
    | 5, _ => exact b5
    | 6, _ => exact b6

set_option maxRecDepth 100000 in
theorem contract (H : Type) (enc : TypeId × Value → H) (W : World) (base : Nat) (args : Array Value) (ds gs : List (DataW H)) (before : List MemPlace)
    (hval : ∀ (j : Nat) t v, Tryd.f10.params[j]? = some t → args[j]? = some v → Value.okWide Tryd.prog W .any base t v)
    (hW : DataW.Whole enc Tryd.prog Tryd.f10.params.toList Rows.fnExactFirstLinesSpec.vars false W args.toList ds gs before) (hL : laidMetH Tryd.prog Rows.fnExactFirstLinesRow.laid W) :
    Calls Tryd.prog 10 args W fun e W' => ∃ v, e = .returned v ∧ Rows.fnExactFirstLinesSpec.post enc Tryd.prog Tryd.f10 false true false false W args v W' := by
  obtain ⟨ee, hE⟩ := errsLaid hL
  have hW' := hW
  obtain ⟨p, q, hA0, hV, rfl, hfz, hnd⟩ := hW
  have hA : DataW.TrodAll enc Tryd.prog W 0 (fun _ => true) true Tryd.f10.params.toList args.toList ds p := hA0
  rw [Tryd.params10] at hA hval
  clear hA0
  obtain ⟨v0, vs0, d0, ds0, p0, q0, hargs, rfl, rfl, h0, r0⟩ := trodAll_cons hA
  obtain ⟨v1, vs1, d1, ds1, p1, q1, rfl, rfl, rfl, h1, r1⟩ := trodAll_cons r0
  obtain ⟨rfl, rfl, rfl⟩ := trodAll_nil r1
  obtain rfl : args = #[v0, v1] := by cases args; simp_all
  obtain ⟨z0, z1, z2, z3, z4, z5, z6, rfl⟩ := vars_of hV
  obtain ⟨l, hl0, rfl⟩ := linS.open_one (hval 0 45 v0 rfl rfl) h0
  obtain ⟨A, c, xs, rfl, hl, hg, hf⟩ := cloS.open_many (hval 1 30 v1 rfl rfl) h1
  have walk : Calls Tryd.prog 10 #[l.v, .slice A xs.length c] W fun e W' => e = .returned (.bool true) ∧ Below W.heap.size W W' := by
    unfold maxLen at hl
    rcases Nat.lt_or_ge 1048576 xs.length with h | h
    · exact walk_long l A _ c hl h W
    · exact walk_fits l hl0 A _ c xs rfl h hf W ee hE hg
  refine walk.mono fun e W' ⟨he, hb⟩ => ?_
  subst he
  exact ⟨_, rfl, close_vars laidOut readables (by kernel_rfl) Tryd.underlying4 rfl rfl hW' hb⟩

end Go.Proofs.YtbpipcfijbgnhaaDoor.lawFirstLines
