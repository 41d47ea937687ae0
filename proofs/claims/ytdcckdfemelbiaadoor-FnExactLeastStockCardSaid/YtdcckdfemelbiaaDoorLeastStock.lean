/-
  THE LAW FnExactLeastStock: for every three numbers and all days the law returns true: the program answers as the model does, and does not change the days that it was given. No condition but that the package's errors are what the program's text lays.
-/
import Derived.Test.YtdcckdfemelbiaaDoorJoin29
import Derived.Test.YtdcckdfemelbiaaDoorRowsOpen
import Derived.Test.YtdcckdfemelbiaaDoorJoin16
import Derived.Test.YtdcckdfemelbiaaDoorClose
import Derived.Test.YtdcckdfemelbiaaDoorLaid
import Derived.Test.YtdcckdfemelbiaaDoorCards
import Derived.Test.YtdcckdfemelbiaaDoorTie
namespace Go.Proofs.YtdcckdfemelbiaaDoor.lawLeastStock
open Go.ChangeShapes Go.WideShapes Go.ChangeAt Go.RowKit Go.Joins sl errs stk row hou rows

theorem os_caps {w : World} {base c : Nat} {A : Option Addr} {rs : List Rw} (h : OS w base A c rs) : ∀ r ∈ rs, r.xs.length ≤ r.c ∧ r.c ≤ maxLen := fun r hr => by
  rcases (h.each r hr).2 with ⟨e, _⟩ | ⟨g, cap, cur, e, _, _, hle, hmax, _⟩
  · rw [Rw.v] at e
    injection e with _ e2 e3
    rw [e2, e3]
    exact ⟨Nat.le_refl _, Nat.zero_le _⟩
  · rw [Rw.v] at e
    injection e with _ _ e3
    rw [e3]
    exact ⟨hle, hmax⟩
set_option maxRecDepth 100000 in
set_option maxHeartbeats 8000000 in
theorem walk (k t x : Int) (A : Option Addr) (n c : Nat) (rs : List Rw) (en : n = rs.length) (hm : n ≤ 9223372036854775807) (w : World) (e : Nat → Addr) (hE : Errs w w.heap.size e) (hg : SS w w.heap.size A rs) :
    Calls Tryd.prog 14 #[.int .i64 k, .int .i64 t, .int .i64 x, .slice A n c] w fun o w' => o = .returned (.bool true) ∧ Below w.heap.size w w' := by
  have En := Lib.hid en
  have HE := Lib.hid hE
  have HG := Lib.hid hg
  obtain ⟨y0, hr0⟩ : ∃ q, numL (resL k t x (nums rs)) = q := ⟨_, rfl⟩
  have HR0 := Lib.hid hr0
  obtain ⟨y1, hr1⟩ : ∃ q, codeL k t x (nums rs) = q := ⟨_, rfl⟩
  have HR1 := Lib.hid hr1
  clear en hE hg hr0 hr1
  go_enter Tryd.func14, Tryd.ntmps14
  go_wp2_with fail
  refine (szSS_tot A n c rs En.out hm 1048576 (by omega) _ HG.out).mono ?_
  rintro o u ⟨z, rfl, hw, _, _, hz⟩
  obtain rfl := hw.symm
  clear hw
  by_cases hz2 : z < 0
  · clear hz
    go_wp2_with fail
    go_ret
    exact ⟨rfl, Below.refl _ _⟩
  · have htot := hz (by omega)
    have HS := Lib.hid (tot_leH htot)
    have hm1 : n ≤ 1048576 := by omega
    clear hz htot
    go_wp2_with fail
    refine (toSS_any A n c rs En.out hm1 HS.out _ HG.out).mono ?_
    rintro o w1 ⟨g1, rs1, rfl, l1, n1, O, hb⟩
    have hcall := LeastStock_spec k t x (some ⟨g1, 0, none⟩) n n rs1 l1.symm hm1 (nums_short n1 HS.out) w1 O.ss
    rw [n1, HR0.out, HR1.out] at hcall
    have HB1 := Lib.hid hb
    clear O l1 n1 hb
    go_wp2_with fail
    refine hcall.mono ?_
    clear hcall
    rintro o w2 ⟨rfl, hb⟩
    have HB2 := Lib.hid (below_next HB1.out hb (Nat.le_refl _))
    clear hb
    go_wp2_with fail
    refine (toSS_any A n c rs En.out hm1 HS.out _ ((HG.out.below HB2.out).more HB2.out.size)).mono ?_
    rintro o w3 ⟨g3, rs3, rfl, l3, n3, O, hb⟩
    have HB3 := Lib.hid (below_next HB2.out hb (Nat.le_refl _))
    have hcall := LeastStock_any k t x (some ⟨g3, 0, none⟩) n n rs3 l3.symm hm1 (nums_short n3 HS.out) (os_caps O) (HE.out.below HB3.out) HB3.out.size O.ss
    rw [n3, HR0.out, HR1.out] at hcall
    have L3 := Lib.hid l3
    have N3 := Lib.hid n3
    have Y3 := Lib.hid O.ss
    clear O l3 n3 hb
    go_wp2_with fail
    refine hcall.mono ?_
    clear hcall
    rintro o w4 ⟨rfl, hb⟩
    have Y4 := Lib.hid (Y3.out.next hb)
    have HB4 := Lib.hid (below_next HB3.out hb (Nat.le_refl _))
    clear hb
    go_wp2_with fail
    refine (toSS_any A n c rs En.out hm1 HS.out _ ((HG.out.below HB4.out).more HB4.out.size)).mono ?_
    rintro o w5 ⟨g5, rs5, rfl, l5, n5, O, hb⟩
    have Y5 := Lib.hid (Y4.out.next hb)
    have HB5 := Lib.hid (below_next HB4.out hb (Nat.le_refl _))
    have L5 := Lib.hid l5
    have N5 := Lib.hid n5
    have YY := Lib.hid O.ss
    clear O l5 n5 hb
    go_wp2_with fail
    refine (eqSS_any (some ⟨g3, 0, none⟩) (some ⟨g5, 0, none⟩) n n n n rs3 rs5 L3.out.symm L5.out.symm hm1 (by omega) (nums_short N3.out HS.out) _ Y5.out YY.out true (by rw [N3.out, N5.out]; simp)).mono ?_
    rintro o w6 ⟨rfl, hb⟩
    have HB6 := Lib.hid (below_next HB5.out hb (Nat.le_refl _))
    clear hb
    go_wp2_with fail
    go_ret
    exact ⟨rfl, HB6.out⟩

theorem readables : ∀ t ∈ Tryd.f14.params.toList, Tryd.prog.readableRec t = true ∧ t < Tryd.prog.types.size := by
  rw [Tryd.params14]
  intro t ht
  simp only [List.mem_cons, List.not_mem_nil, or_false] at ht
  rcases ht with rfl | rfl | rfl | rfl <;> exact ⟨by kernel_rfl, of_decide_eq_true (by kernel_rfl)⟩

set_option maxRecDepth 100000 in
/-- what the row's list gives -/
theorem errsLaid {W : World} (h : laidMetH Tryd.prog Rows.fnExactLeastStockRow.laid W) : ∃ e, Errs W W.heap.size e := by
  rw [MakeChecks.laidMetH_plain _ _ _ (by kernel_rfl)] at h
  refine errs_of Rows.fnExactLeastStockRow.laid (fun i => i) h (by kernel_rfl) ?_ ?_ (fun i j _ _ h => h)
  · have hall : ((listOf Rows.fnExactLeastStockRow.laid).all fun x => match Tryd.prog.globalNamed x.1 with | some g => decide ((Tryd.prog.globals[g]?).map (·.type) = some 80) | none => false) = true := by kernel_rfl
    intro x hx
    have h1 := List.all_eq_true.1 hall x hx
    split at h1
    · rename_i g hg
      exact ⟨g, hg, of_decide_eq_true h1⟩
    · cases h1
  · have b0 : ((listOf Rows.fnExactLeastStockRow.laid)[0]?).bind (fun x => Tryd.prog.globalNamed x.1) = some (gvar 0) := by kernel_rfl
    have b1 : ((listOf Rows.fnExactLeastStockRow.laid)[1]?).bind (fun x => Tryd.prog.globalNamed x.1) = some (gvar 1) := by kernel_rfl
    have b2 : ((listOf Rows.fnExactLeastStockRow.laid)[2]?).bind (fun x => Tryd.prog.globalNamed x.1) = some (gvar 2) := by kernel_rfl
    have b3 : ((listOf Rows.fnExactLeastStockRow.laid)[3]?).bind (fun x => Tryd.prog.globalNamed x.1) = some (gvar 3) := by kernel_rfl
    have b4 : ((listOf Rows.fnExactLeastStockRow.laid)[4]?).bind (fun x => Tryd.prog.globalNamed x.1) = some (gvar 4) := by kernel_rfl
    have b5 : ((listOf Rows.fnExactLeastStockRow.laid)[5]?).bind (fun x => Tryd.prog.globalNamed x.1) = some (gvar 5) := by kernel_rfl
    have b6 : ((listOf Rows.fnExactLeastStockRow.laid)[6]?).bind (fun x => Tryd.prog.globalNamed x.1) = some (gvar 6) := by kernel_rfl
    intro i hi
    match i, hi with
    | 0, _ => exact b0
    | 1, _ => exact b1
    | 2, _ => exact b2
    | 3, _ => exact b3
    | 4, _ => exact b4
    | 5, _ => exact b5
    | 6, _ => exact b6

set_option maxRecDepth 100000 in
theorem contract (H : Type) (enc : TypeId × Value → H) (W : World) (base : Nat) (args : Array Value) (ds gs : List (DataW H)) (before : List MemPlace)
    (hval : ∀ (j : Nat) t v, Tryd.f14.params[j]? = some t → args[j]? = some v → Value.okWide Tryd.prog W .any base t v)
    (hW : DataW.Whole enc Tryd.prog Tryd.f14.params.toList Rows.fnExactLeastStockSpec.vars false W args.toList ds gs before) (hL : laidMetH Tryd.prog Rows.fnExactLeastStockRow.laid W) :
    Calls Tryd.prog 14 args W fun e W' => ∃ v, e = .returned v ∧ Rows.fnExactLeastStockSpec.post enc Tryd.prog Tryd.f14 false true false false W args v W' := by
  obtain ⟨ee, hE⟩ := errsLaid hL
  have hW' := hW
  obtain ⟨p, q, hA0, hV, rfl, hfz, hnd⟩ := hW
  have hA : DataW.TrodAll enc Tryd.prog W 0 (fun _ => true) true Tryd.f14.params.toList args.toList ds p := hA0
  rw [Tryd.params14] at hA hval
  clear hA0
  obtain ⟨v0, vs0, d0, ds0, p0, q0, hargs, rfl, rfl, h0, r0⟩ := trodAll_cons hA
  obtain ⟨v1, vs1, d1, ds1, p1, q1, rfl, rfl, rfl, h1, r1⟩ := trodAll_cons r0
  obtain ⟨v2, vs2, d2, ds2, p2, q2, rfl, rfl, rfl, h2, r2⟩ := trodAll_cons r1
  obtain ⟨v3, vs3, d3, ds3, p3, q3, rfl, rfl, rfl, h3, r3⟩ := trodAll_cons r2
  obtain ⟨rfl, rfl, rfl⟩ := trodAll_nil r3
  obtain rfl : args = #[v0, v1, v2, v3] := by cases args; simp_all
  obtain ⟨z0, z1, z2, z3, z4, z5, z6, rfl⟩ := vars_of hV
  obtain ⟨k, rfl, rfl, rfl, _⟩ := open_int Tryd.underlying2 (hval 0 2 v0 rfl rfl) h0
  obtain ⟨t, rfl, rfl, rfl, _⟩ := open_int Tryd.underlying2 (hval 1 2 v1 rfl rfl) h1
  obtain ⟨x, rfl, rfl, rfl, _⟩ := open_int Tryd.underlying2 (hval 2 2 v2 rfl rfl) h2
  obtain ⟨A, c, rs, rfl, hl, hg⟩ := open_rows (hval 3 27 v3 rfl rfl) h3
  unfold maxLen at hl
  refine (walk k t x A rs.length c rs rfl hl W ee hE hg).mono fun e W' ⟨he, hb⟩ => ?_
  subst he
  exact ⟨_, rfl, close_vars laidOut readables (by kernel_rfl) Tryd.underlying4 rfl rfl hW' hb⟩

end Go.Proofs.YtdcckdfemelbiaaDoor.lawLeastStock
