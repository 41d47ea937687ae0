/-
  THE LAW FnExactUseKind: for every stock and every need the law returns true: the program answers as the model does. No condition but that the package's errors are what the program's text lays.
-/
import Derived.Test.YtfnlgpnocodonaaDoorJoin20
import Derived.Test.YtfnlgpnocodonaaDoorJoin9
import Derived.Test.YtfnlgpnocodonaaDoorStkOpen
import Derived.Test.YtfnlgpnocodonaaDoorClose
import Derived.Test.YtfnlgpnocodonaaDoorLaid
import Derived.Test.YtfnlgpnocodonaaDoorCards
import Derived.Test.YtfnlgpnocodonaaDoorTie
namespace Go.Proofs.YtfnlgpnocodonaaDoor.lawUseKind
open Go.ChangeShapes Go.WideShapes Go.ChangeAt Go.RowKit Go.Joins sl errs stk row

set_option maxRecDepth 100000 in
set_option maxHeartbeats 4000000 in
theorem walk (f : Stk) (hf : Fits f) (need : Int) (w : World) (e : Nat → Addr) (hE : Errs w w.heap.size e) :
    Calls Tryd.prog 6 #[stkV f, .int .i64 need] w fun o w' => o = .returned (.bool true) ∧ Below w.heap.size w w' := by
  have hzz : ∀ u : World, (zeroValue 40).run Tryd.prog u = .ok (.agg (stkCs zeroS)) u := (zero_of_info zeroSi).1
  have A0 := Lib.hid (StkOwn.new w f 37).toRowAt
  have B0 : Hid (Below w.heap.size w (w.alloc (.cells (stkCs f) 37))) := Lib.hid ((Below.refl _ _).alloc (Nat.le_refl _) _)
  have HE := Lib.hid hE
  clear hE
  obtain ⟨z, hz⟩ : ∃ z, useR f need = z := ⟨_, rfl⟩
  obtain ⟨c, hc⟩ : ∃ c, codeU f need = c := ⟨_, rfl⟩
  have HZ := Lib.hid hz
  have HC := Lib.hid hc
  obtain ⟨g, r⟩ := z
  have HQ : Hid (true = eqS g g) := Lib.hid (eqS_iff.2 fun _ _ => rfl).symm
  clear hz hc
  go_enter Tryd.func6, Tryd.ntmps6
  go_wp2_with (refine wpl_load_law rfl (.tmp 2) rfl w.heap.size 0 rfl A0.out ?_)
  refine (toStock_any f _).mono ?_
  rintro e w1 ⟨rfl, hb1⟩
  have A1 := Lib.hid (A0.out.next hb1)
  have B1 := Lib.hid (below_next B0.out hb1 (by simp))
  clear hb1 A0 B0
  go_wp2_with fail
  refine (UseKind_spec f hf need _).mono ?_
  rintro e w2 ⟨rfl, hb2⟩
  rw [HZ.out, HC.out]
  have A2 := Lib.hid (A1.out.next hb2)
  have B2 := Lib.hid (below_next B1.out hb2 (Nat.le_refl _))
  clear hb2 A1 B1
  obtain ⟨w3, hw3⟩ : ∃ w3, w3 = w2.alloc (.cells (stkCs zeroS) 40) := ⟨_, rfl⟩
  have T3 : Hid (StkOwn w3 w2.heap.size 0 zeroS) := Lib.hid (by rw [hw3]; exact StkOwn.new w2 zeroS _)
  obtain ⟨w4, hw4⟩ : ∃ w4, w4 = w3.setCells w2.heap.size 0 (lst 25 (cellS g)) := ⟨_, rfl⟩
  have T4 : Hid (StkOwn w4 w2.heap.size 0 g) := Lib.hid (by rw [hw4]; exact StkOwn.stored T3.out g)
  have hb4 : Below w2.heap.size w2 w4 := by
    rw [hw4, hw3]
    exact below_cells ((Below.refl _ _).alloc (Nat.le_refl _) _) (Nat.le_refl _) _ _
  have A4 := Lib.hid (A2.out.next hb4)
  have B4 := Lib.hid (below_next B2.out hb4 (Nat.le_refl _))
  have HW3 := Lib.hid hw3
  have HW4 := Lib.hid hw4
  clear hw3 hw4 hb4 A2
  go_wp2_with (first
    | (rw [← HW3.out]; refine wpl_store_stk rfl (.tmp 5) (.tmp 16) rfl w2.heap.size 0 rfl (f := g) rfl T3.out ?_; rw [← HW4.out])
    | (refine wpl_load_law rfl (.tmp 2) rfl w.heap.size 0 rfl A4.out ?_)
    | fail)
  refine (toStock_any f _).mono ?_
  rintro e w5 ⟨rfl, hb⟩
  have T5 := Lib.hid (T4.out.next hb)
  have B5 := Lib.hid (below_next B4.out hb (Nat.le_refl _))
  clear hb A4 B4 T4 T3 HW3 HW4
  go_wp2_with fail
  refine (UseKind_any f hf need (HE.out.below B5.out) B5.out.size).mono ?_
  rintro e w6 ⟨rfl, hb⟩
  rw [HZ.out, HC.out]
  have T6 := Lib.hid (T5.out.next hb)
  have B6 := Lib.hid (below_next B5.out hb (Nat.le_refl _))
  clear hb T5 B5
  obtain ⟨w7, hw7⟩ : ∃ w7, w7 = w6.alloc (.cells (stkCs zeroS) 40) := ⟨_, rfl⟩
  have T7 : Hid (StkOwn w7 w6.heap.size 0 zeroS) := Lib.hid (by rw [hw7]; exact StkOwn.new w6 zeroS _)
  obtain ⟨w8, hw8⟩ : ∃ w8, w8 = w7.setCells w6.heap.size 0 (lst 25 (cellS g)) := ⟨_, rfl⟩
  have T8 : Hid (StkOwn w8 w6.heap.size 0 g) := Lib.hid (by rw [hw8]; exact StkOwn.stored T7.out g)
  have hb8 : Below w6.heap.size w6 w8 := by
    rw [hw8, hw7]
    exact below_cells ((Below.refl _ _).alloc (Nat.le_refl _) _) (Nat.le_refl _) _ _
  have S8 := Lib.hid (T6.out.next hb8)
  have B8 := Lib.hid (below_next B6.out hb8 (Nat.le_refl _))
  have HW7 := Lib.hid hw7
  have HW8 := Lib.hid hw8
  clear hw7 hw8 hb8 T6
  go_wp2_with (first
    | (rw [← HW7.out]; refine wpl_store_stk rfl (.tmp 8) (.tmp 24) rfl w6.heap.size 0 rfl (f := g) rfl T7.out ?_; rw [← HW8.out])
    | (refine wpl_load_stk rfl (.tmp 8) rfl w6.heap.size 0 rfl T8.out.toRowAt ?_)
    | (refine wpl_load_stk rfl (.tmp 5) rfl w2.heap.size 0 rfl S8.out.toRowAt ?_)
    | fail)
  refine (eqStock_any g g true HQ.out _).mono ?_
  rintro e w9 ⟨rfl, hb⟩
  have B9 := Lib.hid (below_next B8.out hb (Nat.le_refl _))
  clear hb
  go_wp2_with fail
  go_ret
  exact ⟨rfl, B9.out⟩

theorem readables : ∀ t ∈ Tryd.f6.params.toList, Tryd.prog.readableRec t = true ∧ t < Tryd.prog.types.size := by
  rw [Tryd.params6]
  intro t ht
  simp only [List.mem_cons, List.not_mem_nil, or_false] at ht
  rcases ht with rfl | rfl
  · exact ⟨by kernel_rfl, of_decide_eq_true (by kernel_rfl)⟩
  · exact ⟨by kernel_rfl, of_decide_eq_true (by kernel_rfl)⟩

set_option maxRecDepth 100000 in
/-- what the row's list gives -/
theorem errsLaid {W : World} (h : laidMetH Tryd.prog Rows.fnExactUseKindRow.laid W) : ∃ e, Errs W W.heap.size e := by
  rw [MakeChecks.laidMetH_plain _ _ _ (by kernel_rfl)] at h
  refine errs_of Rows.fnExactUseKindRow.laid (fun i => i) h (by kernel_rfl) ?_ ?_ (fun i j _ _ h => h)
  · have hall : ((listOf Rows.fnExactUseKindRow.laid).all fun x => match Tryd.prog.globalNamed x.1 with | some g => decide ((Tryd.prog.globals[g]?).map (·.type) = some 77) | none => false) = true := by kernel_rfl
    intro x hx
    have h1 := List.all_eq_true.1 hall x hx
    split at h1
    · rename_i g hg
      exact ⟨g, hg, of_decide_eq_true h1⟩
    · cases h1
  · have b0 : ((listOf Rows.fnExactUseKindRow.laid)[0]?).bind (fun x => Tryd.prog.globalNamed x.1) = some (gvar 0) := by kernel_rfl
    have b1 : ((listOf Rows.fnExactUseKindRow.laid)[1]?).bind (fun x => Tryd.prog.globalNamed x.1) = some (gvar 1) := by kernel_rfl
    have b2 : ((listOf Rows.fnExactUseKindRow.laid)[2]?).bind (fun x => Tryd.prog.globalNamed x.1) = some (gvar 2) := by kernel_rfl
    have b3 : ((listOf Rows.fnExactUseKindRow.laid)[3]?).bind (fun x => Tryd.prog.globalNamed x.1) = some (gvar 3) := by kernel_rfl
    have b4 : ((listOf Rows.fnExactUseKindRow.laid)[4]?).bind (fun x => Tryd.prog.globalNamed x.1) = some (gvar 4) := by kernel_rfl
    have b5 : ((listOf Rows.fnExactUseKindRow.laid)[5]?).bind (fun x => Tryd.prog.globalNamed x.1) = some (gvar 5) := by kernel_rfl
    have b6 : ((listOf Rows.fnExactUseKindRow.laid)[6]?).bind (fun x => Tryd.prog.globalNamed x.1) = some (gvar 6) := by kernel_rfl
    intro i hi
    match i, hi with
    | 0, _ => exact b0
    | 1, _ => exact b1
    | 2, _ => exact b2
    | 3, _ => exact b3
    | 4, _ => exact b4
    | 5, _ => exact b5
    | 6, _ => exact b6

set_option maxRecDepth 100000 in
theorem contract (H : Type) (enc : TypeId × Value → H) (W : World) (base : Nat) (args : Array Value) (ds gs : List (DataW H)) (before : List MemPlace)
    (hval : ∀ (j : Nat) t v, Tryd.f6.params[j]? = some t → args[j]? = some v → Value.okWide Tryd.prog W .any base t v)
    (hW : DataW.Whole enc Tryd.prog Tryd.f6.params.toList Rows.fnExactUseKindSpec.vars false W args.toList ds gs before) (hL : laidMetH Tryd.prog Rows.fnExactUseKindRow.laid W) :
    Calls Tryd.prog 6 args W fun e W' => ∃ v, e = .returned v ∧ Rows.fnExactUseKindSpec.post enc Tryd.prog Tryd.f6 false true false false W args v W' := by
  obtain ⟨ee, hE⟩ := errsLaid hL
  have hW' := hW
  obtain ⟨p, q, hA0, hV, rfl, hfz, hnd⟩ := hW
  have hA : DataW.TrodAll enc Tryd.prog W 0 (fun _ => true) true Tryd.f6.params.toList args.toList ds p := hA0
  rw [Tryd.params6] at hA hval
  clear hA0
  obtain ⟨v0, vs0, d0, ds0, p0, q0, hargs, rfl, rfl, h0, r0⟩ := trodAll_cons hA
  obtain ⟨v1, vs1, d1, ds1, p1, q1, rfl, rfl, rfl, h1, r1⟩ := trodAll_cons r0
  obtain ⟨rfl, rfl, rfl⟩ := trodAll_nil r1
  obtain rfl : args = #[v0, v1] := by cases args; simp_all
  obtain ⟨z0, z1, z2, z3, z4, z5, z6, rfl⟩ := vars_of hV
  obtain ⟨x, hx, rfl⟩ := open_one (hval 0 37 v0 rfl rfl) h0
  obtain ⟨k, rfl, rfl, rfl, _⟩ := open_int Tryd.underlying2 (hval 1 2 v1 rfl rfl) h1
  refine (walk x hx k W ee hE).mono fun e W' ⟨he, hb⟩ => ?_
  subst he
  exact ⟨_, rfl, close_vars laidOut readables (by kernel_rfl) Tryd.underlying4 rfl rfl hW' hb⟩

end Go.Proofs.YtfnlgpnocodonaaDoor.lawUseKind
