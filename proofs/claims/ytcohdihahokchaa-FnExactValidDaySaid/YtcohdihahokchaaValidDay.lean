/-
  THE LAW FnExactValidDay: for every day (72 numbers of a byte) the law returns true: the program says that it is valid just where the model does. No condition.
-/
import Derived.Test.YtcohdihahokchaaDayTamed
import Derived.Test.YtcohdihahokchaaDayOpen
import Derived.Test.YtcohdihahokchaaClose
namespace Go.Proofs.Ytcohdihahokchaa.validDay
open Go.ChangeShapes Go.WideShapes Go.ChangeAt Go.RowKit Go.Joins sl day

theorem infoA : (Try.prog.info? 25).map (·.size) = some 72 := by kernel_rfl
theorem wpl_load_arg {ops : Array Oper} {rest : List Oper} {op : Oper} {a : Act} {u : World} {Q : Exit → Act → World → Prop} (hgd : op.guard = none) (x : Operand) (ho : op.op = .load 25 x) (b : Nat) (hx : a.eval x = .pointer (some ⟨b, 0, none⟩))
    {d : List Wea} (hd : d.length = 24) (h : DayAt u b d) (hK : wpList Try.prog ops Q rest (a.put op.dst (dayV d)) u) : wpList Try.prog ops Q (op :: rest) a u :=
  wpList_load_mid hgd 25 x ho b 0 hx (d.flatMap Wea.cells) _ h.row Try.underlying25 rfl (by rw [infoA, flat_len (Wea.len d), hd]) hK

set_option maxHeartbeats 1000000 in
theorem walk (d : List Wea) (hd : d.length = 24) (hf : ∀ x ∈ d, x.Fits) (w : World) :
    Calls Try.prog 3 #[dayV d] w fun e w' => e = .returned (.bool true) ∧ Below w.heap.size w w' := by
  have HD := Lib.hid hd
  clear hd
  have A0 := Lib.hid (DayAt.new d 25 w)
  have B0 : Hid (Below w.heap.size w (w.alloc (.cells (dayCs d) 25))) := Lib.hid (by repeat (first | exact Below.refl _ _ | assumption | apply Below.drew | (refine Below.alloc ?_ (by first | (simp; done) | (simp; omega) | omega) _) | (refine Below.setCell ?_ (by first | (simp; done) | (simp; omega) | omega) _)))
  go_enter Try.func3, Try.ntmps3
  go_wp2_with (refine wpl_load_arg rfl (.tmp 1) rfl w.heap.size rfl HD.out A0.out ?_)
  refine (toDay_any d HD.out _).mono ?_
  rintro e w1 ⟨rfl, hb1⟩
  have A1 := Lib.hid (A0.out.next hb1)
  have B1 := Lib.hid (below_next B0.out hb1 (Nat.le_refl _))
  clear hb1 A0 B0
  go_wp2_with fail
  refine (ValidDay_spec d HD.out hf _).mono ?_
  rintro e w2 ⟨rfl, hb2⟩
  have A2 := Lib.hid (A1.out.next hb2)
  have B2 := Lib.hid (below_next B1.out hb2 (Nat.le_refl _))
  clear hb2 A1 B1
  go_wp2_with (refine wpl_load_arg rfl (.tmp 1) rfl w.heap.size rfl HD.out A2.out ?_)
  refine (toDay_any d HD.out _).mono ?_
  rintro e w3 ⟨rfl, hb3⟩
  have B3 := Lib.hid (below_next B2.out hb3 (Nat.le_refl _))
  clear hb3 A2 B2
  go_wp2_with fail
  refine (ValidDay_any d HD.out hf _).mono ?_
  rintro e w4 ⟨rfl, hb4⟩
  have B4 := Lib.hid (below_next B3.out hb4 (Nat.le_refl _))
  clear hb4 B3
  go_wp2_with fail
  go_ret
  exact ⟨rfl, B4.out⟩

theorem readables : ∀ t ∈ Try.f3.params.toList, Try.prog.readableRec t = true ∧ t < Try.prog.types.size := by
  rw [Try.params3]
  intro t ht
  simp only [List.mem_cons, List.not_mem_nil, or_false] at ht
  subst ht
  exact ⟨by kernel_rfl, of_decide_eq_true (by kernel_rfl)⟩

theorem contract (H : Type) (enc : TypeId × Value → H) (W : World) (base : Nat) (args : Array Value) (ds gs : List (DataW H)) (before : List MemPlace)
    (hval : ∀ (j : Nat) t v, Try.f3.params[j]? = some t → args[j]? = some v → Value.okWide Try.prog W .any base t v)
    (hW : DataW.Whole enc Try.prog Try.f3.params.toList Rows.fnExactValidDaySpec.vars false W args.toList ds gs before) :
    Calls Try.prog 3 args W fun e W' => ∃ v, e = .returned v ∧ Rows.fnExactValidDaySpec.post enc Try.prog Try.f3 false true false false W args v W' := by
  have hW' := hW
  obtain ⟨p, q, hA0, hV, rfl, hfz, hnd⟩ := hW
  have hA : DataW.TrodAll enc Try.prog W 0 (fun _ => true) true Try.f3.params.toList args.toList ds p := hA0
  rw [Try.params3] at hA hval
  clear hA0
  obtain ⟨v0, vs0, d0, ds0, p0, q0, hargs, rfl, rfl, h0, r0⟩ := trodAll_cons hA
  obtain ⟨rfl, rfl, rfl⟩ := trodAll_nil r0
  obtain rfl : args = #[v0] := by cases args; simp_all
  obtain ⟨rfl, rfl⟩ := trodVars_none hV
  obtain ⟨d, hd, hf, rfl⟩ := open_day (hval 0 25 v0 rfl rfl) h0
  refine (walk d hd hf W).mono fun e W' ⟨he, hb⟩ => ?_
  subst he
  exact ⟨_, rfl, close_law laidOut readables rfl Try.underlying4 rfl rfl hW' hb⟩

set_option maxRecDepth 100000 in
theorem lifted (os : Os) (started : os.Started) (H : Type) (enc : TypeId × Value → H) :
    ReturnsInHanded {} Try.checked os 3 .any (Rows.fnExactValidDaySpec.pre6 enc Try.prog Try.f3 Rows.fnExactValidDayRow.domain false) (Rows.fnExactValidDaySpec.post enc Try.prog Try.f3 false true false false) := by
  refine returnsInHanded_of_change (C := Try.checked) own started (by kernel_rfl) Try.func3
    (ChangeSpec.witness6 (enc := enc) (C := Try.checked) false ⟨#[], #[.agg #[.int .i8 0, .int .i8 0, .int .i8 0, .int .i8 0, .int .i8 0, .int .i8 0, .int .i8 0, .int .i8 0, .int .i8 0, .int .i8 0, .int .i8 0, .int .i8 0, .int .i8 0, .int .i8 0, .int .i8 0, .int .i8 0, .int .i8 0, .int .i8 0, .int .i8 0, .int .i8 0, .int .i8 0, .int .i8 0, .int .i8 0, .int .i8 0, .int .i8 0, .int .i8 0, .int .i8 0, .int .i8 0, .int .i8 0, .int .i8 0, .int .i8 0, .int .i8 0, .int .i8 0, .int .i8 0, .int .i8 0, .int .i8 0, .int .i8 0, .int .i8 0, .int .i8 0, .int .i8 0, .int .i8 0, .int .i8 0, .int .i8 0, .int .i8 0, .int .i8 0, .int .i8 0, .int .i8 0, .int .i8 0, .int .i8 0, .int .i8 0, .int .i8 0, .int .i8 0, .int .i8 0, .int .i8 0, .int .i8 0, .int .i8 0, .int .i8 0, .int .i8 0, .int .i8 0, .int .i8 0, .int .i8 0, .int .i8 0, .int .i8 0, .int .i8 0, .int .i8 0, .int .i8 0, .int .i8 0, .int .i8 0, .int .i8 0, .int .i8 0, .int .i8 0, .int .i8 0]], []⟩ 8 (by kernel_rfl) (by kernel_rfl) (by kernel_rfl) (by kernel_rfl)) ?_
  intro W base args ds gs before hval hW _ _
  exact contract H enc W base args ds gs before hval hW

theorem holds : Rows.FnExactValidDaySaid :=
  OpenClaim.holds_of_wide 3 Try.f3 rfl rfl rfl rfl rfl rfl rfl ⟨rfl, rfl, rfl, rfl, rfl⟩ rfl rfl rfl rfl rfl (by kernel_rfl) Try.func3 (by kernel_rfl)
    (of_decide_eq_true (by kernel_rfl)) (by unfold Func.isWrapper; first | (rw [if_pos (by decide +kernel)]; kernel_rfl) | (rw [if_neg (by decide +kernel)]; exact ⟨rfl, rfl⟩))
    (fun os started H enc _ => lifted os started H enc)
end Go.Proofs.Ytcohdihahokchaa.validDay
