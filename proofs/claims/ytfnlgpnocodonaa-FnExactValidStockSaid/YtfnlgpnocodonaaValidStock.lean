/-
  THE LAW FnExactValidStock: for every stock (24 numbers of 16 bits and one of 32) the law returns true: the program says that it is valid just where the model does. No condition.
-/
import Derived.Test.YtfnlgpnocodonaaJoin8
import Derived.Test.YtfnlgpnocodonaaJoin4
import Derived.Test.YtfnlgpnocodonaaStkOpen
import Derived.Test.YtfnlgpnocodonaaClose
namespace Go.Proofs.Ytfnlgpnocodonaa.validStock
open Go.ChangeShapes Go.WideShapes Go.ChangeAt Go.RowKit Go.Joins sl stk

theorem infoL : (Try.prog.info? 25).map (·.size) = some 25 := by kernel_rfl
theorem wpl_load_law {ops : Array Oper} {rest : List Oper} {op : Oper} {a : Act} {u : World} {Q : Exit → Act → World → Prop} (hgd : op.guard = none) (x : Operand) (ho : op.op = .load 25 x) (b p : Nat) (hx : a.eval x = .pointer (some ⟨b, p, none⟩))
    {f : Stk} (h : StkAt u b p f) (hK : wpList Try.prog ops Q rest (a.put op.dst (stkV f)) u) : wpList Try.prog ops Q (op :: rest) a u :=
  wpList_load_mid hgd 25 x ho b p hx (row.lst 25 (cellS f)) _ h.range Try.underlying25 rfl (by rw [infoL, row.lst_len]) hK

set_option maxRecDepth 100000 in
set_option maxHeartbeats 1000000 in
theorem walk (f : Stk) (hf : Fits f) (w : World) :
    Calls Try.prog 3 #[stkV f] w fun e w' => e = .returned (.bool true) ∧ Below w.heap.size w w' := by
  have A0 := Lib.hid (StkOwn.new w f 25).toRowAt
  have B0 : Hid (Below w.heap.size w (w.alloc (.cells (stkCs f) 25))) := Lib.hid ((Below.refl _ _).alloc (Nat.le_refl _) _)
  go_enter Try.func3, Try.ntmps3
  go_wp2_with (refine wpl_load_law rfl (.tmp 1) rfl w.heap.size 0 rfl A0.out ?_)
  refine (toStock_any f _).mono ?_
  rintro e w1 ⟨rfl, hb1⟩
  have A1 := Lib.hid (A0.out.next hb1)
  have B1 := Lib.hid (below_next B0.out hb1 (by simp))
  clear hb1 A0 B0
  go_wp2_with fail
  refine (ValidStock_spec f hf _).mono ?_
  rintro e w2 ⟨rfl, hb2⟩
  have A2 := Lib.hid (A1.out.next hb2)
  have B2 := Lib.hid (below_next B1.out hb2 (Nat.le_refl _))
  clear hb2 A1 B1
  go_wp2_with (refine wpl_load_law rfl (.tmp 1) rfl w.heap.size 0 rfl A2.out ?_)
  refine (toStock_any f _).mono ?_
  rintro e w3 ⟨rfl, hb3⟩
  have B3 := Lib.hid (below_next B2.out hb3 (Nat.le_refl _))
  clear hb3 A2 B2
  go_wp2_with fail
  refine (ValidStock_any f hf _).mono ?_
  rintro e w4 ⟨rfl, hb4⟩
  have B4 := Lib.hid (below_next B3.out hb4 (Nat.le_refl _))
  clear hb4 B3
  go_wp2_with fail
  go_ret
  exact ⟨rfl, B4.out⟩

theorem readables : ∀ t ∈ Try.f3.params.toList, Try.prog.readableRec t = true ∧ t < Try.prog.types.size := by
  rw [Try.params3]
  intro t ht
  simp only [List.mem_cons, List.not_mem_nil, or_false] at ht
  subst ht
  exact ⟨by kernel_rfl, of_decide_eq_true (by kernel_rfl)⟩

theorem contract (H : Type) (enc : TypeId × Value → H) (W : World) (base : Nat) (args : Array Value) (ds gs : List (DataW H)) (before : List MemPlace)
    (hval : ∀ (j : Nat) t v, Try.f3.params[j]? = some t → args[j]? = some v → Value.okWide Try.prog W .any base t v)
    (hW : DataW.Whole enc Try.prog Try.f3.params.toList Rows.fnExactValidStockSpec.vars false W args.toList ds gs before) :
    Calls Try.prog 3 args W fun e W' => ∃ v, e = .returned v ∧ Rows.fnExactValidStockSpec.post enc Try.prog Try.f3 false true false false W args v W' := by
  have hW' := hW
  obtain ⟨p, q, hA0, hV, rfl, hfz, hnd⟩ := hW
  have hA : DataW.TrodAll enc Try.prog W 0 (fun _ => true) true Try.f3.params.toList args.toList ds p := hA0
  rw [Try.params3] at hA hval
  clear hA0
  obtain ⟨v0, vs0, d0, ds0, p0, q0, hargs, rfl, rfl, h0, r0⟩ := trodAll_cons hA
  obtain ⟨rfl, rfl, rfl⟩ := trodAll_nil r0
  obtain rfl : args = #[v0] := by cases args; simp_all
  obtain ⟨rfl, rfl⟩ := trodVars_none hV
  obtain ⟨x, hx, rfl⟩ := open_one (hval 0 25 v0 rfl rfl) h0
  refine (walk x hx W).mono fun e W' ⟨he, hb⟩ => ?_
  subst he
  exact ⟨_, rfl, close_law laidOut readables rfl Try.underlying4 rfl rfl hW' hb⟩

set_option maxRecDepth 100000 in
theorem lifted (os : Os) (started : os.Started) (H : Type) (enc : TypeId × Value → H) :
    ReturnsInHanded {} Try.checked os 3 .any (Rows.fnExactValidStockSpec.pre6 enc Try.prog Try.f3 Rows.fnExactValidStockRow.domain false) (Rows.fnExactValidStockSpec.post enc Try.prog Try.f3 false true false false) := by
  refine returnsInHanded_of_change (C := Try.checked) own started (by kernel_rfl) Try.func3
    (ChangeSpec.witness6 (enc := enc) (C := Try.checked) false ⟨#[], #[.agg #[.int .i16 0, .int .i16 0, .int .i16 0, .int .i16 0, .int .i16 0, .int .i16 0, .int .i16 0, .int .i16 0, .int .i16 0, .int .i16 0, .int .i16 0, .int .i16 0, .int .i16 0, .int .i16 0, .int .i16 0, .int .i16 0, .int .i16 0, .int .i16 0, .int .i16 0, .int .i16 0, .int .i16 0, .int .i16 0, .int .i16 0, .int .i16 0, .int .i32 0]], []⟩ 8 (by kernel_rfl) (by kernel_rfl) (by kernel_rfl) (by kernel_rfl)) ?_
  intro W base args ds gs before hval hW _ _
  exact contract H enc W base args ds gs before hval hW

theorem holds : Rows.FnExactValidStockSaid :=
  OpenClaim.holds_of_wide 3 Try.f3 rfl rfl rfl rfl rfl rfl rfl ⟨rfl, rfl, rfl, rfl, rfl⟩ rfl rfl rfl rfl rfl (by kernel_rfl) Try.func3 (by kernel_rfl)
    (of_decide_eq_true (by kernel_rfl)) (by unfold Func.isWrapper; first | (rw [if_pos (by decide +kernel)]; kernel_rfl) | (rw [if_neg (by decide +kernel)]; exact ⟨rfl, rfl⟩))
    (fun os started H enc _ => lifted os started H enc)
end Go.Proofs.Ytfnlgpnocodonaa.validStock
