/-
  THE LAW FnExactValidPiece: for every piece the law returns true: the program says that it is valid just where the model does. No condition.
-/
import Derived.Test.YtajhdgoinghmmaaJoin5
import Derived.Test.YtajhdgoinghmmaaPieOpen
import Derived.Test.YtajhdgoinghmmaaClose
import Derived.ProofKit
import Derived.OpenShut
import Derived.Lib.SmallJoins
namespace Go.Proofs.Ytajhdgoinghmmaa.validPiece
open Go.ChangeShapes Go.WideShapes Go.ChangeAt Go.RowKit Go.Joins sl iron

theorem own : ownKnob Try.prog.godebug = none := by kernel_rfl
theorem laidOut : laidOutB Try.prog = true := by kernel_rfl
set_option maxHeartbeats 1000000 in
theorem ValidPiece_spec (x : Pie) (hx : x.Fits) (w : World) :
    Calls Try.prog 5 #[x.v] w fun e w' => e = .returned (.bool (pieB x)) ∧ Below w.heap.size w w' := by
  go_enter Try.func5, Try.ntmps5
  go_wp2_with fail
  refine (l07Piece_any x hx _ rfl _).mono ?_
  rintro e w1 ⟨rfl, hb⟩
  go_wp2_with fail
  go_ret
  exact ⟨rfl, ((Below.refl _ _).alloc (Nat.le_refl _) _).trans (hb.mono (by simp))⟩

set_option maxHeartbeats 1000000 in
theorem walk (x : Pie) (hx : x.Fits) (w : World) :
    Calls Try.prog 3 #[x.v] w fun e w' => e = .returned (.bool true) ∧ Below w.heap.size w w' := by
  go_enter Try.func3, Try.ntmps3
  go_wp2_with fail
  refine (pieS.to_any x _).mono ?_
  rintro e w1 ⟨rfl, hb1⟩
  have H1 : Below (w.heap.size + 1) (w.alloc (.cells #[.int .i8 x.lev, .int .i8 x.mins, .int .i16 x.due] 25)) w1 := by simpa using hb1
  clear hb1
  go_wp2_with fail
  refine (ValidPiece_spec x hx _).mono ?_
  rintro e w2 ⟨rfl, hb2⟩
  have H2 := below_next H1 hb2 (by simp)
  clear hb2 H1
  have c0 := box_at H2 (by omega) 0
  have c1 := box_at H2 (by omega) 1
  have c2 := box_at H2 (by omega) 2
  simp only [List.getElem?_toArray, List.getElem?_cons_zero, List.getElem?_cons_succ] at c0 c1 c2
  go_wp2_with fail
  refine (pieS.to_any x _).mono ?_
  rintro e w3 ⟨rfl, hb3⟩
  have H3 := below_next H2 hb3 (by simp)
  go_wp2_with fail
  refine (ValidPiece_any x hx _).mono ?_
  rintro e w4 ⟨rfl, hb4⟩
  have H4 := below_next H3 hb4 (by simp)
  go_wp2_with fail
  go_ret
  exact ⟨rfl, ((Below.refl _ _).alloc (Nat.le_refl _) _).trans (H4.mono (by omega))⟩

theorem readables : ∀ t ∈ Try.f3.params.toList, Try.prog.readableRec t = true ∧ t < Try.prog.types.size := by
  rw [Try.params3]
  intro t ht
  simp only [List.mem_cons, List.not_mem_nil, or_false] at ht
  subst ht
  exact ⟨by kernel_rfl, of_decide_eq_true (by kernel_rfl)⟩

theorem contract (H : Type) (enc : TypeId × Value → H) (W : World) (base : Nat) (args : Array Value) (ds gs : List (DataW H)) (before : List MemPlace)
    (hval : ∀ (j : Nat) t v, Try.f3.params[j]? = some t → args[j]? = some v → Value.okWide Try.prog W .any base t v)
    (hW : DataW.Whole enc Try.prog Try.f3.params.toList Rows.fnExactValidPieceSpec.vars false W args.toList ds gs before) :
    Calls Try.prog 3 args W fun e W' => ∃ v, e = .returned v ∧ Rows.fnExactValidPieceSpec.post enc Try.prog Try.f3 false true false false W args v W' := by
  have hW' := hW
  obtain ⟨p, q, hA0, hV, rfl, hfz, hnd⟩ := hW
  have hA : DataW.TrodAll enc Try.prog W 0 (fun _ => true) true Try.f3.params.toList args.toList ds p := hA0
  rw [Try.params3] at hA hval
  clear hA0
  obtain ⟨v0, vs0, d0, ds0, p0, q0, hargs, rfl, rfl, h0, r0⟩ := trodAll_cons hA
  obtain ⟨rfl, rfl, rfl⟩ := trodAll_nil r0
  obtain rfl : args = #[v0] := by cases args; simp_all
  obtain ⟨rfl, rfl⟩ := trodVars_none hV
  obtain ⟨x, hx, rfl⟩ := pieS.open_one (hval 0 25 v0 rfl rfl) h0
  refine (walk x hx W).mono fun e W' ⟨he, hb⟩ => ?_
  subst he
  exact ⟨_, rfl, close_law laidOut readables rfl Try.underlying4 rfl rfl hW' hb⟩

set_option maxRecDepth 100000 in
theorem lifted (os : Os) (started : os.Started) (H : Type) (enc : TypeId × Value → H) :
    ReturnsInHanded {} Try.checked os 3 .any (Rows.fnExactValidPieceSpec.pre6 enc Try.prog Try.f3 Rows.fnExactValidPieceRow.domain false) (Rows.fnExactValidPieceSpec.post enc Try.prog Try.f3 false true false false) := by
  refine returnsInHanded_of_change (C := Try.checked) own started (by kernel_rfl) Try.func3
    (ChangeSpec.witness6 (enc := enc) (C := Try.checked) false ⟨#[], #[.agg #[.int .i8 0, .int .i8 0, .int .i16 0]], []⟩ 8 (by kernel_rfl) (by kernel_rfl) (by kernel_rfl) (by kernel_rfl)) ?_
  intro W base args ds gs before hval hW _ _
  exact contract H enc W base args ds gs before hval hW

theorem holds : Rows.FnExactValidPieceSaid :=
  OpenClaim.holds_of_wide 3 Try.f3 rfl rfl rfl rfl rfl rfl rfl ⟨rfl, rfl, rfl, rfl, rfl⟩ rfl rfl rfl rfl rfl (by kernel_rfl) Try.func3 (by kernel_rfl)
    (of_decide_eq_true (by kernel_rfl)) (by unfold Func.isWrapper; first | (rw [if_pos (by decide +kernel)]; kernel_rfl) | (rw [if_neg (by decide +kernel)]; exact ⟨rfl, rfl⟩))
    (fun os started H enc _ => lifted os started H enc)
end Go.Proofs.Ytajhdgoinghmmaa.validPiece
