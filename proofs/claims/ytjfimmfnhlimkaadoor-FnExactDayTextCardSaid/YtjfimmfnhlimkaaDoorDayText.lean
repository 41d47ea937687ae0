/-
  THE LAW FnExactDayText: for every day the law returns true: the program writes the text that the model writes. No condition but that the library's tables are what the program's text lays.
-/
import Derived.Test.YtjfimmfnhlimkaaDoorJoin20
import Derived.Test.YtjfimmfnhlimkaaDoorDayOpen
import Derived.Test.YtjfimmfnhlimkaaDoorClose
import Derived.Test.YtjfimmfnhlimkaaDoorLaid
import Derived.Test.YtjfimmfnhlimkaaDoorCards
import Derived.Test.YtjfimmfnhlimkaaDoorTie
namespace Go.Proofs.YtjfimmfnhlimkaaDoor.lawDayText
open Go.ChangeShapes Go.WideShapes Go.ChangeAt Go.RowKit Go.Joins sl errs day txt

set_option maxRecDepth 100000 in
set_option maxHeartbeats 4000000 in
theorem walk (d : List Wea) (hd : d.length = 24) (hf : ∀ x ∈ d, x.Fits) (w : World) (hT : TabJ w) :
    Calls Tryd.prog 5 #[dayV d] w fun o w' => o = .returned (.bool true) ∧ Below w.heap.size w w' := by
  obtain ⟨T, hTT⟩ : ∃ T, dayText d = T := ⟨_, rfl⟩
  have HD := Lib.hid hd
  have HR := Lib.hid hTT
  have HTB := Lib.hid hT
  clear hTT hd hT
  have A0 := Lib.hid (DayAt.new d 36 w)
  have B0 : Hid (Below w.heap.size w (w.alloc (.cells (dayCs d) 36))) := Lib.hid (by repeat (first | exact Below.refl _ _ | assumption | apply Below.drew | (refine Below.alloc ?_ (by first | (simp; done) | (simp; omega) | omega) _) | (refine Below.setCell ?_ (by first | (simp; done) | (simp; omega) | omega) _)))
  go_enter Tryd.func5, Tryd.ntmps5
  go_wp2_with (refine wpl_load_arg rfl (.tmp 1) rfl w.heap.size rfl HD.out A0.out ?_)
  refine (toDay_any d HD.out _).mono ?_
  rintro o w1 ⟨rfl, hb1⟩
  have A1 := Lib.hid (A0.out.next hb1)
  have B1 := Lib.hid (below_next B0.out hb1 (Nat.le_refl _))
  clear hb1 A0 B0
  go_wp2_with fail
  refine (DayText_spec d HD.out hf _).mono ?_
  rintro o w2 ⟨rfl, hb2⟩
  rw [HR.out]
  have A2 := Lib.hid (A1.out.next hb2)
  have B2 := Lib.hid (below_next B1.out hb2 (Nat.le_refl _))
  clear hb2 A1 B1
  go_wp2_with (refine wpl_load_arg rfl (.tmp 1) rfl w.heap.size rfl HD.out A2.out ?_)
  refine (toDay_any d HD.out _).mono ?_
  rintro o w3 ⟨rfl, hb3⟩
  have B3 := Lib.hid (below_next B2.out hb3 (Nat.le_refl _))
  clear hb3 A2 B2
  go_wp2_with fail
  refine (DayText_any d HD.out hf _ (fun w' hw' => HTB.out w' (B3.out.trans (hw'.mono B3.out.size)))).mono ?_
  rintro o w4 ⟨rfl, hb4⟩
  rw [HR.out]
  have B4 := Lib.hid (below_next B3.out hb4 (Nat.le_refl _))
  clear hb4 B3
  go_wp2_with fail
  go_ret
  exact ⟨rfl, B4.out⟩

theorem readables : ∀ t ∈ Tryd.f5.params.toList, Tryd.prog.readableRec t = true ∧ t < Tryd.prog.types.size := by
  rw [Tryd.params5]
  intro t ht
  simp only [List.mem_cons, List.not_mem_nil, or_false] at ht
  subst ht
  exact ⟨by kernel_rfl, of_decide_eq_true (by kernel_rfl)⟩

set_option maxRecDepth 100000 in
theorem errsLaid {W : World} (h : laidMetH Tryd.prog Rows.fnExactDayTextRow.laid W) : ∃ _e : Nat, TabJ W := by
  rw [MakeChecks.laidMetH_plain _ _ _ (by kernel_rfl)] at h
  have h0 : laidMet Tryd.prog (("math/bits.deBruijn32tab", Rows.laid_math_bits_deBruijn32tab) :: ("math/bits.deBruijn64tab", Rows.laid_math_bits_deBruijn64tab) :: ("internal/strconv.uint64pow10", Rows.laid_internal_strconv_uint64pow10) :: []) W := h
  have h2 := laidMet.tail (laidMet.tail h0)
  have e2 : (Rows.laid_internal_strconv_uint64pow10 : DataW Unit) = Lib.tabData .u64 Lib.pow10Tab := by kernel_rfl
  rw [e2] at h2
  exact ⟨0, tabJ_of h2⟩

set_option maxRecDepth 100000 in
theorem contract (H : Type) (enc : TypeId × Value → H) (W : World) (base : Nat) (args : Array Value) (ds gs : List (DataW H)) (before : List MemPlace)
    (hval : ∀ (j : Nat) t v, Tryd.f5.params[j]? = some t → args[j]? = some v → Value.okWide Tryd.prog W .any base t v)
    (hW : DataW.Whole enc Tryd.prog Tryd.f5.params.toList Rows.fnExactDayTextSpec.vars false W args.toList ds gs before) (hL : laidMetH Tryd.prog Rows.fnExactDayTextRow.laid W) :
    Calls Tryd.prog 5 args W fun e W' => ∃ v, e = .returned v ∧ Rows.fnExactDayTextSpec.post enc Tryd.prog Tryd.f5 false true false false W args v W' := by
  obtain ⟨ee, hE⟩ := errsLaid hL
  have hW' := hW
  obtain ⟨p, q, hA0, hV, rfl, hfz, hnd⟩ := hW
  have hA : DataW.TrodAll enc Tryd.prog W 0 (fun _ => true) true Tryd.f5.params.toList args.toList ds p := hA0
  rw [Tryd.params5] at hA hval
  clear hA0
  obtain ⟨v0, vs0, d0, ds0, p0, q0, hargs, rfl, rfl, h0, r0⟩ := trodAll_cons hA
  obtain ⟨rfl, rfl, rfl⟩ := trodAll_nil r0
  obtain rfl : args = #[v0] := by cases args; simp_all
  obtain ⟨rfl, rfl⟩ := trodVars_none hV
  obtain ⟨d, hd, hf, rfl⟩ := open_day (hval 0 36 v0 rfl rfl) h0
  refine (walk d hd hf W hE).mono fun e W' ⟨he, hb⟩ => ?_
  subst he
  exact ⟨_, rfl, close_vars laidOut readables (by kernel_rfl) Tryd.underlying4 rfl rfl hW' hb⟩

end Go.Proofs.YtjfimmfnhlimkaaDoor.lawDayText
