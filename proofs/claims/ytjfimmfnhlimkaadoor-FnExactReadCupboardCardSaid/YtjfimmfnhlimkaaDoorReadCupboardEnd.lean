/-
  THE LAW FnExactReadCupboard: its row and its card.
-/
import Derived.Test.YtjfimmfnhlimkaaDoorReadCupboard
import Derived.Test.YtjfimmfnhlimkaaDoorFacts
import Derived.Test.YtjfimmfnhlimkaaDoorReadCupboardFacts
import Derived.Test.YtjfimmfnhlimkaaDoorFactsCard
import Derived.Lay
namespace Go.Proofs.YtjfimmfnhlimkaaDoor.lawReadCupboard
open Go.ChangeShapes Go.WideShapes Go.ChangeAt Go.RowKit Go.Joins errs

theorem k22 : (Rows.fnExactReadCupboardRow.plainKeys == Tryd.prog.plainKeys) = true := by
  have e : Rows.fnExactReadCupboardRow.plainKeys = true := rfl
  rw [e]
  exact facts.p22
theorem k26 : (Rows.fnExactReadCupboardRow.lifted == Tryd.prog.liftsFinal) = true := by
  have e : Rows.fnExactReadCupboardRow.lifted = false := rfl
  rw [e]
  exact facts.p26
theorem k27 : (Tryd.prog.make == some Rows.fnExactReadCupboardRow.make) = true := by
  have e : Rows.fnExactReadCupboardRow.make = Make.cut := rfl
  rw [e]
  exact facts.p27
theorem joined : joinedFacts Tryd.prog 13 Tryd.f13 Rows.fnExactReadCupboardSpec Rows.fnExactReadCupboardRow = true :=
  facts.joined_by k0 facts.p1 facts.p2 k3 k4 k5 facts.p6 k7 facts.p8 k9 k10 k11 k12 k13 k14 k15 k16 k17 k18 k19 k20 k21 k22 k23 facts.p24 facts.p25 k26 k27 k28 k29 k30 k31

set_option maxRecDepth 100000 in
theorem lifted (os : Os) (started : os.Started) (H : Type) (enc : TypeId × Value → H) :
    ReturnsInHanded {} Tryd.checked os 13 .any (fun w args => (Rows.fnExactReadCupboardSpec.pre enc Tryd.prog Tryd.f13 [] false w args ∧ laidMetH Tryd.prog Rows.fnExactReadCupboardRow.laid w) ∧ sizedMet enc Tryd.prog Tryd.f13 (OpenSpec.ofChange Rows.fnExactReadCupboardSpec) false w args)
      (Rows.fnExactReadCupboardSpec.post enc Tryd.prog Tryd.f13 false true false false) := by
  refine returnsInHanded_of_change_and (C := Tryd.checked) (X := fun w _ => laidMetH Tryd.prog Rows.fnExactReadCupboardRow.laid w) (fun _ _ _ hh h => h.of_heap hh) own started (by kernel_rfl) Tryd.func13
    (ChangeSpec.witness_shaped (enc := enc) (C := Tryd.checked) (os := os) (X := fun w _ => laidMetH Tryd.prog Rows.fnExactReadCupboardRow.laid w) false (World.laidAll Tryd.prog os Rows.fnExactReadCupboardRow.laid) #[.string ⟨#[]⟩] 8 (World.laidAll_os _ _ _)
      (World.shaped_of_ZipB (by kernel_rfl) (by kernel_rfl)) (by kernel_rfl) (by kernel_rfl) (by kernel_rfl)
      (by rw [MakeChecks.laidMetH_plain _ _ _ (by kernel_rfl)]; exact laidMet_laidAll _ (by kernel_rfl) (by kernel_rfl))) ?_
  intro W base args ds gs before hval hW _ _ hL _
  exact contract H enc W base args ds gs before hval hW hL

theorem wrap : Tryd.f13.isWrapper Tryd.prog Rows.fnExactReadCupboardRow.wrapper Rows.fnExactReadCupboardRow.mainSum := by
  unfold Func.isWrapper
  first
    | (rw [if_pos (by decide +kernel)]; kernel_rfl)
    | (rw [if_neg (by decide +kernel)]; exact ⟨rfl, rfl⟩)
theorem said : Rows.FnExactReadCupboardSaid :=
  OpenClaim.holds_of_wide 13 Tryd.f13 rfl rfl rfl rfl rfl rfl rfl ⟨rfl, rfl, rfl, rfl, rfl⟩ rfl rfl rfl rfl rfl named Tryd.func13 joined
    (of_decide_eq_true inst) wrap (fun os started H enc _ => lifted os started H enc)

theorem plain (f : FuncId) (fn : Func) (hf : Tryd.pinned.checked.prog.funcNamed Rows.fnExactReadCupboardRow.func = some f) (hfn : Tryd.pinned.checked.prog.funcs[f]? = some fn) :
    true = Tryd.pinned.checked.prog.looks [] ∧ ∀ (j : Nat) t, fn.params[j]? = some t → Tryd.pinned.checked.prog.wantsStandIn t = false := by
  obtain rfl : f = 13 := (Option.some.inj (named.symm.trans hf)).symm
  obtain rfl : fn = Tryd.f13 := (Option.some.inj (Tryd.func13.symm.trans hfn)).symm
  refine ⟨facts.looks, fun j t ht => ?_⟩
  have hm : t ∈ Tryd.f13.params.toList := by simpa using Array.mem_of_getElem? ht
  exact (show Tryd.prog.wantsStandIn t = false by simpa using List.all_eq_true.1 stand t hm)

set_option maxRecDepth 100000 in
theorem card : Rows.FnExactReadCupboardCardSaid :=
  Claim7.holds_tied_plain_at .later [] _ _ _ _ said (fun _ h => by cases h) wft (fun _ h => by cases h) fnExactReadCupboard_row_tie rfl ⟨rfl, rfl⟩ facts.mainIs rfl plain goes
end Go.Proofs.YtjfimmfnhlimkaaDoor.lawReadCupboard
