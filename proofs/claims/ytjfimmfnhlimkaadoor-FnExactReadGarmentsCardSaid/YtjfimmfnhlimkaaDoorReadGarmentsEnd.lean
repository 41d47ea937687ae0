/-
  THE LAW FnExactReadGarments: its row and its card.
-/
import Derived.Test.YtjfimmfnhlimkaaDoorReadGarments
import Derived.Test.YtjfimmfnhlimkaaDoorFacts
import Derived.Test.YtjfimmfnhlimkaaDoorReadGarmentsFacts
import Derived.Test.YtjfimmfnhlimkaaDoorFactsCard
namespace Go.Proofs.YtjfimmfnhlimkaaDoor.lawReadGarments
open Go.ChangeShapes Go.WideShapes Go.ChangeAt Go.RowKit Go.Joins errs

theorem k22 : (Rows.fnExactReadGarmentsRow.plainKeys == Tryd.prog.plainKeys) = true := by
  have e : Rows.fnExactReadGarmentsRow.plainKeys = true := rfl
  rw [e]
  exact facts.p22
theorem k26 : (Rows.fnExactReadGarmentsRow.lifted == Tryd.prog.liftsFinal) = true := by
  have e : Rows.fnExactReadGarmentsRow.lifted = false := rfl
  rw [e]
  exact facts.p26
theorem k27 : (Tryd.prog.make == some Rows.fnExactReadGarmentsRow.make) = true := by
  have e : Rows.fnExactReadGarmentsRow.make = Make.cut := rfl
  rw [e]
  exact facts.p27
theorem joined : joinedFacts Tryd.prog 8 Tryd.f8 Rows.fnExactReadGarmentsSpec Rows.fnExactReadGarmentsRow = true :=
  facts.joined_by k0 facts.p1 facts.p2 k3 k4 k5 facts.p6 k7 facts.p8 k9 k10 k11 k12 k13 k14 k15 k16 k17 k18 k19 k20 k21 k22 k23 facts.p24 facts.p25 k26 k27 k28 k29 k30 k31

theorem door_met (os : Os) (args : Array Value) : laidMetH Tryd.prog Rows.fnExactReadGarmentsRow.laid ((World.doorLaid Tryd.prog 205 os).forCall (fun _ _ => 0) ⟨#[], args, []⟩).memory :=
  laidMetH_of_parts3 (fuel := 8) (laidMet_of_run' 8 (by kernel_rfl) (by kernel_rfl)) (by kernel_rfl) (by kernel_rfl)

set_option maxRecDepth 100000 in
theorem lifted (os : Os) (started : os.Started) (H : Type) (enc : TypeId × Value → H) :
    ReturnsInHanded {} Tryd.checked os 8 .any (fun w args => (Rows.fnExactReadGarmentsSpec.pre enc Tryd.prog Tryd.f8 [] false w args ∧ laidMetH Tryd.prog Rows.fnExactReadGarmentsRow.laid w) ∧ sizedMet enc Tryd.prog Tryd.f8 (OpenSpec.ofChange Rows.fnExactReadGarmentsSpec) false w args)
      (Rows.fnExactReadGarmentsSpec.post enc Tryd.prog Tryd.f8 false true false false) := by
  refine returnsInHanded_of_change_and (C := Tryd.checked) (X := fun w _ => laidMetH Tryd.prog Rows.fnExactReadGarmentsRow.laid w) (fun _ _ _ hh h => h.of_heap hh) own started (by kernel_rfl) Tryd.func8
    (ChangeSpec.witness_shaped (enc := enc) (C := Tryd.checked) (os := os) (X := fun w _ => laidMetH Tryd.prog Rows.fnExactReadGarmentsRow.laid w) false (World.doorLaid Tryd.prog 205 os) #[.string ⟨#[]⟩] 8 rfl (World.shaped_of_RefB (by kernel_rfl) (by kernel_rfl)) (by kernel_rfl) (by kernel_rfl) (by kernel_rfl) (door_met os _)) ?_
  intro W base args ds gs before hval hW _ _ hL _
  exact contract H enc W base args ds gs before hval hW hL

theorem wrap : Tryd.f8.isWrapper Tryd.prog Rows.fnExactReadGarmentsRow.wrapper Rows.fnExactReadGarmentsRow.mainSum := by
  unfold Func.isWrapper
  first
    | (rw [if_pos (by decide +kernel)]; kernel_rfl)
    | (rw [if_neg (by decide +kernel)]; exact ⟨rfl, rfl⟩)
theorem said : Rows.FnExactReadGarmentsSaid :=
  OpenClaim.holds_of_wide 8 Tryd.f8 rfl rfl rfl rfl rfl rfl rfl ⟨rfl, rfl, rfl, rfl, rfl⟩ rfl rfl rfl rfl rfl named Tryd.func8 joined
    (of_decide_eq_true inst) wrap (fun os started H enc _ => lifted os started H enc)

theorem plain (f : FuncId) (fn : Func) (hf : Tryd.pinned.checked.prog.funcNamed Rows.fnExactReadGarmentsRow.func = some f) (hfn : Tryd.pinned.checked.prog.funcs[f]? = some fn) :
    true = Tryd.pinned.checked.prog.looks [] ∧ ∀ (j : Nat) t, fn.params[j]? = some t → Tryd.pinned.checked.prog.wantsStandIn t = false := by
  obtain rfl : f = 8 := (Option.some.inj (named.symm.trans hf)).symm
  obtain rfl : fn = Tryd.f8 := (Option.some.inj (Tryd.func8.symm.trans hfn)).symm
  refine ⟨facts.looks, fun j t ht => ?_⟩
  have hm : t ∈ Tryd.f8.params.toList := by simpa using Array.mem_of_getElem? ht
  exact (show Tryd.prog.wantsStandIn t = false by simpa using List.all_eq_true.1 stand t hm)

set_option maxRecDepth 100000 in
theorem card : Rows.FnExactReadGarmentsCardSaid :=
  Claim7.holds_tied_plain_at .later [] _ _ _ _ said (fun _ h => by cases h) wft (fun _ h => by cases h) fnExactReadGarments_row_tie rfl ⟨rfl, rfl⟩ facts.mainIs rfl plain goes
end Go.Proofs.YtjfimmfnhlimkaaDoor.lawReadGarments
