/-
  THE LAW FnExactColourSets: its row and its card.
-/
import Derived.Test.YtdafnibmoggcnaaDoorColourSets
import Derived.Test.YtdafnibmoggcnaaDoorFacts
import Derived.Test.YtdafnibmoggcnaaDoorColourSetsFacts
import Derived.Test.YtdafnibmoggcnaaDoorFactsCard
namespace Go.Proofs.YtdafnibmoggcnaaDoor.lawColourSets
open Go.ChangeShapes Go.WideShapes Go.ChangeAt Go.RowKit Go.Joins garS errs meet

theorem k22 : (Rows.fnExactColourSetsRow.plainKeys == Tryd.prog.plainKeys) = true := by
  have e : Rows.fnExactColourSetsRow.plainKeys = false := rfl
  rw [e]
  exact facts.p22
theorem k26 : (Rows.fnExactColourSetsRow.lifted == Tryd.prog.liftsFinal) = true := by
  have e : Rows.fnExactColourSetsRow.lifted = false := rfl
  rw [e]
  exact facts.p26
theorem k27 : (Tryd.prog.make == some Rows.fnExactColourSetsRow.make) = true := by
  have e : Rows.fnExactColourSetsRow.make = Make.cut := rfl
  rw [e]
  exact facts.p27
theorem joined : joinedFacts Tryd.prog 4 Tryd.f4 Rows.fnExactColourSetsSpec Rows.fnExactColourSetsRow = true :=
  facts.joined_by k0 facts.p1 facts.p2 k3 k4 k5 facts.p6 k7 facts.p8 k9 k10 k11 k12 k13 k14 k15 k16 k17 k18 k19 k20 k21 k22 k23 facts.p24 facts.p25 k26 k27 k28 k29 k30 k31

theorem door_met (os : Os) (args : Array Value) : laidMetH Tryd.prog Rows.fnExactColourSetsRow.laid ((World.doorLaid Tryd.prog 142 os).forCall (fun _ _ => 0) ⟨#[], args, []⟩).memory :=
  laidMetH_of_parts3 (fuel := 8) (laidMet_of_run' 8 (by kernel_rfl) (by kernel_rfl)) (by kernel_rfl) (by kernel_rfl)

set_option maxRecDepth 100000 in
theorem lifted (os : Os) (started : os.Started) (H : Type) (enc : TypeId × Value → H) :
    ReturnsInHanded {} Tryd.checked os 4 .any (fun w args => (Rows.fnExactColourSetsSpec.pre enc Tryd.prog Tryd.f4 [] false w args ∧ laidMetH Tryd.prog Rows.fnExactColourSetsRow.laid w) ∧ sizedMet enc Tryd.prog Tryd.f4 (OpenSpec.ofChange Rows.fnExactColourSetsSpec) false w args)
      (Rows.fnExactColourSetsSpec.post enc Tryd.prog Tryd.f4 false true false false) := by
  refine returnsInHanded_of_change_and (C := Tryd.checked) (X := fun w _ => laidMetH Tryd.prog Rows.fnExactColourSetsRow.laid w) (fun _ _ _ hh h => h.of_heap hh) own started (by kernel_rfl) Tryd.func4
    (ChangeSpec.witness_shaped (enc := enc) (C := Tryd.checked) (os := os) (X := fun w _ => laidMetH Tryd.prog Rows.fnExactColourSetsRow.laid w) false (World.doorLaid Tryd.prog 142 os) #[.agg #[.int .u8 0, .int .u8 0, .int .u8 0, .int .u8 0, .int .u8 0, .int .u8 0]] 8 rfl (World.shaped_of_RefB (by kernel_rfl) (by kernel_rfl)) (by kernel_rfl) (by kernel_rfl) (by kernel_rfl) (door_met os _)) ?_
  intro W base args ds gs before hval hW _ _ hL _
  exact contract H enc W base args ds gs before hval hW hL

theorem wrap : Tryd.f4.isWrapper Tryd.prog Rows.fnExactColourSetsRow.wrapper Rows.fnExactColourSetsRow.mainSum := by
  unfold Func.isWrapper
  first
    | (rw [if_pos (by decide +kernel)]; kernel_rfl)
    | (rw [if_neg (by decide +kernel)]; exact ⟨rfl, rfl⟩)
theorem said : Rows.FnExactColourSetsSaid :=
  OpenClaim.holds_of_wide 4 Tryd.f4 rfl rfl rfl rfl rfl rfl rfl ⟨rfl, rfl, rfl, rfl, rfl⟩ rfl rfl rfl rfl rfl named Tryd.func4 joined
    (of_decide_eq_true inst) wrap (fun os started H enc _ => lifted os started H enc)

theorem plain (f : FuncId) (fn : Func) (hf : Tryd.pinned.checked.prog.funcNamed Rows.fnExactColourSetsRow.func = some f) (hfn : Tryd.pinned.checked.prog.funcs[f]? = some fn) :
    true = Tryd.pinned.checked.prog.looks [] ∧ ∀ (j : Nat) t, fn.params[j]? = some t → Tryd.pinned.checked.prog.wantsStandIn t = false := by
  obtain rfl : f = 4 := (Option.some.inj (named.symm.trans hf)).symm
  obtain rfl : fn = Tryd.f4 := (Option.some.inj (Tryd.func4.symm.trans hfn)).symm
  refine ⟨facts.looks, fun j t ht => ?_⟩
  have hm : t ∈ Tryd.f4.params.toList := by simpa using Array.mem_of_getElem? ht
  exact (show Tryd.prog.wantsStandIn t = false by simpa using List.all_eq_true.1 stand t hm)

set_option maxRecDepth 100000 in
theorem card : Rows.FnExactColourSetsCardSaid :=
  Claim7.holds_tied_plain_at .later [] _ _ _ _ said (fun _ h => by cases h) wft (fun _ h => by cases h) fnExactColourSets_row_tie rfl ⟨rfl, rfl⟩ facts.mainIs rfl plain goes
end Go.Proofs.YtdafnibmoggcnaaDoor.lawColourSets
