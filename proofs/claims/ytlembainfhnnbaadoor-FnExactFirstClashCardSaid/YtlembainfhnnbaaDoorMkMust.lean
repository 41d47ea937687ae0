/-
  A mark that is none panics, and the deferred function recovers it.
-/
import Derived.Test.YtlembainfhnnbaaDoorMkNum
import Derived.Defers
import Derived.Recover
import Derived.Stop.Asserts
namespace Go.Proofs.YtlembainfhnnbaaDoor.mks
open Go Go.RowKit sl stk Go.Stop

abbrev noMarkV : Value := .iface 119 (.agg #[])

set_option maxHeartbeats 1000000 in
theorem mustBe_yes (s : Int) (m : Nat) (h : okB s m = true) (w : World) :
    Calls Tryd.prog 81 #[.int .u16 m, .int .i64 s] w fun e w' => e = .returned (.tuple #[]) ∧ w = w' := by
  have HV := Lib.hid (ValidMark_any s m)
  rw [h] at HV
  clear h
  go_enter Tryd.func81, Tryd.ntmps81
  go_wp2_with (first | (go_at_call 92; refine (HV.out _).mono ?_; rintro o w1 ⟨rfl, rfl⟩) | fail)
  go_end0
  exact ⟨rfl, rfl⟩
set_option maxHeartbeats 1000000 in
theorem mustBe_no (s : Int) (m : Nat) (h : okB s m = false) (w : World) :
    Calls Tryd.prog 81 #[.int .u16 m, .int .i64 s] w fun e w' => e = .panicked [{ v := noMarkV, recovered := false }] ∧ w = w' := by
  have HV := Lib.hid (ValidMark_any s m)
  rw [h] at HV
  clear h
  go_enter Tryd.func81, Tryd.ntmps81
  go_wp2_with (first | (go_at_call 92; refine (HV.out _).mono ?_; rintro o w1 ⟨rfl, rfl⟩) | fail)
  exact ⟨rfl, rfl, rfl⟩

theorem is_refusal (w : World) : (Instr.typeAssert noMarkV 20 96 true).run Tryd.prog w = .ok (.tuple #[noMarkV, .bool true]) w :=
  run_typeAssert_hasB Tryd.underlying96 (by kernel_rfl) _ _ w
theorem no_refusal (w : World) : (Instr.typeAssert .nilIface 20 96 true).run Tryd.prog w = .ok (.tuple #[.nilIface, .bool false]) w := by kernel_rfl

set_option maxHeartbeats 1000000 in
theorem catch_idle (p : Addr) (w : World) :
    CallsD Tryd.prog 80 #[.pointer (some p)] .returning w fun e u' w' => e = .returned (.tuple #[]) ∧ u' = .returning ∧ w' = w := by
  have h1 := no_refusal
  have hn : ∀ w : World, (binOp BinOp.neq 20 .nilIface .nilIface).run Tryd.prog w = .ok (.bool false) w := fun _ => by kernel_rfl
  refine callsD_of_wpS Tryd.func80 rfl fun c₀ cs hu => ?_
  apply wpS_seq
  apply wpS_region
  simp [wpOpsS, go_sem, recoverD, hu, Tryd.ntmps80, Exit.thenS]
  refine wpS_of_wp ?_
  go_wp2_with fail
  exact ⟨rfl, .returning, by cases c₀; simp_all, _, by simp [results, Tryd.results80], rfl, rfl, rfl⟩
set_option maxHeartbeats 1000000 in
theorem catch_panicking (p : Addr) (x : Value) (w : World) (hc : w.cell? p = some x) (hz : w.frozen? p = false) :
    CallsD Tryd.prog 80 #[.pointer (some p)] (.panicking [{ v := noMarkV, recovered := false }]) w fun e u' w' =>
      e = .returned (.tuple #[]) ∧ u' = .panicking [{ v := noMarkV, recovered := true }] ∧ w' = w.setCell p noMarkV := by
  have h1 := is_refusal
  refine callsD_of_wpS Tryd.func80 rfl fun c₀ cs hu => ?_
  apply wpS_seq
  apply wpS_region
  simp [wpOpsS, go_sem, recoverD, hu, Tryd.ntmps80, Exit.thenS]
  refine wpS_of_wp ?_
  go_wp2
  exact ⟨rfl, _, rfl, _, by simp [results, Tryd.results80], rfl, rfl, rfl⟩
end Go.Proofs.YtlembainfhnnbaaDoor.mks
