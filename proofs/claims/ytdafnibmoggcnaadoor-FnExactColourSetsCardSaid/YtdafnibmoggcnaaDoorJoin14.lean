/-
  Several texts of this proof, joined.
-/
import Derived.Test.YtdafnibmoggcnaaDoorErr
import Derived.Lib.Hide
import Derived.Deep.QuietTactic
import Derived.BigQuiet
/-
  Which code each error has, and which error of some checks counts.
-/
namespace Go.Proofs.YtdafnibmoggcnaaDoor.errs
open Go.RowKit

set_option maxHeartbeats 2000000 in
set_option maxRecDepth 100000 in
theorem codeOf_0 {w : World} {B : Nat} {e : Nat → Addr} (h : Errs w B e) :
    Calls Tryd.prog 38 #[errV (e 0)] w fun o w' => o = .returned (.int .i64 1) ∧ w = w' := by
  have H := Lib.hid h
  obtain ⟨c0, c1, c2, c3, c4, c5, c6, _⟩ := h
  go_enter Tryd.func38, Tryd.ntmps38
  go_wp2_with fail
  refine (Is_calls H.out 0 0 (by decide) (by decide) true rfl).mono ?_
  rintro o w' ⟨rfl, rfl⟩
  go_wp2_with fail
  go_ret
  exact ⟨rfl, rfl⟩

set_option maxHeartbeats 2000000 in
set_option maxRecDepth 100000 in
theorem codeOf_1 {w : World} {B : Nat} {e : Nat → Addr} (h : Errs w B e) :
    Calls Tryd.prog 38 #[errV (e 1)] w fun o w' => o = .returned (.int .i64 2) ∧ w = w' := by
  have H := Lib.hid h
  obtain ⟨c0, c1, c2, c3, c4, c5, c6, _⟩ := h
  go_enter Tryd.func38, Tryd.ntmps38
  go_wp2_with fail
  refine (Is_calls H.out 1 0 (by decide) (by decide) false rfl).mono ?_
  rintro o w' ⟨rfl, rfl⟩
  go_wp2_with fail
  refine (Is_calls H.out 1 1 (by decide) (by decide) true rfl).mono ?_
  rintro o w' ⟨rfl, rfl⟩
  go_wp2_with fail
  go_ret
  exact ⟨rfl, rfl⟩

set_option maxHeartbeats 2000000 in
set_option maxRecDepth 100000 in
theorem codeOf_2 {w : World} {B : Nat} {e : Nat → Addr} (h : Errs w B e) :
    Calls Tryd.prog 38 #[errV (e 2)] w fun o w' => o = .returned (.int .i64 3) ∧ w = w' := by
  have H := Lib.hid h
  obtain ⟨c0, c1, c2, c3, c4, c5, c6, _⟩ := h
  go_enter Tryd.func38, Tryd.ntmps38
  go_wp2_with fail
  refine (Is_calls H.out 2 0 (by decide) (by decide) false rfl).mono ?_
  rintro o w' ⟨rfl, rfl⟩
  go_wp2_with fail
  refine (Is_calls H.out 2 1 (by decide) (by decide) false rfl).mono ?_
  rintro o w' ⟨rfl, rfl⟩
  go_wp2_with fail
  refine (Is_calls H.out 2 2 (by decide) (by decide) true rfl).mono ?_
  rintro o w' ⟨rfl, rfl⟩
  go_wp2_with fail
  go_ret
  exact ⟨rfl, rfl⟩

set_option maxHeartbeats 2000000 in
set_option maxRecDepth 100000 in
theorem codeOf_3 {w : World} {B : Nat} {e : Nat → Addr} (h : Errs w B e) :
    Calls Tryd.prog 38 #[errV (e 3)] w fun o w' => o = .returned (.int .i64 4) ∧ w = w' := by
  have H := Lib.hid h
  obtain ⟨c0, c1, c2, c3, c4, c5, c6, _⟩ := h
  go_enter Tryd.func38, Tryd.ntmps38
  go_wp2_with fail
  refine (Is_calls H.out 3 0 (by decide) (by decide) false rfl).mono ?_
  rintro o w' ⟨rfl, rfl⟩
  go_wp2_with fail
  refine (Is_calls H.out 3 1 (by decide) (by decide) false rfl).mono ?_
  rintro o w' ⟨rfl, rfl⟩
  go_wp2_with fail
  refine (Is_calls H.out 3 2 (by decide) (by decide) false rfl).mono ?_
  rintro o w' ⟨rfl, rfl⟩
  go_wp2_with fail
  refine (Is_calls H.out 3 3 (by decide) (by decide) true rfl).mono ?_
  rintro o w' ⟨rfl, rfl⟩
  go_wp2_with fail
  go_ret
  exact ⟨rfl, rfl⟩

set_option maxHeartbeats 2000000 in
set_option maxRecDepth 100000 in
theorem codeOf_4 {w : World} {B : Nat} {e : Nat → Addr} (h : Errs w B e) :
    Calls Tryd.prog 38 #[errV (e 4)] w fun o w' => o = .returned (.int .i64 5) ∧ w = w' := by
  have H := Lib.hid h
  obtain ⟨c0, c1, c2, c3, c4, c5, c6, _⟩ := h
  go_enter Tryd.func38, Tryd.ntmps38
  go_wp2_with fail
  refine (Is_calls H.out 4 0 (by decide) (by decide) false rfl).mono ?_
  rintro o w' ⟨rfl, rfl⟩
  go_wp2_with fail
  refine (Is_calls H.out 4 1 (by decide) (by decide) false rfl).mono ?_
  rintro o w' ⟨rfl, rfl⟩
  go_wp2_with fail
  refine (Is_calls H.out 4 2 (by decide) (by decide) false rfl).mono ?_
  rintro o w' ⟨rfl, rfl⟩
  go_wp2_with fail
  refine (Is_calls H.out 4 3 (by decide) (by decide) false rfl).mono ?_
  rintro o w' ⟨rfl, rfl⟩
  go_wp2_with fail
  refine (Is_calls H.out 4 4 (by decide) (by decide) true rfl).mono ?_
  rintro o w' ⟨rfl, rfl⟩
  go_wp2_with fail
  go_ret
  exact ⟨rfl, rfl⟩

set_option maxHeartbeats 2000000 in
set_option maxRecDepth 100000 in
theorem codeOf_5 {w : World} {B : Nat} {e : Nat → Addr} (h : Errs w B e) :
    Calls Tryd.prog 38 #[errV (e 5)] w fun o w' => o = .returned (.int .i64 6) ∧ w = w' := by
  have H := Lib.hid h
  obtain ⟨c0, c1, c2, c3, c4, c5, c6, _⟩ := h
  go_enter Tryd.func38, Tryd.ntmps38
  go_wp2_with fail
  refine (Is_calls H.out 5 0 (by decide) (by decide) false rfl).mono ?_
  rintro o w' ⟨rfl, rfl⟩
  go_wp2_with fail
  refine (Is_calls H.out 5 1 (by decide) (by decide) false rfl).mono ?_
  rintro o w' ⟨rfl, rfl⟩
  go_wp2_with fail
  refine (Is_calls H.out 5 2 (by decide) (by decide) false rfl).mono ?_
  rintro o w' ⟨rfl, rfl⟩
  go_wp2_with fail
  refine (Is_calls H.out 5 3 (by decide) (by decide) false rfl).mono ?_
  rintro o w' ⟨rfl, rfl⟩
  go_wp2_with fail
  refine (Is_calls H.out 5 4 (by decide) (by decide) false rfl).mono ?_
  rintro o w' ⟨rfl, rfl⟩
  go_wp2_with fail
  refine (Is_calls H.out 5 5 (by decide) (by decide) true rfl).mono ?_
  rintro o w' ⟨rfl, rfl⟩
  go_wp2_with fail
  go_ret
  exact ⟨rfl, rfl⟩

set_option maxHeartbeats 2000000 in
set_option maxRecDepth 100000 in
theorem codeOf_6 {w : World} {B : Nat} {e : Nat → Addr} (h : Errs w B e) :
    Calls Tryd.prog 38 #[errV (e 6)] w fun o w' => o = .returned (.int .i64 7) ∧ w = w' := by
  have H := Lib.hid h
  obtain ⟨c0, c1, c2, c3, c4, c5, c6, _⟩ := h
  go_enter Tryd.func38, Tryd.ntmps38
  go_wp2_with fail
  refine (Is_calls H.out 6 0 (by decide) (by decide) false rfl).mono ?_
  rintro o w' ⟨rfl, rfl⟩
  go_wp2_with fail
  refine (Is_calls H.out 6 1 (by decide) (by decide) false rfl).mono ?_
  rintro o w' ⟨rfl, rfl⟩
  go_wp2_with fail
  refine (Is_calls H.out 6 2 (by decide) (by decide) false rfl).mono ?_
  rintro o w' ⟨rfl, rfl⟩
  go_wp2_with fail
  refine (Is_calls H.out 6 3 (by decide) (by decide) false rfl).mono ?_
  rintro o w' ⟨rfl, rfl⟩
  go_wp2_with fail
  refine (Is_calls H.out 6 4 (by decide) (by decide) false rfl).mono ?_
  rintro o w' ⟨rfl, rfl⟩
  go_wp2_with fail
  refine (Is_calls H.out 6 5 (by decide) (by decide) false rfl).mono ?_
  rintro o w' ⟨rfl, rfl⟩
  go_wp2_with fail
  refine (Is_calls H.out 6 6 (by decide) (by decide) true rfl).mono ?_
  rintro o w' ⟨rfl, rfl⟩
  go_wp2_with fail
  go_ret
  exact ⟨rfl, rfl⟩

set_option maxHeartbeats 1000000 in
theorem codeOf_nil (w : World) :
    Calls Tryd.prog 38 #[.nilIface] w fun o w' => o = .returned (.int .i64 0) ∧ w = w' := by
  go_enter Tryd.func38, Tryd.ntmps38
  go_wp2_with fail
  go_ret
  exact ⟨rfl, rfl⟩

theorem codeOf_any {w : World} {B : Nat} {e : Nat → Addr} (h : Errs w B e) (c : Nat) (hc : c ≤ 7) :
    Calls Tryd.prog 38 #[errOf e c] w fun o w' => o = .returned (.int .i64 c) ∧ w = w' := by
  match c, hc with
  | 0, _ => exact codeOf_nil w
  | 1, _ => exact codeOf_0 h
  | 2, _ => exact codeOf_1 h
  | 3, _ => exact codeOf_2 h
  | 4, _ => exact codeOf_3 h
  | 5, _ => exact codeOf_4 h
  | 6, _ => exact codeOf_5 h
  | 7, _ => exact codeOf_6 h

/-- the first code that is not 0 -/
def firstCode : List Nat → Nat
  | [] => 0
  | 0 :: r => firstCode r
  | (c + 1) :: _ => c + 1

set_option maxHeartbeats 2000000 in
/-- the first error of some checks, which lie in block b -/
theorem firstOf_any (e : Nat → Addr) (cs : List Nat) (b n c : Nat) (hn : n = cs.length) (hs : n ≤ 8) (w : World) (hcell : ∀ k x, cs[k]? = some x → w.cell? ⟨b, k, none⟩ = some (errOf e x)) :
    Calls Tryd.prog 33 #[.slice (some ⟨b, 0, none⟩) n c] w fun o w' => o = .returned (errOf e (firstCode cs)) ∧ w = w' := by
  have Hn := Lib.hid hn
  clear hn
  go_enter Tryd.func33, Tryd.ntmps33
  go_wp2_with fail
  go_loop [7, 4] (fun vi _ => ∃ k : Nat, k ≤ n ∧ vi = .int .i64 k ∧ firstCode (cs.drop k) = firstCode cs) (fun vi _ => n - (intOf vi).toNat)
  case atStart => exact ⟨0, by omega, rfl, rfl⟩
  case round =>
    obtain ⟨k, hk, rfl, hf⟩ := hrel
    have HF := Lib.hid hf
    clear hf
    by_cases hlt : k < n
    · obtain ⟨x, hx⟩ : ∃ x, cs[k]? = some x := ⟨cs[k]'(by have := Hn.out; omega), List.getElem?_eq_getElem _⟩
      have hc := hcell k x hx
      have hd : cs.drop k = x :: cs.drop (k + 1) := by
        have hl : k < cs.length := (List.getElem?_eq_some_iff.1 hx).1
        rw [List.drop_eq_getElem_cons hl]
        congr 1
        exact (List.getElem?_eq_some_iff.1 hx).2
      have HD := Lib.hid hd
      clear hd hx hcell
      cases x with
      | zero =>
        have hc' : w.cell? ⟨b, k, none⟩ = some .nilIface := hc
        clear hc
        go_wp2_with fail
        go_round
        case rel => exact ⟨k + 1, by omega, by go_num, by rw [← HF.out, HD.out]; rfl⟩
        case measure => simp [intOf]; omega
      | succ i =>
        have hc' : w.cell? ⟨b, k, none⟩ = some (errV (e i)) := hc
        clear hc
        go_wp2_with fail
        go_ret
        exact ⟨by rw [← HF.out, HD.out]; rfl, rfl⟩
    · go_wp2_with fail
      go_ret
      have hk2 : k = n := by omega
      refine ⟨?_, rfl⟩
      rw [← HF.out, List.drop_of_length_le (by have := Hn.out; omega)]
      rfl

theorem buildSlice3 (e : Nat → Addr) (k1 k2 k3 : Nat) (w : World) :
    (Instr.buildSlice 92 3 #[(0, errOf e k1), (1, errOf e k2), (2, errOf e k3)]).run Tryd.prog w = .ok (.slice (some ⟨w.heap.size, 0, none⟩) 3 3) (w.alloc (.cells #[errOf e k1, errOf e k2, errOf e k3] 60)) := by
  cases k1 <;> cases k2 <;> cases k3 <;> kernel_rfl

theorem buildSlice2 (e : Nat → Addr) (k1 k2 : Nat) (w : World) :
    (Instr.buildSlice 92 2 #[(0, errOf e k1), (1, errOf e k2)]).run Tryd.prog w = .ok (.slice (some ⟨w.heap.size, 0, none⟩) 2 2) (w.alloc (.cells #[errOf e k1, errOf e k2] 60)) := by
  cases k1 <;> cases k2 <;> kernel_rfl

theorem buildSlice4 (e : Nat → Addr) (k1 k2 k3 k4 : Nat) (w : World) :
    (Instr.buildSlice 92 4 #[(0, errOf e k1), (1, errOf e k2), (2, errOf e k3), (3, errOf e k4)]).run Tryd.prog w = .ok (.slice (some ⟨w.heap.size, 0, none⟩) 4 4) (w.alloc (.cells #[errOf e k1, errOf e k2, errOf e k3, errOf e k4] 60)) := by
  cases k1 <;> cases k2 <;> cases k3 <;> cases k4 <;> kernel_rfl

theorem buildSlice5 (e : Nat → Addr) (k1 k2 k3 k4 k5 : Nat) (w : World) :
    (Instr.buildSlice 92 5 #[(0, errOf e k1), (1, errOf e k2), (2, errOf e k3), (3, errOf e k4), (4, errOf e k5)]).run Tryd.prog w = .ok (.slice (some ⟨w.heap.size, 0, none⟩) 5 5) (w.alloc (.cells #[errOf e k1, errOf e k2, errOf e k3, errOf e k4, errOf e k5] 60)) := by
  cases k1 <;> cases k2 <;> cases k3 <;> cases k4 <;> cases k5 <;> kernel_rfl

theorem buildSlice6 (e : Nat → Addr) (k1 k2 k3 k4 k5 k6 : Nat) (w : World) :
    (Instr.buildSlice 92 6 #[(0, errOf e k1), (1, errOf e k2), (2, errOf e k3), (3, errOf e k4), (4, errOf e k5), (5, errOf e k6)]).run Tryd.prog w = .ok (.slice (some ⟨w.heap.size, 0, none⟩) 6 6) (w.alloc (.cells #[errOf e k1, errOf e k2, errOf e k3, errOf e k4, errOf e k5, errOf e k6] 60)) := by
  cases k1 <;> cases k2 <;> cases k3 <;> cases k4 <;> cases k5 <;> cases k6 <;> kernel_rfl

/-- a list that is written out is built as told -/
theorem wpList_listed {P : Program} {ops : Array Oper} {rest : List Oper} {o : Oper} {a : Act} {w w' : World} {v : Value} {Q : Exit → Act → World → Prop} (hgd : o.guard = none) (t : TypeId) (len : Nat) (parts : Array (Nat × Operand)) (ho : o.op = .buildSlice t len parts)
    (vals : Array (Nat × Value)) (hp : (parts.map fun (i, x) => (i, a.eval x)) = vals) (hrun : (Instr.buildSlice t len vals).run P w = .ok v w') (h : wpList P ops Q rest (a.put o.dst v) w') : wpList P ops Q (o :: rest) a w :=
  wpList_plain hgd fun _ hK => by
    unfold Oper.wp execOp
    simp only [ho, hp, hrun, Sem.run_bind, Sem.run_pure, Result.andThen_ok]
    exact hK _ _ h

/-- the checks' list lies in a new block -/
theorem cells_errs (e : Nat → Addr) (cs : List Nat) (w : World) (t : TypeId) (A : Array Value) (hA : A = (cs.map (errOf e)).toArray) :
    ∀ k x, cs[k]? = some x → (w.alloc (.cells A t)).cell? ⟨w.heap.size, k, none⟩ = some (errOf e x) := by
  intro k x hx
  rw [cell_of_row _ _ _ _ _ _ (heap_alloc_new w _), hA]
  simp [hx]
end Go.Proofs.YtdafnibmoggcnaaDoor.errs

/-
  The program's check that a number is between two.
-/
namespace Go.Proofs.YtdafnibmoggcnaaDoor.errs
open Go.RowKit

theorem checkWithin_any (x lo hi : Int) {w : World} {B : Nat} {e : Nat → Addr} (h : Errs w B e) :
    Calls Tryd.prog 64 #[.int .i64 x, .int .i64 lo, .int .i64 hi] w fun o w' => o = .returned (errOf e (if lo ≤ x ∧ x ≤ hi then 0 else 2)) ∧ w = w' := by
  obtain ⟨c0, c1, c2, c3, c4, c5, c6, _⟩ := h
  by_cases h0 : lo ≤ x ∧ x ≤ hi
  · rw [if_pos h0]
    obtain ⟨h1, h2⟩ := h0
    have h3 : ¬ x < lo := by omega
    have h4 : ¬ hi < x := by omega
    go_enter Tryd.func64, Tryd.ntmps64
    go_wp2_with fail
    all_goals go_ret
    all_goals exact ⟨rfl, rfl⟩
  · rw [if_neg h0]
    by_cases h1 : x < lo
    · go_enter Tryd.func64, Tryd.ntmps64
      go_wp2_with fail
      all_goals go_ret
      all_goals exact ⟨rfl, rfl⟩
    · have h2 : hi < x := by omega
      go_enter Tryd.func64, Tryd.ntmps64
      go_wp2_with fail
      all_goals go_ret
      all_goals exact ⟨rfl, rfl⟩
end Go.Proofs.YtdafnibmoggcnaaDoor.errs
