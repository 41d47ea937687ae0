/-
  Contracts of the functions on one weather, the program's and the model's; on one thing, too.
-/
import Derived.Test.YtjfimmfnhlimkaaDoorJoin13
import Derived.Test.YtjfimmfnhlimkaaDoorResRow
import Derived.StillTailTactics
namespace Go.Proofs.YtjfimmfnhlimkaaDoor.day
open Go Go.RowKit sl

/-- is a number between two -/
def inB (n lo hi : Int) : Bool := decide (lo ≤ n) && decide (n ≤ hi)
theorem inB_iff {n lo hi : Int} : inB n lo hi = true ↔ lo ≤ n ∧ n ≤ hi := by simp [inB]
theorem wea_in (x : Wea) : Wea.valid x = (inB x.sun 0 9 && (inB x.wind 0 9 && inB x.rain 0 9)) := by simp [Wea.valid, inB, Bool.and_assoc]
theorem was_in (x : Was) : Was.valid x = (inB x.wet 0 1000 && inB x.thick 1 9) := by simp [Was.valid, inB, Bool.and_assoc]
/-- a number, tamed -/
def tame (n : Int) : Int := if n < 0 then 0 else if n > 9 then 9 else n
def tamed (x : Wea) : Wea := ⟨tame x.sun, tame x.wind, tame x.rain⟩
theorem tame_iff (n : Int) : tame n = n ↔ 0 ≤ n ∧ n ≤ 9 := by
  unfold tame
  split
  · omega
  · split <;> omega
theorem tamed_iff (x : Wea) : x = tamed x ↔ Wea.valid x = true := by
  rw [Wea.valid_iff]
  obtain ⟨a, b, c⟩ := x
  simp only [tamed, Wea.mk.injEq]
  rw [eq_comm (a := a), eq_comm (a := b), eq_comm (a := c), tame_iff, tame_iff, tame_iff]
theorem tame_bd (n : Int) : 0 ≤ tame n ∧ tame n ≤ 9 := by
  unfold tame
  split
  · omega
  · split <;> omega

theorem l00In_any (n lo hi : Int) (w : World) :
    Calls Tryd.prog 121 #[.int .i64 n, .int .i64 lo, .int .i64 hi] w fun o w' => o = .returned (.bool (inB n lo hi)) ∧ w = w' := by
  go_enter Tryd.func121, Tryd.ntmps121
  go_wp2_with fail
  all_goals go_ret
  all_goals exact ⟨ret_bool (by first | (simp [inB, *]; done) | (simp [inB]; omega)), rfl⟩
theorem l00In_b (n lo hi : Int) (b : Bool) (hb : inB n lo hi = b) (w : World) :
    Calls Tryd.prog 121 #[.int .i64 n, .int .i64 lo, .int .i64 hi] w fun o w' => o = .returned (.bool b) ∧ w = w' := by
  subst hb
  exact l00In_any n lo hi w
theorem tame_any (n : Int) (h0 : -128 ≤ n) (h1 : n ≤ 127) (w : World) :
    Calls Tryd.prog 182 #[.int .i8 n] w fun o w' => o = .returned (.int .i8 (tame n)) ∧ w' = w := by
  by_cases hn : n < 0
  · have e : tame n = 0 := by unfold tame; rw [if_pos hn]
    rw [e]
    clear e
    go_enter Tryd.func182, Tryd.ntmps182
    go_wp2_with fail
    go_ret
    exact ⟨rfl, rfl⟩
  · have hn0 : 0 ≤ n := by omega
    by_cases h9 : 9 < n
    · have e : tame n = 9 := by unfold tame; rw [if_neg hn, if_pos h9]
      rw [e]
      clear e hn
      go_enter Tryd.func182, Tryd.ntmps182
      go_wp2_with fail
      go_ret
      exact ⟨rfl, rfl⟩
    · have e : tame n = n := by unfold tame; rw [if_neg hn, if_neg h9]
      have h90 : n ≤ 9 := by omega
      rw [e]
      clear e hn h9
      go_enter Tryd.func182, Tryd.ntmps182
      go_wp2_with fail
      go_ret
      exact ⟨rfl, rfl⟩
set_option maxRecDepth 100000 in
set_option maxHeartbeats 2000000 in
theorem tamed_any (x : Wea) (hx : x.Fits) (w : World) :
    Calls Tryd.prog 155 #[x.v] w fun o w' => o = .returned (tamed x).v ∧ Below w.heap.size w w' := by
  obtain ⟨a, b, c⟩ := x
  obtain ⟨a0, a1, b0, b1, c0, c1⟩ := hx
  simp only at a0 a1 b0 b1 c0 c1
  go_enter Tryd.func155, Tryd.ntmps155
  go_wp2_with fail
  obtain ⟨u, hu⟩ : ∃ u, u = (w.alloc (.cells #[.int .i8 a, .int .i8 b, .int .i8 c] 38)).alloc (.cells #[.int .i8 0, .int .i8 0, .int .i8 0] 38) := ⟨_, rfl⟩
  rw [← hu]
  refine wp_region_still_tail 13 (by kernel_rfl) (by kernel_rfl) ?_
  simp only [List.take_succ_cons, List.take_zero, List.drop_succ_cons, List.drop_zero]
  have hu1 : u.heap[w.heap.size]? = some (.cells #[.int .i8 a, .int .i8 b, .int .i8 c] 38 (0, 0)) := by
    rw [hu, heap_alloc_old _ _ (by simp)]
    exact heap_alloc_new _ _
  have hu2 : u.heap[w.heap.size + 1]? = some (.cells #[.int .i8 0, .int .i8 0, .int .i8 0] 38 (0, 0)) := by
    rw [hu]
    have := heap_alloc_new (w.alloc (.cells #[.int .i8 a, .int .i8 b, .int .i8 c] 38)) (.cells #[.int .i8 0, .int .i8 0, .int .i8 0] 38)
    rwa [World.size_alloc] at this
  have hB : Below w.heap.size w u := by
    rw [hu]
    repeat (first | exact Below.refl _ _ | assumption | apply Below.drew | (refine Below.alloc ?_ (by first | (simp; done) | (simp; omega) | omega) _) | (refine Below.setCell ?_ (by first | (simp; done) | (simp; omega) | omega) _))
  clear hu
  generalize hv : ({ heap := u.heap, tape := u.tape, drawn := u.drawn + 1, os := u.os, output := u.output } : World) = v
  have hv := hv.symm
  have hv1 : v.heap[w.heap.size]? = some (.cells #[.int .i8 a, .int .i8 b, .int .i8 c] 38 (0, 0)) := by rw [hv]; exact hu1
  have hv2 : v.heap[w.heap.size + 1]? = some (.cells #[.int .i8 0, .int .i8 0, .int .i8 0] 38 (0, 0)) := by rw [hv]; exact hu2
  have hB2 : Below w.heap.size w v := by rw [hv]; exact hB.drew
  clear hv hu1 hu2 hB
  have p0 := cell_of_row _ _ 0 _ _ _ hv1
  have p1 := cell_of_row _ _ 1 _ _ _ hv1
  have p2 := cell_of_row _ _ 2 _ _ _ hv1
  have r0 := cell_of_row _ _ 0 _ _ _ hv2
  have r1 := cell_of_row _ _ 1 _ _ _ hv2
  have r2 := cell_of_row _ _ 2 _ _ _ hv2
  have f := fun i => frozen_of_row _ _ i _ _ hv2
  have f0 := f 0
  have f1 := f 1
  have f2 := f 2
  clear f hv1 hv2
  simp at p0 p1 p2 r0 r1 r2
  repeat still_step
  still_call (tame_any a a0 a1 _)
  repeat still_step
  still_call (tame_any b b0 b1 _)
  repeat still_step
  still_call (tame_any c c0 c1 _)
  repeat still_step
  refine wpStill_nil ?_
  have HB := Lib.hid (below_cells hB2 (show w.heap.size ≤ w.heap.size + 1 by omega) (tamed ⟨a, b, c⟩).cells 0)
  clear hv hB2 p0 p1 p2
  go_wp2_with fail
  refine bodyPost_ret (v := (tamed ⟨a, b, c⟩).v) (results_stored (u := v) (b := w.heap.size + 1) (cs := (tamed ⟨a, b, c⟩).cells) Tryd.results155 rfl (fun j hj => by
    match j, hj with
    | 0, _ => exact ⟨by rw [r0]; rfl, f0⟩
    | 1, _ => exact ⟨by rw [r1]; rfl, f1⟩
    | 2, _ => exact ⟨by rw [r2]; rfl, f2⟩) Tryd.underlying38 rfl (by kernel_rfl)) rfl ⟨rfl, HB.out⟩
set_option maxRecDepth 100000 in
set_option maxHeartbeats 2000000 in
theorem l03Weather_any (x : Wea) (hx : x.Fits) (w : World) :
    Calls Tryd.prog 125 #[x.v] w fun o w' => o = .returned (.bool (Wea.valid x)) ∧ Below w.heap.size w w' := by
  rw [wea_in]
  obtain ⟨a, b, c⟩ := x
  obtain ⟨a0, a1, b0, b1, c0, c1⟩ := hx
  simp only at a0 a1 b0 b1 c0 c1
  have HB := Lib.hid ((Below.refl w.heap.size w).alloc (Nat.le_refl _) (.cells #[.int .i8 a, .int .i8 b, .int .i8 c] 38))
  cases h1 : inB a 0 9 with
  | true =>
    have H1 := Lib.hid h1
    clear h1
    cases h2 : inB b 0 9 with
    | true =>
      have H2 := Lib.hid h2
      clear h2
      go_enter Tryd.func125, Tryd.ntmps125
      go_wp2_with fail
      refine (l00In_b _ _ _ true H1.out _).mono ?_
      rintro o w1 ⟨rfl, rfl⟩
      go_wp2_with fail
      refine (l00In_b _ _ _ true H2.out _).mono ?_
      rintro o w1 ⟨rfl, rfl⟩
      go_wp2_with fail
      refine (l00In_any _ _ _ _).mono ?_
      rintro o w1 ⟨rfl, rfl⟩
      go_wp2_with fail
      go_ret
      exact ⟨ret_bool (by simp), HB.out⟩
    | false =>
      have H2 := Lib.hid h2
      clear h2
      go_enter Tryd.func125, Tryd.ntmps125
      go_wp2_with fail
      refine (l00In_b _ _ _ true H1.out _).mono ?_
      rintro o w1 ⟨rfl, rfl⟩
      go_wp2_with fail
      refine (l00In_b _ _ _ false H2.out _).mono ?_
      rintro o w1 ⟨rfl, rfl⟩
      go_wp2_with fail
      go_ret
      exact ⟨rfl, HB.out⟩
  | false =>
    have H1 := Lib.hid h1
    clear h1
    go_enter Tryd.func125, Tryd.ntmps125
    go_wp2_with fail
    refine (l00In_b _ _ _ false H1.out _).mono ?_
    rintro o w1 ⟨rfl, rfl⟩
    go_wp2_with fail
    go_ret
    exact ⟨rfl, HB.out⟩
end Go.Proofs.YtjfimmfnhlimkaaDoor.day
