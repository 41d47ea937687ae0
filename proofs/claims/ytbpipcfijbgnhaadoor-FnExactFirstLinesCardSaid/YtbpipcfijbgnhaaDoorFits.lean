/-
  Contracts of the program's function that says whether cloths fit on a line.
-/
import Derived.Test.YtbpipcfijbgnhaaDoorPegs
import Derived.IntWalk
namespace Go.Proofs.YtbpipcfijbgnhaaDoor.hang
open Go.RowKit sl

/-- a line's box lies as it was made -/
structure FitS (l : Lin) (w u : World) : Prop where
  c0 : u.cell? ⟨w.heap.size, 0, none⟩ = some (.int .i16 l.long)
  c1 : u.cell? ⟨w.heap.size, 1, none⟩ = some (.int .i16 l.most)
  b : Below w.heap.size w u
  z : w.heap.size < u.heap.size
theorem FitS.new (l : Lin) (w : World) (t : TypeId) : FitS l w (w.alloc (.cells #[.int .i16 l.long, .int .i16 l.most] t)) :=
  ⟨cell_of_row _ _ _ _ _ _ (heap_alloc_new w _), cell_of_row _ _ _ _ _ _ (heap_alloc_new w _), (Below.refl _ _).alloc (Nat.le_refl _) _, by simp⟩
theorem FitS.next {l : Lin} {w u v : World} (h : FitS l w u) (hb : Below u.heap.size u v) : FitS l w v :=
  ⟨(hb.cell (p := ⟨w.heap.size, 0, none⟩) h.z).trans h.c0, (hb.cell (p := ⟨w.heap.size, 1, none⟩) h.z).trans h.c1, h.b.trans (hb.mono (Nat.le_of_lt h.z)), Nat.lt_of_lt_of_le h.z hb.size⟩
theorem FitS.drewN {l : Lin} {w u : World} (h : FitS l w u) (m : Nat) : FitS l w (u.drewN m) := h.next (below_drewN _ _ _)
abbrev FitP (l : Lin) (w u : World) : Prop := u.cell? ⟨w.heap.size, 0, none⟩ = some (.int .i16 l.long) ∧ u.cell? ⟨w.heap.size, 1, none⟩ = some (.int .i16 l.most) ∧ Below w.heap.size w u ∧ w.heap.size < u.heap.size
theorem FitP.s {l : Lin} {w u : World} (h : FitP l w u) : FitS l w u := ⟨h.1, h.2.1, h.2.2.1, h.2.2.2⟩
theorem FitS.p {l : Lin} {w u : World} (h : FitS l w u) : FitP l w u := ⟨h.c0, h.c1, h.b, h.z⟩

theorem widthFor_in (A : Option Addr) (n c : Nat) (xs : List Clo) (en : n = xs.length) (hn : n ≤ 1048576) (ho : Ok xs) {l : Lin} {w u : World} (hg : Sl Clo.cells 2 w w.heap.size A xs) (hu : FitP l w u) (z : Int) (hz : (hung xs).fin = z) :
    Calls Tryd.prog 59 #[.slice A n c] u fun e w' => e = .returned (.int .i64 z) ∧ Below u.heap.size u w' := by
  subst hz
  exact widthFor_any A n c xs en hn ho u ((hg.below hu.s.b).more hu.s.b.size)
theorem heavyOf_in (A : Option Addr) (n c : Nat) (xs : List Clo) (en : n = xs.length) (hn : n ≤ 1048576) (ho : Ok xs) {l : Lin} {w u : World} (hg : Sl Clo.cells 2 w w.heap.size A xs) (hu : FitP l w u) (z : Int) (hz : heavyOf xs = z) :
    Calls Tryd.prog 85 #[.slice A n c] u fun e w' => e = .returned (.int .i64 z) ∧ Below u.heap.size u w' := by
  subst hz
  exact heavyOf_any A n c xs en hn ho.f u ((hg.below hu.s.b).more hu.s.b.size)

set_option maxHeartbeats 4000000 in
theorem fits_any (l : Lin) (hl : l.Fits) (A : Option Addr) (n c : Nat) (xs : List Clo) (en : n = xs.length) (hn : n ≤ 1048576) (ho : Ok xs) (w : World) (hg : Sl Clo.cells 2 w w.heap.size A xs) :
    Calls Tryd.prog 64 #[l.v, .slice A n c] w fun e w' => e = .returned (.bool (fitsB l xs)) ∧ Below w.heap.size w w' := by
  have En := Lib.hid en
  obtain ⟨z, hz⟩ : ∃ z, (hung xs).fin = z := ⟨_, rfl⟩
  obtain ⟨y, hy⟩ : ∃ z, heavyOf xs = z := ⟨_, rfl⟩
  have HZ := Lib.hid hz
  have HY := Lib.hid hy
  obtain ⟨l0, l1, l2, l3⟩ := hl
  have h0 := Lib.hid (FitS.new l w 47).p
  by_cases h1 : z ≤ l.long
  · have d1 : decide (z ≤ l.long) = true := by simpa using h1
    have e : fitsB l xs = decide (y ≤ l.most) := by simp [fitsB, hz, hy, h1]
    rw [e]
    clear en hz hy e h1
    have wl : IntKind.i64.wrap l.long = l.long := IntWalk.i64_in _ (by omega)
    have wm : IntKind.i64.wrap l.most = l.most := IntWalk.i64_in _ (by omega)
    go_enter Tryd.func64, Tryd.ntmps64
    go_wp2_with fail
    go_region_held3 (fun u => FitP l w u)
      (first | assumption | exact h0.out | exact (h0.out.s.drewN _).p | exact ((by assumption : FitP l w _).s.next hb2).p)
      (first
        | (go_at_call 59; refine (widthFor_in A n c xs En.out hn ho hg (by assumption) z HZ.out).mono ?_; rintro e w2 ⟨rfl, hb2⟩)
        | (go_at_call 85; refine (heavyOf_in A n c xs En.out hn ho hg (by assumption) y HY.out).mono ?_; rintro e w2 ⟨rfl, hb2⟩)
        | fail)
    all_goals
      rename_i hS
      have HS := Lib.hid hS.s.b
      clear hS
      go_wp2_with fail
      go_ret
      exact ⟨rfl, HS.out⟩
  · have d1 : decide (z ≤ l.long) = false := by simpa using h1
    have e : fitsB l xs = false := by simp [fitsB, hz, h1]
    rw [e]
    clear en hz hy e h1
    have wl : IntKind.i64.wrap l.long = l.long := IntWalk.i64_in _ (by omega)
    have wm : IntKind.i64.wrap l.most = l.most := IntWalk.i64_in _ (by omega)
    go_enter Tryd.func64, Tryd.ntmps64
    go_wp2_with fail
    have q := Lib.hid (h0.out.s.drewN 1)
    have q0 := q.out.c0
    have q1 := q.out.c1
    first
    | go_region_with ((go_at_call 59; refine (widthFor_in A n c xs En.out hn ho hg q.out.p z HZ.out).mono ?_; rintro e w2 ⟨rfl, hb2⟩; have y0 := (q.out.next hb2).c0; have y1 := (q.out.next hb2).c1; have HB2 := Lib.hid (q.out.next hb2).b; clear hb2))
    | fail
    all_goals
      go_wp2_with fail
      go_ret
      exact ⟨rfl, HB2.out⟩
end Go.Proofs.YtbpipcfijbgnhaaDoor.hang
