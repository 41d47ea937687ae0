/-
  Contracts of the functions that say whether two garments may meet.
-/
import Derived.Test.YtekigapeekjigaaDoorCheck
namespace Go.Proofs.YtekigapeekjigaaDoor.meet
open Go.RowKit errs garS

/-- may two garments meet -/
def meetB (r : Nat → Int) (a b : Gar) : Bool := bitZ (r a.c.toNat) b.c.toNat && (decide (a.n ≤ b.m) && decide (b.n ≤ a.m))

theorem valid_parts {x : Gar} (h : x.valid = true) : x.c < 6 ∧ 0 ≤ x.n ∧ x.n ≤ x.m ∧ x.m ≤ 95 ∧ 1 ≤ x.g ∧ x.g ≤ 2000 := by
  simpa [Gar.valid, and_assoc] using h

theorem l01Bit_v (x k : Int) (hx : 0 ≤ x ∧ x ≤ 255) (hk : 0 ≤ k ∧ k ≤ 63) (v : Bool) (hv : bitZ x k.toNat = v) (w : World) :
    Calls Tryd.prog 57 #[.int .u8 x, .int .i64 k] w fun e w' => e = .returned (.bool v) ∧ w' = w := by
  subst hv
  exact rules.l01Bit_q x k hx hk w

/-- three boxes lie as they were made -/
structure Boxes (r : Nat → Int) (a b : Gar) (w x : World) : Prop where
  rr : ∀ i, x.cell? ⟨w.heap.size, i, none⟩ = (rulesCs r)[i]?
  a0 : x.cell? ⟨w.heap.size + 1, 0, none⟩ = some (.int .u8 a.c)
  a1 : x.cell? ⟨w.heap.size + 1, 1, none⟩ = some (.int .i8 a.n)
  a2 : x.cell? ⟨w.heap.size + 1, 2, none⟩ = some (.int .i8 a.m)
  a3 : x.cell? ⟨w.heap.size + 1, 3, none⟩ = some (.int .i16 a.g)
  b0 : x.cell? ⟨w.heap.size + 1 + 1, 0, none⟩ = some (.int .u8 b.c)
  b1 : x.cell? ⟨w.heap.size + 1 + 1, 1, none⟩ = some (.int .i8 b.n)
  b2 : x.cell? ⟨w.heap.size + 1 + 1, 2, none⟩ = some (.int .i8 b.m)
  b3 : x.cell? ⟨w.heap.size + 1 + 1, 3, none⟩ = some (.int .i16 b.g)
  below : Below w.heap.size w x
  size : w.heap.size + 3 ≤ x.heap.size

theorem Boxes.new (r : Nat → Int) (a b : Gar) (t u v : TypeId) (w : World) :
    Boxes r a b w (((w.alloc (.cells (rulesCs r) t)).alloc (.cells #[.int .u8 a.c, .int .i8 a.n, .int .i8 a.m, .int .i16 a.g] u)).alloc (.cells #[.int .u8 b.c, .int .i8 b.n, .int .i8 b.m, .int .i16 b.g] v)) := by
  have e1 : (w.alloc (.cells (rulesCs r) t)).heap.size = w.heap.size + 1 := by simp
  have e2 : ((w.alloc (.cells (rulesCs r) t)).alloc (.cells #[.int .u8 a.c, .int .i8 a.n, .int .i8 a.m, .int .i16 a.g] u)).heap.size = w.heap.size + 1 + 1 := by simp
  have h1 : ∀ i, (((w.alloc (.cells (rulesCs r) t)).alloc (.cells #[.int .u8 a.c, .int .i8 a.n, .int .i8 a.m, .int .i16 a.g] u)).alloc (.cells #[.int .u8 b.c, .int .i8 b.n, .int .i8 b.m, .int .i16 b.g] v)).cell? ⟨w.heap.size + 1, i, none⟩ = (#[Value.int .u8 a.c, .int .i8 a.n, .int .i8 a.m, .int .i16 a.g] : Array Value)[i]? := fun i => by
    have := heap_alloc_new (w.alloc (.cells (rulesCs r) t)) (.cells #[.int .u8 a.c, .int .i8 a.n, .int .i8 a.m, .int .i16 a.g] u)
    rw [e1] at this
    exact cell_of_row _ _ _ _ _ _ ((heap_alloc_old _ _ (by rw [e2]; omega)).trans this)
  have h2 : ∀ i, (((w.alloc (.cells (rulesCs r) t)).alloc (.cells #[.int .u8 a.c, .int .i8 a.n, .int .i8 a.m, .int .i16 a.g] u)).alloc (.cells #[.int .u8 b.c, .int .i8 b.n, .int .i8 b.m, .int .i16 b.g] v)).cell? ⟨w.heap.size + 1 + 1, i, none⟩ = (#[Value.int .u8 b.c, .int .i8 b.n, .int .i8 b.m, .int .i16 b.g] : Array Value)[i]? := fun i => by
    have := heap_alloc_new ((w.alloc (.cells (rulesCs r) t)).alloc (.cells #[.int .u8 a.c, .int .i8 a.n, .int .i8 a.m, .int .i16 a.g] u)) (.cells #[.int .u8 b.c, .int .i8 b.n, .int .i8 b.m, .int .i16 b.g] v)
    rw [e2] at this
    exact cell_of_row _ _ _ _ _ _ this
  refine ⟨fun i => ?_, h1 0, h1 1, h1 2, h1 3, h2 0, h2 1, h2 2, h2 3, ?_, by simp⟩
  · exact cell_of_row _ _ _ _ _ _ ((heap_alloc_old _ _ (by rw [e2]; omega)).trans ((heap_alloc_old _ _ (by rw [e1]; omega)).trans (heap_alloc_new w _)))
  · exact (((Below.refl _ _).alloc (Nat.le_refl _) _).alloc (by rw [e1]; omega) _).alloc (by rw [e2]; omega) _

theorem Boxes.next {r : Nat → Int} {a b : Gar} {w x y : World} (h : Boxes r a b w x) (hb : Below x.heap.size x y) : Boxes r a b w y := by
  have hs := h.size
  have c : ∀ (p : Addr), p.block < w.heap.size + 3 → y.cell? p = x.cell? p := fun p hp => hb.cell (by omega)
  exact ⟨fun i => (c ⟨w.heap.size, i, none⟩ (by show w.heap.size < _; omega)).trans (h.rr i),
    (c ⟨w.heap.size + 1, 0, none⟩ (by show w.heap.size + 1 < _; omega)).trans h.a0, (c ⟨w.heap.size + 1, 1, none⟩ (by show w.heap.size + 1 < _; omega)).trans h.a1,
    (c ⟨w.heap.size + 1, 2, none⟩ (by show w.heap.size + 1 < _; omega)).trans h.a2, (c ⟨w.heap.size + 1, 3, none⟩ (by show w.heap.size + 1 < _; omega)).trans h.a3,
    (c ⟨w.heap.size + 1 + 1, 0, none⟩ (by show w.heap.size + 1 + 1 < _; omega)).trans h.b0, (c ⟨w.heap.size + 1 + 1, 1, none⟩ (by show w.heap.size + 1 + 1 < _; omega)).trans h.b1,
    (c ⟨w.heap.size + 1 + 1, 2, none⟩ (by show w.heap.size + 1 + 1 < _; omega)).trans h.b2, (c ⟨w.heap.size + 1 + 1, 3, none⟩ (by show w.heap.size + 1 + 1 < _; omega)).trans h.b3,
    h.below.trans (hb.mono h.below.size), Nat.le_trans hs hb.size⟩
theorem Boxes.at_ {r : Nat → Int} {a b : Gar} {w x : World} (h : Boxes r a b w x) {k : Nat} (hk : k < 6) : x.cell? ⟨w.heap.size, k, none⟩ = some (.int .u8 (r k)) := (h.rr k).trans (six_get r hk)

set_option maxHeartbeats 4000000 in
theorem l01Meet_any (r : Nat → Int) (hr : Six r) (a b : Gar) (ha : a.Fits) (hb : b.Fits) (ca : a.c < 6) (cb : b.c < 6) (w : World) :
    Calls Tryd.prog 116 #[rulesV r, a.v, b.v] w fun o w' => o = .returned (.bool (meetB r a b)) ∧ Below w.heap.size w w' := by
  have hx := hr a.c.toNat (by have := ha.c0; omega)
  have B0 := Boxes.new r a b 26 96 96 w
  have hget := B0.at_ (k := a.c.toNat) (by have := ha.c0; omega)
  obtain ⟨_, q0, q1, q2, q3, p0, p1, p2, p3, hbel, _⟩ := B0
  obtain ⟨ac0, ac1, an0, an1, am0, am1, ag0, ag1⟩ := ha
  obtain ⟨bc0, bc1, bn0, bn1, bm0, bm1, bg0, bg1⟩ := hb
  have HB := Lib.hid hbel
  clear hbel
  have hwb : IntKind.i64.wrap b.c = b.c := IntWalk.i64_in _ (by omega)
  cases hv : bitZ (r a.c.toNat) b.c.toNat with
  | false =>
    have HV := Lib.hid hv
    clear hv
    go_enter Tryd.func116, Tryd.ntmps116
    go_wp2_with fail
    go_quiet ((go_at_call 57; exact Calls.quiet_of_same (l01Bit_v _ _ hx (by omega) false HV.out _)))
    go_wp2_with fail
    go_ret
    exact ⟨ret_bool (by simp [meetB, HV.out]), HB.out.trans (below_drewN _ _ _)⟩
  | true =>
    have HV := Lib.hid hv
    clear hv
    by_cases h1 : a.n ≤ b.m
    · have d1 : decide (a.n ≤ b.m) = true := by simp [h1]
      by_cases h2 : b.n ≤ a.m
      · have d2 : decide (b.n ≤ a.m) = true := by simp [h2]
        go_enter Tryd.func116, Tryd.ntmps116
        go_wp2_with fail
        go_quiet ((go_at_call 57; exact Calls.quiet_of_same (l01Bit_v _ _ hx (by omega) true HV.out _)))
        go_wp2_with fail
        go_ret
        exact ⟨ret_bool (by simp only [meetB, HV.out]; simp; omega), HB.out.trans (below_drewN _ _ _)⟩
      · have d2 : decide (b.n ≤ a.m) = false := by simp; omega
        go_enter Tryd.func116, Tryd.ntmps116
        go_wp2_with fail
        go_quiet ((go_at_call 57; exact Calls.quiet_of_same (l01Bit_v _ _ hx (by omega) true HV.out _)))
        go_wp2_with fail
        go_ret
        exact ⟨ret_bool (by simp only [meetB, HV.out]; simp; omega), HB.out.trans (below_drewN _ _ _)⟩
    · have d1 : decide (a.n ≤ b.m) = false := by simp; omega
      go_enter Tryd.func116, Tryd.ntmps116
      go_wp2_with fail
      go_quiet ((go_at_call 57; exact Calls.quiet_of_same (l01Bit_v _ _ hx (by omega) true HV.out _)))
      go_wp2_with fail
      go_ret
      exact ⟨ret_bool (by simp only [meetB, HV.out]; simp; omega), HB.out.trans (below_drewN _ _ _)⟩

set_option maxHeartbeats 4000000 in
theorem meet_any (r : Nat → Int) (hr : Six r) (a b : Gar) (ha : a.Fits) (hb : b.Fits) (va : a.valid = true) (vb : b.valid = true) (w : World) :
    Calls Tryd.prog 92 #[rulesV r, a.v, b.v] w fun o w' => o = .returned (.bool (meetB r a b)) ∧ Below w.heap.size w w' := by
  obtain ⟨ca, a1, a2, a3, _, _⟩ := valid_parts va
  obtain ⟨cb, b1, b2, b3, _, _⟩ := valid_parts vb
  have B0 := Lib.hid (Boxes.new r a b 26 96 96 w)
  obtain ⟨ac0, ac1, an0, an1, am0, am1, ag0, ag1⟩ := ha
  obtain ⟨bc0, bc1, bn0, bn1, bm0, bm1, bg0, bg1⟩ := hb
  clear va vb
  cases hv : bitZ (r a.c.toNat) b.c.toNat with
  | false =>
    have HV := Lib.hid hv
    clear hv
    go_enter Tryd.func92, Tryd.ntmps92
    go_wp2_with fail
    refine (rules.allow_any r hr _ _ (by omega) (by omega) _).mono ?_
    rintro o w1 ⟨rfl, hb1⟩
    have B1 := Lib.hid (B0.out.next hb1)
    rw [HV.out]
    clear hb1
    go_wp2_with fail
    go_ret
    exact ⟨ret_bool (by simp [meetB, HV.out]), B1.out.below⟩
  | true =>
    have HV := Lib.hid hv
    clear hv
    go_enter Tryd.func92, Tryd.ntmps92
    go_wp2_with fail
    refine (rules.allow_any r hr _ _ (by omega) (by omega) _).mono ?_
    rintro o w1 ⟨rfl, hb1⟩
    have B1 := B0.out.next hb1
    rw [HV.out]
    clear hb1
    obtain ⟨_, q0, q1, q2, q3, p0, p1, p2, p3, hbel, _⟩ := B1
    go_wp2_with fail
    all_goals go_ret
    all_goals exact ⟨ret_bool (by simp only [meetB, HV.out]; simp; omega), hbel⟩
end Go.Proofs.YtekigapeekjigaaDoor.meet
