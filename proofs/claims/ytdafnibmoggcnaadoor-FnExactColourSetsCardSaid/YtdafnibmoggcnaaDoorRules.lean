/-
  Contracts of the functions on rules.
-/
import Derived.Test.YtdafnibmoggcnaaDoorOpen
import Derived.Test.YtdafnibmoggcnaaDoorJoin6
import Derived.WalkKit
import Derived.WalkSpells
import Derived.WalkLawsBesides
import Derived.Deep.QuietTactic
import Derived.BigQuiet
import Derived.Deep.MidRow
import Derived.Deep.RegionHeld3
import Derived.Lib.Hide
namespace Go.Proofs.YtdafnibmoggcnaaDoor.rules
open Go.RowKit

set_option maxHeartbeats 1000000 in
theorem l01Bit_any (x k : Int) (hx : 0 ≤ x ∧ x ≤ 255) (hk : 0 ≤ k ∧ k ≤ 63) (w : World) :
    Calls Tryd.prog 49 #[.int .u8 x, .int .i64 k] w fun e w' => e = .returned (.bool (bitZ x k.toNat)) ∧ w = w' := by
  go_enter Tryd.func49, Tryd.ntmps49
  go_wp2
  all_goals go_ret
  exact ⟨ret_bool (bit_eq_one x hx _), rfl⟩

theorem l01Bit_q (x k : Int) (hx : 0 ≤ x ∧ x ≤ 255) (hk : 0 ≤ k ∧ k ≤ 63) (w : World) :
    Calls Tryd.prog 49 #[.int .u8 x, .int .i64 k] w fun e w' => e = .returned (.bool (bitZ x k.toNat)) ∧ w' = w :=
  (l01Bit_any x k hx hk w).mono fun _ _ h => ⟨h.1, h.2.symm⟩

set_option maxHeartbeats 1000000 in
theorem allow_gen (cs : Array Value) (a b y : Int) (ha : 0 ≤ a ∧ a < 6) (hb : 0 ≤ b ∧ b ≤ 255) (hy : 0 ≤ y ∧ y ≤ 255) (hget : cs[a.toNat]? = some (.int .u8 y)) (w : World) :
    Calls Tryd.prog 69 #[.agg cs, .int .u8 a, .int .u8 b] w fun e w' => e = .returned (.bool (bitZ y b.toNat)) ∧ Below w.heap.size w w' := by
  go_enter Tryd.func69, Tryd.ntmps69
  go_wp2
  all_goals go_ret
  exact ⟨ret_bool (bit_ne_zero _ hy _), (Below.refl _ _).alloc (Nat.le_refl _) _⟩

theorem allow_any (r : Nat → Int) (hr : Six r) (a b : Int) (ha : 0 ≤ a ∧ a < 6) (hb : 0 ≤ b ∧ b ≤ 255) (w : World) :
    Calls Tryd.prog 69 #[rulesV r, .int .u8 a, .int .u8 b] w fun e w' => e = .returned (.bool (bitZ (r a.toNat) b.toNat)) ∧ Below w.heap.size w w' :=
  allow_gen (rulesCs r) a b (r a.toNat) ha hb (hr _ (by omega)) (six_get r (by omega)) w

theorem run_index_rules (r : Nat → Int) {k : Nat} (hk : k < 6) (w : World) : (Instr.index 28 (rulesV r) (.int .i64 k)).run Tryd.prog w = .ok (.int .u8 (r k)) w := by
  have i0 : (Instr.index 28 (rulesV r) (.int .i64 (0 : Nat))).run Tryd.prog w = .ok (.int .u8 (r 0)) w := by kernel_rfl
  have i1 : (Instr.index 28 (rulesV r) (.int .i64 (1 : Nat))).run Tryd.prog w = .ok (.int .u8 (r 1)) w := by kernel_rfl
  have i2 : (Instr.index 28 (rulesV r) (.int .i64 (2 : Nat))).run Tryd.prog w = .ok (.int .u8 (r 2)) w := by kernel_rfl
  have i3 : (Instr.index 28 (rulesV r) (.int .i64 (3 : Nat))).run Tryd.prog w = .ok (.int .u8 (r 3)) w := by kernel_rfl
  have i4 : (Instr.index 28 (rulesV r) (.int .i64 (4 : Nat))).run Tryd.prog w = .ok (.int .u8 (r 4)) w := by kernel_rfl
  have i5 : (Instr.index 28 (rulesV r) (.int .i64 (5 : Nat))).run Tryd.prog w = .ok (.int .u8 (r 5)) w := by kernel_rfl
  match k, hk with
  | 0, _ => exact i0
  | 1, _ => exact i1
  | 2, _ => exact i2
  | 3, _ => exact i3
  | 4, _ => exact i4
  | 5, _ => exact i5

/-- the box with the rules lies as it was made, and nothing of before is changed -/
structure Kept (r : Nat → Int) (w wr : World) : Prop where
  box : ∀ i, wr.cell? ⟨w.heap.size, i, none⟩ = (rulesCs r)[i]?
  below : Below w.heap.size w wr
  size : w.heap.size < wr.heap.size

theorem Kept.new (r : Nat → Int) (t : TypeId) (w : World) : Kept r w (w.alloc (.cells (rulesCs r) t)) :=
  ⟨fun i => cell_of_row _ _ _ _ _ _ (heap_alloc_new w _), (Below.refl _ _).alloc (Nat.le_refl _) _, by simp⟩
theorem Kept.drewN {r : Nat → Int} {w wr : World} (h : Kept r w wr) (n : Nat) : Kept r w (wr.drewN n) := ⟨h.box, ⟨h.below.os, h.below.tape, h.below.output, h.below.size, h.below.block⟩, h.size⟩
theorem Kept.next {r : Nat → Int} {w wr w' : World} (h : Kept r w wr) (hb : Below wr.heap.size wr w') : Kept r w w' :=
  ⟨fun i => (hb.cell (p := ⟨w.heap.size, i, none⟩) h.size).trans (h.box i), h.below.trans (hb.mono h.below.size), Nat.lt_of_lt_of_le h.size hb.size⟩
theorem Kept.at_ {r : Nat → Int} {w wr : World} (h : Kept r w wr) {k : Nat} (hk : k < 6) : wr.cell? ⟨w.heap.size, k, none⟩ = some (.int .u8 (r k)) := (h.box k).trans (six_get r hk)

set_option maxHeartbeats 2000000 in
theorem l01Rules_any (r : Nat → Int) (hr : Six r) (w : World) :
    Calls Tryd.prog 47 #[rulesV r] w fun e w' => e = .returned (.bool (validRB r)) ∧ Below w.heap.size w w' := by
  go_enter Tryd.func47, Tryd.ntmps47
  go_wp2
  go_loopw [3] (fun va wr => ∃ k : Nat, k ≤ 6 ∧ va = .int .i64 k ∧ (∀ a, a < k → rowB r a 6) ∧ Kept r w wr) (fun va _ => 6 - (intOf va).toNat)
  case atStart => exact ⟨0, by omega, rfl, fun a ha => absurd ha (by omega), Kept.new r _ w⟩
  case round =>
    obtain ⟨k, hk, rfl, hrow, hkept⟩ := hrel
    by_cases hlt : k < 6
    · have hx := hr k hlt
      have hget := hkept.at_ hlt
      by_cases h64 : r k < 64
      · have hd64 : decide (64 ≤ r k) = false := by simp; omega
        cases hb : bitZ (r k) k with
        | true =>
          go_wp2_with (go_at_call 49; refine (l01Bit_any _ _ hx (by omega) _).mono ?_; rintro e w1 ⟨rfl, rfl⟩)
          obtain ⟨wo, hwo⟩ : ∃ wo : World, wo = wr := ⟨_, rfl⟩
          subst hwo
          go_loopw [4] (fun vb wr => ∃ m : Nat, m ≤ 6 ∧ vb = .int .i64 m ∧ (∀ b, b < m → allowB r k b = allowB r b k) ∧ Kept r w wr) (fun vb _ => 6 - (intOf vb).toNat)
          case atStart => exact ⟨0, by omega, rfl, fun a ha => absurd ha (by omega), hkept⟩
          case round =>
            obtain ⟨m, hm, rfl, hsym, hkept2⟩ := hrel
            clear hget
            by_cases hmt : m < 6
            · have hx2 := hr m hmt
              have hget := hkept2.at_ hlt
              have hget2 := hkept2.at_ hmt
              go_wp2_with fail
              go_quiet ((go_at_call 49; exact Calls.quiet_of_same (l01Bit_q _ _ (by assumption) (by omega) _)))
              go_wp2_with fail
              · go_ret
                exact ⟨ret_bool (validRB_false fun h => by
                  have hne : (!(bitZ (r k) m == bitZ (r m) k)) = true := by assumption
                  have he : bitZ (r k) m = bitZ (r m) k := (h k hlt).2.2 m hmt
                  rw [he] at hne
                  simp at hne).symm, (hkept2.drewN nq).below⟩
              · have heq : (!(bitZ (r k) m == bitZ (r m) k)) = false := by assumption
                have he : allowB r k m = allowB r m k := by unfold allowB; simpa using heq
                clear heq
                go_roundw
                case rel => exact ⟨m + 1, by omega, by go_num, fun b hb6 => by
                  rcases Nat.lt_or_ge b m with h1 | h1
                  · exact hsym b h1
                  · obtain rfl : b = m := by omega
                    exact he, hkept2.drewN nq⟩
                case measure => simp [intOf]; omega
            · go_wp2_with fail
              go_roundw
              case rel => exact ⟨k + 1, by omega, by go_num, fun a ha => by
                rcases Nat.lt_or_ge a k with hak | hak
                · exact hrow a hak
                · obtain rfl : a = k := by omega
                  exact ⟨h64, hb, fun b hb6 => hsym b (by omega)⟩, hkept2⟩
              case measure => simp [intOf]; omega
        | false =>
          go_wp2_with (go_at_call 49; refine (l01Bit_any _ _ hx (by omega) _).mono ?_; rintro e w1 ⟨rfl, rfl⟩)
          go_ret
          exact ⟨ret_bool (validRB_false fun h => by have := (h k hlt).2.1; rw [allowB, hb] at this; cases this).symm, hkept.below⟩
      · go_wp2_with (go_at_call 49; refine (l01Bit_any _ _ hx (by omega) _).mono ?_; rintro e w1 ⟨rfl, rfl⟩)
        go_ret
        exact ⟨ret_bool (validRB_false fun h => by have := (h k hlt).1; omega).symm, hkept.below⟩
    · go_wp2_with fail
      go_ret
      exact ⟨ret_bool (validRB_true fun a ha => hrow a (by omega)).symm, hkept.below⟩

/-- what the two calls in one statement leave standing -/
abbrev Cells6 (r : Nat → Int) (b : Nat) (x : World) : Prop :=
  x.cell? ⟨b, 0, none⟩ = some (.int .u8 (r 0)) ∧ x.cell? ⟨b, 1, none⟩ = some (.int .u8 (r 1)) ∧ x.cell? ⟨b, 2, none⟩ = some (.int .u8 (r 2)) ∧
  x.cell? ⟨b, 3, none⟩ = some (.int .u8 (r 3)) ∧ x.cell? ⟨b, 4, none⟩ = some (.int .u8 (r 4)) ∧ x.cell? ⟨b, 5, none⟩ = some (.int .u8 (r 5))
theorem Kept.six {r : Nat → Int} {w x : World} (h : Kept r w x) :
    x.cell? ⟨w.heap.size, 0, none⟩ = some (.int .u8 (r 0)) ∧ x.cell? ⟨w.heap.size, 1, none⟩ = some (.int .u8 (r 1)) ∧ x.cell? ⟨w.heap.size, 2, none⟩ = some (.int .u8 (r 2)) ∧
    x.cell? ⟨w.heap.size, 3, none⟩ = some (.int .u8 (r 3)) ∧ x.cell? ⟨w.heap.size, 4, none⟩ = some (.int .u8 (r 4)) ∧ x.cell? ⟨w.heap.size, 5, none⟩ = some (.int .u8 (r 5)) ∧ Kept r w x :=
  ⟨h.at_ (by omega), h.at_ (by omega), h.at_ (by omega), h.at_ (by omega), h.at_ (by omega), h.at_ (by omega), h⟩
theorem six_kept {r : Nat → Int} {w x : World} (h : x.cell? ⟨w.heap.size, 0, none⟩ = some (.int .u8 (r 0)) ∧ x.cell? ⟨w.heap.size, 1, none⟩ = some (.int .u8 (r 1)) ∧ x.cell? ⟨w.heap.size, 2, none⟩ = some (.int .u8 (r 2)) ∧
    x.cell? ⟨w.heap.size, 3, none⟩ = some (.int .u8 (r 3)) ∧ x.cell? ⟨w.heap.size, 4, none⟩ = some (.int .u8 (r 4)) ∧ x.cell? ⟨w.heap.size, 5, none⟩ = some (.int .u8 (r 5)) ∧ Kept r w x) : Kept r w x := h.2.2.2.2.2.2
theorem Kept.drew {r : Nat → Int} {w wr : World} (h : Kept r w wr) : Kept r w wr.drew := ⟨h.box, h.below.drew, h.size⟩

set_option maxHeartbeats 2000000 in
theorem ValidRules_any (r : Nat → Int) (hr : Six r) (w : World) :
    Calls Tryd.prog 62 #[rulesV r] w fun e w' => e = .returned (.bool (validRB r)) ∧ Below w.heap.size w w' := by
  go_enter Tryd.func62, Tryd.ntmps62
  go_wp2_with fail
  go_loopw [7] (fun va wr => ∃ k : Nat, k ≤ 6 ∧ va = .int .i64 k ∧ (∀ a, a < k → rowB r a a) ∧ Kept r w wr) (fun va _ => 6 - (intOf va).toNat)
  case atStart => exact ⟨0, by omega, rfl, fun a ha => absurd ha (by omega), Kept.new r _ w⟩
  case round =>
    obtain ⟨k, hk, rfl, hrow, hkept⟩ := hrel
    by_cases hlt : k < 6
    · have hidx := fun wx => run_index_rules r hlt wx
      have hx := hr k hlt
      obtain ⟨g0, g1, g2, g3, g4, g5, _⟩ := hkept.six
      by_cases h64 : r k < 64
      · have hd64 : (r k / 64 != 0) = false := by simp; omega
        go_wp2_with fail
        refine (allow_any r hr _ _ (by omega) (by omega) _).mono ?_
        rintro e w1 ⟨rfl, hb1⟩
        have hkept1 := hkept.next hb1
        clear g0 g1 g2 g3 g4 g5 hb1
        cases hb : bitZ (r k) k with
        | true =>
          have hb' : bitZ (r (k : Int).toNat) (k : Int).toNat = true := by simpa using hb
          rw [hb']
          clear hb'
          go_wp2_with fail
          obtain ⟨wo, hwo⟩ : ∃ wo : World, wo = w1 := ⟨_, rfl⟩
          subst hwo
          go_loopw [24, 5] (fun vb _ wr => ∃ m : Nat, m ≤ k ∧ vb = .int .i64 m ∧ (∀ b, b < m → allowB r k b = allowB r b k) ∧ Kept r w wr) (fun vb _ _ => k - (intOf vb).toNat)
          case atStart => exact ⟨0, by omega, rfl, fun a ha => absurd ha (by omega), hkept1⟩
          case round =>
            obtain ⟨m, hm, rfl, hsym, hkept2⟩ := hrel
            by_cases hmt : m < k
            · have hx2 := hr m (by omega)
              go_wp2_with fail
              have hwk : IntKind.u8.wrap (k : Int) = k := by rw [IntKind.wrap_u8]; omega
              have hwm : IntKind.u8.wrap (m : Int) = m := by rw [IntKind.wrap_u8]; omega
              go_region_held3 (fun x => x.cell? ⟨w.heap.size, 0, none⟩ = some (.int .u8 (r 0)) ∧ x.cell? ⟨w.heap.size, 1, none⟩ = some (.int .u8 (r 1)) ∧ x.cell? ⟨w.heap.size, 2, none⟩ = some (.int .u8 (r 2)) ∧ x.cell? ⟨w.heap.size, 3, none⟩ = some (.int .u8 (r 3)) ∧ x.cell? ⟨w.heap.size, 4, none⟩ = some (.int .u8 (r 4)) ∧ x.cell? ⟨w.heap.size, 5, none⟩ = some (.int .u8 (r 5)) ∧ Kept r w x)
                (first | exact hkept2.drew.six | (refine Kept.six (Kept.next ?_ hb2); exact six_kept (by assumption)))
                (first | (go_at_call 69; refine (allow_any r hr _ _ ?_ ?_ _).mono ?_; (omega); (omega); rintro e w2 ⟨rfl, hb2⟩))
              clear hwk hwm
              go_wp2_with fail
              · go_ret
                exact ⟨ret_bool (validRB_false fun h => by
                  have hne : (!(bitZ (r k) m == bitZ (r m) k)) = true := by assumption
                  have he : bitZ (r k) m = bitZ (r m) k := (h k hlt).2.2 m (by omega)
                  rw [he] at hne
                  simp at hne).symm, (six_kept (by assumption)).below⟩
              · have heq : (!(bitZ (r k) m == bitZ (r m) k)) = false := by assumption
                have he : allowB r k m = allowB r m k := by unfold allowB; simpa using heq
                clear heq
                go_roundw
                case rel => exact ⟨m + 1, by omega, by go_num, fun b hb6 => by
                  rcases Nat.lt_or_ge b m with h1 | h1
                  · exact hsym b h1
                  · obtain rfl : b = m := by omega
                    exact he, six_kept (by assumption)⟩
                case measure => simp [intOf]; omega
            · go_wp2_with fail
              go_roundw
              case rel => exact ⟨k + 1, by omega, by go_num, fun a ha => by
                rcases Nat.lt_or_ge a k with hak | hak
                · exact hrow a hak
                · obtain rfl : a = k := by omega
                  exact ⟨h64, hb, fun b hb6 => hsym b (by omega)⟩, hkept2⟩
              case measure => simp [intOf]; omega
        | false =>
          have hb' : bitZ (r (k : Int).toNat) (k : Int).toNat = false := by simpa using hb
          rw [hb']
          clear hb'
          go_wp2_with fail
          go_ret
          exact ⟨ret_bool (validRB_false fun h => by have := (h k hlt).2.1; rw [allowB, hb] at this; cases this).symm, hkept1.below⟩
      · have hd64 : (r k / 64 != 0) = true := by simp; omega
        go_wp2_with fail
        go_ret
        exact ⟨ret_bool (validRB_false fun h => by have := (h k hlt).1; omega).symm, hkept.below⟩
    · go_wp2_with fail
      go_ret
      exact ⟨ret_bool (validRB_true (validR_of fun a ha => hrow a (by omega))).symm, hkept.below⟩

set_option maxHeartbeats 2000000 in
theorem toRules_any (r : Nat → Int) (w : World) :
    Calls Tryd.prog 10 #[rulesV r] w fun e w' => e = .returned (rulesV r) ∧ Below w.heap.size w w' := by
  go_enter Tryd.func10, Tryd.ntmps10
  go_wp2_with fail
  refine wp_loop_rounds 7 ?_
  rw [rounds_succ]; go_wp2_with fail
  rw [rounds_succ]; go_wp2_with fail
  rw [rounds_succ]; go_wp2_with fail
  rw [rounds_succ]; go_wp2_with fail
  rw [rounds_succ]; go_wp2_with fail
  rw [rounds_succ]; go_wp2_with fail
  rw [rounds_succ]; go_wp2_with fail
  refine bodyPost_ret (v := rulesV r) (by simp [results, Tryd.results10, go_sem]) rfl ⟨rfl, ?_⟩
  repeat (first | exact Below.refl _ _ | assumption | apply Below.drew | (refine Below.alloc ?_ (by first | (simp; done) | (simp; omega) | omega) _) | (refine Below.setCell ?_ (by first | (simp; done) | (simp; omega) | omega) _))

end Go.Proofs.YtdafnibmoggcnaaDoor.rules
