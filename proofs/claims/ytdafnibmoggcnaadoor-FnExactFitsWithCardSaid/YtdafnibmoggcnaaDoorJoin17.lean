/-
  Several texts of this proof, joined.
-/
import Derived.Test.YtdafnibmoggcnaaDoorOpen
import Derived.Test.YtdafnibmoggcnaaDoorJoin6
import Derived.WalkKit
import Derived.WalkSpells
import Derived.WalkLawsBesides
import Derived.Deep.QuietTactic
import Derived.BigQuiet
import Derived.Deep.MidRow
import Derived.Deep.RegionHeld3
import Derived.Lib.Hide
import Derived.Test.YtdafnibmoggcnaaDoorJoin13
import Derived.Test.YtdafnibmoggcnaaDoorOpenWords
import Derived.ProofKit
import Derived.OpenShut
import Derived.Lib.SmallJoins
import Derived.Deep.Slices
import Derived.Deep.Fields
/-
  Contracts of the functions on rules.
-/
namespace Go.Proofs.YtdafnibmoggcnaaDoor.rules
open Go.RowKit

set_option maxHeartbeats 1000000 in
theorem l01Bit_any (x k : Int) (hx : 0 ≤ x ∧ x ≤ 255) (hk : 0 ≤ k ∧ k ≤ 63) (w : World) :
    Calls Tryd.prog 49 #[.int .u8 x, .int .i64 k] w fun e w' => e = .returned (.bool (bitZ x k.toNat)) ∧ w = w' := by
  go_enter Tryd.func49, Tryd.ntmps49
  go_wp2
  all_goals go_ret
  exact ⟨ret_bool (bit_eq_one x hx _), rfl⟩

theorem l01Bit_q (x k : Int) (hx : 0 ≤ x ∧ x ≤ 255) (hk : 0 ≤ k ∧ k ≤ 63) (w : World) :
    Calls Tryd.prog 49 #[.int .u8 x, .int .i64 k] w fun e w' => e = .returned (.bool (bitZ x k.toNat)) ∧ w' = w :=
  (l01Bit_any x k hx hk w).mono fun _ _ h => ⟨h.1, h.2.symm⟩

set_option maxHeartbeats 1000000 in
theorem allow_gen (cs : Array Value) (a b y : Int) (ha : 0 ≤ a ∧ a < 6) (hb : 0 ≤ b ∧ b ≤ 255) (hy : 0 ≤ y ∧ y ≤ 255) (hget : cs[a.toNat]? = some (.int .u8 y)) (w : World) :
    Calls Tryd.prog 69 #[.agg cs, .int .u8 a, .int .u8 b] w fun e w' => e = .returned (.bool (bitZ y b.toNat)) ∧ Below w.heap.size w w' := by
  go_enter Tryd.func69, Tryd.ntmps69
  go_wp2
  all_goals go_ret
  exact ⟨ret_bool (bit_ne_zero _ hy _), (Below.refl _ _).alloc (Nat.le_refl _) _⟩

theorem allow_any (r : Nat → Int) (hr : Six r) (a b : Int) (ha : 0 ≤ a ∧ a < 6) (hb : 0 ≤ b ∧ b ≤ 255) (w : World) :
    Calls Tryd.prog 69 #[rulesV r, .int .u8 a, .int .u8 b] w fun e w' => e = .returned (.bool (bitZ (r a.toNat) b.toNat)) ∧ Below w.heap.size w w' :=
  allow_gen (rulesCs r) a b (r a.toNat) ha hb (hr _ (by omega)) (six_get r (by omega)) w

theorem run_index_rules (r : Nat → Int) {k : Nat} (hk : k < 6) (w : World) : (Instr.index 28 (rulesV r) (.int .i64 k)).run Tryd.prog w = .ok (.int .u8 (r k)) w := by
  have i0 : (Instr.index 28 (rulesV r) (.int .i64 (0 : Nat))).run Tryd.prog w = .ok (.int .u8 (r 0)) w := by kernel_rfl
  have i1 : (Instr.index 28 (rulesV r) (.int .i64 (1 : Nat))).run Tryd.prog w = .ok (.int .u8 (r 1)) w := by kernel_rfl
  have i2 : (Instr.index 28 (rulesV r) (.int .i64 (2 : Nat))).run Tryd.prog w = .ok (.int .u8 (r 2)) w := by kernel_rfl
  have i3 : (Instr.index 28 (rulesV r) (.int .i64 (3 : Nat))).run Tryd.prog w = .ok (.int .u8 (r 3)) w := by kernel_rfl
  have i4 : (Instr.index 28 (rulesV r) (.int .i64 (4 : Nat))).run Tryd.prog w = .ok (.int .u8 (r 4)) w := by kernel_rfl
  have i5 : (Instr.index 28 (rulesV r) (.int .i64 (5 : Nat))).run Tryd.prog w = .ok (.int .u8 (r 5)) w := by kernel_rfl
  match k, hk with
  | 0, _ => exact i0
  | 1, _ => exact i1
  | 2, _ => exact i2
  | 3, _ => exact i3
  | 4, _ => exact i4
  | 5, _ => exact i5

/-- the box with the rules lies as it was made, and nothing of before is changed -/
structure Kept (r : Nat → Int) (w wr : World) : Prop where
  box : ∀ i, wr.cell? ⟨w.heap.size, i, none⟩ = (rulesCs r)[i]?
  below : Below w.heap.size w wr
  size : w.heap.size < wr.heap.size

theorem Kept.new (r : Nat → Int) (t : TypeId) (w : World) : Kept r w (w.alloc (.cells (rulesCs r) t)) :=
  ⟨fun i => cell_of_row _ _ _ _ _ _ (heap_alloc_new w _), (Below.refl _ _).alloc (Nat.le_refl _) _, by simp⟩
theorem Kept.drewN {r : Nat → Int} {w wr : World} (h : Kept r w wr) (n : Nat) : Kept r w (wr.drewN n) := ⟨h.box, ⟨h.below.os, h.below.tape, h.below.output, h.below.size, h.below.block⟩, h.size⟩
theorem Kept.next {r : Nat → Int} {w wr w' : World} (h : Kept r w wr) (hb : Below wr.heap.size wr w') : Kept r w w' :=
  ⟨fun i => (hb.cell (p := ⟨w.heap.size, i, none⟩) h.size).trans (h.box i), h.below.trans (hb.mono h.below.size), Nat.lt_of_lt_of_le h.size hb.size⟩
theorem Kept.at_ {r : Nat → Int} {w wr : World} (h : Kept r w wr) {k : Nat} (hk : k < 6) : wr.cell? ⟨w.heap.size, k, none⟩ = some (.int .u8 (r k)) := (h.box k).trans (six_get r hk)

set_option maxHeartbeats 2000000 in
theorem l01Rules_any (r : Nat → Int) (hr : Six r) (w : World) :
    Calls Tryd.prog 47 #[rulesV r] w fun e w' => e = .returned (.bool (validRB r)) ∧ Below w.heap.size w w' := by
  go_enter Tryd.func47, Tryd.ntmps47
  go_wp2
  go_loopw [3] (fun va wr => ∃ k : Nat, k ≤ 6 ∧ va = .int .i64 k ∧ (∀ a, a < k → rowB r a 6) ∧ Kept r w wr) (fun va _ => 6 - (intOf va).toNat)
  case atStart => exact ⟨0, by omega, rfl, fun a ha => absurd ha (by omega), Kept.new r _ w⟩
  case round =>
    obtain ⟨k, hk, rfl, hrow, hkept⟩ := hrel
    by_cases hlt : k < 6
    · have hx := hr k hlt
      have hget := hkept.at_ hlt
      by_cases h64 : r k < 64
      · have hd64 : decide (64 ≤ r k) = false := by simp; omega
        cases hb : bitZ (r k) k with
        | true =>
          go_wp2_with (go_at_call 49; refine (l01Bit_any _ _ hx (by omega) _).mono ?_; rintro e w1 ⟨rfl, rfl⟩)
          obtain ⟨wo, hwo⟩ : ∃ wo : World, wo = wr := ⟨_, rfl⟩
          subst hwo
          go_loopw [4] (fun vb wr => ∃ m : Nat, m ≤ 6 ∧ vb = .int .i64 m ∧ (∀ b, b < m → allowB r k b = allowB r b k) ∧ Kept r w wr) (fun vb _ => 6 - (intOf vb).toNat)
          case atStart => exact ⟨0, by omega, rfl, fun a ha => absurd ha (by omega), hkept⟩
          case round =>
            obtain ⟨m, hm, rfl, hsym, hkept2⟩ := hrel
            clear hget
            by_cases hmt : m < 6
            · have hx2 := hr m hmt
              have hget := hkept2.at_ hlt
              have hget2 := hkept2.at_ hmt
              go_wp2_with fail
              go_quiet ((go_at_call 49; exact Calls.quiet_of_same (l01Bit_q _ _ (by assumption) (by omega) _)))
              go_wp2_with fail
              · go_ret
                exact ⟨ret_bool (validRB_false fun h => by
                  have hne : (!(bitZ (r k) m == bitZ (r m) k)) = true := by assumption
                  have he : bitZ (r k) m = bitZ (r m) k := (h k hlt).2.2 m hmt
                  rw [he] at hne
                  simp at hne).symm, (hkept2.drewN nq).below⟩
              · have heq : (!(bitZ (r k) m == bitZ (r m) k)) = false := by assumption
                have he : allowB r k m = allowB r m k := by unfold allowB; simpa using heq
                clear heq
                go_roundw
                case rel => exact ⟨m + 1, by omega, by go_num, fun b hb6 => by
                  rcases Nat.lt_or_ge b m with h1 | h1
                  · exact hsym b h1
                  · obtain rfl : b = m := by omega
                    exact he, hkept2.drewN nq⟩
                case measure => simp [intOf]; omega
            · go_wp2_with fail
              go_roundw
              case rel => exact ⟨k + 1, by omega, by go_num, fun a ha => by
                rcases Nat.lt_or_ge a k with hak | hak
                · exact hrow a hak
                · obtain rfl : a = k := by omega
                  exact ⟨h64, hb, fun b hb6 => hsym b (by omega)⟩, hkept2⟩
              case measure => simp [intOf]; omega
        | false =>
          go_wp2_with (go_at_call 49; refine (l01Bit_any _ _ hx (by omega) _).mono ?_; rintro e w1 ⟨rfl, rfl⟩)
          go_ret
          exact ⟨ret_bool (validRB_false fun h => by have := (h k hlt).2.1; rw [allowB, hb] at this; cases this).symm, hkept.below⟩
      · go_wp2_with (go_at_call 49; refine (l01Bit_any _ _ hx (by omega) _).mono ?_; rintro e w1 ⟨rfl, rfl⟩)
        go_ret
        exact ⟨ret_bool (validRB_false fun h => by have := (h k hlt).1; omega).symm, hkept.below⟩
    · go_wp2_with fail
      go_ret
      exact ⟨ret_bool (validRB_true fun a ha => hrow a (by omega)).symm, hkept.below⟩

/-- what the two calls in one statement leave standing -/
abbrev Cells6 (r : Nat → Int) (b : Nat) (x : World) : Prop :=
  x.cell? ⟨b, 0, none⟩ = some (.int .u8 (r 0)) ∧ x.cell? ⟨b, 1, none⟩ = some (.int .u8 (r 1)) ∧ x.cell? ⟨b, 2, none⟩ = some (.int .u8 (r 2)) ∧
  x.cell? ⟨b, 3, none⟩ = some (.int .u8 (r 3)) ∧ x.cell? ⟨b, 4, none⟩ = some (.int .u8 (r 4)) ∧ x.cell? ⟨b, 5, none⟩ = some (.int .u8 (r 5))
theorem Kept.six {r : Nat → Int} {w x : World} (h : Kept r w x) :
    x.cell? ⟨w.heap.size, 0, none⟩ = some (.int .u8 (r 0)) ∧ x.cell? ⟨w.heap.size, 1, none⟩ = some (.int .u8 (r 1)) ∧ x.cell? ⟨w.heap.size, 2, none⟩ = some (.int .u8 (r 2)) ∧
    x.cell? ⟨w.heap.size, 3, none⟩ = some (.int .u8 (r 3)) ∧ x.cell? ⟨w.heap.size, 4, none⟩ = some (.int .u8 (r 4)) ∧ x.cell? ⟨w.heap.size, 5, none⟩ = some (.int .u8 (r 5)) ∧ Kept r w x :=
  ⟨h.at_ (by omega), h.at_ (by omega), h.at_ (by omega), h.at_ (by omega), h.at_ (by omega), h.at_ (by omega), h⟩
theorem six_kept {r : Nat → Int} {w x : World} (h : x.cell? ⟨w.heap.size, 0, none⟩ = some (.int .u8 (r 0)) ∧ x.cell? ⟨w.heap.size, 1, none⟩ = some (.int .u8 (r 1)) ∧ x.cell? ⟨w.heap.size, 2, none⟩ = some (.int .u8 (r 2)) ∧
    x.cell? ⟨w.heap.size, 3, none⟩ = some (.int .u8 (r 3)) ∧ x.cell? ⟨w.heap.size, 4, none⟩ = some (.int .u8 (r 4)) ∧ x.cell? ⟨w.heap.size, 5, none⟩ = some (.int .u8 (r 5)) ∧ Kept r w x) : Kept r w x := h.2.2.2.2.2.2
theorem Kept.drew {r : Nat → Int} {w wr : World} (h : Kept r w wr) : Kept r w wr.drew := ⟨h.box, h.below.drew, h.size⟩

set_option maxHeartbeats 2000000 in
theorem ValidRules_any (r : Nat → Int) (hr : Six r) (w : World) :
    Calls Tryd.prog 62 #[rulesV r] w fun e w' => e = .returned (.bool (validRB r)) ∧ Below w.heap.size w w' := by
  go_enter Tryd.func62, Tryd.ntmps62
  go_wp2_with fail
  go_loopw [7] (fun va wr => ∃ k : Nat, k ≤ 6 ∧ va = .int .i64 k ∧ (∀ a, a < k → rowB r a a) ∧ Kept r w wr) (fun va _ => 6 - (intOf va).toNat)
  case atStart => exact ⟨0, by omega, rfl, fun a ha => absurd ha (by omega), Kept.new r _ w⟩
  case round =>
    obtain ⟨k, hk, rfl, hrow, hkept⟩ := hrel
    by_cases hlt : k < 6
    · have hidx := fun wx => run_index_rules r hlt wx
      have hx := hr k hlt
      obtain ⟨g0, g1, g2, g3, g4, g5, _⟩ := hkept.six
      by_cases h64 : r k < 64
      · have hd64 : (r k / 64 != 0) = false := by simp; omega
        go_wp2_with fail
        refine (allow_any r hr _ _ (by omega) (by omega) _).mono ?_
        rintro e w1 ⟨rfl, hb1⟩
        have hkept1 := hkept.next hb1
        clear g0 g1 g2 g3 g4 g5 hb1
        cases hb : bitZ (r k) k with
        | true =>
          have hb' : bitZ (r (k : Int).toNat) (k : Int).toNat = true := by simpa using hb
          rw [hb']
          clear hb'
          go_wp2_with fail
          obtain ⟨wo, hwo⟩ : ∃ wo : World, wo = w1 := ⟨_, rfl⟩
          subst hwo
          go_loopw [24, 5] (fun vb _ wr => ∃ m : Nat, m ≤ k ∧ vb = .int .i64 m ∧ (∀ b, b < m → allowB r k b = allowB r b k) ∧ Kept r w wr) (fun vb _ _ => k - (intOf vb).toNat)
          case atStart => exact ⟨0, by omega, rfl, fun a ha => absurd ha (by omega), hkept1⟩
          case round =>
            obtain ⟨m, hm, rfl, hsym, hkept2⟩ := hrel
            by_cases hmt : m < k
            · have hx2 := hr m (by omega)
              go_wp2_with fail
              have hwk : IntKind.u8.wrap (k : Int) = k := by rw [IntKind.wrap_u8]; omega
              have hwm : IntKind.u8.wrap (m : Int) = m := by rw [IntKind.wrap_u8]; omega
              go_region_held3 (fun x => x.cell? ⟨w.heap.size, 0, none⟩ = some (.int .u8 (r 0)) ∧ x.cell? ⟨w.heap.size, 1, none⟩ = some (.int .u8 (r 1)) ∧ x.cell? ⟨w.heap.size, 2, none⟩ = some (.int .u8 (r 2)) ∧ x.cell? ⟨w.heap.size, 3, none⟩ = some (.int .u8 (r 3)) ∧ x.cell? ⟨w.heap.size, 4, none⟩ = some (.int .u8 (r 4)) ∧ x.cell? ⟨w.heap.size, 5, none⟩ = some (.int .u8 (r 5)) ∧ Kept r w x)
                (first | exact hkept2.drew.six | (refine Kept.six (Kept.next ?_ hb2); exact six_kept (by assumption)))
                (first | (go_at_call 69; refine (allow_any r hr _ _ ?_ ?_ _).mono ?_; (omega); (omega); rintro e w2 ⟨rfl, hb2⟩))
              clear hwk hwm
              go_wp2_with fail
              · go_ret
                exact ⟨ret_bool (validRB_false fun h => by
                  have hne : (!(bitZ (r k) m == bitZ (r m) k)) = true := by assumption
                  have he : bitZ (r k) m = bitZ (r m) k := (h k hlt).2.2 m (by omega)
                  rw [he] at hne
                  simp at hne).symm, (six_kept (by assumption)).below⟩
              · have heq : (!(bitZ (r k) m == bitZ (r m) k)) = false := by assumption
                have he : allowB r k m = allowB r m k := by unfold allowB; simpa using heq
                clear heq
                go_roundw
                case rel => exact ⟨m + 1, by omega, by go_num, fun b hb6 => by
                  rcases Nat.lt_or_ge b m with h1 | h1
                  · exact hsym b h1
                  · obtain rfl : b = m := by omega
                    exact he, six_kept (by assumption)⟩
                case measure => simp [intOf]; omega
            · go_wp2_with fail
              go_roundw
              case rel => exact ⟨k + 1, by omega, by go_num, fun a ha => by
                rcases Nat.lt_or_ge a k with hak | hak
                · exact hrow a hak
                · obtain rfl : a = k := by omega
                  exact ⟨h64, hb, fun b hb6 => hsym b (by omega)⟩, hkept2⟩
              case measure => simp [intOf]; omega
        | false =>
          have hb' : bitZ (r (k : Int).toNat) (k : Int).toNat = false := by simpa using hb
          rw [hb']
          clear hb'
          go_wp2_with fail
          go_ret
          exact ⟨ret_bool (validRB_false fun h => by have := (h k hlt).2.1; rw [allowB, hb] at this; cases this).symm, hkept1.below⟩
      · have hd64 : (r k / 64 != 0) = true := by simp; omega
        go_wp2_with fail
        go_ret
        exact ⟨ret_bool (validRB_false fun h => by have := (h k hlt).1; omega).symm, hkept.below⟩
    · go_wp2_with fail
      go_ret
      exact ⟨ret_bool (validRB_true (validR_of fun a ha => hrow a (by omega))).symm, hkept.below⟩

set_option maxHeartbeats 2000000 in
theorem toRules_any (r : Nat → Int) (w : World) :
    Calls Tryd.prog 10 #[rulesV r] w fun e w' => e = .returned (rulesV r) ∧ Below w.heap.size w w' := by
  go_enter Tryd.func10, Tryd.ntmps10
  go_wp2_with fail
  refine wp_loop_rounds 7 ?_
  rw [rounds_succ]; go_wp2_with fail
  rw [rounds_succ]; go_wp2_with fail
  rw [rounds_succ]; go_wp2_with fail
  rw [rounds_succ]; go_wp2_with fail
  rw [rounds_succ]; go_wp2_with fail
  rw [rounds_succ]; go_wp2_with fail
  rw [rounds_succ]; go_wp2_with fail
  refine bodyPost_ret (v := rulesV r) (by simp [results, Tryd.results10, go_sem]) rfl ⟨rfl, ?_⟩
  repeat (first | exact Below.refl _ _ | assumption | apply Below.drew | (refine Below.alloc ?_ (by first | (simp; done) | (simp; omega) | omega) _) | (refine Below.setCell ?_ (by first | (simp; done) | (simp; omega) | omega) _))

end Go.Proofs.YtdafnibmoggcnaaDoor.rules

/-
  The arguments of the laws, opened: lists of numbers.
-/
namespace Go.Proofs.YtdafnibmoggcnaaDoor.intS
open Go.ChangeShapes Go.WideShapes Go.ChangeAt Go.RowKit Go.Joins sl

theorem cells_i64 : Tryd.prog.cellsOf 2 = 1 := by kernel_rfl
set_option maxRecDepth 100000 in
theorem open_many {H : Type} {enc : TypeId × Value → H} {W : World} {base b0 : Nat} {spare : Nat → Bool} {held : Bool} {v : Value} {d : DataW H} {p : List MemPlace}
    (hv : Value.okWide Tryd.prog W .any base 25 v) (h : DataW.Trod enc Tryd.prog W b0 spare held 25 v d p) :
    ∃ (A : Option Addr) (c : Nat) (xs : List Int), v = .slice A xs.length c ∧ xs.length ≤ maxLen ∧ Sl C 1 W W.heap.size A xs := by
  obtain ⟨A, len, cap, rfl⟩ := okWide_slice Tryd.underlying25 hv
  obtain ⟨fuel, hf⟩ := h
  rcases Deep.open_slice Tryd.underlying25 hf with ⟨hcs, _⟩ | ⟨a, len', cap', m, n, D, Pl, hcs, _, hl, hm, hmm, _, hi⟩
  · simp only [Value.cells, List.cons.injEq, Value.slice.injEq, and_true] at hcs
    obtain ⟨rfl, rfl, rfl⟩ := hcs
    exact ⟨none, 0, [], rfl, by simp, Sl.nil _ _ _ _ _⟩
  · simp only [Value.cells, List.cons.injEq, Value.slice.injEq, and_true] at hcs
    obtain ⟨rfl, rfl, rfl⟩ := hcs
    have hle : len ≤ m := by rw [hmm]; split <;> omega
    have he : ∀ i, i < len → ∃ x : Int, At W (a.add (i * 1)) (C x) := fun i hil => by
      obtain ⟨cs', hc, ht⟩ := hi i (by omega)
      rw [cells_i64] at hc
      obtain ⟨_, hcl, hat⟩ := World.cells?_some hc
      obtain ⟨x, hx, _, _⟩ := DataW.trod_int Tryd.underlying2 ht
      subst hx
      refine ⟨x, fun j v hj => ?_⟩
      have hjl : j < 1 := (List.getElem?_eq_some_iff.1 hj).1
      rw [hat j hjl, hj]
    obtain ⟨f, hfx⟩ : ∃ f : Nat → Int, ∀ i, i < len → At W (a.add (i * 1)) (C (f i)) :=
      ⟨fun i => if h : i < len then Classical.choose (he i h) else 0, fun i hil => by simpa [hil] using Classical.choose_spec (he i hil)⟩
    refine ⟨some a, cap, (List.range len).map f, by simp, by simp; omega, ⟨fun k x hx => ?_⟩⟩
    simp only [List.getElem?_map, Option.map_eq_some_iff] at hx
    obtain ⟨j, hj, rfl⟩ := hx
    have hk : k < len := by
      have := (List.getElem?_eq_some_iff.1 hj).1
      simpa using this
    have hjk : j = k := by
      rw [List.getElem?_range hk] at hj
      exact (Option.some.inj hj).symm
    subst hjk
    refine ⟨a, rfl, ?_, hfx j hk⟩
    have := block_lt_of_cell (hfx j hk 0 _ rfl)
    rwa [sl.block_add, sl.block_add] at this
end Go.Proofs.YtdafnibmoggcnaaDoor.intS

/-
  The arguments of the laws, opened: lists of garments.
-/
namespace Go.Proofs.YtdafnibmoggcnaaDoor
open Go.ChangeShapes Go.WideShapes Go.ChangeAt Go.RowKit Go.Joins

abbrev fldL0 : Field := { name := "Colour", type := 5, offset := 0, embedded := false, tag := "", pkgPath := "", byteOffset := 0 }
abbrev fldL1 : Field := { name := "Need", type := 53, offset := 1, embedded := false, tag := "", pkgPath := "", byteOffset := 1 }
abbrev fldL2 : Field := { name := "Most", type := 53, offset := 2, embedded := false, tag := "", pkgPath := "", byteOffset := 2 }
abbrev fldL3 : Field := { name := "Weight", type := 54, offset := 3, embedded := false, tag := "", pkgPath := "", byteOffset := 4 }
theorem undGarL : Tryd.prog.underlying 58 = some (.struct #[fldL0, fldL1, fldL2, fldL3]) := by kernel_rfl

theorem list4 {α : Type} {l : List α} (h : l.length = 4) : ∃ a0 a1 a2 a3, l = [a0, a1, a2, a3] := by
  match l, h with
  | [a0, a1, a2, a3], _ => exact ⟨a0, a1, a2, a3, rfl⟩
theorem cellsI8 : Tryd.prog.cellsOf 53 = 1 := by kernel_rfl
theorem cellsI16 : Tryd.prog.cellsOf 54 = 1 := by kernel_rfl

set_option maxRecDepth 100000 in
/-- four cells that read as a garment -/
theorem gar_of_trod {H : Type} {enc : TypeId × Value → H} {W : World} {base fuel : Nat} {spare : Nat → Bool} {held : Bool} {cs : List Value} {y : DataW H × List MemPlace}
    (h : DataW.trod enc Tryd.prog W base spare held fuel 58 cs = some y) (hl : cs.length = 4) : ∃ x : Gar, x.Fits ∧ cs = x.cells := by
  obtain ⟨u0, u1, u2, u3, rfl⟩ := list4 hl
  obtain ⟨xs, n, _, _, _, _, hf⟩ := DataW.trod_struct undGarL h
  have h0 := hf 0 fldL0 rfl
  have h1 := hf 1 fldL1 rfl
  have h2 := hf 2 fldL2 rfl
  have h3 := hf 3 fldL3 rfl
  simp only [cellsU8, cellsI8, cellsI16, List.drop_zero, List.drop_succ_cons, List.take_succ_cons, List.take_zero] at h0 h1 h2 h3
  have hxl : ∃ x0 x1 x2 x3, xs[0]? = some x0 ∧ xs[1]? = some x1 ∧ xs[2]? = some x2 ∧ xs[3]? = some x3 := by
    have e : xs.length = 4 := by assumption
    exact ⟨xs[0], xs[1], xs[2], xs[3], List.getElem?_eq_getElem _, List.getElem?_eq_getElem _, List.getElem?_eq_getElem _, List.getElem?_eq_getElem _⟩
  obtain ⟨x0, x1, x2, x3, e0, e1, e2, e3⟩ := hxl
  rw [e0] at h0
  rw [e1] at h1
  rw [e2] at h2
  rw [e3] at h3
  obtain ⟨c, q0, _, wc⟩ := DataW.trod_int Tryd.underlying5 h0
  obtain ⟨n', q1, _, wn⟩ := DataW.trod_int Tryd.underlying53 h1
  obtain ⟨k, q2, _, wk⟩ := DataW.trod_int Tryd.underlying53 h2
  obtain ⟨g, q3, _, wg⟩ := DataW.trod_int Tryd.underlying54 h3
  simp only [List.cons.injEq, and_true] at q0 q1 q2 q3
  subst q0 q1 q2 q3
  have a0 := bd_u8' wc
  have a1 := bd_i8' wn
  have a2 := bd_i8' wk
  have a3 := bd_i16' wg
  exact ⟨⟨c, n', k, g⟩, ⟨a0.1, a0.2, a1.1, a1.2, a2.1, a2.2, a3.1, a3.2⟩, rfl⟩

set_option maxRecDepth 100000 in
theorem open_garS {H : Type} {enc : TypeId × Value → H} {W : World} {base b0 : Nat} {spare : Nat → Bool} {held : Bool} {v : Value} {d : DataW H} {p : List MemPlace}
    (hv : Value.okWide Tryd.prog W .any base 23 v) (h : DataW.Trod enc Tryd.prog W b0 spare held 23 v d p) :
    ∃ (A : Option Addr) (c : Nat) (gs : List Gar), v = .slice A gs.length c ∧ gs.length ≤ maxLen ∧ garS.GS W W.heap.size A gs := by
  obtain ⟨A, len, cap, rfl⟩ := okWide_slice Tryd.underlying23 hv
  obtain ⟨fuel, hf⟩ := h
  rcases Deep.open_slice Tryd.underlying23 hf with ⟨hcs, _⟩ | ⟨a, len', cap', m, n, D, Pl, hcs, _, hl, hm, hmm, _, hi⟩
  · simp only [Value.cells, List.cons.injEq, Value.slice.injEq, and_true] at hcs
    obtain ⟨rfl, rfl, rfl⟩ := hcs
    exact ⟨none, 0, [], rfl, by simp, ⟨fun k x hx => by simp at hx, fun x hx => by simp at hx⟩⟩
  · simp only [Value.cells, List.cons.injEq, Value.slice.injEq, and_true] at hcs
    obtain ⟨rfl, rfl, rfl⟩ := hcs
    have hle : len ≤ m := by rw [hmm]; split <;> omega
    have he : ∀ i, i < len → ∃ x : Gar, x.Fits ∧ garS.GarAt W (a.add (i * 4)) x := fun i hil => by
      obtain ⟨cs', hc, ht⟩ := hi i (by omega)
      rw [cellsGar] at hc
      obtain ⟨_, hcl, hat⟩ := World.cells?_some hc
      obtain ⟨x, hx, rfl⟩ := gar_of_trod ht hcl
      refine ⟨x, hx, ?_⟩
      have g0 := hat 0 (by omega)
      have g1 := hat 1 (by omega)
      have g2 := hat 2 (by omega)
      have g3 := hat 3 (by omega)
      exact ⟨g0, g1, g2, g3⟩
    obtain ⟨f, hfx⟩ : ∃ f : Nat → Gar, ∀ i, i < len → (f i).Fits ∧ garS.GarAt W (a.add (i * 4)) (f i) :=
      ⟨fun i => if h : i < len then Classical.choose (he i h) else ⟨0, 0, 0, 0⟩, fun i hil => by simpa [hil] using Classical.choose_spec (he i hil)⟩
    refine ⟨some a, cap, (List.range len).map f, by simp, by simp; omega, ⟨fun k x hx => ?_, fun x hx => ?_⟩⟩
    · simp only [List.getElem?_map, Option.map_eq_some_iff] at hx
      obtain ⟨j, hj, rfl⟩ := hx
      have hk : k < len := by
        have := (List.getElem?_eq_some_iff.1 hj).1
        simpa using this
      have hjk : j = k := by
        rw [List.getElem?_range hk] at hj
        exact (Option.some.inj hj).symm
      subst hjk
      refine ⟨a, rfl, ?_, (hfx j hk).2⟩
      have := block_lt_of_cell (hfx j hk).2.c0
      rwa [garS.block_add] at this
    · simp only [List.mem_map, List.mem_range] at hx
      obtain ⟨i, hil, rfl⟩ := hx
      exact (hfx i hil).1
end Go.Proofs.YtdafnibmoggcnaaDoor
