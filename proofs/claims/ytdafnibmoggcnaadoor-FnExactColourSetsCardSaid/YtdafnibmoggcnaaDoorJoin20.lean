/-
  Several texts of this proof, joined.
-/
import Derived.Test.YtdafnibmoggcnaaDoorJoin14
import Derived.Test.YtdafnibmoggcnaaDoorJoin15
import Derived.Test.YtdafnibmoggcnaaDoorRules
import Derived.Lib.Hide
/-
  The checks of chapter 1: which error each one finds, and which code it has.
-/
namespace Go.Proofs.YtdafnibmoggcnaaDoor.errs
open Go.RowKit

set_option maxHeartbeats 1000000 in
theorem checkRules_any (r : Nat → Int) (hr : Six r) {w : World} {B : Nat} {e : Nat → Addr} (h : Errs w B e) (hB : B ≤ w.heap.size) (c : Nat) (hc : c = if validRB r = true then 0 else 1) :
    Calls Tryd.prog 34 #[rulesV r] w fun o w' => o = .returned (errOf e c) ∧ Below w.heap.size w w' := by
  cases hv : validRB r with
  | true =>
    rw [hv, if_pos rfl] at hc
    subst hc
    go_enter Tryd.func34, Tryd.ntmps34
    go_wp2_with fail
    refine (rules.ValidRules_any r hr _).mono ?_
    rintro o w1 ⟨rfl, hb⟩
    rw [hv]
    go_wp2_with fail
    go_ret
    exact ⟨rfl, ((Below.refl _ _).alloc (Nat.le_refl _) _).trans (hb.mono (by simp))⟩
  | false =>
    rw [hv, if_neg (by decide)] at hc
    subst hc
    go_enter Tryd.func34, Tryd.ntmps34
    go_wp2_with fail
    refine (rules.ValidRules_any r hr _).mono ?_
    rintro o w1 ⟨rfl, hb⟩
    rw [hv]
    have H1 : Below w.heap.size w w1 := ((Below.refl _ _).alloc (Nat.le_refl _) _).trans (hb.mono (by simp))
    have g0 := (h.below (H1.mono hB)).c0
    go_wp2_with fail
    go_ret
    exact ⟨rfl, H1⟩

set_option maxHeartbeats 2000000 in
theorem checkGarments_any (A : Option Addr) (n c : Nat) (gs : List Gar) (hn : n = gs.length) (hs : n ≤ 1048576) {w : World} {B : Nat} {e : Nat → Addr} (h : Errs w B e) (hB : B ≤ w.heap.size) (hg : garS.GS w w.heap.size A gs)
    (k0 : Nat) (hk0 : k0 = if gs.all Gar.valid = true then 0 else 1) :
    Calls Tryd.prog 35 #[.slice A n c] w fun o w' => o = .returned (errOf e k0) ∧ Below w.heap.size w w' := by
  have Hn := Lib.hid hn
  have HK := Lib.hid hk0
  clear hn hk0
  go_enter Tryd.func35, Tryd.ntmps35
  go_wp2_with fail
  go_loopw [7, 4] (fun vi _ wr => ∃ k : Nat, k ≤ n ∧ vi = .int .i64 k ∧ (∀ i x, i < k → gs[i]? = some x → x.valid = true) ∧ Below w.heap.size w wr) (fun vi _ _ => n - (intOf vi).toNat)
  case atStart => exact ⟨0, by omega, rfl, fun i x hi => absurd hi (by omega), Below.refl _ _⟩
  case round =>
    obtain ⟨k, hk, rfl, hval, hb⟩ := hrel
    by_cases hlt : k < n
    · obtain ⟨x, hx⟩ : ∃ x, gs[k]? = some x := ⟨gs[k]'(by have := Hn.out; omega), List.getElem?_eq_getElem _⟩
      obtain ⟨a, rfl, hab, hg0, hg1, hg2, hg3⟩ := (hg.below hb).at_ k x hx
      have hxf : x.Fits := hg.fits x (List.mem_of_getElem? hx)
      have HX := Lib.hid hx
      clear hx
      cases hv : x.valid with
      | true =>
        go_wp2_with fail
        refine (garm.ValidGarment_any x hxf _).mono ?_
        rintro o w2 ⟨rfl, hb2⟩
        rw [hv]
        have H2 : Below w.heap.size w w2 := (hb.alloc hb.size _).trans (hb2.mono (by have := hb.size; simp; omega))
        clear hg0 hg1 hg2 hg3 hb2
        go_wp2_with fail
        go_roundw
        case rel => exact ⟨k + 1, by omega, by go_num, fun i y hi hy => by
          rcases Nat.lt_or_ge i k with h1 | h1
          · exact hval i y h1 hy
          · obtain rfl : i = k := by omega
            have := HX.out
            rw [hy] at this
            rw [Option.some.inj this]
            exact hv, H2⟩
        case measure => simp [intOf]; omega
      | false =>
        go_wp2_with fail
        refine (garm.ValidGarment_any x hxf _).mono ?_
        rintro o w2 ⟨rfl, hb2⟩
        rw [hv]
        have H2 : Below w.heap.size w w2 := (hb.alloc hb.size _).trans (hb2.mono (by have := hb.size; simp; omega))
        have g0 := (h.below (H2.mono hB)).c0
        clear hg0 hg1 hg2 hg3 hb2
        go_wp2_with fail
        go_ret
        refine ⟨?_, H2⟩
        rw [HK.out, if_neg]
        · rfl
        · intro hall
          rw [List.all_eq_true] at hall
          have := hall x (List.mem_of_getElem? HX.out)
          rw [hv] at this
          cases this
    · go_wp2_with fail
      go_ret
      refine ⟨?_, hb⟩
      rw [HK.out, if_pos]
      · rfl
      · rw [List.all_eq_true]
        intro x hx
        obtain ⟨i, hi⟩ := List.mem_iff_getElem?.1 hx
        have hl : i < gs.length := (List.getElem?_eq_some_iff.1 hi).1
        exact hval i x (by have := Hn.out; omega) hi

end Go.Proofs.YtdafnibmoggcnaaDoor.errs

/-
  Contracts of the functions that say whether two garments may meet.
-/
namespace Go.Proofs.YtdafnibmoggcnaaDoor.meet
open Go.RowKit errs garS

/-- may two garments meet -/
def meetB (r : Nat → Int) (a b : Gar) : Bool := bitZ (r a.c.toNat) b.c.toNat && (decide (a.n ≤ b.m) && decide (b.n ≤ a.m))

theorem valid_parts {x : Gar} (h : x.valid = true) : x.c < 6 ∧ 0 ≤ x.n ∧ x.n ≤ x.m ∧ x.m ≤ 95 ∧ 1 ≤ x.g ∧ x.g ≤ 2000 := by
  simpa [Gar.valid, and_assoc] using h

theorem l01Bit_v (x k : Int) (hx : 0 ≤ x ∧ x ≤ 255) (hk : 0 ≤ k ∧ k ≤ 63) (v : Bool) (hv : bitZ x k.toNat = v) (w : World) :
    Calls Tryd.prog 49 #[.int .u8 x, .int .i64 k] w fun e w' => e = .returned (.bool v) ∧ w' = w := by
  subst hv
  exact rules.l01Bit_q x k hx hk w

/-- three boxes lie as they were made -/
structure Boxes (r : Nat → Int) (a b : Gar) (w x : World) : Prop where
  rr : ∀ i, x.cell? ⟨w.heap.size, i, none⟩ = (rulesCs r)[i]?
  a0 : x.cell? ⟨w.heap.size + 1, 0, none⟩ = some (.int .u8 a.c)
  a1 : x.cell? ⟨w.heap.size + 1, 1, none⟩ = some (.int .i8 a.n)
  a2 : x.cell? ⟨w.heap.size + 1, 2, none⟩ = some (.int .i8 a.m)
  a3 : x.cell? ⟨w.heap.size + 1, 3, none⟩ = some (.int .i16 a.g)
  b0 : x.cell? ⟨w.heap.size + 1 + 1, 0, none⟩ = some (.int .u8 b.c)
  b1 : x.cell? ⟨w.heap.size + 1 + 1, 1, none⟩ = some (.int .i8 b.n)
  b2 : x.cell? ⟨w.heap.size + 1 + 1, 2, none⟩ = some (.int .i8 b.m)
  b3 : x.cell? ⟨w.heap.size + 1 + 1, 3, none⟩ = some (.int .i16 b.g)
  below : Below w.heap.size w x
  size : w.heap.size + 3 ≤ x.heap.size

theorem Boxes.new (r : Nat → Int) (a b : Gar) (t u v : TypeId) (w : World) :
    Boxes r a b w (((w.alloc (.cells (rulesCs r) t)).alloc (.cells #[.int .u8 a.c, .int .i8 a.n, .int .i8 a.m, .int .i16 a.g] u)).alloc (.cells #[.int .u8 b.c, .int .i8 b.n, .int .i8 b.m, .int .i16 b.g] v)) := by
  have e1 : (w.alloc (.cells (rulesCs r) t)).heap.size = w.heap.size + 1 := by simp
  have e2 : ((w.alloc (.cells (rulesCs r) t)).alloc (.cells #[.int .u8 a.c, .int .i8 a.n, .int .i8 a.m, .int .i16 a.g] u)).heap.size = w.heap.size + 1 + 1 := by simp
  have h1 : ∀ i, (((w.alloc (.cells (rulesCs r) t)).alloc (.cells #[.int .u8 a.c, .int .i8 a.n, .int .i8 a.m, .int .i16 a.g] u)).alloc (.cells #[.int .u8 b.c, .int .i8 b.n, .int .i8 b.m, .int .i16 b.g] v)).cell? ⟨w.heap.size + 1, i, none⟩ = (#[Value.int .u8 a.c, .int .i8 a.n, .int .i8 a.m, .int .i16 a.g] : Array Value)[i]? := fun i => by
    have := heap_alloc_new (w.alloc (.cells (rulesCs r) t)) (.cells #[.int .u8 a.c, .int .i8 a.n, .int .i8 a.m, .int .i16 a.g] u)
    rw [e1] at this
    exact cell_of_row _ _ _ _ _ _ ((heap_alloc_old _ _ (by rw [e2]; omega)).trans this)
  have h2 : ∀ i, (((w.alloc (.cells (rulesCs r) t)).alloc (.cells #[.int .u8 a.c, .int .i8 a.n, .int .i8 a.m, .int .i16 a.g] u)).alloc (.cells #[.int .u8 b.c, .int .i8 b.n, .int .i8 b.m, .int .i16 b.g] v)).cell? ⟨w.heap.size + 1 + 1, i, none⟩ = (#[Value.int .u8 b.c, .int .i8 b.n, .int .i8 b.m, .int .i16 b.g] : Array Value)[i]? := fun i => by
    have := heap_alloc_new ((w.alloc (.cells (rulesCs r) t)).alloc (.cells #[.int .u8 a.c, .int .i8 a.n, .int .i8 a.m, .int .i16 a.g] u)) (.cells #[.int .u8 b.c, .int .i8 b.n, .int .i8 b.m, .int .i16 b.g] v)
    rw [e2] at this
    exact cell_of_row _ _ _ _ _ _ this
  refine ⟨fun i => ?_, h1 0, h1 1, h1 2, h1 3, h2 0, h2 1, h2 2, h2 3, ?_, by simp⟩
  · exact cell_of_row _ _ _ _ _ _ ((heap_alloc_old _ _ (by rw [e2]; omega)).trans ((heap_alloc_old _ _ (by rw [e1]; omega)).trans (heap_alloc_new w _)))
  · exact (((Below.refl _ _).alloc (Nat.le_refl _) _).alloc (by rw [e1]; omega) _).alloc (by rw [e2]; omega) _

theorem Boxes.next {r : Nat → Int} {a b : Gar} {w x y : World} (h : Boxes r a b w x) (hb : Below x.heap.size x y) : Boxes r a b w y := by
  have hs := h.size
  have c : ∀ (p : Addr), p.block < w.heap.size + 3 → y.cell? p = x.cell? p := fun p hp => hb.cell (by omega)
  exact ⟨fun i => (c ⟨w.heap.size, i, none⟩ (by show w.heap.size < _; omega)).trans (h.rr i),
    (c ⟨w.heap.size + 1, 0, none⟩ (by show w.heap.size + 1 < _; omega)).trans h.a0, (c ⟨w.heap.size + 1, 1, none⟩ (by show w.heap.size + 1 < _; omega)).trans h.a1,
    (c ⟨w.heap.size + 1, 2, none⟩ (by show w.heap.size + 1 < _; omega)).trans h.a2, (c ⟨w.heap.size + 1, 3, none⟩ (by show w.heap.size + 1 < _; omega)).trans h.a3,
    (c ⟨w.heap.size + 1 + 1, 0, none⟩ (by show w.heap.size + 1 + 1 < _; omega)).trans h.b0, (c ⟨w.heap.size + 1 + 1, 1, none⟩ (by show w.heap.size + 1 + 1 < _; omega)).trans h.b1,
    (c ⟨w.heap.size + 1 + 1, 2, none⟩ (by show w.heap.size + 1 + 1 < _; omega)).trans h.b2, (c ⟨w.heap.size + 1 + 1, 3, none⟩ (by show w.heap.size + 1 + 1 < _; omega)).trans h.b3,
    h.below.trans (hb.mono h.below.size), Nat.le_trans hs hb.size⟩
theorem Boxes.at_ {r : Nat → Int} {a b : Gar} {w x : World} (h : Boxes r a b w x) {k : Nat} (hk : k < 6) : x.cell? ⟨w.heap.size, k, none⟩ = some (.int .u8 (r k)) := (h.rr k).trans (six_get r hk)

set_option maxHeartbeats 4000000 in
theorem l01Meet_any (r : Nat → Int) (hr : Six r) (a b : Gar) (ha : a.Fits) (hb : b.Fits) (ca : a.c < 6) (cb : b.c < 6) (w : World) :
    Calls Tryd.prog 61 #[rulesV r, a.v, b.v] w fun o w' => o = .returned (.bool (meetB r a b)) ∧ Below w.heap.size w w' := by
  have hx := hr a.c.toNat (by have := ha.c0; omega)
  have B0 := Boxes.new r a b 28 56 56 w
  have hget := B0.at_ (k := a.c.toNat) (by have := ha.c0; omega)
  obtain ⟨_, q0, q1, q2, q3, p0, p1, p2, p3, hbel, _⟩ := B0
  obtain ⟨ac0, ac1, an0, an1, am0, am1, ag0, ag1⟩ := ha
  obtain ⟨bc0, bc1, bn0, bn1, bm0, bm1, bg0, bg1⟩ := hb
  have HB := Lib.hid hbel
  clear hbel
  have hwb : IntKind.i64.wrap b.c = b.c := IntWalk.i64_in _ (by omega)
  cases hv : bitZ (r a.c.toNat) b.c.toNat with
  | false =>
    have HV := Lib.hid hv
    clear hv
    go_enter Tryd.func61, Tryd.ntmps61
    go_wp2_with fail
    go_quiet ((go_at_call 49; exact Calls.quiet_of_same (l01Bit_v _ _ hx (by omega) false HV.out _)))
    go_wp2_with fail
    go_ret
    exact ⟨ret_bool (by simp [meetB, HV.out]), HB.out.trans (below_drewN _ _ _)⟩
  | true =>
    have HV := Lib.hid hv
    clear hv
    by_cases h1 : a.n ≤ b.m
    · have d1 : decide (a.n ≤ b.m) = true := by simp [h1]
      by_cases h2 : b.n ≤ a.m
      · have d2 : decide (b.n ≤ a.m) = true := by simp [h2]
        go_enter Tryd.func61, Tryd.ntmps61
        go_wp2_with fail
        go_quiet ((go_at_call 49; exact Calls.quiet_of_same (l01Bit_v _ _ hx (by omega) true HV.out _)))
        go_wp2_with fail
        go_ret
        exact ⟨ret_bool (by simp only [meetB, HV.out]; simp; omega), HB.out.trans (below_drewN _ _ _)⟩
      · have d2 : decide (b.n ≤ a.m) = false := by simp; omega
        go_enter Tryd.func61, Tryd.ntmps61
        go_wp2_with fail
        go_quiet ((go_at_call 49; exact Calls.quiet_of_same (l01Bit_v _ _ hx (by omega) true HV.out _)))
        go_wp2_with fail
        go_ret
        exact ⟨ret_bool (by simp only [meetB, HV.out]; simp; omega), HB.out.trans (below_drewN _ _ _)⟩
    · have d1 : decide (a.n ≤ b.m) = false := by simp; omega
      go_enter Tryd.func61, Tryd.ntmps61
      go_wp2_with fail
      go_quiet ((go_at_call 49; exact Calls.quiet_of_same (l01Bit_v _ _ hx (by omega) true HV.out _)))
      go_wp2_with fail
      go_ret
      exact ⟨ret_bool (by simp only [meetB, HV.out]; simp; omega), HB.out.trans (below_drewN _ _ _)⟩

set_option maxHeartbeats 4000000 in
theorem meet_any (r : Nat → Int) (hr : Six r) (a b : Gar) (ha : a.Fits) (hb : b.Fits) (va : a.valid = true) (vb : b.valid = true) (w : World) :
    Calls Tryd.prog 45 #[rulesV r, a.v, b.v] w fun o w' => o = .returned (.bool (meetB r a b)) ∧ Below w.heap.size w w' := by
  obtain ⟨ca, a1, a2, a3, _, _⟩ := valid_parts va
  obtain ⟨cb, b1, b2, b3, _, _⟩ := valid_parts vb
  have B0 := Lib.hid (Boxes.new r a b 28 56 56 w)
  obtain ⟨ac0, ac1, an0, an1, am0, am1, ag0, ag1⟩ := ha
  obtain ⟨bc0, bc1, bn0, bn1, bm0, bm1, bg0, bg1⟩ := hb
  clear va vb
  cases hv : bitZ (r a.c.toNat) b.c.toNat with
  | false =>
    have HV := Lib.hid hv
    clear hv
    go_enter Tryd.func45, Tryd.ntmps45
    go_wp2_with fail
    refine (rules.allow_any r hr _ _ (by omega) (by omega) _).mono ?_
    rintro o w1 ⟨rfl, hb1⟩
    have B1 := Lib.hid (B0.out.next hb1)
    rw [HV.out]
    clear hb1
    go_wp2_with fail
    go_ret
    exact ⟨ret_bool (by simp [meetB, HV.out]), B1.out.below⟩
  | true =>
    have HV := Lib.hid hv
    clear hv
    go_enter Tryd.func45, Tryd.ntmps45
    go_wp2_with fail
    refine (rules.allow_any r hr _ _ (by omega) (by omega) _).mono ?_
    rintro o w1 ⟨rfl, hb1⟩
    have B1 := B0.out.next hb1
    rw [HV.out]
    clear hb1
    obtain ⟨_, q0, q1, q2, q3, p0, p1, p2, p3, hbel, _⟩ := B1
    go_wp2_with fail
    all_goals go_ret
    all_goals exact ⟨ret_bool (by simp only [meetB, HV.out]; simp; omega), hbel⟩
end Go.Proofs.YtdafnibmoggcnaaDoor.meet

/-
  Contracts for the heats of garments.
-/
namespace Go.Proofs.YtdafnibmoggcnaaDoor.heats
open Go.RowKit errs garS

/-- the code of garments, and whether numbers are as told -/
def codeAll (gs : List Gar) (fine : Bool) : Nat := if gs.all Gar.valid = true then (if fine = true then (if gs.length > 8 then 3 else 0) else 2) else 1
def lowOf (gs : List Gar) : Int := gs.foldl (fun l x => max l x.n) 0
def highOf (gs : List Gar) : Int := gs.foldl (fun l x => min l x.m) 95

theorem take_snoc {gs : List Gar} {k : Nat} {x : Gar} (hx : gs[k]? = some x) : gs.take (k + 1) = gs.take k ++ [x] := by
  obtain ⟨hk, rfl⟩ := List.getElem?_eq_some_iff.1 hx
  rw [List.take_succ_eq_append_getElem hk]
theorem low_snoc {gs : List Gar} {k : Nat} {x : Gar} (hx : gs[k]? = some x) : lowOf (gs.take (k + 1)) = max (lowOf (gs.take k)) x.n := by
  rw [take_snoc hx]
  simp [lowOf]
theorem high_snoc {gs : List Gar} {k : Nat} {x : Gar} (hx : gs[k]? = some x) : highOf (gs.take (k + 1)) = min (highOf (gs.take k)) x.m := by
  rw [take_snoc hx]
  simp [highOf]

theorem l00Max_any (a b : Int) (w : World) :
    Calls Tryd.prog 54 #[.int .i64 a, .int .i64 b] w fun o w' => o = .returned (.int .i64 (max a b)) ∧ w = w' := by
  go_enter Tryd.func54, Tryd.ntmps54
  go_wp2_with fail
  all_goals go_ret
  all_goals exact ⟨ret_int (by omega), rfl⟩
set_option maxHeartbeats 2000000 in
theorem l01All_any (A : Option Addr) (n c : Nat) (gs : List Gar) (hn : n = gs.length) (hs : n ≤ 1048576) (fine : Bool) (w : World) (hg : GS w w.heap.size A gs) :
    Calls Tryd.prog 59 #[.slice A n c, .bool fine] w fun o w' => o = .returned (.int .i64 (codeAll gs fine)) ∧ Below w.heap.size w w' := by
  have Hn := Lib.hid hn
  clear hn
  go_enter Tryd.func59, Tryd.ntmps59
  go_wp2_with fail
  go_loopw [5] (fun vi wr => ∃ k : Nat, k ≤ n ∧ vi = .int .i64 k ∧ (∀ i x, i < k → gs[i]? = some x → x.valid = true) ∧ Below w.heap.size w wr) (fun vi _ => n - (intOf vi).toNat)
  case atStart => exact ⟨0, by omega, rfl, fun i x hi => absurd hi (by omega), Below.refl _ _⟩
  case round =>
    obtain ⟨k, hk, rfl, hval, hb⟩ := hrel
    by_cases hlt : k < n
    · obtain ⟨x, hx⟩ : ∃ x, gs[k]? = some x := ⟨gs[k]'(by have := Hn.out; omega), List.getElem?_eq_getElem _⟩
      obtain ⟨a, rfl, hab, hg0, hg1, hg2, hg3⟩ := (hg.below hb).at_ k x hx
      have hxf : x.Fits := hg.fits x (List.mem_of_getElem? hx)
      have HX := Lib.hid hx
      clear hx
      cases hv : x.valid with
      | true =>
        go_wp2_with fail
        refine (garm.l01Garment_any x hxf _).mono ?_
        rintro o w2 ⟨rfl, hb2⟩
        rw [hv]
        have H2 := below_next hb hb2 (Nat.le_refl _)
        clear hg0 hg1 hg2 hg3 hb2
        go_wp2_with fail
        go_roundw
        case rel => exact ⟨k + 1, by omega, by go_num, fun i y hi hy => by
          rcases Nat.lt_or_ge i k with h1 | h1
          · exact hval i y h1 hy
          · obtain rfl : i = k := by omega
            have := HX.out
            rw [hy] at this
            rw [Option.some.inj this]
            exact hv, H2⟩
        case measure => simp [intOf]; omega
      | false =>
        go_wp2_with fail
        refine (garm.l01Garment_any x hxf _).mono ?_
        rintro o w2 ⟨rfl, hb2⟩
        rw [hv]
        have H2 := below_next hb hb2 (Nat.le_refl _)
        clear hg0 hg1 hg2 hg3 hb2
        go_wp2_with fail
        go_ret
        refine ⟨?_, H2⟩
        rw [codeAll, if_neg]
        · rfl
        · intro hall
          rw [List.all_eq_true] at hall
          have := hall x (List.mem_of_getElem? HX.out)
          rw [hv] at this
          cases this
    · have hall : gs.all Gar.valid = true := by
        rw [List.all_eq_true]
        intro x hx
        obtain ⟨i, hi⟩ := List.mem_iff_getElem?.1 hx
        have hl : i < gs.length := (List.getElem?_eq_some_iff.1 hi).1
        exact hval i x (by have := Hn.out; omega) hi
      have HA := Lib.hid hall
      clear hall hval
      cases fine with
      | false =>
        go_wp2_with fail
        go_ret
        exact ⟨by rw [codeAll, if_pos HA.out]; rfl, hb⟩
      | true =>
        by_cases h8 : 8 < n
        · go_wp2_with fail
          go_ret
          exact ⟨by rw [codeAll, if_pos HA.out, if_pos rfl, if_pos (by have := Hn.out; omega)]; rfl, hb⟩
        · go_wp2_with fail
          go_ret
          exact ⟨by rw [codeAll, if_pos HA.out, if_pos rfl, if_neg (by have := Hn.out; omega)]; rfl, hb⟩

set_option maxHeartbeats 1000000 in
theorem checkCount_any (A : Option Addr) (n c : Nat) (hs : n ≤ 1048576) {w : World} {B : Nat} {e : Nat → Addr} (h : Errs w B e) :
    Calls Tryd.prog 37 #[.slice A n c] w fun o w' => o = .returned (errOf e (if 8 < n then 3 else 0)) ∧ w = w' := by
  obtain ⟨c0, c1, c2, c3, c4, c5, c6, _⟩ := h
  by_cases h8 : 8 < n
  · rw [if_pos h8]
    go_enter Tryd.func37, Tryd.ntmps37
    go_wp2_with fail
    go_ret
    exact ⟨rfl, rfl⟩
  · rw [if_neg h8]
    go_enter Tryd.func37, Tryd.ntmps37
    go_wp2_with fail
    go_ret
    exact ⟨rfl, rfl⟩

/-- the heats, and the code -/
def heatsRes (gs : List Gar) : Int × Int × Int :=
  if codeAll gs true = 0 then (if highOf gs < lowOf gs then (0, 0, 4) else (lowOf gs, highOf gs, 0)) else (0, 0, codeAll gs true)
abbrev tup3 (p : Int × Int × Int) : Value := .tuple #[.int .i64 p.1, .int .i64 p.2.1, .int .i64 p.2.2]
theorem codeAll_le (gs : List Gar) (fine : Bool) : codeAll gs fine ≤ 3 := by
  unfold codeAll
  split
  · split
    · split <;> omega
    · omega
  · omega


end Go.Proofs.YtdafnibmoggcnaaDoor.heats

/-
  Contracts of the model's functions for loads.
-/
namespace Go.Proofs.YtdafnibmoggcnaaDoor.load
open Go.RowKit errs garS heats meet

/-- what all garments weigh -/
def wAll (gs : List Gar) : Int := gs.foldl (fun s x => s + x.g) 0
theorem wAll_snoc {gs : List Gar} {k : Nat} {x : Gar} (hx : gs[k]? = some x) : wAll (gs.take (k + 1)) = wAll (gs.take k) + x.g := by
  rw [take_snoc hx]
  simp [wAll]
theorem wAll_bound (gs : List Gar) (hf : ∀ x ∈ gs, x.Fits) : -32768 * (gs.length : Int) ≤ wAll gs ∧ wAll gs ≤ 32768 * (gs.length : Int) := by
  suffices h : ∀ (gs : List Gar), (∀ x ∈ gs, x.Fits) → ∀ s : Int, s - 32768 * (gs.length : Int) ≤ gs.foldl (fun s x => s + x.g) s ∧ gs.foldl (fun s x => s + x.g) s ≤ s + 32768 * (gs.length : Int) by
    have := h gs hf 0
    unfold wAll
    omega
  intro gs
  induction gs with
  | nil => intro _ s; simp
  | cons x gs ih =>
    intro hf s
    have h1 := ih (fun y hy => hf y (List.mem_cons_of_mem _ hy)) (s + x.g)
    have h2 := hf x (List.mem_cons_self ..)
    have g0 := h2.g0
    have g1 := h2.g1
    have h3 : (((x :: gs).length : Nat) : Int) = (gs.length : Int) + 1 := by simp
    rw [List.foldl_cons, h3]
    omega
/-- may all garments meet, each with those ahead of it -/
def Pairs (r : Nat → Int) (gs : List Gar) : Prop := ∀ (i k : Nat) (x y : Gar), k < i → gs[i]? = some x → gs[k]? = some y → meetB r x y = true

set_option maxHeartbeats 2000000 in
theorem l01Weight_any (A : Option Addr) (n c : Nat) (gs : List Gar) (hn : n = gs.length) (hs : n ≤ 2097152) (w : World) (B : Nat) (hg : GS w B A gs) :
    Calls Tryd.prog 55 #[.slice A n c] w fun o w' => o = .returned (.int .i64 (wAll gs)) ∧ w = w' := by
  have Hn := Lib.hid hn
  clear hn
  go_enter Tryd.func55, Tryd.ntmps55
  go_wp2_with fail
  go_loop [3, 4] (fun l vi => ∃ k : Nat, k ≤ n ∧ vi = .int .i64 k ∧ l = .int .i64 (wAll (gs.take k))) (fun _ vi => n - (intOf vi).toNat)
  case atStart => exact ⟨0, by omega, rfl, rfl⟩
  case round =>
    obtain ⟨k, hk, rfl, rfl⟩ := hrel
    by_cases hlt : k < n
    · obtain ⟨x, hx⟩ : ∃ x, gs[k]? = some x := ⟨gs[k]'(by have := Hn.out; omega), List.getElem?_eq_getElem _⟩
      obtain ⟨a, rfl, hab, hg0, hg1, hg2, hg3⟩ := hg.at_ k x hx
      have hb := wAll_bound (gs.take k) (fun y hy => hg.fits y (List.mem_of_mem_take hy))
      rw [List.length_take] at hb
      obtain ⟨_, _, _, _, _, _, g0, g1⟩ := hg.fits x (List.mem_of_getElem? hx)
      have hw1 : IntKind.i64.wrap x.g = x.g := IntWalk.i64_in _ (by omega)
      have hw2 : IntKind.i64.wrap (wAll (gs.take k) + x.g) = wAll (gs.take k) + x.g := IntWalk.i64_in _ (by omega)
      have hl := Lib.hid (wAll_snoc hx)
      clear hx
      go_wp2_with fail
      go_round
      case rel => exact ⟨k + 1, by omega, by go_num, by rw [hl.out]⟩
      case measure => simp [intOf]; omega
    · go_wp2_with fail
      go_ret
      have e : gs.take k = gs := List.take_of_length_le (by have := Hn.out; omega)
      rw [e]
      exact ⟨rfl, rfl⟩
abbrev SixAt (r : Nat → Int) (b : Nat) (u : World) : Prop := u.cell? ⟨b, 0, none⟩ = some (.int .u8 (r 0)) ∧ u.cell? ⟨b, 1, none⟩ = some (.int .u8 (r 1)) ∧ u.cell? ⟨b, 2, none⟩ = some (.int .u8 (r 2)) ∧ u.cell? ⟨b, 3, none⟩ = some (.int .u8 (r 3)) ∧ u.cell? ⟨b, 4, none⟩ = some (.int .u8 (r 4)) ∧ u.cell? ⟨b, 5, none⟩ = some (.int .u8 (r 5))
theorem SixAt.to {r : Nat → Int} {b B : Nat} {u v : World} (h : SixAt r b u) (hb : Below B u v) (hB : b < B) : SixAt r b v := by
  obtain ⟨h0, h1, h2, h3, h4, h5⟩ := h
  exact ⟨(hb.cell (p := ⟨b, 0, none⟩) hB).trans h0, (hb.cell (p := ⟨b, 1, none⟩) hB).trans h1, (hb.cell (p := ⟨b, 2, none⟩) hB).trans h2, (hb.cell (p := ⟨b, 3, none⟩) hB).trans h3, (hb.cell (p := ⟨b, 4, none⟩) hB).trans h4, (hb.cell (p := ⟨b, 5, none⟩) hB).trans h5⟩
theorem SixAt.new (r : Nat → Int) (w : World) (t : TypeId) : SixAt r w.heap.size (w.alloc (.cells (rulesCs r) t)) := by
  have c : ∀ j, (w.alloc (.cells (rulesCs r) t)).cell? ⟨w.heap.size, j, none⟩ = (rulesCs r)[j]? := fun j => cell_of_row _ _ _ _ _ _ (heap_alloc_new w _)
  exact ⟨c 0, c 1, c 2, c 3, c 4, c 5⟩
/-- the rules in their box, two garments, and what lay below -/
abbrev LB (r : Nat → Int) (w : World) (p p' : Addr) (x y : Gar) (u : World) : Prop := SixAt r w.heap.size u ∧ w.heap.size < u.heap.size ∧ Eight p p' x y w u
theorem LB.next {r : Nat → Int} {w u v : World} {p p' : Addr} {x y : Gar} (h : LB r w p p' x y u) (hp : p.block < w.heap.size) (hp' : p'.block < w.heap.size) (hb : Below u.heap.size u v) : LB r w p p' x y v :=
  ⟨h.1.to hb h.2.1, Nat.lt_of_lt_of_le h.2.1 hb.size, h.2.2.next hp hp' hb⟩
theorem l01Meet_v (r : Nat → Int) (hr : Six r) (a b : Gar) (ha : a.Fits) (hb : b.Fits) (ca : a.c < 6) (cb : b.c < 6) (w : World) (v : Bool) (hv : meetB r a b = v) :
    Calls Tryd.prog 61 #[rulesV r, a.v, b.v] w fun o w' => o = .returned (.bool v) ∧ Below w.heap.size w w' := by
  subst hv
  exact l01Meet_any r hr a b ha hb ca cb w
set_option maxRecDepth 100000 in
set_option maxHeartbeats 8000000 in
theorem l01Load_any (r : Nat → Int) (hr : Six r) (hold : Int) (A : Option Addr) (n c : Nat) (gs : List Gar) (hn : n = gs.length) (hs : n ≤ 1048576) (hc : ∀ x ∈ gs, x.c < 6) (w : World) (hg : GS w w.heap.size A gs) (b : Bool) (hb : b = true ↔ (Pairs r gs ∧ wAll gs ≤ hold)) :
    Calls Tryd.prog 31 #[rulesV r, .int .i64 hold, .slice A n c] w fun o w' => o = .returned (.bool b) ∧ Below w.heap.size w w' := by
  have Hn := Lib.hid hn
  have HB := Lib.hid hb
  clear hn hb
  have S0 := Lib.hid (SixAt.new r w 28)
  obtain ⟨s0, s1, s2, s3, s4, s5⟩ := S0.out
  have B0 := Lib.hid ((Below.refl w.heap.size w).alloc (Nat.le_refl _) (.cells (rulesCs r) 28))
  go_enter Tryd.func31, Tryd.ntmps31
  go_wp2_with fail
  go_loopw [7] (fun vi wr => ∃ i : Nat, i ≤ n ∧ vi = .int .i64 i ∧ (∀ a k x y, a < i → k < a → gs[a]? = some x → gs[k]? = some y → meetB r x y = true) ∧ SixAt r w.heap.size wr ∧ w.heap.size < wr.heap.size ∧ Below w.heap.size w wr) (fun vi _ => n - (intOf vi).toNat)
  case atStart => exact ⟨0, by omega, rfl, fun a k x y h => absurd h (by omega), S0.out, by simp, B0.out⟩
  case round =>
    clear s0 s1 s2 s3 s4 s5 B0 S0
    obtain ⟨i, hi, rfl, hp, h6, hz, hB⟩ := hrel
    obtain ⟨wo, rfl⟩ : ∃ wo, wo = wr := ⟨wr, rfl⟩
    have HP := Lib.hid hp
    have H6 := Lib.hid h6
    have HB2 := Lib.hid hB
    clear hp h6 hB
    by_cases hlt : i < n
    · obtain ⟨x, hx⟩ : ∃ x, gs[i]? = some x := ⟨gs[i]'(by have := Hn.out; omega), List.getElem?_eq_getElem _⟩
      have HX := Lib.hid hx
      clear hx
      go_wp2_with fail
      go_loopw [8] (fun vk wz => ∃ k : Nat, k ≤ i ∧ vk = .int .i64 k ∧ (∀ j y, j < k → gs[j]? = some y → meetB r x y = true) ∧ SixAt r w.heap.size wz ∧ w.heap.size < wz.heap.size ∧ Below w.heap.size w wz) (fun vk _ => i - (intOf vk).toNat)
      case atStart => exact ⟨0, by omega, rfl, fun j y h => absurd h (by omega), H6.out, hz, HB2.out⟩
      case round =>
        obtain ⟨k, hk, rfl, hq, h6, hz2, hB⟩ := hrel
        have HQ := Lib.hid hq
        by_cases hki : k < i
        · obtain ⟨y, hy⟩ : ∃ y, gs[k]? = some y := ⟨gs[k]'(by have := Hn.out; omega), List.getElem?_eq_getElem _⟩
          obtain ⟨a, ea, hab, hga⟩ := (hg.below hB).at_ i x HX.out
          obtain ⟨a', ea', hab', hga'⟩ := (hg.below hB).at_ k y hy
          have hp : (a.add (i * 4)).block < w.heap.size := by rw [block_add]; exact hab
          have hp' : (a'.add (k * 4)).block < w.heap.size := by rw [block_add]; exact hab'
          have L0 : Hid (LB r w (a.add (i * 4)) (a'.add (k * 4)) x y wr) := Lib.hid ⟨h6, hz2, hga.c0, hga.c1, hga.c2, hga.c3, hga'.c0, hga'.c1, hga'.c2, hga'.c3, hB⟩
          have hxf := hg.fits x (List.mem_of_getElem? HX.out)
          have hyf := hg.fits y (List.mem_of_getElem? hy)
          have hxc := hc x (List.mem_of_getElem? HX.out)
          have hyc := hc y (List.mem_of_getElem? hy)
          have HY := Lib.hid hy
          obtain rfl : a = a' := Option.some.inj (ea.symm.trans ea')
          subst ea
          clear hq h6 hB hga hga' hy ea'
          have z0 : (0 : Int) ≤ (k : Int) := by omega
          have z1 : (k : Int) < (n : Int) := by omega
          have z2 : (0 : Int) ≤ (i : Int) := by omega
          have z3 : (i : Int) < (n : Int) := by omega
          cases hv : meetB r x y with
          | true =>
            have HV := Lib.hid hv
            clear hv
            go_wp2_with fail
            go_region_held3 (fun u => LB r w (a.add (i * 4)) (a.add (k * 4)) x y u)
              (first | assumption | exact L0.out | exact L0.out.next hp hp' (below_drewN _ _ 1) | exact LB.next (by assumption) hp hp' hb2)
              (first
                | (go_at_call 61; refine (l01Meet_v r hr x y hxf hyf hxc hyc _ true HV.out).mono ?_; rintro o w2 ⟨rfl, hb2⟩)
                | fail)
            rename_i hS
            have HS := Lib.hid hS
            clear hS
            go_wp2_with fail
            go_roundw
            case rel => exact ⟨k + 1, by omega, by go_num, fun j z hj hz => by
              rcases Nat.lt_or_ge j k with h1 | h1
              · exact HQ.out j z h1 hz
              · obtain rfl : j = k := by omega
                have e := HY.out
                rw [hz] at e
                rw [Option.some.inj e]
                exact HV.out, HS.out.1, HS.out.2.1, HS.out.2.2.below⟩
            case measure => simp [intOf]; omega
          | false =>
            have HV := Lib.hid hv
            clear hv
            go_wp2_with fail
            go_region_held3 (fun u => LB r w (a.add (i * 4)) (a.add (k * 4)) x y u)
              (first | assumption | exact L0.out | exact L0.out.next hp hp' (below_drewN _ _ 1) | exact LB.next (by assumption) hp hp' hb2)
              (first
                | (go_at_call 61; refine (l01Meet_v r hr x y hxf hyf hxc hyc _ false HV.out).mono ?_; rintro o w2 ⟨rfl, hb2⟩)
                | fail)
            rename_i hS
            have HS := Lib.hid hS
            clear hS
            go_wp2_with fail
            go_ret
            refine ⟨?_, HS.out.2.2.below⟩
            have e : b = false := by
              cases eb : b with
              | false => rfl
              | true =>
                have h1 := (HB.out.1 eb).1 i k x y hki HX.out HY.out
                rw [HV.out] at h1
                cases h1
            rw [e]
            rfl
        · obtain rfl : k = i := by omega
          have H62 := Lib.hid h6
          have HB3 := Lib.hid hB
          clear h6 hB hq
          go_wp2_with fail
          go_roundw
          case rel => exact ⟨k + 1, by omega, by go_num, fun a j z y ha hj hz hy => by
            rcases Nat.lt_or_ge a k with h1 | h1
            · exact HP.out a j z y h1 hj hz hy
            · obtain rfl : a = k := by omega
              have e := HX.out
              rw [hz] at e
              rw [Option.some.inj e]
              exact HQ.out j y hj hy, H62.out, hz2, HB3.out⟩
          case measure => simp [intOf]; omega
    · obtain rfl : i = n := by omega
      have hbe : Hid (b = decide (wAll gs ≤ hold)) := Lib.hid (by
        have hpp : Pairs r gs := fun a k x y hk hx hy => HP.out a k x y (by have := (List.getElem?_eq_some_iff.1 hx).1; have := Hn.out; omega) hk hx hy
        rw [Bool.eq_iff_iff, HB.out]
        simp [hpp])
      go_wp2_with fail
      refine (l01Weight_any A i c gs Hn.out (by omega) _ w.heap.size (hg.below HB2.out)).mono ?_
      rintro o w2 ⟨rfl, rfl⟩
      go_wp2_with fail
      go_ret
      rw [hbe.out]
      exact ⟨rfl, HB2.out⟩
/-- the code of rules and garments, and whether numbers are as told -/
noncomputable def codeAsk (r : Nat → Int) (gs : List Gar) (fine : Bool) : Nat := if validRB r = true then codeAll gs fine else 1
theorem l01Rules_v (r : Nat → Int) (hr : Six r) (w : World) (v : Bool) (hv : validRB r = v) :
    Calls Tryd.prog 47 #[rulesV r] w fun e w' => e = .returned (.bool v) ∧ Below w.heap.size w w' := by
  subst hv
  exact rules.l01Rules_any r hr w
set_option maxHeartbeats 2000000 in
theorem l01Asked_any (r : Nat → Int) (hr : Six r) (A : Option Addr) (n c : Nat) (gs : List Gar) (hn : n = gs.length) (hs : n ≤ 1048576) (fine : Bool) (w : World) (hg : GS w w.heap.size A gs) (code : Nat) (hcode : code = codeAsk r gs fine) :
    Calls Tryd.prog 29 #[rulesV r, .slice A n c, .bool fine] w fun o w' => o = .returned (.int .i64 code) ∧ Below w.heap.size w w' := by
  have Hn := Lib.hid hn
  obtain ⟨s0, s1, s2, s3, s4, s5⟩ := SixAt.new r w 28
  have B0 := Lib.hid ((Below.refl w.heap.size w).alloc (Nat.le_refl _) (.cells (rulesCs r) 28))
  cases hv : validRB r with
  | true =>
    have HC : Hid (code = codeAll gs fine) := Lib.hid (by rw [hcode, codeAsk, if_pos hv])
    have HV := Lib.hid hv
    clear hn hcode hv
    go_enter Tryd.func29, Tryd.ntmps29
    go_wp2_with fail
    refine (l01Rules_v r hr _ true HV.out).mono ?_
    rintro o w1 ⟨rfl, hb1⟩
    have B1 := Lib.hid (below_next B0.out hb1 (Nat.le_refl _))
    clear hb1
    go_wp2_with fail
    refine (l01All_any A n c gs Hn.out hs fine _ ((hg.below B1.out).more B1.out.size)).mono ?_
    rintro o w2 ⟨rfl, hb2⟩
    have B2 := Lib.hid (below_next B1.out hb2 (Nat.le_refl _))
    clear hb2
    go_wp2_with fail
    go_ret
    rw [HC.out]
    exact ⟨rfl, B2.out⟩
  | false =>
    have HC : Hid (code = 1) := Lib.hid (by rw [hcode, codeAsk, if_neg (by rw [hv]; decide)])
    have HV := Lib.hid hv
    clear hn hcode hv
    go_enter Tryd.func29, Tryd.ntmps29
    go_wp2_with fail
    refine (l01Rules_v r hr _ false HV.out).mono ?_
    rintro o w1 ⟨rfl, hb1⟩
    have B1 := Lib.hid (below_next B0.out hb1 (Nat.le_refl _))
    clear hb1
    go_wp2_with fail
    go_ret
    rw [HC.out]
    exact ⟨rfl, B1.out⟩
theorem l01Hold_any (hold : Int) (w : World) (b : Bool) (hb : b = true ↔ (1 ≤ hold ∧ hold ≤ 20000)) :
    Calls Tryd.prog 30 #[.int .i64 hold] w fun o w' => o = .returned (.bool b) ∧ w' = w := by
  have e : b = hang.inB hold 1 20000 := by
    rw [Bool.eq_iff_iff, hb]
    exact hang.inB_iff.symm
  subst e
  go_enter Tryd.func30, Tryd.ntmps30
  go_wp2_with fail
  refine (hang.l00In_any _ _ _ _).mono ?_
  rintro o w1 ⟨rfl, rfl⟩
  go_wp2_with fail
  go_ret
  exact ⟨rfl, rfl⟩
end Go.Proofs.YtdafnibmoggcnaaDoor.load

/-
  Contracts of MayMeet, the model's and the program's.
-/
namespace Go.Proofs.YtdafnibmoggcnaaDoor.meet
open Go.RowKit errs garS

/-- may two garments be asked about -/
noncomputable def mayOk (r : Nat → Int) (a b : Gar) : Bool := validRB r && (a.valid && b.valid)
/-- what MayMeet tells -/
noncomputable abbrev mayV (r : Nat → Int) (a b : Gar) : Value := .tuple #[.bool (mayOk r a b && meetB r a b), .int .i64 (if mayOk r a b = true then 0 else 1)]
theorem may_no {r : Nat → Int} {a b : Gar} (h : mayOk r a b = false) : mayV r a b = .tuple #[.bool false, .int .i64 1] := by
  unfold mayV
  rw [h]
  rfl
theorem may_yes {r : Nat → Int} {a b : Gar} (h : mayOk r a b = true) : mayV r a b = .tuple #[.bool (meetB r a b), .int .i64 0] := by
  unfold mayV
  rw [h]
  rfl

/-- the world that MayMeet keeps: its three boxes, and the errors -/
abbrev MS (r : Nat → Int) (a b : Gar) (w : World) (B : Nat) (e : Nat → Addr) (x : World) : Prop :=
  x.cell? ⟨w.heap.size, 0, none⟩ = some (.int .u8 (r 0)) ∧ x.cell? ⟨w.heap.size, 1, none⟩ = some (.int .u8 (r 1)) ∧ x.cell? ⟨w.heap.size, 2, none⟩ = some (.int .u8 (r 2)) ∧ x.cell? ⟨w.heap.size, 3, none⟩ = some (.int .u8 (r 3)) ∧ x.cell? ⟨w.heap.size, 4, none⟩ = some (.int .u8 (r 4)) ∧ x.cell? ⟨w.heap.size, 5, none⟩ = some (.int .u8 (r 5)) ∧
  x.cell? ⟨w.heap.size + 1, 0, none⟩ = some (.int .u8 a.c) ∧ x.cell? ⟨w.heap.size + 1, 1, none⟩ = some (.int .i8 a.n) ∧ x.cell? ⟨w.heap.size + 1, 2, none⟩ = some (.int .i8 a.m) ∧ x.cell? ⟨w.heap.size + 1, 3, none⟩ = some (.int .i16 a.g) ∧
  x.cell? ⟨w.heap.size + 1 + 1, 0, none⟩ = some (.int .u8 b.c) ∧ x.cell? ⟨w.heap.size + 1 + 1, 1, none⟩ = some (.int .i8 b.n) ∧ x.cell? ⟨w.heap.size + 1 + 1, 2, none⟩ = some (.int .i8 b.m) ∧ x.cell? ⟨w.heap.size + 1 + 1, 3, none⟩ = some (.int .i16 b.g) ∧
  Boxes r a b w x ∧ Errs x B e

theorem MS.of {r : Nat → Int} {a b : Gar} {w : World} {B : Nat} {e : Nat → Addr} {x : World} (h : Boxes r a b w x) (he : Errs x B e) : MS r a b w B e x :=
  ⟨h.at_ (by decide), h.at_ (by decide), h.at_ (by decide), h.at_ (by decide), h.at_ (by decide), h.at_ (by decide), h.a0, h.a1, h.a2, h.a3, h.b0, h.b1, h.b2, h.b3, h, he⟩
theorem MS.boxes {r : Nat → Int} {a b : Gar} {w : World} {B : Nat} {e : Nat → Addr} {x : World} (h : MS r a b w B e x) : Boxes r a b w x := h.2.2.2.2.2.2.2.2.2.2.2.2.2.2.1
theorem MS.errs {r : Nat → Int} {a b : Gar} {w : World} {B : Nat} {e : Nat → Addr} {x : World} (h : MS r a b w B e x) : Errs x B e := h.2.2.2.2.2.2.2.2.2.2.2.2.2.2.2
theorem MS.next {r : Nat → Int} {a b : Gar} {w : World} {B : Nat} {e : Nat → Addr} {x y : World} (hB : B ≤ w.heap.size) (h : MS r a b w B e x) (hb : Below x.heap.size x y) : MS r a b w B e y :=
  have hs := h.boxes.size
  MS.of (h.boxes.next hb) (h.errs.below (hb.mono (by omega)))
theorem MS.alloc {r : Nat → Int} {a b : Gar} {w : World} {B : Nat} {e : Nat → Addr} {x : World} (hB : B ≤ w.heap.size) (h : MS r a b w B e x) (o : Obj) : MS r a b w B e (x.alloc o) :=
  MS.next hB h ((Below.refl _ _).alloc (Nat.le_refl _) o)
theorem MS.drewN {r : Nat → Int} {a b : Gar} {w : World} {B : Nat} {e : Nat → Addr} {x : World} (hB : B ≤ w.heap.size) (h : MS r a b w B e x) (n : Nat) : MS r a b w B e (x.drewN n) :=
  MS.next hB h (below_drewN _ _ _)
theorem MS.new (r : Nat → Int) (a b : Gar) (t u v : TypeId) {w : World} {B : Nat} {e : Nat → Addr} (hB : B ≤ w.heap.size) (h : Errs w B e) :
    MS r a b w B e (((w.alloc (.cells (rulesCs r) t)).alloc (.cells #[.int .u8 a.c, .int .i8 a.n, .int .i8 a.m, .int .i16 a.g] u)).alloc (.cells #[.int .u8 b.c, .int .i8 b.n, .int .i8 b.m, .int .i16 b.g] v)) :=
  have hx := Boxes.new r a b t u v w
  MS.of hx (h.below (hx.below.mono hB))

/-- two garments in a block just made -/
theorem gs2 (a b : Gar) (ha : a.Fits) (hb : b.Fits) (x : World) (t : TypeId) :
    GS (x.alloc (.cells #[.int .u8 a.c, .int .i8 a.n, .int .i8 a.m, .int .i16 a.g, .int .u8 b.c, .int .i8 b.n, .int .i8 b.m, .int .i16 b.g] t)) (x.alloc (.cells #[.int .u8 a.c, .int .i8 a.n, .int .i8 a.m, .int .i16 a.g, .int .u8 b.c, .int .i8 b.n, .int .i8 b.m, .int .i16 b.g] t)).heap.size (some ⟨x.heap.size, 0, none⟩) [a, b] := by
  have c : ∀ i, (x.alloc (.cells #[.int .u8 a.c, .int .i8 a.n, .int .i8 a.m, .int .i16 a.g, .int .u8 b.c, .int .i8 b.n, .int .i8 b.m, .int .i16 b.g] t)).cell? ⟨x.heap.size, i, none⟩ = _ := fun i => cell_of_row _ _ _ _ _ _ (heap_alloc_new x _)
  refine ⟨fun k y hk => ⟨_, rfl, by simp, ?_⟩, fun y hy => ?_⟩
  · match k, hk with
    | 0, hk =>
      obtain rfl : a = y := by simpa using hk
      exact ⟨c 0, c 1, c 2, c 3⟩
    | 1, hk =>
      obtain rfl : b = y := by simpa using hk
      exact ⟨c 4, c 5, c 6, c 7⟩
  · simp only [List.mem_cons, List.not_mem_nil, or_false] at hy
    rcases hy with rfl | rfl
    · exact ha
    · exact hb

theorem gs2' (a b : Gar) (ha : a.Fits) (hb : b.Fits) {x y : World} {t : TypeId} (h : Below (x.alloc (.cells #[.int .u8 a.c, .int .i8 a.n, .int .i8 a.m, .int .i16 a.g, .int .u8 b.c, .int .i8 b.n, .int .i8 b.m, .int .i16 b.g] t)).heap.size (x.alloc (.cells #[.int .u8 a.c, .int .i8 a.n, .int .i8 a.m, .int .i16 a.g, .int .u8 b.c, .int .i8 b.n, .int .i8 b.m, .int .i16 b.g] t)) y) {n : Nat} (hn : x.heap.size = n) :
    GS y y.heap.size (some ⟨n, 0, none⟩) [a, b] :=
  hn ▸ ((gs2 a b ha hb x t).below h).more h.size

theorem gs2d (a b : Gar) (ha : a.Fits) (hb : b.Fits) {x y : World} {t : TypeId} (h : Below (x.alloc (.cells #[.int .u8 a.c, .int .i8 a.n, .int .i8 a.m, .int .i16 a.g, .int .u8 b.c, .int .i8 b.n, .int .i8 b.m, .int .i16 b.g] t)).drew.heap.size (x.alloc (.cells #[.int .u8 a.c, .int .i8 a.n, .int .i8 a.m, .int .i16 a.g, .int .u8 b.c, .int .i8 b.n, .int .i8 b.m, .int .i16 b.g] t)).drew y) {n : Nat} (hn : x.heap.size = n) :
    GS y y.heap.size (some ⟨n, 0, none⟩) [a, b] :=
  hn ▸ ((gs2 a b ha hb x t).below ((Below.refl _ _).drew.trans h)).more h.size

theorem checkR (r : Nat → Int) (hr : Six r) (a b : Gar) {w : World} {B : Nat} {e : Nat → Addr} {x : World} (hS : MS r a b w B e x) (hB : B ≤ w.heap.size) (k : Nat) (hk : (if validRB r = true then 0 else 1) = k) (v : Value) (hv : errOf e k = v) :
    Calls Tryd.prog 34 #[rulesV r] x fun o w' => o = .returned v ∧ Below x.heap.size x w' := by
  have hs := hS.boxes.size
  subst hv
  exact checkRules_any r hr hS.errs (by omega) k hk.symm
theorem checkG (r : Nat → Int) (a b : Gar) {w : World} {B : Nat} {e : Nat → Addr} {x : World} (hS : MS r a b w B e x) (hB : B ≤ w.heap.size) {A : Option Addr} {c : Nat} (hg : GS x x.heap.size A [a, b]) (k : Nat) (hk : (if (a.valid && b.valid) = true then 0 else 1) = k) (v : Value) (hv : errOf e k = v) :
    Calls Tryd.prog 35 #[.slice A 2 c] x fun o w' => o = .returned v ∧ Below x.heap.size x w' := by
  have hs := hS.boxes.size
  subst hv
  exact checkGarments_any A 2 c [a, b] rfl (by decide) hS.errs (by omega) hg k (by rw [← hk]; simp)

theorem may_ok {r : Nat → Int} {a b : Gar} (h1 : (if validRB r = true then 0 else 1) = (0 : Nat)) (h2 : (if (a.valid && b.valid) = true then 0 else 1) = (0 : Nat)) : validRB r = true ∧ a.valid = true ∧ b.valid = true := by
  cases h : validRB r <;> cases h' : a.valid <;> cases h'' : b.valid <;> simp_all
theorem may_bad {r : Nat → Int} {a b : Gar} (h : (if validRB r = true then 0 else 1) = (1 : Nat) ∨ (if (a.valid && b.valid) = true then 0 else 1) = (1 : Nat)) : mayOk r a b = false := by
  unfold mayOk
  cases h1 : validRB r <;> cases h2 : a.valid <;> cases h3 : b.valid <;> simp_all

end Go.Proofs.YtdafnibmoggcnaaDoor.meet
