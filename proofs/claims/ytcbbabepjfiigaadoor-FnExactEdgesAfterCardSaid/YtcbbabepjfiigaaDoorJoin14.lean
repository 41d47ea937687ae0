/-
  Several texts of this proof, joined.
-/
import Derived.Test.YtcbbabepjfiigaaDoorJoin13
import Derived.Deep.RegionWith
import Derived.Laws.EntriesVeiled
import Derived.Test.YtcbbabepjfiigaaDoorJoin12
import Derived.Test.YtcbbabepjfiigaaDoorJoin11
/-
  Edges behind one fold, whichever: the program's function.
-/
namespace Go.Proofs.YtcbbabepjfiigaaDoor.fold
open Go Go.RowKit sl errs

/-- edges in a block of the call's own, and a place for the result -/
structure EB (x : Edg) (W u : World) : Prop where
  cs : u.rangeAt W.heap.size 0 x.cells
  fz : ∀ i, u.frozen? ⟨W.heap.size, i, none⟩ = false
  th : u.there (W.heap.size + 1) 0 4
  lt : W.heap.size + 1 < u.heap.size
  below : Below W.heap.size W u
theorem EB.next {x : Edg} {W u v : World} (h : EB x W u) (hb : Below u.heap.size u v) : EB x W v := by
  have hl := h.lt
  refine ⟨fun j y hj => (hb.cell (p := ⟨W.heap.size, 0 + j, none⟩) (by show W.heap.size < _; omega)).trans (h.cs j y hj), fun i => (hb.frozen (p := ⟨W.heap.size, i, none⟩) (by show W.heap.size < _; omega)).trans (h.fz i),
    fun j hj => ⟨by rw [hb.cell (p := ⟨W.heap.size + 1, 0 + j, none⟩) hl]; exact (h.th j hj).1, by rw [hb.frozen (p := ⟨W.heap.size + 1, 0 + j, none⟩) hl]; exact (h.th j hj).2⟩, Nat.lt_of_lt_of_le hl hb.size, below_next h.below hb (Nat.le_refl _)⟩
theorem EB.new (x : Edg) (w : World) (T T' : TypeId) : EB x w ((w.alloc (.cells #[.int .i64 x.l, .int .i64 x.r, .int .i64 x.u, .int .i64 x.d] T)).alloc (.cells #[.int .i64 0, .int .i64 0, .int .i64 0, .int .i64 0] T')) := by
  have hh : ((w.alloc (.cells #[.int .i64 x.l, .int .i64 x.r, .int .i64 x.u, .int .i64 x.d] T)).alloc (.cells #[.int .i64 0, .int .i64 0, .int .i64 0, .int .i64 0] T')).heap[w.heap.size]? = some (.cells #[.int .i64 x.l, .int .i64 x.r, .int .i64 x.u, .int .i64 x.d] T (0, 0)) := by
    rw [heap_alloc_old _ _ (by simp)]
    exact heap_alloc_new _ _
  refine ⟨fun j y hj => ?_, fun i => frozen_of_row _ _ i _ _ hh, there_new w _ [.int .i64 0, .int .i64 0, .int .i64 0, .int .i64 0] _ rfl, by simp, ((Below.refl _ _).alloc (Nat.le_refl _) _).alloc (by simp) _⟩
  rw [Nat.zero_add, cell_of_row _ _ _ _ _ _ hh]
  simpa using hj
theorem EB.cells {x : Edg} {W u : World} (h : EB x W u) : u.cell? ⟨W.heap.size, 0, none⟩ = some (.int .i64 x.l) ∧ u.cell? ⟨W.heap.size, 1, none⟩ = some (.int .i64 x.r) ∧ u.cell? ⟨W.heap.size, 2, none⟩ = some (.int .i64 x.u) ∧ u.cell? ⟨W.heap.size, 3, none⟩ = some (.int .i64 x.d) :=
  ⟨by simpa using h.cs 0 _ rfl, by simpa using h.cs 1 _ rfl, by simpa using h.cs 2 _ rfl, by simpa using h.cs 3 _ rfl⟩
theorem EB.place {x : Edg} {W u : World} (h : EB x W u) : ∃ v0 v1 v2 v3, u.cell? ⟨W.heap.size + 1, 0, none⟩ = some v0 ∧ u.cell? ⟨W.heap.size + 1, 1, none⟩ = some v1 ∧ u.cell? ⟨W.heap.size + 1, 2, none⟩ = some v2 ∧ u.cell? ⟨W.heap.size + 1, 3, none⟩ = some v3 ∧ u.frozen? ⟨W.heap.size + 1, 0, none⟩ = false ∧ u.frozen? ⟨W.heap.size + 1, 1, none⟩ = false ∧ u.frozen? ⟨W.heap.size + 1, 2, none⟩ = false ∧ u.frozen? ⟨W.heap.size + 1, 3, none⟩ = false := by
  obtain ⟨v0, h0⟩ := Option.isSome_iff_exists.1 (h.th 0 (by omega)).1
  obtain ⟨v1, h1⟩ := Option.isSome_iff_exists.1 (h.th 1 (by omega)).1
  obtain ⟨v2, h2⟩ := Option.isSome_iff_exists.1 (h.th 2 (by omega)).1
  obtain ⟨v3, h3⟩ := Option.isSome_iff_exists.1 (h.th 3 (by omega)).1
  exact ⟨v0, v1, v2, v3, by simpa using h0, by simpa using h1, by simpa using h2, by simpa using h3, by simpa using (h.th 0 (by omega)).2, by simpa using (h.th 1 (by omega)).2, by simpa using (h.th 2 (by omega)).2, by simpa using (h.th 3 (by omega)).2⟩
/-- one more is written -/
theorem EB.set4 {x : Edg} {W u : World} (h : EB x W u) (y : Edg) : EB y W ((((u.setCell ⟨W.heap.size, 0, none⟩ (.int .i64 y.l)).setCell ⟨W.heap.size, 1, none⟩ (.int .i64 y.r)).setCell ⟨W.heap.size, 2, none⟩ (.int .i64 y.u)).setCell ⟨W.heap.size, 3, none⟩ (.int .i64 y.d)) := by
  have ht : u.there W.heap.size 0 4 := fun j hj => by
    have hc : ∃ y, x.cells[j]? = some y := ⟨x.cells[j]'(by simpa using hj), List.getElem?_eq_getElem _⟩
    obtain ⟨y, hy⟩ := hc
    exact ⟨by rw [h.cs j y hy]; rfl, h.fz _⟩
  have f : ∀ (a : World) (p q : Addr) (v : Value), (a.setCell p v).frozen? q = a.frozen? q := fun a p q v => World.frozen?_setCell a p q v
  exact ⟨range4 ht, fun i => by rw [f, f, f, f]; exact h.fz i, there_set' (there_set' (there_set' (there_set' h.th))), by have := h.lt; simpa [World.setCell] using this, below_cells h.below (Nat.le_refl _) y.cells 0⟩
theorem EB.set1 {x y : Edg} {W u : World} (h : EB x W u) (k : Nat) (v : Int) (hk : k < 4) (hy : y.cells = x.cells.set k (.int .i64 v)) : EB y W (u.setCell ⟨W.heap.size, k, none⟩ (.int .i64 v)) := by
  refine ⟨fun j t hj => ?_, fun i => by rw [World.frozen?_setCell]; exact h.fz i, there_set' h.th, by have := h.lt; simpa [World.setCell] using this, h.below.setCell (p := ⟨W.heap.size, k, none⟩) (Nat.le_refl _) _⟩
  rw [hy] at hj
  have hc : ∃ t, x.cells[k]? = some t := ⟨x.cells[k]'(by simpa using hk), List.getElem?_eq_getElem _⟩
  obtain ⟨t0, ht0⟩ := hc
  by_cases e : j = k
  · subst e
    rw [List.getElem?_set_self (by simpa using hk)] at hj
    obtain rfl := Option.some.inj hj
    rw [Nat.zero_add]
    have h0 := h.cs j t0 ht0
    rw [Nat.zero_add] at h0
    exact World.cell?_setCell_same _ _ _ h0
  · rw [List.getElem?_set_ne (fun h => e h.symm)] at hj
    rw [Nat.zero_add, World.cell?_setCell_other _ _ _ _ (by simp only [ne_eq, Addr.mk.injEq, true_and, and_true]; omega)]
    have := h.cs j t hj
    rwa [Nat.zero_add] at this
theorem parts_w (n r : Int) (h : (n = 0 ∧ r = 2) ∨ (n = 1 ∧ r = 2) ∨ (n = 2 ∧ r = 3) ∨ (n = 3 ∧ r = 3)) (w : World) :
    Calls Tryd.prog 81 #[.int .u8 n] w fun o w' => o = .returned (.int .i64 r) ∧ w' = w := parts_q n r h w
/-- the sides along a fold, multiplied up to the side k -/
def mulE (n : Nat) (x : Edg) (k : Nat) : Edg :=
  match n with
  | 0 => ⟨x.l, x.r, if 2 < k then x.u * 2 else x.u, if 3 < k then x.d * 2 else x.d⟩
  | 1 => ⟨if 0 < k then x.l * 2 else x.l, if 1 < k then x.r * 2 else x.r, x.u, x.d⟩
  | 2 => ⟨x.l, x.r, if 2 < k then x.u * 3 else x.u, if 3 < k then x.d * 3 else x.d⟩
  | _ => ⟨if 0 < k then x.l * 3 else x.l, if 1 < k then x.r * 3 else x.r, x.u, x.d⟩
theorem mulE_start (n : Nat) (x : Edg) : mulE n x 0 = x := by
  unfold mulE
  split <;> simp
theorem mulE_end (n : Nat) (x : Edg) : mulE n (joinE n x) 4 = stepE n x := by
  unfold mulE joinE stepE
  split <;> simp
set_option maxRecDepth 100000 in
set_option maxHeartbeats 8000000 in
theorem edgesBehind_0 (x : Edg) (hx : x.In 1000000) (w : World) :
    Calls Tryd.prog 62 #[.int .u8 0, x.v] w fun o w' => o = .returned (stepE 0 x).v ∧ Below w.heap.size w w' := by
  have E0 := EB.new x w 43 43
  obtain ⟨i0, i1, i2, i3, i4, i5, i6, i7⟩ := hx
  have hm := joined_0 x.l x.r x.u x.d ⟨i0, by omega⟩ ⟨i2, by omega⟩ ⟨i4, by omega⟩ ⟨i6, by omega⟩
  obtain ⟨y, hy⟩ : ∃ y, joinE 0 x = y := ⟨_, rfl⟩
  have hs : stepE 0 x = mulE 0 y 4 := by rw [← hy, mulE_end]
  have hyb : 0 ≤ y.l ∧ y.l ≤ 2000000 ∧ 0 ≤ y.r ∧ y.r ≤ 2000000 ∧ 0 ≤ y.u ∧ y.u ≤ 2000000 ∧ 0 ≤ y.d ∧ y.d ≤ 2000000 := by
    rw [← hy]
    simp only [joinE]
    omega
  rw [hs]
  have HM : Hid (∀ u : World, Calls Tryd.prog 84 #[.int .u8 0, x.v] u fun o w' => o = .returned y.v ∧ Below u.heap.size u w') := Lib.hid (by rw [← hy]; exact hm)
  obtain ⟨yl, yr, yu, yd⟩ := y
  simp only at hyb
  obtain ⟨y0, y1, y2, y3, y4, y5, y6, y7⟩ := hyb
  have HE0 := Lib.hid (E0.next ((Below.refl _ _).alloc (Nat.le_refl _) (.cells #[.func (.func 84) #[] #[], .func (.func 84) #[] #[], .func (.func 85) #[] #[], .func (.func 85) #[] #[]] 110)))
  clear hs hm E0 hy
  go_enter Tryd.func62, Tryd.ntmps62
  go_wp2_with fail
  rename_i K hKw
  have HKW := Lib.hid hKw
  clear hKw
  have hK : ∀ U : World, EB ⟨yl, yr, yu, yd⟩ w U → K { tmps := #[.int .u8 0, x.v, undef, .pointer (some ⟨w.heap.size, 0, none⟩), .pointer (some ⟨w.heap.size + 1, 0, none⟩), .pointer (some ⟨w.heap.size + 1 + 1, 0, none⟩), undef, undef, undef, .agg #[.func (.func 84) #[] #[], .func (.func 84) #[] #[], .func (.func 85) #[] #[], .func (.func 85) #[] #[]], .int .u8 0, .pointer (some ⟨w.heap.size + 1 + 1, 0, none⟩), .func (.func 84) #[] #[], .int .u8 0, x.v, (⟨yl, yr, yu, yd⟩ : Edg).v, undef, undef, undef, undef, undef, undef, undef, undef, undef, undef, undef, undef, undef, undef, undef, undef, undef, undef, undef, undef, undef, undef, undef, undef, undef], defers := [] } U := by
    intro U hE
    apply HKW.out
    have HE := Lib.hid hE
    clear hE HKW HM HE0
    go_wp2_with fail
    refine (ends_any 0 0 (by decide) _).mono ?_
    rintro o u ⟨rfl, rfl⟩
    go_wp2_with fail
    go_loopw [21, 8] (fun vi _ wr => ∃ k : Nat, k ≤ 4 ∧ vi = .int .i64 k ∧ EB (mulE 0 ⟨yl, yr, yu, yd⟩ k) w wr) (fun vi _ _ => 4 - (intOf vi).toNat)
    case atStart => exact ⟨0, by omega, rfl, by rw [mulE_start]; exact HE.out⟩
    case round =>
      clear HE
      obtain ⟨k, hk, rfl, hE⟩ := hrel
      have HE := Lib.hid hE
      clear hE
      rcases (by omega : k = 0 ∨ k = 1 ∨ k = 2 ∨ k = 3 ∨ k = 4) with rfl | rfl | rfl | rfl | rfl
      · go_wp2_with fail
        go_roundw
        case rel => exact ⟨1, by omega, by go_num, HE.out⟩
        case measure => simp [intOf]
      · go_wp2_with fail
        go_roundw
        case rel => exact ⟨2, by omega, by go_num, HE.out⟩
        case measure => simp [intOf]
      · have q := HE.out.cells
        simp only [mulE] at q
        obtain ⟨q0, q1, q2, q3⟩ := q
        simp at q0 q1 q2 q3
        have f2 := HE.out.fz 2
        have t1 : IntKind.i64.wrap (yu * 2) = yu * 2 := IntWalk.i64_in _ (by omega)
        have t2 : wrap64 (yu * 2) = yu * 2 := by unfold wrap64; omega
        go_wp2_with fail
        refine region_still 7 (by kernel_rfl) ?_
        simp only [List.take_succ_cons, List.take_zero, List.drop_succ_cons, List.drop_zero]
        repeat still_step
        still_call (parts_q 0 2 (by decide) _)
        repeat still_step
        refine wpStill_nil ?_
        go_wp2_with fail
        go_roundw
        case rel => exact ⟨3, by omega, by go_num, EB.set1 (x := mulE 0 ⟨yl, yr, yu, yd⟩ 2) (HE.out.next (below_drewN _ _ 1)) 2 (yu * 2) (by omega) rfl⟩
        case measure => simp [intOf]
      · have q := HE.out.cells
        simp only [mulE] at q
        obtain ⟨q0, q1, q2, q3⟩ := q
        simp at q0 q1 q2 q3
        have f3 := HE.out.fz 3
        have t1 : IntKind.i64.wrap (yd * 2) = yd * 2 := IntWalk.i64_in _ (by omega)
        have t2 : wrap64 (yd * 2) = yd * 2 := by unfold wrap64; omega
        go_wp2_with fail
        refine region_still 7 (by kernel_rfl) ?_
        simp only [List.take_succ_cons, List.take_zero, List.drop_succ_cons, List.drop_zero]
        repeat still_step
        still_call (parts_q 0 2 (by decide) _)
        repeat still_step
        refine wpStill_nil ?_
        go_wp2_with fail
        go_roundw
        case rel => exact ⟨4, by omega, by go_num, EB.set1 (x := mulE 0 ⟨yl, yr, yu, yd⟩ 3) (HE.out.next (below_drewN _ _ 1)) 3 (yd * 2) (by omega) rfl⟩
        case measure => simp [intOf]
      · obtain ⟨q0, q1, q2, q3⟩ := HE.out.cells
        obtain ⟨v0, v1, v2, v3, p0, p1, p2, p3, f0, f1, f2, f3⟩ := HE.out.place
        obtain ⟨z, hz⟩ : ∃ z, mulE 0 ⟨yl, yr, yu, yd⟩ 4 = z := ⟨_, rfl⟩
        rw [hz] at q0 q1 q2 q3 HE
        have HZ := Lib.hid hz
        clear hz
        go_wp2_with fail
        refine bodyPost_ret (v := z.v) ?h1 rfl ⟨by rw [← HZ.out], ?h2⟩
        case h1 => exact results_row (b := w.heap.size + 1) (cs := z.cells) Tryd.results62 rfl (range4 HE.out.th) Tryd.underlying43 rfl (by kernel_rfl)
        case h2 => exact below_cells HE.out.below (show w.heap.size ≤ w.heap.size + 1 by omega) z.cells 0
  have HK := Lib.hid hK
  clear hK HKW
  go_region_with ((go_at_call 84; refine (HM.out _).mono ?_; rintro o u1 ⟨rfl, hb⟩; have E1 := Lib.hid ((HE0.out.next (below_drewN _ _ 1)).next hb); obtain ⟨q0, q1, q2, q3⟩ := E1.out.cells; have f0 := E1.out.fz 0; have f1 := E1.out.fz 1; have f2 := E1.out.fz 2; have f3 := E1.out.fz 3))
  all_goals (try simp only [Act.put, List.getElem_toArray, List.getElem_cons_zero, List.getElem_cons_succ, List.setIfInBounds_toArray, List.set_cons_zero, List.set_cons_succ])
  all_goals exact HK.out _ (E1.out.set4 ⟨yl, yr, yu, yd⟩)
set_option maxRecDepth 100000 in
set_option maxHeartbeats 8000000 in
theorem edgesBehind_1 (x : Edg) (hx : x.In 1000000) (w : World) :
    Calls Tryd.prog 62 #[.int .u8 1, x.v] w fun o w' => o = .returned (stepE 1 x).v ∧ Below w.heap.size w w' := by
  have E0 := EB.new x w 43 43
  obtain ⟨i0, i1, i2, i3, i4, i5, i6, i7⟩ := hx
  have hm := joined_1 x.l x.r x.u x.d ⟨i0, by omega⟩ ⟨i2, by omega⟩ ⟨i4, by omega⟩ ⟨i6, by omega⟩
  obtain ⟨y, hy⟩ : ∃ y, joinE 1 x = y := ⟨_, rfl⟩
  have hs : stepE 1 x = mulE 1 y 4 := by rw [← hy, mulE_end]
  have hyb : 0 ≤ y.l ∧ y.l ≤ 2000000 ∧ 0 ≤ y.r ∧ y.r ≤ 2000000 ∧ 0 ≤ y.u ∧ y.u ≤ 2000000 ∧ 0 ≤ y.d ∧ y.d ≤ 2000000 := by
    rw [← hy]
    simp only [joinE]
    omega
  rw [hs]
  have HM : Hid (∀ u : World, Calls Tryd.prog 84 #[.int .u8 1, x.v] u fun o w' => o = .returned y.v ∧ Below u.heap.size u w') := Lib.hid (by rw [← hy]; exact hm)
  obtain ⟨yl, yr, yu, yd⟩ := y
  simp only at hyb
  obtain ⟨y0, y1, y2, y3, y4, y5, y6, y7⟩ := hyb
  have HE0 := Lib.hid (E0.next ((Below.refl _ _).alloc (Nat.le_refl _) (.cells #[.func (.func 84) #[] #[], .func (.func 84) #[] #[], .func (.func 85) #[] #[], .func (.func 85) #[] #[]] 110)))
  clear hs hm E0 hy
  go_enter Tryd.func62, Tryd.ntmps62
  go_wp2_with fail
  rename_i K hKw
  have HKW := Lib.hid hKw
  clear hKw
  have hK : ∀ U : World, EB ⟨yl, yr, yu, yd⟩ w U → K { tmps := #[.int .u8 1, x.v, undef, .pointer (some ⟨w.heap.size, 0, none⟩), .pointer (some ⟨w.heap.size + 1, 0, none⟩), .pointer (some ⟨w.heap.size + 1 + 1, 0, none⟩), undef, undef, undef, .agg #[.func (.func 84) #[] #[], .func (.func 84) #[] #[], .func (.func 85) #[] #[], .func (.func 85) #[] #[]], .int .u8 1, .pointer (some ⟨w.heap.size + 1 + 1, 1, none⟩), .func (.func 84) #[] #[], .int .u8 1, x.v, (⟨yl, yr, yu, yd⟩ : Edg).v, undef, undef, undef, undef, undef, undef, undef, undef, undef, undef, undef, undef, undef, undef, undef, undef, undef, undef, undef, undef, undef, undef, undef, undef, undef], defers := [] } U := by
    intro U hE
    apply HKW.out
    have HE := Lib.hid hE
    clear hE HKW HM HE0
    go_wp2_with fail
    refine (ends_any 1 2 (by decide) _).mono ?_
    rintro o u ⟨rfl, rfl⟩
    go_wp2_with fail
    go_loopw [21, 8] (fun vi _ wr => ∃ k : Nat, k ≤ 4 ∧ vi = .int .i64 k ∧ EB (mulE 1 ⟨yl, yr, yu, yd⟩ k) w wr) (fun vi _ _ => 4 - (intOf vi).toNat)
    case atStart => exact ⟨0, by omega, rfl, by rw [mulE_start]; exact HE.out⟩
    case round =>
      clear HE
      obtain ⟨k, hk, rfl, hE⟩ := hrel
      have HE := Lib.hid hE
      clear hE
      rcases (by omega : k = 0 ∨ k = 1 ∨ k = 2 ∨ k = 3 ∨ k = 4) with rfl | rfl | rfl | rfl | rfl
      · have q := HE.out.cells
        simp only [mulE] at q
        obtain ⟨q0, q1, q2, q3⟩ := q
        simp at q0 q1 q2 q3
        have f0 := HE.out.fz 0
        have t1 : IntKind.i64.wrap (yl * 2) = yl * 2 := IntWalk.i64_in _ (by omega)
        have t2 : wrap64 (yl * 2) = yl * 2 := by unfold wrap64; omega
        go_wp2_with fail
        refine region_still 7 (by kernel_rfl) ?_
        simp only [List.take_succ_cons, List.take_zero, List.drop_succ_cons, List.drop_zero]
        repeat still_step
        still_call (parts_q 1 2 (by decide) _)
        repeat still_step
        refine wpStill_nil ?_
        go_wp2_with fail
        go_roundw
        case rel => exact ⟨1, by omega, by go_num, EB.set1 (x := mulE 1 ⟨yl, yr, yu, yd⟩ 0) (HE.out.next (below_drewN _ _ 1)) 0 (yl * 2) (by omega) rfl⟩
        case measure => simp [intOf]
      · have q := HE.out.cells
        simp only [mulE] at q
        obtain ⟨q0, q1, q2, q3⟩ := q
        simp at q0 q1 q2 q3
        have f1 := HE.out.fz 1
        have t1 : IntKind.i64.wrap (yr * 2) = yr * 2 := IntWalk.i64_in _ (by omega)
        have t2 : wrap64 (yr * 2) = yr * 2 := by unfold wrap64; omega
        go_wp2_with fail
        refine region_still 7 (by kernel_rfl) ?_
        simp only [List.take_succ_cons, List.take_zero, List.drop_succ_cons, List.drop_zero]
        repeat still_step
        still_call (parts_q 1 2 (by decide) _)
        repeat still_step
        refine wpStill_nil ?_
        go_wp2_with fail
        go_roundw
        case rel => exact ⟨2, by omega, by go_num, EB.set1 (x := mulE 1 ⟨yl, yr, yu, yd⟩ 1) (HE.out.next (below_drewN _ _ 1)) 1 (yr * 2) (by omega) rfl⟩
        case measure => simp [intOf]
      · go_wp2_with fail
        go_roundw
        case rel => exact ⟨3, by omega, by go_num, HE.out⟩
        case measure => simp [intOf]
      · go_wp2_with fail
        go_roundw
        case rel => exact ⟨4, by omega, by go_num, HE.out⟩
        case measure => simp [intOf]
      · obtain ⟨q0, q1, q2, q3⟩ := HE.out.cells
        obtain ⟨v0, v1, v2, v3, p0, p1, p2, p3, f0, f1, f2, f3⟩ := HE.out.place
        obtain ⟨z, hz⟩ : ∃ z, mulE 1 ⟨yl, yr, yu, yd⟩ 4 = z := ⟨_, rfl⟩
        rw [hz] at q0 q1 q2 q3 HE
        have HZ := Lib.hid hz
        clear hz
        go_wp2_with fail
        refine bodyPost_ret (v := z.v) ?h1 rfl ⟨by rw [← HZ.out], ?h2⟩
        case h1 => exact results_row (b := w.heap.size + 1) (cs := z.cells) Tryd.results62 rfl (range4 HE.out.th) Tryd.underlying43 rfl (by kernel_rfl)
        case h2 => exact below_cells HE.out.below (show w.heap.size ≤ w.heap.size + 1 by omega) z.cells 0
  have HK := Lib.hid hK
  clear hK HKW
  go_region_with ((go_at_call 84; refine (HM.out _).mono ?_; rintro o u1 ⟨rfl, hb⟩; have E1 := Lib.hid ((HE0.out.next (below_drewN _ _ 1)).next hb); obtain ⟨q0, q1, q2, q3⟩ := E1.out.cells; have f0 := E1.out.fz 0; have f1 := E1.out.fz 1; have f2 := E1.out.fz 2; have f3 := E1.out.fz 3))
  all_goals (try simp only [Act.put, List.getElem_toArray, List.getElem_cons_zero, List.getElem_cons_succ, List.setIfInBounds_toArray, List.set_cons_zero, List.set_cons_succ])
  all_goals exact HK.out _ (E1.out.set4 ⟨yl, yr, yu, yd⟩)
set_option maxRecDepth 100000 in
set_option maxHeartbeats 8000000 in
theorem edgesBehind_2 (x : Edg) (hx : x.In 1000000) (w : World) :
    Calls Tryd.prog 62 #[.int .u8 2, x.v] w fun o w' => o = .returned (stepE 2 x).v ∧ Below w.heap.size w w' := by
  have E0 := EB.new x w 43 43
  obtain ⟨i0, i1, i2, i3, i4, i5, i6, i7⟩ := hx
  have hm := swapped_2 x.l x.r x.u x.d ⟨i0, by omega⟩ ⟨i2, by omega⟩ ⟨i4, by omega⟩ ⟨i6, by omega⟩
  obtain ⟨y, hy⟩ : ∃ y, joinE 2 x = y := ⟨_, rfl⟩
  have hs : stepE 2 x = mulE 2 y 4 := by rw [← hy, mulE_end]
  have hyb : 0 ≤ y.l ∧ y.l ≤ 2000000 ∧ 0 ≤ y.r ∧ y.r ≤ 2000000 ∧ 0 ≤ y.u ∧ y.u ≤ 2000000 ∧ 0 ≤ y.d ∧ y.d ≤ 2000000 := by
    rw [← hy]
    simp only [joinE]
    omega
  rw [hs]
  have HM : Hid (∀ u : World, Calls Tryd.prog 85 #[.int .u8 2, x.v] u fun o w' => o = .returned y.v ∧ Below u.heap.size u w') := Lib.hid (by rw [← hy]; exact hm)
  obtain ⟨yl, yr, yu, yd⟩ := y
  simp only at hyb
  obtain ⟨y0, y1, y2, y3, y4, y5, y6, y7⟩ := hyb
  have HE0 := Lib.hid (E0.next ((Below.refl _ _).alloc (Nat.le_refl _) (.cells #[.func (.func 84) #[] #[], .func (.func 84) #[] #[], .func (.func 85) #[] #[], .func (.func 85) #[] #[]] 110)))
  clear hs hm E0 hy
  go_enter Tryd.func62, Tryd.ntmps62
  go_wp2_with fail
  rename_i K hKw
  have HKW := Lib.hid hKw
  clear hKw
  have hK : ∀ U : World, EB ⟨yl, yr, yu, yd⟩ w U → K { tmps := #[.int .u8 2, x.v, undef, .pointer (some ⟨w.heap.size, 0, none⟩), .pointer (some ⟨w.heap.size + 1, 0, none⟩), .pointer (some ⟨w.heap.size + 1 + 1, 0, none⟩), undef, undef, undef, .agg #[.func (.func 84) #[] #[], .func (.func 84) #[] #[], .func (.func 85) #[] #[], .func (.func 85) #[] #[]], .int .u8 2, .pointer (some ⟨w.heap.size + 1 + 1, 2, none⟩), .func (.func 85) #[] #[], .int .u8 2, x.v, (⟨yl, yr, yu, yd⟩ : Edg).v, undef, undef, undef, undef, undef, undef, undef, undef, undef, undef, undef, undef, undef, undef, undef, undef, undef, undef, undef, undef, undef, undef, undef, undef, undef], defers := [] } U := by
    intro U hE
    apply HKW.out
    have HE := Lib.hid hE
    clear hE HKW HM HE0
    go_wp2_with fail
    refine (ends_any 2 0 (by decide) _).mono ?_
    rintro o u ⟨rfl, rfl⟩
    go_wp2_with fail
    go_loopw [21, 8] (fun vi _ wr => ∃ k : Nat, k ≤ 4 ∧ vi = .int .i64 k ∧ EB (mulE 2 ⟨yl, yr, yu, yd⟩ k) w wr) (fun vi _ _ => 4 - (intOf vi).toNat)
    case atStart => exact ⟨0, by omega, rfl, by rw [mulE_start]; exact HE.out⟩
    case round =>
      clear HE
      obtain ⟨k, hk, rfl, hE⟩ := hrel
      have HE := Lib.hid hE
      clear hE
      rcases (by omega : k = 0 ∨ k = 1 ∨ k = 2 ∨ k = 3 ∨ k = 4) with rfl | rfl | rfl | rfl | rfl
      · go_wp2_with fail
        go_roundw
        case rel => exact ⟨1, by omega, by go_num, HE.out⟩
        case measure => simp [intOf]
      · go_wp2_with fail
        go_roundw
        case rel => exact ⟨2, by omega, by go_num, HE.out⟩
        case measure => simp [intOf]
      · have q := HE.out.cells
        simp only [mulE] at q
        obtain ⟨q0, q1, q2, q3⟩ := q
        simp at q0 q1 q2 q3
        have f2 := HE.out.fz 2
        have t1 : IntKind.i64.wrap (yu * 3) = yu * 3 := IntWalk.i64_in _ (by omega)
        have t2 : wrap64 (yu * 3) = yu * 3 := by unfold wrap64; omega
        go_wp2_with fail
        refine region_still 7 (by kernel_rfl) ?_
        simp only [List.take_succ_cons, List.take_zero, List.drop_succ_cons, List.drop_zero]
        repeat still_step
        still_call (parts_q 2 3 (by decide) _)
        repeat still_step
        refine wpStill_nil ?_
        go_wp2_with fail
        go_roundw
        case rel => exact ⟨3, by omega, by go_num, EB.set1 (x := mulE 2 ⟨yl, yr, yu, yd⟩ 2) (HE.out.next (below_drewN _ _ 1)) 2 (yu * 3) (by omega) rfl⟩
        case measure => simp [intOf]
      · have q := HE.out.cells
        simp only [mulE] at q
        obtain ⟨q0, q1, q2, q3⟩ := q
        simp at q0 q1 q2 q3
        have f3 := HE.out.fz 3
        have t1 : IntKind.i64.wrap (yd * 3) = yd * 3 := IntWalk.i64_in _ (by omega)
        have t2 : wrap64 (yd * 3) = yd * 3 := by unfold wrap64; omega
        go_wp2_with fail
        refine region_still 7 (by kernel_rfl) ?_
        simp only [List.take_succ_cons, List.take_zero, List.drop_succ_cons, List.drop_zero]
        repeat still_step
        still_call (parts_q 2 3 (by decide) _)
        repeat still_step
        refine wpStill_nil ?_
        go_wp2_with fail
        go_roundw
        case rel => exact ⟨4, by omega, by go_num, EB.set1 (x := mulE 2 ⟨yl, yr, yu, yd⟩ 3) (HE.out.next (below_drewN _ _ 1)) 3 (yd * 3) (by omega) rfl⟩
        case measure => simp [intOf]
      · obtain ⟨q0, q1, q2, q3⟩ := HE.out.cells
        obtain ⟨v0, v1, v2, v3, p0, p1, p2, p3, f0, f1, f2, f3⟩ := HE.out.place
        obtain ⟨z, hz⟩ : ∃ z, mulE 2 ⟨yl, yr, yu, yd⟩ 4 = z := ⟨_, rfl⟩
        rw [hz] at q0 q1 q2 q3 HE
        have HZ := Lib.hid hz
        clear hz
        go_wp2_with fail
        refine bodyPost_ret (v := z.v) ?h1 rfl ⟨by rw [← HZ.out], ?h2⟩
        case h1 => exact results_row (b := w.heap.size + 1) (cs := z.cells) Tryd.results62 rfl (range4 HE.out.th) Tryd.underlying43 rfl (by kernel_rfl)
        case h2 => exact below_cells HE.out.below (show w.heap.size ≤ w.heap.size + 1 by omega) z.cells 0
  have HK := Lib.hid hK
  clear hK HKW
  go_region_with ((go_at_call 85; refine (HM.out _).mono ?_; rintro o u1 ⟨rfl, hb⟩; have E1 := Lib.hid ((HE0.out.next (below_drewN _ _ 1)).next hb); obtain ⟨q0, q1, q2, q3⟩ := E1.out.cells; have f0 := E1.out.fz 0; have f1 := E1.out.fz 1; have f2 := E1.out.fz 2; have f3 := E1.out.fz 3))
  all_goals (try simp only [Act.put, List.getElem_toArray, List.getElem_cons_zero, List.getElem_cons_succ, List.setIfInBounds_toArray, List.set_cons_zero, List.set_cons_succ])
  all_goals exact HK.out _ (E1.out.set4 ⟨yl, yr, yu, yd⟩)
set_option maxRecDepth 100000 in
set_option maxHeartbeats 8000000 in
theorem edgesBehind_3 (x : Edg) (hx : x.In 1000000) (w : World) :
    Calls Tryd.prog 62 #[.int .u8 3, x.v] w fun o w' => o = .returned (stepE 3 x).v ∧ Below w.heap.size w w' := by
  have E0 := EB.new x w 43 43
  obtain ⟨i0, i1, i2, i3, i4, i5, i6, i7⟩ := hx
  have hm := swapped_3 x.l x.r x.u x.d ⟨i0, by omega⟩ ⟨i2, by omega⟩ ⟨i4, by omega⟩ ⟨i6, by omega⟩
  obtain ⟨y, hy⟩ : ∃ y, joinE 3 x = y := ⟨_, rfl⟩
  have hs : stepE 3 x = mulE 3 y 4 := by rw [← hy, mulE_end]
  have hyb : 0 ≤ y.l ∧ y.l ≤ 2000000 ∧ 0 ≤ y.r ∧ y.r ≤ 2000000 ∧ 0 ≤ y.u ∧ y.u ≤ 2000000 ∧ 0 ≤ y.d ∧ y.d ≤ 2000000 := by
    rw [← hy]
    simp only [joinE]
    omega
  rw [hs]
  have HM : Hid (∀ u : World, Calls Tryd.prog 85 #[.int .u8 3, x.v] u fun o w' => o = .returned y.v ∧ Below u.heap.size u w') := Lib.hid (by rw [← hy]; exact hm)
  obtain ⟨yl, yr, yu, yd⟩ := y
  simp only at hyb
  obtain ⟨y0, y1, y2, y3, y4, y5, y6, y7⟩ := hyb
  have HE0 := Lib.hid (E0.next ((Below.refl _ _).alloc (Nat.le_refl _) (.cells #[.func (.func 84) #[] #[], .func (.func 84) #[] #[], .func (.func 85) #[] #[], .func (.func 85) #[] #[]] 110)))
  clear hs hm E0 hy
  go_enter Tryd.func62, Tryd.ntmps62
  go_wp2_with fail
  rename_i K hKw
  have HKW := Lib.hid hKw
  clear hKw
  have hK : ∀ U : World, EB ⟨yl, yr, yu, yd⟩ w U → K { tmps := #[.int .u8 3, x.v, undef, .pointer (some ⟨w.heap.size, 0, none⟩), .pointer (some ⟨w.heap.size + 1, 0, none⟩), .pointer (some ⟨w.heap.size + 1 + 1, 0, none⟩), undef, undef, undef, .agg #[.func (.func 84) #[] #[], .func (.func 84) #[] #[], .func (.func 85) #[] #[], .func (.func 85) #[] #[]], .int .u8 3, .pointer (some ⟨w.heap.size + 1 + 1, 3, none⟩), .func (.func 85) #[] #[], .int .u8 3, x.v, (⟨yl, yr, yu, yd⟩ : Edg).v, undef, undef, undef, undef, undef, undef, undef, undef, undef, undef, undef, undef, undef, undef, undef, undef, undef, undef, undef, undef, undef, undef, undef, undef, undef], defers := [] } U := by
    intro U hE
    apply HKW.out
    have HE := Lib.hid hE
    clear hE HKW HM HE0
    go_wp2_with fail
    refine (ends_any 3 2 (by decide) _).mono ?_
    rintro o u ⟨rfl, rfl⟩
    go_wp2_with fail
    go_loopw [21, 8] (fun vi _ wr => ∃ k : Nat, k ≤ 4 ∧ vi = .int .i64 k ∧ EB (mulE 3 ⟨yl, yr, yu, yd⟩ k) w wr) (fun vi _ _ => 4 - (intOf vi).toNat)
    case atStart => exact ⟨0, by omega, rfl, by rw [mulE_start]; exact HE.out⟩
    case round =>
      clear HE
      obtain ⟨k, hk, rfl, hE⟩ := hrel
      have HE := Lib.hid hE
      clear hE
      rcases (by omega : k = 0 ∨ k = 1 ∨ k = 2 ∨ k = 3 ∨ k = 4) with rfl | rfl | rfl | rfl | rfl
      · have q := HE.out.cells
        simp only [mulE] at q
        obtain ⟨q0, q1, q2, q3⟩ := q
        simp at q0 q1 q2 q3
        have f0 := HE.out.fz 0
        have t1 : IntKind.i64.wrap (yl * 3) = yl * 3 := IntWalk.i64_in _ (by omega)
        have t2 : wrap64 (yl * 3) = yl * 3 := by unfold wrap64; omega
        go_wp2_with fail
        refine region_still 7 (by kernel_rfl) ?_
        simp only [List.take_succ_cons, List.take_zero, List.drop_succ_cons, List.drop_zero]
        repeat still_step
        still_call (parts_q 3 3 (by decide) _)
        repeat still_step
        refine wpStill_nil ?_
        go_wp2_with fail
        go_roundw
        case rel => exact ⟨1, by omega, by go_num, EB.set1 (x := mulE 3 ⟨yl, yr, yu, yd⟩ 0) (HE.out.next (below_drewN _ _ 1)) 0 (yl * 3) (by omega) rfl⟩
        case measure => simp [intOf]
      · have q := HE.out.cells
        simp only [mulE] at q
        obtain ⟨q0, q1, q2, q3⟩ := q
        simp at q0 q1 q2 q3
        have f1 := HE.out.fz 1
        have t1 : IntKind.i64.wrap (yr * 3) = yr * 3 := IntWalk.i64_in _ (by omega)
        have t2 : wrap64 (yr * 3) = yr * 3 := by unfold wrap64; omega
        go_wp2_with fail
        refine region_still 7 (by kernel_rfl) ?_
        simp only [List.take_succ_cons, List.take_zero, List.drop_succ_cons, List.drop_zero]
        repeat still_step
        still_call (parts_q 3 3 (by decide) _)
        repeat still_step
        refine wpStill_nil ?_
        go_wp2_with fail
        go_roundw
        case rel => exact ⟨2, by omega, by go_num, EB.set1 (x := mulE 3 ⟨yl, yr, yu, yd⟩ 1) (HE.out.next (below_drewN _ _ 1)) 1 (yr * 3) (by omega) rfl⟩
        case measure => simp [intOf]
      · go_wp2_with fail
        go_roundw
        case rel => exact ⟨3, by omega, by go_num, HE.out⟩
        case measure => simp [intOf]
      · go_wp2_with fail
        go_roundw
        case rel => exact ⟨4, by omega, by go_num, HE.out⟩
        case measure => simp [intOf]
      · obtain ⟨q0, q1, q2, q3⟩ := HE.out.cells
        obtain ⟨v0, v1, v2, v3, p0, p1, p2, p3, f0, f1, f2, f3⟩ := HE.out.place
        obtain ⟨z, hz⟩ : ∃ z, mulE 3 ⟨yl, yr, yu, yd⟩ 4 = z := ⟨_, rfl⟩
        rw [hz] at q0 q1 q2 q3 HE
        have HZ := Lib.hid hz
        clear hz
        go_wp2_with fail
        refine bodyPost_ret (v := z.v) ?h1 rfl ⟨by rw [← HZ.out], ?h2⟩
        case h1 => exact results_row (b := w.heap.size + 1) (cs := z.cells) Tryd.results62 rfl (range4 HE.out.th) Tryd.underlying43 rfl (by kernel_rfl)
        case h2 => exact below_cells HE.out.below (show w.heap.size ≤ w.heap.size + 1 by omega) z.cells 0
  have HK := Lib.hid hK
  clear hK HKW
  go_region_with ((go_at_call 85; refine (HM.out _).mono ?_; rintro o u1 ⟨rfl, hb⟩; have E1 := Lib.hid ((HE0.out.next (below_drewN _ _ 1)).next hb); obtain ⟨q0, q1, q2, q3⟩ := E1.out.cells; have f0 := E1.out.fz 0; have f1 := E1.out.fz 1; have f2 := E1.out.fz 2; have f3 := E1.out.fz 3))
  all_goals (try simp only [Act.put, List.getElem_toArray, List.getElem_cons_zero, List.getElem_cons_succ, List.setIfInBounds_toArray, List.set_cons_zero, List.set_cons_succ])
  all_goals exact HK.out _ (E1.out.set4 ⟨yl, yr, yu, yd⟩)
end Go.Proofs.YtcbbabepjfiigaaDoor.fold

/-
  EdgesAfter, the program's.
-/
namespace Go.Proofs.YtcbbabepjfiigaaDoor.fold
open Go Go.RowKit sl errs

theorem edgesBehind_any (n : Nat) (hn : n ≤ 3) (x : Edg) (hx : x.In 1000000) (w : World) :
    Calls Tryd.prog 62 #[.int .u8 n, x.v] w fun o w' => o = .returned (stepE n x).v ∧ Below w.heap.size w w' := by
  match n, hn with
  | 0, _ => exact edgesBehind_0 x hx w
  | 1, _ => exact edgesBehind_1 x hx w
  | 2, _ => exact edgesBehind_2 x hx w
  | 3, _ => exact edgesBehind_3 x hx w
/-- edges behind some folds -/
def edgesOf (x : Edg) (ks : List Int) : Edg := ks.foldl (fun e k => stepE k.toNat e) x
abbrev oneE : Edg := ⟨1, 1, 1, 1⟩
theorem edgesOf_snoc (x : Edg) (ks : List Int) (k : Int) : edgesOf x (ks ++ [k]) = stepE k.toNat (edgesOf x ks) := by simp [edgesOf]
theorem snoc_ind' {α : Type} {P : List α → Prop} (h0 : P []) (h1 : ∀ xs x, P xs → P (xs ++ [x])) (xs : List α) : P xs := by
  have : ∀ ys : List α, P ys.reverse := fun ys => by
    induction ys with
    | nil => exact h0
    | cons y r ih => rw [List.reverse_cons]; exact h1 _ _ ih
  rw [← List.reverse_reverse xs]
  exact this _
theorem edges_in : ∀ ks : List Int, (edgesOf oneE ks).In (((3 ^ ks.length : Nat)) : Int) := by
  intro ks
  induction ks using snoc_ind' with
  | h0 => exact ⟨by decide, by decide, by decide, by decide, by decide, by decide, by decide, by decide⟩
  | h1 ks k ih =>
    rw [edgesOf_snoc]
    have := stepE_in (n := k.toNat) ih
    have e : (((3 ^ (ks ++ [k]).length : Nat)) : Int) = 3 * (((3 ^ ks.length : Nat)) : Int) := by
      rw [List.length_append, List.length_singleton, Nat.pow_succ]
      omega
    rw [e]
    exact this
theorem In.mono {x : Edg} {m m' : Int} (h : x.In m) (hm : m ≤ m') : x.In m' := by
  obtain ⟨a, b, c, d, e, f, g, i⟩ := h
  exact ⟨a, by omega, c, by omega, e, by omega, g, by omega⟩
theorem edges_small {ks : List Int} (h : ks.length ≤ 12) : (edgesOf oneE ks).In 1000000 := by
  have h1 : 3 ^ ks.length ≤ 3 ^ 12 := Nat.pow_le_pow_right (by decide) h
  have h2 : 3 ^ 12 = 531441 := by decide
  exact In.mono (edges_in ks) (by omega)
/-- the code of some folds -/
def codeE (ks : List Int) : Nat := if 12 < ks.length then 3 else if (ks.all fun k => inB k 0 3) = true then 0 else 2
theorem codeE_le (ks : List Int) : codeE ks ≤ 3 := by unfold codeE; split <;> (try split) <;> omega
def edgesR (ks : List Int) : Edg := if codeE ks = 0 then edgesOf oneE ks else ⟨0, 0, 0, 0⟩
theorem codeE_all {ks : List Int} (h : codeE ks = 0) : ks.length ≤ 12 ∧ ∀ k ∈ ks, 0 ≤ k ∧ k ≤ 3 := by
  unfold codeE at h
  split at h
  · cases h
  · split at h
    · rename_i h2
      exact ⟨by omega, fun k hk => (inB_iff _ _ _).1 (List.all_eq_true.1 h2 k hk)⟩
    · cases h
abbrev cU (x : Int) : List Value := [.int .u8 x]
theorem cU_len (xs : List Int) : ∀ x ∈ xs, (cU x).length = 1 := fun _ _ => rfl
theorem cU_at {w : World} {a : Addr} {k : Nat} {x : Int} (h : At w (a.add (k * 1)) (cU x)) : w.cell? (a.add k) = some (.int .u8 x) := by
  have h0 := h 0 _ rfl
  rw [Nat.mul_one] at h0
  exact h0
theorem infoF : (Tryd.prog.info? 70).map (fun i => (i.zero, i.size, i.bytes)) = some (some (.int .u8 0), 1, 1) := by kernel_rfl
set_option maxRecDepth 100000 in
set_option maxHeartbeats 8000000 in
theorem foldsOf_any (A : Option Addr) (n c : Nat) (ks : List Int) (en : n = ks.length) (hn : n ≤ 1048576) {w : World} {B : Nat} {e : Nat → Addr} (h : Errs w B e) (hB : B ≤ w.heap.size) (hg : Sl intS.C 1 w w.heap.size A ks) (code : Nat) (hc : code = codeE ks) :
    Calls Tryd.prog 61 #[.slice A n c] w fun o w' => ∃ v, o = .returned (.tuple #[v, errOf e code]) ∧ (code = 0 → w'.ownsRow w.heap.size 70 1 v n (ks.flatMap cU)) ∧ Below w.heap.size w w' := by
  obtain ⟨i0, hi, hz0, hz1, hz2⟩ := info_parts infoF
  obtain ⟨k0, hk0⟩ : ∃ k : Nat, k = if 12 < n then 3 else 0 := ⟨_, rfl⟩
  have En := Lib.hid en
  have HC := Lib.hid hc
  have HE := Lib.hid h
  have HK0 := Lib.hid hk0
  clear en hc h hk0
  by_cases h12 : 12 < n
  · have ek : k0 = 3 := by rw [HK0.out, if_pos h12]
    have ec : code = 3 := by rw [HC.out, codeE, if_pos (by have := En.out; omega)]
    subst ek ec
    go_enter Tryd.func61, Tryd.ntmps61
    go_wp2_with fail
    refine (checkFoldCount_any A n c (by omega) HE.out 3 HK0.out).mono ?_
    rintro o u ⟨rfl, rfl⟩
    have e0 : errOf e 3 = errV (e 2) := rfl
    rw [e0]
    go_wp2_with fail
    go_ret2
    exact ⟨_, rfl, (fun h => by cases h), Below.refl _ _⟩
  · have ek : k0 = 0 := by rw [HK0.out, if_neg h12]
    subst ek
    have hmk : ∀ u : World, (Instr.makeSlice 83 (.int .i64 (n : Int)) (.int .i64 (n : Int))).run Tryd.prog u =
        .ok (.slice (some ⟨u.heap.size, 0, none⟩) n n) (u.alloc (.cells (madeCells #[.int .u8 0] n) 70)) := fun u => by
      have h := run_make (P := Tryd.prog) u 83 70 i0 _ Tryd.underlying83 hi hz0 .i64 .i64 (n : Int) (n : Int) (by omega) (Int.le_refl _) (by rw [hz2]; omega) (by omega)
      have e : ((n : Int)).toNat = n := by omega
      rw [e] at h
      simpa [hz1, Value.cells] using h
    go_enter Tryd.func61, Tryd.ntmps61
    go_wp2_with fail
    refine (checkFoldCount_any A n c (by omega) HE.out 0 HK0.out).mono ?_
    rintro o u ⟨rfl, rfl⟩
    have e0 : errOf e 0 = .nilIface := rfl
    rw [e0]
    clear e0
    have hB0 : Below w.heap.size w (w.alloc (.cells (madeCells #[.int .u8 0] n) 70)) := (Below.refl _ _).alloc (Nat.le_refl _) _
    have hP0 : (w.alloc (.cells (madeCells #[.int .u8 0] n) 70)).ownsRow w.heap.size 70 1 (.slice (some ⟨w.heap.size, 0, none⟩) n n) n _ :=
      World.ownsRow_lit w (madeCells #[.int .u8 0] n) n (Nat.le_refl _) (by unfold maxLen; omega) (by rw [size_madeCells, Nat.mul_one])
    have HP0 := Lib.hid hP0
    clear hP0
    go_wp2_with fail
    go_loopw [20, 6, 7, 8, 9] (fun vi _ _ _ _ wr => ∃ k L, k ≤ n ∧ vi = .int .i64 (k : Nat) ∧ wr.ownsRow w.heap.size 70 1 (.slice (some ⟨w.heap.size, 0, none⟩) n n) n L ∧ Done cU 1 ks k L ∧ (∀ i x, i < k → ks[i]? = some x → inB x 0 3 = true) ∧ Below w.heap.size w wr) (fun vi _ _ _ _ _ => n - (intOf vi).toNat)
    case atStart => exact ⟨0, _, by omega, rfl, HP0.out, Done.zero _ _ _ _, fun i x hi => absurd hi (by omega), hB0⟩
    case round =>
      clear hB0 HP0
      obtain ⟨k, L, hk, rfl, hP, hD, hR, hB⟩ := hrel
      have HR := Lib.hid hR
      have HD := Lib.hid hD
      have HB := Lib.hid hB
      clear hR hD hB
      by_cases hlt : k < n
      · obtain ⟨x, hx⟩ : ∃ x, ks[k]? = some x := ⟨ks[k]'(by have := En.out; omega), List.getElem?_eq_getElem _⟩
        obtain ⟨a, rfl, hab, hat⟩ := (hg.below HB.out).at_ k x hx
        have q0 := intS.at_ hat
        have HX := Lib.hid hx
        clear hx hat
        cases hv : inB x 0 3 with
        | true =>
          have hx3 := (inB_iff _ _ _).1 hv
          have HV := Lib.hid hv
          clear hv
          obtain ⟨m, rfl⟩ : ∃ m : Nat, x = m := ⟨x.toNat, by omega⟩
          have hLL := hP.1
          obtain ⟨v0, s0⟩ : ∃ v, wr.cell? ⟨w.heap.size, k, none⟩ = some v := ⟨L[k]'(by omega), (hP.cellAt k (by omega)).trans (List.getElem?_eq_getElem _)⟩
          have f0 := hP.frozenAt k
          have HLL := Lib.hid hLL
          have HP := Lib.hid hP
          clear hLL hP
          go_wp2_with fail
          refine (foldOf_any (m : Int) (HE.out.below (HB.out.mono (by omega))) m 0 (.inl ⟨rfl, by omega, rfl⟩)).mono ?_
          rintro o u ⟨rfl, rfl⟩
          have e0 : errOf e 0 = .nilIface := rfl
          rw [e0]
          clear e0
          go_wp2_with fail
          go_roundw
          case rel =>
            have hP3 := (HP.out.stored k (.int .u8 m)).1
            refine ⟨k + 1, _, by omega, by go_num, hP3, ?_, fun i y hi hy => ?_, HB.out.setCell (p := ⟨w.heap.size, k, none⟩) (Nat.le_refl _) _⟩
            · have hd := HD.out.step (cU_len ks) HX.out (by rw [HLL.out, En.out])
              rw [Nat.mul_one] at hd
              exact hd
            · rcases Nat.lt_or_ge i k with h1 | h1
              · exact HR.out i y h1 hy
              · obtain rfl : i = k := by omega
                have := HX.out
                rw [hy] at this
                rw [Option.some.inj this]
                exact HV.out
          case measure => simp [intOf]; omega
        | false =>
          have ec : code = 2 := by
            rw [HC.out, codeE, if_neg (by have := En.out; omega), all_not (p := fun k => inB k 0 3) HX.out hv]
            rfl
          subst ec
          have hnx : ¬ (0 ≤ x ∧ x ≤ 3) := fun h => by rw [(inB_iff _ _ _).2 h] at hv; cases hv
          have HNX := Lib.hid hnx
          clear hv hnx hP
          go_wp2_with fail
          refine (foldOf_any x (HE.out.below (HB.out.mono (by omega))) 0 2 (.inr ⟨HNX.out, rfl, rfl⟩)).mono ?_
          rintro o u ⟨rfl, rfl⟩
          have e0 : errOf e 2 = errV (e 1) := rfl
          rw [e0]
          go_wp2_with fail
          go_ret2
          exact ⟨_, rfl, (fun h => by cases h), HB.out⟩
      · obtain rfl : k = n := by omega
        have ec : code = 0 := by
          rw [HC.out, codeE, if_neg (by have := En.out; omega), all_of_idx (p := fun k => inB k 0 3) fun i x hi hx => HR.out i x (by have := En.out; omega) hx]
          rfl
        subst ec
        have HP := Lib.hid hP
        clear hP
        go_wp2_with fail
        go_ret2
        have hl := En.out
        have e2 : L = ks.flatMap cU := Done.full (by rw [← hl]; exact HD.out) (cU_len ks) (by omega) (by rw [HP.out.1, hl])
        have hP := HP.out
        rw [e2] at hP
        exact ⟨_, rfl, by first | exact hP | exact fun _ => hP, HB.out⟩
/-- edges in a block of the call's own, b, and a place for the result -/
structure EI (x : Edg) (b : Nat) (W u : World) : Prop where
  cs : u.rangeAt b 0 x.cells
  fz : ∀ i, u.frozen? ⟨b, i, none⟩ = false
  th : u.there W.heap.size 0 4
  lt : b < u.heap.size
  gt : W.heap.size < b
  below : Below W.heap.size W u
theorem EI.cells {x : Edg} {b : Nat} {W u : World} (h : EI x b W u) : u.cell? ⟨b, 0, none⟩ = some (.int .i64 x.l) ∧ u.cell? ⟨b, 1, none⟩ = some (.int .i64 x.r) ∧ u.cell? ⟨b, 2, none⟩ = some (.int .i64 x.u) ∧ u.cell? ⟨b, 3, none⟩ = some (.int .i64 x.d) :=
  ⟨by simpa using h.cs 0 _ rfl, by simpa using h.cs 1 _ rfl, by simpa using h.cs 2 _ rfl, by simpa using h.cs 3 _ rfl⟩
theorem there_next {u v : World} {b n : Nat} (h : u.there b 0 n) (hl : b < u.heap.size) (hb : Below u.heap.size u v) : v.there b 0 n := fun j hj =>
  ⟨by rw [hb.cell (p := ⟨b, 0 + j, none⟩) hl]; exact (h j hj).1, by rw [hb.frozen (p := ⟨b, 0 + j, none⟩) hl]; exact (h j hj).2⟩
theorem EI.next {x : Edg} {b : Nat} {W u v : World} (h : EI x b W u) (hb : Below u.heap.size u v) : EI x b W v := by
  have hl := h.lt
  have hg := h.gt
  exact ⟨fun j y hj => (hb.cell (p := ⟨b, 0 + j, none⟩) hl).trans (h.cs j y hj), fun i => (hb.frozen (p := ⟨b, i, none⟩) hl).trans (h.fz i), there_next h.th (by omega) hb, Nat.lt_of_lt_of_le hl hb.size, hg, below_next h.below hb (Nat.le_refl _)⟩
theorem EI.there {x : Edg} {b : Nat} {W u : World} (h : EI x b W u) : u.there b 0 4 := fun j hj => by
  obtain ⟨y, hy⟩ : ∃ y, x.cells[j]? = some y := ⟨x.cells[j]'(by simpa using hj), List.getElem?_eq_getElem _⟩
  exact ⟨by rw [h.cs j y hy]; rfl, h.fz _⟩
theorem EI.set4 {x : Edg} {b : Nat} {W u : World} (h : EI x b W u) (y : Edg) : EI y b W ((((u.setCell ⟨b, 0, none⟩ (.int .i64 y.l)).setCell ⟨b, 1, none⟩ (.int .i64 y.r)).setCell ⟨b, 2, none⟩ (.int .i64 y.u)).setCell ⟨b, 3, none⟩ (.int .i64 y.d)) := by
  have f : ∀ (a : World) (p q : Addr) (v : Value), (a.setCell p v).frozen? q = a.frozen? q := fun a p q v => World.frozen?_setCell a p q v
  exact ⟨range4 h.there, fun i => by rw [f, f, f, f]; exact h.fz i, there_set' (there_set' (there_set' (there_set' h.th))), by have := h.lt; simpa [World.setCell] using this, h.gt, below_cells h.below (Nat.le_of_lt h.gt) y.cells 0⟩
theorem place4 {u : World} {b : Nat} (h : u.there b 0 4) : ∃ v0 v1 v2 v3, u.cell? ⟨b, 0, none⟩ = some v0 ∧ u.cell? ⟨b, 1, none⟩ = some v1 ∧ u.cell? ⟨b, 2, none⟩ = some v2 ∧ u.cell? ⟨b, 3, none⟩ = some v3 ∧ u.frozen? ⟨b, 0, none⟩ = false ∧ u.frozen? ⟨b, 1, none⟩ = false ∧ u.frozen? ⟨b, 2, none⟩ = false ∧ u.frozen? ⟨b, 3, none⟩ = false := by
  obtain ⟨v0, h0⟩ := Option.isSome_iff_exists.1 (h 0 (by omega)).1
  obtain ⟨v1, h1⟩ := Option.isSome_iff_exists.1 (h 1 (by omega)).1
  obtain ⟨v2, h2⟩ := Option.isSome_iff_exists.1 (h 2 (by omega)).1
  obtain ⟨v3, h3⟩ := Option.isSome_iff_exists.1 (h 3 (by omega)).1
  exact ⟨v0, v1, v2, v3, by simpa using h0, by simpa using h1, by simpa using h2, by simpa using h3, by simpa using (h 0 (by omega)).2, by simpa using (h 1 (by omega)).2, by simpa using (h 2 (by omega)).2, by simpa using (h 3 (by omega)).2⟩
theorem EI.new (x : Edg) {w u : World} (h : u.there w.heap.size 0 4) (hl : w.heap.size < u.heap.size) (hB : Below w.heap.size w u) (T : TypeId) : EI x u.heap.size w (u.alloc (.cells #[.int .i64 x.l, .int .i64 x.r, .int .i64 x.u, .int .i64 x.d] T)) := by
  have hh := heap_alloc_new u (.cells #[.int .i64 x.l, .int .i64 x.r, .int .i64 x.u, .int .i64 x.d] T)
  refine ⟨fun j y hj => ?_, fun i => frozen_of_row _ _ i _ _ hh, there_next h hl ((Below.refl _ _).alloc (Nat.le_refl _) _), by simp, hl, hB.alloc hB.size _⟩
  rw [Nat.zero_add, cell_of_row _ _ _ _ _ _ hh]
  simpa using hj
abbrev edgesInt (x : Edg) (c : Nat) : Value := .tuple #[x.v, .int .i64 c]
theorem there_one (w : World) (vs : List Value) (T : TypeId) {n : Nat} (hn : n = vs.length) : (w.alloc (.cells vs.toArray T)).there w.heap.size 0 n := fun j hj => by
  have hh := heap_alloc_new w (.cells vs.toArray T)
  rw [Nat.zero_add]
  refine ⟨?_, frozen_of_row _ _ _ _ _ hh⟩
  rw [cell_of_row _ _ _ _ _ _ hh, List.getElem?_toArray, List.getElem?_eq_getElem (by omega)]
  rfl
set_option maxRecDepth 100000 in
set_option maxHeartbeats 8000000 in
theorem EdgesAfter_any (A : Option Addr) (n c : Nat) (ks : List Int) (en : n = ks.length) (hn : n ≤ 1048576) {w : World} {B : Nat} {e : Nat → Addr} (h : Errs w B e) (hB : B ≤ w.heap.size) (hg : Sl intS.C 1 w w.heap.size A ks) :
    Calls Tryd.prog 31 #[.slice A n c] w fun o w' => o = .returned (edgesInt (edgesR ks) (codeE ks)) ∧ Below w.heap.size w w' := by
  have En := Lib.hid en
  have HE := Lib.hid h
  have B0 := Lib.hid ((Below.refl w.heap.size w).alloc (Nat.le_refl _) (.cells #[.int .i64 0, .int .i64 0, .int .i64 0, .int .i64 0] 43))
  have T0 := Lib.hid (there_one w [.int .i64 0, .int .i64 0, .int .i64 0, .int .i64 0] 43 (n := 4) rfl)
  have hle := codeE_le ks
  obtain ⟨code, hc⟩ : ∃ k, codeE ks = k := ⟨_, rfl⟩
  have HC := Lib.hid hc
  obtain ⟨z, hz⟩ : ∃ z, edgesR ks = z := ⟨_, rfl⟩
  have HZ := Lib.hid hz
  rw [hc, hz]
  rw [hc] at hle
  clear en h hc hz
  go_enter Tryd.func31, Tryd.ntmps31
  go_wp2_with fail
  refine (foldsOf_any A n c ks En.out hn (HE.out.below (B0.out.mono hB)) (Nat.le_trans hB B0.out.size) ((hg.below B0.out).more B0.out.size) code HC.out.symm).mono ?_
  rintro o w1 ⟨v, rfl, hP, hb⟩
  have B1 := Lib.hid (below_next B0.out hb (Nat.le_refl _))
  have T1 := Lib.hid (there_next T0.out (by simp) hb)
  have L1 : w.heap.size < w1.heap.size := by have := hb.size; simp at this; omega
  have HP := Lib.hid hP
  clear hb hP B0 T0
  cases code with
  | succ i =>
    have ez : z = ⟨0, 0, 0, 0⟩ := by rw [← HZ.out, edgesR, HC.out]; rfl
    subst ez
    have e0 : errOf e (i + 1) = errV (e i) := rfl
    rw [e0]
    clear e0 HP
    obtain ⟨v0, v1, v2, v3, p0, p1, p2, p3, f0, f1, f2, f3⟩ := place4 T1.out
    go_wp2_with fail
    refine (codeOf_any (HE.out.below (B1.out.mono hB)) (i + 1) (by omega)).mono ?_
    rintro o u ⟨rfl, rfl⟩
    go_wp2_with fail
    refine bodyPost_ret (v := edgesInt ⟨0, 0, 0, 0⟩ (i + 1)) ?h1 rfl ⟨rfl, ?h2⟩
    case h1 => exact results_row_tmp (b := w.heap.size) (cs := (⟨0, 0, 0, 0⟩ : Edg).cells) Tryd.results31 rfl (range4 T1.out) Tryd.underlying43 rfl (by kernel_rfl)
    case h2 => exact below_cells B1.out (Nat.le_refl _) (⟨0, 0, 0, 0⟩ : Edg).cells 0
  | zero =>
    have ez : z = edgesOf oneE ks := by rw [← HZ.out, edgesR, HC.out]; rfl
    obtain ⟨h12, hall⟩ := codeE_all HC.out
    have HALL := Lib.hid hall
    have HZ2 := Lib.hid ez
    have e0 : errOf e 0 = .nilIface := rfl
    rw [e0]
    have hP := HP.out (by trivial)
    obtain ⟨Av, cv, rfl, _⟩ := owns_slice hP
    have HS := Lib.hid (Sl.of_owns hP (cU_len ks) (by decide))
    have E0 := Lib.hid (EI.new oneE T1.out L1 B1.out 43)
    clear e0 HP hP ez hall HZ
    go_wp2_with fail
    go_loopw [22, 8] (fun vi _ wr => ∃ k : Nat, k ≤ n ∧ vi = .int .i64 k ∧ EI (edgesOf oneE (ks.take k)) w1.heap.size w wr ∧ Below w1.heap.size w1 wr) (fun vi _ _ => n - (intOf vi).toNat)
    case atStart => exact ⟨0, by omega, rfl, E0.out, (Below.refl _ _).alloc (Nat.le_refl _) _⟩
    case round =>
      clear E0
      obtain ⟨k, hk, rfl, hE, hW⟩ := hrel
      have HE1 := Lib.hid hE
      have HW := Lib.hid hW
      clear hE hW
      obtain ⟨y, hy⟩ : ∃ y, edgesOf oneE (ks.take k) = y := ⟨_, rfl⟩
      rw [hy] at HE1
      have HY := Lib.hid hy
      clear hy
      obtain ⟨q0, q1, q2, q3⟩ := HE1.out.cells
      have f0 := HE1.out.fz 0
      have f1 := HE1.out.fz 1
      have f2 := HE1.out.fz 2
      have f3 := HE1.out.fz 3
      by_cases hlt : k < n
      · obtain ⟨x, hx⟩ : ∃ x, ks[k]? = some x := ⟨ks[k]'(by have := En.out; omega), List.getElem?_eq_getElem _⟩
        obtain ⟨a, rfl, hab, hat⟩ := (HS.out.below HW.out).at_ k x hx
        have g0 := cU_at hat
        have hx3 := HALL.out x (List.mem_of_getElem? hx)
        obtain ⟨m, rfl⟩ : ∃ m : Nat, x = m := ⟨x.toNat, by omega⟩
        have hin : y.In 1000000 := by rw [← HY.out]; exact edges_small (by rw [List.length_take]; have := En.out; omega)
        have HI := Lib.hid hin
        have HX := Lib.hid (take_snoc hx)
        clear hx hat hin
        go_wp2_with fail
        refine (edgesBehind_any m (by omega) y HI.out _).mono ?_
        rintro o u ⟨rfl, hb⟩
        have HE2 := Lib.hid (HE1.out.next hb)
        have HW2 := Lib.hid (HW.out.trans (hb.mono HW.out.size))
        clear hb HE1 q0 q1 q2 q3 f0 f1 f2 f3 g0
        obtain ⟨q0, q1, q2, q3⟩ := HE2.out.cells
        have f0 := HE2.out.fz 0
        have f1 := HE2.out.fz 1
        have f2 := HE2.out.fz 2
        have f3 := HE2.out.fz 3
        obtain ⟨z2, hz2⟩ : ∃ z, stepE m y = z := ⟨_, rfl⟩
        rw [hz2]
        have HZ3 := Lib.hid hz2
        clear hz2
        go_wp2_with fail
        go_roundw
        case rel =>
          refine ⟨k + 1, by omega, by go_num, ?_, below_cells HW2.out (Nat.le_refl _) z2.cells 0⟩
          rw [HX.out, edgesOf_snoc, HY.out, Int.toNat_natCast, HZ3.out]
          exact HE2.out.set4 z2
        case measure => simp [intOf]; omega
      · obtain rfl : k = n := by omega
        have ey : y = z := by rw [← HY.out, HZ2.out, List.take_of_length_le (by rw [← En.out]; exact Nat.le_refl _)]
        subst ey
        obtain ⟨v0, v1, v2, v3, p0, p1, p2, p3, g0, g1, g2, g3⟩ := place4 HE1.out.th
        go_wp2_with fail
        refine bodyPost_ret (v := edgesInt y 0) ?h1 rfl ⟨rfl, ?h2⟩
        case h1 => exact results_row_tmp (b := w.heap.size) (cs := y.cells) Tryd.results31 rfl (range4 HE1.out.th) Tryd.underlying43 rfl (by kernel_rfl)
        case h2 => exact below_cells HE1.out.below (Nat.le_refl _) y.cells 0
end Go.Proofs.YtcbbabepjfiigaaDoor.fold

/-
  EdgesAfter, the model's.
-/
namespace Go.Proofs.YtcbbabepjfiigaaDoor.fold
open Go Go.RowKit sl errs

theorem EI.set1 {x y : Edg} {b : Nat} {W u : World} (h : EI x b W u) (k : Nat) (v : Int) (hk : k < 4) (hy : y.cells = x.cells.set k (.int .i64 v)) : EI y b W (u.setCell ⟨b, k, none⟩ (.int .i64 v)) := by
  refine ⟨fun j t hj => ?_, fun i => by rw [World.frozen?_setCell]; exact h.fz i, there_set' h.th, by have := h.lt; simpa [World.setCell] using this, h.gt, h.below.setCell (p := ⟨b, k, none⟩) (Nat.le_of_lt h.gt) _⟩
  rw [hy] at hj
  have hc : ∃ t, x.cells[k]? = some t := ⟨x.cells[k]'(by simpa using hk), List.getElem?_eq_getElem _⟩
  obtain ⟨t0, ht0⟩ := hc
  by_cases e : j = k
  · subst e
    rw [List.getElem?_set_self (by simpa using hk)] at hj
    obtain rfl := Option.some.inj hj
    rw [Nat.zero_add]
    have h0 := h.cs j t0 ht0
    rw [Nat.zero_add] at h0
    exact World.cell?_setCell_same _ _ _ h0
  · rw [List.getElem?_set_ne (fun h => e h.symm)] at hj
    rw [Nat.zero_add, World.cell?_setCell_other _ _ _ _ (by simp only [ne_eq, Addr.mk.injEq, true_and, and_true]; omega)]
    have := h.cs j t hj
    rwa [Nat.zero_add] at this
set_option maxRecDepth 100000 in
set_option maxHeartbeats 16000000 in
theorem EdgesAfter_spec (A : Option Addr) (n c : Nat) (ks : List Int) (en : n = ks.length) (hn : n ≤ 1048576) (w : World) (hg : Sl intS.C 1 w w.heap.size A ks) :
    Calls Tryd.prog 30 #[.slice A n c] w fun o w' => o = .returned (edgesInt (edgesR ks) (codeE ks)) ∧ Below w.heap.size w w' := by
  have En := Lib.hid en
  have B0 := Lib.hid ((Below.refl w.heap.size w).alloc (Nat.le_refl _) (.cells #[.int .i64 0, .int .i64 0, .int .i64 0, .int .i64 0] 43))
  have T0 := Lib.hid (there_one w [.int .i64 0, .int .i64 0, .int .i64 0, .int .i64 0] 43 (n := 4) rfl)
  by_cases h12 : 12 < n
  · have e0 : codeE ks = 3 := by rw [codeE, if_pos (by omega)]
    have e1 : edgesR ks = ⟨0, 0, 0, 0⟩ := by rw [edgesR, e0]; rfl
    rw [e0, e1]
    clear en e0 e1
    go_enter Tryd.func30, Tryd.ntmps30
    go_wp2_with fail
    refine bodyPost_ret (v := edgesInt ⟨0, 0, 0, 0⟩ 3) ?h1 rfl ⟨rfl, ?h2⟩
    case h1 =>
      refine results_row_tmp (b := w.heap.size) (cs := (⟨0, 0, 0, 0⟩ : Edg).cells) Tryd.results30 rfl ?_ Tryd.underlying43 rfl (by kernel_rfl)
      exact fun j v hj => by
        rw [Nat.zero_add, cell_of_row _ _ _ _ _ _ (heap_alloc_new w _)]
        simpa using hj
    case h2 => exact B0.out
  · obtain ⟨b, hb⟩ : ∃ b, (ks.all fun k => inB k 0 3) = b := ⟨_, rfl⟩
    have e0 : codeE ks = if b = true then 0 else 2 := by rw [codeE, if_neg (by omega), hb]
    obtain ⟨z, hz⟩ : ∃ z, edgesR ks = z := ⟨_, rfl⟩
    have HZ := Lib.hid hz
    obtain ⟨code, hc⟩ : ∃ k, codeE ks = k := ⟨_, rfl⟩
    rw [hz, hc]
    have HC : Hid (code = if b = true then 0 else 2) := Lib.hid (by rw [← hc, e0])
    have HCE := Lib.hid hc
    have HB := Lib.hid hb
    clear en e0 hz hc hb
    go_enter Tryd.func30, Tryd.ntmps30
    go_wp2_with fail
    go_loop [4] (fun vi => ∃ k : Nat, k ≤ n ∧ vi = .int .i64 k ∧ ∀ i x, i < k → ks[i]? = some x → inB x 0 3 = true) (fun vi => n - (intOf vi).toNat)
    case atStart => exact ⟨0, by omega, rfl, fun i x hi => absurd hi (by omega)⟩
    case round =>
      obtain ⟨k, hk, rfl, hR⟩ := hrel
      have HR := Lib.hid hR
      clear hR
      by_cases hlt : k < n
      · obtain ⟨x, hx⟩ : ∃ x, ks[k]? = some x := ⟨ks[k]'(by have := En.out; omega), List.getElem?_eq_getElem _⟩
        obtain ⟨a, rfl, hab, hat⟩ := (hg.below B0.out).at_ k x hx
        have q0 := intS.at_ hat
        have HX := Lib.hid hx
        clear hx hat
        obtain ⟨t, ht⟩ : ∃ t, inB x 0 3 = t := ⟨_, rfl⟩
        have HT := Lib.hid ht
        clear ht
        cases t with
        | true =>
          go_wp2_with fail
          refine (l04Fold_b x true HT.out _).mono ?_
          rintro o u ⟨rfl, rfl⟩
          go_wp2_with fail
          go_round
          case rel => exact ⟨k + 1, by omega, by go_num, fun i y hi hy => by
            rcases Nat.lt_or_ge i k with h1 | h1
            · exact HR.out i y h1 hy
            · obtain rfl : i = k := by omega
              have := HX.out
              rw [hy] at this
              rw [Option.some.inj this]
              exact HT.out⟩
          case measure => simp [intOf]; omega
        | false =>
          have eb : b = false := by rw [← HB.out, all_not (p := fun k => inB k 0 3) HX.out HT.out]
          have ec : code = 2 := by rw [HC.out, eb]; rfl
          have ez : z = ⟨0, 0, 0, 0⟩ := by rw [← HZ.out, edgesR, HCE.out, ec]; rfl
          subst ec ez
          clear eb
          go_wp2_with fail
          refine (l04Fold_b x false HT.out _).mono ?_
          rintro o u ⟨rfl, rfl⟩
          go_wp2_with fail
          refine bodyPost_ret (v := edgesInt ⟨0, 0, 0, 0⟩ 2) ?h1 rfl ⟨rfl, ?h2⟩
          case h1 =>
            refine results_row_tmp (b := w.heap.size) (cs := (⟨0, 0, 0, 0⟩ : Edg).cells) Tryd.results30 rfl ?_ Tryd.underlying43 rfl (by kernel_rfl)
            exact fun j v hj => by
              rw [Nat.zero_add, cell_of_row _ _ _ _ _ _ (heap_alloc_new w _)]
              simpa using hj
          case h2 => exact B0.out
      · obtain rfl : k = n := by omega
        have eb : b = true := by rw [← HB.out]; exact all_of_idx fun i x hi hx => HR.out i x (by have := En.out; omega) hx
        have ec : code = 0 := by rw [HC.out, eb]; rfl
        have ez : z = edgesOf oneE ks := by rw [← HZ.out, edgesR, HCE.out, ec]; rfl
        have HZ2 := Lib.hid ez
        have HALL := Lib.hid (codeE_all (HCE.out.trans ec)).2
        have E0 := Lib.hid (EI.new oneE T0.out (by simp) B0.out 43)
        rw [World.size_alloc] at E0
        subst ec
        clear eb ez HC HCE HZ HB
        go_wp2_with fail
        go_loopw [6, 7, 8, 9, 10] (fun vi _ _ _ _ wr => ∃ j : Nat, j ≤ k ∧ vi = .int .i64 j ∧ EI (edgesOf oneE (ks.take j)) (w.heap.size + 1) w wr) (fun vi _ _ _ _ _ => k - (intOf vi).toNat)
        case atStart => exact ⟨0, by omega, rfl, E0.out⟩
        case round =>
          clear E0
          obtain ⟨j, hj, rfl, hE⟩ := hrel
          have HE1 := Lib.hid hE
          clear hE
          obtain ⟨y, hy⟩ : ∃ y, edgesOf oneE (ks.take j) = y := ⟨_, rfl⟩
          rw [hy] at HE1
          have HY := Lib.hid hy
          clear hy
          obtain ⟨q0, q1, q2, q3⟩ := HE1.out.cells
          have f0 := HE1.out.fz 0
          have f1 := HE1.out.fz 1
          have f2 := HE1.out.fz 2
          have f3 := HE1.out.fz 3
          by_cases hlt2 : j < k
          · obtain ⟨x, hx⟩ : ∃ x, ks[j]? = some x := ⟨ks[j]'(by have := En.out; omega), List.getElem?_eq_getElem _⟩
            obtain ⟨a, rfl, hab, hat⟩ := (hg.below HE1.out.below).at_ j x hx
            have g0 := intS.at_ hat
            have hx3 := HALL.out x (List.mem_of_getElem? hx)
            obtain ⟨m, rfl⟩ : ∃ m : Nat, x = m := ⟨x.toNat, by omega⟩
            have hin : y.In 1000000 := by rw [← HY.out]; exact edges_small (by rw [List.length_take]; have := En.out; omega)
            obtain ⟨i0, i1, i2, i3, i4, i5, i6, i7⟩ := hin
            have HX := Lib.hid (take_snoc hx)
            clear hx hat
            rcases (by omega : m = 0 ∨ m = 1 ∨ m = 2 ∨ m = 3) with rfl | rfl | rfl | rfl
            · have w0 : IntKind.i64.wrap (y.l + y.r) = y.l + y.r := IntWalk.i64_in _ (by omega)
              have w1 : IntKind.i64.wrap (y.u * 2) = y.u * 2 := IntWalk.i64_in _ (by omega)
              have w2 : IntKind.i64.wrap (y.d * 2) = y.d * 2 := IntWalk.i64_in _ (by omega)
              have v0 : wrap64 (y.l + y.r) = y.l + y.r := by unfold wrap64; omega
              have v1 : wrap64 (y.u * 2) = y.u * 2 := by unfold wrap64; omega
              have v2 : wrap64 (y.d * 2) = y.d * 2 := by unfold wrap64; omega
              go_wp2_with fail
              refine (l04By_any 0 2 (by decide) _).mono ?_
              rintro o u ⟨rfl, rfl⟩
              go_wp2_with fail
              go_roundw
              case rel =>
                refine ⟨j + 1, by omega, by go_num, ?_⟩
                rw [HX.out, edgesOf_snoc, HY.out]
                exact HE1.out.set4 (stepE 0 y)
              case measure => simp [intOf]; omega
            · have w0 : IntKind.i64.wrap (y.u + y.d) = y.u + y.d := IntWalk.i64_in _ (by omega)
              have w1 : IntKind.i64.wrap (y.l * 2) = y.l * 2 := IntWalk.i64_in _ (by omega)
              have w2 : IntKind.i64.wrap (y.r * 2) = y.r * 2 := IntWalk.i64_in _ (by omega)
              have v0 : wrap64 (y.u + y.d) = y.u + y.d := by unfold wrap64; omega
              have v1 : wrap64 (y.l * 2) = y.l * 2 := by unfold wrap64; omega
              have v2 : wrap64 (y.r * 2) = y.r * 2 := by unfold wrap64; omega
              go_wp2_with fail
              refine (l04By_any 1 2 (by decide) _).mono ?_
              rintro o u ⟨rfl, rfl⟩
              go_wp2_with fail
              go_roundw
              case rel =>
                refine ⟨j + 1, by omega, by go_num, ?_⟩
                rw [HX.out, edgesOf_snoc, HY.out]
                exact ((((HE1.out.set1 (y := ⟨y.l, y.r, y.u + y.d, y.d⟩) 2 (y.u + y.d) (by omega) rfl).set1 (y := ⟨y.l, y.r, y.u + y.d, 0⟩) 3 0 (by omega) rfl).set1 (y := ⟨y.l * 2, y.r, y.u + y.d, 0⟩) 0 (y.l * 2) (by omega) rfl).set1 (y := ⟨y.l * 2, y.r * 2, y.u + y.d, 0⟩) 1 (y.r * 2) (by omega) rfl)
              case measure => simp [intOf]; omega
            · have w0 : IntKind.i64.wrap (y.u * 3) = y.u * 3 := IntWalk.i64_in _ (by omega)
              have w1 : IntKind.i64.wrap (y.d * 3) = y.d * 3 := IntWalk.i64_in _ (by omega)
              have v0 : wrap64 (y.u * 3) = y.u * 3 := by unfold wrap64; omega
              have v1 : wrap64 (y.d * 3) = y.d * 3 := by unfold wrap64; omega
              go_wp2_with fail
              refine (l04By_any 2 3 (by decide) _).mono ?_
              rintro o u ⟨rfl, rfl⟩
              go_wp2_with fail
              go_roundw
              case rel =>
                refine ⟨j + 1, by omega, by go_num, ?_⟩
                rw [HX.out, edgesOf_snoc, HY.out]
                exact HE1.out.set4 (stepE 2 y)
              case measure => simp [intOf]; omega
            · have w0 : IntKind.i64.wrap (y.l * 3) = y.l * 3 := IntWalk.i64_in _ (by omega)
              have w1 : IntKind.i64.wrap (y.r * 3) = y.r * 3 := IntWalk.i64_in _ (by omega)
              have v0 : wrap64 (y.l * 3) = y.l * 3 := by unfold wrap64; omega
              have v1 : wrap64 (y.r * 3) = y.r * 3 := by unfold wrap64; omega
              go_wp2_with fail
              refine (l04By_any 3 3 (by decide) _).mono ?_
              rintro o u ⟨rfl, rfl⟩
              go_wp2_with fail
              go_roundw
              case rel =>
                refine ⟨j + 1, by omega, by go_num, ?_⟩
                rw [HX.out, edgesOf_snoc, HY.out]
                exact ((((HE1.out.set1 (y := ⟨y.l, y.r, y.d, y.d⟩) 2 y.d (by omega) rfl).set1 (y := ⟨y.l, y.r, y.d, y.u⟩) 3 y.u (by omega) rfl).set1 (y := ⟨y.l * 3, y.r, y.d, y.u⟩) 0 (y.l * 3) (by omega) rfl).set1 (y := ⟨y.l * 3, y.r * 3, y.d, y.u⟩) 1 (y.r * 3) (by omega) rfl)
              case measure => simp [intOf]; omega
          · obtain rfl : j = k := by omega
            have ey : y = z := by rw [← HY.out, HZ2.out, List.take_of_length_le (by rw [← En.out]; exact Nat.le_refl _)]
            subst ey
            obtain ⟨v0, v1, v2, v3, p0, p1, p2, p3, g0, g1, g2, g3⟩ := place4 HE1.out.th
            go_wp2_with fail
            refine bodyPost_ret (v := edgesInt y 0) ?h1 rfl ⟨rfl, ?h2⟩
            case h1 => exact results_row_tmp (b := w.heap.size) (cs := y.cells) Tryd.results30 rfl (range4 HE1.out.th) Tryd.underlying43 rfl (by kernel_rfl)
            case h2 => exact below_cells HE1.out.below (Nat.le_refl _) y.cells 0
end Go.Proofs.YtcbbabepjfiigaaDoor.fold

/-
  Edges beside edges: the law's comparison of four numbers.
-/
namespace Go.Proofs.YtcbbabepjfiigaaDoor.fold
open Go Go.RowKit sl errs

/-- the same edges lie in two blocks -/
abbrev Q4 (x : Edg) (W u : World) : Prop :=
  u.cell? ⟨W.heap.size, 0, none⟩ = some (.int .i64 x.l) ∧ u.cell? ⟨W.heap.size, 1, none⟩ = some (.int .i64 x.r) ∧ u.cell? ⟨W.heap.size, 2, none⟩ = some (.int .i64 x.u) ∧ u.cell? ⟨W.heap.size, 3, none⟩ = some (.int .i64 x.d) ∧
  u.cell? ⟨W.heap.size + 1, 0, none⟩ = some (.int .i64 x.l) ∧ u.cell? ⟨W.heap.size + 1, 1, none⟩ = some (.int .i64 x.r) ∧ u.cell? ⟨W.heap.size + 1, 2, none⟩ = some (.int .i64 x.u) ∧ u.cell? ⟨W.heap.size + 1, 3, none⟩ = some (.int .i64 x.d) ∧ Below W.heap.size W u
theorem Q4.new (x : Edg) (w : World) (T : TypeId) : Q4 x w ((w.alloc (.cells #[.int .i64 x.l, .int .i64 x.r, .int .i64 x.u, .int .i64 x.d] T)).alloc (.cells #[.int .i64 x.l, .int .i64 x.r, .int .i64 x.u, .int .i64 x.d] T)) := by
  have h1 := Box.new x.cells (Below.refl w.heap.size w) _ rfl T
  have h2 := Box.new x.cells (Below.refl (w.alloc (.cells x.cells.toArray T)).heap.size _) _ rfl T
  have h3 := h1.alloc (.cells x.cells.toArray T)
  have e : (w.alloc (.cells x.cells.toArray T)).heap.size = w.heap.size + 1 := by simp
  rw [e] at h2
  exact ⟨h3.1 0 _ rfl, h3.1 1 _ rfl, h3.1 2 _ rfl, h3.1 3 _ rfl, h2.1 0 _ rfl, h2.1 1 _ rfl, h2.1 2 _ rfl, h2.1 3 _ rfl, h3.2.2⟩
theorem Q4.drew {x : Edg} {W u : World} (h : Q4 x W u) : Q4 x W u.drew := ⟨h.1, h.2.1, h.2.2.1, h.2.2.2.1, h.2.2.2.2.1, h.2.2.2.2.2.1, h.2.2.2.2.2.2.1, h.2.2.2.2.2.2.2.1, below_next h.2.2.2.2.2.2.2.2 (below_drewN _ _ 1) (Nat.le_refl _)⟩
set_option maxRecDepth 100000 in
set_option maxHeartbeats 8000000 in
theorem eqE (x : Edg) (w : World) :
    Calls Tryd.prog 32 #[x.v, x.v] w fun o w' => o = .returned (.bool true) ∧ Below w.heap.size w w' := by
  have S0 := Lib.hid (Q4.new x w 43)
  go_enter Tryd.func32, Tryd.ntmps32
  go_wp2_with fail
  go_loopw [5] (fun vi wr => ∃ k : Nat, k ≤ 4 ∧ vi = .int .i64 k ∧ Q4 x w wr) (fun vi _ => 4 - (intOf vi).toNat)
  case atStart => exact ⟨0, by omega, rfl, S0.out⟩
  case round =>
    clear S0
    obtain ⟨k, hk, rfl, hQ⟩ := hrel
    have HQ := Lib.hid hQ
    clear hQ
    by_cases hlt : k < 4
    · have h4 : k = 0 ∨ k = 1 ∨ k = 2 ∨ k = 3 := by omega
      clear hlt hk
      obtain ⟨q0, q1, q2, q3, p0, p1, p2, p3, _⟩ := HQ.out
      rcases h4 with rfl | rfl | rfl | rfl
      all_goals
        go_wp2_with fail
        go_region
        go_wp2_with fail
        go_roundw
        case rel => first | exact ⟨1, by omega, by go_num, HQ.out.drew⟩ | exact ⟨2, by omega, by go_num, HQ.out.drew⟩ | exact ⟨3, by omega, by go_num, HQ.out.drew⟩ | exact ⟨4, by omega, by go_num, HQ.out.drew⟩
        case measure => simp [intOf]
    · obtain rfl : k = 4 := by omega
      go_wp2_with fail
      go_ret
      exact ⟨rfl, HQ.out.2.2.2.2.2.2.2.2⟩
theorem Box.four {x : Edg} {b : Nat} {w u : World} (h : Box b x.cells w u) : u.cell? ⟨b, 0, none⟩ = some (.int .i64 x.l) ∧ u.cell? ⟨b, 1, none⟩ = some (.int .i64 x.r) ∧ u.cell? ⟨b, 2, none⟩ = some (.int .i64 x.u) ∧ u.cell? ⟨b, 3, none⟩ = some (.int .i64 x.d) :=
  ⟨h.1 0 _ rfl, h.1 1 _ rfl, h.1 2 _ rfl, h.1 3 _ rfl⟩
end Go.Proofs.YtcbbabepjfiigaaDoor.fold
