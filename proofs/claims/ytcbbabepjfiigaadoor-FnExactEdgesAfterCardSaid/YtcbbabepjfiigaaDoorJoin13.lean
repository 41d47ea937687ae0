/-
  Several texts of this proof, joined.
-/
import Derived.Test.YtcbbabepjfiigaaDoorJoin12
import Derived.Deep.RegionWith
import Derived.BigRegion
import Derived.StillTailTactics
import Derived.Deep.RegionHeld3
import Derived.Test.YtcbbabepjfiigaaDoorJoin11
/-
  Folds: made, and undone.
-/
namespace Go.Proofs.YtcbbabepjfiigaaDoor.fold
open Go Go.RowKit sl errs

theorem way_any (n r : Int) (h : (n = 0 ∧ r = 0) ∨ (n = 1 ∧ r = 1) ∨ (n = 2 ∧ r = 0) ∨ (n = 3 ∧ r = 1)) (w : World) :
    Calls Tryd.prog 80 #[.int .u8 n] w fun o w' => o = .returned (.int .i64 r) ∧ w = w' := by
  rcases h with ⟨rfl, rfl⟩ | ⟨rfl, rfl⟩ | ⟨rfl, rfl⟩ | ⟨rfl, rfl⟩
  all_goals
    go_enter Tryd.func80, Tryd.ntmps80
    go_wp2
    go_ret
    exact ⟨by first | rfl | decide, rfl⟩
theorem way_q (n r : Int) (h : (n = 0 ∧ r = 0) ∨ (n = 1 ∧ r = 1) ∨ (n = 2 ∧ r = 0) ∨ (n = 3 ∧ r = 1)) (w : World) :
    Calls Tryd.prog 80 #[.int .u8 n] w fun o w' => o = .returned (.int .i64 r) ∧ w' = w := (way_any n r h w).mono fun _ _ ⟨a, b⟩ => ⟨a, b.symm⟩
theorem parts_any (n r : Int) (h : (n = 0 ∧ r = 2) ∨ (n = 1 ∧ r = 2) ∨ (n = 2 ∧ r = 3) ∨ (n = 3 ∧ r = 3)) (w : World) :
    Calls Tryd.prog 81 #[.int .u8 n] w fun o w' => o = .returned (.int .i64 r) ∧ w = w' := by
  rcases h with ⟨rfl, rfl⟩ | ⟨rfl, rfl⟩ | ⟨rfl, rfl⟩ | ⟨rfl, rfl⟩
  all_goals
    go_enter Tryd.func81, Tryd.ntmps81
    go_wp2
    go_ret
    exact ⟨rfl, rfl⟩
theorem parts_q (n r : Int) (h : (n = 0 ∧ r = 2) ∨ (n = 1 ∧ r = 2) ∨ (n = 2 ∧ r = 3) ∨ (n = 3 ∧ r = 3)) (w : World) :
    Calls Tryd.prog 81 #[.int .u8 n] w fun o w' => o = .returned (.int .i64 r) ∧ w' = w := (parts_any n r h w).mono fun _ _ ⟨a, b⟩ => ⟨a, b.symm⟩
theorem below_drewN' {B : Nat} {a w : World} {n : Nat} (h : Below B a w) : Below B a (w.drewN n) := ⟨h.os, h.tape, h.output, h.size, h.block⟩
theorem there_set' {w : World} {a : Addr} {v : Value} {b n : Nat} (h : w.there b 0 n) : (w.setCell a v).there b 0 n := fun j hj => by
  refine ⟨?_, by rw [World.frozen?_setCell]; exact (h j hj).2⟩
  by_cases e : a = ⟨b, 0 + j, none⟩
  · rw [e, World.cell?_setCell_same' _ _ _ (h j hj).1]; rfl
  · rw [World.cell?_setCell_other _ _ _ _ e]; exact (h j hj).1
theorem there_drew {w : World} {b n : Nat} (h : w.there b 0 n) : w.drew.there b 0 n := h
theorem there_drewN {w : World} {b n k : Nat} (h : w.there b 0 n) : (w.drewN k).there b 0 n := h
theorem there_new (w : World) (o : Obj) (vs : List Value) (T : TypeId) {n : Nat} (hn : n = vs.length) : ((w.alloc o).alloc (.cells vs.toArray T)).there (w.heap.size + 1) 0 n := fun j hj => by
  have hh := heap_alloc_new (w.alloc o) (.cells vs.toArray T)
  rw [World.size_alloc] at hh
  rw [Nat.zero_add]
  refine ⟨?_, frozen_of_row _ _ _ _ _ hh⟩
  rw [cell_of_row _ _ _ _ _ _ hh, List.getElem?_toArray, List.getElem?_eq_getElem (by omega)]
  rfl
theorem range_drew {w : World} {b : Nat} {cs : List Value} (h : w.rangeAt b 0 cs) : w.drew.rangeAt b 0 cs := h
theorem range_drewN {w : World} {b k : Nat} {cs : List Value} (h : w.rangeAt b 0 cs) : (w.drewN k).rangeAt b 0 cs := h
theorem range3 {u : World} {b : Nat} {x y z : Value} (h : u.there b 0 3) : (((u.setCell ⟨b, 0, none⟩ x).setCell ⟨b, 1, none⟩ y).setCell ⟨b, 2, none⟩ z).rangeAt b 0 [x, y, z] :=
  World.rangeAt_setCells_same u b 0 [x, y, z] h
theorem range_new3 (w : World) (o : Obj) (x y z : Value) (T : TypeId) : ((w.alloc o).alloc (.cells #[x, y, z] T)).rangeAt (w.heap.size + 1) 0 [x, y, z] := fun j v hj => by
  have hh := heap_alloc_new (w.alloc o) (.cells #[x, y, z] T)
  rw [World.size_alloc] at hh
  rw [Nat.zero_add, cell_of_row _ _ _ _ _ _ hh]
  simpa using hj
/-- a region whose operations are still, but for its tail: the world keeps its spelling -/
theorem region_still {id : Nat} {Q : Exit → Act → World → Prop} {a : Act} {w : World} {l : List Oper} (n : Nat) (hB : Region.lexTailB .any l.toArray n = true)
    (h : wpStill Tryd.prog l.toArray w.drew (fun a' => wpList Tryd.prog l.toArray Q (l.drop n) a' w.drew) (l.take n) a) : (Code.region id l.toArray true).wp Tryd.prog Q a w :=
  wp_region_still_tail n (by kernel_rfl) hB h
end Go.Proofs.YtcbbabepjfiigaaDoor.fold

/-
  Edges behind one fold: the program's methods.
-/
namespace Go.Proofs.YtcbbabepjfiigaaDoor.fold
open Go Go.RowKit sl errs

/-- how many open edges there are: left, right, upper, lower -/
structure Edg where
  l : Int
  r : Int
  u : Int
  d : Int
abbrev Edg.cells (x : Edg) : List Value := [.int .i64 x.l, .int .i64 x.r, .int .i64 x.u, .int .i64 x.d]
abbrev Edg.v (x : Edg) : Value := .agg #[.int .i64 x.l, .int .i64 x.r, .int .i64 x.u, .int .i64 x.d]
/-- all are at least 0, and at most m -/
structure Edg.In (x : Edg) (m : Int) : Prop where
  l0 : 0 ≤ x.l
  l1 : x.l ≤ m
  r0 : 0 ≤ x.r
  r1 : x.r ≤ m
  u0 : 0 ≤ x.u
  u1 : x.u ≤ m
  d0 : 0 ≤ x.d
  d1 : x.d ≤ m
/-- what the ends become -/
def joinE (n : Nat) (x : Edg) : Edg :=
  match n with
  | 0 => ⟨x.l + x.r, 0, x.u, x.d⟩
  | 1 => ⟨x.l, x.r, x.u + x.d, 0⟩
  | 2 => ⟨x.r, x.l, x.u, x.d⟩
  | _ => ⟨x.l, x.r, x.d, x.u⟩
/-- edges behind a fold -/
def stepE (n : Nat) (x : Edg) : Edg :=
  match n with
  | 0 => ⟨x.l + x.r, 0, x.u * 2, x.d * 2⟩
  | 1 => ⟨x.l * 2, x.r * 2, x.u + x.d, 0⟩
  | 2 => ⟨x.r, x.l, x.u * 3, x.d * 3⟩
  | _ => ⟨x.l * 3, x.r * 3, x.d, x.u⟩
theorem stepE_in {n : Nat} {x : Edg} {m : Int} (h : x.In m) : (stepE n x).In (3 * m) := by
  obtain ⟨a, b, c, d, e, f, g, i⟩ := h
  unfold stepE
  split <;> constructor <;> simp only <;> omega
theorem ends_any (n p : Int) (h : (n = 0 ∧ p = 0) ∨ (n = 1 ∧ p = 2) ∨ (n = 2 ∧ p = 0) ∨ (n = 3 ∧ p = 2)) (w : World) :
    Calls Tryd.prog 86 #[.int .u8 n] w fun o w' => o = .returned (.tuple #[.int .i64 p, .int .i64 (p + 1)]) ∧ w = w' := by
  rcases h with ⟨rfl, rfl⟩ | ⟨rfl, rfl⟩ | ⟨rfl, rfl⟩ | ⟨rfl, rfl⟩
  · go_enter Tryd.func86, Tryd.ntmps86
    go_wp2_with fail
    refine (way_any 0 0 (by decide) _).mono ?_
    rintro o u ⟨rfl, rfl⟩
    go_wp2_with fail
    go_ret2
    exact ⟨by first | rfl | simp, rfl⟩
  · go_enter Tryd.func86, Tryd.ntmps86
    go_wp2_with fail
    refine (way_any 1 1 (by decide) _).mono ?_
    rintro o u ⟨rfl, rfl⟩
    go_wp2_with fail
    go_ret2
    exact ⟨by first | rfl | simp, rfl⟩
  · go_enter Tryd.func86, Tryd.ntmps86
    go_wp2_with fail
    refine (way_any 2 0 (by decide) _).mono ?_
    rintro o u ⟨rfl, rfl⟩
    go_wp2_with fail
    go_ret2
    exact ⟨by first | rfl | simp, rfl⟩
  · go_enter Tryd.func86, Tryd.ntmps86
    go_wp2_with fail
    refine (way_any 3 1 (by decide) _).mono ?_
    rintro o u ⟨rfl, rfl⟩
    go_wp2_with fail
    go_ret2
    exact ⟨by first | rfl | simp, rfl⟩
theorem range4 {u : World} {b : Nat} {x y z t : Value} (h : u.there b 0 4) : ((((u.setCell ⟨b, 0, none⟩ x).setCell ⟨b, 1, none⟩ y).setCell ⟨b, 2, none⟩ z).setCell ⟨b, 3, none⟩ t).rangeAt b 0 [x, y, z, t] :=
  World.rangeAt_setCells_same u b 0 [x, y, z, t] h
theorem range_new4 (w : World) (o : Obj) (x y z t : Value) (T : TypeId) : ((w.alloc o).alloc (.cells #[x, y, z, t] T)).rangeAt (w.heap.size + 1) 0 [x, y, z, t] := fun j v hj => by
  have hh := heap_alloc_new (w.alloc o) (.cells #[x, y, z, t] T)
  rw [World.size_alloc] at hh
  rw [Nat.zero_add, cell_of_row _ _ _ _ _ _ hh]
  simpa using hj
set_option maxRecDepth 100000 in
set_option maxHeartbeats 4000000 in
theorem joined_0 (a b c d : Int) (ha : 0 ≤ a ∧ a ≤ 1000000) (hb : 0 ≤ b ∧ b ≤ 1000000) (hc : 0 ≤ c ∧ c ≤ 1000000) (hd : 0 ≤ d ∧ d ≤ 1000000) (w : World) :
    Calls Tryd.prog 84 #[.int .u8 0, (⟨a, b, c, d⟩ : Edg).v] w fun o w' => o = .returned (⟨a + b, 0, c, d⟩ : Edg).v ∧ Below w.heap.size w w' := by
  have t0 : IntKind.i64.wrap (a + b) = a + b := IntWalk.i64_in _ (by omega)
  have t1 : wrap64 (a + b) = a + b := by unfold wrap64; omega
  go_enter Tryd.func84, Tryd.ntmps84
  go_wp2_with fail
  refine (ends_any 0 0 (by decide) _).mono ?_
  rintro o u ⟨rfl, rfl⟩
  go_wp2_with fail
  go_region
  go_wp2_with fail
  refine bodyPost_ret (v := (⟨a + b, 0, c, d⟩ : Edg).v) ?h1 rfl ⟨rfl, ?h2⟩
  case h1 =>
    refine results_row (b := w.heap.size + 1) (cs := (⟨a + b, 0, c, d⟩ : Edg).cells) Tryd.results84 rfl ?_ Tryd.underlying43 rfl (by kernel_rfl)
    repeat (with_reducible first | apply range_drew | apply range_drewN)
    first | (with_reducible exact range_new4 _ _ _ _ _ _ _) | (refine range4 ?_; repeat (with_reducible first | apply there_set' | apply there_drew | apply there_drewN | exact there_new _ _ [.int .i64 0, .int .i64 0, .int .i64 0, .int .i64 0] _ rfl))
  case h2 =>
    repeat (with_reducible first | exact Below.refl _ _ | assumption | apply Below.drew | apply below_drewN' | (refine Below.alloc ?_ (by first | (simp; done) | (simp; omega) | omega) _) | (refine Below.setCell ?_ (by first | (simp; done) | (simp; omega) | omega) _))
set_option maxRecDepth 100000 in
set_option maxHeartbeats 4000000 in
theorem joined_1 (a b c d : Int) (ha : 0 ≤ a ∧ a ≤ 1000000) (hb : 0 ≤ b ∧ b ≤ 1000000) (hc : 0 ≤ c ∧ c ≤ 1000000) (hd : 0 ≤ d ∧ d ≤ 1000000) (w : World) :
    Calls Tryd.prog 84 #[.int .u8 1, (⟨a, b, c, d⟩ : Edg).v] w fun o w' => o = .returned (⟨a, b, c + d, 0⟩ : Edg).v ∧ Below w.heap.size w w' := by
  have t0 : IntKind.i64.wrap (c + d) = c + d := IntWalk.i64_in _ (by omega)
  have t1 : wrap64 (c + d) = c + d := by unfold wrap64; omega
  go_enter Tryd.func84, Tryd.ntmps84
  go_wp2_with fail
  refine (ends_any 1 2 (by decide) _).mono ?_
  rintro o u ⟨rfl, rfl⟩
  go_wp2_with fail
  go_region
  go_wp2_with fail
  refine bodyPost_ret (v := (⟨a, b, c + d, 0⟩ : Edg).v) ?h1 rfl ⟨rfl, ?h2⟩
  case h1 =>
    refine results_row (b := w.heap.size + 1) (cs := (⟨a, b, c + d, 0⟩ : Edg).cells) Tryd.results84 rfl ?_ Tryd.underlying43 rfl (by kernel_rfl)
    repeat (with_reducible first | apply range_drew | apply range_drewN)
    first | (with_reducible exact range_new4 _ _ _ _ _ _ _) | (refine range4 ?_; repeat (with_reducible first | apply there_set' | apply there_drew | apply there_drewN | exact there_new _ _ [.int .i64 0, .int .i64 0, .int .i64 0, .int .i64 0] _ rfl))
  case h2 =>
    repeat (with_reducible first | exact Below.refl _ _ | assumption | apply Below.drew | apply below_drewN' | (refine Below.alloc ?_ (by first | (simp; done) | (simp; omega) | omega) _) | (refine Below.setCell ?_ (by first | (simp; done) | (simp; omega) | omega) _))
set_option maxRecDepth 100000 in
set_option maxHeartbeats 4000000 in
theorem swapped_2 (a b c d : Int) (ha : 0 ≤ a ∧ a ≤ 1000000) (hb : 0 ≤ b ∧ b ≤ 1000000) (hc : 0 ≤ c ∧ c ≤ 1000000) (hd : 0 ≤ d ∧ d ≤ 1000000) (w : World) :
    Calls Tryd.prog 85 #[.int .u8 2, (⟨a, b, c, d⟩ : Edg).v] w fun o w' => o = .returned (⟨b, a, c, d⟩ : Edg).v ∧ Below w.heap.size w w' := by
  go_enter Tryd.func85, Tryd.ntmps85
  go_wp2_with fail
  refine (ends_any 2 0 (by decide) _).mono ?_
  rintro o u ⟨rfl, rfl⟩
  go_wp2_with fail
  go_region
  go_wp2_with fail
  refine bodyPost_ret (v := (⟨b, a, c, d⟩ : Edg).v) ?h1 rfl ⟨rfl, ?h2⟩
  case h1 =>
    refine results_row (b := w.heap.size + 1) (cs := (⟨b, a, c, d⟩ : Edg).cells) Tryd.results85 rfl ?_ Tryd.underlying43 rfl (by kernel_rfl)
    repeat (with_reducible first | apply range_drew | apply range_drewN)
    first | (with_reducible exact range_new4 _ _ _ _ _ _ _) | (refine range4 ?_; repeat (with_reducible first | apply there_set' | apply there_drew | apply there_drewN | exact there_new _ _ [.int .i64 0, .int .i64 0, .int .i64 0, .int .i64 0] _ rfl))
  case h2 =>
    repeat (with_reducible first | exact Below.refl _ _ | assumption | apply Below.drew | apply below_drewN' | (refine Below.alloc ?_ (by first | (simp; done) | (simp; omega) | omega) _) | (refine Below.setCell ?_ (by first | (simp; done) | (simp; omega) | omega) _))
set_option maxRecDepth 100000 in
set_option maxHeartbeats 4000000 in
theorem swapped_3 (a b c d : Int) (ha : 0 ≤ a ∧ a ≤ 1000000) (hb : 0 ≤ b ∧ b ≤ 1000000) (hc : 0 ≤ c ∧ c ≤ 1000000) (hd : 0 ≤ d ∧ d ≤ 1000000) (w : World) :
    Calls Tryd.prog 85 #[.int .u8 3, (⟨a, b, c, d⟩ : Edg).v] w fun o w' => o = .returned (⟨a, b, d, c⟩ : Edg).v ∧ Below w.heap.size w w' := by
  go_enter Tryd.func85, Tryd.ntmps85
  go_wp2_with fail
  refine (ends_any 3 2 (by decide) _).mono ?_
  rintro o u ⟨rfl, rfl⟩
  go_wp2_with fail
  go_region
  go_wp2_with fail
  refine bodyPost_ret (v := (⟨a, b, d, c⟩ : Edg).v) ?h1 rfl ⟨rfl, ?h2⟩
  case h1 =>
    refine results_row (b := w.heap.size + 1) (cs := (⟨a, b, d, c⟩ : Edg).cells) Tryd.results85 rfl ?_ Tryd.underlying43 rfl (by kernel_rfl)
    repeat (with_reducible first | apply range_drew | apply range_drewN)
    first | (with_reducible exact range_new4 _ _ _ _ _ _ _) | (refine range4 ?_; repeat (with_reducible first | apply there_set' | apply there_drew | apply there_drewN | exact there_new _ _ [.int .i64 0, .int .i64 0, .int .i64 0, .int .i64 0] _ rfl))
  case h2 =>
    repeat (with_reducible first | exact Below.refl _ _ | assumption | apply Below.drew | apply below_drewN' | (refine Below.alloc ?_ (by first | (simp; done) | (simp; omega) | omega) _) | (refine Below.setCell ?_ (by first | (simp; done) | (simp; omega) | omega) _))
end Go.Proofs.YtcbbabepjfiigaaDoor.fold

/-
  The fold 0, made by the program.
-/
namespace Go.Proofs.YtcbbabepjfiigaaDoor.fold
open Go Go.RowKit sl errs
set_option maxRecDepth 100000 in
set_option maxHeartbeats 8000000 in
theorem made0_state (p q r : Int) (hp : 1 ≤ p ∧ p ≤ 1296) (hq : 1 ≤ q ∧ q ≤ 1296) (hr : 1 ≤ r ∧ r ≤ 144) {w : World} {B : Nat} {e : Nat → Addr} (h : Errs w B e) (hB : B ≤ w.heap.size) (hd : ¬ p % 2 = 0) :
    Calls Tryd.prog 51 #[.int .u8 0, laidV p q r] w fun o w' => o = .returned (.tuple #[laidV 0 0 0, errV (e 3)]) ∧ Below w.heap.size w w' := by
  have gs : 0 < w.heap.size := Nat.lt_of_lt_of_le h.size.2.2.2.1 hB
  have gl : 1 < w.heap.size := Nat.lt_of_lt_of_le h.size.2.2.1 hB
  have gs0 : ¬ 0 = w.heap.size := by omega
  have gs1 : ¬ 0 = w.heap.size + 1 := by omega
  have gl0 : ¬ 1 = w.heap.size := by omega
  have gl1 : ¬ 1 = w.heap.size + 1 := by omega
  have gs2 : ¬ w.heap.size = 0 := by omega
  have gs3 : ¬ w.heap.size + 1 = 0 := by omega
  have gl2 : ¬ w.heap.size = 1 := by omega
  have gl3 : ¬ w.heap.size + 1 = 1 := by omega
  have cs : ∀ (o1 o2 : Obj) (n : Nat), (((w.alloc o1).alloc o2).drewN n).cell? ⟨0, 0, none⟩ = some (errV (e 3)) := fun o1 o2 n => ((below_drewN' (((Below.refl w.heap.size w).alloc (Nat.le_refl _) o1).alloc (by simp) o2) (n := n)).cell (p := ⟨0, 0, none⟩) gs).trans h.c3
  have cl : ∀ (o1 o2 : Obj) (n : Nat), (((w.alloc o1).alloc o2).drewN n).cell? ⟨1, 0, none⟩ = some (errV (e 2)) := fun o1 o2 n => ((below_drewN' (((Below.refl w.heap.size w).alloc (Nat.le_refl _) o1).alloc (by simp) o2) (n := n)).cell (p := ⟨1, 0, none⟩) gl).trans h.c2
  clear h hB
  have t1 : p.tmod 2 = p % 2 := Int.tmod_eq_emod_of_nonneg (by omega)
  have t2 : p.tdiv 2 = p / 2 := Int.tdiv_eq_ediv_of_nonneg (by omega)
  have t5 : IntKind.i64.wrap (p / 2) = p / 2 := IntWalk.i64_in _ (by omega)
  have t6 : IntKind.i64.wrap (r * 2) = r * 2 := IntWalk.i64_in _ (by omega)
  have t7 : wrap64 (p / 2) = p / 2 := by unfold wrap64; omega
  have t8 : wrap64 (r * 2) = r * 2 := by unfold wrap64; omega
  have hd2 : (p % 2 != 0) = true := by rw [bne_iff_ne]; exact hd
  clear hd t2 t5 t6 t7 t8
  go_enter Tryd.func51, Tryd.ntmps51
  go_wp2_with fail
  go_quiet ((first | (go_at_call 80; exact Calls.quiet_of_same (way_q 0 0 (by decide) _)) | (go_at_call 81; exact Calls.quiet_of_same (parts_q 0 2 (by decide) _)) | fail))
  go_wp2_with fail
  go_region
  all_goals (try simp only [Act.put, List.getElem_toArray, List.getElem_cons_zero, List.getElem_cons_succ, List.setIfInBounds_toArray, List.set_cons_zero, List.set_cons_succ])
  all_goals go_wp2_with fail
  all_goals
    refine bodyPost_ret (v := .tuple #[laidV 0 0 0, errV (e 3)]) ?h1 rfl ⟨rfl, ?h2⟩
    case h1 =>
      refine results_row_tmp (b := w.heap.size + 1) (cs := [.int .i64 0, .int .i64 0, .int .i64 0]) Tryd.results51 rfl ?_ Tryd.underlying78 rfl (by kernel_rfl)
      repeat (with_reducible first | apply range_drew | apply range_drewN)
      refine range3 ?_
      repeat (with_reducible first | apply there_set' | apply there_drew | apply there_drewN | exact there_new _ _ [.int .i64 0, .int .i64 0, .int .i64 0] _ rfl)
    case h2 =>
      repeat (with_reducible first | exact Below.refl _ _ | assumption | apply Below.drew | apply below_drewN' | (refine Below.alloc ?_ (by first | (simp; done) | (simp; omega) | omega) _) | (refine Below.setCell ?_ (by first | (simp; done) | (simp; omega) | omega) _))
set_option maxRecDepth 100000 in
set_option maxHeartbeats 8000000 in
theorem made0_limit (p q r : Int) (hp : 1 ≤ p ∧ p ≤ 1296) (hq : 1 ≤ q ∧ q ≤ 1296) (hr : 1 ≤ r ∧ r ≤ 144) {w : World} {B : Nat} {e : Nat → Addr} (h : Errs w B e) (hB : B ≤ w.heap.size) (hd : p % 2 = 0) (hl : 144 < r * 2) :
    Calls Tryd.prog 51 #[.int .u8 0, laidV p q r] w fun o w' => o = .returned (.tuple #[laidV 0 0 0, errV (e 2)]) ∧ Below w.heap.size w w' := by
  have gs : 0 < w.heap.size := Nat.lt_of_lt_of_le h.size.2.2.2.1 hB
  have gl : 1 < w.heap.size := Nat.lt_of_lt_of_le h.size.2.2.1 hB
  have gs0 : ¬ 0 = w.heap.size := by omega
  have gs1 : ¬ 0 = w.heap.size + 1 := by omega
  have gl0 : ¬ 1 = w.heap.size := by omega
  have gl1 : ¬ 1 = w.heap.size + 1 := by omega
  have gs2 : ¬ w.heap.size = 0 := by omega
  have gs3 : ¬ w.heap.size + 1 = 0 := by omega
  have gl2 : ¬ w.heap.size = 1 := by omega
  have gl3 : ¬ w.heap.size + 1 = 1 := by omega
  have cs : ∀ (o1 o2 : Obj) (n : Nat), (((w.alloc o1).alloc o2).drewN n).cell? ⟨0, 0, none⟩ = some (errV (e 3)) := fun o1 o2 n => ((below_drewN' (((Below.refl w.heap.size w).alloc (Nat.le_refl _) o1).alloc (by simp) o2) (n := n)).cell (p := ⟨0, 0, none⟩) gs).trans h.c3
  have cl : ∀ (o1 o2 : Obj) (n : Nat), (((w.alloc o1).alloc o2).drewN n).cell? ⟨1, 0, none⟩ = some (errV (e 2)) := fun o1 o2 n => ((below_drewN' (((Below.refl w.heap.size w).alloc (Nat.le_refl _) o1).alloc (by simp) o2) (n := n)).cell (p := ⟨1, 0, none⟩) gl).trans h.c2
  clear h hB
  have t1 : p.tmod 2 = p % 2 := Int.tmod_eq_emod_of_nonneg (by omega)
  have t2 : p.tdiv 2 = p / 2 := Int.tdiv_eq_ediv_of_nonneg (by omega)
  have t5 : IntKind.i64.wrap (p / 2) = p / 2 := IntWalk.i64_in _ (by omega)
  have t6 : IntKind.i64.wrap (r * 2) = r * 2 := IntWalk.i64_in _ (by omega)
  have t7 : wrap64 (p / 2) = p / 2 := by unfold wrap64; omega
  have t8 : wrap64 (r * 2) = r * 2 := by unfold wrap64; omega
  go_enter Tryd.func51, Tryd.ntmps51
  go_wp2_with fail
  go_quiet ((first | (go_at_call 80; exact Calls.quiet_of_same (way_q 0 0 (by decide) _)) | (go_at_call 81; exact Calls.quiet_of_same (parts_q 0 2 (by decide) _)) | fail))
  go_wp2_with fail
  refine region_still 10 (by kernel_rfl) ?_
  simp only [List.take_succ_cons, List.take_zero, List.drop_succ_cons, List.drop_zero]
  repeat still_step
  still_call (way_q 0 0 (by decide) _)
  repeat still_step
  still_call (parts_q 0 2 (by decide) _)
  repeat still_step
  refine wpStill_nil ?_
  go_wp2_with fail
  refine region_still 6 (by kernel_rfl) ?_
  simp only [List.take_succ_cons, List.take_zero, List.drop_succ_cons, List.drop_zero]
  repeat still_step
  still_call (parts_q 0 2 (by decide) _)
  repeat still_step
  refine wpStill_nil ?_
  go_wp2_with fail
  all_goals go_region
  all_goals (try simp only [Act.put, List.getElem_toArray, List.getElem_cons_zero, List.getElem_cons_succ, List.setIfInBounds_toArray, List.set_cons_zero, List.set_cons_succ])
  all_goals go_wp2_with fail
  all_goals
    refine bodyPost_ret (v := .tuple #[laidV 0 0 0, errV (e 2)]) ?h1 rfl ⟨rfl, ?h2⟩
    case h1 =>
      refine results_row_tmp (b := w.heap.size + 1) (cs := [.int .i64 0, .int .i64 0, .int .i64 0]) Tryd.results51 rfl ?_ Tryd.underlying78 rfl (by kernel_rfl)
      repeat (with_reducible first | apply range_drew | apply range_drewN)
      refine range3 ?_
      repeat (with_reducible first | apply there_set' | apply there_drew | apply there_drewN | exact there_new _ _ [.int .i64 0, .int .i64 0, .int .i64 0] _ rfl)
    case h2 =>
      repeat (with_reducible first | exact Below.refl _ _ | assumption | apply Below.drew | apply below_drewN' | (refine Below.alloc ?_ (by first | (simp; done) | (simp; omega) | omega) _) | (refine Below.setCell ?_ (by first | (simp; done) | (simp; omega) | omega) _))
set_option maxRecDepth 100000 in
set_option maxHeartbeats 8000000 in
theorem made0_ok (p q r : Int) (hp : 1 ≤ p ∧ p ≤ 1296) (hq : 1 ≤ q ∧ q ≤ 1296) (hr : 1 ≤ r ∧ r ≤ 144) {w : World} {B : Nat} {e : Nat → Addr} (h : Errs w B e) (hB : B ≤ w.heap.size) (hd : p % 2 = 0) (hl : r * 2 ≤ 144) :
    Calls Tryd.prog 51 #[.int .u8 0, laidV p q r] w fun o w' => o = .returned (.tuple #[laidV (p / 2) (q) (r * 2), .nilIface]) ∧ Below w.heap.size w w' := by
  have gs : 0 < w.heap.size := Nat.lt_of_lt_of_le h.size.2.2.2.1 hB
  have gl : 1 < w.heap.size := Nat.lt_of_lt_of_le h.size.2.2.1 hB
  have gs0 : ¬ 0 = w.heap.size := by omega
  have gs1 : ¬ 0 = w.heap.size + 1 := by omega
  have gl0 : ¬ 1 = w.heap.size := by omega
  have gl1 : ¬ 1 = w.heap.size + 1 := by omega
  have gs2 : ¬ w.heap.size = 0 := by omega
  have gs3 : ¬ w.heap.size + 1 = 0 := by omega
  have gl2 : ¬ w.heap.size = 1 := by omega
  have gl3 : ¬ w.heap.size + 1 = 1 := by omega
  have cs : ∀ (o1 o2 : Obj) (n : Nat), (((w.alloc o1).alloc o2).drewN n).cell? ⟨0, 0, none⟩ = some (errV (e 3)) := fun o1 o2 n => ((below_drewN' (((Below.refl w.heap.size w).alloc (Nat.le_refl _) o1).alloc (by simp) o2) (n := n)).cell (p := ⟨0, 0, none⟩) gs).trans h.c3
  have cl : ∀ (o1 o2 : Obj) (n : Nat), (((w.alloc o1).alloc o2).drewN n).cell? ⟨1, 0, none⟩ = some (errV (e 2)) := fun o1 o2 n => ((below_drewN' (((Below.refl w.heap.size w).alloc (Nat.le_refl _) o1).alloc (by simp) o2) (n := n)).cell (p := ⟨1, 0, none⟩) gl).trans h.c2
  clear h hB
  have t1 : p.tmod 2 = p % 2 := Int.tmod_eq_emod_of_nonneg (by omega)
  have t2 : p.tdiv 2 = p / 2 := Int.tdiv_eq_ediv_of_nonneg (by omega)
  have t5 : IntKind.i64.wrap (p / 2) = p / 2 := IntWalk.i64_in _ (by omega)
  have t6 : IntKind.i64.wrap (r * 2) = r * 2 := IntWalk.i64_in _ (by omega)
  have t7 : wrap64 (p / 2) = p / 2 := by unfold wrap64; omega
  have t8 : wrap64 (r * 2) = r * 2 := by unfold wrap64; omega
  go_enter Tryd.func51, Tryd.ntmps51
  go_wp2_with fail
  go_quiet ((first | (go_at_call 80; exact Calls.quiet_of_same (way_q 0 0 (by decide) _)) | (go_at_call 81; exact Calls.quiet_of_same (parts_q 0 2 (by decide) _)) | fail))
  go_wp2_with fail
  refine region_still 10 (by kernel_rfl) ?_
  simp only [List.take_succ_cons, List.take_zero, List.drop_succ_cons, List.drop_zero]
  repeat still_step
  still_call (way_q 0 0 (by decide) _)
  repeat still_step
  still_call (parts_q 0 2 (by decide) _)
  repeat still_step
  refine wpStill_nil ?_
  go_wp2_with fail
  refine region_still 6 (by kernel_rfl) ?_
  simp only [List.take_succ_cons, List.take_zero, List.drop_succ_cons, List.drop_zero]
  repeat still_step
  still_call (parts_q 0 2 (by decide) _)
  repeat still_step
  refine wpStill_nil ?_
  go_wp2_with fail
  all_goals (try simp only [Act.put, List.getElem_toArray, List.getElem_cons_zero, List.getElem_cons_succ, List.setIfInBounds_toArray, List.set_cons_zero, List.set_cons_succ])
  all_goals go_wp2_with fail
  all_goals
    refine bodyPost_ret (v := .tuple #[laidV (p / 2) (q) (r * 2), .nilIface]) ?h1 rfl ⟨rfl, ?h2⟩
    case h1 =>
      refine results_row_tmp (b := w.heap.size + 1) (cs := [.int .i64 (p / 2), .int .i64 (q), .int .i64 (r * 2)]) Tryd.results51 rfl ?_ Tryd.underlying78 rfl (by kernel_rfl)
      repeat (with_reducible first | apply range_drew | apply range_drewN)
      refine range3 ?_
      repeat (with_reducible first | apply there_set' | apply there_drew | apply there_drewN | exact there_new _ _ [.int .i64 0, .int .i64 0, .int .i64 0] _ rfl)
    case h2 =>
      repeat (with_reducible first | exact Below.refl _ _ | assumption | apply Below.drew | apply below_drewN' | (refine Below.alloc ?_ (by first | (simp; done) | (simp; omega) | omega) _) | (refine Below.setCell ?_ (by first | (simp; done) | (simp; omega) | omega) _))
end Go.Proofs.YtcbbabepjfiigaaDoor.fold

/-
  The fold 0, undone by the program.
-/
namespace Go.Proofs.YtcbbabepjfiigaaDoor.fold
open Go Go.RowKit sl errs
set_option maxRecDepth 100000 in
set_option maxHeartbeats 8000000 in
theorem undo0_state (p q r : Int) (hp : 1 ≤ p ∧ p ≤ 1296) (hq : 1 ≤ q ∧ q ≤ 1296) (hr : 1 ≤ r ∧ r ≤ 144) {w : World} {B : Nat} {e : Nat → Addr} (h : Errs w B e) (hB : B ≤ w.heap.size) (hd : ¬ r % 2 = 0) :
    Calls Tryd.prog 60 #[.int .u8 0, laidV p q r] w fun o w' => o = .returned (.tuple #[laidV 0 0 0, errV (e 3)]) ∧ Below w.heap.size w w' := by
  have gs : 0 < w.heap.size := Nat.lt_of_lt_of_le h.size.2.2.2.1 hB
  have gl : 1 < w.heap.size := Nat.lt_of_lt_of_le h.size.2.2.1 hB
  have gs0 : ¬ 0 = w.heap.size := by omega
  have gs1 : ¬ 0 = w.heap.size + 1 := by omega
  have gl0 : ¬ 1 = w.heap.size := by omega
  have gl1 : ¬ 1 = w.heap.size + 1 := by omega
  have gs2 : ¬ w.heap.size = 0 := by omega
  have gs3 : ¬ w.heap.size + 1 = 0 := by omega
  have gl2 : ¬ w.heap.size = 1 := by omega
  have gl3 : ¬ w.heap.size + 1 = 1 := by omega
  have cs : ∀ (o1 o2 : Obj) (n : Nat), (((w.alloc o1).alloc o2).drewN n).cell? ⟨0, 0, none⟩ = some (errV (e 3)) := fun o1 o2 n => ((below_drewN' (((Below.refl w.heap.size w).alloc (Nat.le_refl _) o1).alloc (by simp) o2) (n := n)).cell (p := ⟨0, 0, none⟩) gs).trans h.c3
  have cl : ∀ (o1 o2 : Obj) (n : Nat), (((w.alloc o1).alloc o2).drewN n).cell? ⟨1, 0, none⟩ = some (errV (e 2)) := fun o1 o2 n => ((below_drewN' (((Below.refl w.heap.size w).alloc (Nat.le_refl _) o1).alloc (by simp) o2) (n := n)).cell (p := ⟨1, 0, none⟩) gl).trans h.c2
  clear h hB
  have t1 : r.tmod 2 = r % 2 := Int.tmod_eq_emod_of_nonneg (by omega)
  have t2 : r.tdiv 2 = r / 2 := Int.tdiv_eq_ediv_of_nonneg (by omega)
  have t5 : IntKind.i64.wrap (p * 2) = p * 2 := IntWalk.i64_in _ (by omega)
  have t6 : IntKind.i64.wrap (r / 2) = r / 2 := IntWalk.i64_in _ (by omega)
  have t7 : wrap64 (p * 2) = p * 2 := by unfold wrap64; omega
  have t8 : wrap64 (r / 2) = r / 2 := by unfold wrap64; omega
  have hd2 : (r % 2 != 0) = true := by rw [bne_iff_ne]; exact hd
  clear hd t2 t5 t6 t7 t8
  go_enter Tryd.func60, Tryd.ntmps60
  go_wp2_with fail
  go_quiet ((first | (go_at_call 80; exact Calls.quiet_of_same (way_q 0 0 (by decide) _)) | (go_at_call 81; exact Calls.quiet_of_same (parts_q 0 2 (by decide) _)) | fail))
  go_wp2_with fail
  go_region
  all_goals (try simp only [Act.put, List.getElem_toArray, List.getElem_cons_zero, List.getElem_cons_succ, List.setIfInBounds_toArray, List.set_cons_zero, List.set_cons_succ])
  all_goals go_wp2_with fail
  all_goals
    refine bodyPost_ret (v := .tuple #[laidV 0 0 0, errV (e 3)]) ?h1 rfl ⟨rfl, ?h2⟩
    case h1 =>
      refine results_row_tmp (b := w.heap.size + 1) (cs := [.int .i64 0, .int .i64 0, .int .i64 0]) Tryd.results60 rfl ?_ Tryd.underlying78 rfl (by kernel_rfl)
      repeat (with_reducible first | apply range_drew | apply range_drewN)
      refine range3 ?_
      repeat (with_reducible first | apply there_set' | apply there_drew | apply there_drewN | exact there_new _ _ [.int .i64 0, .int .i64 0, .int .i64 0] _ rfl)
    case h2 =>
      repeat (with_reducible first | exact Below.refl _ _ | assumption | apply Below.drew | apply below_drewN' | (refine Below.alloc ?_ (by first | (simp; done) | (simp; omega) | omega) _) | (refine Below.setCell ?_ (by first | (simp; done) | (simp; omega) | omega) _))
set_option maxRecDepth 100000 in
set_option maxHeartbeats 8000000 in
theorem undo0_limit (p q r : Int) (hp : 1 ≤ p ∧ p ≤ 1296) (hq : 1 ≤ q ∧ q ≤ 1296) (hr : 1 ≤ r ∧ r ≤ 144) {w : World} {B : Nat} {e : Nat → Addr} (h : Errs w B e) (hB : B ≤ w.heap.size) (hd : r % 2 = 0) (hl : 1296 < p * 2) :
    Calls Tryd.prog 60 #[.int .u8 0, laidV p q r] w fun o w' => o = .returned (.tuple #[laidV 0 0 0, errV (e 2)]) ∧ Below w.heap.size w w' := by
  have gs : 0 < w.heap.size := Nat.lt_of_lt_of_le h.size.2.2.2.1 hB
  have gl : 1 < w.heap.size := Nat.lt_of_lt_of_le h.size.2.2.1 hB
  have gs0 : ¬ 0 = w.heap.size := by omega
  have gs1 : ¬ 0 = w.heap.size + 1 := by omega
  have gl0 : ¬ 1 = w.heap.size := by omega
  have gl1 : ¬ 1 = w.heap.size + 1 := by omega
  have gs2 : ¬ w.heap.size = 0 := by omega
  have gs3 : ¬ w.heap.size + 1 = 0 := by omega
  have gl2 : ¬ w.heap.size = 1 := by omega
  have gl3 : ¬ w.heap.size + 1 = 1 := by omega
  have cs : ∀ (o1 o2 : Obj) (n : Nat), (((w.alloc o1).alloc o2).drewN n).cell? ⟨0, 0, none⟩ = some (errV (e 3)) := fun o1 o2 n => ((below_drewN' (((Below.refl w.heap.size w).alloc (Nat.le_refl _) o1).alloc (by simp) o2) (n := n)).cell (p := ⟨0, 0, none⟩) gs).trans h.c3
  have cl : ∀ (o1 o2 : Obj) (n : Nat), (((w.alloc o1).alloc o2).drewN n).cell? ⟨1, 0, none⟩ = some (errV (e 2)) := fun o1 o2 n => ((below_drewN' (((Below.refl w.heap.size w).alloc (Nat.le_refl _) o1).alloc (by simp) o2) (n := n)).cell (p := ⟨1, 0, none⟩) gl).trans h.c2
  clear h hB
  have t1 : r.tmod 2 = r % 2 := Int.tmod_eq_emod_of_nonneg (by omega)
  have t2 : r.tdiv 2 = r / 2 := Int.tdiv_eq_ediv_of_nonneg (by omega)
  have t5 : IntKind.i64.wrap (p * 2) = p * 2 := IntWalk.i64_in _ (by omega)
  have t6 : IntKind.i64.wrap (r / 2) = r / 2 := IntWalk.i64_in _ (by omega)
  have t7 : wrap64 (p * 2) = p * 2 := by unfold wrap64; omega
  have t8 : wrap64 (r / 2) = r / 2 := by unfold wrap64; omega
  go_enter Tryd.func60, Tryd.ntmps60
  go_wp2_with fail
  go_quiet ((first | (go_at_call 80; exact Calls.quiet_of_same (way_q 0 0 (by decide) _)) | (go_at_call 81; exact Calls.quiet_of_same (parts_q 0 2 (by decide) _)) | fail))
  go_wp2_with fail
  refine region_still 10 (by kernel_rfl) ?_
  simp only [List.take_succ_cons, List.take_zero, List.drop_succ_cons, List.drop_zero]
  repeat still_step
  still_call (way_q 0 0 (by decide) _)
  repeat still_step
  still_call (parts_q 0 2 (by decide) _)
  repeat still_step
  refine wpStill_nil ?_
  go_wp2_with fail
  refine region_still 6 (by kernel_rfl) ?_
  simp only [List.take_succ_cons, List.take_zero, List.drop_succ_cons, List.drop_zero]
  repeat still_step
  still_call (parts_q 0 2 (by decide) _)
  repeat still_step
  refine wpStill_nil ?_
  go_wp2_with fail
  all_goals (refine (way_any 0 0 (by decide) _).mono ?_; rintro o u ⟨rfl, rfl⟩)
  all_goals go_wp2_with fail
  all_goals go_region
  all_goals (try simp only [Act.put, List.getElem_toArray, List.getElem_cons_zero, List.getElem_cons_succ, List.setIfInBounds_toArray, List.set_cons_zero, List.set_cons_succ])
  all_goals go_wp2_with fail
  all_goals
    refine bodyPost_ret (v := .tuple #[laidV 0 0 0, errV (e 2)]) ?h1 rfl ⟨rfl, ?h2⟩
    case h1 =>
      refine results_row_tmp (b := w.heap.size + 1) (cs := [.int .i64 0, .int .i64 0, .int .i64 0]) Tryd.results60 rfl ?_ Tryd.underlying78 rfl (by kernel_rfl)
      repeat (with_reducible first | apply range_drew | apply range_drewN)
      refine range3 ?_
      repeat (with_reducible first | apply there_set' | apply there_drew | apply there_drewN | exact there_new _ _ [.int .i64 0, .int .i64 0, .int .i64 0] _ rfl)
    case h2 =>
      repeat (with_reducible first | exact Below.refl _ _ | assumption | apply Below.drew | apply below_drewN' | (refine Below.alloc ?_ (by first | (simp; done) | (simp; omega) | omega) _) | (refine Below.setCell ?_ (by first | (simp; done) | (simp; omega) | omega) _))
set_option maxRecDepth 100000 in
set_option maxHeartbeats 8000000 in
theorem undo0_ok (p q r : Int) (hp : 1 ≤ p ∧ p ≤ 1296) (hq : 1 ≤ q ∧ q ≤ 1296) (hr : 1 ≤ r ∧ r ≤ 144) {w : World} {B : Nat} {e : Nat → Addr} (h : Errs w B e) (hB : B ≤ w.heap.size) (hd : r % 2 = 0) (hl : p * 2 ≤ 1296) :
    Calls Tryd.prog 60 #[.int .u8 0, laidV p q r] w fun o w' => o = .returned (.tuple #[laidV (p * 2) (q) (r / 2), .nilIface]) ∧ Below w.heap.size w w' := by
  have gs : 0 < w.heap.size := Nat.lt_of_lt_of_le h.size.2.2.2.1 hB
  have gl : 1 < w.heap.size := Nat.lt_of_lt_of_le h.size.2.2.1 hB
  have gs0 : ¬ 0 = w.heap.size := by omega
  have gs1 : ¬ 0 = w.heap.size + 1 := by omega
  have gl0 : ¬ 1 = w.heap.size := by omega
  have gl1 : ¬ 1 = w.heap.size + 1 := by omega
  have gs2 : ¬ w.heap.size = 0 := by omega
  have gs3 : ¬ w.heap.size + 1 = 0 := by omega
  have gl2 : ¬ w.heap.size = 1 := by omega
  have gl3 : ¬ w.heap.size + 1 = 1 := by omega
  have cs : ∀ (o1 o2 : Obj) (n : Nat), (((w.alloc o1).alloc o2).drewN n).cell? ⟨0, 0, none⟩ = some (errV (e 3)) := fun o1 o2 n => ((below_drewN' (((Below.refl w.heap.size w).alloc (Nat.le_refl _) o1).alloc (by simp) o2) (n := n)).cell (p := ⟨0, 0, none⟩) gs).trans h.c3
  have cl : ∀ (o1 o2 : Obj) (n : Nat), (((w.alloc o1).alloc o2).drewN n).cell? ⟨1, 0, none⟩ = some (errV (e 2)) := fun o1 o2 n => ((below_drewN' (((Below.refl w.heap.size w).alloc (Nat.le_refl _) o1).alloc (by simp) o2) (n := n)).cell (p := ⟨1, 0, none⟩) gl).trans h.c2
  clear h hB
  have t1 : r.tmod 2 = r % 2 := Int.tmod_eq_emod_of_nonneg (by omega)
  have t2 : r.tdiv 2 = r / 2 := Int.tdiv_eq_ediv_of_nonneg (by omega)
  have t5 : IntKind.i64.wrap (p * 2) = p * 2 := IntWalk.i64_in _ (by omega)
  have t6 : IntKind.i64.wrap (r / 2) = r / 2 := IntWalk.i64_in _ (by omega)
  have t7 : wrap64 (p * 2) = p * 2 := by unfold wrap64; omega
  have t8 : wrap64 (r / 2) = r / 2 := by unfold wrap64; omega
  go_enter Tryd.func60, Tryd.ntmps60
  go_wp2_with fail
  go_quiet ((first | (go_at_call 80; exact Calls.quiet_of_same (way_q 0 0 (by decide) _)) | (go_at_call 81; exact Calls.quiet_of_same (parts_q 0 2 (by decide) _)) | fail))
  go_wp2_with fail
  refine region_still 10 (by kernel_rfl) ?_
  simp only [List.take_succ_cons, List.take_zero, List.drop_succ_cons, List.drop_zero]
  repeat still_step
  still_call (way_q 0 0 (by decide) _)
  repeat still_step
  still_call (parts_q 0 2 (by decide) _)
  repeat still_step
  refine wpStill_nil ?_
  go_wp2_with fail
  refine region_still 6 (by kernel_rfl) ?_
  simp only [List.take_succ_cons, List.take_zero, List.drop_succ_cons, List.drop_zero]
  repeat still_step
  still_call (parts_q 0 2 (by decide) _)
  repeat still_step
  refine wpStill_nil ?_
  go_wp2_with fail
  all_goals (refine (way_any 0 0 (by decide) _).mono ?_; rintro o u ⟨rfl, rfl⟩)
  all_goals go_wp2_with fail
  all_goals (try simp only [Act.put, List.getElem_toArray, List.getElem_cons_zero, List.getElem_cons_succ, List.setIfInBounds_toArray, List.set_cons_zero, List.set_cons_succ])
  all_goals go_wp2_with fail
  all_goals
    refine bodyPost_ret (v := .tuple #[laidV (p * 2) (q) (r / 2), .nilIface]) ?h1 rfl ⟨rfl, ?h2⟩
    case h1 =>
      refine results_row_tmp (b := w.heap.size + 1) (cs := [.int .i64 (p * 2), .int .i64 (q), .int .i64 (r / 2)]) Tryd.results60 rfl ?_ Tryd.underlying78 rfl (by kernel_rfl)
      repeat (with_reducible first | apply range_drew | apply range_drewN)
      refine range3 ?_
      repeat (with_reducible first | apply there_set' | apply there_drew | apply there_drewN | exact there_new _ _ [.int .i64 0, .int .i64 0, .int .i64 0] _ rfl)
    case h2 =>
      repeat (with_reducible first | exact Below.refl _ _ | assumption | apply Below.drew | apply below_drewN' | (refine Below.alloc ?_ (by first | (simp; done) | (simp; omega) | omega) _) | (refine Below.setCell ?_ (by first | (simp; done) | (simp; omega) | omega) _))
end Go.Proofs.YtcbbabepjfiigaaDoor.fold

/-
  The fold 1, made by the program.
-/
namespace Go.Proofs.YtcbbabepjfiigaaDoor.fold
open Go Go.RowKit sl errs
set_option maxRecDepth 100000 in
set_option maxHeartbeats 8000000 in
theorem made1_state (p q r : Int) (hp : 1 ≤ p ∧ p ≤ 1296) (hq : 1 ≤ q ∧ q ≤ 1296) (hr : 1 ≤ r ∧ r ≤ 144) {w : World} {B : Nat} {e : Nat → Addr} (h : Errs w B e) (hB : B ≤ w.heap.size) (hd : ¬ q % 2 = 0) :
    Calls Tryd.prog 51 #[.int .u8 1, laidV p q r] w fun o w' => o = .returned (.tuple #[laidV 0 0 0, errV (e 3)]) ∧ Below w.heap.size w w' := by
  have gs : 0 < w.heap.size := Nat.lt_of_lt_of_le h.size.2.2.2.1 hB
  have gl : 1 < w.heap.size := Nat.lt_of_lt_of_le h.size.2.2.1 hB
  have gs0 : ¬ 0 = w.heap.size := by omega
  have gs1 : ¬ 0 = w.heap.size + 1 := by omega
  have gl0 : ¬ 1 = w.heap.size := by omega
  have gl1 : ¬ 1 = w.heap.size + 1 := by omega
  have gs2 : ¬ w.heap.size = 0 := by omega
  have gs3 : ¬ w.heap.size + 1 = 0 := by omega
  have gl2 : ¬ w.heap.size = 1 := by omega
  have gl3 : ¬ w.heap.size + 1 = 1 := by omega
  have cs : ∀ (o1 o2 : Obj) (n : Nat), (((w.alloc o1).alloc o2).drewN n).cell? ⟨0, 0, none⟩ = some (errV (e 3)) := fun o1 o2 n => ((below_drewN' (((Below.refl w.heap.size w).alloc (Nat.le_refl _) o1).alloc (by simp) o2) (n := n)).cell (p := ⟨0, 0, none⟩) gs).trans h.c3
  have cl : ∀ (o1 o2 : Obj) (n : Nat), (((w.alloc o1).alloc o2).drewN n).cell? ⟨1, 0, none⟩ = some (errV (e 2)) := fun o1 o2 n => ((below_drewN' (((Below.refl w.heap.size w).alloc (Nat.le_refl _) o1).alloc (by simp) o2) (n := n)).cell (p := ⟨1, 0, none⟩) gl).trans h.c2
  clear h hB
  have t1 : q.tmod 2 = q % 2 := Int.tmod_eq_emod_of_nonneg (by omega)
  have t2 : q.tdiv 2 = q / 2 := Int.tdiv_eq_ediv_of_nonneg (by omega)
  have t5 : IntKind.i64.wrap (q / 2) = q / 2 := IntWalk.i64_in _ (by omega)
  have t6 : IntKind.i64.wrap (r * 2) = r * 2 := IntWalk.i64_in _ (by omega)
  have t7 : wrap64 (q / 2) = q / 2 := by unfold wrap64; omega
  have t8 : wrap64 (r * 2) = r * 2 := by unfold wrap64; omega
  have hd2 : (q % 2 != 0) = true := by rw [bne_iff_ne]; exact hd
  clear hd t2 t5 t6 t7 t8
  go_enter Tryd.func51, Tryd.ntmps51
  go_wp2_with fail
  go_quiet ((first | (go_at_call 80; exact Calls.quiet_of_same (way_q 1 1 (by decide) _)) | (go_at_call 81; exact Calls.quiet_of_same (parts_q 1 2 (by decide) _)) | fail))
  go_wp2_with fail
  go_region
  all_goals (try simp only [Act.put, List.getElem_toArray, List.getElem_cons_zero, List.getElem_cons_succ, List.setIfInBounds_toArray, List.set_cons_zero, List.set_cons_succ])
  all_goals go_wp2_with fail
  all_goals
    refine bodyPost_ret (v := .tuple #[laidV 0 0 0, errV (e 3)]) ?h1 rfl ⟨rfl, ?h2⟩
    case h1 =>
      refine results_row_tmp (b := w.heap.size + 1) (cs := [.int .i64 0, .int .i64 0, .int .i64 0]) Tryd.results51 rfl ?_ Tryd.underlying78 rfl (by kernel_rfl)
      repeat (with_reducible first | apply range_drew | apply range_drewN)
      refine range3 ?_
      repeat (with_reducible first | apply there_set' | apply there_drew | apply there_drewN | exact there_new _ _ [.int .i64 0, .int .i64 0, .int .i64 0] _ rfl)
    case h2 =>
      repeat (with_reducible first | exact Below.refl _ _ | assumption | apply Below.drew | apply below_drewN' | (refine Below.alloc ?_ (by first | (simp; done) | (simp; omega) | omega) _) | (refine Below.setCell ?_ (by first | (simp; done) | (simp; omega) | omega) _))
set_option maxRecDepth 100000 in
set_option maxHeartbeats 8000000 in
theorem made1_limit (p q r : Int) (hp : 1 ≤ p ∧ p ≤ 1296) (hq : 1 ≤ q ∧ q ≤ 1296) (hr : 1 ≤ r ∧ r ≤ 144) {w : World} {B : Nat} {e : Nat → Addr} (h : Errs w B e) (hB : B ≤ w.heap.size) (hd : q % 2 = 0) (hl : 144 < r * 2) :
    Calls Tryd.prog 51 #[.int .u8 1, laidV p q r] w fun o w' => o = .returned (.tuple #[laidV 0 0 0, errV (e 2)]) ∧ Below w.heap.size w w' := by
  have gs : 0 < w.heap.size := Nat.lt_of_lt_of_le h.size.2.2.2.1 hB
  have gl : 1 < w.heap.size := Nat.lt_of_lt_of_le h.size.2.2.1 hB
  have gs0 : ¬ 0 = w.heap.size := by omega
  have gs1 : ¬ 0 = w.heap.size + 1 := by omega
  have gl0 : ¬ 1 = w.heap.size := by omega
  have gl1 : ¬ 1 = w.heap.size + 1 := by omega
  have gs2 : ¬ w.heap.size = 0 := by omega
  have gs3 : ¬ w.heap.size + 1 = 0 := by omega
  have gl2 : ¬ w.heap.size = 1 := by omega
  have gl3 : ¬ w.heap.size + 1 = 1 := by omega
  have cs : ∀ (o1 o2 : Obj) (n : Nat), (((w.alloc o1).alloc o2).drewN n).cell? ⟨0, 0, none⟩ = some (errV (e 3)) := fun o1 o2 n => ((below_drewN' (((Below.refl w.heap.size w).alloc (Nat.le_refl _) o1).alloc (by simp) o2) (n := n)).cell (p := ⟨0, 0, none⟩) gs).trans h.c3
  have cl : ∀ (o1 o2 : Obj) (n : Nat), (((w.alloc o1).alloc o2).drewN n).cell? ⟨1, 0, none⟩ = some (errV (e 2)) := fun o1 o2 n => ((below_drewN' (((Below.refl w.heap.size w).alloc (Nat.le_refl _) o1).alloc (by simp) o2) (n := n)).cell (p := ⟨1, 0, none⟩) gl).trans h.c2
  clear h hB
  have t1 : q.tmod 2 = q % 2 := Int.tmod_eq_emod_of_nonneg (by omega)
  have t2 : q.tdiv 2 = q / 2 := Int.tdiv_eq_ediv_of_nonneg (by omega)
  have t5 : IntKind.i64.wrap (q / 2) = q / 2 := IntWalk.i64_in _ (by omega)
  have t6 : IntKind.i64.wrap (r * 2) = r * 2 := IntWalk.i64_in _ (by omega)
  have t7 : wrap64 (q / 2) = q / 2 := by unfold wrap64; omega
  have t8 : wrap64 (r * 2) = r * 2 := by unfold wrap64; omega
  go_enter Tryd.func51, Tryd.ntmps51
  go_wp2_with fail
  go_quiet ((first | (go_at_call 80; exact Calls.quiet_of_same (way_q 1 1 (by decide) _)) | (go_at_call 81; exact Calls.quiet_of_same (parts_q 1 2 (by decide) _)) | fail))
  go_wp2_with fail
  refine region_still 10 (by kernel_rfl) ?_
  simp only [List.take_succ_cons, List.take_zero, List.drop_succ_cons, List.drop_zero]
  repeat still_step
  still_call (way_q 1 1 (by decide) _)
  repeat still_step
  still_call (parts_q 1 2 (by decide) _)
  repeat still_step
  refine wpStill_nil ?_
  go_wp2_with fail
  refine region_still 6 (by kernel_rfl) ?_
  simp only [List.take_succ_cons, List.take_zero, List.drop_succ_cons, List.drop_zero]
  repeat still_step
  still_call (parts_q 1 2 (by decide) _)
  repeat still_step
  refine wpStill_nil ?_
  go_wp2_with fail
  all_goals go_region
  all_goals (try simp only [Act.put, List.getElem_toArray, List.getElem_cons_zero, List.getElem_cons_succ, List.setIfInBounds_toArray, List.set_cons_zero, List.set_cons_succ])
  all_goals go_wp2_with fail
  all_goals
    refine bodyPost_ret (v := .tuple #[laidV 0 0 0, errV (e 2)]) ?h1 rfl ⟨rfl, ?h2⟩
    case h1 =>
      refine results_row_tmp (b := w.heap.size + 1) (cs := [.int .i64 0, .int .i64 0, .int .i64 0]) Tryd.results51 rfl ?_ Tryd.underlying78 rfl (by kernel_rfl)
      repeat (with_reducible first | apply range_drew | apply range_drewN)
      refine range3 ?_
      repeat (with_reducible first | apply there_set' | apply there_drew | apply there_drewN | exact there_new _ _ [.int .i64 0, .int .i64 0, .int .i64 0] _ rfl)
    case h2 =>
      repeat (with_reducible first | exact Below.refl _ _ | assumption | apply Below.drew | apply below_drewN' | (refine Below.alloc ?_ (by first | (simp; done) | (simp; omega) | omega) _) | (refine Below.setCell ?_ (by first | (simp; done) | (simp; omega) | omega) _))
set_option maxRecDepth 100000 in
set_option maxHeartbeats 8000000 in
theorem made1_ok (p q r : Int) (hp : 1 ≤ p ∧ p ≤ 1296) (hq : 1 ≤ q ∧ q ≤ 1296) (hr : 1 ≤ r ∧ r ≤ 144) {w : World} {B : Nat} {e : Nat → Addr} (h : Errs w B e) (hB : B ≤ w.heap.size) (hd : q % 2 = 0) (hl : r * 2 ≤ 144) :
    Calls Tryd.prog 51 #[.int .u8 1, laidV p q r] w fun o w' => o = .returned (.tuple #[laidV (p) (q / 2) (r * 2), .nilIface]) ∧ Below w.heap.size w w' := by
  have gs : 0 < w.heap.size := Nat.lt_of_lt_of_le h.size.2.2.2.1 hB
  have gl : 1 < w.heap.size := Nat.lt_of_lt_of_le h.size.2.2.1 hB
  have gs0 : ¬ 0 = w.heap.size := by omega
  have gs1 : ¬ 0 = w.heap.size + 1 := by omega
  have gl0 : ¬ 1 = w.heap.size := by omega
  have gl1 : ¬ 1 = w.heap.size + 1 := by omega
  have gs2 : ¬ w.heap.size = 0 := by omega
  have gs3 : ¬ w.heap.size + 1 = 0 := by omega
  have gl2 : ¬ w.heap.size = 1 := by omega
  have gl3 : ¬ w.heap.size + 1 = 1 := by omega
  have cs : ∀ (o1 o2 : Obj) (n : Nat), (((w.alloc o1).alloc o2).drewN n).cell? ⟨0, 0, none⟩ = some (errV (e 3)) := fun o1 o2 n => ((below_drewN' (((Below.refl w.heap.size w).alloc (Nat.le_refl _) o1).alloc (by simp) o2) (n := n)).cell (p := ⟨0, 0, none⟩) gs).trans h.c3
  have cl : ∀ (o1 o2 : Obj) (n : Nat), (((w.alloc o1).alloc o2).drewN n).cell? ⟨1, 0, none⟩ = some (errV (e 2)) := fun o1 o2 n => ((below_drewN' (((Below.refl w.heap.size w).alloc (Nat.le_refl _) o1).alloc (by simp) o2) (n := n)).cell (p := ⟨1, 0, none⟩) gl).trans h.c2
  clear h hB
  have t1 : q.tmod 2 = q % 2 := Int.tmod_eq_emod_of_nonneg (by omega)
  have t2 : q.tdiv 2 = q / 2 := Int.tdiv_eq_ediv_of_nonneg (by omega)
  have t5 : IntKind.i64.wrap (q / 2) = q / 2 := IntWalk.i64_in _ (by omega)
  have t6 : IntKind.i64.wrap (r * 2) = r * 2 := IntWalk.i64_in _ (by omega)
  have t7 : wrap64 (q / 2) = q / 2 := by unfold wrap64; omega
  have t8 : wrap64 (r * 2) = r * 2 := by unfold wrap64; omega
  go_enter Tryd.func51, Tryd.ntmps51
  go_wp2_with fail
  go_quiet ((first | (go_at_call 80; exact Calls.quiet_of_same (way_q 1 1 (by decide) _)) | (go_at_call 81; exact Calls.quiet_of_same (parts_q 1 2 (by decide) _)) | fail))
  go_wp2_with fail
  refine region_still 10 (by kernel_rfl) ?_
  simp only [List.take_succ_cons, List.take_zero, List.drop_succ_cons, List.drop_zero]
  repeat still_step
  still_call (way_q 1 1 (by decide) _)
  repeat still_step
  still_call (parts_q 1 2 (by decide) _)
  repeat still_step
  refine wpStill_nil ?_
  go_wp2_with fail
  refine region_still 6 (by kernel_rfl) ?_
  simp only [List.take_succ_cons, List.take_zero, List.drop_succ_cons, List.drop_zero]
  repeat still_step
  still_call (parts_q 1 2 (by decide) _)
  repeat still_step
  refine wpStill_nil ?_
  go_wp2_with fail
  all_goals (try simp only [Act.put, List.getElem_toArray, List.getElem_cons_zero, List.getElem_cons_succ, List.setIfInBounds_toArray, List.set_cons_zero, List.set_cons_succ])
  all_goals go_wp2_with fail
  all_goals
    refine bodyPost_ret (v := .tuple #[laidV (p) (q / 2) (r * 2), .nilIface]) ?h1 rfl ⟨rfl, ?h2⟩
    case h1 =>
      refine results_row_tmp (b := w.heap.size + 1) (cs := [.int .i64 (p), .int .i64 (q / 2), .int .i64 (r * 2)]) Tryd.results51 rfl ?_ Tryd.underlying78 rfl (by kernel_rfl)
      repeat (with_reducible first | apply range_drew | apply range_drewN)
      refine range3 ?_
      repeat (with_reducible first | apply there_set' | apply there_drew | apply there_drewN | exact there_new _ _ [.int .i64 0, .int .i64 0, .int .i64 0] _ rfl)
    case h2 =>
      repeat (with_reducible first | exact Below.refl _ _ | assumption | apply Below.drew | apply below_drewN' | (refine Below.alloc ?_ (by first | (simp; done) | (simp; omega) | omega) _) | (refine Below.setCell ?_ (by first | (simp; done) | (simp; omega) | omega) _))
end Go.Proofs.YtcbbabepjfiigaaDoor.fold

/-
  The fold 1, undone by the program.
-/
namespace Go.Proofs.YtcbbabepjfiigaaDoor.fold
open Go Go.RowKit sl errs
set_option maxRecDepth 100000 in
set_option maxHeartbeats 8000000 in
theorem undo1_state (p q r : Int) (hp : 1 ≤ p ∧ p ≤ 1296) (hq : 1 ≤ q ∧ q ≤ 1296) (hr : 1 ≤ r ∧ r ≤ 144) {w : World} {B : Nat} {e : Nat → Addr} (h : Errs w B e) (hB : B ≤ w.heap.size) (hd : ¬ r % 2 = 0) :
    Calls Tryd.prog 60 #[.int .u8 1, laidV p q r] w fun o w' => o = .returned (.tuple #[laidV 0 0 0, errV (e 3)]) ∧ Below w.heap.size w w' := by
  have gs : 0 < w.heap.size := Nat.lt_of_lt_of_le h.size.2.2.2.1 hB
  have gl : 1 < w.heap.size := Nat.lt_of_lt_of_le h.size.2.2.1 hB
  have gs0 : ¬ 0 = w.heap.size := by omega
  have gs1 : ¬ 0 = w.heap.size + 1 := by omega
  have gl0 : ¬ 1 = w.heap.size := by omega
  have gl1 : ¬ 1 = w.heap.size + 1 := by omega
  have gs2 : ¬ w.heap.size = 0 := by omega
  have gs3 : ¬ w.heap.size + 1 = 0 := by omega
  have gl2 : ¬ w.heap.size = 1 := by omega
  have gl3 : ¬ w.heap.size + 1 = 1 := by omega
  have cs : ∀ (o1 o2 : Obj) (n : Nat), (((w.alloc o1).alloc o2).drewN n).cell? ⟨0, 0, none⟩ = some (errV (e 3)) := fun o1 o2 n => ((below_drewN' (((Below.refl w.heap.size w).alloc (Nat.le_refl _) o1).alloc (by simp) o2) (n := n)).cell (p := ⟨0, 0, none⟩) gs).trans h.c3
  have cl : ∀ (o1 o2 : Obj) (n : Nat), (((w.alloc o1).alloc o2).drewN n).cell? ⟨1, 0, none⟩ = some (errV (e 2)) := fun o1 o2 n => ((below_drewN' (((Below.refl w.heap.size w).alloc (Nat.le_refl _) o1).alloc (by simp) o2) (n := n)).cell (p := ⟨1, 0, none⟩) gl).trans h.c2
  clear h hB
  have t1 : r.tmod 2 = r % 2 := Int.tmod_eq_emod_of_nonneg (by omega)
  have t2 : r.tdiv 2 = r / 2 := Int.tdiv_eq_ediv_of_nonneg (by omega)
  have t5 : IntKind.i64.wrap (q * 2) = q * 2 := IntWalk.i64_in _ (by omega)
  have t6 : IntKind.i64.wrap (r / 2) = r / 2 := IntWalk.i64_in _ (by omega)
  have t7 : wrap64 (q * 2) = q * 2 := by unfold wrap64; omega
  have t8 : wrap64 (r / 2) = r / 2 := by unfold wrap64; omega
  have hd2 : (r % 2 != 0) = true := by rw [bne_iff_ne]; exact hd
  clear hd t2 t5 t6 t7 t8
  go_enter Tryd.func60, Tryd.ntmps60
  go_wp2_with fail
  go_quiet ((first | (go_at_call 80; exact Calls.quiet_of_same (way_q 1 1 (by decide) _)) | (go_at_call 81; exact Calls.quiet_of_same (parts_q 1 2 (by decide) _)) | fail))
  go_wp2_with fail
  go_region
  all_goals (try simp only [Act.put, List.getElem_toArray, List.getElem_cons_zero, List.getElem_cons_succ, List.setIfInBounds_toArray, List.set_cons_zero, List.set_cons_succ])
  all_goals go_wp2_with fail
  all_goals
    refine bodyPost_ret (v := .tuple #[laidV 0 0 0, errV (e 3)]) ?h1 rfl ⟨rfl, ?h2⟩
    case h1 =>
      refine results_row_tmp (b := w.heap.size + 1) (cs := [.int .i64 0, .int .i64 0, .int .i64 0]) Tryd.results60 rfl ?_ Tryd.underlying78 rfl (by kernel_rfl)
      repeat (with_reducible first | apply range_drew | apply range_drewN)
      refine range3 ?_
      repeat (with_reducible first | apply there_set' | apply there_drew | apply there_drewN | exact there_new _ _ [.int .i64 0, .int .i64 0, .int .i64 0] _ rfl)
    case h2 =>
      repeat (with_reducible first | exact Below.refl _ _ | assumption | apply Below.drew | apply below_drewN' | (refine Below.alloc ?_ (by first | (simp; done) | (simp; omega) | omega) _) | (refine Below.setCell ?_ (by first | (simp; done) | (simp; omega) | omega) _))
set_option maxRecDepth 100000 in
set_option maxHeartbeats 8000000 in
theorem undo1_limit (p q r : Int) (hp : 1 ≤ p ∧ p ≤ 1296) (hq : 1 ≤ q ∧ q ≤ 1296) (hr : 1 ≤ r ∧ r ≤ 144) {w : World} {B : Nat} {e : Nat → Addr} (h : Errs w B e) (hB : B ≤ w.heap.size) (hd : r % 2 = 0) (hl : 1296 < q * 2) :
    Calls Tryd.prog 60 #[.int .u8 1, laidV p q r] w fun o w' => o = .returned (.tuple #[laidV 0 0 0, errV (e 2)]) ∧ Below w.heap.size w w' := by
  have gs : 0 < w.heap.size := Nat.lt_of_lt_of_le h.size.2.2.2.1 hB
  have gl : 1 < w.heap.size := Nat.lt_of_lt_of_le h.size.2.2.1 hB
  have gs0 : ¬ 0 = w.heap.size := by omega
  have gs1 : ¬ 0 = w.heap.size + 1 := by omega
  have gl0 : ¬ 1 = w.heap.size := by omega
  have gl1 : ¬ 1 = w.heap.size + 1 := by omega
  have gs2 : ¬ w.heap.size = 0 := by omega
  have gs3 : ¬ w.heap.size + 1 = 0 := by omega
  have gl2 : ¬ w.heap.size = 1 := by omega
  have gl3 : ¬ w.heap.size + 1 = 1 := by omega
  have cs : ∀ (o1 o2 : Obj) (n : Nat), (((w.alloc o1).alloc o2).drewN n).cell? ⟨0, 0, none⟩ = some (errV (e 3)) := fun o1 o2 n => ((below_drewN' (((Below.refl w.heap.size w).alloc (Nat.le_refl _) o1).alloc (by simp) o2) (n := n)).cell (p := ⟨0, 0, none⟩) gs).trans h.c3
  have cl : ∀ (o1 o2 : Obj) (n : Nat), (((w.alloc o1).alloc o2).drewN n).cell? ⟨1, 0, none⟩ = some (errV (e 2)) := fun o1 o2 n => ((below_drewN' (((Below.refl w.heap.size w).alloc (Nat.le_refl _) o1).alloc (by simp) o2) (n := n)).cell (p := ⟨1, 0, none⟩) gl).trans h.c2
  clear h hB
  have t1 : r.tmod 2 = r % 2 := Int.tmod_eq_emod_of_nonneg (by omega)
  have t2 : r.tdiv 2 = r / 2 := Int.tdiv_eq_ediv_of_nonneg (by omega)
  have t5 : IntKind.i64.wrap (q * 2) = q * 2 := IntWalk.i64_in _ (by omega)
  have t6 : IntKind.i64.wrap (r / 2) = r / 2 := IntWalk.i64_in _ (by omega)
  have t7 : wrap64 (q * 2) = q * 2 := by unfold wrap64; omega
  have t8 : wrap64 (r / 2) = r / 2 := by unfold wrap64; omega
  go_enter Tryd.func60, Tryd.ntmps60
  go_wp2_with fail
  go_quiet ((first | (go_at_call 80; exact Calls.quiet_of_same (way_q 1 1 (by decide) _)) | (go_at_call 81; exact Calls.quiet_of_same (parts_q 1 2 (by decide) _)) | fail))
  go_wp2_with fail
  refine region_still 10 (by kernel_rfl) ?_
  simp only [List.take_succ_cons, List.take_zero, List.drop_succ_cons, List.drop_zero]
  repeat still_step
  still_call (way_q 1 1 (by decide) _)
  repeat still_step
  still_call (parts_q 1 2 (by decide) _)
  repeat still_step
  refine wpStill_nil ?_
  go_wp2_with fail
  refine region_still 6 (by kernel_rfl) ?_
  simp only [List.take_succ_cons, List.take_zero, List.drop_succ_cons, List.drop_zero]
  repeat still_step
  still_call (parts_q 1 2 (by decide) _)
  repeat still_step
  refine wpStill_nil ?_
  go_wp2_with fail
  all_goals (refine (way_any 1 1 (by decide) _).mono ?_; rintro o u ⟨rfl, rfl⟩)
  all_goals go_wp2_with fail
  all_goals go_region
  all_goals (try simp only [Act.put, List.getElem_toArray, List.getElem_cons_zero, List.getElem_cons_succ, List.setIfInBounds_toArray, List.set_cons_zero, List.set_cons_succ])
  all_goals go_wp2_with fail
  all_goals
    refine bodyPost_ret (v := .tuple #[laidV 0 0 0, errV (e 2)]) ?h1 rfl ⟨rfl, ?h2⟩
    case h1 =>
      refine results_row_tmp (b := w.heap.size + 1) (cs := [.int .i64 0, .int .i64 0, .int .i64 0]) Tryd.results60 rfl ?_ Tryd.underlying78 rfl (by kernel_rfl)
      repeat (with_reducible first | apply range_drew | apply range_drewN)
      refine range3 ?_
      repeat (with_reducible first | apply there_set' | apply there_drew | apply there_drewN | exact there_new _ _ [.int .i64 0, .int .i64 0, .int .i64 0] _ rfl)
    case h2 =>
      repeat (with_reducible first | exact Below.refl _ _ | assumption | apply Below.drew | apply below_drewN' | (refine Below.alloc ?_ (by first | (simp; done) | (simp; omega) | omega) _) | (refine Below.setCell ?_ (by first | (simp; done) | (simp; omega) | omega) _))
set_option maxRecDepth 100000 in
set_option maxHeartbeats 8000000 in
theorem undo1_ok (p q r : Int) (hp : 1 ≤ p ∧ p ≤ 1296) (hq : 1 ≤ q ∧ q ≤ 1296) (hr : 1 ≤ r ∧ r ≤ 144) {w : World} {B : Nat} {e : Nat → Addr} (h : Errs w B e) (hB : B ≤ w.heap.size) (hd : r % 2 = 0) (hl : q * 2 ≤ 1296) :
    Calls Tryd.prog 60 #[.int .u8 1, laidV p q r] w fun o w' => o = .returned (.tuple #[laidV (p) (q * 2) (r / 2), .nilIface]) ∧ Below w.heap.size w w' := by
  have gs : 0 < w.heap.size := Nat.lt_of_lt_of_le h.size.2.2.2.1 hB
  have gl : 1 < w.heap.size := Nat.lt_of_lt_of_le h.size.2.2.1 hB
  have gs0 : ¬ 0 = w.heap.size := by omega
  have gs1 : ¬ 0 = w.heap.size + 1 := by omega
  have gl0 : ¬ 1 = w.heap.size := by omega
  have gl1 : ¬ 1 = w.heap.size + 1 := by omega
  have gs2 : ¬ w.heap.size = 0 := by omega
  have gs3 : ¬ w.heap.size + 1 = 0 := by omega
  have gl2 : ¬ w.heap.size = 1 := by omega
  have gl3 : ¬ w.heap.size + 1 = 1 := by omega
  have cs : ∀ (o1 o2 : Obj) (n : Nat), (((w.alloc o1).alloc o2).drewN n).cell? ⟨0, 0, none⟩ = some (errV (e 3)) := fun o1 o2 n => ((below_drewN' (((Below.refl w.heap.size w).alloc (Nat.le_refl _) o1).alloc (by simp) o2) (n := n)).cell (p := ⟨0, 0, none⟩) gs).trans h.c3
  have cl : ∀ (o1 o2 : Obj) (n : Nat), (((w.alloc o1).alloc o2).drewN n).cell? ⟨1, 0, none⟩ = some (errV (e 2)) := fun o1 o2 n => ((below_drewN' (((Below.refl w.heap.size w).alloc (Nat.le_refl _) o1).alloc (by simp) o2) (n := n)).cell (p := ⟨1, 0, none⟩) gl).trans h.c2
  clear h hB
  have t1 : r.tmod 2 = r % 2 := Int.tmod_eq_emod_of_nonneg (by omega)
  have t2 : r.tdiv 2 = r / 2 := Int.tdiv_eq_ediv_of_nonneg (by omega)
  have t5 : IntKind.i64.wrap (q * 2) = q * 2 := IntWalk.i64_in _ (by omega)
  have t6 : IntKind.i64.wrap (r / 2) = r / 2 := IntWalk.i64_in _ (by omega)
  have t7 : wrap64 (q * 2) = q * 2 := by unfold wrap64; omega
  have t8 : wrap64 (r / 2) = r / 2 := by unfold wrap64; omega
  go_enter Tryd.func60, Tryd.ntmps60
  go_wp2_with fail
  go_quiet ((first | (go_at_call 80; exact Calls.quiet_of_same (way_q 1 1 (by decide) _)) | (go_at_call 81; exact Calls.quiet_of_same (parts_q 1 2 (by decide) _)) | fail))
  go_wp2_with fail
  refine region_still 10 (by kernel_rfl) ?_
  simp only [List.take_succ_cons, List.take_zero, List.drop_succ_cons, List.drop_zero]
  repeat still_step
  still_call (way_q 1 1 (by decide) _)
  repeat still_step
  still_call (parts_q 1 2 (by decide) _)
  repeat still_step
  refine wpStill_nil ?_
  go_wp2_with fail
  refine region_still 6 (by kernel_rfl) ?_
  simp only [List.take_succ_cons, List.take_zero, List.drop_succ_cons, List.drop_zero]
  repeat still_step
  still_call (parts_q 1 2 (by decide) _)
  repeat still_step
  refine wpStill_nil ?_
  go_wp2_with fail
  all_goals (refine (way_any 1 1 (by decide) _).mono ?_; rintro o u ⟨rfl, rfl⟩)
  all_goals go_wp2_with fail
  all_goals (try simp only [Act.put, List.getElem_toArray, List.getElem_cons_zero, List.getElem_cons_succ, List.setIfInBounds_toArray, List.set_cons_zero, List.set_cons_succ])
  all_goals go_wp2_with fail
  all_goals
    refine bodyPost_ret (v := .tuple #[laidV (p) (q * 2) (r / 2), .nilIface]) ?h1 rfl ⟨rfl, ?h2⟩
    case h1 =>
      refine results_row_tmp (b := w.heap.size + 1) (cs := [.int .i64 (p), .int .i64 (q * 2), .int .i64 (r / 2)]) Tryd.results60 rfl ?_ Tryd.underlying78 rfl (by kernel_rfl)
      repeat (with_reducible first | apply range_drew | apply range_drewN)
      refine range3 ?_
      repeat (with_reducible first | apply there_set' | apply there_drew | apply there_drewN | exact there_new _ _ [.int .i64 0, .int .i64 0, .int .i64 0] _ rfl)
    case h2 =>
      repeat (with_reducible first | exact Below.refl _ _ | assumption | apply Below.drew | apply below_drewN' | (refine Below.alloc ?_ (by first | (simp; done) | (simp; omega) | omega) _) | (refine Below.setCell ?_ (by first | (simp; done) | (simp; omega) | omega) _))
end Go.Proofs.YtcbbabepjfiigaaDoor.fold

/-
  The fold 2, made by the program.
-/
namespace Go.Proofs.YtcbbabepjfiigaaDoor.fold
open Go Go.RowKit sl errs
set_option maxRecDepth 100000 in
set_option maxHeartbeats 8000000 in
theorem made2_state (p q r : Int) (hp : 1 ≤ p ∧ p ≤ 1296) (hq : 1 ≤ q ∧ q ≤ 1296) (hr : 1 ≤ r ∧ r ≤ 144) {w : World} {B : Nat} {e : Nat → Addr} (h : Errs w B e) (hB : B ≤ w.heap.size) (hd : ¬ p % 3 = 0) :
    Calls Tryd.prog 51 #[.int .u8 2, laidV p q r] w fun o w' => o = .returned (.tuple #[laidV 0 0 0, errV (e 3)]) ∧ Below w.heap.size w w' := by
  have gs : 0 < w.heap.size := Nat.lt_of_lt_of_le h.size.2.2.2.1 hB
  have gl : 1 < w.heap.size := Nat.lt_of_lt_of_le h.size.2.2.1 hB
  have gs0 : ¬ 0 = w.heap.size := by omega
  have gs1 : ¬ 0 = w.heap.size + 1 := by omega
  have gl0 : ¬ 1 = w.heap.size := by omega
  have gl1 : ¬ 1 = w.heap.size + 1 := by omega
  have gs2 : ¬ w.heap.size = 0 := by omega
  have gs3 : ¬ w.heap.size + 1 = 0 := by omega
  have gl2 : ¬ w.heap.size = 1 := by omega
  have gl3 : ¬ w.heap.size + 1 = 1 := by omega
  have cs : ∀ (o1 o2 : Obj) (n : Nat), (((w.alloc o1).alloc o2).drewN n).cell? ⟨0, 0, none⟩ = some (errV (e 3)) := fun o1 o2 n => ((below_drewN' (((Below.refl w.heap.size w).alloc (Nat.le_refl _) o1).alloc (by simp) o2) (n := n)).cell (p := ⟨0, 0, none⟩) gs).trans h.c3
  have cl : ∀ (o1 o2 : Obj) (n : Nat), (((w.alloc o1).alloc o2).drewN n).cell? ⟨1, 0, none⟩ = some (errV (e 2)) := fun o1 o2 n => ((below_drewN' (((Below.refl w.heap.size w).alloc (Nat.le_refl _) o1).alloc (by simp) o2) (n := n)).cell (p := ⟨1, 0, none⟩) gl).trans h.c2
  clear h hB
  have t1 : p.tmod 3 = p % 3 := Int.tmod_eq_emod_of_nonneg (by omega)
  have t2 : p.tdiv 3 = p / 3 := Int.tdiv_eq_ediv_of_nonneg (by omega)
  have t5 : IntKind.i64.wrap (p / 3) = p / 3 := IntWalk.i64_in _ (by omega)
  have t6 : IntKind.i64.wrap (r * 3) = r * 3 := IntWalk.i64_in _ (by omega)
  have t7 : wrap64 (p / 3) = p / 3 := by unfold wrap64; omega
  have t8 : wrap64 (r * 3) = r * 3 := by unfold wrap64; omega
  have hd2 : (p % 3 != 0) = true := by rw [bne_iff_ne]; exact hd
  clear hd t2 t5 t6 t7 t8
  go_enter Tryd.func51, Tryd.ntmps51
  go_wp2_with fail
  go_quiet ((first | (go_at_call 80; exact Calls.quiet_of_same (way_q 2 0 (by decide) _)) | (go_at_call 81; exact Calls.quiet_of_same (parts_q 2 3 (by decide) _)) | fail))
  go_wp2_with fail
  go_region
  all_goals (try simp only [Act.put, List.getElem_toArray, List.getElem_cons_zero, List.getElem_cons_succ, List.setIfInBounds_toArray, List.set_cons_zero, List.set_cons_succ])
  all_goals go_wp2_with fail
  all_goals
    refine bodyPost_ret (v := .tuple #[laidV 0 0 0, errV (e 3)]) ?h1 rfl ⟨rfl, ?h2⟩
    case h1 =>
      refine results_row_tmp (b := w.heap.size + 1) (cs := [.int .i64 0, .int .i64 0, .int .i64 0]) Tryd.results51 rfl ?_ Tryd.underlying78 rfl (by kernel_rfl)
      repeat (with_reducible first | apply range_drew | apply range_drewN)
      refine range3 ?_
      repeat (with_reducible first | apply there_set' | apply there_drew | apply there_drewN | exact there_new _ _ [.int .i64 0, .int .i64 0, .int .i64 0] _ rfl)
    case h2 =>
      repeat (with_reducible first | exact Below.refl _ _ | assumption | apply Below.drew | apply below_drewN' | (refine Below.alloc ?_ (by first | (simp; done) | (simp; omega) | omega) _) | (refine Below.setCell ?_ (by first | (simp; done) | (simp; omega) | omega) _))
set_option maxRecDepth 100000 in
set_option maxHeartbeats 8000000 in
theorem made2_limit (p q r : Int) (hp : 1 ≤ p ∧ p ≤ 1296) (hq : 1 ≤ q ∧ q ≤ 1296) (hr : 1 ≤ r ∧ r ≤ 144) {w : World} {B : Nat} {e : Nat → Addr} (h : Errs w B e) (hB : B ≤ w.heap.size) (hd : p % 3 = 0) (hl : 144 < r * 3) :
    Calls Tryd.prog 51 #[.int .u8 2, laidV p q r] w fun o w' => o = .returned (.tuple #[laidV 0 0 0, errV (e 2)]) ∧ Below w.heap.size w w' := by
  have gs : 0 < w.heap.size := Nat.lt_of_lt_of_le h.size.2.2.2.1 hB
  have gl : 1 < w.heap.size := Nat.lt_of_lt_of_le h.size.2.2.1 hB
  have gs0 : ¬ 0 = w.heap.size := by omega
  have gs1 : ¬ 0 = w.heap.size + 1 := by omega
  have gl0 : ¬ 1 = w.heap.size := by omega
  have gl1 : ¬ 1 = w.heap.size + 1 := by omega
  have gs2 : ¬ w.heap.size = 0 := by omega
  have gs3 : ¬ w.heap.size + 1 = 0 := by omega
  have gl2 : ¬ w.heap.size = 1 := by omega
  have gl3 : ¬ w.heap.size + 1 = 1 := by omega
  have cs : ∀ (o1 o2 : Obj) (n : Nat), (((w.alloc o1).alloc o2).drewN n).cell? ⟨0, 0, none⟩ = some (errV (e 3)) := fun o1 o2 n => ((below_drewN' (((Below.refl w.heap.size w).alloc (Nat.le_refl _) o1).alloc (by simp) o2) (n := n)).cell (p := ⟨0, 0, none⟩) gs).trans h.c3
  have cl : ∀ (o1 o2 : Obj) (n : Nat), (((w.alloc o1).alloc o2).drewN n).cell? ⟨1, 0, none⟩ = some (errV (e 2)) := fun o1 o2 n => ((below_drewN' (((Below.refl w.heap.size w).alloc (Nat.le_refl _) o1).alloc (by simp) o2) (n := n)).cell (p := ⟨1, 0, none⟩) gl).trans h.c2
  clear h hB
  have t1 : p.tmod 3 = p % 3 := Int.tmod_eq_emod_of_nonneg (by omega)
  have t2 : p.tdiv 3 = p / 3 := Int.tdiv_eq_ediv_of_nonneg (by omega)
  have t5 : IntKind.i64.wrap (p / 3) = p / 3 := IntWalk.i64_in _ (by omega)
  have t6 : IntKind.i64.wrap (r * 3) = r * 3 := IntWalk.i64_in _ (by omega)
  have t7 : wrap64 (p / 3) = p / 3 := by unfold wrap64; omega
  have t8 : wrap64 (r * 3) = r * 3 := by unfold wrap64; omega
  go_enter Tryd.func51, Tryd.ntmps51
  go_wp2_with fail
  go_quiet ((first | (go_at_call 80; exact Calls.quiet_of_same (way_q 2 0 (by decide) _)) | (go_at_call 81; exact Calls.quiet_of_same (parts_q 2 3 (by decide) _)) | fail))
  go_wp2_with fail
  refine region_still 10 (by kernel_rfl) ?_
  simp only [List.take_succ_cons, List.take_zero, List.drop_succ_cons, List.drop_zero]
  repeat still_step
  still_call (way_q 2 0 (by decide) _)
  repeat still_step
  still_call (parts_q 2 3 (by decide) _)
  repeat still_step
  refine wpStill_nil ?_
  go_wp2_with fail
  refine region_still 6 (by kernel_rfl) ?_
  simp only [List.take_succ_cons, List.take_zero, List.drop_succ_cons, List.drop_zero]
  repeat still_step
  still_call (parts_q 2 3 (by decide) _)
  repeat still_step
  refine wpStill_nil ?_
  go_wp2_with fail
  all_goals go_region
  all_goals (try simp only [Act.put, List.getElem_toArray, List.getElem_cons_zero, List.getElem_cons_succ, List.setIfInBounds_toArray, List.set_cons_zero, List.set_cons_succ])
  all_goals go_wp2_with fail
  all_goals
    refine bodyPost_ret (v := .tuple #[laidV 0 0 0, errV (e 2)]) ?h1 rfl ⟨rfl, ?h2⟩
    case h1 =>
      refine results_row_tmp (b := w.heap.size + 1) (cs := [.int .i64 0, .int .i64 0, .int .i64 0]) Tryd.results51 rfl ?_ Tryd.underlying78 rfl (by kernel_rfl)
      repeat (with_reducible first | apply range_drew | apply range_drewN)
      refine range3 ?_
      repeat (with_reducible first | apply there_set' | apply there_drew | apply there_drewN | exact there_new _ _ [.int .i64 0, .int .i64 0, .int .i64 0] _ rfl)
    case h2 =>
      repeat (with_reducible first | exact Below.refl _ _ | assumption | apply Below.drew | apply below_drewN' | (refine Below.alloc ?_ (by first | (simp; done) | (simp; omega) | omega) _) | (refine Below.setCell ?_ (by first | (simp; done) | (simp; omega) | omega) _))
set_option maxRecDepth 100000 in
set_option maxHeartbeats 8000000 in
theorem made2_ok (p q r : Int) (hp : 1 ≤ p ∧ p ≤ 1296) (hq : 1 ≤ q ∧ q ≤ 1296) (hr : 1 ≤ r ∧ r ≤ 144) {w : World} {B : Nat} {e : Nat → Addr} (h : Errs w B e) (hB : B ≤ w.heap.size) (hd : p % 3 = 0) (hl : r * 3 ≤ 144) :
    Calls Tryd.prog 51 #[.int .u8 2, laidV p q r] w fun o w' => o = .returned (.tuple #[laidV (p / 3) (q) (r * 3), .nilIface]) ∧ Below w.heap.size w w' := by
  have gs : 0 < w.heap.size := Nat.lt_of_lt_of_le h.size.2.2.2.1 hB
  have gl : 1 < w.heap.size := Nat.lt_of_lt_of_le h.size.2.2.1 hB
  have gs0 : ¬ 0 = w.heap.size := by omega
  have gs1 : ¬ 0 = w.heap.size + 1 := by omega
  have gl0 : ¬ 1 = w.heap.size := by omega
  have gl1 : ¬ 1 = w.heap.size + 1 := by omega
  have gs2 : ¬ w.heap.size = 0 := by omega
  have gs3 : ¬ w.heap.size + 1 = 0 := by omega
  have gl2 : ¬ w.heap.size = 1 := by omega
  have gl3 : ¬ w.heap.size + 1 = 1 := by omega
  have cs : ∀ (o1 o2 : Obj) (n : Nat), (((w.alloc o1).alloc o2).drewN n).cell? ⟨0, 0, none⟩ = some (errV (e 3)) := fun o1 o2 n => ((below_drewN' (((Below.refl w.heap.size w).alloc (Nat.le_refl _) o1).alloc (by simp) o2) (n := n)).cell (p := ⟨0, 0, none⟩) gs).trans h.c3
  have cl : ∀ (o1 o2 : Obj) (n : Nat), (((w.alloc o1).alloc o2).drewN n).cell? ⟨1, 0, none⟩ = some (errV (e 2)) := fun o1 o2 n => ((below_drewN' (((Below.refl w.heap.size w).alloc (Nat.le_refl _) o1).alloc (by simp) o2) (n := n)).cell (p := ⟨1, 0, none⟩) gl).trans h.c2
  clear h hB
  have t1 : p.tmod 3 = p % 3 := Int.tmod_eq_emod_of_nonneg (by omega)
  have t2 : p.tdiv 3 = p / 3 := Int.tdiv_eq_ediv_of_nonneg (by omega)
  have t5 : IntKind.i64.wrap (p / 3) = p / 3 := IntWalk.i64_in _ (by omega)
  have t6 : IntKind.i64.wrap (r * 3) = r * 3 := IntWalk.i64_in _ (by omega)
  have t7 : wrap64 (p / 3) = p / 3 := by unfold wrap64; omega
  have t8 : wrap64 (r * 3) = r * 3 := by unfold wrap64; omega
  go_enter Tryd.func51, Tryd.ntmps51
  go_wp2_with fail
  go_quiet ((first | (go_at_call 80; exact Calls.quiet_of_same (way_q 2 0 (by decide) _)) | (go_at_call 81; exact Calls.quiet_of_same (parts_q 2 3 (by decide) _)) | fail))
  go_wp2_with fail
  refine region_still 10 (by kernel_rfl) ?_
  simp only [List.take_succ_cons, List.take_zero, List.drop_succ_cons, List.drop_zero]
  repeat still_step
  still_call (way_q 2 0 (by decide) _)
  repeat still_step
  still_call (parts_q 2 3 (by decide) _)
  repeat still_step
  refine wpStill_nil ?_
  go_wp2_with fail
  refine region_still 6 (by kernel_rfl) ?_
  simp only [List.take_succ_cons, List.take_zero, List.drop_succ_cons, List.drop_zero]
  repeat still_step
  still_call (parts_q 2 3 (by decide) _)
  repeat still_step
  refine wpStill_nil ?_
  go_wp2_with fail
  all_goals (try simp only [Act.put, List.getElem_toArray, List.getElem_cons_zero, List.getElem_cons_succ, List.setIfInBounds_toArray, List.set_cons_zero, List.set_cons_succ])
  all_goals go_wp2_with fail
  all_goals
    refine bodyPost_ret (v := .tuple #[laidV (p / 3) (q) (r * 3), .nilIface]) ?h1 rfl ⟨rfl, ?h2⟩
    case h1 =>
      refine results_row_tmp (b := w.heap.size + 1) (cs := [.int .i64 (p / 3), .int .i64 (q), .int .i64 (r * 3)]) Tryd.results51 rfl ?_ Tryd.underlying78 rfl (by kernel_rfl)
      repeat (with_reducible first | apply range_drew | apply range_drewN)
      refine range3 ?_
      repeat (with_reducible first | apply there_set' | apply there_drew | apply there_drewN | exact there_new _ _ [.int .i64 0, .int .i64 0, .int .i64 0] _ rfl)
    case h2 =>
      repeat (with_reducible first | exact Below.refl _ _ | assumption | apply Below.drew | apply below_drewN' | (refine Below.alloc ?_ (by first | (simp; done) | (simp; omega) | omega) _) | (refine Below.setCell ?_ (by first | (simp; done) | (simp; omega) | omega) _))
end Go.Proofs.YtcbbabepjfiigaaDoor.fold

/-
  The fold 2, undone by the program.
-/
namespace Go.Proofs.YtcbbabepjfiigaaDoor.fold
open Go Go.RowKit sl errs
set_option maxRecDepth 100000 in
set_option maxHeartbeats 8000000 in
theorem undo2_state (p q r : Int) (hp : 1 ≤ p ∧ p ≤ 1296) (hq : 1 ≤ q ∧ q ≤ 1296) (hr : 1 ≤ r ∧ r ≤ 144) {w : World} {B : Nat} {e : Nat → Addr} (h : Errs w B e) (hB : B ≤ w.heap.size) (hd : ¬ r % 3 = 0) :
    Calls Tryd.prog 60 #[.int .u8 2, laidV p q r] w fun o w' => o = .returned (.tuple #[laidV 0 0 0, errV (e 3)]) ∧ Below w.heap.size w w' := by
  have gs : 0 < w.heap.size := Nat.lt_of_lt_of_le h.size.2.2.2.1 hB
  have gl : 1 < w.heap.size := Nat.lt_of_lt_of_le h.size.2.2.1 hB
  have gs0 : ¬ 0 = w.heap.size := by omega
  have gs1 : ¬ 0 = w.heap.size + 1 := by omega
  have gl0 : ¬ 1 = w.heap.size := by omega
  have gl1 : ¬ 1 = w.heap.size + 1 := by omega
  have gs2 : ¬ w.heap.size = 0 := by omega
  have gs3 : ¬ w.heap.size + 1 = 0 := by omega
  have gl2 : ¬ w.heap.size = 1 := by omega
  have gl3 : ¬ w.heap.size + 1 = 1 := by omega
  have cs : ∀ (o1 o2 : Obj) (n : Nat), (((w.alloc o1).alloc o2).drewN n).cell? ⟨0, 0, none⟩ = some (errV (e 3)) := fun o1 o2 n => ((below_drewN' (((Below.refl w.heap.size w).alloc (Nat.le_refl _) o1).alloc (by simp) o2) (n := n)).cell (p := ⟨0, 0, none⟩) gs).trans h.c3
  have cl : ∀ (o1 o2 : Obj) (n : Nat), (((w.alloc o1).alloc o2).drewN n).cell? ⟨1, 0, none⟩ = some (errV (e 2)) := fun o1 o2 n => ((below_drewN' (((Below.refl w.heap.size w).alloc (Nat.le_refl _) o1).alloc (by simp) o2) (n := n)).cell (p := ⟨1, 0, none⟩) gl).trans h.c2
  clear h hB
  have t1 : r.tmod 3 = r % 3 := Int.tmod_eq_emod_of_nonneg (by omega)
  have t2 : r.tdiv 3 = r / 3 := Int.tdiv_eq_ediv_of_nonneg (by omega)
  have t5 : IntKind.i64.wrap (p * 3) = p * 3 := IntWalk.i64_in _ (by omega)
  have t6 : IntKind.i64.wrap (r / 3) = r / 3 := IntWalk.i64_in _ (by omega)
  have t7 : wrap64 (p * 3) = p * 3 := by unfold wrap64; omega
  have t8 : wrap64 (r / 3) = r / 3 := by unfold wrap64; omega
  have hd2 : (r % 3 != 0) = true := by rw [bne_iff_ne]; exact hd
  clear hd t2 t5 t6 t7 t8
  go_enter Tryd.func60, Tryd.ntmps60
  go_wp2_with fail
  go_quiet ((first | (go_at_call 80; exact Calls.quiet_of_same (way_q 2 0 (by decide) _)) | (go_at_call 81; exact Calls.quiet_of_same (parts_q 2 3 (by decide) _)) | fail))
  go_wp2_with fail
  go_region
  all_goals (try simp only [Act.put, List.getElem_toArray, List.getElem_cons_zero, List.getElem_cons_succ, List.setIfInBounds_toArray, List.set_cons_zero, List.set_cons_succ])
  all_goals go_wp2_with fail
  all_goals
    refine bodyPost_ret (v := .tuple #[laidV 0 0 0, errV (e 3)]) ?h1 rfl ⟨rfl, ?h2⟩
    case h1 =>
      refine results_row_tmp (b := w.heap.size + 1) (cs := [.int .i64 0, .int .i64 0, .int .i64 0]) Tryd.results60 rfl ?_ Tryd.underlying78 rfl (by kernel_rfl)
      repeat (with_reducible first | apply range_drew | apply range_drewN)
      refine range3 ?_
      repeat (with_reducible first | apply there_set' | apply there_drew | apply there_drewN | exact there_new _ _ [.int .i64 0, .int .i64 0, .int .i64 0] _ rfl)
    case h2 =>
      repeat (with_reducible first | exact Below.refl _ _ | assumption | apply Below.drew | apply below_drewN' | (refine Below.alloc ?_ (by first | (simp; done) | (simp; omega) | omega) _) | (refine Below.setCell ?_ (by first | (simp; done) | (simp; omega) | omega) _))
set_option maxRecDepth 100000 in
set_option maxHeartbeats 8000000 in
theorem undo2_limit (p q r : Int) (hp : 1 ≤ p ∧ p ≤ 1296) (hq : 1 ≤ q ∧ q ≤ 1296) (hr : 1 ≤ r ∧ r ≤ 144) {w : World} {B : Nat} {e : Nat → Addr} (h : Errs w B e) (hB : B ≤ w.heap.size) (hd : r % 3 = 0) (hl : 1296 < p * 3) :
    Calls Tryd.prog 60 #[.int .u8 2, laidV p q r] w fun o w' => o = .returned (.tuple #[laidV 0 0 0, errV (e 2)]) ∧ Below w.heap.size w w' := by
  have gs : 0 < w.heap.size := Nat.lt_of_lt_of_le h.size.2.2.2.1 hB
  have gl : 1 < w.heap.size := Nat.lt_of_lt_of_le h.size.2.2.1 hB
  have gs0 : ¬ 0 = w.heap.size := by omega
  have gs1 : ¬ 0 = w.heap.size + 1 := by omega
  have gl0 : ¬ 1 = w.heap.size := by omega
  have gl1 : ¬ 1 = w.heap.size + 1 := by omega
  have gs2 : ¬ w.heap.size = 0 := by omega
  have gs3 : ¬ w.heap.size + 1 = 0 := by omega
  have gl2 : ¬ w.heap.size = 1 := by omega
  have gl3 : ¬ w.heap.size + 1 = 1 := by omega
  have cs : ∀ (o1 o2 : Obj) (n : Nat), (((w.alloc o1).alloc o2).drewN n).cell? ⟨0, 0, none⟩ = some (errV (e 3)) := fun o1 o2 n => ((below_drewN' (((Below.refl w.heap.size w).alloc (Nat.le_refl _) o1).alloc (by simp) o2) (n := n)).cell (p := ⟨0, 0, none⟩) gs).trans h.c3
  have cl : ∀ (o1 o2 : Obj) (n : Nat), (((w.alloc o1).alloc o2).drewN n).cell? ⟨1, 0, none⟩ = some (errV (e 2)) := fun o1 o2 n => ((below_drewN' (((Below.refl w.heap.size w).alloc (Nat.le_refl _) o1).alloc (by simp) o2) (n := n)).cell (p := ⟨1, 0, none⟩) gl).trans h.c2
  clear h hB
  have t1 : r.tmod 3 = r % 3 := Int.tmod_eq_emod_of_nonneg (by omega)
  have t2 : r.tdiv 3 = r / 3 := Int.tdiv_eq_ediv_of_nonneg (by omega)
  have t5 : IntKind.i64.wrap (p * 3) = p * 3 := IntWalk.i64_in _ (by omega)
  have t6 : IntKind.i64.wrap (r / 3) = r / 3 := IntWalk.i64_in _ (by omega)
  have t7 : wrap64 (p * 3) = p * 3 := by unfold wrap64; omega
  have t8 : wrap64 (r / 3) = r / 3 := by unfold wrap64; omega
  go_enter Tryd.func60, Tryd.ntmps60
  go_wp2_with fail
  go_quiet ((first | (go_at_call 80; exact Calls.quiet_of_same (way_q 2 0 (by decide) _)) | (go_at_call 81; exact Calls.quiet_of_same (parts_q 2 3 (by decide) _)) | fail))
  go_wp2_with fail
  refine region_still 10 (by kernel_rfl) ?_
  simp only [List.take_succ_cons, List.take_zero, List.drop_succ_cons, List.drop_zero]
  repeat still_step
  still_call (way_q 2 0 (by decide) _)
  repeat still_step
  still_call (parts_q 2 3 (by decide) _)
  repeat still_step
  refine wpStill_nil ?_
  go_wp2_with fail
  refine region_still 6 (by kernel_rfl) ?_
  simp only [List.take_succ_cons, List.take_zero, List.drop_succ_cons, List.drop_zero]
  repeat still_step
  still_call (parts_q 2 3 (by decide) _)
  repeat still_step
  refine wpStill_nil ?_
  go_wp2_with fail
  all_goals (refine (way_any 2 0 (by decide) _).mono ?_; rintro o u ⟨rfl, rfl⟩)
  all_goals go_wp2_with fail
  all_goals go_region
  all_goals (try simp only [Act.put, List.getElem_toArray, List.getElem_cons_zero, List.getElem_cons_succ, List.setIfInBounds_toArray, List.set_cons_zero, List.set_cons_succ])
  all_goals go_wp2_with fail
  all_goals
    refine bodyPost_ret (v := .tuple #[laidV 0 0 0, errV (e 2)]) ?h1 rfl ⟨rfl, ?h2⟩
    case h1 =>
      refine results_row_tmp (b := w.heap.size + 1) (cs := [.int .i64 0, .int .i64 0, .int .i64 0]) Tryd.results60 rfl ?_ Tryd.underlying78 rfl (by kernel_rfl)
      repeat (with_reducible first | apply range_drew | apply range_drewN)
      refine range3 ?_
      repeat (with_reducible first | apply there_set' | apply there_drew | apply there_drewN | exact there_new _ _ [.int .i64 0, .int .i64 0, .int .i64 0] _ rfl)
    case h2 =>
      repeat (with_reducible first | exact Below.refl _ _ | assumption | apply Below.drew | apply below_drewN' | (refine Below.alloc ?_ (by first | (simp; done) | (simp; omega) | omega) _) | (refine Below.setCell ?_ (by first | (simp; done) | (simp; omega) | omega) _))
set_option maxRecDepth 100000 in
set_option maxHeartbeats 8000000 in
theorem undo2_ok (p q r : Int) (hp : 1 ≤ p ∧ p ≤ 1296) (hq : 1 ≤ q ∧ q ≤ 1296) (hr : 1 ≤ r ∧ r ≤ 144) {w : World} {B : Nat} {e : Nat → Addr} (h : Errs w B e) (hB : B ≤ w.heap.size) (hd : r % 3 = 0) (hl : p * 3 ≤ 1296) :
    Calls Tryd.prog 60 #[.int .u8 2, laidV p q r] w fun o w' => o = .returned (.tuple #[laidV (p * 3) (q) (r / 3), .nilIface]) ∧ Below w.heap.size w w' := by
  have gs : 0 < w.heap.size := Nat.lt_of_lt_of_le h.size.2.2.2.1 hB
  have gl : 1 < w.heap.size := Nat.lt_of_lt_of_le h.size.2.2.1 hB
  have gs0 : ¬ 0 = w.heap.size := by omega
  have gs1 : ¬ 0 = w.heap.size + 1 := by omega
  have gl0 : ¬ 1 = w.heap.size := by omega
  have gl1 : ¬ 1 = w.heap.size + 1 := by omega
  have gs2 : ¬ w.heap.size = 0 := by omega
  have gs3 : ¬ w.heap.size + 1 = 0 := by omega
  have gl2 : ¬ w.heap.size = 1 := by omega
  have gl3 : ¬ w.heap.size + 1 = 1 := by omega
  have cs : ∀ (o1 o2 : Obj) (n : Nat), (((w.alloc o1).alloc o2).drewN n).cell? ⟨0, 0, none⟩ = some (errV (e 3)) := fun o1 o2 n => ((below_drewN' (((Below.refl w.heap.size w).alloc (Nat.le_refl _) o1).alloc (by simp) o2) (n := n)).cell (p := ⟨0, 0, none⟩) gs).trans h.c3
  have cl : ∀ (o1 o2 : Obj) (n : Nat), (((w.alloc o1).alloc o2).drewN n).cell? ⟨1, 0, none⟩ = some (errV (e 2)) := fun o1 o2 n => ((below_drewN' (((Below.refl w.heap.size w).alloc (Nat.le_refl _) o1).alloc (by simp) o2) (n := n)).cell (p := ⟨1, 0, none⟩) gl).trans h.c2
  clear h hB
  have t1 : r.tmod 3 = r % 3 := Int.tmod_eq_emod_of_nonneg (by omega)
  have t2 : r.tdiv 3 = r / 3 := Int.tdiv_eq_ediv_of_nonneg (by omega)
  have t5 : IntKind.i64.wrap (p * 3) = p * 3 := IntWalk.i64_in _ (by omega)
  have t6 : IntKind.i64.wrap (r / 3) = r / 3 := IntWalk.i64_in _ (by omega)
  have t7 : wrap64 (p * 3) = p * 3 := by unfold wrap64; omega
  have t8 : wrap64 (r / 3) = r / 3 := by unfold wrap64; omega
  go_enter Tryd.func60, Tryd.ntmps60
  go_wp2_with fail
  go_quiet ((first | (go_at_call 80; exact Calls.quiet_of_same (way_q 2 0 (by decide) _)) | (go_at_call 81; exact Calls.quiet_of_same (parts_q 2 3 (by decide) _)) | fail))
  go_wp2_with fail
  refine region_still 10 (by kernel_rfl) ?_
  simp only [List.take_succ_cons, List.take_zero, List.drop_succ_cons, List.drop_zero]
  repeat still_step
  still_call (way_q 2 0 (by decide) _)
  repeat still_step
  still_call (parts_q 2 3 (by decide) _)
  repeat still_step
  refine wpStill_nil ?_
  go_wp2_with fail
  refine region_still 6 (by kernel_rfl) ?_
  simp only [List.take_succ_cons, List.take_zero, List.drop_succ_cons, List.drop_zero]
  repeat still_step
  still_call (parts_q 2 3 (by decide) _)
  repeat still_step
  refine wpStill_nil ?_
  go_wp2_with fail
  all_goals (refine (way_any 2 0 (by decide) _).mono ?_; rintro o u ⟨rfl, rfl⟩)
  all_goals go_wp2_with fail
  all_goals (try simp only [Act.put, List.getElem_toArray, List.getElem_cons_zero, List.getElem_cons_succ, List.setIfInBounds_toArray, List.set_cons_zero, List.set_cons_succ])
  all_goals go_wp2_with fail
  all_goals
    refine bodyPost_ret (v := .tuple #[laidV (p * 3) (q) (r / 3), .nilIface]) ?h1 rfl ⟨rfl, ?h2⟩
    case h1 =>
      refine results_row_tmp (b := w.heap.size + 1) (cs := [.int .i64 (p * 3), .int .i64 (q), .int .i64 (r / 3)]) Tryd.results60 rfl ?_ Tryd.underlying78 rfl (by kernel_rfl)
      repeat (with_reducible first | apply range_drew | apply range_drewN)
      refine range3 ?_
      repeat (with_reducible first | apply there_set' | apply there_drew | apply there_drewN | exact there_new _ _ [.int .i64 0, .int .i64 0, .int .i64 0] _ rfl)
    case h2 =>
      repeat (with_reducible first | exact Below.refl _ _ | assumption | apply Below.drew | apply below_drewN' | (refine Below.alloc ?_ (by first | (simp; done) | (simp; omega) | omega) _) | (refine Below.setCell ?_ (by first | (simp; done) | (simp; omega) | omega) _))
end Go.Proofs.YtcbbabepjfiigaaDoor.fold

/-
  The fold 3, made by the program.
-/
namespace Go.Proofs.YtcbbabepjfiigaaDoor.fold
open Go Go.RowKit sl errs
set_option maxRecDepth 100000 in
set_option maxHeartbeats 8000000 in
theorem made3_state (p q r : Int) (hp : 1 ≤ p ∧ p ≤ 1296) (hq : 1 ≤ q ∧ q ≤ 1296) (hr : 1 ≤ r ∧ r ≤ 144) {w : World} {B : Nat} {e : Nat → Addr} (h : Errs w B e) (hB : B ≤ w.heap.size) (hd : ¬ q % 3 = 0) :
    Calls Tryd.prog 51 #[.int .u8 3, laidV p q r] w fun o w' => o = .returned (.tuple #[laidV 0 0 0, errV (e 3)]) ∧ Below w.heap.size w w' := by
  have gs : 0 < w.heap.size := Nat.lt_of_lt_of_le h.size.2.2.2.1 hB
  have gl : 1 < w.heap.size := Nat.lt_of_lt_of_le h.size.2.2.1 hB
  have gs0 : ¬ 0 = w.heap.size := by omega
  have gs1 : ¬ 0 = w.heap.size + 1 := by omega
  have gl0 : ¬ 1 = w.heap.size := by omega
  have gl1 : ¬ 1 = w.heap.size + 1 := by omega
  have gs2 : ¬ w.heap.size = 0 := by omega
  have gs3 : ¬ w.heap.size + 1 = 0 := by omega
  have gl2 : ¬ w.heap.size = 1 := by omega
  have gl3 : ¬ w.heap.size + 1 = 1 := by omega
  have cs : ∀ (o1 o2 : Obj) (n : Nat), (((w.alloc o1).alloc o2).drewN n).cell? ⟨0, 0, none⟩ = some (errV (e 3)) := fun o1 o2 n => ((below_drewN' (((Below.refl w.heap.size w).alloc (Nat.le_refl _) o1).alloc (by simp) o2) (n := n)).cell (p := ⟨0, 0, none⟩) gs).trans h.c3
  have cl : ∀ (o1 o2 : Obj) (n : Nat), (((w.alloc o1).alloc o2).drewN n).cell? ⟨1, 0, none⟩ = some (errV (e 2)) := fun o1 o2 n => ((below_drewN' (((Below.refl w.heap.size w).alloc (Nat.le_refl _) o1).alloc (by simp) o2) (n := n)).cell (p := ⟨1, 0, none⟩) gl).trans h.c2
  clear h hB
  have t1 : q.tmod 3 = q % 3 := Int.tmod_eq_emod_of_nonneg (by omega)
  have t2 : q.tdiv 3 = q / 3 := Int.tdiv_eq_ediv_of_nonneg (by omega)
  have t5 : IntKind.i64.wrap (q / 3) = q / 3 := IntWalk.i64_in _ (by omega)
  have t6 : IntKind.i64.wrap (r * 3) = r * 3 := IntWalk.i64_in _ (by omega)
  have t7 : wrap64 (q / 3) = q / 3 := by unfold wrap64; omega
  have t8 : wrap64 (r * 3) = r * 3 := by unfold wrap64; omega
  have hd2 : (q % 3 != 0) = true := by rw [bne_iff_ne]; exact hd
  clear hd t2 t5 t6 t7 t8
  go_enter Tryd.func51, Tryd.ntmps51
  go_wp2_with fail
  go_quiet ((first | (go_at_call 80; exact Calls.quiet_of_same (way_q 3 1 (by decide) _)) | (go_at_call 81; exact Calls.quiet_of_same (parts_q 3 3 (by decide) _)) | fail))
  go_wp2_with fail
  go_region
  all_goals (try simp only [Act.put, List.getElem_toArray, List.getElem_cons_zero, List.getElem_cons_succ, List.setIfInBounds_toArray, List.set_cons_zero, List.set_cons_succ])
  all_goals go_wp2_with fail
  all_goals
    refine bodyPost_ret (v := .tuple #[laidV 0 0 0, errV (e 3)]) ?h1 rfl ⟨rfl, ?h2⟩
    case h1 =>
      refine results_row_tmp (b := w.heap.size + 1) (cs := [.int .i64 0, .int .i64 0, .int .i64 0]) Tryd.results51 rfl ?_ Tryd.underlying78 rfl (by kernel_rfl)
      repeat (with_reducible first | apply range_drew | apply range_drewN)
      refine range3 ?_
      repeat (with_reducible first | apply there_set' | apply there_drew | apply there_drewN | exact there_new _ _ [.int .i64 0, .int .i64 0, .int .i64 0] _ rfl)
    case h2 =>
      repeat (with_reducible first | exact Below.refl _ _ | assumption | apply Below.drew | apply below_drewN' | (refine Below.alloc ?_ (by first | (simp; done) | (simp; omega) | omega) _) | (refine Below.setCell ?_ (by first | (simp; done) | (simp; omega) | omega) _))
set_option maxRecDepth 100000 in
set_option maxHeartbeats 8000000 in
theorem made3_limit (p q r : Int) (hp : 1 ≤ p ∧ p ≤ 1296) (hq : 1 ≤ q ∧ q ≤ 1296) (hr : 1 ≤ r ∧ r ≤ 144) {w : World} {B : Nat} {e : Nat → Addr} (h : Errs w B e) (hB : B ≤ w.heap.size) (hd : q % 3 = 0) (hl : 144 < r * 3) :
    Calls Tryd.prog 51 #[.int .u8 3, laidV p q r] w fun o w' => o = .returned (.tuple #[laidV 0 0 0, errV (e 2)]) ∧ Below w.heap.size w w' := by
  have gs : 0 < w.heap.size := Nat.lt_of_lt_of_le h.size.2.2.2.1 hB
  have gl : 1 < w.heap.size := Nat.lt_of_lt_of_le h.size.2.2.1 hB
  have gs0 : ¬ 0 = w.heap.size := by omega
  have gs1 : ¬ 0 = w.heap.size + 1 := by omega
  have gl0 : ¬ 1 = w.heap.size := by omega
  have gl1 : ¬ 1 = w.heap.size + 1 := by omega
  have gs2 : ¬ w.heap.size = 0 := by omega
  have gs3 : ¬ w.heap.size + 1 = 0 := by omega
  have gl2 : ¬ w.heap.size = 1 := by omega
  have gl3 : ¬ w.heap.size + 1 = 1 := by omega
  have cs : ∀ (o1 o2 : Obj) (n : Nat), (((w.alloc o1).alloc o2).drewN n).cell? ⟨0, 0, none⟩ = some (errV (e 3)) := fun o1 o2 n => ((below_drewN' (((Below.refl w.heap.size w).alloc (Nat.le_refl _) o1).alloc (by simp) o2) (n := n)).cell (p := ⟨0, 0, none⟩) gs).trans h.c3
  have cl : ∀ (o1 o2 : Obj) (n : Nat), (((w.alloc o1).alloc o2).drewN n).cell? ⟨1, 0, none⟩ = some (errV (e 2)) := fun o1 o2 n => ((below_drewN' (((Below.refl w.heap.size w).alloc (Nat.le_refl _) o1).alloc (by simp) o2) (n := n)).cell (p := ⟨1, 0, none⟩) gl).trans h.c2
  clear h hB
  have t1 : q.tmod 3 = q % 3 := Int.tmod_eq_emod_of_nonneg (by omega)
  have t2 : q.tdiv 3 = q / 3 := Int.tdiv_eq_ediv_of_nonneg (by omega)
  have t5 : IntKind.i64.wrap (q / 3) = q / 3 := IntWalk.i64_in _ (by omega)
  have t6 : IntKind.i64.wrap (r * 3) = r * 3 := IntWalk.i64_in _ (by omega)
  have t7 : wrap64 (q / 3) = q / 3 := by unfold wrap64; omega
  have t8 : wrap64 (r * 3) = r * 3 := by unfold wrap64; omega
  go_enter Tryd.func51, Tryd.ntmps51
  go_wp2_with fail
  go_quiet ((first | (go_at_call 80; exact Calls.quiet_of_same (way_q 3 1 (by decide) _)) | (go_at_call 81; exact Calls.quiet_of_same (parts_q 3 3 (by decide) _)) | fail))
  go_wp2_with fail
  refine region_still 10 (by kernel_rfl) ?_
  simp only [List.take_succ_cons, List.take_zero, List.drop_succ_cons, List.drop_zero]
  repeat still_step
  still_call (way_q 3 1 (by decide) _)
  repeat still_step
  still_call (parts_q 3 3 (by decide) _)
  repeat still_step
  refine wpStill_nil ?_
  go_wp2_with fail
  refine region_still 6 (by kernel_rfl) ?_
  simp only [List.take_succ_cons, List.take_zero, List.drop_succ_cons, List.drop_zero]
  repeat still_step
  still_call (parts_q 3 3 (by decide) _)
  repeat still_step
  refine wpStill_nil ?_
  go_wp2_with fail
  all_goals go_region
  all_goals (try simp only [Act.put, List.getElem_toArray, List.getElem_cons_zero, List.getElem_cons_succ, List.setIfInBounds_toArray, List.set_cons_zero, List.set_cons_succ])
  all_goals go_wp2_with fail
  all_goals
    refine bodyPost_ret (v := .tuple #[laidV 0 0 0, errV (e 2)]) ?h1 rfl ⟨rfl, ?h2⟩
    case h1 =>
      refine results_row_tmp (b := w.heap.size + 1) (cs := [.int .i64 0, .int .i64 0, .int .i64 0]) Tryd.results51 rfl ?_ Tryd.underlying78 rfl (by kernel_rfl)
      repeat (with_reducible first | apply range_drew | apply range_drewN)
      refine range3 ?_
      repeat (with_reducible first | apply there_set' | apply there_drew | apply there_drewN | exact there_new _ _ [.int .i64 0, .int .i64 0, .int .i64 0] _ rfl)
    case h2 =>
      repeat (with_reducible first | exact Below.refl _ _ | assumption | apply Below.drew | apply below_drewN' | (refine Below.alloc ?_ (by first | (simp; done) | (simp; omega) | omega) _) | (refine Below.setCell ?_ (by first | (simp; done) | (simp; omega) | omega) _))
set_option maxRecDepth 100000 in
set_option maxHeartbeats 8000000 in
theorem made3_ok (p q r : Int) (hp : 1 ≤ p ∧ p ≤ 1296) (hq : 1 ≤ q ∧ q ≤ 1296) (hr : 1 ≤ r ∧ r ≤ 144) {w : World} {B : Nat} {e : Nat → Addr} (h : Errs w B e) (hB : B ≤ w.heap.size) (hd : q % 3 = 0) (hl : r * 3 ≤ 144) :
    Calls Tryd.prog 51 #[.int .u8 3, laidV p q r] w fun o w' => o = .returned (.tuple #[laidV (p) (q / 3) (r * 3), .nilIface]) ∧ Below w.heap.size w w' := by
  have gs : 0 < w.heap.size := Nat.lt_of_lt_of_le h.size.2.2.2.1 hB
  have gl : 1 < w.heap.size := Nat.lt_of_lt_of_le h.size.2.2.1 hB
  have gs0 : ¬ 0 = w.heap.size := by omega
  have gs1 : ¬ 0 = w.heap.size + 1 := by omega
  have gl0 : ¬ 1 = w.heap.size := by omega
  have gl1 : ¬ 1 = w.heap.size + 1 := by omega
  have gs2 : ¬ w.heap.size = 0 := by omega
  have gs3 : ¬ w.heap.size + 1 = 0 := by omega
  have gl2 : ¬ w.heap.size = 1 := by omega
  have gl3 : ¬ w.heap.size + 1 = 1 := by omega
  have cs : ∀ (o1 o2 : Obj) (n : Nat), (((w.alloc o1).alloc o2).drewN n).cell? ⟨0, 0, none⟩ = some (errV (e 3)) := fun o1 o2 n => ((below_drewN' (((Below.refl w.heap.size w).alloc (Nat.le_refl _) o1).alloc (by simp) o2) (n := n)).cell (p := ⟨0, 0, none⟩) gs).trans h.c3
  have cl : ∀ (o1 o2 : Obj) (n : Nat), (((w.alloc o1).alloc o2).drewN n).cell? ⟨1, 0, none⟩ = some (errV (e 2)) := fun o1 o2 n => ((below_drewN' (((Below.refl w.heap.size w).alloc (Nat.le_refl _) o1).alloc (by simp) o2) (n := n)).cell (p := ⟨1, 0, none⟩) gl).trans h.c2
  clear h hB
  have t1 : q.tmod 3 = q % 3 := Int.tmod_eq_emod_of_nonneg (by omega)
  have t2 : q.tdiv 3 = q / 3 := Int.tdiv_eq_ediv_of_nonneg (by omega)
  have t5 : IntKind.i64.wrap (q / 3) = q / 3 := IntWalk.i64_in _ (by omega)
  have t6 : IntKind.i64.wrap (r * 3) = r * 3 := IntWalk.i64_in _ (by omega)
  have t7 : wrap64 (q / 3) = q / 3 := by unfold wrap64; omega
  have t8 : wrap64 (r * 3) = r * 3 := by unfold wrap64; omega
  go_enter Tryd.func51, Tryd.ntmps51
  go_wp2_with fail
  go_quiet ((first | (go_at_call 80; exact Calls.quiet_of_same (way_q 3 1 (by decide) _)) | (go_at_call 81; exact Calls.quiet_of_same (parts_q 3 3 (by decide) _)) | fail))
  go_wp2_with fail
  refine region_still 10 (by kernel_rfl) ?_
  simp only [List.take_succ_cons, List.take_zero, List.drop_succ_cons, List.drop_zero]
  repeat still_step
  still_call (way_q 3 1 (by decide) _)
  repeat still_step
  still_call (parts_q 3 3 (by decide) _)
  repeat still_step
  refine wpStill_nil ?_
  go_wp2_with fail
  refine region_still 6 (by kernel_rfl) ?_
  simp only [List.take_succ_cons, List.take_zero, List.drop_succ_cons, List.drop_zero]
  repeat still_step
  still_call (parts_q 3 3 (by decide) _)
  repeat still_step
  refine wpStill_nil ?_
  go_wp2_with fail
  all_goals (try simp only [Act.put, List.getElem_toArray, List.getElem_cons_zero, List.getElem_cons_succ, List.setIfInBounds_toArray, List.set_cons_zero, List.set_cons_succ])
  all_goals go_wp2_with fail
  all_goals
    refine bodyPost_ret (v := .tuple #[laidV (p) (q / 3) (r * 3), .nilIface]) ?h1 rfl ⟨rfl, ?h2⟩
    case h1 =>
      refine results_row_tmp (b := w.heap.size + 1) (cs := [.int .i64 (p), .int .i64 (q / 3), .int .i64 (r * 3)]) Tryd.results51 rfl ?_ Tryd.underlying78 rfl (by kernel_rfl)
      repeat (with_reducible first | apply range_drew | apply range_drewN)
      refine range3 ?_
      repeat (with_reducible first | apply there_set' | apply there_drew | apply there_drewN | exact there_new _ _ [.int .i64 0, .int .i64 0, .int .i64 0] _ rfl)
    case h2 =>
      repeat (with_reducible first | exact Below.refl _ _ | assumption | apply Below.drew | apply below_drewN' | (refine Below.alloc ?_ (by first | (simp; done) | (simp; omega) | omega) _) | (refine Below.setCell ?_ (by first | (simp; done) | (simp; omega) | omega) _))
end Go.Proofs.YtcbbabepjfiigaaDoor.fold

/-
  The fold 3, undone by the program.
-/
namespace Go.Proofs.YtcbbabepjfiigaaDoor.fold
open Go Go.RowKit sl errs
set_option maxRecDepth 100000 in
set_option maxHeartbeats 8000000 in
theorem undo3_state (p q r : Int) (hp : 1 ≤ p ∧ p ≤ 1296) (hq : 1 ≤ q ∧ q ≤ 1296) (hr : 1 ≤ r ∧ r ≤ 144) {w : World} {B : Nat} {e : Nat → Addr} (h : Errs w B e) (hB : B ≤ w.heap.size) (hd : ¬ r % 3 = 0) :
    Calls Tryd.prog 60 #[.int .u8 3, laidV p q r] w fun o w' => o = .returned (.tuple #[laidV 0 0 0, errV (e 3)]) ∧ Below w.heap.size w w' := by
  have gs : 0 < w.heap.size := Nat.lt_of_lt_of_le h.size.2.2.2.1 hB
  have gl : 1 < w.heap.size := Nat.lt_of_lt_of_le h.size.2.2.1 hB
  have gs0 : ¬ 0 = w.heap.size := by omega
  have gs1 : ¬ 0 = w.heap.size + 1 := by omega
  have gl0 : ¬ 1 = w.heap.size := by omega
  have gl1 : ¬ 1 = w.heap.size + 1 := by omega
  have gs2 : ¬ w.heap.size = 0 := by omega
  have gs3 : ¬ w.heap.size + 1 = 0 := by omega
  have gl2 : ¬ w.heap.size = 1 := by omega
  have gl3 : ¬ w.heap.size + 1 = 1 := by omega
  have cs : ∀ (o1 o2 : Obj) (n : Nat), (((w.alloc o1).alloc o2).drewN n).cell? ⟨0, 0, none⟩ = some (errV (e 3)) := fun o1 o2 n => ((below_drewN' (((Below.refl w.heap.size w).alloc (Nat.le_refl _) o1).alloc (by simp) o2) (n := n)).cell (p := ⟨0, 0, none⟩) gs).trans h.c3
  have cl : ∀ (o1 o2 : Obj) (n : Nat), (((w.alloc o1).alloc o2).drewN n).cell? ⟨1, 0, none⟩ = some (errV (e 2)) := fun o1 o2 n => ((below_drewN' (((Below.refl w.heap.size w).alloc (Nat.le_refl _) o1).alloc (by simp) o2) (n := n)).cell (p := ⟨1, 0, none⟩) gl).trans h.c2
  clear h hB
  have t1 : r.tmod 3 = r % 3 := Int.tmod_eq_emod_of_nonneg (by omega)
  have t2 : r.tdiv 3 = r / 3 := Int.tdiv_eq_ediv_of_nonneg (by omega)
  have t5 : IntKind.i64.wrap (q * 3) = q * 3 := IntWalk.i64_in _ (by omega)
  have t6 : IntKind.i64.wrap (r / 3) = r / 3 := IntWalk.i64_in _ (by omega)
  have t7 : wrap64 (q * 3) = q * 3 := by unfold wrap64; omega
  have t8 : wrap64 (r / 3) = r / 3 := by unfold wrap64; omega
  have hd2 : (r % 3 != 0) = true := by rw [bne_iff_ne]; exact hd
  clear hd t2 t5 t6 t7 t8
  go_enter Tryd.func60, Tryd.ntmps60
  go_wp2_with fail
  go_quiet ((first | (go_at_call 80; exact Calls.quiet_of_same (way_q 3 1 (by decide) _)) | (go_at_call 81; exact Calls.quiet_of_same (parts_q 3 3 (by decide) _)) | fail))
  go_wp2_with fail
  go_region
  all_goals (try simp only [Act.put, List.getElem_toArray, List.getElem_cons_zero, List.getElem_cons_succ, List.setIfInBounds_toArray, List.set_cons_zero, List.set_cons_succ])
  all_goals go_wp2_with fail
  all_goals
    refine bodyPost_ret (v := .tuple #[laidV 0 0 0, errV (e 3)]) ?h1 rfl ⟨rfl, ?h2⟩
    case h1 =>
      refine results_row_tmp (b := w.heap.size + 1) (cs := [.int .i64 0, .int .i64 0, .int .i64 0]) Tryd.results60 rfl ?_ Tryd.underlying78 rfl (by kernel_rfl)
      repeat (with_reducible first | apply range_drew | apply range_drewN)
      refine range3 ?_
      repeat (with_reducible first | apply there_set' | apply there_drew | apply there_drewN | exact there_new _ _ [.int .i64 0, .int .i64 0, .int .i64 0] _ rfl)
    case h2 =>
      repeat (with_reducible first | exact Below.refl _ _ | assumption | apply Below.drew | apply below_drewN' | (refine Below.alloc ?_ (by first | (simp; done) | (simp; omega) | omega) _) | (refine Below.setCell ?_ (by first | (simp; done) | (simp; omega) | omega) _))
set_option maxRecDepth 100000 in
set_option maxHeartbeats 8000000 in
theorem undo3_limit (p q r : Int) (hp : 1 ≤ p ∧ p ≤ 1296) (hq : 1 ≤ q ∧ q ≤ 1296) (hr : 1 ≤ r ∧ r ≤ 144) {w : World} {B : Nat} {e : Nat → Addr} (h : Errs w B e) (hB : B ≤ w.heap.size) (hd : r % 3 = 0) (hl : 1296 < q * 3) :
    Calls Tryd.prog 60 #[.int .u8 3, laidV p q r] w fun o w' => o = .returned (.tuple #[laidV 0 0 0, errV (e 2)]) ∧ Below w.heap.size w w' := by
  have gs : 0 < w.heap.size := Nat.lt_of_lt_of_le h.size.2.2.2.1 hB
  have gl : 1 < w.heap.size := Nat.lt_of_lt_of_le h.size.2.2.1 hB
  have gs0 : ¬ 0 = w.heap.size := by omega
  have gs1 : ¬ 0 = w.heap.size + 1 := by omega
  have gl0 : ¬ 1 = w.heap.size := by omega
  have gl1 : ¬ 1 = w.heap.size + 1 := by omega
  have gs2 : ¬ w.heap.size = 0 := by omega
  have gs3 : ¬ w.heap.size + 1 = 0 := by omega
  have gl2 : ¬ w.heap.size = 1 := by omega
  have gl3 : ¬ w.heap.size + 1 = 1 := by omega
  have cs : ∀ (o1 o2 : Obj) (n : Nat), (((w.alloc o1).alloc o2).drewN n).cell? ⟨0, 0, none⟩ = some (errV (e 3)) := fun o1 o2 n => ((below_drewN' (((Below.refl w.heap.size w).alloc (Nat.le_refl _) o1).alloc (by simp) o2) (n := n)).cell (p := ⟨0, 0, none⟩) gs).trans h.c3
  have cl : ∀ (o1 o2 : Obj) (n : Nat), (((w.alloc o1).alloc o2).drewN n).cell? ⟨1, 0, none⟩ = some (errV (e 2)) := fun o1 o2 n => ((below_drewN' (((Below.refl w.heap.size w).alloc (Nat.le_refl _) o1).alloc (by simp) o2) (n := n)).cell (p := ⟨1, 0, none⟩) gl).trans h.c2
  clear h hB
  have t1 : r.tmod 3 = r % 3 := Int.tmod_eq_emod_of_nonneg (by omega)
  have t2 : r.tdiv 3 = r / 3 := Int.tdiv_eq_ediv_of_nonneg (by omega)
  have t5 : IntKind.i64.wrap (q * 3) = q * 3 := IntWalk.i64_in _ (by omega)
  have t6 : IntKind.i64.wrap (r / 3) = r / 3 := IntWalk.i64_in _ (by omega)
  have t7 : wrap64 (q * 3) = q * 3 := by unfold wrap64; omega
  have t8 : wrap64 (r / 3) = r / 3 := by unfold wrap64; omega
  go_enter Tryd.func60, Tryd.ntmps60
  go_wp2_with fail
  go_quiet ((first | (go_at_call 80; exact Calls.quiet_of_same (way_q 3 1 (by decide) _)) | (go_at_call 81; exact Calls.quiet_of_same (parts_q 3 3 (by decide) _)) | fail))
  go_wp2_with fail
  refine region_still 10 (by kernel_rfl) ?_
  simp only [List.take_succ_cons, List.take_zero, List.drop_succ_cons, List.drop_zero]
  repeat still_step
  still_call (way_q 3 1 (by decide) _)
  repeat still_step
  still_call (parts_q 3 3 (by decide) _)
  repeat still_step
  refine wpStill_nil ?_
  go_wp2_with fail
  refine region_still 6 (by kernel_rfl) ?_
  simp only [List.take_succ_cons, List.take_zero, List.drop_succ_cons, List.drop_zero]
  repeat still_step
  still_call (parts_q 3 3 (by decide) _)
  repeat still_step
  refine wpStill_nil ?_
  go_wp2_with fail
  all_goals (refine (way_any 3 1 (by decide) _).mono ?_; rintro o u ⟨rfl, rfl⟩)
  all_goals go_wp2_with fail
  all_goals go_region
  all_goals (try simp only [Act.put, List.getElem_toArray, List.getElem_cons_zero, List.getElem_cons_succ, List.setIfInBounds_toArray, List.set_cons_zero, List.set_cons_succ])
  all_goals go_wp2_with fail
  all_goals
    refine bodyPost_ret (v := .tuple #[laidV 0 0 0, errV (e 2)]) ?h1 rfl ⟨rfl, ?h2⟩
    case h1 =>
      refine results_row_tmp (b := w.heap.size + 1) (cs := [.int .i64 0, .int .i64 0, .int .i64 0]) Tryd.results60 rfl ?_ Tryd.underlying78 rfl (by kernel_rfl)
      repeat (with_reducible first | apply range_drew | apply range_drewN)
      refine range3 ?_
      repeat (with_reducible first | apply there_set' | apply there_drew | apply there_drewN | exact there_new _ _ [.int .i64 0, .int .i64 0, .int .i64 0] _ rfl)
    case h2 =>
      repeat (with_reducible first | exact Below.refl _ _ | assumption | apply Below.drew | apply below_drewN' | (refine Below.alloc ?_ (by first | (simp; done) | (simp; omega) | omega) _) | (refine Below.setCell ?_ (by first | (simp; done) | (simp; omega) | omega) _))
set_option maxRecDepth 100000 in
set_option maxHeartbeats 8000000 in
theorem undo3_ok (p q r : Int) (hp : 1 ≤ p ∧ p ≤ 1296) (hq : 1 ≤ q ∧ q ≤ 1296) (hr : 1 ≤ r ∧ r ≤ 144) {w : World} {B : Nat} {e : Nat → Addr} (h : Errs w B e) (hB : B ≤ w.heap.size) (hd : r % 3 = 0) (hl : q * 3 ≤ 1296) :
    Calls Tryd.prog 60 #[.int .u8 3, laidV p q r] w fun o w' => o = .returned (.tuple #[laidV (p) (q * 3) (r / 3), .nilIface]) ∧ Below w.heap.size w w' := by
  have gs : 0 < w.heap.size := Nat.lt_of_lt_of_le h.size.2.2.2.1 hB
  have gl : 1 < w.heap.size := Nat.lt_of_lt_of_le h.size.2.2.1 hB
  have gs0 : ¬ 0 = w.heap.size := by omega
  have gs1 : ¬ 0 = w.heap.size + 1 := by omega
  have gl0 : ¬ 1 = w.heap.size := by omega
  have gl1 : ¬ 1 = w.heap.size + 1 := by omega
  have gs2 : ¬ w.heap.size = 0 := by omega
  have gs3 : ¬ w.heap.size + 1 = 0 := by omega
  have gl2 : ¬ w.heap.size = 1 := by omega
  have gl3 : ¬ w.heap.size + 1 = 1 := by omega
  have cs : ∀ (o1 o2 : Obj) (n : Nat), (((w.alloc o1).alloc o2).drewN n).cell? ⟨0, 0, none⟩ = some (errV (e 3)) := fun o1 o2 n => ((below_drewN' (((Below.refl w.heap.size w).alloc (Nat.le_refl _) o1).alloc (by simp) o2) (n := n)).cell (p := ⟨0, 0, none⟩) gs).trans h.c3
  have cl : ∀ (o1 o2 : Obj) (n : Nat), (((w.alloc o1).alloc o2).drewN n).cell? ⟨1, 0, none⟩ = some (errV (e 2)) := fun o1 o2 n => ((below_drewN' (((Below.refl w.heap.size w).alloc (Nat.le_refl _) o1).alloc (by simp) o2) (n := n)).cell (p := ⟨1, 0, none⟩) gl).trans h.c2
  clear h hB
  have t1 : r.tmod 3 = r % 3 := Int.tmod_eq_emod_of_nonneg (by omega)
  have t2 : r.tdiv 3 = r / 3 := Int.tdiv_eq_ediv_of_nonneg (by omega)
  have t5 : IntKind.i64.wrap (q * 3) = q * 3 := IntWalk.i64_in _ (by omega)
  have t6 : IntKind.i64.wrap (r / 3) = r / 3 := IntWalk.i64_in _ (by omega)
  have t7 : wrap64 (q * 3) = q * 3 := by unfold wrap64; omega
  have t8 : wrap64 (r / 3) = r / 3 := by unfold wrap64; omega
  go_enter Tryd.func60, Tryd.ntmps60
  go_wp2_with fail
  go_quiet ((first | (go_at_call 80; exact Calls.quiet_of_same (way_q 3 1 (by decide) _)) | (go_at_call 81; exact Calls.quiet_of_same (parts_q 3 3 (by decide) _)) | fail))
  go_wp2_with fail
  refine region_still 10 (by kernel_rfl) ?_
  simp only [List.take_succ_cons, List.take_zero, List.drop_succ_cons, List.drop_zero]
  repeat still_step
  still_call (way_q 3 1 (by decide) _)
  repeat still_step
  still_call (parts_q 3 3 (by decide) _)
  repeat still_step
  refine wpStill_nil ?_
  go_wp2_with fail
  refine region_still 6 (by kernel_rfl) ?_
  simp only [List.take_succ_cons, List.take_zero, List.drop_succ_cons, List.drop_zero]
  repeat still_step
  still_call (parts_q 3 3 (by decide) _)
  repeat still_step
  refine wpStill_nil ?_
  go_wp2_with fail
  all_goals (refine (way_any 3 1 (by decide) _).mono ?_; rintro o u ⟨rfl, rfl⟩)
  all_goals go_wp2_with fail
  all_goals (try simp only [Act.put, List.getElem_toArray, List.getElem_cons_zero, List.getElem_cons_succ, List.setIfInBounds_toArray, List.set_cons_zero, List.set_cons_succ])
  all_goals go_wp2_with fail
  all_goals
    refine bodyPost_ret (v := .tuple #[laidV (p) (q * 3) (r / 3), .nilIface]) ?h1 rfl ⟨rfl, ?h2⟩
    case h1 =>
      refine results_row_tmp (b := w.heap.size + 1) (cs := [.int .i64 (p), .int .i64 (q * 3), .int .i64 (r / 3)]) Tryd.results60 rfl ?_ Tryd.underlying78 rfl (by kernel_rfl)
      repeat (with_reducible first | apply range_drew | apply range_drewN)
      refine range3 ?_
      repeat (with_reducible first | apply there_set' | apply there_drew | apply there_drewN | exact there_new _ _ [.int .i64 0, .int .i64 0, .int .i64 0] _ rfl)
    case h2 =>
      repeat (with_reducible first | exact Below.refl _ _ | assumption | apply Below.drew | apply below_drewN' | (refine Below.alloc ?_ (by first | (simp; done) | (simp; omega) | omega) _) | (refine Below.setCell ?_ (by first | (simp; done) | (simp; omega) | omega) _))
end Go.Proofs.YtcbbabepjfiigaaDoor.fold

/-
  Folds in plain words: what is made, and what is undone; the program's contracts, whatever the fold.
-/
namespace Go.Proofs.YtcbbabepjfiigaaDoor.fold
open Go Go.RowKit sl errs

abbrev noS : She := ⟨0, 0, 0⟩
/-- a sheet behind a fold, and the code -/
def foldR (n : Nat) (x : She) : She × Nat :=
  match n with
  | 0 => if x.wide % 2 = 0 then (if x.lay * 2 ≤ 144 then (⟨x.wide / 2, x.high, x.lay * 2⟩, 0) else (noS, 3)) else (noS, 4)
  | 1 => if x.high % 2 = 0 then (if x.lay * 2 ≤ 144 then (⟨x.wide, x.high / 2, x.lay * 2⟩, 0) else (noS, 3)) else (noS, 4)
  | 2 => if x.wide % 3 = 0 then (if x.lay * 3 ≤ 144 then (⟨x.wide / 3, x.high, x.lay * 3⟩, 0) else (noS, 3)) else (noS, 4)
  | _ => if x.high % 3 = 0 then (if x.lay * 3 ≤ 144 then (⟨x.wide, x.high / 3, x.lay * 3⟩, 0) else (noS, 3)) else (noS, 4)
/-- the sheet from which a fold makes this one -/
def undoR (n : Nat) (x : She) : She × Nat :=
  match n with
  | 0 => if x.lay % 2 = 0 then (if x.wide * 2 ≤ 1296 then (⟨x.wide * 2, x.high, x.lay / 2⟩, 0) else (noS, 3)) else (noS, 4)
  | 1 => if x.lay % 2 = 0 then (if x.high * 2 ≤ 1296 then (⟨x.wide, x.high * 2, x.lay / 2⟩, 0) else (noS, 3)) else (noS, 4)
  | 2 => if x.lay % 3 = 0 then (if x.wide * 3 ≤ 1296 then (⟨x.wide * 3, x.high, x.lay / 3⟩, 0) else (noS, 3)) else (noS, 4)
  | _ => if x.lay % 3 = 0 then (if x.high * 3 ≤ 1296 then (⟨x.wide, x.high * 3, x.lay / 3⟩, 0) else (noS, 3)) else (noS, 4)
theorem noS_fits : She.Fits noS := ⟨by decide, by decide, by decide, by decide, by decide, by decide⟩
/-- what comes of it is a good sheet, or none with a code -/
theorem foldR_cases (n : Nat) (x : She) (h : Good x) : (Good (foldR n x).1 ∧ (foldR n x).2 = 0) ∨ ((foldR n x).1 = noS ∧ ((foldR n x).2 = 3 ∨ (foldR n x).2 = 4)) := by
  obtain ⟨a, b, c, d, e, f⟩ := h
  unfold foldR
  split <;> split <;> (try split) <;> simp
  all_goals (refine ⟨?_, ?_, ?_, ?_, ?_, ?_⟩ <;> simp <;> omega)
theorem undoR_cases (n : Nat) (x : She) (h : Good x) : (Good (undoR n x).1 ∧ (undoR n x).2 = 0) ∨ ((undoR n x).1 = noS ∧ ((undoR n x).2 = 3 ∨ (undoR n x).2 = 4)) := by
  obtain ⟨a, b, c, d, e, f⟩ := h
  unfold undoR
  split <;> split <;> (try split) <;> simp
  all_goals (refine ⟨?_, ?_, ?_, ?_, ?_, ?_⟩ <;> simp <;> omega)
theorem Good.fits {x : She} (h : Good x) : x.Fits := by
  obtain ⟨a, b, c, d, e, f⟩ := h
  exact ⟨by omega, by omega, by omega, by omega, by omega, by omega⟩
theorem cases_fits {r : She × Nat} (h : (Good r.1 ∧ r.2 = 0) ∨ (r.1 = noS ∧ (r.2 = 3 ∨ r.2 = 4))) : r.1.Fits ∧ r.2 ≤ 4 := by
  rcases h with ⟨h, e⟩ | ⟨e, h⟩
  · exact ⟨h.fits, by omega⟩
  · rw [e]
    exact ⟨noS_fits, by omega⟩
abbrev laidS (x : She) : Value := laidV x.wide x.high x.lay
theorem made_any (n : Nat) (hn : n ≤ 3) (x : She) (hG : Good x) {w : World} {B : Nat} {e : Nat → Addr} (h : Errs w B e) (hB : B ≤ w.heap.size) :
    Calls Tryd.prog 51 #[.int .u8 n, laidS x] w fun o w' => o = .returned (.tuple #[laidS (foldR n x).1, errOf e (foldR n x).2]) ∧ Below w.heap.size w w' := by
  have hp : 1 ≤ x.wide ∧ x.wide ≤ 1296 := ⟨hG.w0, hG.w1⟩
  have hq : 1 ≤ x.high ∧ x.high ≤ 1296 := ⟨hG.h0, hG.h1⟩
  have hr : 1 ≤ x.lay ∧ x.lay ≤ 144 := ⟨hG.l0, hG.l1⟩
  match n, hn with
  | 0, _ =>
    by_cases hd : x.wide % 2 = 0
    · by_cases hl : x.lay * 2 ≤ 144
      · have t := made0_ok _ _ _ hp hq hr h hB hd hl
        simp only [foldR, if_pos hd, if_pos hl]
        exact t
      · have t := made0_limit _ _ _ hp hq hr h hB hd (Int.not_le.1 hl)
        simp only [foldR, if_pos hd, if_neg hl]
        exact t
    · have t := made0_state _ _ _ hp hq hr h hB hd
      simp only [foldR, if_neg hd]
      exact t
  | 1, _ =>
    by_cases hd : x.high % 2 = 0
    · by_cases hl : x.lay * 2 ≤ 144
      · have t := made1_ok _ _ _ hp hq hr h hB hd hl
        simp only [foldR, if_pos hd, if_pos hl]
        exact t
      · have t := made1_limit _ _ _ hp hq hr h hB hd (Int.not_le.1 hl)
        simp only [foldR, if_pos hd, if_neg hl]
        exact t
    · have t := made1_state _ _ _ hp hq hr h hB hd
      simp only [foldR, if_neg hd]
      exact t
  | 2, _ =>
    by_cases hd : x.wide % 3 = 0
    · by_cases hl : x.lay * 3 ≤ 144
      · have t := made2_ok _ _ _ hp hq hr h hB hd hl
        simp only [foldR, if_pos hd, if_pos hl]
        exact t
      · have t := made2_limit _ _ _ hp hq hr h hB hd (Int.not_le.1 hl)
        simp only [foldR, if_pos hd, if_neg hl]
        exact t
    · have t := made2_state _ _ _ hp hq hr h hB hd
      simp only [foldR, if_neg hd]
      exact t
  | 3, _ =>
    by_cases hd : x.high % 3 = 0
    · by_cases hl : x.lay * 3 ≤ 144
      · have t := made3_ok _ _ _ hp hq hr h hB hd hl
        simp only [foldR, if_pos hd, if_pos hl]
        exact t
      · have t := made3_limit _ _ _ hp hq hr h hB hd (Int.not_le.1 hl)
        simp only [foldR, if_pos hd, if_neg hl]
        exact t
    · have t := made3_state _ _ _ hp hq hr h hB hd
      simp only [foldR, if_neg hd]
      exact t
theorem undone_any (n : Nat) (hn : n ≤ 3) (x : She) (hG : Good x) {w : World} {B : Nat} {e : Nat → Addr} (h : Errs w B e) (hB : B ≤ w.heap.size) :
    Calls Tryd.prog 60 #[.int .u8 n, laidS x] w fun o w' => o = .returned (.tuple #[laidS (undoR n x).1, errOf e (undoR n x).2]) ∧ Below w.heap.size w w' := by
  have hp : 1 ≤ x.wide ∧ x.wide ≤ 1296 := ⟨hG.w0, hG.w1⟩
  have hq : 1 ≤ x.high ∧ x.high ≤ 1296 := ⟨hG.h0, hG.h1⟩
  have hr : 1 ≤ x.lay ∧ x.lay ≤ 144 := ⟨hG.l0, hG.l1⟩
  match n, hn with
  | 0, _ =>
    by_cases hd : x.lay % 2 = 0
    · by_cases hl : x.wide * 2 ≤ 1296
      · have t := undo0_ok _ _ _ hp hq hr h hB hd hl
        simp only [undoR, if_pos hd, if_pos hl]
        exact t
      · have t := undo0_limit _ _ _ hp hq hr h hB hd (Int.not_le.1 hl)
        simp only [undoR, if_pos hd, if_neg hl]
        exact t
    · have t := undo0_state _ _ _ hp hq hr h hB hd
      simp only [undoR, if_neg hd]
      exact t
  | 1, _ =>
    by_cases hd : x.lay % 2 = 0
    · by_cases hl : x.high * 2 ≤ 1296
      · have t := undo1_ok _ _ _ hp hq hr h hB hd hl
        simp only [undoR, if_pos hd, if_pos hl]
        exact t
      · have t := undo1_limit _ _ _ hp hq hr h hB hd (Int.not_le.1 hl)
        simp only [undoR, if_pos hd, if_neg hl]
        exact t
    · have t := undo1_state _ _ _ hp hq hr h hB hd
      simp only [undoR, if_neg hd]
      exact t
  | 2, _ =>
    by_cases hd : x.lay % 3 = 0
    · by_cases hl : x.wide * 3 ≤ 1296
      · have t := undo2_ok _ _ _ hp hq hr h hB hd hl
        simp only [undoR, if_pos hd, if_pos hl]
        exact t
      · have t := undo2_limit _ _ _ hp hq hr h hB hd (Int.not_le.1 hl)
        simp only [undoR, if_pos hd, if_neg hl]
        exact t
    · have t := undo2_state _ _ _ hp hq hr h hB hd
      simp only [undoR, if_neg hd]
      exact t
  | 3, _ =>
    by_cases hd : x.lay % 3 = 0
    · by_cases hl : x.high * 3 ≤ 1296
      · have t := undo3_ok _ _ _ hp hq hr h hB hd hl
        simp only [undoR, if_pos hd, if_pos hl]
        exact t
      · have t := undo3_limit _ _ _ hp hq hr h hB hd (Int.not_le.1 hl)
        simp only [undoR, if_pos hd, if_neg hl]
        exact t
    · have t := undo3_state _ _ _ hp hq hr h hB hd
      simp only [undoR, if_neg hd]
      exact t
set_option maxHeartbeats 1000000 in
theorem foldOf_any (k : Int) {w : World} {B : Nat} {e : Nat → Addr} (h : Errs w B e) (n c : Nat) (hk : (k = n ∧ n ≤ 3 ∧ c = 0) ∨ (¬ (0 ≤ k ∧ k ≤ 3) ∧ n = 0 ∧ c = 2)) :
    Calls Tryd.prog 78 #[.int .i64 k] w fun o w' => o = .returned (.tuple #[.int .u8 n, errOf e c]) ∧ w = w' := by
  rcases hk with ⟨rfl, hn, rfl⟩ | ⟨hk, rfl, rfl⟩
  · have hw : IntKind.u8.wrap (n : Int) = n := IntWalk.u8_in _ (by omega)
    have e0 : (if 0 ≤ (n : Int) ∧ (n : Int) ≤ 3 then 0 else 2) = 0 := if_pos ⟨by omega, by omega⟩
    go_enter Tryd.func78, Tryd.ntmps78
    go_wp2_with fail
    refine (checkWithin_any (n : Int) 0 3 h).mono ?_
    rintro o u ⟨rfl, rfl⟩
    rw [e0]
    have e1 : errOf e 0 = .nilIface := rfl
    rw [e1]
    clear e0 e1
    go_wp2_with fail
    go_ret2
    exact ⟨rfl, rfl⟩
  · have e0 : (if 0 ≤ k ∧ k ≤ 3 then 0 else 2) = 2 := if_neg hk
    clear hk
    go_enter Tryd.func78, Tryd.ntmps78
    go_wp2_with fail
    refine (checkWithin_any k 0 3 h).mono ?_
    rintro o u ⟨rfl, rfl⟩
    rw [e0]
    have e1 : errOf e 2 = errV (e 1) := rfl
    rw [e1]
    clear e0 e1
    go_wp2_with fail
    go_ret2
    exact ⟨rfl, rfl⟩
end Go.Proofs.YtcbbabepjfiigaaDoor.fold

/-
  A change of a sheet by the fold with a number: the program's function that a method is handed to.
-/
namespace Go.Proofs.YtcbbabepjfiigaaDoor.fold
open Go Go.RowKit sl errs

/-- what a change makes of a sheet and a fold's number, and the code -/
def chgR (R : Nat → She → She × Nat) (x : She) (k : Int) : She × Nat :=
  if She.valid x = true then (if 0 ≤ k ∧ k ≤ 3 then R k.toNat x else (noS, 2)) else (noS, 1)
theorem chgR_invalid {R : Nat → She → She × Nat} {x : She} {k : Int} (h : She.valid x = false) : chgR R x k = (noS, 1) := by rw [chgR, h]; rfl
theorem chgR_range {R : Nat → She → She × Nat} {x : She} {k : Int} (h : She.valid x = true) (hk : ¬ (0 ≤ k ∧ k ≤ 3)) : chgR R x k = (noS, 2) := by rw [chgR, h, if_pos rfl, if_neg hk]
theorem chgR_ok {R : Nat → She → She × Nat} {x : She} {n : Nat} (h : She.valid x = true) (hk : n ≤ 3) : chgR R x n = R n x := by rw [chgR, h, if_pos rfl, if_pos ⟨by omega, by omega⟩, Int.toNat_natCast]
/-- the sheet that came, and a place for the result -/
abbrev CH (x : She) (W u : World) : Prop :=
  u.cell? ⟨W.heap.size, 0, none⟩ = some (.int .i16 x.wide) ∧ u.cell? ⟨W.heap.size, 1, none⟩ = some (.int .i16 x.high) ∧ u.cell? ⟨W.heap.size, 2, none⟩ = some (.int .i16 x.lay) ∧
  u.cell? ⟨W.heap.size + 1, 0, none⟩ = some (.int .i16 0) ∧ u.cell? ⟨W.heap.size + 1, 1, none⟩ = some (.int .i16 0) ∧ u.cell? ⟨W.heap.size + 1, 2, none⟩ = some (.int .i16 0) ∧
  u.frozen? ⟨W.heap.size + 1, 0, none⟩ = false ∧ u.frozen? ⟨W.heap.size + 1, 1, none⟩ = false ∧ u.frozen? ⟨W.heap.size + 1, 2, none⟩ = false ∧ W.heap.size + 1 < u.heap.size ∧ Below W.heap.size W u
theorem CH.next {x : She} {W u v : World} (h : CH x W u) (hb : Below u.heap.size u v) : CH x W v := by
  obtain ⟨h0, h1, h2, h3, h4, h5, f0, f1, f2, hl, hB⟩ := h
  have hl' : W.heap.size < u.heap.size := by omega
  exact ⟨(hb.cell (p := ⟨W.heap.size, 0, none⟩) hl').trans h0, (hb.cell (p := ⟨W.heap.size, 1, none⟩) hl').trans h1, (hb.cell (p := ⟨W.heap.size, 2, none⟩) hl').trans h2,
    (hb.cell (p := ⟨W.heap.size + 1, 0, none⟩) hl).trans h3, (hb.cell (p := ⟨W.heap.size + 1, 1, none⟩) hl).trans h4, (hb.cell (p := ⟨W.heap.size + 1, 2, none⟩) hl).trans h5,
    (hb.frozen (p := ⟨W.heap.size + 1, 0, none⟩) hl).trans f0, (hb.frozen (p := ⟨W.heap.size + 1, 1, none⟩) hl).trans f1, (hb.frozen (p := ⟨W.heap.size + 1, 2, none⟩) hl).trans f2, Nat.lt_of_lt_of_le hl hb.size, below_next hB hb (Nat.le_refl _)⟩
theorem CH.below {x : She} {W u : World} (h : CH x W u) : Below W.heap.size W u := h.2.2.2.2.2.2.2.2.2.2
theorem CH.there {x : She} {W u : World} (h : CH x W u) : u.there (W.heap.size + 1) 0 3 := fun j hj => by
  obtain ⟨_, _, _, h3, h4, h5, f0, f1, f2, _, _⟩ := h
  match j, hj with
  | 0, _ => exact ⟨by rw [Nat.zero_add, h3]; rfl, f0⟩
  | 1, _ => exact ⟨by rw [Nat.zero_add, h4]; rfl, f1⟩
  | 2, _ => exact ⟨by rw [Nat.zero_add, h5]; rfl, f2⟩
theorem CH.new (x : She) (w : World) (T T' : TypeId) : CH x w ((w.alloc (.cells #[.int .i16 x.wide, .int .i16 x.high, .int .i16 x.lay] T)).alloc (.cells #[.int .i16 0, .int .i16 0, .int .i16 0] T')) := by
  have h1 := Box.new x.cells (Below.refl w.heap.size w) _ rfl T
  have h3 := h1.alloc (.cells #[.int .i16 0, .int .i16 0, .int .i16 0] T')
  have hh := heap_alloc_new (w.alloc (.cells #[.int .i16 x.wide, .int .i16 x.high, .int .i16 x.lay] T)) (.cells #[.int .i16 0, .int .i16 0, .int .i16 0] T')
  rw [World.size_alloc] at hh
  exact ⟨h3.1 0 _ rfl, h3.1 1 _ rfl, h3.1 2 _ rfl, cell_of_row _ _ 0 _ _ _ hh, cell_of_row _ _ 1 _ _ _ hh, cell_of_row _ _ 2 _ _ _ hh, frozen_of_row _ _ 0 _ _ hh, frozen_of_row _ _ 1 _ _ hh, frozen_of_row _ _ 2 _ _ hh, by simp, h3.2.2⟩
theorem CH.set {x : She} {W u : World} (h : CH x W u) (r : She) : Below W.heap.size W (((u.setCell ⟨W.heap.size + 1, 0, none⟩ (.int .i16 r.wide)).setCell ⟨W.heap.size + 1, 1, none⟩ (.int .i16 r.high)).setCell ⟨W.heap.size + 1, 2, none⟩ (.int .i16 r.lay)) :=
  below_cells h.below (show W.heap.size ≤ W.heap.size + 1 by omega) r.cells 0
set_option maxRecDepth 100000 in
set_option maxHeartbeats 4000000 in
theorem changed_made (x : She) (hx : x.Fits) (k : Int) {w : World} {B : Nat} {e : Nat → Addr} (h : Errs w B e) (hB : B ≤ w.heap.size) :
    Calls Tryd.prog 50 #[x.v, .int .i64 k, .func (.func 51) #[] #[]] w fun o w' => o = .returned (.tuple #[(chgR foldR x k).1.v, errOf e (chgR foldR x k).2]) ∧ Below w.heap.size w w' := by
  have S0 := Lib.hid (CH.new x w 25 25)
  have HE := Lib.hid h
  clear h
  cases hv : She.valid x with
  | false =>
    have e0 : chgR foldR x k = (noS, 1) := chgR_invalid hv
    rw [e0]
    have HV := Lib.hid hv
    clear hv e0
    go_enter Tryd.func50, Tryd.ntmps50
    go_wp2_with fail
    refine (check1_any x hx _ (w.heap.size + 1 + 1) (by simp) (HE.out.below (S0.out.below.mono hB)) (Nat.le_trans hB S0.out.below.size) 1 (by rw [HV.out]; rfl)).mono ?_
    rintro o w1 ⟨rfl, hb⟩
    have S9 := Lib.hid (S0.out.next hb)
    clear hb S0
    obtain ⟨s0, s1, s2, s3, s4, s5, f0, f1, f2, _, _⟩ := S9.out
    have e2 : errOf e 1 = errV (e 0) := rfl
    rw [e2]
    go_wp2_with fail
    refine bodyPost_ret (v := .tuple #[noS.v, errOf e 1]) ?h1 rfl ⟨rfl, ?h2⟩
    case h1 => exact results_row_tmp (b := w.heap.size + 1) (cs := noS.cells) Tryd.results50 rfl (range3 S9.out.there) Tryd.underlying25 rfl (by kernel_rfl)
    case h2 => exact S9.out.set noS
  | true =>
    have HG := Lib.hid ((valid_iff x).1 hv)
    by_cases hk : 0 ≤ k ∧ k ≤ 3
    · obtain ⟨n, rfl⟩ : ∃ n : Nat, k = n := ⟨k.toNat, by omega⟩
      have hn : n ≤ 3 := by omega
      rw [chgR_ok hv hn]
      have HC := Lib.hid (cases_fits (foldR_cases n x HG.out))
      have hm := fun (u : World) (hb : Below w.heap.size w u) => made_any n hn x HG.out (HE.out.below (hb.mono hB)) (Nat.le_trans hB hb.size)
      obtain ⟨r, hr⟩ : ∃ r, foldR n x = r := ⟨_, rfl⟩
      rw [hr] at hm HC ⊢
      obtain ⟨⟨rp, rq, rl⟩, rc⟩ := r
      have HM := Lib.hid hm
      have HV := Lib.hid hv
      clear hm hr hk hv
      go_enter Tryd.func50, Tryd.ntmps50
      go_wp2_with fail
      refine (check1_any x hx _ (w.heap.size + 1 + 1) (by simp) (HE.out.below (S0.out.below.mono hB)) (Nat.le_trans hB S0.out.below.size) 0 (by rw [HV.out]; rfl)).mono ?_
      rintro o w1 ⟨rfl, hb⟩
      have S1 := Lib.hid (S0.out.next hb)
      clear hb S0
      have e2 : errOf e 0 = .nilIface := rfl
      rw [e2]
      go_wp2_with fail
      refine (foldOf_any n (HE.out.below (S1.out.below.mono hB)) n 0 (.inl ⟨rfl, hn, rfl⟩)).mono ?_
      rintro o u ⟨rfl, rfl⟩
      rw [e2]
      clear e2
      obtain ⟨s0, s1, s2, s3, s4, s5, f0, f1, f2, _, _⟩ := S1.out
      go_wp2_with fail
      refine (laidOf_any x hx _).mono ?_
      rintro o w2 ⟨rfl, hb⟩
      have S2 := Lib.hid (S1.out.next hb)
      clear hb S1 s0 s1 s2 s3 s4 s5 f0 f1 f2
      go_wp2_with fail
      refine (HM.out _ S2.out.below).mono ?_
      rintro o w3 ⟨rfl, hb⟩
      have S3 := Lib.hid ((S2.out.next hb).next ((Below.refl _ _).alloc (Nat.le_refl _) (.cells #[.int .i64 rp, .int .i64 rq, .int .i64 rl] 78)))
      clear hb S2
      go_wp2_with fail
      refine (sheet_any ⟨rp, rq, rl⟩ HC.out.1 _).mono ?_
      rintro o w4 ⟨rfl, hb⟩
      have S9 := Lib.hid (S3.out.next hb)
      clear hb S3
      obtain ⟨s0, s1, s2, s3, s4, s5, f0, f1, f2, _, _⟩ := S9.out
      go_wp2_with fail
      refine bodyPost_ret (v := .tuple #[(⟨rp, rq, rl⟩ : She).v, errOf e rc]) ?h1 rfl ⟨rfl, ?h2⟩
      case h1 => exact results_row_tmp (b := w.heap.size + 1) (cs := (⟨rp, rq, rl⟩ : She).cells) Tryd.results50 rfl (range3 S9.out.there) Tryd.underlying25 rfl (by kernel_rfl)
      case h2 => exact S9.out.set (⟨rp, rq, rl⟩ : She)
    · rw [chgR_range hv hk]
      have HK := Lib.hid hk
      have HV := Lib.hid hv
      clear hk hv
      go_enter Tryd.func50, Tryd.ntmps50
      go_wp2_with fail
      refine (check1_any x hx _ (w.heap.size + 1 + 1) (by simp) (HE.out.below (S0.out.below.mono hB)) (Nat.le_trans hB S0.out.below.size) 0 (by rw [HV.out]; rfl)).mono ?_
      rintro o w1 ⟨rfl, hb⟩
      have S9 := Lib.hid (S0.out.next hb)
      clear hb S0
      have e2 : errOf e 0 = .nilIface := rfl
      rw [e2]
      clear e2
      go_wp2_with fail
      refine (foldOf_any k (HE.out.below (S9.out.below.mono hB)) 0 2 (.inr ⟨HK.out, rfl, rfl⟩)).mono ?_
      rintro o u ⟨rfl, rfl⟩
      have e3 : errOf e 2 = errV (e 1) := rfl
      rw [e3]
      obtain ⟨s0, s1, s2, s3, s4, s5, f0, f1, f2, _, _⟩ := S9.out
      go_wp2_with fail
      refine bodyPost_ret (v := .tuple #[noS.v, errOf e 2]) ?h1 rfl ⟨rfl, ?h2⟩
      case h1 => exact results_row_tmp (b := w.heap.size + 1) (cs := noS.cells) Tryd.results50 rfl (range3 S9.out.there) Tryd.underlying25 rfl (by kernel_rfl)
      case h2 => exact S9.out.set noS
set_option maxRecDepth 100000 in
set_option maxHeartbeats 4000000 in
theorem changed_undone (x : She) (hx : x.Fits) (k : Int) {w : World} {B : Nat} {e : Nat → Addr} (h : Errs w B e) (hB : B ≤ w.heap.size) :
    Calls Tryd.prog 50 #[x.v, .int .i64 k, .func (.func 60) #[] #[]] w fun o w' => o = .returned (.tuple #[(chgR undoR x k).1.v, errOf e (chgR undoR x k).2]) ∧ Below w.heap.size w w' := by
  have S0 := Lib.hid (CH.new x w 25 25)
  have HE := Lib.hid h
  clear h
  cases hv : She.valid x with
  | false =>
    have e0 : chgR undoR x k = (noS, 1) := chgR_invalid hv
    rw [e0]
    have HV := Lib.hid hv
    clear hv e0
    go_enter Tryd.func50, Tryd.ntmps50
    go_wp2_with fail
    refine (check1_any x hx _ (w.heap.size + 1 + 1) (by simp) (HE.out.below (S0.out.below.mono hB)) (Nat.le_trans hB S0.out.below.size) 1 (by rw [HV.out]; rfl)).mono ?_
    rintro o w1 ⟨rfl, hb⟩
    have S9 := Lib.hid (S0.out.next hb)
    clear hb S0
    obtain ⟨s0, s1, s2, s3, s4, s5, f0, f1, f2, _, _⟩ := S9.out
    have e2 : errOf e 1 = errV (e 0) := rfl
    rw [e2]
    go_wp2_with fail
    refine bodyPost_ret (v := .tuple #[noS.v, errOf e 1]) ?h1 rfl ⟨rfl, ?h2⟩
    case h1 => exact results_row_tmp (b := w.heap.size + 1) (cs := noS.cells) Tryd.results50 rfl (range3 S9.out.there) Tryd.underlying25 rfl (by kernel_rfl)
    case h2 => exact S9.out.set noS
  | true =>
    have HG := Lib.hid ((valid_iff x).1 hv)
    by_cases hk : 0 ≤ k ∧ k ≤ 3
    · obtain ⟨n, rfl⟩ : ∃ n : Nat, k = n := ⟨k.toNat, by omega⟩
      have hn : n ≤ 3 := by omega
      rw [chgR_ok hv hn]
      have HC := Lib.hid (cases_fits (undoR_cases n x HG.out))
      have hm := fun (u : World) (hb : Below w.heap.size w u) => undone_any n hn x HG.out (HE.out.below (hb.mono hB)) (Nat.le_trans hB hb.size)
      obtain ⟨r, hr⟩ : ∃ r, undoR n x = r := ⟨_, rfl⟩
      rw [hr] at hm HC ⊢
      obtain ⟨⟨rp, rq, rl⟩, rc⟩ := r
      have HM := Lib.hid hm
      have HV := Lib.hid hv
      clear hm hr hk hv
      go_enter Tryd.func50, Tryd.ntmps50
      go_wp2_with fail
      refine (check1_any x hx _ (w.heap.size + 1 + 1) (by simp) (HE.out.below (S0.out.below.mono hB)) (Nat.le_trans hB S0.out.below.size) 0 (by rw [HV.out]; rfl)).mono ?_
      rintro o w1 ⟨rfl, hb⟩
      have S1 := Lib.hid (S0.out.next hb)
      clear hb S0
      have e2 : errOf e 0 = .nilIface := rfl
      rw [e2]
      go_wp2_with fail
      refine (foldOf_any n (HE.out.below (S1.out.below.mono hB)) n 0 (.inl ⟨rfl, hn, rfl⟩)).mono ?_
      rintro o u ⟨rfl, rfl⟩
      rw [e2]
      clear e2
      obtain ⟨s0, s1, s2, s3, s4, s5, f0, f1, f2, _, _⟩ := S1.out
      go_wp2_with fail
      refine (laidOf_any x hx _).mono ?_
      rintro o w2 ⟨rfl, hb⟩
      have S2 := Lib.hid (S1.out.next hb)
      clear hb S1 s0 s1 s2 s3 s4 s5 f0 f1 f2
      go_wp2_with fail
      refine (HM.out _ S2.out.below).mono ?_
      rintro o w3 ⟨rfl, hb⟩
      have S3 := Lib.hid ((S2.out.next hb).next ((Below.refl _ _).alloc (Nat.le_refl _) (.cells #[.int .i64 rp, .int .i64 rq, .int .i64 rl] 78)))
      clear hb S2
      go_wp2_with fail
      refine (sheet_any ⟨rp, rq, rl⟩ HC.out.1 _).mono ?_
      rintro o w4 ⟨rfl, hb⟩
      have S9 := Lib.hid (S3.out.next hb)
      clear hb S3
      obtain ⟨s0, s1, s2, s3, s4, s5, f0, f1, f2, _, _⟩ := S9.out
      go_wp2_with fail
      refine bodyPost_ret (v := .tuple #[(⟨rp, rq, rl⟩ : She).v, errOf e rc]) ?h1 rfl ⟨rfl, ?h2⟩
      case h1 => exact results_row_tmp (b := w.heap.size + 1) (cs := (⟨rp, rq, rl⟩ : She).cells) Tryd.results50 rfl (range3 S9.out.there) Tryd.underlying25 rfl (by kernel_rfl)
      case h2 => exact S9.out.set (⟨rp, rq, rl⟩ : She)
    · rw [chgR_range hv hk]
      have HK := Lib.hid hk
      have HV := Lib.hid hv
      clear hk hv
      go_enter Tryd.func50, Tryd.ntmps50
      go_wp2_with fail
      refine (check1_any x hx _ (w.heap.size + 1 + 1) (by simp) (HE.out.below (S0.out.below.mono hB)) (Nat.le_trans hB S0.out.below.size) 0 (by rw [HV.out]; rfl)).mono ?_
      rintro o w1 ⟨rfl, hb⟩
      have S9 := Lib.hid (S0.out.next hb)
      clear hb S0
      have e2 : errOf e 0 = .nilIface := rfl
      rw [e2]
      clear e2
      go_wp2_with fail
      refine (foldOf_any k (HE.out.below (S9.out.below.mono hB)) 0 2 (.inr ⟨HK.out, rfl, rfl⟩)).mono ?_
      rintro o u ⟨rfl, rfl⟩
      have e3 : errOf e 2 = errV (e 1) := rfl
      rw [e3]
      obtain ⟨s0, s1, s2, s3, s4, s5, f0, f1, f2, _, _⟩ := S9.out
      go_wp2_with fail
      refine bodyPost_ret (v := .tuple #[noS.v, errOf e 2]) ?h1 rfl ⟨rfl, ?h2⟩
      case h1 => exact results_row_tmp (b := w.heap.size + 1) (cs := noS.cells) Tryd.results50 rfl (range3 S9.out.there) Tryd.underlying25 rfl (by kernel_rfl)
      case h2 => exact S9.out.set noS
end Go.Proofs.YtcbbabepjfiigaaDoor.fold

/-
  Folds, made by the model.
-/
namespace Go.Proofs.YtcbbabepjfiigaaDoor.fold
open Go Go.RowKit sl errs

theorem l04By_any (n b : Int) (h : (n < 2 ∧ b = 2) ∨ (2 ≤ n ∧ b = 3)) (w : World) :
    Calls Tryd.prog 59 #[.int .i64 n] w fun o w' => o = .returned (.int .i16 b) ∧ w = w' := by
  rcases h with ⟨h, rfl⟩ | ⟨h, rfl⟩
  all_goals
    go_enter Tryd.func59, Tryd.ntmps59
    go_wp2
    go_ret
    exact ⟨rfl, rfl⟩
set_option maxRecDepth 100000 in
set_option maxHeartbeats 4000000 in
theorem smade0_state (p q r : Int) (hp : 1 ≤ p ∧ p ≤ 1296) (hq : 1 ≤ q ∧ q ≤ 1296) (hr : 1 ≤ r ∧ r ≤ 144) (w : World) (hd : ¬ p % 2 = 0) :
    Calls Tryd.prog 49 #[.agg #[.int .i16 p, .int .i16 q, .int .i16 r], .int .i64 0] w fun o w' => o = .returned (.tuple #[.agg #[.int .i16 (0), .int .i16 (0), .int .i16 (0)], .int .i64 4]) ∧ Below w.heap.size w w' := by
  have t1 : p.tmod 2 = p % 2 := Int.tmod_eq_emod_of_nonneg (by omega)
  have t2 : p.tdiv 2 = p / 2 := Int.tdiv_eq_ediv_of_nonneg (by omega)
  have t5 : IntKind.i16.wrap (p / 2) = p / 2 := IntWalk.i16_in _ (by omega)
  have t6 : IntKind.i16.wrap (r * 2) = r * 2 := IntWalk.i16_in _ (by omega)
  have t7 : IntKind.i16.wrap (p % 2) = p % 2 := IntWalk.i16_in _ (by omega)
  have hd2 : (p % 2 != 0) = true := by rw [bne_iff_ne]; exact hd
  clear hd t2 t5 t6
  go_enter Tryd.func49, Tryd.ntmps49
  go_wp2_with fail
  refine (l04Fold_b 0 true (by decide) _).mono ?_
  rintro o u ⟨rfl, rfl⟩
  go_wp2_with fail
  refine (l04By_any 0 2 (by decide) _).mono ?_
  rintro o u ⟨rfl, rfl⟩
  go_wp2_with fail
  refine bodyPost_ret (v := .tuple #[.agg #[.int .i16 (0), .int .i16 (0), .int .i16 (0)], .int .i64 4]) ?h1 rfl ⟨rfl, ?h2⟩
  case h1 =>
    refine results_row_tmp (b := w.heap.size + 1) (cs := [.int .i16 (0), .int .i16 (0), .int .i16 (0)]) Tryd.results49 rfl ?_ Tryd.underlying25 rfl (by kernel_rfl)
    repeat (with_reducible first | apply range_drew | apply range_drewN)
    try with_reducible refine range3 ?_
    repeat (with_reducible first | apply there_set' | apply there_drew | apply there_drewN | exact there_new _ _ [.int .i16 0, .int .i16 0, .int .i16 0] _ rfl | exact range_new3 _ _ _ _ _ _)
  case h2 =>
    repeat (with_reducible first | exact Below.refl _ _ | assumption | apply Below.drew | apply below_drewN' | (refine Below.alloc ?_ (by first | (simp; done) | (simp; omega) | omega) _) | (refine Below.setCell ?_ (by first | (simp; done) | (simp; omega) | omega) _))
set_option maxRecDepth 100000 in
set_option maxHeartbeats 4000000 in
theorem smade0_limit (p q r : Int) (hp : 1 ≤ p ∧ p ≤ 1296) (hq : 1 ≤ q ∧ q ≤ 1296) (hr : 1 ≤ r ∧ r ≤ 144) (w : World) (hd : p % 2 = 0) (hl : 144 < r * 2) :
    Calls Tryd.prog 49 #[.agg #[.int .i16 p, .int .i16 q, .int .i16 r], .int .i64 0] w fun o w' => o = .returned (.tuple #[.agg #[.int .i16 (0), .int .i16 (0), .int .i16 (0)], .int .i64 3]) ∧ Below w.heap.size w w' := by
  have t1 : p.tmod 2 = p % 2 := Int.tmod_eq_emod_of_nonneg (by omega)
  have t2 : p.tdiv 2 = p / 2 := Int.tdiv_eq_ediv_of_nonneg (by omega)
  have t5 : IntKind.i16.wrap (p / 2) = p / 2 := IntWalk.i16_in _ (by omega)
  have t6 : IntKind.i16.wrap (r * 2) = r * 2 := IntWalk.i16_in _ (by omega)
  have t7 : IntKind.i16.wrap (p % 2) = p % 2 := IntWalk.i16_in _ (by omega)
  go_enter Tryd.func49, Tryd.ntmps49
  go_wp2_with fail
  refine (l04Fold_b 0 true (by decide) _).mono ?_
  rintro o u ⟨rfl, rfl⟩
  go_wp2_with fail
  refine (l04By_any 0 2 (by decide) _).mono ?_
  rintro o u ⟨rfl, rfl⟩
  go_wp2_with fail
  refine bodyPost_ret (v := .tuple #[.agg #[.int .i16 (0), .int .i16 (0), .int .i16 (0)], .int .i64 3]) ?h1 rfl ⟨rfl, ?h2⟩
  case h1 =>
    refine results_row_tmp (b := w.heap.size + 1) (cs := [.int .i16 (0), .int .i16 (0), .int .i16 (0)]) Tryd.results49 rfl ?_ Tryd.underlying25 rfl (by kernel_rfl)
    repeat (with_reducible first | apply range_drew | apply range_drewN)
    try with_reducible refine range3 ?_
    repeat (with_reducible first | apply there_set' | apply there_drew | apply there_drewN | exact there_new _ _ [.int .i16 0, .int .i16 0, .int .i16 0] _ rfl | exact range_new3 _ _ _ _ _ _)
  case h2 =>
    repeat (with_reducible first | exact Below.refl _ _ | assumption | apply Below.drew | apply below_drewN' | (refine Below.alloc ?_ (by first | (simp; done) | (simp; omega) | omega) _) | (refine Below.setCell ?_ (by first | (simp; done) | (simp; omega) | omega) _))
set_option maxRecDepth 100000 in
set_option maxHeartbeats 4000000 in
theorem smade0_ok (p q r : Int) (hp : 1 ≤ p ∧ p ≤ 1296) (hq : 1 ≤ q ∧ q ≤ 1296) (hr : 1 ≤ r ∧ r ≤ 144) (w : World) (hd : p % 2 = 0) (hl : r * 2 ≤ 144) :
    Calls Tryd.prog 49 #[.agg #[.int .i16 p, .int .i16 q, .int .i16 r], .int .i64 0] w fun o w' => o = .returned (.tuple #[.agg #[.int .i16 (p / 2), .int .i16 (q), .int .i16 (r * 2)], .int .i64 0]) ∧ Below w.heap.size w w' := by
  have t1 : p.tmod 2 = p % 2 := Int.tmod_eq_emod_of_nonneg (by omega)
  have t2 : p.tdiv 2 = p / 2 := Int.tdiv_eq_ediv_of_nonneg (by omega)
  have t5 : IntKind.i16.wrap (p / 2) = p / 2 := IntWalk.i16_in _ (by omega)
  have t6 : IntKind.i16.wrap (r * 2) = r * 2 := IntWalk.i16_in _ (by omega)
  have t7 : IntKind.i16.wrap (p % 2) = p % 2 := IntWalk.i16_in _ (by omega)
  go_enter Tryd.func49, Tryd.ntmps49
  go_wp2_with fail
  refine (l04Fold_b 0 true (by decide) _).mono ?_
  rintro o u ⟨rfl, rfl⟩
  go_wp2_with fail
  refine (l04By_any 0 2 (by decide) _).mono ?_
  rintro o u ⟨rfl, rfl⟩
  go_wp2_with fail
  refine bodyPost_ret (v := .tuple #[.agg #[.int .i16 (p / 2), .int .i16 (q), .int .i16 (r * 2)], .int .i64 0]) ?h1 rfl ⟨rfl, ?h2⟩
  case h1 =>
    refine results_row_tmp (b := w.heap.size + 1) (cs := [.int .i16 (p / 2), .int .i16 (q), .int .i16 (r * 2)]) Tryd.results49 rfl ?_ Tryd.underlying25 rfl (by kernel_rfl)
    repeat (with_reducible first | apply range_drew | apply range_drewN)
    try with_reducible refine range3 ?_
    repeat (with_reducible first | apply there_set' | apply there_drew | apply there_drewN | exact there_new _ _ [.int .i16 0, .int .i16 0, .int .i16 0] _ rfl | exact range_new3 _ _ _ _ _ _)
  case h2 =>
    repeat (with_reducible first | exact Below.refl _ _ | assumption | apply Below.drew | apply below_drewN' | (refine Below.alloc ?_ (by first | (simp; done) | (simp; omega) | omega) _) | (refine Below.setCell ?_ (by first | (simp; done) | (simp; omega) | omega) _))
set_option maxRecDepth 100000 in
set_option maxHeartbeats 4000000 in
theorem smade1_state (p q r : Int) (hp : 1 ≤ p ∧ p ≤ 1296) (hq : 1 ≤ q ∧ q ≤ 1296) (hr : 1 ≤ r ∧ r ≤ 144) (w : World) (hd : ¬ q % 2 = 0) :
    Calls Tryd.prog 49 #[.agg #[.int .i16 p, .int .i16 q, .int .i16 r], .int .i64 1] w fun o w' => o = .returned (.tuple #[.agg #[.int .i16 (0), .int .i16 (0), .int .i16 (0)], .int .i64 4]) ∧ Below w.heap.size w w' := by
  have t1 : q.tmod 2 = q % 2 := Int.tmod_eq_emod_of_nonneg (by omega)
  have t2 : q.tdiv 2 = q / 2 := Int.tdiv_eq_ediv_of_nonneg (by omega)
  have t5 : IntKind.i16.wrap (q / 2) = q / 2 := IntWalk.i16_in _ (by omega)
  have t6 : IntKind.i16.wrap (r * 2) = r * 2 := IntWalk.i16_in _ (by omega)
  have t7 : IntKind.i16.wrap (q % 2) = q % 2 := IntWalk.i16_in _ (by omega)
  have hd2 : (q % 2 != 0) = true := by rw [bne_iff_ne]; exact hd
  clear hd t2 t5 t6
  go_enter Tryd.func49, Tryd.ntmps49
  go_wp2_with fail
  refine (l04Fold_b 1 true (by decide) _).mono ?_
  rintro o u ⟨rfl, rfl⟩
  go_wp2_with fail
  refine (l04By_any 1 2 (by decide) _).mono ?_
  rintro o u ⟨rfl, rfl⟩
  go_wp2_with fail
  refine bodyPost_ret (v := .tuple #[.agg #[.int .i16 (0), .int .i16 (0), .int .i16 (0)], .int .i64 4]) ?h1 rfl ⟨rfl, ?h2⟩
  case h1 =>
    refine results_row_tmp (b := w.heap.size + 1) (cs := [.int .i16 (0), .int .i16 (0), .int .i16 (0)]) Tryd.results49 rfl ?_ Tryd.underlying25 rfl (by kernel_rfl)
    repeat (with_reducible first | apply range_drew | apply range_drewN)
    try with_reducible refine range3 ?_
    repeat (with_reducible first | apply there_set' | apply there_drew | apply there_drewN | exact there_new _ _ [.int .i16 0, .int .i16 0, .int .i16 0] _ rfl | exact range_new3 _ _ _ _ _ _)
  case h2 =>
    repeat (with_reducible first | exact Below.refl _ _ | assumption | apply Below.drew | apply below_drewN' | (refine Below.alloc ?_ (by first | (simp; done) | (simp; omega) | omega) _) | (refine Below.setCell ?_ (by first | (simp; done) | (simp; omega) | omega) _))
set_option maxRecDepth 100000 in
set_option maxHeartbeats 4000000 in
theorem smade1_limit (p q r : Int) (hp : 1 ≤ p ∧ p ≤ 1296) (hq : 1 ≤ q ∧ q ≤ 1296) (hr : 1 ≤ r ∧ r ≤ 144) (w : World) (hd : q % 2 = 0) (hl : 144 < r * 2) :
    Calls Tryd.prog 49 #[.agg #[.int .i16 p, .int .i16 q, .int .i16 r], .int .i64 1] w fun o w' => o = .returned (.tuple #[.agg #[.int .i16 (0), .int .i16 (0), .int .i16 (0)], .int .i64 3]) ∧ Below w.heap.size w w' := by
  have t1 : q.tmod 2 = q % 2 := Int.tmod_eq_emod_of_nonneg (by omega)
  have t2 : q.tdiv 2 = q / 2 := Int.tdiv_eq_ediv_of_nonneg (by omega)
  have t5 : IntKind.i16.wrap (q / 2) = q / 2 := IntWalk.i16_in _ (by omega)
  have t6 : IntKind.i16.wrap (r * 2) = r * 2 := IntWalk.i16_in _ (by omega)
  have t7 : IntKind.i16.wrap (q % 2) = q % 2 := IntWalk.i16_in _ (by omega)
  go_enter Tryd.func49, Tryd.ntmps49
  go_wp2_with fail
  refine (l04Fold_b 1 true (by decide) _).mono ?_
  rintro o u ⟨rfl, rfl⟩
  go_wp2_with fail
  refine (l04By_any 1 2 (by decide) _).mono ?_
  rintro o u ⟨rfl, rfl⟩
  go_wp2_with fail
  refine bodyPost_ret (v := .tuple #[.agg #[.int .i16 (0), .int .i16 (0), .int .i16 (0)], .int .i64 3]) ?h1 rfl ⟨rfl, ?h2⟩
  case h1 =>
    refine results_row_tmp (b := w.heap.size + 1) (cs := [.int .i16 (0), .int .i16 (0), .int .i16 (0)]) Tryd.results49 rfl ?_ Tryd.underlying25 rfl (by kernel_rfl)
    repeat (with_reducible first | apply range_drew | apply range_drewN)
    try with_reducible refine range3 ?_
    repeat (with_reducible first | apply there_set' | apply there_drew | apply there_drewN | exact there_new _ _ [.int .i16 0, .int .i16 0, .int .i16 0] _ rfl | exact range_new3 _ _ _ _ _ _)
  case h2 =>
    repeat (with_reducible first | exact Below.refl _ _ | assumption | apply Below.drew | apply below_drewN' | (refine Below.alloc ?_ (by first | (simp; done) | (simp; omega) | omega) _) | (refine Below.setCell ?_ (by first | (simp; done) | (simp; omega) | omega) _))
set_option maxRecDepth 100000 in
set_option maxHeartbeats 4000000 in
theorem smade1_ok (p q r : Int) (hp : 1 ≤ p ∧ p ≤ 1296) (hq : 1 ≤ q ∧ q ≤ 1296) (hr : 1 ≤ r ∧ r ≤ 144) (w : World) (hd : q % 2 = 0) (hl : r * 2 ≤ 144) :
    Calls Tryd.prog 49 #[.agg #[.int .i16 p, .int .i16 q, .int .i16 r], .int .i64 1] w fun o w' => o = .returned (.tuple #[.agg #[.int .i16 (p), .int .i16 (q / 2), .int .i16 (r * 2)], .int .i64 0]) ∧ Below w.heap.size w w' := by
  have t1 : q.tmod 2 = q % 2 := Int.tmod_eq_emod_of_nonneg (by omega)
  have t2 : q.tdiv 2 = q / 2 := Int.tdiv_eq_ediv_of_nonneg (by omega)
  have t5 : IntKind.i16.wrap (q / 2) = q / 2 := IntWalk.i16_in _ (by omega)
  have t6 : IntKind.i16.wrap (r * 2) = r * 2 := IntWalk.i16_in _ (by omega)
  have t7 : IntKind.i16.wrap (q % 2) = q % 2 := IntWalk.i16_in _ (by omega)
  go_enter Tryd.func49, Tryd.ntmps49
  go_wp2_with fail
  refine (l04Fold_b 1 true (by decide) _).mono ?_
  rintro o u ⟨rfl, rfl⟩
  go_wp2_with fail
  refine (l04By_any 1 2 (by decide) _).mono ?_
  rintro o u ⟨rfl, rfl⟩
  go_wp2_with fail
  refine bodyPost_ret (v := .tuple #[.agg #[.int .i16 (p), .int .i16 (q / 2), .int .i16 (r * 2)], .int .i64 0]) ?h1 rfl ⟨rfl, ?h2⟩
  case h1 =>
    refine results_row_tmp (b := w.heap.size + 1) (cs := [.int .i16 (p), .int .i16 (q / 2), .int .i16 (r * 2)]) Tryd.results49 rfl ?_ Tryd.underlying25 rfl (by kernel_rfl)
    repeat (with_reducible first | apply range_drew | apply range_drewN)
    try with_reducible refine range3 ?_
    repeat (with_reducible first | apply there_set' | apply there_drew | apply there_drewN | exact there_new _ _ [.int .i16 0, .int .i16 0, .int .i16 0] _ rfl | exact range_new3 _ _ _ _ _ _)
  case h2 =>
    repeat (with_reducible first | exact Below.refl _ _ | assumption | apply Below.drew | apply below_drewN' | (refine Below.alloc ?_ (by first | (simp; done) | (simp; omega) | omega) _) | (refine Below.setCell ?_ (by first | (simp; done) | (simp; omega) | omega) _))
set_option maxRecDepth 100000 in
set_option maxHeartbeats 4000000 in
theorem smade2_state (p q r : Int) (hp : 1 ≤ p ∧ p ≤ 1296) (hq : 1 ≤ q ∧ q ≤ 1296) (hr : 1 ≤ r ∧ r ≤ 144) (w : World) (hd : ¬ p % 3 = 0) :
    Calls Tryd.prog 49 #[.agg #[.int .i16 p, .int .i16 q, .int .i16 r], .int .i64 2] w fun o w' => o = .returned (.tuple #[.agg #[.int .i16 (0), .int .i16 (0), .int .i16 (0)], .int .i64 4]) ∧ Below w.heap.size w w' := by
  have t1 : p.tmod 3 = p % 3 := Int.tmod_eq_emod_of_nonneg (by omega)
  have t2 : p.tdiv 3 = p / 3 := Int.tdiv_eq_ediv_of_nonneg (by omega)
  have t5 : IntKind.i16.wrap (p / 3) = p / 3 := IntWalk.i16_in _ (by omega)
  have t6 : IntKind.i16.wrap (r * 3) = r * 3 := IntWalk.i16_in _ (by omega)
  have t7 : IntKind.i16.wrap (p % 3) = p % 3 := IntWalk.i16_in _ (by omega)
  have hd2 : (p % 3 != 0) = true := by rw [bne_iff_ne]; exact hd
  clear hd t2 t5 t6
  go_enter Tryd.func49, Tryd.ntmps49
  go_wp2_with fail
  refine (l04Fold_b 2 true (by decide) _).mono ?_
  rintro o u ⟨rfl, rfl⟩
  go_wp2_with fail
  refine (l04By_any 2 3 (by decide) _).mono ?_
  rintro o u ⟨rfl, rfl⟩
  go_wp2_with fail
  refine bodyPost_ret (v := .tuple #[.agg #[.int .i16 (0), .int .i16 (0), .int .i16 (0)], .int .i64 4]) ?h1 rfl ⟨rfl, ?h2⟩
  case h1 =>
    refine results_row_tmp (b := w.heap.size + 1) (cs := [.int .i16 (0), .int .i16 (0), .int .i16 (0)]) Tryd.results49 rfl ?_ Tryd.underlying25 rfl (by kernel_rfl)
    repeat (with_reducible first | apply range_drew | apply range_drewN)
    try with_reducible refine range3 ?_
    repeat (with_reducible first | apply there_set' | apply there_drew | apply there_drewN | exact there_new _ _ [.int .i16 0, .int .i16 0, .int .i16 0] _ rfl | exact range_new3 _ _ _ _ _ _)
  case h2 =>
    repeat (with_reducible first | exact Below.refl _ _ | assumption | apply Below.drew | apply below_drewN' | (refine Below.alloc ?_ (by first | (simp; done) | (simp; omega) | omega) _) | (refine Below.setCell ?_ (by first | (simp; done) | (simp; omega) | omega) _))
set_option maxRecDepth 100000 in
set_option maxHeartbeats 4000000 in
theorem smade2_limit (p q r : Int) (hp : 1 ≤ p ∧ p ≤ 1296) (hq : 1 ≤ q ∧ q ≤ 1296) (hr : 1 ≤ r ∧ r ≤ 144) (w : World) (hd : p % 3 = 0) (hl : 144 < r * 3) :
    Calls Tryd.prog 49 #[.agg #[.int .i16 p, .int .i16 q, .int .i16 r], .int .i64 2] w fun o w' => o = .returned (.tuple #[.agg #[.int .i16 (0), .int .i16 (0), .int .i16 (0)], .int .i64 3]) ∧ Below w.heap.size w w' := by
  have t1 : p.tmod 3 = p % 3 := Int.tmod_eq_emod_of_nonneg (by omega)
  have t2 : p.tdiv 3 = p / 3 := Int.tdiv_eq_ediv_of_nonneg (by omega)
  have t5 : IntKind.i16.wrap (p / 3) = p / 3 := IntWalk.i16_in _ (by omega)
  have t6 : IntKind.i16.wrap (r * 3) = r * 3 := IntWalk.i16_in _ (by omega)
  have t7 : IntKind.i16.wrap (p % 3) = p % 3 := IntWalk.i16_in _ (by omega)
  go_enter Tryd.func49, Tryd.ntmps49
  go_wp2_with fail
  refine (l04Fold_b 2 true (by decide) _).mono ?_
  rintro o u ⟨rfl, rfl⟩
  go_wp2_with fail
  refine (l04By_any 2 3 (by decide) _).mono ?_
  rintro o u ⟨rfl, rfl⟩
  go_wp2_with fail
  refine bodyPost_ret (v := .tuple #[.agg #[.int .i16 (0), .int .i16 (0), .int .i16 (0)], .int .i64 3]) ?h1 rfl ⟨rfl, ?h2⟩
  case h1 =>
    refine results_row_tmp (b := w.heap.size + 1) (cs := [.int .i16 (0), .int .i16 (0), .int .i16 (0)]) Tryd.results49 rfl ?_ Tryd.underlying25 rfl (by kernel_rfl)
    repeat (with_reducible first | apply range_drew | apply range_drewN)
    try with_reducible refine range3 ?_
    repeat (with_reducible first | apply there_set' | apply there_drew | apply there_drewN | exact there_new _ _ [.int .i16 0, .int .i16 0, .int .i16 0] _ rfl | exact range_new3 _ _ _ _ _ _)
  case h2 =>
    repeat (with_reducible first | exact Below.refl _ _ | assumption | apply Below.drew | apply below_drewN' | (refine Below.alloc ?_ (by first | (simp; done) | (simp; omega) | omega) _) | (refine Below.setCell ?_ (by first | (simp; done) | (simp; omega) | omega) _))
set_option maxRecDepth 100000 in
set_option maxHeartbeats 4000000 in
theorem smade2_ok (p q r : Int) (hp : 1 ≤ p ∧ p ≤ 1296) (hq : 1 ≤ q ∧ q ≤ 1296) (hr : 1 ≤ r ∧ r ≤ 144) (w : World) (hd : p % 3 = 0) (hl : r * 3 ≤ 144) :
    Calls Tryd.prog 49 #[.agg #[.int .i16 p, .int .i16 q, .int .i16 r], .int .i64 2] w fun o w' => o = .returned (.tuple #[.agg #[.int .i16 (p / 3), .int .i16 (q), .int .i16 (r * 3)], .int .i64 0]) ∧ Below w.heap.size w w' := by
  have t1 : p.tmod 3 = p % 3 := Int.tmod_eq_emod_of_nonneg (by omega)
  have t2 : p.tdiv 3 = p / 3 := Int.tdiv_eq_ediv_of_nonneg (by omega)
  have t5 : IntKind.i16.wrap (p / 3) = p / 3 := IntWalk.i16_in _ (by omega)
  have t6 : IntKind.i16.wrap (r * 3) = r * 3 := IntWalk.i16_in _ (by omega)
  have t7 : IntKind.i16.wrap (p % 3) = p % 3 := IntWalk.i16_in _ (by omega)
  go_enter Tryd.func49, Tryd.ntmps49
  go_wp2_with fail
  refine (l04Fold_b 2 true (by decide) _).mono ?_
  rintro o u ⟨rfl, rfl⟩
  go_wp2_with fail
  refine (l04By_any 2 3 (by decide) _).mono ?_
  rintro o u ⟨rfl, rfl⟩
  go_wp2_with fail
  refine bodyPost_ret (v := .tuple #[.agg #[.int .i16 (p / 3), .int .i16 (q), .int .i16 (r * 3)], .int .i64 0]) ?h1 rfl ⟨rfl, ?h2⟩
  case h1 =>
    refine results_row_tmp (b := w.heap.size + 1) (cs := [.int .i16 (p / 3), .int .i16 (q), .int .i16 (r * 3)]) Tryd.results49 rfl ?_ Tryd.underlying25 rfl (by kernel_rfl)
    repeat (with_reducible first | apply range_drew | apply range_drewN)
    try with_reducible refine range3 ?_
    repeat (with_reducible first | apply there_set' | apply there_drew | apply there_drewN | exact there_new _ _ [.int .i16 0, .int .i16 0, .int .i16 0] _ rfl | exact range_new3 _ _ _ _ _ _)
  case h2 =>
    repeat (with_reducible first | exact Below.refl _ _ | assumption | apply Below.drew | apply below_drewN' | (refine Below.alloc ?_ (by first | (simp; done) | (simp; omega) | omega) _) | (refine Below.setCell ?_ (by first | (simp; done) | (simp; omega) | omega) _))
set_option maxRecDepth 100000 in
set_option maxHeartbeats 4000000 in
theorem smade3_state (p q r : Int) (hp : 1 ≤ p ∧ p ≤ 1296) (hq : 1 ≤ q ∧ q ≤ 1296) (hr : 1 ≤ r ∧ r ≤ 144) (w : World) (hd : ¬ q % 3 = 0) :
    Calls Tryd.prog 49 #[.agg #[.int .i16 p, .int .i16 q, .int .i16 r], .int .i64 3] w fun o w' => o = .returned (.tuple #[.agg #[.int .i16 (0), .int .i16 (0), .int .i16 (0)], .int .i64 4]) ∧ Below w.heap.size w w' := by
  have t1 : q.tmod 3 = q % 3 := Int.tmod_eq_emod_of_nonneg (by omega)
  have t2 : q.tdiv 3 = q / 3 := Int.tdiv_eq_ediv_of_nonneg (by omega)
  have t5 : IntKind.i16.wrap (q / 3) = q / 3 := IntWalk.i16_in _ (by omega)
  have t6 : IntKind.i16.wrap (r * 3) = r * 3 := IntWalk.i16_in _ (by omega)
  have t7 : IntKind.i16.wrap (q % 3) = q % 3 := IntWalk.i16_in _ (by omega)
  have hd2 : (q % 3 != 0) = true := by rw [bne_iff_ne]; exact hd
  clear hd t2 t5 t6
  go_enter Tryd.func49, Tryd.ntmps49
  go_wp2_with fail
  refine (l04Fold_b 3 true (by decide) _).mono ?_
  rintro o u ⟨rfl, rfl⟩
  go_wp2_with fail
  refine (l04By_any 3 3 (by decide) _).mono ?_
  rintro o u ⟨rfl, rfl⟩
  go_wp2_with fail
  refine bodyPost_ret (v := .tuple #[.agg #[.int .i16 (0), .int .i16 (0), .int .i16 (0)], .int .i64 4]) ?h1 rfl ⟨rfl, ?h2⟩
  case h1 =>
    refine results_row_tmp (b := w.heap.size + 1) (cs := [.int .i16 (0), .int .i16 (0), .int .i16 (0)]) Tryd.results49 rfl ?_ Tryd.underlying25 rfl (by kernel_rfl)
    repeat (with_reducible first | apply range_drew | apply range_drewN)
    try with_reducible refine range3 ?_
    repeat (with_reducible first | apply there_set' | apply there_drew | apply there_drewN | exact there_new _ _ [.int .i16 0, .int .i16 0, .int .i16 0] _ rfl | exact range_new3 _ _ _ _ _ _)
  case h2 =>
    repeat (with_reducible first | exact Below.refl _ _ | assumption | apply Below.drew | apply below_drewN' | (refine Below.alloc ?_ (by first | (simp; done) | (simp; omega) | omega) _) | (refine Below.setCell ?_ (by first | (simp; done) | (simp; omega) | omega) _))
set_option maxRecDepth 100000 in
set_option maxHeartbeats 4000000 in
theorem smade3_limit (p q r : Int) (hp : 1 ≤ p ∧ p ≤ 1296) (hq : 1 ≤ q ∧ q ≤ 1296) (hr : 1 ≤ r ∧ r ≤ 144) (w : World) (hd : q % 3 = 0) (hl : 144 < r * 3) :
    Calls Tryd.prog 49 #[.agg #[.int .i16 p, .int .i16 q, .int .i16 r], .int .i64 3] w fun o w' => o = .returned (.tuple #[.agg #[.int .i16 (0), .int .i16 (0), .int .i16 (0)], .int .i64 3]) ∧ Below w.heap.size w w' := by
  have t1 : q.tmod 3 = q % 3 := Int.tmod_eq_emod_of_nonneg (by omega)
  have t2 : q.tdiv 3 = q / 3 := Int.tdiv_eq_ediv_of_nonneg (by omega)
  have t5 : IntKind.i16.wrap (q / 3) = q / 3 := IntWalk.i16_in _ (by omega)
  have t6 : IntKind.i16.wrap (r * 3) = r * 3 := IntWalk.i16_in _ (by omega)
  have t7 : IntKind.i16.wrap (q % 3) = q % 3 := IntWalk.i16_in _ (by omega)
  go_enter Tryd.func49, Tryd.ntmps49
  go_wp2_with fail
  refine (l04Fold_b 3 true (by decide) _).mono ?_
  rintro o u ⟨rfl, rfl⟩
  go_wp2_with fail
  refine (l04By_any 3 3 (by decide) _).mono ?_
  rintro o u ⟨rfl, rfl⟩
  go_wp2_with fail
  refine bodyPost_ret (v := .tuple #[.agg #[.int .i16 (0), .int .i16 (0), .int .i16 (0)], .int .i64 3]) ?h1 rfl ⟨rfl, ?h2⟩
  case h1 =>
    refine results_row_tmp (b := w.heap.size + 1) (cs := [.int .i16 (0), .int .i16 (0), .int .i16 (0)]) Tryd.results49 rfl ?_ Tryd.underlying25 rfl (by kernel_rfl)
    repeat (with_reducible first | apply range_drew | apply range_drewN)
    try with_reducible refine range3 ?_
    repeat (with_reducible first | apply there_set' | apply there_drew | apply there_drewN | exact there_new _ _ [.int .i16 0, .int .i16 0, .int .i16 0] _ rfl | exact range_new3 _ _ _ _ _ _)
  case h2 =>
    repeat (with_reducible first | exact Below.refl _ _ | assumption | apply Below.drew | apply below_drewN' | (refine Below.alloc ?_ (by first | (simp; done) | (simp; omega) | omega) _) | (refine Below.setCell ?_ (by first | (simp; done) | (simp; omega) | omega) _))
set_option maxRecDepth 100000 in
set_option maxHeartbeats 4000000 in
theorem smade3_ok (p q r : Int) (hp : 1 ≤ p ∧ p ≤ 1296) (hq : 1 ≤ q ∧ q ≤ 1296) (hr : 1 ≤ r ∧ r ≤ 144) (w : World) (hd : q % 3 = 0) (hl : r * 3 ≤ 144) :
    Calls Tryd.prog 49 #[.agg #[.int .i16 p, .int .i16 q, .int .i16 r], .int .i64 3] w fun o w' => o = .returned (.tuple #[.agg #[.int .i16 (p), .int .i16 (q / 3), .int .i16 (r * 3)], .int .i64 0]) ∧ Below w.heap.size w w' := by
  have t1 : q.tmod 3 = q % 3 := Int.tmod_eq_emod_of_nonneg (by omega)
  have t2 : q.tdiv 3 = q / 3 := Int.tdiv_eq_ediv_of_nonneg (by omega)
  have t5 : IntKind.i16.wrap (q / 3) = q / 3 := IntWalk.i16_in _ (by omega)
  have t6 : IntKind.i16.wrap (r * 3) = r * 3 := IntWalk.i16_in _ (by omega)
  have t7 : IntKind.i16.wrap (q % 3) = q % 3 := IntWalk.i16_in _ (by omega)
  go_enter Tryd.func49, Tryd.ntmps49
  go_wp2_with fail
  refine (l04Fold_b 3 true (by decide) _).mono ?_
  rintro o u ⟨rfl, rfl⟩
  go_wp2_with fail
  refine (l04By_any 3 3 (by decide) _).mono ?_
  rintro o u ⟨rfl, rfl⟩
  go_wp2_with fail
  refine bodyPost_ret (v := .tuple #[.agg #[.int .i16 (p), .int .i16 (q / 3), .int .i16 (r * 3)], .int .i64 0]) ?h1 rfl ⟨rfl, ?h2⟩
  case h1 =>
    refine results_row_tmp (b := w.heap.size + 1) (cs := [.int .i16 (p), .int .i16 (q / 3), .int .i16 (r * 3)]) Tryd.results49 rfl ?_ Tryd.underlying25 rfl (by kernel_rfl)
    repeat (with_reducible first | apply range_drew | apply range_drewN)
    try with_reducible refine range3 ?_
    repeat (with_reducible first | apply there_set' | apply there_drew | apply there_drewN | exact there_new _ _ [.int .i16 0, .int .i16 0, .int .i16 0] _ rfl | exact range_new3 _ _ _ _ _ _)
  case h2 =>
    repeat (with_reducible first | exact Below.refl _ _ | assumption | apply Below.drew | apply below_drewN' | (refine Below.alloc ?_ (by first | (simp; done) | (simp; omega) | omega) _) | (refine Below.setCell ?_ (by first | (simp; done) | (simp; omega) | omega) _))
set_option maxRecDepth 100000 in
set_option maxHeartbeats 4000000 in
theorem smade_range (p q r : Int) (hp : 1 ≤ p ∧ p ≤ 1296) (hq : 1 ≤ q ∧ q ≤ 1296) (hr : 1 ≤ r ∧ r ≤ 144) (w : World) (k : Int) (hk : inB k 0 3 = false) :
    Calls Tryd.prog 49 #[.agg #[.int .i16 p, .int .i16 q, .int .i16 r], .int .i64 k] w fun o w' => o = .returned (.tuple #[.agg #[.int .i16 (0), .int .i16 (0), .int .i16 (0)], .int .i64 2]) ∧ Below w.heap.size w w' := by
  go_enter Tryd.func49, Tryd.ntmps49
  go_wp2_with fail
  refine (l04Fold_b k false hk _).mono ?_
  rintro o u ⟨rfl, rfl⟩
  go_wp2_with fail
  refine bodyPost_ret (v := .tuple #[.agg #[.int .i16 (0), .int .i16 (0), .int .i16 (0)], .int .i64 2]) ?h1 rfl ⟨rfl, ?h2⟩
  case h1 =>
    refine results_row_tmp (b := w.heap.size + 1) (cs := [.int .i16 (0), .int .i16 (0), .int .i16 (0)]) Tryd.results49 rfl ?_ Tryd.underlying25 rfl (by kernel_rfl)
    repeat (with_reducible first | apply range_drew | apply range_drewN)
    try with_reducible refine range3 ?_
    repeat (with_reducible first | apply there_set' | apply there_drew | apply there_drewN | exact there_new _ _ [.int .i16 0, .int .i16 0, .int .i16 0] _ rfl | exact range_new3 _ _ _ _ _ _)
  case h2 =>
    repeat (with_reducible first | exact Below.refl _ _ | assumption | apply Below.drew | apply below_drewN' | (refine Below.alloc ?_ (by first | (simp; done) | (simp; omega) | omega) _) | (refine Below.setCell ?_ (by first | (simp; done) | (simp; omega) | omega) _))
/-- .. whatever the fold -/
theorem l04Made_any (x : She) (hG : Good x) (k : Int) (w : World) :
    Calls Tryd.prog 49 #[x.v, .int .i64 k] w fun o w' => o = .returned (.tuple #[(chgR foldR x k).1.v, .int .i64 (chgR foldR x k).2]) ∧ Below w.heap.size w w' := by
  have hp : 1 ≤ x.wide ∧ x.wide ≤ 1296 := ⟨hG.w0, hG.w1⟩
  have hq : 1 ≤ x.high ∧ x.high ≤ 1296 := ⟨hG.h0, hG.h1⟩
  have hr : 1 ≤ x.lay ∧ x.lay ≤ 144 := ⟨hG.l0, hG.l1⟩
  have hv := (valid_iff x).2 hG
  by_cases hk : 0 ≤ k ∧ k ≤ 3
  · obtain ⟨n, rfl⟩ : ∃ n : Nat, k = n := ⟨k.toNat, by omega⟩
    have hn : n ≤ 3 := by omega
    rw [chgR_ok hv hn]
    match n, hn with
    | 0, _ =>
      by_cases hd : x.wide % 2 = 0
      · by_cases hl : x.lay * 2 ≤ 144
        · have t := smade0_ok _ _ _ hp hq hr w hd hl
          simp only [foldR, if_pos hd, if_pos hl]
          exact t
        · have t := smade0_limit _ _ _ hp hq hr w hd (Int.not_le.1 hl)
          simp only [foldR, if_pos hd, if_neg hl]
          exact t
      · have t := smade0_state _ _ _ hp hq hr w hd
        simp only [foldR, if_neg hd]
        exact t
    | 1, _ =>
      by_cases hd : x.high % 2 = 0
      · by_cases hl : x.lay * 2 ≤ 144
        · have t := smade1_ok _ _ _ hp hq hr w hd hl
          simp only [foldR, if_pos hd, if_pos hl]
          exact t
        · have t := smade1_limit _ _ _ hp hq hr w hd (Int.not_le.1 hl)
          simp only [foldR, if_pos hd, if_neg hl]
          exact t
      · have t := smade1_state _ _ _ hp hq hr w hd
        simp only [foldR, if_neg hd]
        exact t
    | 2, _ =>
      by_cases hd : x.wide % 3 = 0
      · by_cases hl : x.lay * 3 ≤ 144
        · have t := smade2_ok _ _ _ hp hq hr w hd hl
          simp only [foldR, if_pos hd, if_pos hl]
          exact t
        · have t := smade2_limit _ _ _ hp hq hr w hd (Int.not_le.1 hl)
          simp only [foldR, if_pos hd, if_neg hl]
          exact t
      · have t := smade2_state _ _ _ hp hq hr w hd
        simp only [foldR, if_neg hd]
        exact t
    | 3, _ =>
      by_cases hd : x.high % 3 = 0
      · by_cases hl : x.lay * 3 ≤ 144
        · have t := smade3_ok _ _ _ hp hq hr w hd hl
          simp only [foldR, if_pos hd, if_pos hl]
          exact t
        · have t := smade3_limit _ _ _ hp hq hr w hd (Int.not_le.1 hl)
          simp only [foldR, if_pos hd, if_neg hl]
          exact t
      · have t := smade3_state _ _ _ hp hq hr w hd
        simp only [foldR, if_neg hd]
        exact t
  · have t := smade_range _ _ _ hp hq hr w k ((inB_no k 0 3).2 (by omega))
    rw [chgR_range hv hk]
    exact t
set_option maxRecDepth 100000 in
set_option maxHeartbeats 2000000 in
theorem FoldSheet_spec (x : She) (hx : x.Fits) (k : Int) (w : World) :
    Calls Tryd.prog 14 #[x.v, .int .i64 k] w fun o w' => o = .returned (.tuple #[(chgR foldR x k).1.v, .int .i64 (chgR foldR x k).2]) ∧ Below w.heap.size w w' := by
  have S0 := Lib.hid (CH.new x w 25 25)
  cases hv : She.valid x with
  | false =>
    rw [chgR_invalid hv]
    go_enter Tryd.func14, Tryd.ntmps14
    go_wp2_with fail
    refine (l04Ok_any x hx _).mono ?_
    rintro o w1 ⟨rfl, hb⟩
    rw [hv]
    have S9 := Lib.hid (S0.out.next hb)
    clear hb S0
    obtain ⟨s0, s1, s2, s3, s4, s5, f0, f1, f2, _, _⟩ := S9.out
    go_wp2_with fail
    refine bodyPost_ret (v := .tuple #[noS.v, .int .i64 1]) ?h1 rfl ⟨rfl, ?h2⟩
    case h1 => exact results_row_tmp (b := w.heap.size + 1) (cs := noS.cells) Tryd.results14 rfl (range3 S9.out.there) Tryd.underlying25 rfl (by kernel_rfl)
    case h2 => exact S9.out.set noS
  | true =>
    have hm := l04Made_any x ((valid_iff x).1 hv) k
    obtain ⟨r, hr⟩ : ∃ r, chgR foldR x k = r := ⟨_, rfl⟩
    rw [hr] at hm ⊢
    obtain ⟨⟨rp, rq, rl⟩, rc⟩ := r
    have HM := Lib.hid hm
    clear hm hr
    go_enter Tryd.func14, Tryd.ntmps14
    go_wp2_with fail
    refine (l04Ok_any x hx _).mono ?_
    rintro o w1 ⟨rfl, hb⟩
    rw [hv]
    have S1 := Lib.hid (S0.out.next hb)
    clear hb S0
    obtain ⟨s0, s1, s2, _, _, _, _, _, _, _, _⟩ := S1.out
    go_wp2_with fail
    refine (HM.out _).mono ?_
    rintro o w2 ⟨rfl, hb⟩
    have S9 := Lib.hid (S1.out.next hb)
    clear hb S1 s0 s1 s2
    obtain ⟨_, _, _, s3, s4, s5, f0, f1, f2, _, _⟩ := S9.out
    go_wp2_with fail
    refine bodyPost_ret (v := .tuple #[(⟨rp, rq, rl⟩ : She).v, .int .i64 rc]) ?h1 rfl ⟨rfl, ?h2⟩
    case h1 => exact results_row_tmp (b := w.heap.size + 1) (cs := (⟨rp, rq, rl⟩ : She).cells) Tryd.results14 rfl (range3 S9.out.there) Tryd.underlying25 rfl (by kernel_rfl)
    case h2 => exact S9.out.set ⟨rp, rq, rl⟩
end Go.Proofs.YtcbbabepjfiigaaDoor.fold

/-
  Folds, undone by the model.
-/
namespace Go.Proofs.YtcbbabepjfiigaaDoor.fold
open Go Go.RowKit sl errs

theorem CH.put0 {x : She} {W u : World} (h : CH x W u) (v : Int) : CH ⟨v, x.high, x.lay⟩ W (u.setCell ⟨W.heap.size, 0, none⟩ (.int .i16 v)) := by
  obtain ⟨h0, h1, h2, h3, h4, h5, f0, f1, f2, hl, hB⟩ := h
  have o : ∀ p : Addr, p ≠ ⟨W.heap.size, 0, none⟩ → (u.setCell ⟨W.heap.size, 0, none⟩ (.int .i16 v)).cell? p = u.cell? p := fun p hp => World.cell?_setCell_other _ _ _ _ (Ne.symm hp)
  exact ⟨World.cell?_setCell_same _ _ _ h0, (o _ (by simp)).trans h1, (o _ (by simp)).trans h2, (o _ (by simp)).trans h3, (o _ (by simp)).trans h4, (o _ (by simp)).trans h5,
    by rw [World.frozen?_setCell]; exact f0, by rw [World.frozen?_setCell]; exact f1, by rw [World.frozen?_setCell]; exact f2, by simpa [World.setCell] using hl, hB.setCell (p := ⟨W.heap.size, 0, none⟩) (Nat.le_refl _) _⟩
theorem CH.put1 {x : She} {W u : World} (h : CH x W u) (v : Int) : CH ⟨x.wide, v, x.lay⟩ W (u.setCell ⟨W.heap.size, 1, none⟩ (.int .i16 v)) := by
  obtain ⟨h0, h1, h2, h3, h4, h5, f0, f1, f2, hl, hB⟩ := h
  have o : ∀ p : Addr, p ≠ ⟨W.heap.size, 1, none⟩ → (u.setCell ⟨W.heap.size, 1, none⟩ (.int .i16 v)).cell? p = u.cell? p := fun p hp => World.cell?_setCell_other _ _ _ _ (Ne.symm hp)
  exact ⟨(o _ (by simp)).trans h0, World.cell?_setCell_same _ _ _ h1, (o _ (by simp)).trans h2, (o _ (by simp)).trans h3, (o _ (by simp)).trans h4, (o _ (by simp)).trans h5,
    by rw [World.frozen?_setCell]; exact f0, by rw [World.frozen?_setCell]; exact f1, by rw [World.frozen?_setCell]; exact f2, by simpa [World.setCell] using hl, hB.setCell (p := ⟨W.heap.size, 1, none⟩) (Nat.le_refl _) _⟩
theorem CH.put2 {x : She} {W u : World} (h : CH x W u) (v : Int) : CH ⟨x.wide, x.high, v⟩ W (u.setCell ⟨W.heap.size, 2, none⟩ (.int .i16 v)) := by
  obtain ⟨h0, h1, h2, h3, h4, h5, f0, f1, f2, hl, hB⟩ := h
  have o : ∀ p : Addr, p ≠ ⟨W.heap.size, 2, none⟩ → (u.setCell ⟨W.heap.size, 2, none⟩ (.int .i16 v)).cell? p = u.cell? p := fun p hp => World.cell?_setCell_other _ _ _ _ (Ne.symm hp)
  exact ⟨(o _ (by simp)).trans h0, (o _ (by simp)).trans h1, World.cell?_setCell_same _ _ _ h2, (o _ (by simp)).trans h3, (o _ (by simp)).trans h4, (o _ (by simp)).trans h5,
    by rw [World.frozen?_setCell]; exact f0, by rw [World.frozen?_setCell]; exact f1, by rw [World.frozen?_setCell]; exact f2, by simpa [World.setCell] using hl, hB.setCell (p := ⟨W.heap.size, 2, none⟩) (Nat.le_refl _) _⟩
theorem box_frozen (w : World) (vs : Array Value) (T : TypeId) (o : Obj) (i : Nat) : ((w.alloc (.cells vs T)).alloc o).frozen? ⟨w.heap.size, i, none⟩ = false := by
  have hh : ((w.alloc (.cells vs T)).alloc o).heap[w.heap.size]? = some (.cells vs T (0, 0)) := by
    rw [heap_alloc_old _ _ (by simp)]
    exact heap_alloc_new _ _
  exact frozen_of_row _ _ i _ _ hh
set_option maxRecDepth 100000 in
set_option maxHeartbeats 4000000 in
theorem sundo0_state (x : She) (hG : Good x) (w : World) (hd : ¬ x.lay % 2 = 0) :
    Calls Tryd.prog 28 #[x.v, .int .i64 0] w fun o w' => o = .returned (.tuple #[noS.v, .int .i64 4]) ∧ Below w.heap.size w w' := by
  have S0 := Lib.hid (CH.new x w 25 25)
  have hv := (valid_iff x).2 hG
  have hx := hG.fits
  have HG := Lib.hid hG
  obtain ⟨g0, g1, g2, g3, g4, g5⟩ := hG
  have t1 : x.lay.tmod 2 = x.lay % 2 := Int.tmod_eq_emod_of_nonneg (by omega)
  have t2 : x.lay.tdiv 2 = x.lay / 2 := Int.tdiv_eq_ediv_of_nonneg (by omega)
  have t5 : IntKind.i16.wrap (x.wide * 2) = x.wide * 2 := IntWalk.i16_in _ (by omega)
  have t6 : IntKind.i16.wrap (x.lay / 2) = x.lay / 2 := IntWalk.i16_in _ (by omega)
  have t7 : IntKind.i16.wrap (x.lay % 2) = x.lay % 2 := IntWalk.i16_in _ (by omega)
  have hd2 : (x.lay % 2 != 0) = true := by rw [bne_iff_ne]; exact hd
  clear hd t2 t5 t6
  go_enter Tryd.func28, Tryd.ntmps28
  go_wp2_with fail
  refine (l04Ok_any x hx _).mono ?_
  rintro o w1 ⟨rfl, hb⟩
  rw [hv]
  have S1 := Lib.hid (S0.out.next hb)
  have b0 := (hb.frozen (p := ⟨w.heap.size, 0, none⟩) (by simp; omega)).trans (box_frozen w _ _ _ 0)
  have b1 := (hb.frozen (p := ⟨w.heap.size, 1, none⟩) (by simp; omega)).trans (box_frozen w _ _ _ 1)
  have b2 := (hb.frozen (p := ⟨w.heap.size, 2, none⟩) (by simp; omega)).trans (box_frozen w _ _ _ 2)
  clear hb S0
  obtain ⟨s0, s1, s2, s3, s4, s5, f0, f1, f2, _, _⟩ := S1.out
  go_wp2_with fail
  refine (l04Fold_b 0 true (by decide) _).mono ?_
  rintro o u ⟨rfl, rfl⟩
  go_wp2_with fail
  refine (l04By_any 0 2 (by decide) _).mono ?_
  rintro o u ⟨rfl, rfl⟩
  go_wp2_with fail
  refine bodyPost_ret (v := .tuple #[noS.v, .int .i64 4]) ?h1 rfl ⟨rfl, ?h2⟩
  case h1 => exact results_row_tmp (b := w.heap.size + 1) (cs := noS.cells) Tryd.results28 rfl (range3 S1.out.there) Tryd.underlying25 rfl (by kernel_rfl)
  case h2 => exact S1.out.set noS
set_option maxRecDepth 100000 in
set_option maxHeartbeats 4000000 in
theorem sundo0_limit (x : She) (hG : Good x) (w : World) (hd : x.lay % 2 = 0) (hl : 1296 < x.wide * 2) :
    Calls Tryd.prog 28 #[x.v, .int .i64 0] w fun o w' => o = .returned (.tuple #[noS.v, .int .i64 3]) ∧ Below w.heap.size w w' := by
  have S0 := Lib.hid (CH.new x w 25 25)
  have hv := (valid_iff x).2 hG
  have hx := hG.fits
  have HG := Lib.hid hG
  obtain ⟨g0, g1, g2, g3, g4, g5⟩ := hG
  have t1 : x.lay.tmod 2 = x.lay % 2 := Int.tmod_eq_emod_of_nonneg (by omega)
  have t2 : x.lay.tdiv 2 = x.lay / 2 := Int.tdiv_eq_ediv_of_nonneg (by omega)
  have t5 : IntKind.i16.wrap (x.wide * 2) = x.wide * 2 := IntWalk.i16_in _ (by omega)
  have t6 : IntKind.i16.wrap (x.lay / 2) = x.lay / 2 := IntWalk.i16_in _ (by omega)
  have t7 : IntKind.i16.wrap (x.lay % 2) = x.lay % 2 := IntWalk.i16_in _ (by omega)
  have hn : She.Fits (⟨x.wide * 2, x.high, x.lay / 2⟩ : She) := ⟨by simp only; omega, by simp only; omega, by simp only; omega, by simp only; omega, by simp only; omega, by simp only; omega⟩
  have hv2 : She.valid (⟨x.wide * 2, x.high, x.lay / 2⟩ : She) = false := by
    rw [← Bool.not_eq_true, valid_iff]
    rintro ⟨_, q1, _, q3, _, _⟩
    simp only at q1 q3
    omega
  go_enter Tryd.func28, Tryd.ntmps28
  go_wp2_with fail
  refine (l04Ok_any x hx _).mono ?_
  rintro o w1 ⟨rfl, hb⟩
  rw [hv]
  have S1 := Lib.hid (S0.out.next hb)
  have b0 := (hb.frozen (p := ⟨w.heap.size, 0, none⟩) (by simp; omega)).trans (box_frozen w _ _ _ 0)
  have b1 := (hb.frozen (p := ⟨w.heap.size, 1, none⟩) (by simp; omega)).trans (box_frozen w _ _ _ 1)
  have b2 := (hb.frozen (p := ⟨w.heap.size, 2, none⟩) (by simp; omega)).trans (box_frozen w _ _ _ 2)
  clear hb S0
  obtain ⟨s0, s1, s2, s3, s4, s5, f0, f1, f2, _, _⟩ := S1.out
  go_wp2_with fail
  refine (l04Fold_b 0 true (by decide) _).mono ?_
  rintro o u ⟨rfl, rfl⟩
  go_wp2_with fail
  refine (l04By_any 0 2 (by decide) _).mono ?_
  rintro o u ⟨rfl, rfl⟩
  go_wp2_with fail
  refine (l04Ok_any (⟨x.wide * 2, x.high, x.lay / 2⟩ : She) hn _).mono ?_
  rintro o w2 ⟨rfl, hb⟩
  rw [hv2]
  have S9 := Lib.hid (CH.next ((S1.out.put0 (x.wide * 2)).put2 (x.lay / 2)) hb)
  clear hb S1 s0 s1 s2 s3 s4 s5 f0 f1 f2 b0 b1 b2
  obtain ⟨s0, s1, s2, s3, s4, s5, f0, f1, f2, _, _⟩ := S9.out
  go_wp2_with fail
  refine bodyPost_ret (v := .tuple #[noS.v, .int .i64 3]) ?h1 rfl ⟨rfl, ?h2⟩
  case h1 => exact results_row_tmp (b := w.heap.size + 1) (cs := noS.cells) Tryd.results28 rfl (range3 S9.out.there) Tryd.underlying25 rfl (by kernel_rfl)
  case h2 => exact S9.out.set noS
set_option maxRecDepth 100000 in
set_option maxHeartbeats 4000000 in
theorem sundo0_ok (x : She) (hG : Good x) (w : World) (hd : x.lay % 2 = 0) (hl : x.wide * 2 ≤ 1296) :
    Calls Tryd.prog 28 #[x.v, .int .i64 0] w fun o w' => o = .returned (.tuple #[(⟨x.wide * 2, x.high, x.lay / 2⟩ : She).v, .int .i64 0]) ∧ Below w.heap.size w w' := by
  have S0 := Lib.hid (CH.new x w 25 25)
  have hv := (valid_iff x).2 hG
  have hx := hG.fits
  have HG := Lib.hid hG
  obtain ⟨g0, g1, g2, g3, g4, g5⟩ := hG
  have t1 : x.lay.tmod 2 = x.lay % 2 := Int.tmod_eq_emod_of_nonneg (by omega)
  have t2 : x.lay.tdiv 2 = x.lay / 2 := Int.tdiv_eq_ediv_of_nonneg (by omega)
  have t5 : IntKind.i16.wrap (x.wide * 2) = x.wide * 2 := IntWalk.i16_in _ (by omega)
  have t6 : IntKind.i16.wrap (x.lay / 2) = x.lay / 2 := IntWalk.i16_in _ (by omega)
  have t7 : IntKind.i16.wrap (x.lay % 2) = x.lay % 2 := IntWalk.i16_in _ (by omega)
  have hn : She.Fits (⟨x.wide * 2, x.high, x.lay / 2⟩ : She) := ⟨by simp only; omega, by simp only; omega, by simp only; omega, by simp only; omega, by simp only; omega, by simp only; omega⟩
  have hv2 : She.valid (⟨x.wide * 2, x.high, x.lay / 2⟩ : She) = true := (valid_iff _).2 ⟨by simp only; omega, by simp only; omega, by simp only; omega, by simp only; omega, by simp only; omega, by simp only; omega⟩
  go_enter Tryd.func28, Tryd.ntmps28
  go_wp2_with fail
  refine (l04Ok_any x hx _).mono ?_
  rintro o w1 ⟨rfl, hb⟩
  rw [hv]
  have S1 := Lib.hid (S0.out.next hb)
  have b0 := (hb.frozen (p := ⟨w.heap.size, 0, none⟩) (by simp; omega)).trans (box_frozen w _ _ _ 0)
  have b1 := (hb.frozen (p := ⟨w.heap.size, 1, none⟩) (by simp; omega)).trans (box_frozen w _ _ _ 1)
  have b2 := (hb.frozen (p := ⟨w.heap.size, 2, none⟩) (by simp; omega)).trans (box_frozen w _ _ _ 2)
  clear hb S0
  obtain ⟨s0, s1, s2, s3, s4, s5, f0, f1, f2, _, _⟩ := S1.out
  go_wp2_with fail
  refine (l04Fold_b 0 true (by decide) _).mono ?_
  rintro o u ⟨rfl, rfl⟩
  go_wp2_with fail
  refine (l04By_any 0 2 (by decide) _).mono ?_
  rintro o u ⟨rfl, rfl⟩
  go_wp2_with fail
  refine (l04Ok_any (⟨x.wide * 2, x.high, x.lay / 2⟩ : She) hn _).mono ?_
  rintro o w2 ⟨rfl, hb⟩
  rw [hv2]
  have S9 := Lib.hid (CH.next ((S1.out.put0 (x.wide * 2)).put2 (x.lay / 2)) hb)
  clear hb S1 s0 s1 s2 s3 s4 s5 f0 f1 f2 b0 b1 b2
  obtain ⟨s0, s1, s2, s3, s4, s5, f0, f1, f2, _, _⟩ := S9.out
  go_wp2_with fail
  refine bodyPost_ret (v := .tuple #[(⟨x.wide * 2, x.high, x.lay / 2⟩ : She).v, .int .i64 0]) ?h1 rfl ⟨rfl, ?h2⟩
  case h1 => exact results_row_tmp (b := w.heap.size + 1) (cs := (⟨x.wide * 2, x.high, x.lay / 2⟩ : She).cells) Tryd.results28 rfl (range3 S9.out.there) Tryd.underlying25 rfl (by kernel_rfl)
  case h2 => exact S9.out.set (⟨x.wide * 2, x.high, x.lay / 2⟩ : She)
set_option maxRecDepth 100000 in
set_option maxHeartbeats 4000000 in
theorem sundo1_state (x : She) (hG : Good x) (w : World) (hd : ¬ x.lay % 2 = 0) :
    Calls Tryd.prog 28 #[x.v, .int .i64 1] w fun o w' => o = .returned (.tuple #[noS.v, .int .i64 4]) ∧ Below w.heap.size w w' := by
  have S0 := Lib.hid (CH.new x w 25 25)
  have hv := (valid_iff x).2 hG
  have hx := hG.fits
  have HG := Lib.hid hG
  obtain ⟨g0, g1, g2, g3, g4, g5⟩ := hG
  have t1 : x.lay.tmod 2 = x.lay % 2 := Int.tmod_eq_emod_of_nonneg (by omega)
  have t2 : x.lay.tdiv 2 = x.lay / 2 := Int.tdiv_eq_ediv_of_nonneg (by omega)
  have t5 : IntKind.i16.wrap (x.high * 2) = x.high * 2 := IntWalk.i16_in _ (by omega)
  have t6 : IntKind.i16.wrap (x.lay / 2) = x.lay / 2 := IntWalk.i16_in _ (by omega)
  have t7 : IntKind.i16.wrap (x.lay % 2) = x.lay % 2 := IntWalk.i16_in _ (by omega)
  have hd2 : (x.lay % 2 != 0) = true := by rw [bne_iff_ne]; exact hd
  clear hd t2 t5 t6
  go_enter Tryd.func28, Tryd.ntmps28
  go_wp2_with fail
  refine (l04Ok_any x hx _).mono ?_
  rintro o w1 ⟨rfl, hb⟩
  rw [hv]
  have S1 := Lib.hid (S0.out.next hb)
  have b0 := (hb.frozen (p := ⟨w.heap.size, 0, none⟩) (by simp; omega)).trans (box_frozen w _ _ _ 0)
  have b1 := (hb.frozen (p := ⟨w.heap.size, 1, none⟩) (by simp; omega)).trans (box_frozen w _ _ _ 1)
  have b2 := (hb.frozen (p := ⟨w.heap.size, 2, none⟩) (by simp; omega)).trans (box_frozen w _ _ _ 2)
  clear hb S0
  obtain ⟨s0, s1, s2, s3, s4, s5, f0, f1, f2, _, _⟩ := S1.out
  go_wp2_with fail
  refine (l04Fold_b 1 true (by decide) _).mono ?_
  rintro o u ⟨rfl, rfl⟩
  go_wp2_with fail
  refine (l04By_any 1 2 (by decide) _).mono ?_
  rintro o u ⟨rfl, rfl⟩
  go_wp2_with fail
  refine bodyPost_ret (v := .tuple #[noS.v, .int .i64 4]) ?h1 rfl ⟨rfl, ?h2⟩
  case h1 => exact results_row_tmp (b := w.heap.size + 1) (cs := noS.cells) Tryd.results28 rfl (range3 S1.out.there) Tryd.underlying25 rfl (by kernel_rfl)
  case h2 => exact S1.out.set noS
set_option maxRecDepth 100000 in
set_option maxHeartbeats 4000000 in
theorem sundo1_limit (x : She) (hG : Good x) (w : World) (hd : x.lay % 2 = 0) (hl : 1296 < x.high * 2) :
    Calls Tryd.prog 28 #[x.v, .int .i64 1] w fun o w' => o = .returned (.tuple #[noS.v, .int .i64 3]) ∧ Below w.heap.size w w' := by
  have S0 := Lib.hid (CH.new x w 25 25)
  have hv := (valid_iff x).2 hG
  have hx := hG.fits
  have HG := Lib.hid hG
  obtain ⟨g0, g1, g2, g3, g4, g5⟩ := hG
  have t1 : x.lay.tmod 2 = x.lay % 2 := Int.tmod_eq_emod_of_nonneg (by omega)
  have t2 : x.lay.tdiv 2 = x.lay / 2 := Int.tdiv_eq_ediv_of_nonneg (by omega)
  have t5 : IntKind.i16.wrap (x.high * 2) = x.high * 2 := IntWalk.i16_in _ (by omega)
  have t6 : IntKind.i16.wrap (x.lay / 2) = x.lay / 2 := IntWalk.i16_in _ (by omega)
  have t7 : IntKind.i16.wrap (x.lay % 2) = x.lay % 2 := IntWalk.i16_in _ (by omega)
  have hn : She.Fits (⟨x.wide, x.high * 2, x.lay / 2⟩ : She) := ⟨by simp only; omega, by simp only; omega, by simp only; omega, by simp only; omega, by simp only; omega, by simp only; omega⟩
  have hv2 : She.valid (⟨x.wide, x.high * 2, x.lay / 2⟩ : She) = false := by
    rw [← Bool.not_eq_true, valid_iff]
    rintro ⟨_, q1, _, q3, _, _⟩
    simp only at q1 q3
    omega
  go_enter Tryd.func28, Tryd.ntmps28
  go_wp2_with fail
  refine (l04Ok_any x hx _).mono ?_
  rintro o w1 ⟨rfl, hb⟩
  rw [hv]
  have S1 := Lib.hid (S0.out.next hb)
  have b0 := (hb.frozen (p := ⟨w.heap.size, 0, none⟩) (by simp; omega)).trans (box_frozen w _ _ _ 0)
  have b1 := (hb.frozen (p := ⟨w.heap.size, 1, none⟩) (by simp; omega)).trans (box_frozen w _ _ _ 1)
  have b2 := (hb.frozen (p := ⟨w.heap.size, 2, none⟩) (by simp; omega)).trans (box_frozen w _ _ _ 2)
  clear hb S0
  obtain ⟨s0, s1, s2, s3, s4, s5, f0, f1, f2, _, _⟩ := S1.out
  go_wp2_with fail
  refine (l04Fold_b 1 true (by decide) _).mono ?_
  rintro o u ⟨rfl, rfl⟩
  go_wp2_with fail
  refine (l04By_any 1 2 (by decide) _).mono ?_
  rintro o u ⟨rfl, rfl⟩
  go_wp2_with fail
  refine (l04Ok_any (⟨x.wide, x.high * 2, x.lay / 2⟩ : She) hn _).mono ?_
  rintro o w2 ⟨rfl, hb⟩
  rw [hv2]
  have S9 := Lib.hid (CH.next ((S1.out.put1 (x.high * 2)).put2 (x.lay / 2)) hb)
  clear hb S1 s0 s1 s2 s3 s4 s5 f0 f1 f2 b0 b1 b2
  obtain ⟨s0, s1, s2, s3, s4, s5, f0, f1, f2, _, _⟩ := S9.out
  go_wp2_with fail
  refine bodyPost_ret (v := .tuple #[noS.v, .int .i64 3]) ?h1 rfl ⟨rfl, ?h2⟩
  case h1 => exact results_row_tmp (b := w.heap.size + 1) (cs := noS.cells) Tryd.results28 rfl (range3 S9.out.there) Tryd.underlying25 rfl (by kernel_rfl)
  case h2 => exact S9.out.set noS
set_option maxRecDepth 100000 in
set_option maxHeartbeats 4000000 in
theorem sundo1_ok (x : She) (hG : Good x) (w : World) (hd : x.lay % 2 = 0) (hl : x.high * 2 ≤ 1296) :
    Calls Tryd.prog 28 #[x.v, .int .i64 1] w fun o w' => o = .returned (.tuple #[(⟨x.wide, x.high * 2, x.lay / 2⟩ : She).v, .int .i64 0]) ∧ Below w.heap.size w w' := by
  have S0 := Lib.hid (CH.new x w 25 25)
  have hv := (valid_iff x).2 hG
  have hx := hG.fits
  have HG := Lib.hid hG
  obtain ⟨g0, g1, g2, g3, g4, g5⟩ := hG
  have t1 : x.lay.tmod 2 = x.lay % 2 := Int.tmod_eq_emod_of_nonneg (by omega)
  have t2 : x.lay.tdiv 2 = x.lay / 2 := Int.tdiv_eq_ediv_of_nonneg (by omega)
  have t5 : IntKind.i16.wrap (x.high * 2) = x.high * 2 := IntWalk.i16_in _ (by omega)
  have t6 : IntKind.i16.wrap (x.lay / 2) = x.lay / 2 := IntWalk.i16_in _ (by omega)
  have t7 : IntKind.i16.wrap (x.lay % 2) = x.lay % 2 := IntWalk.i16_in _ (by omega)
  have hn : She.Fits (⟨x.wide, x.high * 2, x.lay / 2⟩ : She) := ⟨by simp only; omega, by simp only; omega, by simp only; omega, by simp only; omega, by simp only; omega, by simp only; omega⟩
  have hv2 : She.valid (⟨x.wide, x.high * 2, x.lay / 2⟩ : She) = true := (valid_iff _).2 ⟨by simp only; omega, by simp only; omega, by simp only; omega, by simp only; omega, by simp only; omega, by simp only; omega⟩
  go_enter Tryd.func28, Tryd.ntmps28
  go_wp2_with fail
  refine (l04Ok_any x hx _).mono ?_
  rintro o w1 ⟨rfl, hb⟩
  rw [hv]
  have S1 := Lib.hid (S0.out.next hb)
  have b0 := (hb.frozen (p := ⟨w.heap.size, 0, none⟩) (by simp; omega)).trans (box_frozen w _ _ _ 0)
  have b1 := (hb.frozen (p := ⟨w.heap.size, 1, none⟩) (by simp; omega)).trans (box_frozen w _ _ _ 1)
  have b2 := (hb.frozen (p := ⟨w.heap.size, 2, none⟩) (by simp; omega)).trans (box_frozen w _ _ _ 2)
  clear hb S0
  obtain ⟨s0, s1, s2, s3, s4, s5, f0, f1, f2, _, _⟩ := S1.out
  go_wp2_with fail
  refine (l04Fold_b 1 true (by decide) _).mono ?_
  rintro o u ⟨rfl, rfl⟩
  go_wp2_with fail
  refine (l04By_any 1 2 (by decide) _).mono ?_
  rintro o u ⟨rfl, rfl⟩
  go_wp2_with fail
  refine (l04Ok_any (⟨x.wide, x.high * 2, x.lay / 2⟩ : She) hn _).mono ?_
  rintro o w2 ⟨rfl, hb⟩
  rw [hv2]
  have S9 := Lib.hid (CH.next ((S1.out.put1 (x.high * 2)).put2 (x.lay / 2)) hb)
  clear hb S1 s0 s1 s2 s3 s4 s5 f0 f1 f2 b0 b1 b2
  obtain ⟨s0, s1, s2, s3, s4, s5, f0, f1, f2, _, _⟩ := S9.out
  go_wp2_with fail
  refine bodyPost_ret (v := .tuple #[(⟨x.wide, x.high * 2, x.lay / 2⟩ : She).v, .int .i64 0]) ?h1 rfl ⟨rfl, ?h2⟩
  case h1 => exact results_row_tmp (b := w.heap.size + 1) (cs := (⟨x.wide, x.high * 2, x.lay / 2⟩ : She).cells) Tryd.results28 rfl (range3 S9.out.there) Tryd.underlying25 rfl (by kernel_rfl)
  case h2 => exact S9.out.set (⟨x.wide, x.high * 2, x.lay / 2⟩ : She)
set_option maxRecDepth 100000 in
set_option maxHeartbeats 4000000 in
theorem sundo2_state (x : She) (hG : Good x) (w : World) (hd : ¬ x.lay % 3 = 0) :
    Calls Tryd.prog 28 #[x.v, .int .i64 2] w fun o w' => o = .returned (.tuple #[noS.v, .int .i64 4]) ∧ Below w.heap.size w w' := by
  have S0 := Lib.hid (CH.new x w 25 25)
  have hv := (valid_iff x).2 hG
  have hx := hG.fits
  have HG := Lib.hid hG
  obtain ⟨g0, g1, g2, g3, g4, g5⟩ := hG
  have t1 : x.lay.tmod 3 = x.lay % 3 := Int.tmod_eq_emod_of_nonneg (by omega)
  have t2 : x.lay.tdiv 3 = x.lay / 3 := Int.tdiv_eq_ediv_of_nonneg (by omega)
  have t5 : IntKind.i16.wrap (x.wide * 3) = x.wide * 3 := IntWalk.i16_in _ (by omega)
  have t6 : IntKind.i16.wrap (x.lay / 3) = x.lay / 3 := IntWalk.i16_in _ (by omega)
  have t7 : IntKind.i16.wrap (x.lay % 3) = x.lay % 3 := IntWalk.i16_in _ (by omega)
  have hd2 : (x.lay % 3 != 0) = true := by rw [bne_iff_ne]; exact hd
  clear hd t2 t5 t6
  go_enter Tryd.func28, Tryd.ntmps28
  go_wp2_with fail
  refine (l04Ok_any x hx _).mono ?_
  rintro o w1 ⟨rfl, hb⟩
  rw [hv]
  have S1 := Lib.hid (S0.out.next hb)
  have b0 := (hb.frozen (p := ⟨w.heap.size, 0, none⟩) (by simp; omega)).trans (box_frozen w _ _ _ 0)
  have b1 := (hb.frozen (p := ⟨w.heap.size, 1, none⟩) (by simp; omega)).trans (box_frozen w _ _ _ 1)
  have b2 := (hb.frozen (p := ⟨w.heap.size, 2, none⟩) (by simp; omega)).trans (box_frozen w _ _ _ 2)
  clear hb S0
  obtain ⟨s0, s1, s2, s3, s4, s5, f0, f1, f2, _, _⟩ := S1.out
  go_wp2_with fail
  refine (l04Fold_b 2 true (by decide) _).mono ?_
  rintro o u ⟨rfl, rfl⟩
  go_wp2_with fail
  refine (l04By_any 2 3 (by decide) _).mono ?_
  rintro o u ⟨rfl, rfl⟩
  go_wp2_with fail
  refine bodyPost_ret (v := .tuple #[noS.v, .int .i64 4]) ?h1 rfl ⟨rfl, ?h2⟩
  case h1 => exact results_row_tmp (b := w.heap.size + 1) (cs := noS.cells) Tryd.results28 rfl (range3 S1.out.there) Tryd.underlying25 rfl (by kernel_rfl)
  case h2 => exact S1.out.set noS
set_option maxRecDepth 100000 in
set_option maxHeartbeats 4000000 in
theorem sundo2_limit (x : She) (hG : Good x) (w : World) (hd : x.lay % 3 = 0) (hl : 1296 < x.wide * 3) :
    Calls Tryd.prog 28 #[x.v, .int .i64 2] w fun o w' => o = .returned (.tuple #[noS.v, .int .i64 3]) ∧ Below w.heap.size w w' := by
  have S0 := Lib.hid (CH.new x w 25 25)
  have hv := (valid_iff x).2 hG
  have hx := hG.fits
  have HG := Lib.hid hG
  obtain ⟨g0, g1, g2, g3, g4, g5⟩ := hG
  have t1 : x.lay.tmod 3 = x.lay % 3 := Int.tmod_eq_emod_of_nonneg (by omega)
  have t2 : x.lay.tdiv 3 = x.lay / 3 := Int.tdiv_eq_ediv_of_nonneg (by omega)
  have t5 : IntKind.i16.wrap (x.wide * 3) = x.wide * 3 := IntWalk.i16_in _ (by omega)
  have t6 : IntKind.i16.wrap (x.lay / 3) = x.lay / 3 := IntWalk.i16_in _ (by omega)
  have t7 : IntKind.i16.wrap (x.lay % 3) = x.lay % 3 := IntWalk.i16_in _ (by omega)
  have hn : She.Fits (⟨x.wide * 3, x.high, x.lay / 3⟩ : She) := ⟨by simp only; omega, by simp only; omega, by simp only; omega, by simp only; omega, by simp only; omega, by simp only; omega⟩
  have hv2 : She.valid (⟨x.wide * 3, x.high, x.lay / 3⟩ : She) = false := by
    rw [← Bool.not_eq_true, valid_iff]
    rintro ⟨_, q1, _, q3, _, _⟩
    simp only at q1 q3
    omega
  go_enter Tryd.func28, Tryd.ntmps28
  go_wp2_with fail
  refine (l04Ok_any x hx _).mono ?_
  rintro o w1 ⟨rfl, hb⟩
  rw [hv]
  have S1 := Lib.hid (S0.out.next hb)
  have b0 := (hb.frozen (p := ⟨w.heap.size, 0, none⟩) (by simp; omega)).trans (box_frozen w _ _ _ 0)
  have b1 := (hb.frozen (p := ⟨w.heap.size, 1, none⟩) (by simp; omega)).trans (box_frozen w _ _ _ 1)
  have b2 := (hb.frozen (p := ⟨w.heap.size, 2, none⟩) (by simp; omega)).trans (box_frozen w _ _ _ 2)
  clear hb S0
  obtain ⟨s0, s1, s2, s3, s4, s5, f0, f1, f2, _, _⟩ := S1.out
  go_wp2_with fail
  refine (l04Fold_b 2 true (by decide) _).mono ?_
  rintro o u ⟨rfl, rfl⟩
  go_wp2_with fail
  refine (l04By_any 2 3 (by decide) _).mono ?_
  rintro o u ⟨rfl, rfl⟩
  go_wp2_with fail
  refine (l04Ok_any (⟨x.wide * 3, x.high, x.lay / 3⟩ : She) hn _).mono ?_
  rintro o w2 ⟨rfl, hb⟩
  rw [hv2]
  have S9 := Lib.hid (CH.next ((S1.out.put0 (x.wide * 3)).put2 (x.lay / 3)) hb)
  clear hb S1 s0 s1 s2 s3 s4 s5 f0 f1 f2 b0 b1 b2
  obtain ⟨s0, s1, s2, s3, s4, s5, f0, f1, f2, _, _⟩ := S9.out
  go_wp2_with fail
  refine bodyPost_ret (v := .tuple #[noS.v, .int .i64 3]) ?h1 rfl ⟨rfl, ?h2⟩
  case h1 => exact results_row_tmp (b := w.heap.size + 1) (cs := noS.cells) Tryd.results28 rfl (range3 S9.out.there) Tryd.underlying25 rfl (by kernel_rfl)
  case h2 => exact S9.out.set noS
set_option maxRecDepth 100000 in
set_option maxHeartbeats 4000000 in
theorem sundo2_ok (x : She) (hG : Good x) (w : World) (hd : x.lay % 3 = 0) (hl : x.wide * 3 ≤ 1296) :
    Calls Tryd.prog 28 #[x.v, .int .i64 2] w fun o w' => o = .returned (.tuple #[(⟨x.wide * 3, x.high, x.lay / 3⟩ : She).v, .int .i64 0]) ∧ Below w.heap.size w w' := by
  have S0 := Lib.hid (CH.new x w 25 25)
  have hv := (valid_iff x).2 hG
  have hx := hG.fits
  have HG := Lib.hid hG
  obtain ⟨g0, g1, g2, g3, g4, g5⟩ := hG
  have t1 : x.lay.tmod 3 = x.lay % 3 := Int.tmod_eq_emod_of_nonneg (by omega)
  have t2 : x.lay.tdiv 3 = x.lay / 3 := Int.tdiv_eq_ediv_of_nonneg (by omega)
  have t5 : IntKind.i16.wrap (x.wide * 3) = x.wide * 3 := IntWalk.i16_in _ (by omega)
  have t6 : IntKind.i16.wrap (x.lay / 3) = x.lay / 3 := IntWalk.i16_in _ (by omega)
  have t7 : IntKind.i16.wrap (x.lay % 3) = x.lay % 3 := IntWalk.i16_in _ (by omega)
  have hn : She.Fits (⟨x.wide * 3, x.high, x.lay / 3⟩ : She) := ⟨by simp only; omega, by simp only; omega, by simp only; omega, by simp only; omega, by simp only; omega, by simp only; omega⟩
  have hv2 : She.valid (⟨x.wide * 3, x.high, x.lay / 3⟩ : She) = true := (valid_iff _).2 ⟨by simp only; omega, by simp only; omega, by simp only; omega, by simp only; omega, by simp only; omega, by simp only; omega⟩
  go_enter Tryd.func28, Tryd.ntmps28
  go_wp2_with fail
  refine (l04Ok_any x hx _).mono ?_
  rintro o w1 ⟨rfl, hb⟩
  rw [hv]
  have S1 := Lib.hid (S0.out.next hb)
  have b0 := (hb.frozen (p := ⟨w.heap.size, 0, none⟩) (by simp; omega)).trans (box_frozen w _ _ _ 0)
  have b1 := (hb.frozen (p := ⟨w.heap.size, 1, none⟩) (by simp; omega)).trans (box_frozen w _ _ _ 1)
  have b2 := (hb.frozen (p := ⟨w.heap.size, 2, none⟩) (by simp; omega)).trans (box_frozen w _ _ _ 2)
  clear hb S0
  obtain ⟨s0, s1, s2, s3, s4, s5, f0, f1, f2, _, _⟩ := S1.out
  go_wp2_with fail
  refine (l04Fold_b 2 true (by decide) _).mono ?_
  rintro o u ⟨rfl, rfl⟩
  go_wp2_with fail
  refine (l04By_any 2 3 (by decide) _).mono ?_
  rintro o u ⟨rfl, rfl⟩
  go_wp2_with fail
  refine (l04Ok_any (⟨x.wide * 3, x.high, x.lay / 3⟩ : She) hn _).mono ?_
  rintro o w2 ⟨rfl, hb⟩
  rw [hv2]
  have S9 := Lib.hid (CH.next ((S1.out.put0 (x.wide * 3)).put2 (x.lay / 3)) hb)
  clear hb S1 s0 s1 s2 s3 s4 s5 f0 f1 f2 b0 b1 b2
  obtain ⟨s0, s1, s2, s3, s4, s5, f0, f1, f2, _, _⟩ := S9.out
  go_wp2_with fail
  refine bodyPost_ret (v := .tuple #[(⟨x.wide * 3, x.high, x.lay / 3⟩ : She).v, .int .i64 0]) ?h1 rfl ⟨rfl, ?h2⟩
  case h1 => exact results_row_tmp (b := w.heap.size + 1) (cs := (⟨x.wide * 3, x.high, x.lay / 3⟩ : She).cells) Tryd.results28 rfl (range3 S9.out.there) Tryd.underlying25 rfl (by kernel_rfl)
  case h2 => exact S9.out.set (⟨x.wide * 3, x.high, x.lay / 3⟩ : She)
set_option maxRecDepth 100000 in
set_option maxHeartbeats 4000000 in
theorem sundo3_state (x : She) (hG : Good x) (w : World) (hd : ¬ x.lay % 3 = 0) :
    Calls Tryd.prog 28 #[x.v, .int .i64 3] w fun o w' => o = .returned (.tuple #[noS.v, .int .i64 4]) ∧ Below w.heap.size w w' := by
  have S0 := Lib.hid (CH.new x w 25 25)
  have hv := (valid_iff x).2 hG
  have hx := hG.fits
  have HG := Lib.hid hG
  obtain ⟨g0, g1, g2, g3, g4, g5⟩ := hG
  have t1 : x.lay.tmod 3 = x.lay % 3 := Int.tmod_eq_emod_of_nonneg (by omega)
  have t2 : x.lay.tdiv 3 = x.lay / 3 := Int.tdiv_eq_ediv_of_nonneg (by omega)
  have t5 : IntKind.i16.wrap (x.high * 3) = x.high * 3 := IntWalk.i16_in _ (by omega)
  have t6 : IntKind.i16.wrap (x.lay / 3) = x.lay / 3 := IntWalk.i16_in _ (by omega)
  have t7 : IntKind.i16.wrap (x.lay % 3) = x.lay % 3 := IntWalk.i16_in _ (by omega)
  have hd2 : (x.lay % 3 != 0) = true := by rw [bne_iff_ne]; exact hd
  clear hd t2 t5 t6
  go_enter Tryd.func28, Tryd.ntmps28
  go_wp2_with fail
  refine (l04Ok_any x hx _).mono ?_
  rintro o w1 ⟨rfl, hb⟩
  rw [hv]
  have S1 := Lib.hid (S0.out.next hb)
  have b0 := (hb.frozen (p := ⟨w.heap.size, 0, none⟩) (by simp; omega)).trans (box_frozen w _ _ _ 0)
  have b1 := (hb.frozen (p := ⟨w.heap.size, 1, none⟩) (by simp; omega)).trans (box_frozen w _ _ _ 1)
  have b2 := (hb.frozen (p := ⟨w.heap.size, 2, none⟩) (by simp; omega)).trans (box_frozen w _ _ _ 2)
  clear hb S0
  obtain ⟨s0, s1, s2, s3, s4, s5, f0, f1, f2, _, _⟩ := S1.out
  go_wp2_with fail
  refine (l04Fold_b 3 true (by decide) _).mono ?_
  rintro o u ⟨rfl, rfl⟩
  go_wp2_with fail
  refine (l04By_any 3 3 (by decide) _).mono ?_
  rintro o u ⟨rfl, rfl⟩
  go_wp2_with fail
  refine bodyPost_ret (v := .tuple #[noS.v, .int .i64 4]) ?h1 rfl ⟨rfl, ?h2⟩
  case h1 => exact results_row_tmp (b := w.heap.size + 1) (cs := noS.cells) Tryd.results28 rfl (range3 S1.out.there) Tryd.underlying25 rfl (by kernel_rfl)
  case h2 => exact S1.out.set noS
set_option maxRecDepth 100000 in
set_option maxHeartbeats 4000000 in
theorem sundo3_limit (x : She) (hG : Good x) (w : World) (hd : x.lay % 3 = 0) (hl : 1296 < x.high * 3) :
    Calls Tryd.prog 28 #[x.v, .int .i64 3] w fun o w' => o = .returned (.tuple #[noS.v, .int .i64 3]) ∧ Below w.heap.size w w' := by
  have S0 := Lib.hid (CH.new x w 25 25)
  have hv := (valid_iff x).2 hG
  have hx := hG.fits
  have HG := Lib.hid hG
  obtain ⟨g0, g1, g2, g3, g4, g5⟩ := hG
  have t1 : x.lay.tmod 3 = x.lay % 3 := Int.tmod_eq_emod_of_nonneg (by omega)
  have t2 : x.lay.tdiv 3 = x.lay / 3 := Int.tdiv_eq_ediv_of_nonneg (by omega)
  have t5 : IntKind.i16.wrap (x.high * 3) = x.high * 3 := IntWalk.i16_in _ (by omega)
  have t6 : IntKind.i16.wrap (x.lay / 3) = x.lay / 3 := IntWalk.i16_in _ (by omega)
  have t7 : IntKind.i16.wrap (x.lay % 3) = x.lay % 3 := IntWalk.i16_in _ (by omega)
  have hn : She.Fits (⟨x.wide, x.high * 3, x.lay / 3⟩ : She) := ⟨by simp only; omega, by simp only; omega, by simp only; omega, by simp only; omega, by simp only; omega, by simp only; omega⟩
  have hv2 : She.valid (⟨x.wide, x.high * 3, x.lay / 3⟩ : She) = false := by
    rw [← Bool.not_eq_true, valid_iff]
    rintro ⟨_, q1, _, q3, _, _⟩
    simp only at q1 q3
    omega
  go_enter Tryd.func28, Tryd.ntmps28
  go_wp2_with fail
  refine (l04Ok_any x hx _).mono ?_
  rintro o w1 ⟨rfl, hb⟩
  rw [hv]
  have S1 := Lib.hid (S0.out.next hb)
  have b0 := (hb.frozen (p := ⟨w.heap.size, 0, none⟩) (by simp; omega)).trans (box_frozen w _ _ _ 0)
  have b1 := (hb.frozen (p := ⟨w.heap.size, 1, none⟩) (by simp; omega)).trans (box_frozen w _ _ _ 1)
  have b2 := (hb.frozen (p := ⟨w.heap.size, 2, none⟩) (by simp; omega)).trans (box_frozen w _ _ _ 2)
  clear hb S0
  obtain ⟨s0, s1, s2, s3, s4, s5, f0, f1, f2, _, _⟩ := S1.out
  go_wp2_with fail
  refine (l04Fold_b 3 true (by decide) _).mono ?_
  rintro o u ⟨rfl, rfl⟩
  go_wp2_with fail
  refine (l04By_any 3 3 (by decide) _).mono ?_
  rintro o u ⟨rfl, rfl⟩
  go_wp2_with fail
  refine (l04Ok_any (⟨x.wide, x.high * 3, x.lay / 3⟩ : She) hn _).mono ?_
  rintro o w2 ⟨rfl, hb⟩
  rw [hv2]
  have S9 := Lib.hid (CH.next ((S1.out.put1 (x.high * 3)).put2 (x.lay / 3)) hb)
  clear hb S1 s0 s1 s2 s3 s4 s5 f0 f1 f2 b0 b1 b2
  obtain ⟨s0, s1, s2, s3, s4, s5, f0, f1, f2, _, _⟩ := S9.out
  go_wp2_with fail
  refine bodyPost_ret (v := .tuple #[noS.v, .int .i64 3]) ?h1 rfl ⟨rfl, ?h2⟩
  case h1 => exact results_row_tmp (b := w.heap.size + 1) (cs := noS.cells) Tryd.results28 rfl (range3 S9.out.there) Tryd.underlying25 rfl (by kernel_rfl)
  case h2 => exact S9.out.set noS
set_option maxRecDepth 100000 in
set_option maxHeartbeats 4000000 in
theorem sundo3_ok (x : She) (hG : Good x) (w : World) (hd : x.lay % 3 = 0) (hl : x.high * 3 ≤ 1296) :
    Calls Tryd.prog 28 #[x.v, .int .i64 3] w fun o w' => o = .returned (.tuple #[(⟨x.wide, x.high * 3, x.lay / 3⟩ : She).v, .int .i64 0]) ∧ Below w.heap.size w w' := by
  have S0 := Lib.hid (CH.new x w 25 25)
  have hv := (valid_iff x).2 hG
  have hx := hG.fits
  have HG := Lib.hid hG
  obtain ⟨g0, g1, g2, g3, g4, g5⟩ := hG
  have t1 : x.lay.tmod 3 = x.lay % 3 := Int.tmod_eq_emod_of_nonneg (by omega)
  have t2 : x.lay.tdiv 3 = x.lay / 3 := Int.tdiv_eq_ediv_of_nonneg (by omega)
  have t5 : IntKind.i16.wrap (x.high * 3) = x.high * 3 := IntWalk.i16_in _ (by omega)
  have t6 : IntKind.i16.wrap (x.lay / 3) = x.lay / 3 := IntWalk.i16_in _ (by omega)
  have t7 : IntKind.i16.wrap (x.lay % 3) = x.lay % 3 := IntWalk.i16_in _ (by omega)
  have hn : She.Fits (⟨x.wide, x.high * 3, x.lay / 3⟩ : She) := ⟨by simp only; omega, by simp only; omega, by simp only; omega, by simp only; omega, by simp only; omega, by simp only; omega⟩
  have hv2 : She.valid (⟨x.wide, x.high * 3, x.lay / 3⟩ : She) = true := (valid_iff _).2 ⟨by simp only; omega, by simp only; omega, by simp only; omega, by simp only; omega, by simp only; omega, by simp only; omega⟩
  go_enter Tryd.func28, Tryd.ntmps28
  go_wp2_with fail
  refine (l04Ok_any x hx _).mono ?_
  rintro o w1 ⟨rfl, hb⟩
  rw [hv]
  have S1 := Lib.hid (S0.out.next hb)
  have b0 := (hb.frozen (p := ⟨w.heap.size, 0, none⟩) (by simp; omega)).trans (box_frozen w _ _ _ 0)
  have b1 := (hb.frozen (p := ⟨w.heap.size, 1, none⟩) (by simp; omega)).trans (box_frozen w _ _ _ 1)
  have b2 := (hb.frozen (p := ⟨w.heap.size, 2, none⟩) (by simp; omega)).trans (box_frozen w _ _ _ 2)
  clear hb S0
  obtain ⟨s0, s1, s2, s3, s4, s5, f0, f1, f2, _, _⟩ := S1.out
  go_wp2_with fail
  refine (l04Fold_b 3 true (by decide) _).mono ?_
  rintro o u ⟨rfl, rfl⟩
  go_wp2_with fail
  refine (l04By_any 3 3 (by decide) _).mono ?_
  rintro o u ⟨rfl, rfl⟩
  go_wp2_with fail
  refine (l04Ok_any (⟨x.wide, x.high * 3, x.lay / 3⟩ : She) hn _).mono ?_
  rintro o w2 ⟨rfl, hb⟩
  rw [hv2]
  have S9 := Lib.hid (CH.next ((S1.out.put1 (x.high * 3)).put2 (x.lay / 3)) hb)
  clear hb S1 s0 s1 s2 s3 s4 s5 f0 f1 f2 b0 b1 b2
  obtain ⟨s0, s1, s2, s3, s4, s5, f0, f1, f2, _, _⟩ := S9.out
  go_wp2_with fail
  refine bodyPost_ret (v := .tuple #[(⟨x.wide, x.high * 3, x.lay / 3⟩ : She).v, .int .i64 0]) ?h1 rfl ⟨rfl, ?h2⟩
  case h1 => exact results_row_tmp (b := w.heap.size + 1) (cs := (⟨x.wide, x.high * 3, x.lay / 3⟩ : She).cells) Tryd.results28 rfl (range3 S9.out.there) Tryd.underlying25 rfl (by kernel_rfl)
  case h2 => exact S9.out.set (⟨x.wide, x.high * 3, x.lay / 3⟩ : She)
set_option maxRecDepth 100000 in
set_option maxHeartbeats 4000000 in
theorem sundo_range (x : She) (hG : Good x) (w : World) (k : Int) (hk : inB k 0 3 = false) :
    Calls Tryd.prog 28 #[x.v, .int .i64 k] w fun o w' => o = .returned (.tuple #[noS.v, .int .i64 2]) ∧ Below w.heap.size w w' := by
  have S0 := Lib.hid (CH.new x w 25 25)
  have hv := (valid_iff x).2 hG
  have hx := hG.fits
  have HG := Lib.hid hG
  obtain ⟨g0, g1, g2, g3, g4, g5⟩ := hG
  go_enter Tryd.func28, Tryd.ntmps28
  go_wp2_with fail
  refine (l04Ok_any x hx _).mono ?_
  rintro o w1 ⟨rfl, hb⟩
  rw [hv]
  have S1 := Lib.hid (S0.out.next hb)
  have b0 := (hb.frozen (p := ⟨w.heap.size, 0, none⟩) (by simp; omega)).trans (box_frozen w _ _ _ 0)
  have b1 := (hb.frozen (p := ⟨w.heap.size, 1, none⟩) (by simp; omega)).trans (box_frozen w _ _ _ 1)
  have b2 := (hb.frozen (p := ⟨w.heap.size, 2, none⟩) (by simp; omega)).trans (box_frozen w _ _ _ 2)
  clear hb S0
  obtain ⟨s0, s1, s2, s3, s4, s5, f0, f1, f2, _, _⟩ := S1.out
  go_wp2_with fail
  refine (l04Fold_b k false hk _).mono ?_
  rintro o u ⟨rfl, rfl⟩
  go_wp2_with fail
  refine bodyPost_ret (v := .tuple #[noS.v, .int .i64 2]) ?h1 rfl ⟨rfl, ?h2⟩
  case h1 => exact results_row_tmp (b := w.heap.size + 1) (cs := noS.cells) Tryd.results28 rfl (range3 S1.out.there) Tryd.underlying25 rfl (by kernel_rfl)
  case h2 => exact S1.out.set noS
/-- .. whatever the sheet and the fold -/
theorem UnfoldSheet_spec (x : She) (hx : x.Fits) (k : Int) (w : World) :
    Calls Tryd.prog 28 #[x.v, .int .i64 k] w fun o w' => o = .returned (.tuple #[(chgR undoR x k).1.v, .int .i64 (chgR undoR x k).2]) ∧ Below w.heap.size w w' := by
  cases hv : She.valid x with
  | false =>
    have S0 := Lib.hid (CH.new x w 25 25)
    rw [chgR_invalid hv]
    go_enter Tryd.func28, Tryd.ntmps28
    go_wp2_with fail
    refine (l04Ok_any x hx _).mono ?_
    rintro o w1 ⟨rfl, hb⟩
    rw [hv]
    have S9 := Lib.hid (S0.out.next hb)
    clear hb S0
    obtain ⟨s0, s1, s2, s3, s4, s5, f0, f1, f2, _, _⟩ := S9.out
    go_wp2_with fail
    refine bodyPost_ret (v := .tuple #[noS.v, .int .i64 1]) ?h1 rfl ⟨rfl, ?h2⟩
    case h1 => exact results_row_tmp (b := w.heap.size + 1) (cs := noS.cells) Tryd.results28 rfl (range3 S9.out.there) Tryd.underlying25 rfl (by kernel_rfl)
    case h2 => exact S9.out.set noS
  | true =>
    have hG := (valid_iff x).1 hv
    by_cases hk : 0 ≤ k ∧ k ≤ 3
    · obtain ⟨n, rfl⟩ : ∃ n : Nat, k = n := ⟨k.toNat, by omega⟩
      have hn : n ≤ 3 := by omega
      rw [chgR_ok hv hn]
      match n, hn with
      | 0, _ =>
        by_cases hd : x.lay % 2 = 0
        · by_cases hl : x.wide * 2 ≤ 1296
          · have t := sundo0_ok x hG w hd hl
            simp only [undoR, if_pos hd, if_pos hl]
            exact t
          · have t := sundo0_limit x hG w hd (Int.not_le.1 hl)
            simp only [undoR, if_pos hd, if_neg hl]
            exact t
        · have t := sundo0_state x hG w hd
          simp only [undoR, if_neg hd]
          exact t
      | 1, _ =>
        by_cases hd : x.lay % 2 = 0
        · by_cases hl : x.high * 2 ≤ 1296
          · have t := sundo1_ok x hG w hd hl
            simp only [undoR, if_pos hd, if_pos hl]
            exact t
          · have t := sundo1_limit x hG w hd (Int.not_le.1 hl)
            simp only [undoR, if_pos hd, if_neg hl]
            exact t
        · have t := sundo1_state x hG w hd
          simp only [undoR, if_neg hd]
          exact t
      | 2, _ =>
        by_cases hd : x.lay % 3 = 0
        · by_cases hl : x.wide * 3 ≤ 1296
          · have t := sundo2_ok x hG w hd hl
            simp only [undoR, if_pos hd, if_pos hl]
            exact t
          · have t := sundo2_limit x hG w hd (Int.not_le.1 hl)
            simp only [undoR, if_pos hd, if_neg hl]
            exact t
        · have t := sundo2_state x hG w hd
          simp only [undoR, if_neg hd]
          exact t
      | 3, _ =>
        by_cases hd : x.lay % 3 = 0
        · by_cases hl : x.high * 3 ≤ 1296
          · have t := sundo3_ok x hG w hd hl
            simp only [undoR, if_pos hd, if_pos hl]
            exact t
          · have t := sundo3_limit x hG w hd (Int.not_le.1 hl)
            simp only [undoR, if_pos hd, if_neg hl]
            exact t
        · have t := sundo3_state x hG w hd
          simp only [undoR, if_neg hd]
          exact t
    · have t := sundo_range x hG w k ((inB_no k 0 3).2 (by omega))
      rw [chgR_range hv hk]
      exact t
end Go.Proofs.YtcbbabepjfiigaaDoor.fold

/-
  FoldSheet and UnfoldSheet, the program's.
-/
namespace Go.Proofs.YtcbbabepjfiigaaDoor.fold
open Go Go.RowKit sl errs

theorem chgR_le {R : Nat → She → She × Nat} (hR : ∀ n x, Good x → (Good (R n x).1 ∧ (R n x).2 = 0) ∨ ((R n x).1 = noS ∧ ((R n x).2 = 3 ∨ (R n x).2 = 4))) (x : She) (k : Int) : (chgR R x k).2 ≤ 4 := by
  unfold chgR
  split
  · split
    · have := (cases_fits (hR k.toNat x ((valid_iff x).1 (by assumption)))).2
      omega
    · simp
  · simp
abbrev sheetInt (x : She) (c : Nat) : Value := .tuple #[x.v, .int .i64 c]
set_option maxRecDepth 100000 in
set_option maxHeartbeats 4000000 in
theorem do_made (x : She) (hx : x.Fits) (k : Int) {w : World} {B : Nat} {e : Nat → Addr} (h : Errs w B e) (hB : B ≤ w.heap.size) :
    Calls Tryd.prog 16 #[x.v, .int .i64 k] w fun o w' => o = .returned (sheetInt (chgR foldR x k).1 (chgR foldR x k).2) ∧ Below w.heap.size w w' := by
  have S0 := Lib.hid (CH.new x w 25 25)
  have hc := chgR_le foldR_cases x k
  have hm := fun (u : World) (hb : Below w.heap.size w u) => changed_made x hx k (h.below (hb.mono hB)) (Nat.le_trans hB hb.size)
  have HE := Lib.hid h
  clear h
  obtain ⟨r, hr⟩ : ∃ r, chgR foldR x k = r := ⟨_, rfl⟩
  rw [hr] at hm hc ⊢
  obtain ⟨⟨rp, rq, rl⟩, rc⟩ := r
  simp only at hc
  have HM := Lib.hid hm
  clear hm hr
  go_enter Tryd.func16, Tryd.ntmps16
  go_wp2_with fail
  refine (HM.out _ S0.out.below).mono ?_
  rintro o w1 ⟨rfl, hb⟩
  have S1 := Lib.hid ((S0.out.next hb).next ((Below.refl _ _).alloc (Nat.le_refl _) (.cells #[.int .i16 rp, .int .i16 rq, .int .i16 rl] 25)))
  clear hb S0
  obtain ⟨s0, s1, s2, s3, s4, s5, f0, f1, f2, _, _⟩ := S1.out
  go_wp2_with fail
  go_region_with ((first | (go_at_call 52; refine (codeOf_any (w := _) (B := B) (e := e) ?_ rc (by omega)).mono ?_; (exact (HE.out.below (S1.out.below.mono hB)).below (below_drewN _ _ 1)); rintro o u ⟨rfl, rfl⟩) | fail))
  all_goals
    have HBB := S1.out.below
    have HTH := S1.out.there
    clear s0 s1 s2 s3 s4 s5 f0 f1 f2
  all_goals (try simp only [Act.put, List.getElem_toArray, List.getElem_cons_zero, List.getElem_cons_succ, List.setIfInBounds_toArray, List.set_cons_zero, List.set_cons_succ])
  all_goals go_wp2_with fail
  all_goals
    refine bodyPost_ret (v := sheetInt ⟨rp, rq, rl⟩ rc) ?h1 rfl ⟨rfl, ?h2⟩
    case h1 =>
      refine results_row_tmp (b := w.heap.size + 1) (cs := [.int .i16 rp, .int .i16 rq, .int .i16 rl]) Tryd.results16 rfl ?_ Tryd.underlying25 rfl (by kernel_rfl)
      repeat (with_reducible first | apply range_drew | apply range_drewN)
      refine range3 ?_
      repeat (with_reducible first | assumption | apply there_drew | apply there_drewN | apply there_set')
    case h2 =>
      repeat (with_reducible first | exact Below.refl _ _ | assumption | apply Below.drew | apply below_drewN' | (refine Below.alloc ?_ (by first | (simp; done) | (simp; omega) | omega) _) | (refine Below.setCell ?_ (by first | (simp; done) | (simp; omega) | omega) _))
set_option maxRecDepth 100000 in
set_option maxHeartbeats 4000000 in
theorem do_undone (x : She) (hx : x.Fits) (k : Int) {w : World} {B : Nat} {e : Nat → Addr} (h : Errs w B e) (hB : B ≤ w.heap.size) :
    Calls Tryd.prog 29 #[x.v, .int .i64 k] w fun o w' => o = .returned (sheetInt (chgR undoR x k).1 (chgR undoR x k).2) ∧ Below w.heap.size w w' := by
  have S0 := Lib.hid (CH.new x w 25 25)
  have hc := chgR_le undoR_cases x k
  have hm := fun (u : World) (hb : Below w.heap.size w u) => changed_undone x hx k (h.below (hb.mono hB)) (Nat.le_trans hB hb.size)
  have HE := Lib.hid h
  clear h
  obtain ⟨r, hr⟩ : ∃ r, chgR undoR x k = r := ⟨_, rfl⟩
  rw [hr] at hm hc ⊢
  obtain ⟨⟨rp, rq, rl⟩, rc⟩ := r
  simp only at hc
  have HM := Lib.hid hm
  clear hm hr
  go_enter Tryd.func29, Tryd.ntmps29
  go_wp2_with fail
  refine (HM.out _ S0.out.below).mono ?_
  rintro o w1 ⟨rfl, hb⟩
  have S1 := Lib.hid ((S0.out.next hb).next ((Below.refl _ _).alloc (Nat.le_refl _) (.cells #[.int .i16 rp, .int .i16 rq, .int .i16 rl] 25)))
  clear hb S0
  obtain ⟨s0, s1, s2, s3, s4, s5, f0, f1, f2, _, _⟩ := S1.out
  go_wp2_with fail
  go_region_with ((first | (go_at_call 52; refine (codeOf_any (w := _) (B := B) (e := e) ?_ rc (by omega)).mono ?_; (exact (HE.out.below (S1.out.below.mono hB)).below (below_drewN _ _ 1)); rintro o u ⟨rfl, rfl⟩) | fail))
  all_goals
    have HBB := S1.out.below
    have HTH := S1.out.there
    clear s0 s1 s2 s3 s4 s5 f0 f1 f2
  all_goals (try simp only [Act.put, List.getElem_toArray, List.getElem_cons_zero, List.getElem_cons_succ, List.setIfInBounds_toArray, List.set_cons_zero, List.set_cons_succ])
  all_goals go_wp2_with fail
  all_goals
    refine bodyPost_ret (v := sheetInt ⟨rp, rq, rl⟩ rc) ?h1 rfl ⟨rfl, ?h2⟩
    case h1 =>
      refine results_row_tmp (b := w.heap.size + 1) (cs := [.int .i16 rp, .int .i16 rq, .int .i16 rl]) Tryd.results29 rfl ?_ Tryd.underlying25 rfl (by kernel_rfl)
      repeat (with_reducible first | apply range_drew | apply range_drewN)
      refine range3 ?_
      repeat (with_reducible first | assumption | apply there_drew | apply there_drewN | apply there_set')
    case h2 =>
      repeat (with_reducible first | exact Below.refl _ _ | assumption | apply Below.drew | apply below_drewN' | (refine Below.alloc ?_ (by first | (simp; done) | (simp; omega) | omega) _) | (refine Below.setCell ?_ (by first | (simp; done) | (simp; omega) | omega) _))
end Go.Proofs.YtcbbabepjfiigaaDoor.fold

/-
  FoldAll, the program's and the model's.
-/
namespace Go.Proofs.YtcbbabepjfiigaaDoor.fold
open Go Go.RowKit sl errs

/-- some folds, one after the other -/
def runF (x : She) : List Int → She × Nat
  | [] => (x, 0)
  | k :: r => if (chgR foldR x k).2 = 0 then runF (chgR foldR x k).1 r else (noS, (chgR foldR x k).2)
def codeA (x : She) (n : Nat) : Nat := if She.valid x = true then (if 12 < n then 3 else 0) else 1
def allR (x : She) (ks : List Int) : She × Nat := if codeA x ks.length = 0 then runF x ks else (noS, codeA x ks.length)
theorem code_all (x : She) (n k0 k1 : Nat) (h0 : k0 = if She.valid x = true then 0 else 1) (h1 : k1 = if 12 < n then 3 else 0) : firstCode [k0, k1] = codeA x n := by
  unfold codeA
  subst h0 h1
  cases She.valid x
  · rfl
  · by_cases h : 12 < n
    · simp [h, firstCode]
    · simp [h, firstCode]
theorem chg_good {x : She} {k : Int} (hG : Good x) (h : (chgR foldR x k).2 = 0) : Good (chgR foldR x k).1 := by
  have hv := (valid_iff x).2 hG
  by_cases hk : 0 ≤ k ∧ k ≤ 3
  · obtain ⟨n, rfl⟩ : ∃ n : Nat, k = n := ⟨k.toNat, by omega⟩
    rw [chgR_ok hv (by omega)] at h ⊢
    rcases foldR_cases n x hG with ⟨a, _⟩ | ⟨_, a | a⟩
    · exact a
    · omega
    · omega
  · rw [chgR_range hv hk] at h
    cases h
theorem runF_ok {x : She} {ks : List Int} {j : Nat} {k : Int} (hx : ks[j]? = some k) (h : (chgR foldR x k).2 = 0) : runF x (ks.drop j) = runF (chgR foldR x k).1 (ks.drop (j + 1)) := by
  obtain ⟨hj, rfl⟩ := List.getElem?_eq_some_iff.1 hx
  rw [List.drop_eq_getElem_cons hj, runF, if_pos h]
theorem runF_fail {x : She} {ks : List Int} {j : Nat} {k : Int} (hx : ks[j]? = some k) (h : (chgR foldR x k).2 ≠ 0) : runF x (ks.drop j) = (noS, (chgR foldR x k).2) := by
  obtain ⟨hj, rfl⟩ := List.getElem?_eq_some_iff.1 hx
  rw [List.drop_eq_getElem_cons hj, runF, if_neg h]
/-- the sheet's own place, which may be written, and the result's -/
abbrev CB (x : She) (W u : World) : Prop := CH x W u ∧ ∀ i, u.frozen? ⟨W.heap.size, i, none⟩ = false
theorem CB.next {x : She} {W u v : World} (h : CB x W u) (hb : Below u.heap.size u v) : CB x W v := by
  have hl : W.heap.size + 1 < u.heap.size := h.1.2.2.2.2.2.2.2.2.2.1
  exact ⟨CH.next h.1 hb, fun i => (hb.frozen (p := ⟨W.heap.size, i, none⟩) (by show W.heap.size < _; omega)).trans (h.2 i)⟩
theorem CB.new (x : She) (w : World) (T T' : TypeId) : CB x w ((w.alloc (.cells #[.int .i16 x.wide, .int .i16 x.high, .int .i16 x.lay] T)).alloc (.cells #[.int .i16 0, .int .i16 0, .int .i16 0] T')) :=
  ⟨CH.new x w T T', fun i => box_frozen w _ _ _ i⟩
theorem CB.put {x : She} {W u : World} (h : CB x W u) (y : She) : CB y W (((u.setCell ⟨W.heap.size, 0, none⟩ (.int .i16 y.wide)).setCell ⟨W.heap.size, 1, none⟩ (.int .i16 y.high)).setCell ⟨W.heap.size, 2, none⟩ (.int .i16 y.lay)) :=
  ⟨((h.1.put0 y.wide).put1 y.high).put2 y.lay, fun i => by rw [World.frozen?_setCell, World.frozen?_setCell, World.frozen?_setCell]; exact h.2 i⟩
theorem checkFoldCount_any (A : Option Addr) (n c : Nat) (hn : n ≤ 9223372036854775807) {w : World} {B : Nat} {e : Nat → Addr} (h : Errs w B e) (k : Nat) (hk : k = if 12 < n then 3 else 0) :
    Calls Tryd.prog 55 #[.slice A n c] w fun o w' => o = .returned (errOf e k) ∧ w = w' := by
  have c2 := h.c2
  by_cases hl : 12 < n
  · rw [if_pos hl] at hk
    subst hk
    go_enter Tryd.func55, Tryd.ntmps55
    go_wp2_with fail
    go_ret
    exact ⟨rfl, rfl⟩
  · rw [if_neg hl] at hk
    subst hk
    go_enter Tryd.func55, Tryd.ntmps55
    go_wp2_with fail
    go_ret
    exact ⟨rfl, rfl⟩
set_option maxRecDepth 100000 in
set_option maxHeartbeats 8000000 in
theorem FoldAll_any (x : She) (hx : x.Fits) (A : Option Addr) (n c : Nat) (ks : List Int) (en : n = ks.length) (hn : n ≤ 9223372036854775807) {w : World} {B : Nat} {e : Nat → Addr} (h : Errs w B e) (hB : B ≤ w.heap.size) (hg : Sl intS.C 1 w w.heap.size A ks) :
    Calls Tryd.prog 20 #[x.v, .slice A n c] w fun o w' => o = .returned (sheetInt (allR x ks).1 (allR x ks).2) ∧ Below w.heap.size w w' := by
  obtain ⟨k0, hk0⟩ : ∃ k : Nat, k = if She.valid x = true then 0 else 1 := ⟨_, rfl⟩
  obtain ⟨k1, hk1⟩ : ∃ k : Nat, k = if 12 < n then 3 else 0 := ⟨_, rfl⟩
  have HF := Lib.hid (code_all x n k0 k1 hk0 hk1)
  have hcm := fun (y : She) (hy : y.Fits) (k : Int) (u : World) (hb : Below w.heap.size w u) => changed_made y hy k (h.below (hb.mono hB)) (Nat.le_trans hB hb.size)
  obtain ⟨r, hr⟩ : ∃ r, allR x ks = r := ⟨_, rfl⟩
  rw [hr]
  have HR : Hid ((codeA x n = 0 → r = runF x ks) ∧ (codeA x n ≠ 0 → r = (noS, codeA x n))) := Lib.hid (by
    rw [← hr, allR, en]
    exact ⟨fun h => if_pos h, fun h => if_neg h⟩)
  have hle : codeA x n ≤ 3 := by unfold codeA; split <;> (try split) <;> omega
  have HCM := Lib.hid hcm
  have H0 := Lib.hid hk0
  have H1 := Lib.hid hk1
  have En := Lib.hid en
  have HE := Lib.hid h
  have HV : Hid (codeA x n = 0 → Good x ∧ n ≤ 12) := Lib.hid (by
    intro hc
    unfold codeA at hc
    split at hc
    · split at hc
      · omega
      · exact ⟨(valid_iff x).1 (by assumption), by omega⟩
    · omega)
  obtain ⟨k, hk⟩ : ∃ k, codeA x n = k := ⟨_, rfl⟩
  rw [hk] at hle HF HR HV
  clear hcm hk0 hk1 en h hr hk
  have S0 := Lib.hid (CB.new x w 25 25)
  go_enter Tryd.func20, Tryd.ntmps20
  go_wp2_with fail
  refine (check1_any x hx _ (w.heap.size + 1 + 1) (by simp) (HE.out.below (S0.out.1.below.mono hB)) (Nat.le_trans hB S0.out.1.below.size) k0 H0.out).mono ?_
  rintro o w1 ⟨rfl, hb⟩
  have S1 := Lib.hid (S0.out.next hb)
  clear hb S0
  go_wp2_with fail
  refine (checkFoldCount_any A n c hn (HE.out.below (S1.out.1.below.mono hB)) k1 H1.out).mono ?_
  rintro o u ⟨rfl, rfl⟩
  go_wp2_with (refine wpList_listed rfl 107 2 _ rfl #[(0, errOf e k0), (1, errOf e k1)] ?hp (buildSlice2 e k0 k1 _) ?_; case hp => simp [Act.eval])
  refine (firstOf_any e [k0, k1] _ 2 2 rfl (by decide) _ (cells_errs e [k0, k1] w1 65 #[errOf e k0, errOf e k1] rfl)).mono ?_
  rintro o u ⟨rfl, rfl⟩
  have S2 := Lib.hid (S1.out.next ((Below.refl _ _).alloc (Nat.le_refl _) (.cells #[errOf e k0, errOf e k1] 65)))
  rw [HF.out]
  obtain ⟨w3, hw3⟩ : ∃ w3, w3 = w1.alloc (.cells #[errOf e k0, errOf e k1] 65) := ⟨_, rfl⟩
  rw [← hw3] at S2 ⊢
  clear hw3 S1
  cases k with
  | succ i =>
    have hr : r = (noS, i + 1) := HR.out.2 (by omega)
    subst hr
    have e0 : errOf e (i + 1) = errV (e i) := rfl
    rw [e0]
    clear e0
    go_wp2_with fail
    refine (codeOf_any (HE.out.below (S2.out.1.below.mono hB)) (i + 1) (by omega)).mono ?_
    rintro o u ⟨rfl, rfl⟩
    obtain ⟨s0, s1, s2, s3, s4, s5, f0, f1, f2, _, _⟩ := S2.out.1
    go_wp2_with fail
    refine bodyPost_ret (v := sheetInt noS (i + 1)) ?h1 rfl ⟨rfl, ?h2⟩
    case h1 => exact results_row_tmp (b := w.heap.size + 1) (cs := noS.cells) Tryd.results20 rfl (range3 S2.out.1.there) Tryd.underlying25 rfl (by kernel_rfl)
    case h2 => exact S2.out.1.set noS
  | zero =>
    have hr : r = runF x ks := HR.out.1 rfl
    have HRR := Lib.hid hr
    have e0 : errOf e 0 = .nilIface := rfl
    rw [e0]
    obtain ⟨hG, h12⟩ := HV.out rfl
    have HG := Lib.hid hG
    clear hr hG HR HV
    go_wp2_with fail
    go_loopw [25, 8, 9, 10] (fun vi _ _ _ wr => ∃ (j : Nat) (y : She), j ≤ n ∧ vi = .int .i64 j ∧ Good y ∧ r = runF y (ks.drop j) ∧ CB y w wr) (fun vi _ _ _ _ => n - (intOf vi).toNat)
    case atStart => exact ⟨0, x, by omega, rfl, HG.out, by rw [List.drop_zero]; exact HRR.out, S2.out⟩
    case round =>
      obtain ⟨j, y, hj, rfl, hy, hr, hS⟩ := hrel
      have HY := Lib.hid hy
      have HRJ := Lib.hid hr
      have HS := Lib.hid hS
      clear hy hr hS
      obtain ⟨s0, s1, s2, s3, s4, s5, f0, f1, f2, _, _⟩ := HS.out.1
      by_cases hlt : j < n
      · obtain ⟨k, hk⟩ : ∃ k, ks[j]? = some k := ⟨ks[j]'(by have := En.out; omega), List.getElem?_eq_getElem _⟩
        obtain ⟨a, rfl, hab, hat⟩ := (hg.below HS.out.1.below).at_ j k hk
        have q0 := intS.at_ hat
        have HK := Lib.hid hk
        clear hk hat
        have hm := HCM.out y HY.out.fits k _ HS.out.1.below
        obtain ⟨z, hz⟩ : ∃ z, chgR foldR y k = z := ⟨_, rfl⟩
        rw [hz] at hm
        have HZ := Lib.hid hz
        obtain ⟨⟨zp, zq, zl⟩, zc⟩ := z
        have HM := Lib.hid hm
        clear hm hz
        go_wp2_with fail
        refine HM.out.mono ?_
        rintro o w4 ⟨rfl, hb⟩
        have S4 := Lib.hid ((HS.out.next hb).next ((Below.refl _ _).alloc (Nat.le_refl _) (.cells #[.int .i16 zp, .int .i16 zq, .int .i16 zl] 25)))
        clear hb HM q0 s0 s1 s2 s3 s4 s5 f0 f1 f2
        cases zc with
        | zero =>
          have e0 : errOf e 0 = .nilIface := rfl
          rw [e0]
          obtain ⟨s0, s1, s2, s3, s4, s5, f0, f1, f2, _, _⟩ := S4.out.1
          have b0 := S4.out.2 0
          have b1 := S4.out.2 1
          have b2 := S4.out.2 2
          go_wp2_with fail
          go_roundw
          case rel =>
            have hz := HZ.out
            have hgz : Good ⟨zp, zq, zl⟩ := by
              have := chg_good (k := k) HY.out (by rw [hz])
              rwa [hz] at this
            refine ⟨j + 1, ⟨zp, zq, zl⟩, by omega, by go_num, hgz, ?_, S4.out.put ⟨zp, zq, zl⟩⟩
            have := runF_ok HK.out (x := y) (by rw [hz])
            rw [HRJ.out, this, hz]
          case measure => simp [intOf]; omega
        | succ i =>
          have hle4 : i + 1 ≤ 4 := by
            have := chgR_le foldR_cases y k
            rw [HZ.out] at this
            exact this
          have hr : r = (noS, i + 1) := by
            have := runF_fail HK.out (x := y) (by rw [HZ.out]; simp)
            rw [HRJ.out, this, HZ.out]
          subst hr
          have e0 : errOf e (i + 1) = errV (e i) := rfl
          rw [e0]
          clear e0
          go_wp2_with fail
          refine (codeOf_any (HE.out.below (S4.out.1.below.mono hB)) (i + 1) (by omega)).mono ?_
          rintro o u ⟨rfl, rfl⟩
          obtain ⟨s0, s1, s2, s3, s4, s5, f0, f1, f2, _, _⟩ := S4.out.1
          go_wp2_with fail
          refine bodyPost_ret (v := sheetInt noS (i + 1)) ?h1 rfl ⟨rfl, ?h2⟩
          case h1 => exact results_row_tmp (b := w.heap.size + 1) (cs := noS.cells) Tryd.results20 rfl (range3 S4.out.1.there) Tryd.underlying25 rfl (by kernel_rfl)
          case h2 => exact S4.out.1.set noS
      · obtain rfl : j = n := by omega
        have hr : r = (y, 0) := by
          rw [HRJ.out, List.drop_of_length_le (by rw [← En.out]; exact Nat.le_refl _)]
          rfl
        subst hr
        go_wp2_with fail
        refine bodyPost_ret (v := sheetInt y 0) ?h1 rfl ⟨rfl, ?h2⟩
        case h1 => exact results_row_tmp (b := w.heap.size + 1) (cs := y.cells) Tryd.results20 rfl (range3 HS.out.1.there) Tryd.underlying25 rfl (by kernel_rfl)
        case h2 => exact HS.out.1.set y
end Go.Proofs.YtcbbabepjfiigaaDoor.fold
