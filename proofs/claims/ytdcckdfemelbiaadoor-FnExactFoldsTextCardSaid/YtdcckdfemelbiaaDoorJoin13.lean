/-
  Several texts of this proof, joined.
-/
import Derived.Test.YtdcckdfemelbiaaDoorJoin12
import Derived.Deep.RegionWith
import Derived.BigRegion
import Derived.StillTailTactics
import Derived.Deep.RegionHeld3
/-
  Folds: made, and undone.
-/
namespace Go.Proofs.YtdcckdfemelbiaaDoor.fold
open Go Go.RowKit sl errs

theorem way_any (n r : Int) (h : (n = 0 ∧ r = 0) ∨ (n = 1 ∧ r = 1) ∨ (n = 2 ∧ r = 0) ∨ (n = 3 ∧ r = 1)) (w : World) :
    Calls Tryd.prog 172 #[.int .u8 n] w fun o w' => o = .returned (.int .i64 r) ∧ w = w' := by
  rcases h with ⟨rfl, rfl⟩ | ⟨rfl, rfl⟩ | ⟨rfl, rfl⟩ | ⟨rfl, rfl⟩
  all_goals
    go_enter Tryd.func172, Tryd.ntmps172
    go_wp2
    go_ret
    exact ⟨by first | rfl | decide, rfl⟩
theorem way_q (n r : Int) (h : (n = 0 ∧ r = 0) ∨ (n = 1 ∧ r = 1) ∨ (n = 2 ∧ r = 0) ∨ (n = 3 ∧ r = 1)) (w : World) :
    Calls Tryd.prog 172 #[.int .u8 n] w fun o w' => o = .returned (.int .i64 r) ∧ w' = w := (way_any n r h w).mono fun _ _ ⟨a, b⟩ => ⟨a, b.symm⟩
theorem parts_any (n r : Int) (h : (n = 0 ∧ r = 2) ∨ (n = 1 ∧ r = 2) ∨ (n = 2 ∧ r = 3) ∨ (n = 3 ∧ r = 3)) (w : World) :
    Calls Tryd.prog 173 #[.int .u8 n] w fun o w' => o = .returned (.int .i64 r) ∧ w = w' := by
  rcases h with ⟨rfl, rfl⟩ | ⟨rfl, rfl⟩ | ⟨rfl, rfl⟩ | ⟨rfl, rfl⟩
  all_goals
    go_enter Tryd.func173, Tryd.ntmps173
    go_wp2
    go_ret
    exact ⟨rfl, rfl⟩
theorem parts_q (n r : Int) (h : (n = 0 ∧ r = 2) ∨ (n = 1 ∧ r = 2) ∨ (n = 2 ∧ r = 3) ∨ (n = 3 ∧ r = 3)) (w : World) :
    Calls Tryd.prog 173 #[.int .u8 n] w fun o w' => o = .returned (.int .i64 r) ∧ w' = w := (parts_any n r h w).mono fun _ _ ⟨a, b⟩ => ⟨a, b.symm⟩
theorem below_drewN' {B : Nat} {a w : World} {n : Nat} (h : Below B a w) : Below B a (w.drewN n) := ⟨h.os, h.tape, h.output, h.size, h.block⟩
theorem there_set' {w : World} {a : Addr} {v : Value} {b n : Nat} (h : w.there b 0 n) : (w.setCell a v).there b 0 n := fun j hj => by
  refine ⟨?_, by rw [World.frozen?_setCell]; exact (h j hj).2⟩
  by_cases e : a = ⟨b, 0 + j, none⟩
  · rw [e, World.cell?_setCell_same' _ _ _ (h j hj).1]; rfl
  · rw [World.cell?_setCell_other _ _ _ _ e]; exact (h j hj).1
theorem there_drew {w : World} {b n : Nat} (h : w.there b 0 n) : w.drew.there b 0 n := h
theorem there_drewN {w : World} {b n k : Nat} (h : w.there b 0 n) : (w.drewN k).there b 0 n := h
theorem there_new (w : World) (o : Obj) (vs : List Value) (T : TypeId) {n : Nat} (hn : n = vs.length) : ((w.alloc o).alloc (.cells vs.toArray T)).there (w.heap.size + 1) 0 n := fun j hj => by
  have hh := heap_alloc_new (w.alloc o) (.cells vs.toArray T)
  rw [World.size_alloc] at hh
  rw [Nat.zero_add]
  refine ⟨?_, frozen_of_row _ _ _ _ _ hh⟩
  rw [cell_of_row _ _ _ _ _ _ hh, List.getElem?_toArray, List.getElem?_eq_getElem (by omega)]
  rfl
theorem range_drew {w : World} {b : Nat} {cs : List Value} (h : w.rangeAt b 0 cs) : w.drew.rangeAt b 0 cs := h
theorem range_drewN {w : World} {b k : Nat} {cs : List Value} (h : w.rangeAt b 0 cs) : (w.drewN k).rangeAt b 0 cs := h
theorem range3 {u : World} {b : Nat} {x y z : Value} (h : u.there b 0 3) : (((u.setCell ⟨b, 0, none⟩ x).setCell ⟨b, 1, none⟩ y).setCell ⟨b, 2, none⟩ z).rangeAt b 0 [x, y, z] :=
  World.rangeAt_setCells_same u b 0 [x, y, z] h
theorem range_new3 (w : World) (o : Obj) (x y z : Value) (T : TypeId) : ((w.alloc o).alloc (.cells #[x, y, z] T)).rangeAt (w.heap.size + 1) 0 [x, y, z] := fun j v hj => by
  have hh := heap_alloc_new (w.alloc o) (.cells #[x, y, z] T)
  rw [World.size_alloc] at hh
  rw [Nat.zero_add, cell_of_row _ _ _ _ _ _ hh]
  simpa using hj
/-- a region whose operations are still, but for its tail: the world keeps its spelling -/
theorem region_still {id : Nat} {Q : Exit → Act → World → Prop} {a : Act} {w : World} {l : List Oper} (n : Nat) (hB : Region.lexTailB .any l.toArray n = true)
    (h : wpStill Tryd.prog l.toArray w.drew (fun a' => wpList Tryd.prog l.toArray Q (l.drop n) a' w.drew) (l.take n) a) : (Code.region id l.toArray true).wp Tryd.prog Q a w :=
  wp_region_still_tail n (by kernel_rfl) hB h
end Go.Proofs.YtdcckdfemelbiaaDoor.fold

/-
  Edges behind one fold: the program's methods.
-/
namespace Go.Proofs.YtdcckdfemelbiaaDoor.fold
open Go Go.RowKit sl errs

/-- how many open edges there are: left, right, upper, lower -/
structure Edg where
  l : Int
  r : Int
  u : Int
  d : Int
abbrev Edg.cells (x : Edg) : List Value := [.int .i64 x.l, .int .i64 x.r, .int .i64 x.u, .int .i64 x.d]
abbrev Edg.v (x : Edg) : Value := .agg #[.int .i64 x.l, .int .i64 x.r, .int .i64 x.u, .int .i64 x.d]
/-- all are at least 0, and at most m -/
structure Edg.In (x : Edg) (m : Int) : Prop where
  l0 : 0 ≤ x.l
  l1 : x.l ≤ m
  r0 : 0 ≤ x.r
  r1 : x.r ≤ m
  u0 : 0 ≤ x.u
  u1 : x.u ≤ m
  d0 : 0 ≤ x.d
  d1 : x.d ≤ m
/-- what the ends become -/
def joinE (n : Nat) (x : Edg) : Edg :=
  match n with
  | 0 => ⟨x.l + x.r, 0, x.u, x.d⟩
  | 1 => ⟨x.l, x.r, x.u + x.d, 0⟩
  | 2 => ⟨x.r, x.l, x.u, x.d⟩
  | _ => ⟨x.l, x.r, x.d, x.u⟩
/-- edges behind a fold -/
def stepE (n : Nat) (x : Edg) : Edg :=
  match n with
  | 0 => ⟨x.l + x.r, 0, x.u * 2, x.d * 2⟩
  | 1 => ⟨x.l * 2, x.r * 2, x.u + x.d, 0⟩
  | 2 => ⟨x.r, x.l, x.u * 3, x.d * 3⟩
  | _ => ⟨x.l * 3, x.r * 3, x.d, x.u⟩
theorem stepE_in {n : Nat} {x : Edg} {m : Int} (h : x.In m) : (stepE n x).In (3 * m) := by
  obtain ⟨a, b, c, d, e, f, g, i⟩ := h
  unfold stepE
  split <;> constructor <;> simp only <;> omega
theorem range4 {u : World} {b : Nat} {x y z t : Value} (h : u.there b 0 4) : ((((u.setCell ⟨b, 0, none⟩ x).setCell ⟨b, 1, none⟩ y).setCell ⟨b, 2, none⟩ z).setCell ⟨b, 3, none⟩ t).rangeAt b 0 [x, y, z, t] :=
  World.rangeAt_setCells_same u b 0 [x, y, z, t] h
theorem range_new4 (w : World) (o : Obj) (x y z t : Value) (T : TypeId) : ((w.alloc o).alloc (.cells #[x, y, z, t] T)).rangeAt (w.heap.size + 1) 0 [x, y, z, t] := fun j v hj => by
  have hh := heap_alloc_new (w.alloc o) (.cells #[x, y, z, t] T)
  rw [World.size_alloc] at hh
  rw [Nat.zero_add, cell_of_row _ _ _ _ _ _ hh]
  simpa using hj
end Go.Proofs.YtdcckdfemelbiaaDoor.fold
