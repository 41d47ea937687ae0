/-
  Days in plain words: 24 weathers, one behind the other; a day's cells, a day in a block.
-/
import Derived.Test.YtmjfdbhogobpfaaDoorWeaS
import Derived.Test.YtmjfdbhogobpfaaDoorWasS
namespace Go.Proofs.YtmjfdbhogobpfaaDoor
open Go Go.RowKit sl

/-- is weather valid -/
def Wea.valid (x : Wea) : Bool := decide (0 ≤ x.sun) && (decide (x.sun ≤ 9) && (decide (0 ≤ x.wind) && (decide (x.wind ≤ 9) && (decide (0 ≤ x.rain) && decide (x.rain ≤ 9)))))
theorem Wea.valid_iff (x : Wea) : Wea.valid x = true ↔ (0 ≤ x.sun ∧ x.sun ≤ 9) ∧ (0 ≤ x.wind ∧ x.wind ≤ 9) ∧ 0 ≤ x.rain ∧ x.rain ≤ 9 := by
  simp [Wea.valid, and_assoc]
/-- is a thing valid -/
def Was.valid (x : Was) : Bool := decide (0 ≤ x.wet) && (decide (x.wet ≤ 1000) && (decide (1 ≤ x.thick) && decide (x.thick ≤ 9)))
theorem Was.valid_iff (x : Was) : Was.valid x = true ↔ (0 ≤ x.wet ∧ x.wet ≤ 1000) ∧ 1 ≤ x.thick ∧ x.thick ≤ 9 := by
  simp [Was.valid, and_assoc]

/-- the cells of a day -/
def dayCs (d : List Wea) : Array Value := (d.flatMap Wea.cells).toArray
/-- a day -/
abbrev dayV (d : List Wea) : Value := .agg (dayCs d)
theorem dayCs_size {d : List Wea} (h : d.length = 24) : (dayCs d).size = 72 := by
  unfold dayCs
  rw [List.size_toArray, flat_len (Wea.len d), h]
theorem dayV_cells (d : List Wea) : (dayV d).cells = dayCs d := rfl
theorem dayV_list (d : List Wea) : (Value.agg (d.flatMap Wea.cells).toArray) = dayV d := rfl

/-- a day lies at the head of a block -/
structure DayAt (u : World) (b : Nat) (d : List Wea) : Prop where
  lt : b < u.heap.size
  row : u.rangeAt b 0 (d.flatMap Wea.cells)
theorem DayAt.new (d : List Wea) (T : TypeId) (w : World) : DayAt (w.alloc (.cells (dayCs d) T)) w.heap.size d :=
  ⟨by simp, fun j v hj => by
    rw [Nat.zero_add, cell_of_row _ _ _ _ _ _ (heap_alloc_new w _)]
    simpa [dayCs] using hj⟩
theorem DayAt.below {u u' : World} {b B : Nat} {d : List Wea} (h : DayAt u b d) (hb : Below B u u') (hB : b < B) : DayAt u' b d :=
  ⟨Nat.lt_of_lt_of_le h.lt hb.size, fun j v hj => (hb.cell (p := ⟨b, 0 + j, none⟩) hB).trans (h.row j v hj)⟩
theorem DayAt.next {u u' : World} {b : Nat} {d : List Wea} (h : DayAt u b d) (hb : Below u.heap.size u u') : DayAt u' b d := h.below hb h.lt
theorem DayAt.get {u : World} {b : Nat} {d : List Wea} (h : DayAt u b d) {k : Nat} {x : Wea} (hx : d[k]? = some x) :
    u.cell? ⟨b, k * 3, none⟩ = some (.int .i8 x.sun) ∧ u.cell? ⟨b, k * 3 + 1, none⟩ = some (.int .i8 x.wind) ∧ u.cell? ⟨b, k * 3 + 2, none⟩ = some (.int .i8 x.rain) := by
  have g := fun j v hj => h.row (k * 3 + j) v (flat_get (Wea.len d) (j := j) (v := v) hx hj)
  refine ⟨?_, ?_, ?_⟩
  · simpa using g 0 _ rfl
  · simpa using g 1 _ rfl
  · simpa using g 2 _ rfl
theorem DayAt.sl {u : World} {b : Nat} {d : List Wea} (h : DayAt u b d) : Sl Wea.cells 3 u u.heap.size (some ⟨b, 0, none⟩) d :=
  ⟨fun k x hx => ⟨_, rfl, h.lt, fun j v hj => by
    rw [add_lit, add_at]
    simpa using h.row (k * 3 + j) v (flat_get (Wea.len d) hx hj)⟩⟩
/-- .. and what lies behind one hour -/
theorem DayAt.sl_from {u : World} {b : Nat} {d : List Wea} (h : DayAt u b d) (f : Nat) : Sl Wea.cells 3 u u.heap.size (some ⟨b, f * 3, none⟩) (d.drop f) :=
  ⟨fun k x hx => ⟨_, rfl, h.lt, fun j v hj => by
    rw [add_at, add_at]
    rw [List.getElem?_drop] at hx
    have := h.row ((f + k) * 3 + j) v (flat_get (Wea.len d) hx hj)
    rw [Nat.zero_add, Nat.add_mul] at this
    exact this⟩⟩
end Go.Proofs.YtmjfdbhogobpfaaDoor
