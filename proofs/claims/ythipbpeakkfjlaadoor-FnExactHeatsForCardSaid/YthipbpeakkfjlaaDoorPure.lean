/-
  Plain words on garments and rules; no program in them.
-/
import Derived.Test.YthipbpeakkfjlaaDoorRows
import Derived.WalkKit
namespace Go.Proofs.YthipbpeakkfjlaaDoor
open Go.RowKit

/-- a garment's numbers -/
structure Gar where
  c : Int
  n : Int
  m : Int
  g : Int

/-- the numbers are in the range of their kinds -/
structure Gar.Fits (x : Gar) : Prop where
  c0 : 0 ≤ x.c
  c1 : x.c ≤ 255
  n0 : -128 ≤ x.n
  n1 : x.n ≤ 127
  m0 : -128 ≤ x.m
  m1 : x.m ≤ 127
  g0 : -32768 ≤ x.g
  g1 : x.g ≤ 32767

/-- is a garment valid -/
def Gar.valid (x : Gar) : Bool := decide (x.c < 6) && (decide (0 ≤ x.n) && (decide (x.n ≤ x.m) && (decide (x.m ≤ 95) && (decide (1 ≤ x.g) && decide (x.g ≤ 2000)))))

abbrev Gar.cells (x : Gar) : List Value := [.int .u8 x.c, .int .i8 x.n, .int .i8 x.m, .int .i16 x.g]
abbrev Gar.v (x : Gar) : Value := .agg #[.int .u8 x.c, .int .i8 x.n, .int .i8 x.m, .int .i16 x.g]

/-- a box that the call made reads as it was made, as long as nothing below B is changed -/
theorem box_at {w w1 : World} {cs : Array Value} {t : TypeId} {B : Nat} (hb : Below B (w.alloc (.cells cs t)) w1) (hB : w.heap.size < B) (i : Nat) :
    w1.cell? ⟨w.heap.size, i, none⟩ = cs[i]? := by
  rw [hb.cell (p := ⟨w.heap.size, i, none⟩) hB]
  exact cell_of_row _ _ _ _ _ _ (heap_alloc_new w _)

/-- one step more -/
theorem below_next {B : Nat} {a b c : World} (h : Below B a b) (k : Below b.heap.size b c) (hB : B ≤ a.heap.size) : Below B a c :=
  h.trans (k.mono (Nat.le_trans hB h.size))

theorem ret_bool {a b : Bool} (h : a = b) : Ending.returned (.bool a) = .returned (.bool b) := by rw [h]
theorem ret_int {k : IntKind} {a b : Int} (h : a = b) : Ending.returned (.int k a) = .returned (.int k b) := by rw [h]
end Go.Proofs.YthipbpeakkfjlaaDoor
