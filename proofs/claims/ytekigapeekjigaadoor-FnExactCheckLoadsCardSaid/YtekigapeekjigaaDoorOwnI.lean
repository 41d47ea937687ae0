/-
  Results that are lists of the call's own: what a contract says of them.
-/
import Derived.Test.YtekigapeekjigaaDoorIntS
namespace Go.Proofs.YtekigapeekjigaaDoor.hang
open Go.RowKit sl

/-- a list of the call's own, and a number -/
def Own2 (w : World) (ys : List Int) (z : Int) (o : Ending) (w' : World) : Prop :=
  ∃ v, o = .returned (.tuple #[v, .int .i64 z]) ∧ w'.ownsRow w.heap.size 2 1 v ys.length (ys.flatMap intS.C) ∧ Below w.heap.size w w'
/-- a list of the call's own, and two numbers -/
def Own3 (w : World) (ys : List Int) (y z : Int) (o : Ending) (w' : World) : Prop :=
  ∃ v, o = .returned (.tuple #[v, .int .i64 y, .int .i64 z]) ∧ w'.ownsRow w.heap.size 2 1 v ys.length (ys.flatMap intS.C) ∧ Below w.heap.size w w'
/-- one list of the call's own -/
def Own1 (w : World) (ys : List Int) (o : Ending) (w' : World) : Prop :=
  ∃ v, o = .returned v ∧ w'.ownsRow w.heap.size 2 1 v ys.length (ys.flatMap intS.C) ∧ Below w.heap.size w w'
theorem owns_none (w : World) (b : Nat) : w.ownsRow b 2 1 (.slice none 0 0) ([] : List Int).length (([] : List Int).flatMap intS.C) := World.ownsRow_nil w b 2 1
theorem owns_void (w : World) {b : Nat} (hb : b ≤ w.heap.size) : (w.alloc (.cells #[] 2)).ownsRow b 2 1 (.slice (some ⟨w.heap.size, 0, none⟩) 0 0) ([] : List Int).length (([] : List Int).flatMap intS.C) :=
  World.ownsRow_lit w #[] 0 hb (by unfold maxLen; simp) rfl
end Go.Proofs.YtekigapeekjigaaDoor.hang
