/-
  Results that are lists of the call's own: what a contract says of them.
-/
import Derived.Test.YtbpipcfijbgnhaaDoorFits
import Derived.Test.YtbpipcfijbgnhaaDoorIntS
namespace Go.Proofs.YtbpipcfijbgnhaaDoor.hang
open Go.RowKit sl

/-- a list of the call's own, and a number -/
def Own2 (w : World) (ys : List Int) (z : Int) (o : Ending) (w' : World) : Prop :=
  ∃ v, o = .returned (.tuple #[v, .int .i64 z]) ∧ w'.ownsRow w.heap.size 2 1 v ys.length (ys.flatMap intS.C) ∧ Below w.heap.size w w'
/-- a list of the call's own, and two numbers -/
def Own3 (w : World) (ys : List Int) (y z : Int) (o : Ending) (w' : World) : Prop :=
  ∃ v, o = .returned (.tuple #[v, .int .i64 y, .int .i64 z]) ∧ w'.ownsRow w.heap.size 2 1 v ys.length (ys.flatMap intS.C) ∧ Below w.heap.size w w'
/-- one list of the call's own -/
def Own1 (w : World) (ys : List Int) (o : Ending) (w' : World) : Prop :=
  ∃ v, o = .returned v ∧ w'.ownsRow w.heap.size 2 1 v ys.length (ys.flatMap intS.C) ∧ Below w.heap.size w w'
theorem owns_none (w : World) (b : Nat) : w.ownsRow b 2 1 (.slice none 0 0) ([] : List Int).length (([] : List Int).flatMap intS.C) := World.ownsRow_nil w b 2 1
theorem owns_void (w : World) {b : Nat} (hb : b ≤ w.heap.size) : (w.alloc (.cells #[] 2)).ownsRow b 2 1 (.slice (some ⟨w.heap.size, 0, none⟩) 0 0) ([] : List Int).length (([] : List Int).flatMap intS.C) :=
  World.ownsRow_lit w #[] 0 hb (by unfold maxLen; simp) rfl
theorem FitS.mark {l : Lin} {w u u' : World} {g : Nat} (h : FitS l w u) (hg : u.grownBy u' (some g)) (hl : w.heap.size < g) : FitS l w u' := by
  have hz := h.z
  have c : ∀ p : Addr, p.block = w.heap.size → u'.cell? p = u.cell? p := fun p hp => (grownBy_below (B := w.heap.size + 1) hg (by omega) (by omega)).cell (by omega)
  exact ⟨(c ⟨w.heap.size, 0, none⟩ rfl).trans h.c0, (c ⟨w.heap.size, 1, none⟩ rfl).trans h.c1, h.b.trans (grownBy_below hg (Nat.le_of_lt hz) (Nat.le_of_lt hl)), Nat.lt_of_lt_of_le hz hg.size⟩
end Go.Proofs.YtbpipcfijbgnhaaDoor.hang
