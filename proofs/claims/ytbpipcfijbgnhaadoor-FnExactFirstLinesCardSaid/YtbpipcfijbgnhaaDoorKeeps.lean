/-
  What a call may write: some blocks alone; no program in it.
-/
import Derived.Test.YtbpipcfijbgnhaaDoorSl
import Derived.Test.YtbpipcfijbgnhaaDoorWords
namespace Go.Proofs.YtbpipcfijbgnhaaDoor.sl
open Go Go.RowKit

/-- of the blocks that were there, only those of S may have been written -/
structure Keeps (S : Nat → Prop) (w w' : World) : Prop where
  os : w'.os = w.os
  tape : w'.tape = w.tape
  output : w'.output = w.output
  size : w.heap.size ≤ w'.heap.size
  block : ∀ k, k < w.heap.size → ¬ S k → w'.heap[k]? = w.heap[k]?

theorem Keeps.refl (S : Nat → Prop) (w : World) : Keeps S w w := ⟨rfl, rfl, rfl, Nat.le_refl _, fun _ _ _ => rfl⟩
theorem Keeps.trans {S : Nat → Prop} {a b c : World} (h : Keeps S a b) (k : Keeps S b c) : Keeps S a c :=
  ⟨k.os.trans h.os, k.tape.trans h.tape, k.output.trans h.output, Nat.le_trans h.size k.size, fun i hi hn => (k.block i (Nat.lt_of_lt_of_le hi h.size) hn).trans (h.block i hi hn)⟩
theorem Keeps.mono {S T : Nat → Prop} {a b : World} (h : Keeps S a b) (hs : ∀ k, k < a.heap.size → S k → T k) : Keeps T a b :=
  ⟨h.os, h.tape, h.output, h.size, fun i hi hn => h.block i hi (fun hS => hn (hs i hi hS))⟩
theorem Keeps.of_below {S : Nat → Prop} {a b : World} (h : Below a.heap.size a b) : Keeps S a b := ⟨h.os, h.tape, h.output, h.size, fun i hi _ => h.block i hi⟩
theorem Keeps.below {S : Nat → Prop} {a b : World} (h : Keeps S a b) {B : Nat} (hB : B ≤ a.heap.size) (hs : ∀ k, S k → B ≤ k) : Below B a b :=
  ⟨h.os, h.tape, h.output, h.size, fun i hi => h.block i (by omega) (fun hS => by have := hs i hS; omega)⟩
/-- what is beyond the old world's end may be written, too -/
theorem Keeps.next {S : Nat → Prop} {a b c : World} (h : Keeps S a b) (k : Keeps (fun i => S i ∨ a.heap.size ≤ i) b c) : Keeps S a c :=
  ⟨k.os.trans h.os, k.tape.trans h.tape, k.output.trans h.output, Nat.le_trans h.size k.size, fun i hi hn => (k.block i (Nat.lt_of_lt_of_le hi h.size) (fun hS => hS.elim hn (by omega))).trans (h.block i hi hn)⟩
theorem Keeps.setCell {S : Nat → Prop} {a b : World} (h : Keeps S a b) {p : Addr} (hp : S p.block ∨ a.heap.size ≤ p.block) (u : Value) : Keeps S a (b.setCell p u) :=
  ⟨h.os, h.tape, h.output, by simpa [World.setCell] using h.size, fun i hi hn => (Below.heap_setCell b p u i (by rintro rfl; exact hp.elim hn (by omega))).trans (h.block i hi hn)⟩
theorem Keeps.alloc {S : Nat → Prop} {a b : World} (h : Keeps S a b) (o : Obj) : Keeps S a (b.alloc o) :=
  ⟨h.os, h.tape, h.output, Nat.le_trans h.size (by simp), fun i hi hn => (Below.heap_alloc b o i (Nat.lt_of_lt_of_le hi h.size)).trans (h.block i hi hn)⟩
theorem Keeps.drewN {S : Nat → Prop} {a b : World} (h : Keeps S a b) (n : Nat) : Keeps S a (b.drewN n) := ⟨h.os, h.tape, h.output, h.size, h.block⟩
theorem Keeps.grown {S : Nat → Prop} {a b c : World} {g : Nat} (h : Keeps S a b) (k : b.grownBy c (some g)) (hg : S g ∨ a.heap.size ≤ g) : Keeps S a c :=
  h.next ⟨k.os, k.tape, k.output, k.size, fun i hi hn => k.block i hi (fun e => hn (by have := Option.some.inj e; subst this; exact hg))⟩
theorem Keeps.grows {S : Nat → Prop} {a b c : World} (h : Keeps S a b) (k : b.grownBy c none) : Keeps S a c :=
  h.next ⟨k.os, k.tape, k.output, k.size, fun i hi _ => k.block i hi (fun e => by cases e)⟩
theorem Keeps.owns {S : Nat → Prop} {w w' : World} (hf : Keeps S w w') {base : Nat} {e : TypeId} {sz : Nat} {v : Value} {n : Nat} {L : List Value} (h : w.ownsRow base e sz v n L) (hs : ∀ g, v.ownBlock = some g → ¬ S g) : w'.ownsRow base e sz v n L := by
  have hl := h.lt
  refine ⟨h.1, ?_⟩
  rcases h.2 with hn | ⟨g, cap, cur, rfl, hg, hh, rest⟩
  · exact .inl hn
  · exact .inr ⟨g, cap, cur, rfl, hg, (hf.block g (hl g rfl).2 (hs g rfl)).trans hh, rest⟩
end Go.Proofs.YtbpipcfijbgnhaaDoor.sl
