/-
  Several texts of this proof, joined.
-/
import Derived.WalkKit
import Derived.Deep.QuietTactic
import Derived.Test.YtjfimmfnhlimkaaDoorSl
/-
  Plain words of all texts; no program in them.
-/
namespace Go.Proofs.YtjfimmfnhlimkaaDoor
open Go.RowKit

/-- a box that the call made reads as it was made, as long as nothing below B is changed -/
theorem box_at {w w1 : World} {cs : Array Value} {t : TypeId} {B : Nat} (hb : Below B (w.alloc (.cells cs t)) w1) (hB : w.heap.size < B) (i : Nat) :
    w1.cell? ⟨w.heap.size, i, none⟩ = cs[i]? := by
  rw [hb.cell (p := ⟨w.heap.size, i, none⟩) hB]
  exact cell_of_row _ _ _ _ _ _ (heap_alloc_new w _)

/-- one step more -/
theorem below_next {B : Nat} {a b c : World} (h : Below B a b) (k : Below b.heap.size b c) (hB : B ≤ a.heap.size) : Below B a c :=
  h.trans (k.mono (Nat.le_trans hB h.size))

theorem ret_bool {a b : Bool} (h : a = b) : Ending.returned (.bool a) = .returned (.bool b) := by rw [h]
theorem ret_int {k : IntKind} {a b : Int} (h : a = b) : Ending.returned (.int k a) = .returned (.int k b) := by rw [h]
theorem below_drewN (B : Nat) (w : World) (m : Nat) : Below B w (w.drewN m) := ⟨rfl, rfl, rfl, Nat.le_refl _, fun _ _ => rfl⟩
theorem below_cells {B : Nat} {a w : World} (h : Below B a w) {g : Nat} (hg : B ≤ g) : ∀ (vs : List Value) (o : Nat), Below B a (w.setCells g o vs) := by
  intro vs
  induction vs generalizing w with
  | nil => intro o; exact h
  | cons v r ih => intro o; exact ih (h.setCell (p := ⟨g, o, none⟩) hg v) (o + 1)
theorem lists_eq {α : Type} {xs ys : List α} {n : Nat} (h : n = xs.length) (h' : n = ys.length) (he : ∀ i, i < n → xs[i]? = ys[i]?) : xs = ys := by
  refine List.ext_getElem? fun i => ?_
  rcases Nat.lt_or_ge i n with hi | hi
  · exact he i hi
  · rw [List.getElem?_eq_none (by omega), List.getElem?_eq_none (by omega)]
theorem some_bool (p : Prop) : ∃ b : Bool, b = true ↔ p := by
  by_cases h : p
  · exact ⟨true, by simp [h]⟩
  · exact ⟨false, by simp [h]⟩
/-- all that has been met, and one more -/
theorem take_snoc {α : Type} {xs : List α} {k : Nat} {x : α} (hx : xs[k]? = some x) : xs.take (k + 1) = xs.take k ++ [x] := by
  obtain ⟨hk, rfl⟩ := List.getElem?_eq_some_iff.1 hx
  rw [List.take_succ_eq_append_getElem hk]
theorem all_of_idx {α : Type} {p : α → Bool} {xs : List α} (h : ∀ i x, i < xs.length → xs[i]? = some x → p x = true) : xs.all p = true := by
  rw [List.all_eq_true]
  intro x hx
  obtain ⟨i, hi⟩ := List.mem_iff_getElem?.1 hx
  exact h i x (List.getElem?_eq_some_iff.1 hi).1 hi
theorem all_not {α : Type} {p : α → Bool} {xs : List α} {x : α} {k : Nat} (hx : xs[k]? = some x) (hp : p x = false) : xs.all p = false := by
  cases h : xs.all p with
  | false => rfl
  | true =>
    rw [List.all_eq_true] at h
    have := h x (List.mem_of_getElem? hx)
    rw [hp] at this
    cases this
end Go.Proofs.YtjfimmfnhlimkaaDoor

/-
  What a call may write: some blocks alone; no program in it.
-/
namespace Go.Proofs.YtjfimmfnhlimkaaDoor.sl
open Go Go.RowKit

/-- of the blocks that were there, only those of S may have been written -/
structure Keeps (S : Nat → Prop) (w w' : World) : Prop where
  os : w'.os = w.os
  tape : w'.tape = w.tape
  output : w'.output = w.output
  size : w.heap.size ≤ w'.heap.size
  block : ∀ k, k < w.heap.size → ¬ S k → w'.heap[k]? = w.heap[k]?

theorem Keeps.refl (S : Nat → Prop) (w : World) : Keeps S w w := ⟨rfl, rfl, rfl, Nat.le_refl _, fun _ _ _ => rfl⟩
theorem Keeps.trans {S : Nat → Prop} {a b c : World} (h : Keeps S a b) (k : Keeps S b c) : Keeps S a c :=
  ⟨k.os.trans h.os, k.tape.trans h.tape, k.output.trans h.output, Nat.le_trans h.size k.size, fun i hi hn => (k.block i (Nat.lt_of_lt_of_le hi h.size) hn).trans (h.block i hi hn)⟩
theorem Keeps.mono {S T : Nat → Prop} {a b : World} (h : Keeps S a b) (hs : ∀ k, k < a.heap.size → S k → T k) : Keeps T a b :=
  ⟨h.os, h.tape, h.output, h.size, fun i hi hn => h.block i hi (fun hS => hn (hs i hi hS))⟩
theorem Keeps.of_below {S : Nat → Prop} {a b : World} (h : Below a.heap.size a b) : Keeps S a b := ⟨h.os, h.tape, h.output, h.size, fun i hi _ => h.block i hi⟩
theorem Keeps.below {S : Nat → Prop} {a b : World} (h : Keeps S a b) {B : Nat} (hB : B ≤ a.heap.size) (hs : ∀ k, S k → B ≤ k) : Below B a b :=
  ⟨h.os, h.tape, h.output, h.size, fun i hi => h.block i (by omega) (fun hS => by have := hs i hS; omega)⟩
/-- what is beyond the old world's end may be written, too -/
theorem Keeps.next {S : Nat → Prop} {a b c : World} (h : Keeps S a b) (k : Keeps (fun i => S i ∨ a.heap.size ≤ i) b c) : Keeps S a c :=
  ⟨k.os.trans h.os, k.tape.trans h.tape, k.output.trans h.output, Nat.le_trans h.size k.size, fun i hi hn => (k.block i (Nat.lt_of_lt_of_le hi h.size) (fun hS => hS.elim hn (by omega))).trans (h.block i hi hn)⟩
theorem Keeps.setCell {S : Nat → Prop} {a b : World} (h : Keeps S a b) {p : Addr} (hp : S p.block ∨ a.heap.size ≤ p.block) (u : Value) : Keeps S a (b.setCell p u) :=
  ⟨h.os, h.tape, h.output, by simpa [World.setCell] using h.size, fun i hi hn => (Below.heap_setCell b p u i (by rintro rfl; exact hp.elim hn (by omega))).trans (h.block i hi hn)⟩
theorem Keeps.alloc {S : Nat → Prop} {a b : World} (h : Keeps S a b) (o : Obj) : Keeps S a (b.alloc o) :=
  ⟨h.os, h.tape, h.output, Nat.le_trans h.size (by simp), fun i hi hn => (Below.heap_alloc b o i (Nat.lt_of_lt_of_le hi h.size)).trans (h.block i hi hn)⟩
theorem Keeps.drewN {S : Nat → Prop} {a b : World} (h : Keeps S a b) (n : Nat) : Keeps S a (b.drewN n) := ⟨h.os, h.tape, h.output, h.size, h.block⟩
theorem Keeps.grown {S : Nat → Prop} {a b c : World} {g : Nat} (h : Keeps S a b) (k : b.grownBy c (some g)) (hg : S g ∨ a.heap.size ≤ g) : Keeps S a c :=
  h.next ⟨k.os, k.tape, k.output, k.size, fun i hi hn => k.block i hi (fun e => hn (by have := Option.some.inj e; subst this; exact hg))⟩
theorem Keeps.grows {S : Nat → Prop} {a b c : World} (h : Keeps S a b) (k : b.grownBy c none) : Keeps S a c :=
  h.next ⟨k.os, k.tape, k.output, k.size, fun i hi _ => k.block i hi (fun e => by cases e)⟩
theorem Keeps.owns {S : Nat → Prop} {w w' : World} (hf : Keeps S w w') {base : Nat} {e : TypeId} {sz : Nat} {v : Value} {n : Nat} {L : List Value} (h : w.ownsRow base e sz v n L) (hs : ∀ g, v.ownBlock = some g → ¬ S g) : w'.ownsRow base e sz v n L := by
  have hl := h.lt
  refine ⟨h.1, ?_⟩
  rcases h.2 with hn | ⟨g, cap, cur, rfl, hg, hh, rest⟩
  · exact .inl hn
  · exact .inr ⟨g, cap, cur, rfl, hg, (hf.block g (hl g rfl).2 (hs g rfl)).trans hh, rest⟩
end Go.Proofs.YtjfimmfnhlimkaaDoor.sl

/-
  Cupboards in plain words; no program in them.
-/
namespace Go.Proofs.YtjfimmfnhlimkaaDoor.cup
open Go.RowKit

/-- numbers of sheets: all different, and in their range -/
structure Fine (zs : List Int) : Prop where
  nd : zs.Nodup
  rg : ∀ x ∈ zs, 0 ≤ x ∧ x ≤ 999
theorem Fine.nil : Fine [] := ⟨List.nodup_nil, fun x hx => by simp at hx⟩
theorem Fine.snoc {zs : List Int} {x : Int} (h : Fine zs) (hx : 0 ≤ x ∧ x ≤ 999) (hn : x ∉ zs) : Fine (zs ++ [x]) := by
  refine ⟨List.nodup_append.2 ⟨h.nd, by simp, fun a ha b hb => ?_⟩, fun y hy => ?_⟩
  · rw [List.mem_singleton.1 hb]
    intro e
    exact hn (e ▸ ha)
  · rcases List.mem_append.1 hy with h1 | h1
    · exact h.rg y h1
    · rw [List.mem_singleton.1 h1]
      exact hx
theorem Fine.pre {zs ys : List Int} (h : Fine (zs ++ ys)) : Fine zs := ⟨(List.nodup_append.1 h.nd).1, fun x hx => h.rg x (List.mem_append_left _ hx)⟩
theorem Fine.last {zs ys : List Int} {x : Int} (h : Fine (zs ++ [x] ++ ys)) : (0 ≤ x ∧ x ≤ 999) ∧ x ∉ zs := by
  have h1 := h.pre
  refine ⟨h1.rg x (by simp), fun hx => ?_⟩
  exact (List.nodup_append.1 h1.nd).2.2 x hx x (by simp) rfl
/-- a valid cupboard -/
structure CupOk (xss : List (List Int)) : Prop where
  pos : 0 < xss.length
  most : xss.length ≤ 6
  high : ∀ xs ∈ xss, xs.length ≤ 8
  fine : Fine xss.flatten
/-- what has been seen ahead of a place -/
def seenTo (xss : List (List Int)) (p i : Nat) : List Int := (xss.take p).flatten ++ ((xss[p]?.getD []).take i)
theorem seenTo_zero (xss : List (List Int)) (p : Nat) : seenTo xss p 0 = (xss.take p).flatten := by simp [seenTo]
theorem seenTo_row {xss : List (List Int)} {p : Nat} {xs : List Int} (hp : xss[p]? = some xs) : seenTo xss p xs.length = (xss.take (p + 1)).flatten := by
  rw [take_snoc hp, seenTo, hp]
  simp
theorem seenTo_step {xss : List (List Int)} {p i : Nat} {xs : List Int} {x : Int} (hp : xss[p]? = some xs) (hi : xs[i]? = some x) : seenTo xss p (i + 1) = seenTo xss p i ++ [x] := by
  rw [seenTo, seenTo, hp]
  simp only [Option.getD_some]
  rw [take_snoc hi, List.append_assoc]
theorem seenTo_pre {xss : List (List Int)} {p i : Nat} {xs : List Int} (hp : xss[p]? = some xs) : ∃ ys, xss.flatten = seenTo xss p i ++ ys := by
  refine ⟨xs.drop i ++ (xss.drop (p + 1)).flatten, ?_⟩
  have e : xss = xss.take (p + 1) ++ xss.drop (p + 1) := (List.take_append_drop _ _).symm
  have e2 : xss.flatten = (xss.take (p + 1)).flatten ++ (xss.drop (p + 1)).flatten := by
    rw [← List.flatten_append, ← e]
  rw [e2, take_snoc hp, seenTo, hp]
  simp only [Option.getD_some, List.flatten_append, List.flatten_cons, List.flatten_nil, List.append_nil, List.append_assoc]
  congr 1
  rw [← List.append_assoc, List.take_append_drop]
theorem seenTo_len (xss : List (List Int)) (p : Nat) (xs : List Int) (hp : xss[p]? = some xs) (i : Nat) (hi : i ≤ xs.length) : (seenTo xss p i).length = (xss.take p).flatten.length + i := by
  rw [seenTo, hp]
  simp
  omega
/-- a number that does not fit -/
theorem not_ok {xss : List (List Int)} {p i : Nat} {xs : List Int} {x : Int} (hp : xss[p]? = some xs) (hi : xs[i]? = some x) (h : ¬ (0 ≤ x ∧ x ≤ 999) ∨ x ∈ seenTo xss p i) : ¬ CupOk xss := by
  intro hc
  obtain ⟨ys, e⟩ := seenTo_pre (i := i + 1) hp
  have hf := hc.fine
  rw [e, seenTo_step hp hi] at hf
  obtain ⟨h1, h2⟩ := hf.last
  rcases h with h | h
  · exact h h1
  · exact h2 h
/-- all rows have been looked at -/
theorem all_ok {xss : List (List Int)} (h0 : 0 < xss.length) (h6 : xss.length ≤ 6) (hh : ∀ xs ∈ xss, xs.length ≤ 8) (hf : Fine (seenTo xss xss.length 0)) : CupOk xss := by
  rw [seenTo_zero, List.take_length] at hf
  exact ⟨h0, h6, hh, hf⟩
end Go.Proofs.YtjfimmfnhlimkaaDoor.cup
