/-
  Rows of cells in the midst of a block, told by a function of the place; no program in them.
-/
import Derived.Test.YtjfimmfnhlimkaaDoorSl
import Derived.Test.YtjfimmfnhlimkaaDoorWords
import Derived.Deep.WholeRow
import Derived.Deep.MidRow
namespace Go.Proofs.YtjfimmfnhlimkaaDoor.row
open Go Go.RowKit sl

/-- n values, told by a function -/
def lst (n : Nat) (c : Nat → Value) : List Value := (List.range n).map c
theorem lst_len (n : Nat) (c : Nat → Value) : (lst n c).length = n := by simp [lst]
theorem lst_get {n : Nat} (c : Nat → Value) {j : Nat} (h : j < n) : (lst n c)[j]? = some (c j) := by simp [lst, h]
theorem lst_some {n : Nat} {c : Nat → Value} {j : Nat} {v : Value} (h : (lst n c)[j]? = some v) : j < n ∧ v = c j := by
  have hj : j < n := by simpa [lst_len] using (List.getElem?_eq_some_iff.1 h).1
  rw [lst_get c hj] at h
  exact ⟨hj, (Option.some.inj h).symm⟩
theorem lst_congr {n : Nat} {c d : Nat → Value} (h : ∀ j, j < n → c j = d j) : lst n c = lst n d := by
  unfold lst
  exact List.map_congr_left fun j hj => h j (by simpa using hj)
theorem lst_ext {n : Nat} {c d : Nat → Value} (h : lst n c = lst n d) : ∀ j, j < n → c j = d j := fun j hj => by
  have := congrArg (fun l : List Value => l[j]?) h
  simp only [lst_get c hj, lst_get d hj, Option.some.injEq] at this
  exact this
theorem lst_one {n : Nat} {c : Nat → Value} (h : ∀ j, j < n → (c j).oneCell' = true) : (lst n c).toArray.all (·.oneCell') = true := all_oneCell_toArray fun v hv => by
  obtain ⟨j, hj⟩ := List.getElem?_of_mem hv
  obtain ⟨h1, rfl⟩ := lst_some hj
  exact h j h1
theorem lst_append (n m : Nat) (c : Nat → Value) : lst (n + m) c = lst n c ++ lst m (fun j => c (n + j)) := by
  simp [lst, List.range_add, Function.comp_def]

theorem lst_succ (n : Nat) (c : Nat → Value) : lst (n + 1) c = lst n c ++ [c n] := by simp [lst, List.range_succ]

/-- n cells lie in block b from p on -/
structure RowAt (u : World) (b p n : Nat) (c : Nat → Value) : Prop where
  lt : b < u.heap.size
  cell : ∀ j, j < n → u.cell? ⟨b, p + j, none⟩ = some (c j)
/-- .. and may be written -/
structure RowOwn (u : World) (b p n : Nat) (c : Nat → Value) : Prop extends RowAt u b p n c where
  free : ∀ j, j < n → u.frozen? ⟨b, p + j, none⟩ = false

section
variable {u v : World} {b p n : Nat} {c d : Nat → Value}
theorem RowAt.range (h : RowAt u b p n c) : u.rangeAt b p (lst n c) := fun j v hv => by
  obtain ⟨hj, rfl⟩ := lst_some hv
  exact h.cell j hj
theorem RowOwn.there (h : RowOwn u b p n c) : u.there b p n := fun j hj => ⟨by rw [h.cell j hj]; rfl, h.free j hj⟩
theorem RowAt.keep (h : RowAt u b p n c) (hs : u.heap.size ≤ v.heap.size) (hk : ∀ q : Addr, q.block = b → v.cell? q = u.cell? q) : RowAt v b p n c :=
  ⟨Nat.lt_of_lt_of_le h.lt hs, fun j hj => (hk _ rfl).trans (h.cell j hj)⟩
theorem RowAt.below {B : Nat} (h : RowAt u b p n c) (hb : Below B u v) (hB : b < B) : RowAt v b p n c :=
  h.keep hb.size fun q hq => hb.cell (by rw [hq]; exact hB)
theorem RowAt.next (h : RowAt u b p n c) (hb : Below u.heap.size u v) : RowAt v b p n c := h.below hb h.lt
theorem RowOwn.below {B : Nat} (h : RowOwn u b p n c) (hb : Below B u v) (hB : b < B) : RowOwn v b p n c :=
  ⟨h.toRowAt.below hb hB, fun j hj => (hb.frozen (p := ⟨b, p + j, none⟩) hB).trans (h.free j hj)⟩
theorem RowOwn.next (h : RowOwn u b p n c) (hb : Below u.heap.size u v) : RowOwn v b p n c := h.below hb h.lt
theorem RowAt.to (h : RowAt u b p n c) (hc : ∀ j, j < n → c j = d j) : RowAt u b p n d := ⟨h.lt, fun j hj => by rw [h.cell j hj, hc j hj]⟩
theorem RowOwn.to (h : RowOwn u b p n c) (hc : ∀ j, j < n → c j = d j) : RowOwn u b p n d := ⟨h.toRowAt.to hc, h.free⟩
theorem RowAt.sub (h : RowAt u b p n c) (i m : Nat) (hm : i + m ≤ n) : RowAt u b (p + i) m (fun j => c (i + j)) :=
  ⟨h.lt, fun j hj => by rw [Nat.add_assoc]; exact h.cell (i + j) (by omega)⟩
theorem RowOwn.sub (h : RowOwn u b p n c) (i m : Nat) (hm : i + m ≤ n) : RowOwn u b (p + i) m (fun j => c (i + j)) :=
  ⟨h.toRowAt.sub i m hm, fun j hj => by rw [Nat.add_assoc]; exact h.free (i + j) (by omega)⟩
theorem RowAt.of_range (hl : b < u.heap.size) (h : u.rangeAt b p (lst n c)) : RowAt u b p n c := ⟨hl, fun j hj => h j _ (lst_get c hj)⟩
theorem RowOwn.set (h : RowOwn u b p n c) {j : Nat} (hj : j < n) (x : Value) : RowOwn (u.setCell ⟨b, p + j, none⟩ x) b p n (fun i => if i = j then x else c i) :=
  ⟨⟨by simpa [World.setCell] using h.lt, fun i hi => by
    by_cases e : i = j
    · subst e
      rw [if_pos rfl]
      exact World.cell?_setCell_same _ _ _ (h.cell i hi)
    · rw [if_neg e, World.cell?_setCell_other _ _ _ _ (fun q => e (by have := congrArg Addr.off q; dsimp at this; omega))]
      exact h.cell i hi⟩, fun i hi => by rw [World.frozen?_setCell]; exact h.free i hi⟩
theorem RowAt.set_other (h : RowAt u b p n c) {a : Addr} (ha : a.block ≠ b) (x : Value) : RowAt (u.setCell a x) b p n c :=
  ⟨by simpa [World.setCell] using h.lt, fun i hi => by
    rw [World.cell?_setCell_other _ _ _ _ (by intro e; exact ha (by rw [e]))]
    exact h.cell i hi⟩
theorem RowOwn.set_other (h : RowOwn u b p n c) {a : Addr} (ha : a.block ≠ b) (x : Value) : RowOwn (u.setCell a x) b p n c :=
  ⟨h.toRowAt.set_other ha x, fun i hi => by rw [World.frozen?_setCell]; exact h.free i hi⟩
theorem size_setCells (u : World) (b : Nat) : ∀ (vs : List Value) (o : Nat), (u.setCells b o vs).heap.size = u.heap.size := by
  intro vs
  induction vs generalizing u with
  | nil => intro o; rfl
  | cons v r ih => intro o; rw [World.setCells, ih]; simp [World.setCell]
theorem RowOwn.sets (h : RowOwn u b p n c) (o m : Nat) (hm : o + m ≤ n) (d : Nat → Value) : RowOwn (u.setCells b (p + o) (lst m d)) b p n (fun i => if o ≤ i ∧ i < o + m then d (i - o) else c i) :=
  ⟨⟨by rw [size_setCells]; exact h.lt, fun i hi => by
    by_cases e : o ≤ i ∧ i < o + m
    · rw [if_pos e]
      have h1 := World.cell?_setCells_in b (lst m d) (p + o) u (fun j hj => by
        rw [lst_len] at hj
        have := h.cell (o + j) (by omega)
        rw [Nat.add_assoc, this]
        rfl) (i - o) (by rw [lst_len]; omega)
      rw [show p + o + (i - o) = p + i by omega] at h1
      rw [h1]
      have h2 := lst_get d (show i - o < m by omega)
      rw [List.getElem?_eq_getElem (by rw [lst_len]; omega)] at h2
      exact h2
    · rw [if_neg e, World.cell?_setCells_out b (lst m d) (p + o) u _ (fun _ _ => by
        show p + i < p + o ∨ p + o + (lst m d).length ≤ p + i
        rw [lst_len]
        omega)]
      exact h.cell i hi⟩, fun i hi => by rw [World.frozen?_setCells]; exact h.free i hi⟩
theorem RowAt.sets_other (h : RowAt u b p n c) {b' : Nat} (hb : b' ≠ b) (o : Nat) (vs : List Value) : RowAt (u.setCells b' o vs) b p n c :=
  ⟨by rw [size_setCells]; exact h.lt, fun i hi => by
    rw [World.cell?_setCells_out b' vs o u _ (fun hq _ => absurd hq.symm hb)]
    exact h.cell i hi⟩
theorem RowOwn.sets_other (h : RowOwn u b p n c) {b' : Nat} (hb : b' ≠ b) (o : Nat) (vs : List Value) : RowOwn (u.setCells b' o vs) b p n c :=
  ⟨h.toRowAt.sets_other hb o vs, fun i hi => by rw [World.frozen?_setCells]; exact h.free i hi⟩
theorem RowOwn.new (w : World) (n : Nat) (c : Nat → Value) (T : TypeId) : RowOwn (w.alloc (.cells (lst n c).toArray T)) w.heap.size 0 n c :=
  ⟨⟨by simp, fun j hj => by
    rw [Nat.zero_add, cell_of_row _ _ _ _ _ _ (heap_alloc_new w _)]
    simpa using lst_get c hj⟩, fun j hj => by
    rw [Nat.zero_add]
    exact frozen_of_row _ _ _ _ _ (heap_alloc_new w _)⟩
end
end Go.Proofs.YtjfimmfnhlimkaaDoor.row
