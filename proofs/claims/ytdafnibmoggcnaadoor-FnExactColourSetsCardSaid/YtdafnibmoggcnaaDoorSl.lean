/-
  Slices that read as lists of things, each thing a fixed number of cells; no program in them.
-/
import Derived.WalkKit
import Derived.Lib.Hide
import Derived.Laws.IdiomCopy
namespace Go.Proofs.YtdafnibmoggcnaaDoor.sl
open Go Go.RowKit

/-- a thing's cells lie at p -/
def At (w : World) (p : Addr) (vs : List Value) : Prop := ∀ (j : Nat) (v : Value), vs[j]? = some v → w.cell? (p.add j) = some v

/-- a slice that reads as a list of things, each one of sz cells, all below block B -/
structure Sl {α : Type} (C : α → List Value) (sz : Nat) (w : World) (B : Nat) (A : Option Addr) (xs : List α) : Prop where
  at_ : ∀ (k : Nat) (x : α), xs[k]? = some x → ∃ a, A = some a ∧ a.block < B ∧ At w (a.add (k * sz)) (C x)

theorem block_add (a : Addr) (n : Nat) : (a.add n).block = a.block := by unfold Addr.add; split <;> rfl
theorem add_lit (g n : Nat) : (⟨g, 0, none⟩ : Addr).add n = ⟨g, n, none⟩ := by unfold Addr.add; split <;> simp_all
theorem add_at (g o n : Nat) : (⟨g, o, none⟩ : Addr).add n = ⟨g, o + n, none⟩ := by unfold Addr.add; split <;> simp_all

theorem At.keep {w w' : World} {p : Addr} {vs : List Value} (h : At w p vs) (hk : ∀ q : Addr, q.block = p.block → w'.cell? q = w.cell? q) : At w' p vs :=
  fun j v hv => (hk _ (block_add p j)).trans (h j v hv)
theorem At.below {w w' : World} {p : Addr} {vs : List Value} {B : Nat} (h : At w p vs) (hb : Below B w w') (hp : p.block < B) : At w' p vs :=
  h.keep fun q hq => hb.cell (by rw [hq]; exact hp)

section
variable {α : Type} {C : α → List Value} {sz : Nat} {w w' : World} {B : Nat} {A : Option Addr} {xs : List α}

theorem Sl.keep (h : Sl C sz w B A xs) (hk : ∀ q : Addr, q.block < B → w'.cell? q = w.cell? q) : Sl C sz w' B A xs :=
  ⟨fun k x hx => by
    obtain ⟨a, e, hb, hg⟩ := h.at_ k x hx
    exact ⟨a, e, hb, hg.keep fun q hq => hk q (by rw [hq, block_add]; exact hb)⟩⟩
theorem Sl.below (h : Sl C sz w B A xs) (hb : Below B w w') : Sl C sz w' B A xs := h.keep fun _ hq => hb.cell hq
theorem Sl.more {B' : Nat} (h : Sl C sz w B A xs) (hB : B ≤ B') : Sl C sz w B' A xs :=
  ⟨fun k x hx => by
    obtain ⟨a, e, hb, hg⟩ := h.at_ k x hx
    exact ⟨a, e, Nat.lt_of_lt_of_le hb hB, hg⟩⟩
/-- one step on, for a slice that lay below the old world's end -/
theorem Sl.next (h : Sl C sz w w.heap.size A xs) (hb : Below w.heap.size w w') : Sl C sz w' w'.heap.size A xs := (h.below hb).more hb.size
theorem Sl.nil (C : α → List Value) (sz : Nat) (w : World) (B : Nat) (A : Option Addr) : Sl C sz w B A [] := ⟨fun k x hx => by simp at hx⟩
end

section
variable {α : Type} {C : α → List Value} {sz : Nat}

theorem flat_get : ∀ {xs : List α} (_ : ∀ x ∈ xs, (C x).length = sz) {k : Nat} {x : α} {j : Nat} {v : Value}, xs[k]? = some x → (C x)[j]? = some v → (xs.flatMap C)[k * sz + j]? = some v
  | [], _, k, x, j, v, hx, _ => by simp at hx
  | y :: r, hC, 0, x, j, v, hx, hv => by
    simp only [List.getElem?_cons_zero, Option.some.injEq] at hx
    subst hx
    have hj : j < (C y).length := (List.getElem?_eq_some_iff.1 hv).1
    rw [List.flatMap_cons, Nat.zero_mul, Nat.zero_add, List.getElem?_append_left hj]
    exact hv
  | y :: r, hC, k + 1, x, j, v, hx, hv => by
    simp only [List.getElem?_cons_succ] at hx
    have hy : (C y).length = sz := hC y (List.mem_cons_self ..)
    rw [List.flatMap_cons, List.getElem?_append_right (by rw [hy, Nat.add_mul]; omega), hy]
    have e : (k + 1) * sz + j - sz = k * sz + j := by rw [Nat.add_mul]; omega
    rw [e]
    exact flat_get (fun z hz => hC z (List.mem_cons_of_mem _ hz)) hx hv
theorem flat_len : ∀ {xs : List α} (_ : ∀ x ∈ xs, (C x).length = sz), (xs.flatMap C).length = xs.length * sz
  | [], _ => by simp
  | y :: r, hC => by
    rw [List.flatMap_cons, List.length_append, hC y (List.mem_cons_self ..), flat_len (fun z hz => hC z (List.mem_cons_of_mem _ hz)), List.length_cons, Nat.add_mul]
    omega

/-- the first k things lie in a list of cells -/
def Done (C : α → List Value) (sz : Nat) (xs : List α) (k : Nat) (L : List Value) : Prop := ∀ i x, i < k → xs[i]? = some x → ∀ j v, (C x)[j]? = some v → L[i * sz + j]? = some v
/-- some cells, stored one behind the other -/
def setList : List Value → Nat → List Value → List Value
  | L, _, [] => L
  | L, o, v :: r => setList (L.set o v) (o + 1) r
theorem setList_len : ∀ (vs : List Value) (L : List Value) (o : Nat), (setList L o vs).length = L.length
  | [], _, _ => rfl
  | v :: r, L, o => by rw [setList, setList_len r]; simp
theorem setList_out : ∀ (vs : List Value) (L : List Value) (o i : Nat), (i < o ∨ o + vs.length ≤ i) → (setList L o vs)[i]? = L[i]?
  | [], _, _, _, _ => rfl
  | v :: r, L, o, i, h => by
    have hl : (v :: r).length = r.length + 1 := rfl
    rw [setList, setList_out r _ _ _ (by omega), List.getElem?_set_ne (by omega)]
theorem setList_in : ∀ (vs : List Value) (L : List Value) (o j : Nat) (v : Value), o + vs.length ≤ L.length → vs[j]? = some v → (setList L o vs)[o + j]? = some v
  | [], _, _, j, v, _, h => by simp at h
  | u :: r, L, o, 0, v, hl, h => by
    simp only [List.getElem?_cons_zero, Option.some.injEq] at h
    subst h
    have hl' : (u :: r).length = r.length + 1 := rfl
    rw [setList, setList_out r _ _ _ (by omega), Nat.add_zero, List.getElem?_set_self (by omega)]
  | u :: r, L, o, j + 1, v, hl, h => by
    simp only [List.getElem?_cons_succ] at h
    have hl' : (u :: r).length = r.length + 1 := rfl
    have e : o + (j + 1) = o + 1 + j := by omega
    rw [setList, e]
    exact setList_in r _ _ j v (by simp; omega) h
theorem Done.zero (C : α → List Value) (sz : Nat) (xs : List α) (L : List Value) : Done C sz xs 0 L := fun i x hi => absurd hi (by omega)
theorem Done.step {xs : List α} {k : Nat} {L : List Value} {x : α} (h : Done C sz xs k L) (hC : ∀ x ∈ xs, (C x).length = sz) (hx : xs[k]? = some x) (hl : L.length = xs.length * sz) : Done C sz xs (k + 1) (setList L (k * sz) (C x)) := by
  have hk : k < xs.length := (List.getElem?_eq_some_iff.1 hx).1
  have hlen : (C x).length = sz := hC x (List.mem_of_getElem? hx)
  have hroom : k * sz + sz ≤ xs.length * sz := by
    have := Nat.mul_le_mul_right sz (show k + 1 ≤ xs.length from hk)
    rw [Nat.add_mul] at this
    omega
  intro i y hi hy j v hv
  rcases Nat.lt_or_ge i k with hik | hik
  · have hj : j < sz := by
      have := (List.getElem?_eq_some_iff.1 hv).1
      rwa [hC y (List.mem_of_getElem? hy)] at this
    have hm : i * sz + sz ≤ k * sz := by
      have := Nat.mul_le_mul_right sz (show i + 1 ≤ k from hik)
      rw [Nat.add_mul] at this
      omega
    rw [setList_out _ _ _ _ (by omega)]
    exact h i y hik hy j v hv
  · obtain rfl : i = k := by omega
    obtain rfl : x = y := by rw [hx] at hy; exact Option.some.inj hy
    exact setList_in _ _ _ _ _ (by rw [hlen, hl]; exact hroom) hv
theorem Done.full {xs : List α} {L : List Value} (h : Done C sz xs xs.length L) (hC : ∀ x ∈ xs, (C x).length = sz) (hs : 0 < sz) (hl : L.length = xs.length * sz) : L = xs.flatMap C := by
  refine List.ext_getElem? fun i => ?_
  rcases Nat.lt_or_ge i (xs.length * sz) with hi | hi
  · have hk : i / sz < xs.length := (Nat.div_lt_iff_lt_mul hs).2 hi
    have hx : xs[i / sz]? = some xs[i / sz] := List.getElem?_eq_getElem hk
    have hj : i % sz < (C xs[i / sz]).length := by
      rw [hC _ (List.getElem_mem hk)]
      exact Nat.mod_lt _ hs
    have hv : (C xs[i / sz])[i % sz]? = some (C xs[i / sz])[i % sz] := List.getElem?_eq_getElem hj
    have e : i / sz * sz + i % sz = i := by rw [Nat.mul_comm]; exact Nat.div_add_mod i sz
    have h1 := h _ _ hk hx _ _ hv
    have h2 := flat_get hC hx hv
    rw [e] at h1 h2
    rw [h1, h2]
  · rw [List.getElem?_eq_none (by omega), List.getElem?_eq_none (by rw [flat_len hC]; omega)]
end

section
variable {w w' : World} {base : Nat} {e : TypeId} {sz : Nat} {v : Value} {n : Nat} {L : List Value}

theorem owns_block (h : w.ownsRow base e sz v n L) {B : Nat} (hw : Below B w w') (hB : ∀ g, v.ownBlock = some g → g < B) : w'.ownsRow base e sz v n L := by
  refine ⟨h.1, ?_⟩
  rcases h.2 with hn | ⟨g, cap, cur, rfl, hg, hh, rest⟩
  · exact .inl hn
  · exact .inr ⟨g, cap, cur, rfl, hg, (hw.block g (hB g rfl)).trans hh, rest⟩
/-- what was owned is owned, as long as nothing that was there is changed -/
theorem owns_next (h : w.ownsRow base e sz v n L) (hw : Below w.heap.size w w') : w'.ownsRow base e sz v n L := owns_block h hw fun g hg => (h.lt g hg).2
/-- .. and where another block is written -/
theorem owns_other (h : w.ownsRow base e sz v n L) {g : Nat} (hg : w.grownBy w' (some g)) (hne : ∀ k, v.ownBlock = some k → k ≠ g) : w'.ownsRow base e sz v n L :=
  h.kept hg (by
    cases hv : v.ownBlock with
    | none => exact .inl rfl
    | some k => exact .inr (fun e => hne k hv (Option.some.inj e)))
theorem owns_cells {g c o : Nat} {vs : List Value} (h : w.ownsRow base e sz (.slice (some ⟨g, 0, none⟩) n c) n L) :
    (w.setCells g o vs).ownsRow base e sz (.slice (some ⟨g, 0, none⟩) n c) n (setList L o vs) ∧ w.grownBy (w.setCells g o vs) (some g) := by
  induction vs generalizing w L o with
  | nil => exact ⟨h, ⟨rfl, rfl, rfl, Nat.le_refl _, fun _ _ _ => rfl⟩⟩
  | cons v r ih =>
    obtain ⟨h1, g1⟩ := h.stored o v
    obtain ⟨h2, g2⟩ := ih (o := o + 1) h1
    refine ⟨h2, ⟨g2.os.trans g1.os, g2.tape.trans g1.tape, g2.output.trans g1.output, Nat.le_trans g1.size g2.size, fun k hk hne => (g2.block k (Nat.lt_of_lt_of_le hk g1.size) hne).trans (g1.block k hk hne)⟩⟩
theorem owns_slice (h : w.ownsRow base e sz v n L) : ∃ A c, v = .slice A n c ∧ ∀ a, A = some a → a.block < w.heap.size ∧ base ≤ a.block := by
  rcases h.2 with ⟨rfl, rfl⟩ | ⟨g, cap, cur, rfl, hg, hh, rest⟩
  · exact ⟨none, 0, rfl, fun a ha => by cases ha⟩
  · exact ⟨some ⟨g, 0, none⟩, cap, rfl, fun a ha => by
      obtain rfl := Option.some.inj ha
      exact ⟨(Array.getElem?_eq_some_iff.1 hh).1, hg⟩⟩
theorem owns_below (h : w.ownsRow base e sz v n L) {b : Nat} (hb : b ≤ base) : w.ownsRow b e sz v n L := by
  refine ⟨h.1, ?_⟩
  rcases h.2 with hn | ⟨g, cap, cur, rfl, hg, rest⟩
  · exact .inl hn
  · exact .inr ⟨g, cap, cur, rfl, Nat.le_trans hb hg, rest⟩
end

/-- an owned row reads as its list -/
theorem Sl.of_owns {α : Type} {C : α → List Value} {sz : Nat} {w : World} {base : Nat} {e : TypeId} {A : Option Addr} {n c : Nat} {xs : List α} (h : w.ownsRow base e sz (.slice A n c) n (xs.flatMap C)) (hC : ∀ x ∈ xs, (C x).length = sz) (hs : 0 < sz) :
    Sl C sz w w.heap.size A xs := by
  have hlen : xs.length * sz = n * sz := by rw [← flat_len hC]; exact h.1
  have hn : xs.length = n := Nat.eq_of_mul_eq_mul_right hs hlen
  rcases h.2 with ⟨hv, rfl⟩ | ⟨g, cap, cur, hv, hg, hh, hrest⟩
  · have : xs = [] := List.length_eq_zero_iff.1 hn
    subst this
    exact Sl.nil _ _ _ _ _
  · simp only [Value.slice.injEq, true_and] at hv
    obtain ⟨rfl, rfl⟩ := hv
    refine ⟨fun k x hx => ⟨_, rfl, (Array.getElem?_eq_some_iff.1 hh).1, fun j v hv => ?_⟩⟩
    have hcell := h.cells (g := g) rfl (k * sz + j) v (flat_get hC hx hv)
    rw [add_lit, add_at]
    rwa [add_lit] at hcell
theorem owns_len {α : Type} {C : α → List Value} {sz : Nat} {w : World} {base : Nat} {e : TypeId} {v : Value} {n : Nat} {xs : List α} (h : w.ownsRow base e sz v n (xs.flatMap C)) (hC : ∀ x ∈ xs, (C x).length = sz) (hs : 0 < sz) : n = xs.length := by
  have hlen : xs.length * sz = n * sz := by rw [← flat_len hC]; exact h.1
  exact (Nat.eq_of_mul_eq_mul_right hs hlen).symm

/-- numbers of one kind -/
abbrev cInt (k : IntKind) (x : Int) : List Value := [.int k x]
theorem cInt_len (k : IntKind) (xs : List Int) : ∀ x ∈ xs, (cInt k x).length = 1 := fun _ _ => rfl
theorem grownBy_below {w w' : World} {g B : Nat} (h : w.grownBy w' (some g)) (hB : B ≤ w.heap.size) (hg : B ≤ g) : Below B w w' :=
  ⟨h.os, h.tape, h.output, h.size, fun k hk => h.block k (by omega) (fun e => by have := Option.some.inj e; omega)⟩
theorem Sl.other {α : Type} {C : α → List Value} {sz : Nat} {w w' : World} {B : Nat} {A : Option Addr} {xs : List α} (h : Sl C sz w B A xs) {g : Nat} (hg : w.grownBy w' (some g)) (hB : B ≤ w.heap.size) (hne : B ≤ g) : Sl C sz w' B A xs :=
  h.below (grownBy_below hg hB hne)
end Go.Proofs.YtdafnibmoggcnaaDoor.sl
