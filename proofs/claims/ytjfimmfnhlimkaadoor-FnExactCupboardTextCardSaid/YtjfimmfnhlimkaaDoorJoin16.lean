/-
  Several texts of this proof, joined.
-/
import Derived.Test.YtjfimmfnhlimkaaDoorJoin11
import Derived.Test.YtjfimmfnhlimkaaDoorCupF
import Derived.Laws.AppendOwnNone
import Derived.Lib.SliceRun
/-
  Rows that are copied, the program's way and the model's.
-/
namespace Go.Proofs.YtjfimmfnhlimkaaDoor.rows
open Go Go.RowKit sl fold

theorem i64cell (xs : List Int) : ∀ u ∈ xs.flatMap intS.C, u.oneCell' = true := by
  intro u hu
  obtain ⟨x, _, hx⟩ := List.mem_flatMap.1 hu
  rw [List.mem_singleton.1 hx]
  rfl
theorem Sl.cells {w : World} {B : Nat} {a : Addr} {xs : List Int} (h : Sl intS.C 1 w B (some a) xs) : ∀ (j : Nat) u, (xs.flatMap intS.C)[j]? = some u → w.cell? (a.add j) = some u := by
  intro j u hu
  have hl := (List.getElem?_eq_some_iff.1 hu).1
  rw [flat_len (sz := 1) (fun y _ => rfl), Nat.mul_one] at hl
  obtain ⟨a', e, _, hat⟩ := h.at_ j xs[j] (List.getElem?_eq_getElem hl)
  obtain rfl := Option.some.inj e
  have h1 := intS.at_ hat
  have h2 := flat_get (fun y _ => rfl : ∀ y ∈ xs, (intS.C y).length = 1) (List.getElem?_eq_getElem hl) (j := 0) (v := .int .i64 xs[j]) rfl
  rw [Nat.mul_one, Nat.add_zero] at h2
  rw [h2] at hu
  rw [← Option.some.inj hu]
  exact h1
theorem Sl.none_nil {w : World} {B : Nat} {xs : List Int} (h : Sl intS.C 1 w B none xs) : xs = [] := by
  cases xs with
  | nil => rfl
  | cons x t =>
    obtain ⟨a, e, _⟩ := h.at_ 0 x rfl
    cases e
end Go.Proofs.YtjfimmfnhlimkaaDoor.rows

/-
  Cupboards copied, the model's.
-/
namespace Go.Proofs.YtjfimmfnhlimkaaDoor.rows
open Go Go.RowKit sl fold

theorem infoRow : (Tryd.prog.info? 101).map (fun i => (i.zero, i.size, i.bytes)) = some (some (.slice none 0 0), 1, 24) := by kernel_rfl
/-- a block of rows is no block of numbers -/
theorem rows_ne {w : World} {base base' : Nat} {r : Rw} {v : Value} {n : Nat} {L : List Value} (h : Own1 w base r) (h' : w.ownsRow base' 101 1 v n L) : ∀ k, r.v.ownBlock = some k → v.ownBlock ≠ some k := by
  intro k hk hv
  rcases h with ⟨hA, _, _⟩ | ⟨g, o, cur, hA, hb, hg, _⟩
  · rw [Rw.v, hA] at hk
    simp [Value.ownBlock] at hk
  · rw [Rw.v, hA] at hk
    simp only [Value.ownBlock, Option.some.injEq] at hk
    subst hk
    rcases h'.2 with ⟨rfl, _⟩ | ⟨g', cap, cu, rfl, _, hg', _⟩
    · simp [Value.ownBlock] at hv
    · simp only [Value.ownBlock, Option.some.injEq] at hv
      subst hv
      rw [hg] at hg'
      simp at hg'
/-- rows of the call's own, behind a value -/
structure OV (w : World) (base : Nat) (v : Value) (rs : List Rw) : Prop where
  outer : w.ownsRow base 101 1 v rs.length (rs.map Rw.v)
  each : ∀ r ∈ rs, Own1 w base r
  dist : (rs.map Rw.v).Pairwise fun a b => ∀ k, a.ownBlock = some k → b.ownBlock ≠ some k
theorem OV.next {w w' : World} {base : Nat} {v : Value} {rs : List Rw} (h : OV w base v rs) (hb : Below w.heap.size w w') : OV w' base v rs :=
  ⟨owns_next h.outer hb, fun r hr => (h.each r hr).next hb, h.dist⟩
theorem OV.ot {w : World} {base : Nat} {A : Option Addr} {c : Nat} {rs : List Rw} (h : OV w base (.slice A rs.length c) rs) : OT w base A c rs :=
  ⟨h.outer, h.each, h.dist, fun v hv k hk => by
    obtain ⟨r, hr, rfl⟩ := List.mem_map.1 hv
    exact rows_ne (h.each r hr) h.outer k hk⟩
/-- one more row -/
theorem OV.snoc {w w1 w' : World} {base : Nat} {v v' : Value} {rs : List Rw} {r : Rw} (h : OV w base v rs) (hb : Below w.heap.size w w1) (hr : Own1 w1 base r) (hnew : ∀ k, r.v.ownBlock = some k → w.heap.size ≤ k) (hg : w1.grownBy w' v.ownBlock)
    (ho : w'.ownsRow base 101 1 v' (rs.length + 1) (rs.map Rw.v ++ [r.v])) : OV w' base v' (rs ++ [r]) := by
  have h1 := h.next hb
  have keep : ∀ x, Own1 w1 base x → Own1 w' base x := fun x hx => hx.keep fun g hg' => hg.block g (hx.at_lt g hg').2 (fun e => rows_ne hx h1.outer g hg' e.symm)
  refine ⟨by simpa using ho, fun x hx => ?_, ?_⟩
  · rcases List.mem_append.1 hx with h2 | h2
    · exact keep x (h1.each x h2)
    · obtain rfl := List.mem_singleton.1 h2
      exact keep x hr
  · rw [List.map_append, List.map_cons, List.map_nil]
    refine List.pairwise_append.2 ⟨h.dist, List.pairwise_singleton _ _, fun a ha b hb' k hk e => ?_⟩
    obtain rfl := List.mem_singleton.1 hb'
    obtain ⟨x, hx, rfl⟩ := List.mem_map.1 ha
    have h2 := ((h.each x hx).at_lt k hk).2
    have h3 := hnew k e
    omega
end Go.Proofs.YtjfimmfnhlimkaaDoor.rows
