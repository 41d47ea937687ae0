/-
  The arguments of the laws, opened: lists of numbers.
-/
import Derived.Test.YtjfimmfnhlimkaaDoorJoin13
import Derived.Test.YtjfimmfnhlimkaaDoorOpenWords
import Derived.ProofKit
import Derived.OpenShut
import Derived.Lib.SmallJoins
namespace Go.Proofs.YtjfimmfnhlimkaaDoor.intS
open Go.ChangeShapes Go.WideShapes Go.ChangeAt Go.RowKit Go.Joins sl

theorem cells_i64 : Tryd.prog.cellsOf 2 = 1 := by kernel_rfl
set_option maxRecDepth 100000 in
theorem open_many {H : Type} {enc : TypeId × Value → H} {W : World} {base b0 : Nat} {spare : Nat → Bool} {held : Bool} {v : Value} {d : DataW H} {p : List MemPlace}
    (hv : Value.okWide Tryd.prog W .any base 101 v) (h : DataW.Trod enc Tryd.prog W b0 spare held 101 v d p) :
    ∃ (A : Option Addr) (c : Nat) (xs : List Int), v = .slice A xs.length c ∧ xs.length ≤ maxLen ∧ Sl C 1 W W.heap.size A xs := by
  obtain ⟨A, len, cap, rfl⟩ := okWide_slice Tryd.underlying101 hv
  obtain ⟨fuel, hf⟩ := h
  rcases Deep.open_slice Tryd.underlying101 hf with ⟨hcs, _⟩ | ⟨a, len', cap', m, n, D, Pl, hcs, _, hl, hm, hmm, _, hi⟩
  · simp only [Value.cells, List.cons.injEq, Value.slice.injEq, and_true] at hcs
    obtain ⟨rfl, rfl, rfl⟩ := hcs
    exact ⟨none, 0, [], rfl, by simp, Sl.nil _ _ _ _ _⟩
  · simp only [Value.cells, List.cons.injEq, Value.slice.injEq, and_true] at hcs
    obtain ⟨rfl, rfl, rfl⟩ := hcs
    have hle : len ≤ m := by rw [hmm]; split <;> omega
    have he : ∀ i, i < len → ∃ x : Int, At W (a.add (i * 1)) (C x) := fun i hil => by
      obtain ⟨cs', hc, ht⟩ := hi i (by omega)
      rw [cells_i64] at hc
      obtain ⟨_, hcl, hat⟩ := World.cells?_some hc
      obtain ⟨x, hx, _, _⟩ := DataW.trod_int Tryd.underlying2 ht
      subst hx
      refine ⟨x, fun j v hj => ?_⟩
      have hjl : j < 1 := (List.getElem?_eq_some_iff.1 hj).1
      rw [hat j hjl, hj]
    obtain ⟨f, hfx⟩ : ∃ f : Nat → Int, ∀ i, i < len → At W (a.add (i * 1)) (C (f i)) :=
      ⟨fun i => if h : i < len then Classical.choose (he i h) else 0, fun i hil => by simpa [hil] using Classical.choose_spec (he i hil)⟩
    refine ⟨some a, cap, (List.range len).map f, by simp, by simp; omega, ⟨fun k x hx => ?_⟩⟩
    simp only [List.getElem?_map, Option.map_eq_some_iff] at hx
    obtain ⟨j, hj, rfl⟩ := hx
    have hk : k < len := by
      have := (List.getElem?_eq_some_iff.1 hj).1
      simpa using this
    have hjk : j = k := by
      rw [List.getElem?_range hk] at hj
      exact (Option.some.inj hj).symm
    subst hjk
    refine ⟨a, rfl, ?_, hfx j hk⟩
    have := block_lt_of_cell (hfx j hk 0 _ rfl)
    rwa [sl.block_add, sl.block_add] at this
end Go.Proofs.YtjfimmfnhlimkaaDoor.intS
