/-
  The arguments of the laws, opened: lists of lists of numbers.
-/
import Derived.Test.YtjfimmfnhlimkaaDoorJoin13
import Derived.Test.YtjfimmfnhlimkaaDoorIntOpen
import Derived.Deep.Slices
import Derived.Deep.Matrix
namespace Go.Proofs.YtjfimmfnhlimkaaDoor.rows
open Go Go.ChangeShapes Go.WideShapes Go.ChangeAt Go.RowKit Go.Joins sl

theorem cells_row : Tryd.prog.cellsOf 101 = 1 := by kernel_rfl
set_option maxRecDepth 100000 in
theorem open_rows {H : Type} {enc : TypeId × Value → H} {W : World} {base : Nat} {held : Bool} {v : Value} {d : DataW H} {p : List MemPlace}
    (hv : Value.okWide Tryd.prog W .any base 78 v) (h : DataW.Trod enc Tryd.prog W 0 (fun _ => true) held 78 v d p) :
    ∃ (A : Option Addr) (c : Nat) (rs : List Rw), v = .slice A rs.length c ∧ rs.length ≤ maxLen ∧ SS W W.heap.size A rs := by
  obtain ⟨A, len, cap, rfl⟩ := okWide_slice Tryd.underlying78 hv
  obtain ⟨fuel, hf⟩ := h
  rcases Deep.open_int_rows Tryd.underlying78 Tryd.underlying101 Tryd.underlying2 cells_row intS.cells_i64 hf with ⟨hcs, _⟩ | ⟨a, len', cap', AA, LL, CC, ZZ, hcs, _, hl, hm, _, hi⟩
  · simp only [Value.cells, List.cons.injEq, Value.slice.injEq, and_true] at hcs
    obtain ⟨rfl, rfl, rfl⟩ := hcs
    exact ⟨none, 0, [], rfl, by simp, ⟨Sl.nil _ _ _ _ _, fun r hr => by simp at hr, fun r hr => by simp at hr⟩⟩
  · simp only [Value.cells, List.cons.injEq, Value.slice.injEq, and_true] at hcs
    obtain ⟨rfl, rfl, rfl⟩ := hcs
    have hlen : ∀ i, i < len → ((ZZ i).take (LL i)).length = LL i := fun i hil => by
      obtain ⟨_, h1, h2, h3, _⟩ := hi i (by omega)
      rw [List.length_take, h3]
      omega
    have hget : ∀ (k : Nat) (r : Rw), ((List.range len).map fun i => (⟨AA i, CC i, (ZZ i).take (LL i)⟩ : Rw))[k]? = some r → k < len ∧ r = ⟨AA k, CC k, (ZZ k).take (LL k)⟩ := fun k r hr => by
      simp only [List.getElem?_map, Option.map_eq_some_iff] at hr
      obtain ⟨j, hj, rfl⟩ := hr
      have hk : k < len := by
        have := (List.getElem?_eq_some_iff.1 hj).1
        simpa using this
      rw [List.getElem?_range hk] at hj
      obtain rfl := Option.some.inj hj
      exact ⟨hk, rfl⟩
    refine ⟨some a, cap, (List.range len).map fun i => ⟨AA i, CC i, (ZZ i).take (LL i)⟩, by simp, by simp; omega, ⟨⟨fun k r hr => ?_⟩, fun r hr => ⟨fun j x hx => ?_⟩, fun r hr => ?_⟩⟩
    · obtain ⟨hk, rfl⟩ := hget k r hr
      obtain ⟨hc, _⟩ := hi k (by omega)
      refine ⟨a, rfl, ?_, fun j u hj => ?_⟩
      · have := block_lt_of_cell hc
        rwa [sl.block_add] at this
      · have hj0 : j = 0 := by
          have := (List.getElem?_eq_some_iff.1 hj).1
          simp [Rw.C] at this
          exact this
        subst hj0
        simp only [Rw.C, List.getElem?_cons_zero, Option.some.injEq] at hj
        rw [Nat.mul_one, ← hj]
        show W.cell? (a.add k) = some (.slice (AA k) ((ZZ k).take (LL k)).length (CC k))
        rw [hlen k hk]
        exact hc
    · obtain ⟨i, hi'⟩ := List.mem_iff_getElem?.1 hr
      obtain ⟨hk, rfl⟩ := hget i r hi'
      obtain ⟨_, h1, h2, h3, _, h5, h6⟩ := hi i (by omega)
      simp only at hx
      have hjl : j < LL i := by
        have := (List.getElem?_eq_some_iff.1 hx).1
        rwa [hlen i hk] at this
      cases hA : AA i with
      | none => have := h5 hA; omega
      | some a' =>
        obtain ⟨_, h7⟩ := h6 a' hA
        have hc := h7 j (by omega)
        have hval : (ZZ i).getD j 0 = x := by
          rw [List.getElem?_take, if_pos hjl] at hx
          simp [List.getD, hx]
        refine ⟨a', rfl, ?_, fun t u ht => ?_⟩
        · have := block_lt_of_cell hc
          rwa [sl.block_add] at this
        · have ht0 : t = 0 := by
            have := (List.getElem?_eq_some_iff.1 ht).1
            simp at this
            exact this
          subst ht0
          simp only [List.getElem?_cons_zero, Option.some.injEq] at ht
          rw [Nat.mul_one, ← ht, ← hval]
          exact hc
    · obtain ⟨i, hi'⟩ := List.mem_iff_getElem?.1 hr
      obtain ⟨hk, rfl⟩ := hget i r hi'
      obtain ⟨_, h1, h2, _⟩ := hi i (by omega)
      simp only
      rw [hlen i hk]
      omega
end Go.Proofs.YtjfimmfnhlimkaaDoor.rows
