/-
  The laws' argument that is a house, opened.
-/
import Derived.Test.YtjfimmfnhlimkaaDoorJoin11
import Derived.Test.YtjfimmfnhlimkaaDoorStkOpen
namespace Go.Proofs.YtjfimmfnhlimkaaDoor.hou
open Go Go.ChangeShapes Go.WideShapes Go.ChangeAt Go.RowKit Go.Joins sl row stk

abbrev fldH0 : Field := { name := "Kinds", type := 66, offset := 0, embedded := false, tag := "", pkgPath := "", byteOffset := 0 }
abbrev fldH1 : Field := { name := "Tub", type := 67, offset := 1, embedded := false, tag := "", pkgPath := "", byteOffset := 24 }
abbrev fldH2 : Field := { name := "Every", type := 33, offset := 2, embedded := false, tag := "", pkgPath := "", byteOffset := 26 }
abbrev fldH3 : Field := { name := "Today", type := 67, offset := 3, embedded := false, tag := "", pkgPath := "", byteOffset := 28 }
theorem cellsH : Tryd.prog.cellsOf 69 = 4 := by kernel_rfl
theorem undH : Tryd.prog.underlying 69 = some (.struct #[fldH0, fldH1, fldH2, fldH3]) := by kernel_rfl
theorem cells_sl : Tryd.prog.cellsOf 66 = 1 := by kernel_rfl
theorem cells_i16' : Tryd.prog.cellsOf 67 = 1 := by kernel_rfl
theorem cells_i8 : Tryd.prog.cellsOf 33 = 1 := by kernel_rfl

set_option maxRecDepth 100000 in
/-- a slice that reads as stocks -/
theorem open_stocks {H : Type} {enc : TypeId × Value → H} {W : World} {b0 fuel : Nat} {spare : Nat → Bool} {held : Bool} {v : Value} {y : DataW H × List MemPlace}
    (hf : DataW.trod enc Tryd.prog W b0 spare held fuel 66 [v] = some y) :
    ∃ (A : Option Addr) (c : Nat) (xs : List Stk), v = .slice A xs.length c ∧ xs.length ≤ maxLen ∧ Sl stkC 25 W W.heap.size A xs ∧ ∀ x ∈ xs, Fits x := by
  rcases Deep.open_slice Tryd.underlying66 hf with ⟨hcs, _⟩ | ⟨a, len', cap', m, n, D, Pl, hcs, _, hl, hm, hmm, _, hi⟩
  · simp only [List.cons.injEq, and_true] at hcs
    subst hcs
    exact ⟨none, 0, [], rfl, by simp, Sl.nil _ _ _ _ _, fun x hx => by simp at hx⟩
  · simp only [List.cons.injEq, and_true] at hcs
    subst hcs
    have hle : len' ≤ m := by rw [hmm]; split <;> omega
    have he : ∀ i, i < len' → ∃ x : Stk, Fits x ∧ At W (a.add (i * 25)) (stkC x) := fun i hil => by
      obtain ⟨cs', hc, ht⟩ := hi i (by omega)
      rw [cellsL] at hc
      obtain ⟨_, hcl, hat⟩ := World.cells?_some hc
      obtain ⟨x, hx, rfl⟩ := of_trod ht hcl
      refine ⟨x, hx, fun j v hj => ?_⟩
      have hjl : j < 25 := (lst_some hj).1
      rw [hat j hjl, hj]
    obtain ⟨f, hfx⟩ : ∃ f : Nat → Stk, ∀ i, i < len' → Fits (f i) ∧ At W (a.add (i * 25)) (stkC (f i)) :=
      ⟨fun i => if h : i < len' then Classical.choose (he i h) else zeroS, fun i hil => by simpa [hil] using Classical.choose_spec (he i hil)⟩
    refine ⟨some a, cap', (List.range len').map f, by simp, by simp; omega, ⟨fun k x hx => ?_⟩, fun x hx => ?_⟩
    · simp only [List.getElem?_map, Option.map_eq_some_iff] at hx
      obtain ⟨j, hj, rfl⟩ := hx
      have hk : k < len' := by
        have := (List.getElem?_eq_some_iff.1 hj).1
        simpa using this
      have hjk : j = k := by
        rw [List.getElem?_range hk] at hj
        exact (Option.some.inj hj).symm
      subst hjk
      refine ⟨a, rfl, ?_, (hfx j hk).2⟩
      have := block_lt_of_cell ((hfx j hk).2 0 _ (lst_get _ (by omega)))
      rwa [sl.block_add, sl.block_add] at this
    · simp only [List.mem_map, List.mem_range] at hx
      obtain ⟨i, hil, rfl⟩ := hx
      exact (hfx i hil).1
set_option maxRecDepth 100000 in
theorem open_house {H : Type} {enc : TypeId × Value → H} {W : World} {base b0 : Nat} {spare : Nat → Bool} {held : Bool} {v : Value} {d : DataW H} {p : List MemPlace}
    (hv : Value.okWide Tryd.prog W .any base 69 v) (h : DataW.Trod enc Tryd.prog W b0 spare held 69 v d p) :
    ∃ (A : Option Addr) (c : Nat) (xs : List Stk) (t e y : Int), v = houV (.slice A xs.length c) t e y ∧ xs.length ≤ maxLen ∧ Sl stkC 25 W W.heap.size A xs ∧ (∀ x ∈ xs, Fits x) ∧ (-32768 ≤ t ∧ t ≤ 32767) ∧ (-128 ≤ e ∧ e ≤ 127) ∧ -32768 ≤ y ∧ y ≤ 32767 := by
  obtain ⟨cs, rfl, hsz⟩ := okWide_struct undH hv
  obtain ⟨fuel, hf⟩ := h
  obtain ⟨l⟩ := cs
  have hl : l.length = 4 := by simpa [cellsH] using hsz
  obtain ⟨u0, u1, u2, u3, rfl⟩ : ∃ u0 u1 u2 u3, l = [u0, u1, u2, u3] := by
    match l, hl with
    | [u0, u1, u2, u3], _ => exact ⟨u0, u1, u2, u3, rfl⟩
  obtain ⟨xs, n, _, _, _, hxl, hi⟩ := DataW.trod_struct undH (by simpa [Value.cells] using hf)
  have h0 := hi 0 fldH0 rfl
  have h1 := hi 1 fldH1 rfl
  have h2 := hi 2 fldH2 rfl
  have h3 := hi 3 fldH3 rfl
  simp only [cells_sl, cells_i16', cells_i8, List.drop_zero, List.drop_succ_cons, List.take_succ_cons, List.take_zero] at h0 h1 h2 h3
  obtain ⟨x0, e0⟩ : ∃ x, xs[0]? = some x := ⟨xs[0]'(by rw [hxl]; decide), List.getElem?_eq_getElem _⟩
  obtain ⟨x1, e1⟩ : ∃ x, xs[1]? = some x := ⟨xs[1]'(by rw [hxl]; decide), List.getElem?_eq_getElem _⟩
  obtain ⟨x2, e2⟩ : ∃ x, xs[2]? = some x := ⟨xs[2]'(by rw [hxl]; decide), List.getElem?_eq_getElem _⟩
  obtain ⟨x3, e3⟩ : ∃ x, xs[3]? = some x := ⟨xs[3]'(by rw [hxl]; decide), List.getElem?_eq_getElem _⟩
  rw [e0] at h0
  rw [e1] at h1
  rw [e2] at h2
  rw [e3] at h3
  obtain ⟨A, c, ks, rfl, hm, hS, hF⟩ := open_stocks h0
  obtain ⟨n1, q1, _, w1⟩ := DataW.trod_int Tryd.underlying67 h1
  obtain ⟨n2, q2, _, w2⟩ := DataW.trod_int Tryd.underlying33 h2
  obtain ⟨n3, q3, _, w3⟩ := DataW.trod_int Tryd.underlying67 h3
  simp only [List.cons.injEq, and_true] at q1 q2 q3
  subst q1 q2 q3
  exact ⟨A, c, ks, n1, n2, n3, rfl, hm, hS, hF, bd_i16' w1, bd_i8' w2, bd_i16' w3⟩
end Go.Proofs.YtjfimmfnhlimkaaDoor.hou
