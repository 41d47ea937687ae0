/-
  The arguments of the laws, opened: lists of garments.
-/
import Derived.Test.YtjfimmfnhlimkaaDoorOpen
import Derived.Test.YtjfimmfnhlimkaaDoorGarS
import Derived.Deep.Slices
import Derived.Deep.Fields
namespace Go.Proofs.YtjfimmfnhlimkaaDoor
open Go.ChangeShapes Go.WideShapes Go.ChangeAt Go.RowKit Go.Joins

abbrev fldL0 : Field := { name := "Colour", type := 5, offset := 0, embedded := false, tag := "", pkgPath := "", byteOffset := 0 }
abbrev fldL1 : Field := { name := "Need", type := 33, offset := 1, embedded := false, tag := "", pkgPath := "", byteOffset := 1 }
abbrev fldL2 : Field := { name := "Most", type := 33, offset := 2, embedded := false, tag := "", pkgPath := "", byteOffset := 2 }
abbrev fldL3 : Field := { name := "Weight", type := 67, offset := 3, embedded := false, tag := "", pkgPath := "", byteOffset := 4 }
theorem undGarL : Tryd.prog.underlying 120 = some (.struct #[fldL0, fldL1, fldL2, fldL3]) := by kernel_rfl

theorem list4 {α : Type} {l : List α} (h : l.length = 4) : ∃ a0 a1 a2 a3, l = [a0, a1, a2, a3] := by
  match l, h with
  | [a0, a1, a2, a3], _ => exact ⟨a0, a1, a2, a3, rfl⟩
theorem cellsI8 : Tryd.prog.cellsOf 33 = 1 := by kernel_rfl
theorem cellsI16 : Tryd.prog.cellsOf 67 = 1 := by kernel_rfl

set_option maxRecDepth 100000 in
/-- four cells that read as a garment -/
theorem gar_of_trod {H : Type} {enc : TypeId × Value → H} {W : World} {base fuel : Nat} {spare : Nat → Bool} {held : Bool} {cs : List Value} {y : DataW H × List MemPlace}
    (h : DataW.trod enc Tryd.prog W base spare held fuel 120 cs = some y) (hl : cs.length = 4) : ∃ x : Gar, x.Fits ∧ cs = x.cells := by
  obtain ⟨u0, u1, u2, u3, rfl⟩ := list4 hl
  obtain ⟨xs, n, _, _, _, _, hf⟩ := DataW.trod_struct undGarL h
  have h0 := hf 0 fldL0 rfl
  have h1 := hf 1 fldL1 rfl
  have h2 := hf 2 fldL2 rfl
  have h3 := hf 3 fldL3 rfl
  simp only [cellsU8, cellsI8, cellsI16, List.drop_zero, List.drop_succ_cons, List.take_succ_cons, List.take_zero] at h0 h1 h2 h3
  have hxl : ∃ x0 x1 x2 x3, xs[0]? = some x0 ∧ xs[1]? = some x1 ∧ xs[2]? = some x2 ∧ xs[3]? = some x3 := by
    have e : xs.length = 4 := by assumption
    exact ⟨xs[0], xs[1], xs[2], xs[3], List.getElem?_eq_getElem _, List.getElem?_eq_getElem _, List.getElem?_eq_getElem _, List.getElem?_eq_getElem _⟩
  obtain ⟨x0, x1, x2, x3, e0, e1, e2, e3⟩ := hxl
  rw [e0] at h0
  rw [e1] at h1
  rw [e2] at h2
  rw [e3] at h3
  obtain ⟨c, q0, _, wc⟩ := DataW.trod_int Tryd.underlying5 h0
  obtain ⟨n', q1, _, wn⟩ := DataW.trod_int Tryd.underlying33 h1
  obtain ⟨k, q2, _, wk⟩ := DataW.trod_int Tryd.underlying33 h2
  obtain ⟨g, q3, _, wg⟩ := DataW.trod_int Tryd.underlying67 h3
  simp only [List.cons.injEq, and_true] at q0 q1 q2 q3
  subst q0 q1 q2 q3
  have a0 := bd_u8' wc
  have a1 := bd_i8' wn
  have a2 := bd_i8' wk
  have a3 := bd_i16' wg
  exact ⟨⟨c, n', k, g⟩, ⟨a0.1, a0.2, a1.1, a1.2, a2.1, a2.2, a3.1, a3.2⟩, rfl⟩

set_option maxRecDepth 100000 in
theorem open_garS {H : Type} {enc : TypeId × Value → H} {W : World} {base b0 : Nat} {spare : Nat → Bool} {held : Bool} {v : Value} {d : DataW H} {p : List MemPlace}
    (hv : Value.okWide Tryd.prog W .any base 46 v) (h : DataW.Trod enc Tryd.prog W b0 spare held 46 v d p) :
    ∃ (A : Option Addr) (c : Nat) (gs : List Gar), v = .slice A gs.length c ∧ gs.length ≤ maxLen ∧ garS.GS W W.heap.size A gs := by
  obtain ⟨A, len, cap, rfl⟩ := okWide_slice Tryd.underlying46 hv
  obtain ⟨fuel, hf⟩ := h
  rcases Deep.open_slice Tryd.underlying46 hf with ⟨hcs, _⟩ | ⟨a, len', cap', m, n, D, Pl, hcs, _, hl, hm, hmm, _, hi⟩
  · simp only [Value.cells, List.cons.injEq, Value.slice.injEq, and_true] at hcs
    obtain ⟨rfl, rfl, rfl⟩ := hcs
    exact ⟨none, 0, [], rfl, by simp, ⟨fun k x hx => by simp at hx, fun x hx => by simp at hx⟩⟩
  · simp only [Value.cells, List.cons.injEq, Value.slice.injEq, and_true] at hcs
    obtain ⟨rfl, rfl, rfl⟩ := hcs
    have hle : len ≤ m := by rw [hmm]; split <;> omega
    have he : ∀ i, i < len → ∃ x : Gar, x.Fits ∧ garS.GarAt W (a.add (i * 4)) x := fun i hil => by
      obtain ⟨cs', hc, ht⟩ := hi i (by omega)
      rw [cellsGar] at hc
      obtain ⟨_, hcl, hat⟩ := World.cells?_some hc
      obtain ⟨x, hx, rfl⟩ := gar_of_trod ht hcl
      refine ⟨x, hx, ?_⟩
      have g0 := hat 0 (by omega)
      have g1 := hat 1 (by omega)
      have g2 := hat 2 (by omega)
      have g3 := hat 3 (by omega)
      exact ⟨g0, g1, g2, g3⟩
    obtain ⟨f, hfx⟩ : ∃ f : Nat → Gar, ∀ i, i < len → (f i).Fits ∧ garS.GarAt W (a.add (i * 4)) (f i) :=
      ⟨fun i => if h : i < len then Classical.choose (he i h) else ⟨0, 0, 0, 0⟩, fun i hil => by simpa [hil] using Classical.choose_spec (he i hil)⟩
    refine ⟨some a, cap, (List.range len).map f, by simp, by simp; omega, ⟨fun k x hx => ?_, fun x hx => ?_⟩⟩
    · simp only [List.getElem?_map, Option.map_eq_some_iff] at hx
      obtain ⟨j, hj, rfl⟩ := hx
      have hk : k < len := by
        have := (List.getElem?_eq_some_iff.1 hj).1
        simpa using this
      have hjk : j = k := by
        rw [List.getElem?_range hk] at hj
        exact (Option.some.inj hj).symm
      subst hjk
      refine ⟨a, rfl, ?_, (hfx j hk).2⟩
      have := block_lt_of_cell (hfx j hk).2.c0
      rwa [garS.block_add] at this
    · simp only [List.mem_map, List.mem_range] at hx
      obtain ⟨i, hil, rfl⟩ := hx
      exact (hfx i hil).1
end Go.Proofs.YtjfimmfnhlimkaaDoor
