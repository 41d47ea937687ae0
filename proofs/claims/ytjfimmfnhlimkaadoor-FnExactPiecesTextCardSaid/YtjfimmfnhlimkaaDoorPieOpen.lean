/-
  Piece: the laws' arguments, opened.
-/
import Derived.Test.YtjfimmfnhlimkaaDoorJoin10
import Derived.Test.YtjfimmfnhlimkaaDoorOpenWords
import Derived.ProofKit
import Derived.OpenShut
import Derived.Lib.SmallJoins
import Derived.Deep.Slices
import Derived.Deep.Fields
namespace Go.Proofs.YtjfimmfnhlimkaaDoor.pieS
open Go.ChangeShapes Go.WideShapes Go.ChangeAt Go.RowKit Go.Joins sl

abbrev fldL0 : Field := { name := "Level", type := 33, offset := 0, embedded := false, tag := "", pkgPath := "", byteOffset := 0 }
abbrev fldL1 : Field := { name := "Minutes", type := 33, offset := 1, embedded := false, tag := "", pkgPath := "", byteOffset := 1 }
abbrev fldL2 : Field := { name := "Due", type := 67, offset := 2, embedded := false, tag := "", pkgPath := "", byteOffset := 2 }
theorem cellsL : Tryd.prog.cellsOf 92 = 3 := by kernel_rfl
theorem undL : Tryd.prog.underlying 92 = some (.struct #[fldL0, fldL1, fldL2]) := by kernel_rfl
theorem cells_i16 : Tryd.prog.cellsOf 67 = 1 := by kernel_rfl
theorem cells_i8 : Tryd.prog.cellsOf 33 = 1 := by kernel_rfl
theorem listN {α : Type} {l : List α} (h : l.length = 3) : ∃ u0 u1 u2, l = [u0, u1, u2] := by
  match l, h with
  | [u0, u1, u2], _ => exact ⟨u0, u1, u2, rfl⟩

set_option maxRecDepth 100000 in
/-- some cells that read as such a struct -/
theorem of_trod {H : Type} {enc : TypeId × Value → H} {W : World} {base fuel : Nat} {spare : Nat → Bool} {held : Bool} {cs : List Value} {y : DataW H × List MemPlace}
    (h : DataW.trod enc Tryd.prog W base spare held fuel 92 cs = some y) (hl : cs.length = 3) : ∃ x : Pie, x.Fits ∧ cs = x.cells := by
  obtain ⟨u0, u1, u2, rfl⟩ := listN hl
  obtain ⟨xs, n, _, _, _, _, hf⟩ := DataW.trod_struct undL h
  have h0 := hf 0 fldL0 rfl
  have h1 := hf 1 fldL1 rfl
  have h2 := hf 2 fldL2 rfl
  simp only [cells_i16, cells_i8, List.drop_zero, List.drop_succ_cons, List.take_succ_cons, List.take_zero] at h0 h1 h2
  have hxl : ∃ x0 x1 x2, xs[0]? = some x0 ∧ xs[1]? = some x1 ∧ xs[2]? = some x2 := by
    have e : xs.length = 3 := by assumption
    exact ⟨xs[0], xs[1], xs[2], List.getElem?_eq_getElem _, List.getElem?_eq_getElem _, List.getElem?_eq_getElem _⟩
  obtain ⟨x0, x1, x2, e0, e1, e2⟩ := hxl
  rw [e0] at h0
  rw [e1] at h1
  rw [e2] at h2
  obtain ⟨n0, q0, _, w0⟩ := DataW.trod_int Tryd.underlying33 h0
  obtain ⟨n1, q1, _, w1⟩ := DataW.trod_int Tryd.underlying33 h1
  obtain ⟨n2, q2, _, w2⟩ := DataW.trod_int Tryd.underlying67 h2
  simp only [List.cons.injEq, and_true] at q0 q1 q2
  subst q0 q1 q2
  have a0 := bd_i8' w0
  have a1 := bd_i8' w1
  have a2 := bd_i16' w2
  exact ⟨⟨n0, n1, n2⟩, ⟨a0.1, a0.2, a1.1, a1.2, a2.1, a2.2⟩, rfl⟩

set_option maxRecDepth 100000 in
theorem open_one {H : Type} {enc : TypeId × Value → H} {W : World} {base b0 : Nat} {spare : Nat → Bool} {held : Bool} {v : Value} {d : DataW H} {p : List MemPlace}
    (hv : Value.okWide Tryd.prog W .any base 92 v) (h : DataW.Trod enc Tryd.prog W b0 spare held 92 v d p) : ∃ x : Pie, x.Fits ∧ v = x.v := by
  obtain ⟨cs, rfl, hsz⟩ := okWide_struct undL hv
  obtain ⟨fuel, hf⟩ := h
  obtain ⟨l⟩ := cs
  obtain ⟨x, hx, e⟩ := of_trod (cs := l) (by simpa [Value.cells] using hf) (by simpa [cellsL] using hsz)
  exact ⟨x, hx, by rw [e]⟩
set_option maxRecDepth 100000 in
theorem open_many {H : Type} {enc : TypeId × Value → H} {W : World} {base b0 : Nat} {spare : Nat → Bool} {held : Bool} {v : Value} {d : DataW H} {p : List MemPlace}
    (hv : Value.okWide Tryd.prog W .any base 22 v) (h : DataW.Trod enc Tryd.prog W b0 spare held 22 v d p) :
    ∃ (A : Option Addr) (c : Nat) (xs : List Pie), v = .slice A xs.length c ∧ xs.length ≤ maxLen ∧ Sl Pie.cells 3 W W.heap.size A xs ∧ ∀ x ∈ xs, x.Fits := by
  obtain ⟨A, len, cap, rfl⟩ := okWide_slice Tryd.underlying22 hv
  obtain ⟨fuel, hf⟩ := h
  rcases Deep.open_slice Tryd.underlying22 hf with ⟨hcs, _⟩ | ⟨a, len', cap', m, n, D, Pl, hcs, _, hl, hm, hmm, _, hi⟩
  · simp only [Value.cells, List.cons.injEq, Value.slice.injEq, and_true] at hcs
    obtain ⟨rfl, rfl, rfl⟩ := hcs
    exact ⟨none, 0, [], rfl, by simp, Sl.nil _ _ _ _ _, fun x hx => by simp at hx⟩
  · simp only [Value.cells, List.cons.injEq, Value.slice.injEq, and_true] at hcs
    obtain ⟨rfl, rfl, rfl⟩ := hcs
    have hle : len ≤ m := by rw [hmm]; split <;> omega
    have he : ∀ i, i < len → ∃ x : Pie, x.Fits ∧ At W (a.add (i * 3)) x.cells := fun i hil => by
      obtain ⟨cs', hc, ht⟩ := hi i (by omega)
      rw [cellsL] at hc
      obtain ⟨_, hcl, hat⟩ := World.cells?_some hc
      obtain ⟨x, hx, rfl⟩ := of_trod ht hcl
      refine ⟨x, hx, fun j v hj => ?_⟩
      have hjl : j < 3 := (List.getElem?_eq_some_iff.1 hj).1
      rw [hat j hjl, hj]
    obtain ⟨f, hfx⟩ : ∃ f : Nat → Pie, ∀ i, i < len → (f i).Fits ∧ At W (a.add (i * 3)) (f i).cells :=
      ⟨fun i => if h : i < len then Classical.choose (he i h) else ⟨0, 0, 0⟩, fun i hil => by simpa [hil] using Classical.choose_spec (he i hil)⟩
    refine ⟨some a, cap, (List.range len).map f, by simp, by simp; omega, ⟨fun k x hx => ?_⟩, fun x hx => ?_⟩
    · simp only [List.getElem?_map, Option.map_eq_some_iff] at hx
      obtain ⟨j, hj, rfl⟩ := hx
      have hk : k < len := by
        have := (List.getElem?_eq_some_iff.1 hj).1
        simpa using this
      have hjk : j = k := by
        rw [List.getElem?_range hk] at hj
        exact (Option.some.inj hj).symm
      subst hjk
      refine ⟨a, rfl, ?_, (hfx j hk).2⟩
      have := block_lt_of_cell ((hfx j hk).2 0 _ rfl)
      rwa [sl.block_add, sl.block_add] at this
    · simp only [List.mem_map, List.mem_range] at hx
      obtain ⟨i, hil, rfl⟩ := hx
      exact (hfx i hil).1
end Go.Proofs.YtjfimmfnhlimkaaDoor.pieS
