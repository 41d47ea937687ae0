/-
  Iron: the laws' arguments, opened.
-/
import Derived.Test.YtajhdgoinghmmaaDoorJoin11
import Derived.Test.YtajhdgoinghmmaaDoorOpenWords
import Derived.ProofKit
import Derived.OpenShut
import Derived.Lib.SmallJoins
import Derived.Deep.Slices
import Derived.Deep.Fields
namespace Go.Proofs.YtajhdgoinghmmaaDoor.iroS
open Go.ChangeShapes Go.WideShapes Go.ChangeAt Go.RowKit Go.Joins sl

abbrev fldL0 : Field := { name := "Up", type := 22, offset := 0, embedded := false, tag := "", pkgPath := "", byteOffset := 0 }
abbrev fldL1 : Field := { name := "Down", type := 22, offset := 1, embedded := false, tag := "", pkgPath := "", byteOffset := 1 }
theorem cellsL : Tryd.prog.cellsOf 24 = 2 := by kernel_rfl
theorem undL : Tryd.prog.underlying 24 = some (.struct #[fldL0, fldL1]) := by kernel_rfl
theorem cells_i8 : Tryd.prog.cellsOf 22 = 1 := by kernel_rfl
theorem listN {α : Type} {l : List α} (h : l.length = 2) : ∃ u0 u1, l = [u0, u1] := by
  match l, h with
  | [u0, u1], _ => exact ⟨u0, u1, rfl⟩

set_option maxRecDepth 100000 in
/-- some cells that read as such a struct -/
theorem of_trod {H : Type} {enc : TypeId × Value → H} {W : World} {base fuel : Nat} {spare : Nat → Bool} {held : Bool} {cs : List Value} {y : DataW H × List MemPlace}
    (h : DataW.trod enc Tryd.prog W base spare held fuel 24 cs = some y) (hl : cs.length = 2) : ∃ x : Iro, x.Fits ∧ cs = x.cells := by
  obtain ⟨u0, u1, rfl⟩ := listN hl
  obtain ⟨xs, n, _, _, _, _, hf⟩ := DataW.trod_struct undL h
  have h0 := hf 0 fldL0 rfl
  have h1 := hf 1 fldL1 rfl
  simp only [cells_i8, List.drop_zero, List.drop_succ_cons, List.take_succ_cons, List.take_zero] at h0 h1
  have hxl : ∃ x0 x1, xs[0]? = some x0 ∧ xs[1]? = some x1 := by
    have e : xs.length = 2 := by assumption
    exact ⟨xs[0], xs[1], List.getElem?_eq_getElem _, List.getElem?_eq_getElem _⟩
  obtain ⟨x0, x1, e0, e1⟩ := hxl
  rw [e0] at h0
  rw [e1] at h1
  obtain ⟨n0, q0, _, w0⟩ := DataW.trod_int Tryd.underlying22 h0
  obtain ⟨n1, q1, _, w1⟩ := DataW.trod_int Tryd.underlying22 h1
  simp only [List.cons.injEq, and_true] at q0 q1
  subst q0 q1
  have a0 := bd_i8' w0
  have a1 := bd_i8' w1
  exact ⟨⟨n0, n1⟩, ⟨a0.1, a0.2, a1.1, a1.2⟩, rfl⟩

set_option maxRecDepth 100000 in
theorem open_one {H : Type} {enc : TypeId × Value → H} {W : World} {base b0 : Nat} {spare : Nat → Bool} {held : Bool} {v : Value} {d : DataW H} {p : List MemPlace}
    (hv : Value.okWide Tryd.prog W .any base 24 v) (h : DataW.Trod enc Tryd.prog W b0 spare held 24 v d p) : ∃ x : Iro, x.Fits ∧ v = x.v := by
  obtain ⟨cs, rfl, hsz⟩ := okWide_struct undL hv
  obtain ⟨fuel, hf⟩ := h
  obtain ⟨l⟩ := cs
  obtain ⟨x, hx, e⟩ := of_trod (cs := l) (by simpa [Value.cells] using hf) (by simpa [cellsL] using hsz)
  exact ⟨x, hx, by rw [e]⟩
end Go.Proofs.YtajhdgoinghmmaaDoor.iroS
