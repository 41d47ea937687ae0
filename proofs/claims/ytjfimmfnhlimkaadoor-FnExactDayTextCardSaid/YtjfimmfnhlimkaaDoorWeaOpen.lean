/-
  Weather: the laws' arguments, opened.
-/
import Derived.Test.YtjfimmfnhlimkaaDoorJoin10
import Derived.Test.YtjfimmfnhlimkaaDoorOpenWords
import Derived.ProofKit
import Derived.OpenShut
import Derived.Lib.SmallJoins
import Derived.Deep.Slices
import Derived.Deep.Fields
namespace Go.Proofs.YtjfimmfnhlimkaaDoor.weaS
open Go.ChangeShapes Go.WideShapes Go.ChangeAt Go.RowKit Go.Joins sl

abbrev fldL0 : Field := { name := "Sun", type := 33, offset := 0, embedded := false, tag := "", pkgPath := "", byteOffset := 0 }
abbrev fldL1 : Field := { name := "Wind", type := 33, offset := 1, embedded := false, tag := "", pkgPath := "", byteOffset := 1 }
abbrev fldL2 : Field := { name := "Rain", type := 33, offset := 2, embedded := false, tag := "", pkgPath := "", byteOffset := 2 }
theorem cellsL : Tryd.prog.cellsOf 35 = 3 := by kernel_rfl
theorem undL : Tryd.prog.underlying 35 = some (.struct #[fldL0, fldL1, fldL2]) := by kernel_rfl
theorem cells_i8 : Tryd.prog.cellsOf 33 = 1 := by kernel_rfl
theorem listN {α : Type} {l : List α} (h : l.length = 3) : ∃ u0 u1 u2, l = [u0, u1, u2] := by
  match l, h with
  | [u0, u1, u2], _ => exact ⟨u0, u1, u2, rfl⟩

set_option maxRecDepth 100000 in
/-- some cells that read as such a struct -/
theorem of_trod {H : Type} {enc : TypeId × Value → H} {W : World} {base fuel : Nat} {spare : Nat → Bool} {held : Bool} {cs : List Value} {y : DataW H × List MemPlace}
    (h : DataW.trod enc Tryd.prog W base spare held fuel 35 cs = some y) (hl : cs.length = 3) : ∃ x : Wea, x.Fits ∧ cs = x.cells := by
  obtain ⟨u0, u1, u2, rfl⟩ := listN hl
  obtain ⟨xs, n, _, _, _, _, hf⟩ := DataW.trod_struct undL h
  have h0 := hf 0 fldL0 rfl
  have h1 := hf 1 fldL1 rfl
  have h2 := hf 2 fldL2 rfl
  simp only [cells_i8, List.drop_zero, List.drop_succ_cons, List.take_succ_cons, List.take_zero] at h0 h1 h2
  have hxl : ∃ x0 x1 x2, xs[0]? = some x0 ∧ xs[1]? = some x1 ∧ xs[2]? = some x2 := by
    have e : xs.length = 3 := by assumption
    exact ⟨xs[0], xs[1], xs[2], List.getElem?_eq_getElem _, List.getElem?_eq_getElem _, List.getElem?_eq_getElem _⟩
  obtain ⟨x0, x1, x2, e0, e1, e2⟩ := hxl
  rw [e0] at h0
  rw [e1] at h1
  rw [e2] at h2
  obtain ⟨n0, q0, _, w0⟩ := DataW.trod_int Tryd.underlying33 h0
  obtain ⟨n1, q1, _, w1⟩ := DataW.trod_int Tryd.underlying33 h1
  obtain ⟨n2, q2, _, w2⟩ := DataW.trod_int Tryd.underlying33 h2
  simp only [List.cons.injEq, and_true] at q0 q1 q2
  subst q0 q1 q2
  have a0 := bd_i8' w0
  have a1 := bd_i8' w1
  have a2 := bd_i8' w2
  exact ⟨⟨n0, n1, n2⟩, ⟨a0.1, a0.2, a1.1, a1.2, a2.1, a2.2⟩, rfl⟩

set_option maxRecDepth 100000 in
theorem open_one {H : Type} {enc : TypeId × Value → H} {W : World} {base b0 : Nat} {spare : Nat → Bool} {held : Bool} {v : Value} {d : DataW H} {p : List MemPlace}
    (hv : Value.okWide Tryd.prog W .any base 35 v) (h : DataW.Trod enc Tryd.prog W b0 spare held 35 v d p) : ∃ x : Wea, x.Fits ∧ v = x.v := by
  obtain ⟨cs, rfl, hsz⟩ := okWide_struct undL hv
  obtain ⟨fuel, hf⟩ := h
  obtain ⟨l⟩ := cs
  obtain ⟨x, hx, e⟩ := of_trod (cs := l) (by simpa [Value.cells] using hf) (by simpa [cellsL] using hsz)
  exact ⟨x, hx, by rw [e]⟩
end Go.Proofs.YtjfimmfnhlimkaaDoor.weaS
