/-
  The arguments of the laws, opened: a garment, rules.
-/
import Derived.Test.YtdafnibmoggcnaaDoorJoin6
import Derived.Test.YtdafnibmoggcnaaDoorOpenWords
import Derived.ProofKit
import Derived.OpenShut
import Derived.Lib.SmallJoins
namespace Go.Proofs.YtdafnibmoggcnaaDoor
open Go.ChangeShapes Go.WideShapes Go.ChangeAt Go.RowKit Go.Joins

theorem cellsGar : Tryd.prog.cellsOf 58 = 4 := by kernel_rfl
theorem cellsU8 : Tryd.prog.cellsOf 5 = 1 := by kernel_rfl


set_option maxRecDepth 100000 in
theorem open_gar {H : Type} {enc : TypeId × Value → H} {W : World} {base b0 : Nat} {spare : Nat → Bool} {held : Bool} {v : Value} {d : DataW H} {p : List MemPlace}
    (hv : Value.okWide Tryd.prog W .any base 58 v) (h : DataW.Trod enc Tryd.prog W b0 spare held 58 v d p) : ∃ x : Gar, x.Fits ∧ v = x.v := by
  obtain ⟨u0, u1, u2, u3, y0, y1, y2, y3, m, rfl, _, _, hy0, hy1, hy2, hy3⟩ := open_agg4 Tryd.underlying58 (by kernel_rfl) cellsGar hv h
  obtain ⟨c, e0, _, wc⟩ := DataW.trod_int Tryd.underlying5 hy0
  obtain ⟨n, e1, _, wn⟩ := DataW.trod_int Tryd.underlying53 hy1
  obtain ⟨k, e2, _, wk⟩ := DataW.trod_int Tryd.underlying53 hy2
  obtain ⟨g, e3, _, wg⟩ := DataW.trod_int Tryd.underlying54 hy3
  simp only [List.cons.injEq, and_true] at e0 e1 e2 e3
  subst e0 e1 e2 e3
  have a0 := bd_u8' wc
  have a1 := bd_i8' wn
  have a2 := bd_i8' wk
  have a3 := bd_i16' wg
  exact ⟨⟨c, n, k, g⟩, ⟨a0.1, a0.2, a1.1, a1.2, a2.1, a2.2, a3.1, a3.2⟩, rfl⟩

theorem list6 {α : Type} {l : List α} (h : l.length = 6) : ∃ a0 a1 a2 a3 a4 a5, l = [a0, a1, a2, a3, a4, a5] := by
  match l, h with
  | [a0, a1, a2, a3, a4, a5], _ => exact ⟨a0, a1, a2, a3, a4, a5, rfl⟩

set_option maxRecDepth 100000 in
theorem open_rules {H : Type} {enc : TypeId × Value → H} {W : World} {base b0 : Nat} {spare : Nat → Bool} {held : Bool} {v : Value} {d : DataW H} {p : List MemPlace}
    (hv : Value.okWide Tryd.prog W .any base 22 v) (h : DataW.Trod enc Tryd.prog W b0 spare held 22 v d p) : ∃ r : Nat → Int, Six r ∧ v = rulesV r := by
  have hu : Tryd.prog.underlying 22 = some (.array 6 5) := Tryd.underlying22
  simp only [Value.okWide, hu] at hv
  obtain ⟨cs, rfl, hs, _⟩ := hv
  obtain ⟨fuel, hf⟩ := h
  obtain ⟨xs, m, _, _, hlen, hxl, hi⟩ := DataW.trod_array hu hf
  have h6 : Tryd.prog.cellsOf 22 = 6 := by kernel_rfl
  obtain ⟨l⟩ := cs
  rw [h6] at hs hlen
  simp only [List.size_toArray] at hs
  obtain ⟨v0, v1, v2, v3, v4, v5, rfl⟩ := list6 hs
  obtain ⟨x0, x1, x2, x3, x4, x5, rfl⟩ := list6 hxl
  have i0 := hi 0 (by omega)
  have i1 := hi 1 (by omega)
  have i2 := hi 2 (by omega)
  have i3 := hi 3 (by omega)
  have i4 := hi 4 (by omega)
  have i5 := hi 5 (by omega)
  simp only [cellsU8, Value.cells, List.getElem?_cons_zero, List.getElem?_cons_succ, Nat.mul_one, List.drop_zero, List.drop_succ_cons, List.take_succ_cons, List.take_zero] at i0 i1 i2 i3 i4 i5
  obtain ⟨n0, e0, _, w0⟩ := DataW.trod_int Tryd.underlying5 i0
  obtain ⟨n1, e1, _, w1⟩ := DataW.trod_int Tryd.underlying5 i1
  obtain ⟨n2, e2, _, w2⟩ := DataW.trod_int Tryd.underlying5 i2
  obtain ⟨n3, e3, _, w3⟩ := DataW.trod_int Tryd.underlying5 i3
  obtain ⟨n4, e4, _, w4⟩ := DataW.trod_int Tryd.underlying5 i4
  obtain ⟨n5, e5, _, w5⟩ := DataW.trod_int Tryd.underlying5 i5
  simp only [List.cons.injEq, and_true] at e0 e1 e2 e3 e4 e5
  subst e0 e1 e2 e3 e4 e5
  refine ⟨fun a => match a with | 0 => n0 | 1 => n1 | 2 => n2 | 3 => n3 | 4 => n4 | _ => n5, ?_, rfl⟩
  intro a ha
  match a, ha with
  | 0, _ => exact bd_u8' w0
  | 1, _ => exact bd_u8' w1
  | 2, _ => exact bd_u8' w2
  | 3, _ => exact bd_u8' w3
  | 4, _ => exact bd_u8' w4
  | 5, _ => exact bd_u8' w5
end Go.Proofs.YtdafnibmoggcnaaDoor
