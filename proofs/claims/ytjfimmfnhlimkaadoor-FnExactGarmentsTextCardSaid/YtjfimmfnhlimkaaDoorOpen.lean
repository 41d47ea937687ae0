/-
  The arguments of the laws, opened: a garment, rules.
-/
import Derived.Test.YtjfimmfnhlimkaaDoorJoin6
import Derived.Test.YtjfimmfnhlimkaaDoorOpenWords
import Derived.ProofKit
import Derived.OpenShut
import Derived.Lib.SmallJoins
namespace Go.Proofs.YtjfimmfnhlimkaaDoor
open Go.ChangeShapes Go.WideShapes Go.ChangeAt Go.RowKit Go.Joins

theorem cellsGar : Tryd.prog.cellsOf 120 = 4 := by kernel_rfl
theorem cellsU8 : Tryd.prog.cellsOf 5 = 1 := by kernel_rfl


set_option maxRecDepth 100000 in
theorem open_gar {H : Type} {enc : TypeId × Value → H} {W : World} {base b0 : Nat} {spare : Nat → Bool} {held : Bool} {v : Value} {d : DataW H} {p : List MemPlace}
    (hv : Value.okWide Tryd.prog W .any base 120 v) (h : DataW.Trod enc Tryd.prog W b0 spare held 120 v d p) : ∃ x : Gar, x.Fits ∧ v = x.v := by
  obtain ⟨u0, u1, u2, u3, y0, y1, y2, y3, m, rfl, _, _, hy0, hy1, hy2, hy3⟩ := open_agg4 Tryd.underlying120 (by kernel_rfl) cellsGar hv h
  obtain ⟨c, e0, _, wc⟩ := DataW.trod_int Tryd.underlying5 hy0
  obtain ⟨n, e1, _, wn⟩ := DataW.trod_int Tryd.underlying33 hy1
  obtain ⟨k, e2, _, wk⟩ := DataW.trod_int Tryd.underlying33 hy2
  obtain ⟨g, e3, _, wg⟩ := DataW.trod_int Tryd.underlying67 hy3
  simp only [List.cons.injEq, and_true] at e0 e1 e2 e3
  subst e0 e1 e2 e3
  have a0 := bd_u8' wc
  have a1 := bd_i8' wn
  have a2 := bd_i8' wk
  have a3 := bd_i16' wg
  exact ⟨⟨c, n, k, g⟩, ⟨a0.1, a0.2, a1.1, a1.2, a2.1, a2.2, a3.1, a3.2⟩, rfl⟩

theorem list6 {α : Type} {l : List α} (h : l.length = 6) : ∃ a0 a1 a2 a3 a4 a5, l = [a0, a1, a2, a3, a4, a5] := by
  match l, h with
  | [a0, a1, a2, a3, a4, a5], _ => exact ⟨a0, a1, a2, a3, a4, a5, rfl⟩

end Go.Proofs.YtjfimmfnhlimkaaDoor
