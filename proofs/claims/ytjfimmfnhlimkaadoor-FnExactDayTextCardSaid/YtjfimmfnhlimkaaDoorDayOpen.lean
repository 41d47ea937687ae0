/-
  The laws' argument that is a day, opened.
-/
import Derived.Test.YtjfimmfnhlimkaaDoorJoin10
import Derived.Test.YtjfimmfnhlimkaaDoorWeaOpen
import Derived.Test.YtjfimmfnhlimkaaDoorJoin11
namespace Go.Proofs.YtjfimmfnhlimkaaDoor.day
open Go Go.ChangeShapes Go.WideShapes Go.ChangeAt Go.RowKit Go.Joins sl

theorem cells_rows : ∀ (n : Nat) (l : List Value), l.length = n * 3 → (∀ i, i < n → ∃ x : Wea, x.Fits ∧ (l.drop (i * 3)).take 3 = x.cells) → ∃ d : List Wea, d.length = n ∧ (∀ x ∈ d, x.Fits) ∧ l = d.flatMap Wea.cells
  | 0, l, hl, _ => ⟨[], rfl, fun x hx => by simp at hx, by simpa using hl⟩
  | n + 1, l, hl, h => by
    obtain ⟨x, hx, e⟩ := h 0 (by omega)
    obtain ⟨d, hd, hf, e2⟩ := cells_rows n (l.drop 3) (by rw [List.length_drop]; omega) fun i hi => by
      obtain ⟨y, hy, ey⟩ := h (i + 1) (by omega)
      refine ⟨y, hy, ?_⟩
      rw [List.drop_drop, ← ey]
      congr 2
      omega
    refine ⟨x :: d, by simp [hd], fun y hy => ?_, ?_⟩
    · rcases List.mem_cons.1 hy with rfl | hy
      · exact hx
      · exact hf y hy
    · rw [List.flatMap_cons, ← e2, ← e]
      simp
theorem infoA : (Tryd.prog.info? 36).map (·.size) = some 72 := by kernel_rfl
theorem wpl_load_arg {ops : Array Oper} {rest : List Oper} {op : Oper} {a : Act} {u : World} {Q : Exit → Act → World → Prop} (hgd : op.guard = none) (x : Operand) (ho : op.op = .load 36 x) (b : Nat) (hx : a.eval x = .pointer (some ⟨b, 0, none⟩))
    {d : List Wea} (hd : d.length = 24) (h : DayAt u b d) (hK : wpList Tryd.prog ops Q rest (a.put op.dst (dayV d)) u) : wpList Tryd.prog ops Q (op :: rest) a u :=
  wpList_load_mid hgd 36 x ho b 0 hx (d.flatMap Wea.cells) _ h.row Tryd.underlying36 rfl (by rw [infoA, flat_len (Wea.len d), hd]) hK

set_option maxRecDepth 100000 in
theorem open_day {H : Type} {enc : TypeId × Value → H} {W : World} {base b0 : Nat} {spare : Nat → Bool} {held : Bool} {v : Value} {y : DataW H} {p : List MemPlace}
    (hv : Value.okWide Tryd.prog W .any base 36 v) (h : DataW.Trod enc Tryd.prog W b0 spare held 36 v y p) : ∃ d : List Wea, d.length = 24 ∧ (∀ x ∈ d, x.Fits) ∧ v = dayV d := by
  have hu : Tryd.prog.underlying 36 = some (.array 24 35) := Tryd.underlying36
  simp only [Value.okWide, hu] at hv
  obtain ⟨cs, rfl, hs, _⟩ := hv
  obtain ⟨fuel, hf⟩ := h
  obtain ⟨xs, m, _, _, hlen, hxl, hi⟩ := DataW.trod_array hu hf
  have h72 : Tryd.prog.cellsOf 36 = 72 := by kernel_rfl
  have h3 : Tryd.prog.cellsOf 35 = 3 := by kernel_rfl
  obtain ⟨l⟩ := cs
  rw [h72] at hs
  simp only [List.size_toArray] at hs
  obtain ⟨d, hd, hfits, e⟩ := cells_rows 24 l hs fun i hi24 => by
    obtain ⟨xi, hxi⟩ : ∃ xi, xs[i]? = some xi := ⟨xs[i]'(by omega), List.getElem?_eq_getElem _⟩
    have := hi i (by omega)
    rw [hxi] at this
    simp only [Value.cells, h3] at this
    exact weaS.of_trod this (by simp; omega)
  exact ⟨d, hd, hfits, by rw [e]; rfl⟩
end Go.Proofs.YtjfimmfnhlimkaaDoor.day
