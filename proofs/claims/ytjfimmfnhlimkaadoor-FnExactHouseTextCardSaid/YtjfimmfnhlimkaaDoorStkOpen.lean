/-
  The laws' argument that is a stock, opened.
-/
import Derived.Test.YtjfimmfnhlimkaaDoorJoin9
import Derived.Test.YtjfimmfnhlimkaaDoorOpenWords
import Derived.ProofKit
import Derived.OpenShut
import Derived.Lib.SmallJoins
import Derived.Deep.Slices
import Derived.Deep.Fields
namespace Go.Proofs.YtjfimmfnhlimkaaDoor.stk
open Go Go.ChangeShapes Go.WideShapes Go.ChangeAt Go.RowKit Go.Joins sl row

abbrev fldL0 : Field := { name := "Clean", type := 151, offset := 0, embedded := false, tag := "", pkgPath := "", byteOffset := 0 }
abbrev fldL1 : Field := { name := "Used", type := 151, offset := 8, embedded := false, tag := "", pkgPath := "", byteOffset := 16 }
abbrev fldL2 : Field := { name := "Dirty", type := 151, offset := 16, embedded := false, tag := "", pkgPath := "", byteOffset := 32 }
abbrev fldL3 : Field := { name := "Rags", type := 21, offset := 24, embedded := false, tag := "", pkgPath := "", byteOffset := 48 }
theorem cellsL : Tryd.prog.cellsOf 193 = 25 := by kernel_rfl
theorem undL : Tryd.prog.underlying 193 = some (.struct #[fldL0, fldL1, fldL2, fldL3]) := by kernel_rfl
theorem cellsA8 : Tryd.prog.cellsOf 151 = 8 := by kernel_rfl
theorem cells_i32 : Tryd.prog.cellsOf 21 = 1 := by kernel_rfl
theorem cells_i16 : Tryd.prog.cellsOf 67 = 1 := by kernel_rfl

/-- eight cells that read as numbers -/
theorem arr_of_trod {H : Type} {enc : TypeId × Value → H} {W : World} {base fuel : Nat} {spare : Nat → Bool} {held : Bool} {cs : List Value} {y : DataW H × List MemPlace}
    (h : DataW.trod enc Tryd.prog W base spare held fuel 151 cs = some y) (hl : cs.length = 8) : ∀ j, j < 8 → ∃ n : Int, (-32768 ≤ n ∧ n ≤ 32767) ∧ cs[j]? = some (.int .i16 n) := by
  obtain ⟨xs, m, _, _, hlen, hxl, hi⟩ := DataW.trod_array Tryd.underlying151 h
  intro j hj
  obtain ⟨xi, hxi⟩ : ∃ xi, xs[j]? = some xi := ⟨xs[j]'(by omega), List.getElem?_eq_getElem _⟩
  have h1 := hi j (by omega)
  rw [hxi, cells_i16, Nat.mul_one] at h1
  obtain ⟨n0, q0, _, w0⟩ := DataW.trod_int Tryd.underlying67 h1
  refine ⟨n0, bd_i16' w0, ?_⟩
  have := congrArg (fun l : List Value => l[0]?) q0
  simpa using this
set_option maxRecDepth 100000 in
/-- some cells that read as a stock -/
theorem of_trod {H : Type} {enc : TypeId × Value → H} {W : World} {base fuel : Nat} {spare : Nat → Bool} {held : Bool} {cs : List Value} {y : DataW H × List MemPlace}
    (h : DataW.trod enc Tryd.prog W base spare held fuel 193 cs = some y) (hl : cs.length = 25) : ∃ f : Stk, Fits f ∧ cs = lst 25 (cellS f) := by
  obtain ⟨xs, n, _, _, _, hxl, hf⟩ := DataW.trod_struct undL h
  have h0 := hf 0 fldL0 rfl
  have h1 := hf 1 fldL1 rfl
  have h2 := hf 2 fldL2 rfl
  have h3 := hf 3 fldL3 rfl
  simp only [cellsA8, cells_i32] at h0 h1 h2 h3
  obtain ⟨x0, e0⟩ : ∃ x, xs[0]? = some x := ⟨xs[0]'(by rw [hxl]; decide), List.getElem?_eq_getElem _⟩
  obtain ⟨x1, e1⟩ : ∃ x, xs[1]? = some x := ⟨xs[1]'(by rw [hxl]; decide), List.getElem?_eq_getElem _⟩
  obtain ⟨x2, e2⟩ : ∃ x, xs[2]? = some x := ⟨xs[2]'(by rw [hxl]; decide), List.getElem?_eq_getElem _⟩
  obtain ⟨x3, e3⟩ : ∃ x, xs[3]? = some x := ⟨xs[3]'(by rw [hxl]; decide), List.getElem?_eq_getElem _⟩
  rw [e0] at h0
  rw [e1] at h1
  rw [e2] at h2
  rw [e3] at h3
  have a0 := arr_of_trod h0 (by simp; omega)
  have a1 := arr_of_trod h1 (by simp; omega)
  have a2 := arr_of_trod h2 (by simp; omega)
  obtain ⟨n3, q3, _, w3⟩ := DataW.trod_int Tryd.underlying21 h3
  have b3 := bd_i32' w3
  have q3' : cs[24]? = some (.int .i32 n3) := by
    have := congrArg (fun l : List Value => l[0]?) q3
    simpa using this
  have all : ∀ j, j < 24 → ∃ n : Int, (-32768 ≤ n ∧ n ≤ 32767) ∧ cs[j]? = some (.int .i16 n) := by
    intro j hj
    rcases Nat.lt_or_ge j 8 with a | a
    · obtain ⟨n, hn, e⟩ := a0 j a
      refine ⟨n, hn, ?_⟩
      rwa [List.getElem?_take_of_lt a, List.getElem?_drop, Nat.zero_add] at e
    · rcases Nat.lt_or_ge j 16 with b | b
      · obtain ⟨n, hn, e⟩ := a1 (j - 8) (by omega)
        refine ⟨n, hn, ?_⟩
        rwa [List.getElem?_take_of_lt (by omega), List.getElem?_drop, show 8 + (j - 8) = j by omega] at e
      · obtain ⟨n, hn, e⟩ := a2 (j - 16) (by omega)
        refine ⟨n, hn, ?_⟩
        rwa [List.getElem?_take_of_lt (by omega), List.getElem?_drop, show 16 + (j - 16) = j by omega] at e
  refine ⟨fun j => if j = 24 then n3 else match cs[j]? with | some (.int _ n) => n | _ => 0, ⟨fun j hj => ?_, fun j hj => ?_, by simpa using b3.1, by simpa using b3.2⟩, ?_⟩
  · obtain ⟨n, hn, e⟩ := all j hj
    simp only [e, if_neg (show ¬ j = 24 by omega)]
    exact hn.1
  · obtain ⟨n, hn, e⟩ := all j hj
    simp only [e, if_neg (show ¬ j = 24 by omega)]
    exact hn.2
  · refine List.ext_getElem? fun j => ?_
    rcases Nat.lt_or_ge j 25 with hj | hj
    · rw [lst_get _ hj]
      unfold cellS
      by_cases e24 : j = 24
      · subst e24; rw [if_pos rfl]; simpa using q3'
      · obtain ⟨n, hn, e⟩ := all j (by omega)
        simp only [e, if_neg e24]
    · rw [List.getElem?_eq_none (by omega), List.getElem?_eq_none (by rw [lst_len]; omega)]
set_option maxRecDepth 100000 in
theorem open_one {H : Type} {enc : TypeId × Value → H} {W : World} {base b0 : Nat} {spare : Nat → Bool} {held : Bool} {v : Value} {d : DataW H} {p : List MemPlace}
    (hv : Value.okWide Tryd.prog W .any base 193 v) (h : DataW.Trod enc Tryd.prog W b0 spare held 193 v d p) : ∃ f : Stk, Fits f ∧ v = stkV f := by
  obtain ⟨cs, rfl, hsz⟩ := okWide_struct undL hv
  obtain ⟨fuel, hf⟩ := h
  obtain ⟨l⟩ := cs
  obtain ⟨x, hx, e⟩ := of_trod (cs := l) (by simpa [Value.cells] using hf) (by simpa [cellsL] using hsz)
  exact ⟨x, hx, by rw [e]; rfl⟩
end Go.Proofs.YtjfimmfnhlimkaaDoor.stk
