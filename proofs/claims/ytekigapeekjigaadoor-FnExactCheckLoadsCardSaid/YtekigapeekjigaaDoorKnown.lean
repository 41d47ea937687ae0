/-
  The map of the garments that have come, in meetingSets.
-/
import Derived.Test.YtekigapeekjigaaDoorMeetSets
namespace Go.Proofs.YtekigapeekjigaaDoor.mem
open Go Go.RowKit Go.Maps errs garS heats meet load

theorem undM : Tryd.prog.underlying 168 = some (.map 96 5) := by kernel_rfl
theorem undU : Tryd.prog.underlying 5 = some (.int .u8) := by kernel_rfl
theorem zeroU (w : World) : (zeroValue 5).run Tryd.prog w = .ok (.int .u8 0) w := by kernel_rfl
/-- block b is a map from the garments that have come to their sets -/
def Known (W : World) (b : Nat) (N : Nat) (r : Nat → Int) (gs seen : List Gar) : Prop :=
  ∃ D : DataW Unit, W.ownsMap Tryd.prog 96 (plainElem Tryd.prog 5) b N D ∧ ∀ (y : Gar) (l : Lit), keyOf Tryd.prog 96 y.v = some l →
    (y ∈ seen → D.atKey l (.lit (.int .u8 0)) = .lit (.int .u8 (setOf r gs y gs.length)) ∧ has D l = true) ∧ (y ∉ seen → D.atKey l (.lit (.int .u8 0)) = .lit (.int .u8 0) ∧ has D l = false)
theorem Known.new (w : World) (r : Nat → Int) (gs : List Gar) : Known (w.alloc (.map #[] 0)) w.heap.size 0 r gs [] :=
  ⟨.map [], World.ownsMap_made w _ _ _, fun y l _ => ⟨fun h => absurd h (by simp), fun _ => ⟨atKey_of_not_has (by simp [has_eq]) _, by simp [has_eq]⟩⟩⟩
theorem Known.kept {w w' : World} {b N : Nat} {r : Nat → Int} {gs seen : List Gar} {row : Option Nat} (h : Known w b N r gs seen) (hg : w.grownBy w' row) (hne : some b ≠ row) : Known w' b N r gs seen := by
  obtain ⟨D, h1, h2⟩ := h
  exact ⟨D, h1.kept hg hne, h2⟩
set_option maxRecDepth 100000 in
theorem Known.look {w : World} {b N : Nat} {r : Nat → Int} {gs seen : List Gar} (h : Known w b N r gs seen) (y : Gar) (hy : y.Fits) :
    (y ∈ seen → (Instr.lookup 168 (.map (some b)) y.v true).run Tryd.prog w = .ok (.tuple #[.int .u8 (setOf r gs y gs.length), .bool true]) w) ∧
    (y ∉ seen → (Instr.lookup 168 (.map (some b)) y.v true).run Tryd.prog w = .ok (.tuple #[.int .u8 0, .bool false]) w) := by
  obtain ⟨D, hown, hD⟩ := h
  obtain ⟨l, hl⟩ := keyG y hy
  obtain ⟨v, ps, hrun, hR⟩ := hown.look_ok keyedG undM (zeroU w) (plainElem_int undU (by decide)) hl
  obtain ⟨c, rfl, e2, _⟩ := plainElem_int_inv undU hR
  have e3 := congrArg Prod.fst e2
  simp only at e3
  obtain ⟨h1, h2⟩ := hD y l hl
  constructor
  · intro hs
    obtain ⟨k1, k2⟩ := h1 hs
    rw [k1] at e3
    injection e3 with e4
    injection e4 with _ e5
    rw [k2, ← e5] at hrun
    exact hrun
  · intro hs
    obtain ⟨k1, k2⟩ := h2 hs
    rw [k1] at e3
    injection e3 with e4
    injection e4 with _ e5
    rw [k2, ← e5] at hrun
    exact hrun
set_option maxRecDepth 100000 in
theorem Known.put {w : World} {b N : Nat} {r : Nat → Int} {gs seen : List Gar} (h : Known w b N r gs seen) (hN : N < maxLen) (hn : gs.length ≤ 8) (y : Gar) (hy : y.Fits) :
    ∃ w', (Instr.mapUpdate 168 (.map (some b)) y.v (.int .u8 (setOf r gs y gs.length))).run Tryd.prog w = .ok () w' ∧ Known w' b (N + 1) r gs (seen ++ [y]) ∧ w.grownBy w' (some b) := by
  obtain ⟨D, hown, hD⟩ := h
  obtain ⟨l, hl⟩ := keyG y hy
  have hlt := setOf_lt r gs y gs.length hn
  obtain ⟨w', hrun, h1, h2⟩ := hown.update keyedG undM hN hl (plainElem_int (a := (setOf r gs y gs.length : Int)) undU (wf_of _ _ ⟨by show (0 : Int) ≤ _; omega, by show _ ≤ (255 : Int); omega⟩))
  refine ⟨w', hrun, ⟨_, h1, fun z k hk => ?_⟩, h2⟩
  by_cases e : k = l
  · subst e
    have ezy : z = y := by
      have := keyedG.inj hk hl
      cases z
      cases y
      simp only [Value.agg.injEq, Array.mk.injEq, List.cons.injEq, Value.int.injEq, true_and, and_true] at this
      obtain ⟨a, b, c, d⟩ := this
      subst a b c d
      rfl
    subst ezy
    exact ⟨fun _ => ⟨atKey_put_same hown.isMap (keyedG.key hl) _ _, has_put_same hown.isMap (keyedG.key hl) _⟩, fun hs => absurd (by simp) hs⟩
  · have hne : z ≠ y := fun ez => by
      subst ez
      rw [hl] at hk
      exact e (Option.some.inj hk).symm
    obtain ⟨k1, k2⟩ := hD z k hk
    rw [atKey_put_other e, has_put_other e]
    exact ⟨fun hs => k1 ((List.mem_append.1 hs).elim id fun h => absurd (List.mem_singleton.1 h) hne), fun hs => k2 fun h => hs (List.mem_append_left _ h)⟩
end Go.Proofs.YtekigapeekjigaaDoor.mem
