/-
  A label that is jumped back to, with a number of one's own that becomes less.
-/
import Derived.ScopeJumps
import Derived.Tactics
import Derived.Below
import Derived.Lib.Hide
namespace Go.Proofs.YtjhkjbdpmianfaaDoor
open Go Go.RowKit

theorem jump_mono {l : Nat} {J J' : Act → World → Prop} {Q : Exit → Act → World → Prop} (h : ∀ a w, J a w → J' a w) : ∀ e a w, Exit.jump l J Q e a w → Exit.jump l J' Q e a w := by
  intro e a w hq
  cases e <;> first | exact hq | exact ⟨hq.1, h _ _ hq.2⟩
theorem least_of {p : Nat → Prop} : ∀ (m : Nat), p m → ∃ n, p n ∧ ∀ k, p k → n ≤ k := by
  intro m
  induction m using Nat.strongRecOn with
  | _ m ih =>
    intro hm
    rcases Classical.em (∃ k, k < m ∧ p k) with ⟨k, hk, hp⟩ | h
    · exact ih k hk hp
    · exact ⟨m, hm, fun k hp => Nat.le_of_not_lt fun hk => h ⟨k, hk, hp⟩⟩
open Classical in
noncomputable def leastN (p : Nat → Prop) : Nat := if h : ∃ n, p n ∧ ∀ k, p k → n ≤ k then Classical.choose h else 0
theorem leastN_spec {p : Nat → Prop} {m : Nat} (h : p m) : p (leastN p) ∧ ∀ k, p k → leastN p ≤ k := by
  have hx := least_of m h
  unfold leastN
  rw [dif_pos hx]
  exact Classical.choose_spec hx
theorem wp_scope_ghost {P : Program} {a : Act} {w : World} {Q : Exit → Act → World → Prop} {c rest : Code} (l : Nat) (J : Nat → Act → World → Prop) (hf : findLabel c l = some rest)
    (first : c.wp P (Exit.jump l (fun a' w' => ∃ m, J m a' w') Q) a w)
    (pass : ∀ m a w, J m a w → rest.wp P (Exit.jump l (fun a' w' => ∃ m', m' < m ∧ J m' a' w') Q) a w) : (Code.scope c).wp P Q a w := by
  refine wp_scope_jumps l (fun a w => ∃ m, J m a w) (fun a w => leastN fun m => J m a w) hf first fun a w ⟨m0, hJ⟩ => ?_
  have hs := leastN_spec (p := fun m => J m a w) hJ
  refine wp_mono (pass _ a w hs.1) (jump_mono fun a' w' ⟨m', hm, hJ'⟩ => ⟨⟨m', hJ'⟩, ?_⟩)
  exact Nat.lt_of_le_of_lt ((leastN_spec (p := fun m => J m a' w') hJ').2 _ hJ') hm
/-- .. and what follows the label is walked once, for its first round and for all later ones -/
theorem wp_scope_enter {P : Program} {a : Act} {w : World} {Q : Exit → Act → World → Prop} {c rest : Code} (l : Nat) (J : Nat → Act → World → Prop) (hf : findLabel c l = some rest)
    (first : Hid (∀ m a w, J m a w → rest.wp P (Exit.jump l (fun a' w' => ∃ m, J m a' w') Q) a w) → c.wp P (Exit.jump l (fun a' w' => ∃ m, J m a' w') Q) a w)
    (pass : ∀ m a w, J m a w → rest.wp P (Exit.jump l (fun a' w' => ∃ m', m' < m ∧ J m' a' w') Q) a w) : (Code.scope c).wp P Q a w :=
  wp_scope_ghost l J hf (first (Lib.hid fun m a w h => wp_mono (pass m a w h) (jump_mono fun _ _ ⟨m', _, h'⟩ => ⟨m', h'⟩))) pass
/-- .. where the label stands at the head of a list of statements -/
theorem wp_scope_enter2 {P : Program} {a : Act} {w : World} {Q : Exit → Act → World → Prop} {c rest : Code} (l : Nat) (J : Nat → Act → World → Prop) (hf : findLabel c l = some (Code.seq Code.skip rest))
    (first : Hid (∀ m a w, J m a w → rest.wp P (Exit.jump l (fun a' w' => ∃ m, J m a' w') Q) a w) → c.wp P (Exit.jump l (fun a' w' => ∃ m, J m a' w') Q) a w)
    (pass : ∀ m a w, J m a w → rest.wp P (Exit.jump l (fun a' w' => ∃ m', m' < m ∧ J m' a' w') Q) a w) : (Code.scope c).wp P Q a w :=
  wp_scope_ghost l J hf (first (Lib.hid fun m a w h => wp_mono (pass m a w h) (jump_mono fun _ _ ⟨m', _, h'⟩ => ⟨m', h'⟩))) fun m a w h => wp_seq (wp_skip (pass m a w h))
end Go.Proofs.YtjhkjbdpmianfaaDoor
