/-
  Loads by greed, in plain words.
-/
import Derived.Test.YtekigapeekjigaaDoorSets
namespace Go.Proofs.YtekigapeekjigaaDoor.mem
open Go Go.RowKit garS heats meet load

/-- garment k can be with those that have the number a -/
def Joins1 (r : Nat → Int) (gs : List Gar) (hold : Int) (ls : List Int) (k a : Nat) : Prop := ∀ x, gs[k]? = some x → Pairs r (withL gs ls a k ++ [x]) ∧ wAll (withL gs ls a k ++ [x]) ≤ hold
/-- the numbers that greed gives the first k garments, and how many loads these are -/
inductive Greedy (r : Nat → Int) (gs : List Gar) (hold : Int) : Nat → List Int → Nat → Prop
  | zero : Greedy r gs hold 0 [] 0
  | next {k : Nat} {ls : List Int} {u a : Nat} : Greedy r gs hold k ls u → a ≤ u → (∀ j, j < a → ¬ Joins1 r gs hold ls k j) → (a < u → Joins1 r gs hold ls k a) → Greedy r gs hold (k + 1) (ls ++ [(a : Int)]) (max u (a + 1))
theorem Greedy.len {r : Nat → Int} {gs : List Gar} {hold : Int} {k : Nat} {ls : List Int} {u : Nat} (h : Greedy r gs hold k ls u) : ls.length = k := by
  induction h with
  | zero => rfl
  | next _ _ _ _ ih => simp [ih]
theorem Greedy.le {r : Nat → Int} {gs : List Gar} {hold : Int} {k : Nat} {ls : List Int} {u : Nat} (h : Greedy r gs hold k ls u) : u ≤ k := by
  induction h with
  | zero => exact Nat.le_refl _
  | next _ ha _ _ ih => omega
theorem Greedy.lt {r : Nat → Int} {gs : List Gar} {hold : Int} {k : Nat} {ls : List Int} {u : Nat} (h : Greedy r gs hold k ls u) : ∀ x ∈ ls, 0 ≤ x ∧ x < (u : Int) := by
  induction h with
  | zero => intro x hx; simp at hx
  | next _ ha _ _ ih =>
    intro x hx
    rcases List.mem_append.1 hx with h1 | h1
    · have := ih x h1
      omega
    · rw [List.mem_singleton.1 h1]
      omega
theorem Greedy.one {r : Nat → Int} {gs : List Gar} {hold : Int} {k : Nat} {ls ls' : List Int} {u u' : Nat} (h : Greedy r gs hold k ls u) (h' : Greedy r gs hold k ls' u') : ls = ls' ∧ u = u' := by
  induction h generalizing ls' u' with
  | zero =>
    cases h'
    exact ⟨rfl, rfl⟩
  | @next k ls u a h1 ha hno hyes ih =>
    cases h' with
    | @next _ ls2 u2 a2 h2 ha2 hno2 hyes2 =>
      obtain ⟨rfl, rfl⟩ := ih h2
      have e : a = a2 := by
        rcases Nat.lt_trichotomy a a2 with h3 | h3 | h3
        · exact absurd (hyes (by omega)) (hno2 a h3)
        · exact h3
        · exact absurd (hyes2 (by omega)) (hno a2 h3)
      subst e
      exact ⟨rfl, rfl⟩
theorem greedy_exists (r : Nat → Int) (gs : List Gar) (hold : Int) : ∀ k, ∃ ls u, Greedy r gs hold k ls u
  | 0 => ⟨[], 0, .zero⟩
  | k + 1 => by
    obtain ⟨ls, u, h⟩ := greedy_exists r gs hold k
    have first : ∀ m, m ≤ u → ∃ a, a ≤ u ∧ (∀ j, j < a → ¬ Joins1 r gs hold ls k j) ∧ (a < u → Joins1 r gs hold ls k a) ∨ ∀ j, j < m → ¬ Joins1 r gs hold ls k j := fun m => by
      induction m with
      | zero => intro _; exact ⟨0, .inr fun j hj => absurd hj (by omega)⟩
      | succ m ih =>
        intro hm
        obtain ⟨a, h1 | h1⟩ := ih (by omega)
        · exact ⟨a, .inl h1⟩
        · by_cases hj : Joins1 r gs hold ls k m
          · exact ⟨m, .inl ⟨by omega, h1, fun _ => hj⟩⟩
          · refine ⟨0, .inr fun j hj2 => ?_⟩
            by_cases e : j = m
            · subst e; exact hj
            · exact h1 j (by omega)
    obtain ⟨a, ⟨h1, h2, h3⟩ | h1⟩ := first u (Nat.le_refl _)
    · exact ⟨_, _, h.next h1 h2 h3⟩
    · exact ⟨_, _, h.next (Nat.le_refl u) h1 fun h => absurd h (Nat.lt_irrefl _)⟩
/-- numbers that none of the garments has: no garments -/
theorem withL_more (gs : List Gar) (ls : List Int) (x : Int) (k : Int) : ∀ j, j ≤ ls.length → withL gs (ls ++ [x]) k j = withL gs ls k j
  | 0, _ => rfl
  | j + 1, h => by
    unfold withL
    rw [withL_more gs ls x k j (by omega), List.getElem?_append_left (by omega)]
theorem setK_more (ls : List Int) (x : Int) (k : Int) : ∀ j, j ≤ ls.length → setK (ls ++ [x]) k j = setK ls k j
  | 0, _ => rfl
  | j + 1, h => by
    unfold setK
    rw [setK_more ls x k j (by omega), List.getElem?_append_left (by omega)]
theorem setK_unused (ls : List Int) (u : Nat) (h : ∀ x ∈ ls, 0 ≤ x ∧ x < (u : Int)) (a : Nat) (ha : u ≤ a) : ∀ j, setK ls a j = 0
  | 0 => rfl
  | j + 1 => by
    unfold setK
    rw [if_neg fun e => by have := h _ (List.mem_of_getElem? e); omega]
    exact setK_unused ls u h a ha j
/-- the set with one garment more -/
theorem setK_join (ls : List Int) (a : Nat) (k : Nat) (hk : ls.length = k) : setK (ls ++ [(a : Int)]) a (k + 1) = setK ls a k ||| 2 ^ k := by
  subst hk
  rw [setK]
  rw [if_pos (by simp), setK_more ls _ _ _ (Nat.le_refl _)]
theorem setK_other (ls : List Int) (a : Nat) (k : Nat) (hk : ls.length = k) (b : Nat) (hb : b ≠ a) : setK (ls ++ [(a : Int)]) b (k + 1) = setK ls b k := by
  subst hk
  rw [setK]
  rw [if_neg (by simp; omega), setK_more ls _ _ _ (Nat.le_refl _)]
theorem withL_join (gs : List Gar) (ls : List Int) (a : Nat) (k : Nat) (hk : ls.length = k) {x : Gar} (hx : gs[k]? = some x) : withL gs (ls ++ [(a : Int)]) a (k + 1) = withL gs ls a k ++ [x] := by
  subst hk
  rw [withL]
  rw [if_pos (by simp), withL_more gs ls _ _ _ (Nat.le_refl _), hx]
  rfl
/-- the program's question is the model's -/
theorem joins_iff {r : Nat → Int} {gs : List Gar} {m : Nat → Int} (hm : Meets r gs m) (hold : Int) (ls : List Int) (k a : Nat) (hk : ls.length = k) (h8 : k < gs.length) (hn : gs.length ≤ 8) (hsy : ∀ x y, x ∈ gs → y ∈ gs → meetB r x y = meetB r y x) (hre : ∀ x ∈ gs, meetB r x x = true) :
    isLoadB gs m hold (setK ls a k ||| 2 ^ k) = true ↔ Joins1 r gs hold ls k a := by
  have hx : gs[k]? = some (gs[k]'h8) := List.getElem?_eq_getElem _
  have h := isLoadB_set hm hold (ls ++ [(a : Int)]) a (k + 1) (by omega) (by omega) hsy hre
  rw [setK_join ls a k hk, withL_join gs ls a k hk hx] at h
  rw [h]
  have hne : setK ls a k ||| 2 ^ k ≠ 0 := fun e => by
    have h1 := congrArg (fun x => x.testBit k) e
    simp [Nat.testBit_or, Nat.testBit_two_pow] at h1
  constructor
  · rintro ⟨_, h1⟩ x hx2
    rw [hx] at hx2
    rw [← Option.some.inj hx2]
    exact h1
  · intro h1
    exact ⟨hne, h1 _ hx⟩
/-- an empty load takes each garment -/
theorem joins_new {r : Nat → Int} {gs : List Gar} {hold : Int} {ls : List Int} {u : Nat} (hlt : ∀ x ∈ ls, 0 ≤ x ∧ x < (u : Int)) (k a : Nat) (ha : u ≤ a) (hw : ∀ x ∈ gs, x.g ≤ hold) : Joins1 r gs hold ls k a := fun x hx => by
  rw [setK_none gs ls a k (setK_unused ls u hlt a ha k)]
  refine ⟨?_, ?_⟩
  · rw [pairs_snoc]
    exact ⟨pairs_nil r, fun y hy => by simp at hy⟩
  · rw [wAll_append]
    have := hw x (List.mem_of_getElem? hx)
    simp [wAll]
    omega
end Go.Proofs.YtekigapeekjigaaDoor.mem
