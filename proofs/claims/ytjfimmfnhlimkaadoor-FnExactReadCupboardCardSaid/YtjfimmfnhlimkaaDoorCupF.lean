/-
  Where a sheet lies, the program's and the model's.
-/
import Derived.Test.YtjfimmfnhlimkaaDoorCupS
import Derived.Test.YtjfimmfnhlimkaaDoorCupI
import Derived.Test.YtjfimmfnhlimkaaDoorJoin12
import Derived.Deep.QuietTactic
import Derived.BigQuiet
namespace Go.Proofs.YtjfimmfnhlimkaaDoor.cup
open Go Go.RowKit sl errs fold rows

/-- the first place of a number in a list -/
structure At1 (xs : List Int) (s : Int) (I : Nat) : Prop where
  here : xs[I]? = some s
  first : ∀ j, j < I → xs[j]? ≠ some s
theorem At1.unique {xs : List Int} {s : Int} {I J : Nat} (h : At1 xs s I) (k : At1 xs s J) : I = J := by
  rcases Nat.lt_trichotomy I J with h1 | h1 | h1
  · exact absurd h.here (k.first I h1)
  · exact h1
  · exact absurd k.here (h.first J h1)
theorem At1.mem {xs : List Int} {s : Int} {I : Nat} (h : At1 xs s I) : s ∈ xs := List.mem_of_getElem? h.here
theorem at1_of_mem {xs : List Int} {s : Int} (h : s ∈ xs) : ∃ I, At1 xs s I := by
  induction xs with
  | nil => simp at h
  | cons x r ih =>
    by_cases e : x = s
    · exact ⟨0, by simp [e], fun j hj => absurd hj (by omega)⟩
    · have h2 : s ∈ r := by
        rcases List.mem_cons.1 h with h3 | h3
        · exact absurd h3.symm e
        · exact h3
      obtain ⟨I, hI⟩ := ih h2
      refine ⟨I + 1, by simpa using hI.here, fun j hj => ?_⟩
      cases j with
      | zero => simpa using e
      | succ j => simpa using hI.first j (by omega)
/-- the first place of a number in rows -/
structure Found (xss : List (List Int)) (s : Int) (P I : Nat) : Prop where
  here : ∃ xs, xss[P]? = some xs ∧ At1 xs s I
  before : ∀ q ys, q < P → xss[q]? = some ys → s ∉ ys
theorem Found.unique {xss : List (List Int)} {s : Int} {P I Q J : Nat} (h : Found xss s P I) (k : Found xss s Q J) : P = Q ∧ I = J := by
  obtain ⟨xs, hx, h1⟩ := h.here
  obtain ⟨ys, hy, k1⟩ := k.here
  have e : P = Q := by
    rcases Nat.lt_trichotomy P Q with h2 | h2 | h2
    · exact absurd h1.mem (k.before P xs h2 hx)
    · exact h2
    · exact absurd k1.mem (h.before Q ys h2 hy)
  subst e
  rw [hx] at hy
  obtain rfl := Option.some.inj hy
  exact ⟨rfl, h1.unique k1⟩
theorem below_drewN' {B : Nat} {a w : World} {n : Nat} (h : Below B a w) : Below B a (w.drewN n) := ⟨h.os, h.tape, h.output, h.size, h.block⟩
def NotIn (xss : List (List Int)) (s : Int) : Prop := ∀ ys ∈ xss, s ∉ ys
theorem found_or (xss : List (List Int)) (s : Int) : (∃ P I, Found xss s P I) ∨ NotIn xss s := by
  induction xss with
  | nil => exact .inr fun ys h => by simp at h
  | cons xs r ih =>
    by_cases h : s ∈ xs
    · obtain ⟨I, hI⟩ := at1_of_mem h
      exact .inl ⟨0, I, ⟨xs, rfl, hI⟩, fun q ys hq => absurd hq (by omega)⟩
    · rcases ih with ⟨P, I, ⟨ys, hy, hI⟩, hb⟩ | hn
      · refine .inl ⟨P + 1, I, ⟨ys, by simpa using hy, hI⟩, fun q zs hq hz => ?_⟩
        cases q with
        | zero =>
          simp only [List.getElem?_cons_zero, Option.some.injEq] at hz
          rw [← hz]
          exact h
        | succ q => exact hb q zs (by omega) (by simpa using hz)
      · refine .inr fun ys hy => ?_
        rcases List.mem_cons.1 hy with rfl | h2
        · exact h
        · exact hn ys h2
theorem Found.not {xss : List (List Int)} {s : Int} {P I : Nat} (h : Found xss s P I) : ¬ NotIn xss s := fun hn => by
  obtain ⟨xs, hx, h1⟩ := h.here
  exact hn xs (List.mem_of_getElem? hx) h1.mem
abbrev two64 (a b : Int) : Value := .tuple #[.int .i64 a, .int .i64 b]
/-- what is found, and the code -/
structure FR (xss : List (List Int)) (s p i : Int) (k : Nat) : Prop where
  bad : ¬ CupOk xss → p = 0 ∧ i = 0 ∧ k = 1
  ok : CupOk xss → (∀ P I : Nat, Found xss s P I → p = P ∧ i = I ∧ k = 0) ∧ (NotIn xss s → p = 0 ∧ i = 0 ∧ k = 6)
theorem FR.exists (xss : List (List Int)) (s : Int) : ∃ p i k, FR xss s p i k := by
  by_cases hc : CupOk xss
  · rcases found_or xss s with ⟨P, I, h⟩ | h
    · exact ⟨P, I, 0, ⟨fun h => absurd hc h, fun _ => ⟨fun Q J k => by obtain ⟨rfl, rfl⟩ := h.unique k; exact ⟨rfl, rfl, rfl⟩, fun hn => absurd hn h.not⟩⟩⟩
    · exact ⟨0, 0, 6, ⟨fun h => absurd hc h, fun _ => ⟨fun Q J k => absurd h k.not, fun _ => ⟨rfl, rfl, rfl⟩⟩⟩⟩
  · exact ⟨0, 0, 1, ⟨fun _ => ⟨rfl, rfl, rfl⟩, fun h => absurd h hc⟩⟩
abbrev three (p i : Int) (k : Nat) : Value := .tuple #[.int .i64 p, .int .i64 i, .int .i64 k]
end Go.Proofs.YtjfimmfnhlimkaaDoor.cup
