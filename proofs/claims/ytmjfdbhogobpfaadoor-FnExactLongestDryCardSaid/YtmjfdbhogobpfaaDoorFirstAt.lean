/-
  The first place of a list at which something holds; no program in it.
-/
import Derived.Test.YtmjfdbhogobpfaaDoorSl
namespace Go.Proofs.YtmjfdbhogobpfaaDoor

/-- the first place, counted from b on, at which p holds -/
def firstAt {α : Type} (p : α → Bool) : List α → Nat → Option Nat
  | [], _ => none
  | x :: r, b => if p x = true then some b else firstAt p r (b + 1)
theorem firstAt_hit {α : Type} {p : α → Bool} : ∀ {xs : List α} {b k : Nat} {x : α}, (∀ i y, i < k → xs[i]? = some y → p y = false) → xs[k]? = some x → p x = true → firstAt p xs b = some (b + k)
  | [], _, k, x, _, h, _ => by simp at h
  | y :: r, b, 0, x, _, h, hp => by
    simp only [List.getElem?_cons_zero, Option.some.injEq] at h
    subst h
    rw [firstAt, if_pos hp]
    rfl
  | y :: r, b, k + 1, x, hn, h, hp => by
    simp only [List.getElem?_cons_succ] at h
    have h0 := hn 0 y (by omega) rfl
    rw [firstAt, if_neg (by rw [h0]; decide), firstAt_hit (fun i z hi hz => hn (i + 1) z (by omega) (by simpa using hz)) h hp]
    congr 1
    omega
theorem firstAt_none {α : Type} {p : α → Bool} : ∀ {xs : List α} {b : Nat}, (∀ i y, i < xs.length → xs[i]? = some y → p y = false) → firstAt p xs b = none
  | [], _, _ => rfl
  | y :: r, b, hn => by
    have h0 := hn 0 y (by simp) rfl
    rw [firstAt, if_neg (by rw [h0]; decide)]
    exact firstAt_none fun i z hi hz => hn (i + 1) z (by simp; omega) (by simpa using hz)
end Go.Proofs.YtmjfdbhogobpfaaDoor
