/-
  Several texts of this proof, joined.
-/
import Derived.Test.YtjfimmfnhlimkaaDoorJoin18
import Derived.Test.YtjfimmfnhlimkaaDoorStill
/-
  Pieces are laid down at a place: add, the program's.
-/
namespace Go.Proofs.YtjfimmfnhlimkaaDoor.stk
open Go Go.RowKit sl row fold

theorem upd_same (f : Stk) (j : Nat) (x : Int) : upd f j x j = x := by unfold upd; rw [if_pos rfl]
theorem upd_ne (f : Stk) {i j : Nat} (x : Int) (h : i ≠ j) : upd f j x i = f i := by unfold upd; rw [if_neg h]
end Go.Proofs.YtjfimmfnhlimkaaDoor.stk

/-
  Pieces are moved from one place of a stock to another; no program in it.
-/
namespace Go.Proofs.YtjfimmfnhlimkaaDoor.stk
open Go Go.RowKit sl row fold

/-- a stock of some pieces, not too many -/
structure Good (f : Stk) : Prop where
  pos : ∀ j, j < 25 → 0 ≤ f j
  most : sumTo f 25 ≤ 500
theorem valid_good {f : Stk} : validS f = true ↔ Good f := by
  simp only [validS, Bool.and_eq_true, posS_iff, decide_eq_true_iff]
  exact ⟨fun h => ⟨h.1, h.2⟩, fun h => ⟨h.1, h.2⟩⟩
theorem sumTo_pos {f : Stk} : ∀ n, (∀ j, j < n → 0 ≤ f j) → 0 ≤ sumTo f n
  | 0, _ => by simp [sumTo]
  | n + 1, h => by
    have h1 := sumTo_pos n fun j hj => h j (by omega)
    have h2 := h n (by omega)
    rw [sumTo]
    omega
theorem le_sumTo {f : Stk} : ∀ n, (∀ j, j < n → 0 ≤ f j) → ∀ j, j < n → f j ≤ sumTo f n
  | 0, _, j, hj => absurd hj (by omega)
  | n + 1, h, j, hj => by
    have h2 := h n (by omega)
    have h3 := sumTo_pos n fun j hj => h j (by omega)
    rw [sumTo]
    by_cases e : j = n
    · subst e; omega
    · have := le_sumTo n (fun j hj => h j (by omega)) j (by omega)
      omega
theorem Good.le {f : Stk} (h : Good f) {j : Nat} (hj : j < 25) : f j ≤ 500 := Int.le_trans (le_sumTo 25 h.pos j hj) h.most
theorem Good.fits {f : Stk} (h : Good f) : Fits f :=
  ⟨fun j hj => by have := h.pos j (by omega); omega, fun j hj => by have := h.le (show j < 25 by omega); omega, by have := h.pos 24 (by omega); omega, by have := h.le (show 24 < 25 by omega); omega⟩
theorem sumTo_upd_ge (f : Stk) (j : Nat) (x : Int) : ∀ n, n ≤ j → sumTo (upd f j x) n = sumTo f n
  | 0, _ => rfl
  | n + 1, h => by rw [sumTo, sumTo, sumTo_upd_ge f j x n (by omega), upd_ne f x (by omega)]
theorem sumTo_upd (f : Stk) (j : Nat) (x : Int) : ∀ n, j < n → sumTo (upd f j x) n = sumTo f n - f j + x
  | 0, h => absurd h (by omega)
  | n + 1, h => by
    rw [sumTo, sumTo]
    by_cases e : j = n
    · subst e
      rw [sumTo_upd_ge f j x j (Nat.le_refl _), upd_same]
      omega
    · rw [sumTo_upd f j x n (by omega), upd_ne f x (Ne.symm e)]
      omega
/-- some pieces go from one number to another -/
def shift (f : Stk) (i j : Nat) (n : Int) : Stk := upd (upd f i (f i + -n)) j (upd f i (f i + -n) j + n)
theorem Good.shift {f : Stk} (h : Good f) {i j : Nat} (hi : i < 25) (hj : j < 25) {n : Int} (h0 : 0 ≤ n) (hn : n ≤ f i) : Good (shift f i j n) := by
  constructor
  · intro k hk
    unfold stk.shift
    by_cases e : k = j
    · subst e
      rw [upd_same]
      by_cases e2 : k = i
      · subst e2; rw [upd_same]; omega
      · rw [upd_ne _ _ e2]; have := h.pos k hk; omega
    · rw [upd_ne _ _ e]
      by_cases e2 : k = i
      · subst e2; rw [upd_same]; omega
      · rw [upd_ne _ _ e2]; exact h.pos k hk
  · unfold stk.shift
    rw [sumTo_upd _ _ _ 25 hj, sumTo_upd _ _ _ 25 hi]
    have := h.most
    omega
theorem shift_sum (f : Stk) {i j : Nat} (hi : i < 25) (hj : j < 25) (n : Int) : sumTo (shift f i j n) 25 = sumTo f 25 := by
  unfold shift
  rw [sumTo_upd _ _ _ 25 hj, sumTo_upd _ _ _ 25 hi]
  omega
/-- as many as there are, or as are left -/
def few (r x : Int) : Int := if r < x then r else x
theorem few_le (r x : Int) : few r x ≤ r ∧ few r x ≤ x := by unfold few; split <;> omega
theorem few_pos {r x : Int} (h : 0 ≤ r) (h' : 0 ≤ x) : 0 ≤ few r x := by unfold few; split <;> omega
/-- where pieces with u + 1 uses go -/
def tgt (o ls u : Nat) : Nat := if ls = 0 then o + u else if u = 0 then 24 else o + (u - 1)
theorem tgt_lt {o ls u : Nat} (ho : o + 8 ≤ 24) (hu : u < 8) : tgt o ls u < 25 := by unfold tgt; split <;> (try split) <;> omega
def stepS (o q ls u : Nat) (s : Stk × Int) : Stk × Int := (shift s.1 (o + u) (tgt q ls u) (few s.2 (s.1 (o + u))), s.2 - few s.2 (s.1 (o + u)))
/-- those with the most uses left first -/
def mv (o q ls : Nat) : Nat → Stk × Int → Stk × Int
  | 0, s => s
  | k + 1, s => mv o q ls k (stepS o q ls k s)
theorem step_good {o q ls u : Nat} (ho : o + 8 ≤ 24) (hq : q + 8 ≤ 24) (hu : u < 8) {s : Stk × Int} (h : Good s.1) (hr : 0 ≤ s.2) : Good (stepS o q ls u s).1 ∧ 0 ≤ (stepS o q ls u s).2 ∧ (stepS o q ls u s).2 ≤ s.2 := by
  have h1 := few_le s.2 (s.1 (o + u))
  have h2 := few_pos hr (h.pos (o + u) (by omega))
  exact ⟨h.shift (by omega) (tgt_lt hq hu) h2 h1.2, by unfold stepS; simp only; omega, by unfold stepS; simp only; omega⟩
theorem mv_good {o q ls : Nat} (ho : o + 8 ≤ 24) (hq : q + 8 ≤ 24) : ∀ k, k ≤ 8 → ∀ {s : Stk × Int}, Good s.1 → 0 ≤ s.2 → Good (mv o q ls k s).1 ∧ 0 ≤ (mv o q ls k s).2 ∧ (mv o q ls k s).2 ≤ s.2 ∧ sumTo (mv o q ls k s).1 25 = sumTo s.1 25
  | 0, _, s, h, hr => ⟨h, hr, Int.le_refl _, rfl⟩
  | k + 1, hk, s, h, hr => by
    obtain ⟨a, b, c⟩ := step_good (o := o) (q := q) (ls := ls) ho hq (show k < 8 by omega) h hr
    obtain ⟨a', b', c', d'⟩ := mv_good (o := o) (q := q) (ls := ls) ho hq k (by omega) a b
    refine ⟨a', b', Int.le_trans c' c, d'.trans ?_⟩
    exact shift_sum _ (by omega) (tgt_lt hq (by omega)) _
/-- what was used before is dirty now, of the first so many numbers of uses -/
def dirtLow (k : Nat) (f : Stk) : Stk := fun j => if 16 ≤ j ∧ j < 16 + k then f j + f (j - 8) else if 8 ≤ j ∧ j < 8 + k then 0 else f j
theorem dirtLow_zero (f : Stk) : dirtLow 0 f = f := by
  funext j
  unfold dirtLow
  rw [if_neg (by omega), if_neg (by omega)]
/-- the sum of what was used -/
def usedSum (f : Stk) : Nat → Int
  | 0 => 0
  | k + 1 => usedSum f k + f (8 + k)
theorem usedSum_congr {f g : Stk} : ∀ k, (∀ j, j < k → f (8 + j) = g (8 + j)) → usedSum f k = usedSum g k
  | 0, _ => rfl
  | k + 1, h => by rw [usedSum, usedSum, usedSum_congr k fun j hj => h j (by omega), h k (by omega)]
theorem usedSum_pos {f : Stk} : ∀ k, (∀ j, j < k → 0 ≤ f (8 + j)) → 0 ≤ usedSum f k
  | 0, _ => by simp [usedSum]
  | k + 1, h => by
    have := usedSum_pos (f := f) k fun j hj => h j (by omega)
    have := h k (by omega)
    rw [usedSum]; omega
theorem mv_dirt : ∀ k, k ≤ 8 → ∀ (f : Stk) (r : Int), (∀ j, j < k → 0 ≤ f (8 + j)) → usedSum f k ≤ r → (mv 8 16 0 k (f, r)).1 = dirtLow k f
  | 0, _, f, r, _, _ => by rw [dirtLow_zero]; rfl
  | k + 1, hk, f, r, hp, hs => by
    have h1 : few r (f (8 + k)) = f (8 + k) := by
      have := usedSum_pos (f := f) k fun j hj => hp j (by omega)
      rw [usedSum] at hs
      unfold few
      split <;> omega
    have e : stepS 8 16 0 k (f, r) = (shift f (8 + k) (16 + k) (f (8 + k)), r - f (8 + k)) := by
      unfold stepS tgt
      simp only [h1, if_pos]
    have hne : ∀ j, j < k → shift f (8 + k) (16 + k) (f (8 + k)) (8 + j) = f (8 + j) := fun j hj => by
      unfold shift
      rw [upd_ne _ _ (by omega), upd_ne _ _ (by omega)]
    rw [mv, e, mv_dirt k (by omega) _ _ (fun j hj => by rw [hne j hj]; exact hp j (by omega)) (by
      rw [usedSum_congr k hne]
      rw [usedSum] at hs
      omega)]
    funext j
    unfold dirtLow shift
    by_cases a : j = 16 + k
    · subst a
      rw [if_neg (by omega), if_neg (by omega), upd_same, upd_ne _ _ (by omega), if_pos (by omega), show 16 + k - 8 = 8 + k by omega]
    · by_cases b : j = 8 + k
      · subst b
        rw [if_neg (by omega), if_neg (by omega), upd_ne _ _ (by omega), upd_same, if_neg (by omega), if_pos (by omega)]
        omega
      · by_cases c : 16 ≤ j ∧ j < 16 + k
        · rw [if_pos c, if_pos (by omega), upd_ne _ _ (by omega), upd_ne _ _ (by omega), upd_ne _ _ (by omega), upd_ne _ _ (by omega)]
        · by_cases d : 8 ≤ j ∧ j < 8 + k
          · rw [if_neg c, if_pos d, if_neg (by omega), if_pos (by omega)]
          · rw [if_neg c, if_neg d, if_neg (by omega), if_neg (by omega), upd_ne _ _ a, upd_ne _ _ b]
theorem usedSum_le {f : Stk} (h : Good f) : usedSum f 8 ≤ 500 := by
  have h1 := h.most
  have p := h.pos
  have := p 0 (by omega); have := p 1 (by omega); have := p 2 (by omega); have := p 3 (by omega); have := p 4 (by omega); have := p 5 (by omega); have := p 6 (by omega); have := p 7 (by omega)
  have := p 16 (by omega); have := p 17 (by omega); have := p 18 (by omega); have := p 19 (by omega); have := p 20 (by omega); have := p 21 (by omega); have := p 22 (by omega); have := p 23 (by omega); have := p 24 (by omega)
  simp only [sumTo] at h1
  simp only [usedSum, Nat.reduceAdd]
  omega
/-- a stock behind its use: what is left of the need -/
def useS (f : Stk) (need : Int) : Stk × Int := mv 0 8 1 8 (dirtLow 8 f, need)
theorem dirt_good {f : Stk} (h : Good f) : Good (dirtLow 8 f) ∧ sumTo (dirtLow 8 f) 25 = sumTo f 25 := by
  have e := mv_dirt 8 (Nat.le_refl _) f 500 (fun j hj => h.pos _ (by omega)) (usedSum_le h)
  have g := mv_good (o := 8) (q := 16) (ls := 0) (by omega) (by omega) 8 (Nat.le_refl _) (s := (f, 500)) h (by simp)
  rw [e] at g
  exact ⟨g.1, g.2.2.2⟩
theorem use_good {f : Stk} (h : Good f) {need : Int} (hn : 0 ≤ need) : Good (useS f need).1 ∧ 0 ≤ (useS f need).2 ∧ (useS f need).2 ≤ need ∧ sumTo (useS f need).1 25 = sumTo f 25 := by
  obtain ⟨d, e⟩ := dirt_good h
  obtain ⟨a, b, c, q⟩ := mv_good (o := 0) (q := 8) (ls := 1) (by omega) (by omega) 8 (Nat.le_refl _) (s := (dirtLow 8 f, need)) d hn
  exact ⟨a, b, c, q.trans e⟩
end Go.Proofs.YtjfimmfnhlimkaaDoor.stk
