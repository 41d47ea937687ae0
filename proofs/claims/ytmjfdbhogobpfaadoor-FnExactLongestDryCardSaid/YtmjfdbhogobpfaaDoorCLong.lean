/-
  Contracts of LongestDry, the program's and the model's.
-/
import Derived.Test.YtmjfdbhogobpfaaDoorCRain
namespace Go.Proofs.YtmjfdbhogobpfaaDoor.day
open Go Go.RowKit sl errs

abbrev three (x : Int × Int × Int) : Value := .tuple #[.int .i64 x.1, .int .i64 x.2.1, .int .i64 x.2.2]
/-- no rain in the hours from a on, so many -/
def dryRun (d : List Wea) (a n : Nat) : Prop := ∀ i y, a ≤ i → i < a + n → d[i]? = some y → y.rain ≤ 0
/-- the first one of the longest runs without rain that end at the hour e or before -/
structure IsLong (d : List Wea) (e a n : Nat) : Prop where
  fits : a + n ≤ e
  dry : dryRun d a n
  most : ∀ b m, b + m ≤ e → dryRun d b m → m ≤ n
  first : ∀ b, b < a → b + n ≤ e → ¬ dryRun d b n
theorem IsLong.unique {d : List Wea} {e a n b m : Nat} (h : IsLong d e a n) (k : IsLong d e b m) : a = b ∧ n = m := by
  have e1 : n = m := Nat.le_antisymm (k.most _ _ h.fits h.dry) (h.most _ _ k.fits k.dry)
  subst e1
  refine ⟨?_, rfl⟩
  rcases Nat.lt_trichotomy a b with h1 | h1 | h1
  · exact absurd h.dry (k.first a h1 h.fits)
  · exact h1
  · exact absurd k.dry (h.first b h1 k.fits)
theorem dryRun.sub {d : List Wea} {a n b m : Nat} (h : dryRun d a n) (h1 : a ≤ b) (h2 : b + m ≤ a + n) : dryRun d b m := fun i y hi hl hy => h i y (by omega) (by omega) hy
theorem dryRun.nil (d : List Wea) (a : Nat) : dryRun d a 0 := fun i y h1 h2 => by omega
theorem dryRun.snoc {d : List Wea} {a n : Nat} {x : Wea} (h : dryRun d a n) (hx : d[a + n]? = some x) (hr : x.rain ≤ 0) : dryRun d a (n + 1) := fun i y h1 h2 hy => by
  rcases Nat.lt_or_ge i (a + n) with h3 | h3
  · exact h i y h1 h3 hy
  · obtain rfl : i = a + n := by omega
    rw [hx] at hy
    rw [← Option.some.inj hy]
    exact hr
theorem dryRun.hit {d : List Wea} {a n i : Nat} {x : Wea} (h : dryRun d a n) (hx : d[i]? = some x) (hr : 0 < x.rain) : i < a ∨ a + n ≤ i := by
  rcases Nat.lt_or_ge i a with h1 | h1
  · exact .inl h1
  · refine .inr ?_
    rcases Nat.lt_or_ge i (a + n) with h2 | h2
    · have := h i x h1 h2 hx
      omega
    · exact h2
/-! ### the model's way: hour by hour, with the run that ends here -/
structure ModelI (d : List Wea) (k r a n : Nat) : Prop where
  le : r ≤ k
  run : dryRun d (k - r) r
  max : ∀ b, b < k - r → ¬ dryRun d b (k - b)
  long : IsLong d k a n
theorem ModelI.zero (d : List Wea) : ModelI d 0 0 0 0 :=
  ⟨by omega, dryRun.nil _ _, fun b hb => by omega, ⟨by omega, dryRun.nil _ _, fun b m h _ => by omega, fun b hb => by omega⟩⟩
theorem ModelI.rain {d : List Wea} {k r a n : Nat} {x : Wea} (h : ModelI d k r a n) (hx : d[k]? = some x) (hr : 0 < x.rain) : ModelI d (k + 1) 0 a n := by
  refine ⟨by omega, dryRun.nil _ _, fun b hb hd => ?_, ⟨by have := h.long.fits; omega, h.long.dry, fun b m hm hd => ?_, fun b hb hm hd => ?_⟩⟩
  · have := hd.hit hx hr
    omega
  · rcases Nat.eq_zero_or_pos m with e | e
    · omega
    · have := hd.hit hx hr
      exact h.long.most b m (by omega) hd
  · rcases Nat.eq_zero_or_pos n with e | e
    · subst e
      exact h.long.first b hb (by have := h.long.fits; omega) hd
    · have := hd.hit hx hr
      exact h.long.first b hb (by omega) hd
theorem ModelI.run_max {d : List Wea} {k r a n : Nat} {x : Wea} (h : ModelI d k r a n) (hx : d[k]? = some x) (hr : x.rain ≤ 0) : dryRun d (k - r) (r + 1) ∧ ∀ b, b < k - r → ¬ dryRun d b (k + 1 - b) := by
  have e : k - r + r = k := by have := h.le; omega
  exact ⟨h.run.snoc (by rw [e]; exact hx) hr, fun b hb hd => h.max b hb (hd.sub (Nat.le_refl _) (by omega))⟩
theorem ModelI.more {d : List Wea} {k r a n : Nat} {x : Wea} (h : ModelI d k r a n) (hx : d[k]? = some x) (hr : x.rain ≤ 0) (hn : n < r + 1) : ModelI d (k + 1) (r + 1) (k - r) (r + 1) := by
  obtain ⟨h1, h2⟩ := h.run_max hx hr
  have hle := h.le
  have e : k + 1 - (r + 1) = k - r := by omega
  refine ⟨by omega, by rw [e]; exact h1, fun b hb => h2 b (by omega), ⟨by omega, h1, fun b m hm hd => ?_, fun b hb hm hd => ?_⟩⟩
  · rcases Nat.lt_or_ge k (b + m) with h3 | h3
    · rcases Nat.lt_or_ge (r + 1) m with h4 | h4
      · exact absurd (hd.sub (Nat.le_refl _) (by omega)) (h2 b (by omega))
      · exact h4
    · have := h.long.most b m h3 hd
      omega
  · have := h.long.most b (r + 1) (by omega) hd
    omega
theorem ModelI.less {d : List Wea} {k r a n : Nat} {x : Wea} (h : ModelI d k r a n) (hx : d[k]? = some x) (hr : x.rain ≤ 0) (hn : r + 1 ≤ n) : ModelI d (k + 1) (r + 1) a n := by
  obtain ⟨h1, h2⟩ := h.run_max hx hr
  have hle := h.le
  have e : k + 1 - (r + 1) = k - r := by omega
  refine ⟨by omega, by rw [e]; exact h1, fun b hb => h2 b (by omega), ⟨by have := h.long.fits; omega, h.long.dry, fun b m hm hd => ?_, fun b hb hm hd => ?_⟩⟩
  · rcases Nat.lt_or_ge k (b + m) with h3 | h3
    · rcases Nat.lt_or_ge (r + 1) m with h4 | h4
      · exact absurd (hd.sub (Nat.le_refl _) (by omega)) (h2 b (by omega))
      · omega
    · exact h.long.most b m h3 hd
  · have hf := h.long.fits
    exact h.long.first b hb (by omega) hd
/-! ### the program's way: from each hour on -/
/-- all runs that begin ahead of a have been met -/
structure ProgI (d : List Wea) (s a n : Nat) : Prop where
  fits : a + n ≤ 24
  dry : dryRun d a n
  most : ∀ b m, b < s → b + m ≤ 24 → dryRun d b m → m ≤ n
  first : ∀ b, b < a → b + n ≤ 24 → ¬ dryRun d b n
  le : n = 0 → a = 0
theorem ProgI.zero (d : List Wea) : ProgI d 0 0 0 := ⟨by omega, dryRun.nil _ _, fun b m h => by omega, fun b hb => by omega, fun _ => rfl⟩
theorem ProgI.full {d : List Wea} {a n : Nat} (h : ProgI d 24 a n) : IsLong d 24 a n :=
  ⟨h.fits, h.dry, fun b m hm hd => by
    rcases Nat.lt_or_ge b 24 with h1 | h1
    · exact h.most b m h1 hm hd
    · omega, h.first⟩
/-- within the run from s on, of which h - s hours are dry; what has been found: the best one so far -/
structure ProgJ (d : List Wea) (s h a n : Nat) : Prop where
  sh : s ≤ h
  run : dryRun d s (h - s)
  fits : a + n ≤ 24
  dry : dryRun d a n
  most : ∀ b m, b < s → b + m ≤ 24 → dryRun d b m → m ≤ n
  here : h - s ≤ n
  first : ∀ b, b < a → b + n ≤ 24 → ¬ dryRun d b n
  le : n = 0 → a = 0
theorem ProgI.begin {d : List Wea} {s a n : Nat} (h : ProgI d s a n) : ProgJ d s s a n :=
  ⟨Nat.le_refl _, by rw [Nat.sub_self]; exact dryRun.nil _ _, h.fits, h.dry, h.most, by omega, h.first, h.le⟩
theorem ProgJ.rain {d : List Wea} {s h a n : Nat} {x : Wea} (j : ProgJ d s h a n) (hx : d[h]? = some x) (hr : 0 < x.rain) : ProgI d (s + 1) a n :=
  ⟨j.fits, j.dry, fun b m hb hm hd => by
    rcases Nat.lt_or_ge b s with h1 | h1
    · exact j.most b m h1 hm hd
    · obtain rfl : b = s := by omega
      have := hd.hit hx hr
      have := j.sh
      have := j.here
      omega, j.first, j.le⟩
theorem ProgJ.more {d : List Wea} {s h a n : Nat} {x : Wea} (j : ProgJ d s h a n) (hh : h < 24) (hx : d[h]? = some x) (hr : x.rain ≤ 0) (hn : n < h + 1 - s) : ProgJ d s (h + 1) s (h + 1 - s) := by
  have hs := j.sh
  have e : h + 1 - s = h - s + 1 := by omega
  have h1 : dryRun d s (h + 1 - s) := by
    rw [e]
    exact j.run.snoc (by rw [show s + (h - s) = h by omega]; exact hx) hr
  exact ⟨by omega, h1, by omega, h1, fun b m hb hm hd => by have := j.most b m hb hm hd; omega, Nat.le_refl _, fun b hb hm hd => by have := j.most b _ hb hm hd; omega, fun h0 => by omega⟩
theorem ProgJ.less {d : List Wea} {s h a n : Nat} {x : Wea} (j : ProgJ d s h a n) (hx : d[h]? = some x) (hr : x.rain ≤ 0) (hn : h + 1 - s ≤ n) : ProgJ d s (h + 1) a n := by
  have hs := j.sh
  have e : h + 1 - s = h - s + 1 := by omega
  have h1 : dryRun d s (h + 1 - s) := by
    rw [e]
    exact j.run.snoc (by rw [show s + (h - s) = h by omega]; exact hx) hr
  exact ⟨by omega, h1, j.fits, j.dry, j.most, hn, j.first, j.le⟩
/-- the run goes on to the end of the day: no later one is longer -/
theorem ProgJ.full {d : List Wea} {s a n : Nat} (j : ProgJ d s 24 a n) : IsLong d 24 a n :=
  ⟨j.fits, j.dry, fun b m hm hd => by
    rcases Nat.lt_or_ge b s with h1 | h1
    · exact j.most b m h1 hm hd
    · have := j.here
      omega, j.first⟩
/-- what is told -/
def longRes (a n : Nat) : Int × Int × Int := if n = 0 then (0, 0, 6) else ((a : Int), (n : Int), 0)
/-- the code is 1, or the longest run is told -/
def LongPost (d : List Wea) (w : World) (o : Ending) (w' : World) : Prop :=
  (d.all Wea.valid = false ∧ o = .returned (three (0, 0, 1)) ∨ d.all Wea.valid = true ∧ ∃ a n, IsLong d 24 a n ∧ o = .returned (three (longRes a n))) ∧ Below w.heap.size w w'
end Go.Proofs.YtmjfdbhogobpfaaDoor.day
