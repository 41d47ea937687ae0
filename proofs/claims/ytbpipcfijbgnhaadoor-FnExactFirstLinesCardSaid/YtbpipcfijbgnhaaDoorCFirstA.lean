/-
  Contract of the program's FirstLines, whatever its checks say.
-/
import Derived.Test.YtbpipcfijbgnhaaDoorCFirstI
namespace Go.Proofs.YtbpipcfijbgnhaaDoor.hang
open Go Go.RowKit sl errs

theorem code4 (l : Lin) (xs : List Clo) (n k0 k1 k2 k3 : Nat) (en : n = xs.length) (h0 : k0 = if [l].all Lin.valid = true then 0 else 1) (h1 : k1 = if xs.all Clo.valid = true then 0 else 1) (h2 : k2 = if 7 < n then 3 else 0) (h3 : k3 = if aloneB l xs = true then 0 else 6) :
    codeFirst l xs = firstCode [k0, k1, k2, k3] := by
  rw [first4, code3 l xs n k0 k1 k2 en h0 h1 h2, codeFirst, h3]
theorem or_if (p : Prop) [Decidable p] (a b : Nat) : (a = if p then a else b) ∨ (b = if p then a else b) := by
  by_cases h : p
  · exact .inl (if_pos h).symm
  · exact .inr (if_neg h).symm
theorem or_if' (p : Prop) [Decidable p] (a b : Nat) : (b = if p then a else b) ∨ (a = if p then a else b) := (or_if p a b).symm
/-- the number of lines -/
def numFirst (l : Lin) (xs : List Clo) (code num : Nat) : Prop := (code = 0 → Used (firstZ l xs) num) ∧ (code ≠ 0 → num = 0)
theorem numFirst_exists (l : Lin) (xs : List Clo) : ∃ num, numFirst l xs (codeFirst l xs) num := by
  by_cases h : codeFirst l xs = 0
  · obtain ⟨h1, h2⟩ := codeFirst_zero h
    obtain ⟨_, _, h3⟩ := codeHung_zero h1
    obtain ⟨u, hu⟩ := used_exists h2 h3
    exact ⟨u, fun _ => hu, fun k => absurd h k⟩
  · exact ⟨0, fun k => absurd k h, fun _ => rfl⟩
theorem firstLs_le (l : Lin) (xs : List Clo) (code : Nat) (hn : xs.length ≤ 1048576) : (firstLs l xs code).length ≤ 1048576 := by
  unfold firstLs
  split
  · rw [firstO_len]; exact hn
  · simp
set_option maxRecDepth 100000 in
theorem FirstLines_any (l : Lin) (hl : l.Fits) (A : Option Addr) (n c : Nat) (xs : List Clo) (en : n = xs.length) (hn : n ≤ 1048576) (hf : ∀ x ∈ xs, x.Fits) {w : World} {B : Nat} {e : Nat → Addr} (h : Errs w B e) (hB : B ≤ w.heap.size) (hg : Sl Clo.cells 2 w w.heap.size A xs) (code num : Nat) (hcode : code = codeFirst l xs) (hnum : numFirst l xs code num) :
    Calls Tryd.prog 39 #[l.v, .slice A n c] w (Own3 w (firstLs l xs code) num code) := by
  rcases or_if ([l].all Lin.valid = true) 0 1 with h0 | h0 <;> rcases or_if (xs.all Clo.valid = true) 0 1 with h1 | h1 <;> rcases or_if' (7 < n) 3 0 with h2 | h2 <;> rcases or_if (aloneB l xs = true) 0 6 with h3 | h3
  · have e1 : code = 0 := hcode.trans (code4 l xs n 0 0 0 0 en h0 h1 h2 h3)
    subst e1
    rw [firstLs_fine _ _ rfl]
    have hv : ∀ x ∈ xs, Clo.valid x = true := List.all_eq_true.1 (by
      by_cases hh : xs.all Clo.valid = true
      · exact hh
      · rw [if_neg hh] at h1; omega)
    have hn7 : n ≤ 7 := by
      by_cases hh : 7 < n
      · rw [if_pos hh] at h2; omega
      · omega
    have hal : aloneB l xs = true := by
      by_cases hh : aloneB l xs = true
      · exact hh
      · rw [if_neg hh] at h3; omega
    exact first_fine l hl A n c xs en hn hf h hB hg h0 h1 h2 h3 hv hn7 hal num (hnum.1 rfl)

  · have e1 : code = 6 := hcode.trans (code4 l xs n 0 0 0 6 en h0 h1 h2 h3)
    subst e1
    have e2 : num = 0 := hnum.2 (by decide)
    subst e2
    rw [firstLs_fails _ _ (by decide)]
    exact first_0006 l hl A n c xs en hn hf h hB hg h0 h1 h2 h3

  · have e1 : code = 3 := hcode.trans (code4 l xs n 0 0 3 0 en h0 h1 h2 h3)
    subst e1
    have e2 : num = 0 := hnum.2 (by decide)
    subst e2
    rw [firstLs_fails _ _ (by decide)]
    exact first_0030 l hl A n c xs en hn hf h hB hg h0 h1 h2 h3

  · have e1 : code = 3 := hcode.trans (code4 l xs n 0 0 3 6 en h0 h1 h2 h3)
    subst e1
    have e2 : num = 0 := hnum.2 (by decide)
    subst e2
    rw [firstLs_fails _ _ (by decide)]
    exact first_0036 l hl A n c xs en hn hf h hB hg h0 h1 h2 h3

  · have e1 : code = 1 := hcode.trans (code4 l xs n 0 1 0 0 en h0 h1 h2 h3)
    subst e1
    have e2 : num = 0 := hnum.2 (by decide)
    subst e2
    rw [firstLs_fails _ _ (by decide)]
    exact first_0100 l hl A n c xs en hn hf h hB hg h0 h1 h2 h3

  · have e1 : code = 1 := hcode.trans (code4 l xs n 0 1 0 6 en h0 h1 h2 h3)
    subst e1
    have e2 : num = 0 := hnum.2 (by decide)
    subst e2
    rw [firstLs_fails _ _ (by decide)]
    exact first_0106 l hl A n c xs en hn hf h hB hg h0 h1 h2 h3

  · have e1 : code = 1 := hcode.trans (code4 l xs n 0 1 3 0 en h0 h1 h2 h3)
    subst e1
    have e2 : num = 0 := hnum.2 (by decide)
    subst e2
    rw [firstLs_fails _ _ (by decide)]
    exact first_0130 l hl A n c xs en hn hf h hB hg h0 h1 h2 h3

  · have e1 : code = 1 := hcode.trans (code4 l xs n 0 1 3 6 en h0 h1 h2 h3)
    subst e1
    have e2 : num = 0 := hnum.2 (by decide)
    subst e2
    rw [firstLs_fails _ _ (by decide)]
    exact first_0136 l hl A n c xs en hn hf h hB hg h0 h1 h2 h3

  · have e1 : code = 1 := hcode.trans (code4 l xs n 1 0 0 0 en h0 h1 h2 h3)
    subst e1
    have e2 : num = 0 := hnum.2 (by decide)
    subst e2
    rw [firstLs_fails _ _ (by decide)]
    exact first_1000 l hl A n c xs en hn hf h hB hg h0 h1 h2 h3

  · have e1 : code = 1 := hcode.trans (code4 l xs n 1 0 0 6 en h0 h1 h2 h3)
    subst e1
    have e2 : num = 0 := hnum.2 (by decide)
    subst e2
    rw [firstLs_fails _ _ (by decide)]
    exact first_1006 l hl A n c xs en hn hf h hB hg h0 h1 h2 h3

  · have e1 : code = 1 := hcode.trans (code4 l xs n 1 0 3 0 en h0 h1 h2 h3)
    subst e1
    have e2 : num = 0 := hnum.2 (by decide)
    subst e2
    rw [firstLs_fails _ _ (by decide)]
    exact first_1030 l hl A n c xs en hn hf h hB hg h0 h1 h2 h3

  · have e1 : code = 1 := hcode.trans (code4 l xs n 1 0 3 6 en h0 h1 h2 h3)
    subst e1
    have e2 : num = 0 := hnum.2 (by decide)
    subst e2
    rw [firstLs_fails _ _ (by decide)]
    exact first_1036 l hl A n c xs en hn hf h hB hg h0 h1 h2 h3

  · have e1 : code = 1 := hcode.trans (code4 l xs n 1 1 0 0 en h0 h1 h2 h3)
    subst e1
    have e2 : num = 0 := hnum.2 (by decide)
    subst e2
    rw [firstLs_fails _ _ (by decide)]
    exact first_1100 l hl A n c xs en hn hf h hB hg h0 h1 h2 h3

  · have e1 : code = 1 := hcode.trans (code4 l xs n 1 1 0 6 en h0 h1 h2 h3)
    subst e1
    have e2 : num = 0 := hnum.2 (by decide)
    subst e2
    rw [firstLs_fails _ _ (by decide)]
    exact first_1106 l hl A n c xs en hn hf h hB hg h0 h1 h2 h3

  · have e1 : code = 1 := hcode.trans (code4 l xs n 1 1 3 0 en h0 h1 h2 h3)
    subst e1
    have e2 : num = 0 := hnum.2 (by decide)
    subst e2
    rw [firstLs_fails _ _ (by decide)]
    exact first_1130 l hl A n c xs en hn hf h hB hg h0 h1 h2 h3

  · have e1 : code = 1 := hcode.trans (code4 l xs n 1 1 3 6 en h0 h1 h2 h3)
    subst e1
    have e2 : num = 0 := hnum.2 (by decide)
    subst e2
    rw [firstLs_fails _ _ (by decide)]
    exact first_1136 l hl A n c xs en hn hf h hB hg h0 h1 h2 h3

end Go.Proofs.YtbpipcfijbgnhaaDoor.hang
