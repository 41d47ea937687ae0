/-
  The program's check that a number is between two.
-/
import Derived.Test.YtekigapeekjigaaDoorCode
namespace Go.Proofs.YtekigapeekjigaaDoor.errs
open Go.RowKit

theorem checkWithin_any (x lo hi : Int) {w : World} {B : Nat} {e : Nat → Addr} (h : Errs w B e) :
    Calls Tryd.prog 80 #[.int .i64 x, .int .i64 lo, .int .i64 hi] w fun o w' => o = .returned (errOf e (if lo ≤ x ∧ x ≤ hi then 0 else 2)) ∧ w = w' := by
  obtain ⟨c0, c1, c2, c3, c4, c5, c6, _⟩ := h
  by_cases h0 : lo ≤ x ∧ x ≤ hi
  · rw [if_pos h0]
    obtain ⟨h1, h2⟩ := h0
    have h3 : ¬ x < lo := by omega
    have h4 : ¬ hi < x := by omega
    go_enter Tryd.func80, Tryd.ntmps80
    go_wp2_with fail
    all_goals go_ret
    all_goals exact ⟨rfl, rfl⟩
  · rw [if_neg h0]
    by_cases h1 : x < lo
    · go_enter Tryd.func80, Tryd.ntmps80
      go_wp2_with fail
      all_goals go_ret
      all_goals exact ⟨rfl, rfl⟩
    · have h2 : hi < x := by omega
      go_enter Tryd.func80, Tryd.ntmps80
      go_wp2_with fail
      all_goals go_ret
      all_goals exact ⟨rfl, rfl⟩
end Go.Proofs.YtekigapeekjigaaDoor.errs
