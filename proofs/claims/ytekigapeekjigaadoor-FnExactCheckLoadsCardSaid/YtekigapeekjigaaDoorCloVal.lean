/-
  Contracts of the functions on one cloth, one line, or the validity of a list of cloths.
-/
import Derived.Test.YtekigapeekjigaaDoorHangPure
namespace Go.Proofs.YtekigapeekjigaaDoor.hang
open Go.RowKit sl

/-- is a number between two -/
def inB (n lo hi : Int) : Bool := decide (lo ≤ n) && decide (n ≤ hi)
theorem inB_iff {n lo hi : Int} : inB n lo hi = true ↔ lo ≤ n ∧ n ≤ hi := by simp [inB]
theorem clo_in (x : Clo) : Clo.valid x = (inB x.wide 4 200 && inB x.heavy 1 500) := by simp [Clo.valid, inB, Bool.and_assoc]
theorem lin_in (x : Lin) : Lin.valid x = (inB x.long 4 2000 && inB x.most 1 2000) := by simp [Lin.valid, inB, Bool.and_assoc]

theorem l00In_any (n lo hi : Int) (w : World) :
    Calls Tryd.prog 113 #[.int .i64 n, .int .i64 lo, .int .i64 hi] w fun o w' => o = .returned (.bool (inB n lo hi)) ∧ w = w' := by
  go_enter Tryd.func113, Tryd.ntmps113
  go_wp2_with fail
  all_goals go_ret
  all_goals exact ⟨ret_bool (by first | (simp [inB, *]; done) | (simp [inB]; omega)), rfl⟩
theorem l00In_b (n lo hi : Int) (b : Bool) (hb : inB n lo hi = b) (w : World) :
    Calls Tryd.prog 113 #[.int .i64 n, .int .i64 lo, .int .i64 hi] w fun o w' => o = .returned (.bool b) ∧ w = w' := by
  subst hb
  exact l00In_any n lo hi w

end Go.Proofs.YtekigapeekjigaaDoor.hang
