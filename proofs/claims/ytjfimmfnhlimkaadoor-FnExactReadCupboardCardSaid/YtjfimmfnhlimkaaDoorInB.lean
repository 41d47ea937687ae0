/-
  The model's check that a number is between two.
-/
import Derived.Test.YtjfimmfnhlimkaaDoorRows
import Derived.Test.YtjfimmfnhlimkaaDoorJoin3
import Derived.WalkKit
namespace Go.Proofs.YtjfimmfnhlimkaaDoor.stk
open Go Go.RowKit sl
def inB (n lo hi : Int) : Bool := decide (lo ≤ n) && decide (n ≤ hi)
theorem inB_iff (n lo hi : Int) : inB n lo hi = true ↔ lo ≤ n ∧ n ≤ hi := by simp [inB]
theorem l00In_any (n lo hi : Int) (w : World) :
    Calls Tryd.prog 121 #[.int .i64 n, .int .i64 lo, .int .i64 hi] w fun o w' => o = .returned (.bool (inB n lo hi)) ∧ w = w' := by
  go_enter Tryd.func121, Tryd.ntmps121
  go_wp2_with fail
  all_goals go_ret
  all_goals exact ⟨ret_bool (by first | (simp [inB, *]; done) | (simp [inB]; omega)), rfl⟩
theorem l00In_b (n lo hi : Int) (b : Bool) (hb : inB n lo hi = b) (w : World) :
    Calls Tryd.prog 121 #[.int .i64 n, .int .i64 lo, .int .i64 hi] w fun o w' => o = .returned (.bool b) ∧ w = w' := by
  subst hb
  exact l00In_any n lo hi w
end Go.Proofs.YtjfimmfnhlimkaaDoor.stk
