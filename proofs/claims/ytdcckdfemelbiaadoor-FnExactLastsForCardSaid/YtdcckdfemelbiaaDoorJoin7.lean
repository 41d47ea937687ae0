/-
  Several texts of this proof, joined.
-/
import Derived.Test.YtdcckdfemelbiaaDoorRows
import Derived.Test.YtdcckdfemelbiaaDoorJoin3
import Derived.WalkKit
/-
  The model's check that a number is between two.
-/
namespace Go.Proofs.YtdcckdfemelbiaaDoor.stk
open Go Go.RowKit sl
def inB (n lo hi : Int) : Bool := decide (lo ≤ n) && decide (n ≤ hi)
theorem inB_iff (n lo hi : Int) : inB n lo hi = true ↔ lo ≤ n ∧ n ≤ hi := by simp [inB]
theorem l00In_any (n lo hi : Int) (w : World) :
    Calls Tryd.prog 87 #[.int .i64 n, .int .i64 lo, .int .i64 hi] w fun o w' => o = .returned (.bool (inB n lo hi)) ∧ w = w' := by
  go_enter Tryd.func87, Tryd.ntmps87
  go_wp2_with fail
  all_goals go_ret
  all_goals exact ⟨ret_bool (by first | (simp [inB, *]; done) | (simp [inB]; omega)), rfl⟩
theorem l00In_b (n lo hi : Int) (b : Bool) (hb : inB n lo hi = b) (w : World) :
    Calls Tryd.prog 87 #[.int .i64 n, .int .i64 lo, .int .i64 hi] w fun o w' => o = .returned (.bool b) ∧ w = w' := by
  subst hb
  exact l00In_any n lo hi w
end Go.Proofs.YtdcckdfemelbiaaDoor.stk

/-
  The model's check of a number of pieces.
-/
namespace Go.Proofs.YtdcckdfemelbiaaDoor.stk
open Go Go.RowKit sl
theorem l05Count_any (n : Int) (b : Bool) (hb : b = decide (0 ≤ n ∧ n ≤ 500)) (w : World) :
    Calls Tryd.prog 111 #[.int .i64 n] w fun o w' => o = .returned (.bool b) ∧ w = w' := by
  have HB := Lib.hid hb
  clear hb
  go_enter Tryd.func111, Tryd.ntmps111
  go_wp2_with fail
  refine (l00In_any n 0 500 _).mono ?_
  rintro o u ⟨rfl, rfl⟩
  go_wp2_with fail
  go_ret
  exact ⟨ret_bool (by rw [HB.out]; simp [inB]), rfl⟩
end Go.Proofs.YtdcckdfemelbiaaDoor.stk
