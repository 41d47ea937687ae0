/-
  Several texts of this proof, joined.
-/
import Derived.Test.YtnnganjodlmhmaaDoorRows
import Derived.Test.YtnnganjodlmhmaaDoorJoin3
import Derived.WalkKit
/-
  The model's check that a number is between two.
-/
namespace Go.Proofs.YtnnganjodlmhmaaDoor.stk
open Go Go.RowKit sl
def inB (n lo hi : Int) : Bool := decide (lo ≤ n) && decide (n ≤ hi)
theorem inB_iff (n lo hi : Int) : inB n lo hi = true ↔ lo ≤ n ∧ n ≤ hi := by simp [inB]
theorem l00In_any (n lo hi : Int) (w : World) :
    Calls Tryd.prog 44 #[.int .i64 n, .int .i64 lo, .int .i64 hi] w fun o w' => o = .returned (.bool (inB n lo hi)) ∧ w = w' := by
  go_enter Tryd.func44, Tryd.ntmps44
  go_wp2_with fail
  all_goals go_ret
  all_goals exact ⟨ret_bool (by first | (simp [inB, *]; done) | (simp [inB]; omega)), rfl⟩
theorem l00In_b (n lo hi : Int) (b : Bool) (hb : inB n lo hi = b) (w : World) :
    Calls Tryd.prog 44 #[.int .i64 n, .int .i64 lo, .int .i64 hi] w fun o w' => o = .returned (.bool b) ∧ w = w' := by
  subst hb
  exact l00In_any n lo hi w
end Go.Proofs.YtnnganjodlmhmaaDoor.stk

/-
  The model's check of a number of pieces.
-/
namespace Go.Proofs.YtnnganjodlmhmaaDoor.stk
open Go Go.RowKit sl
theorem l05Count_any (n : Int) (b : Bool) (hb : b = decide (0 ≤ n ∧ n ≤ 500)) (w : World) :
    Calls Tryd.prog 43 #[.int .i64 n] w fun o w' => o = .returned (.bool b) ∧ w = w' := by
  have HB := Lib.hid hb
  clear hb
  go_enter Tryd.func43, Tryd.ntmps43
  go_wp2_with fail
  refine (l00In_any n 0 500 _).mono ?_
  rintro o u ⟨rfl, rfl⟩
  go_wp2_with fail
  go_ret
  exact ⟨ret_bool (by rw [HB.out]; simp [inB]), rfl⟩
end Go.Proofs.YtnnganjodlmhmaaDoor.stk
