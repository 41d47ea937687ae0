/-
  PiecesOf, the program's and the model's; stocks that are checked.
-/
import Derived.Test.YtjfimmfnhlimkaaDoorJoin18
import Derived.Test.YtjfimmfnhlimkaaDoorErr
import Derived.Test.YtjfimmfnhlimkaaDoorJoin16
namespace Go.Proofs.YtjfimmfnhlimkaaDoor.stk
open Go Go.RowKit sl row fold errs

def codeK (f : Stk) : Nat := if validS f = true then 0 else 1
def pcsR (f : Stk) : Int := if validS f = true then sumTo f 25 else 0
abbrev two (a b : Int) : Value := .tuple #[.int .i64 a, .int .i64 b]
theorem validS_iff {f : Stk} : validS f = true ↔ (∀ j, j < 25 → 0 ≤ f j) ∧ sumTo f 25 ≤ 500 := by
  simp [validS, posS_iff]
end Go.Proofs.YtjfimmfnhlimkaaDoor.stk
