/-
  Facts of the whole program that every card asks.
-/
import Derived.Test.YtjhkjbdpmianfaaDoorCards
import Derived.Test.YtjhkjbdpmianfaaDoorTie
import Derived.ProofKit
namespace Go.Proofs.YtjhkjbdpmianfaaDoor.facts
open Go
theorem looks : true = Tryd.pinned.checked.prog.looks [] := by kernel_rfl
theorem mainIs : Tryd.pinned.checked.prog.mainIs = some (true, ("dde645c5d0477c3480e8fef4f8223dd5ad5926c3bdb66381aff84f4968e520b8").toList) := by kernel_rfl
end Go.Proofs.YtjhkjbdpmianfaaDoor.facts
