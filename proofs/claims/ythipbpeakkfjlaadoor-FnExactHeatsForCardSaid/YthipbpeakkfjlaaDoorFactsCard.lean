/-
  Facts of the whole program that every card asks.
-/
import Derived.Test.YthipbpeakkfjlaaDoorCards
import Derived.Test.YthipbpeakkfjlaaDoorTie
import Derived.ProofKit
namespace Go.Proofs.YthipbpeakkfjlaaDoor.facts
open Go
theorem looks : true = Tryd.pinned.checked.prog.looks [] := by kernel_rfl
theorem mainIs : Tryd.pinned.checked.prog.mainIs = some (true, ("f5277fcf2970c1aae6d056786c316d07d53576b6f6aea8b76971bcf2b4085859").toList) := by kernel_rfl
end Go.Proofs.YthipbpeakkfjlaaDoor.facts
