/-
  Facts of the whole program that every card asks.
-/
import Derived.Test.YtdafnibmoggcnaaDoorCards
import Derived.Test.YtdafnibmoggcnaaDoorTie
import Derived.ProofKit
namespace Go.Proofs.YtdafnibmoggcnaaDoor.facts
open Go
theorem looks : true = Tryd.pinned.checked.prog.looks [] := by kernel_rfl
theorem mainIs : Tryd.pinned.checked.prog.mainIs = some (true, ("6721c854d35e20d811211a2af3a29732869435b6f4eb6e3efb1a8b7c1a6054d8").toList) := by kernel_rfl
end Go.Proofs.YtdafnibmoggcnaaDoor.facts
