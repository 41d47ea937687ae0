/-
  Facts of the whole program that every card asks.
-/
import Derived.Test.YtlembainfhnnbaaDoorCards
import Derived.Test.YtlembainfhnnbaaDoorTie
import Derived.ProofKit
namespace Go.Proofs.YtlembainfhnnbaaDoor.facts
open Go
theorem looks : true = Tryd.pinned.checked.prog.looks [] := by kernel_rfl
theorem mainIs : Tryd.pinned.checked.prog.mainIs = some (true, ("e9fb5674e8a852dd295d97154d09afe1c173022a476122119cab50d6c0c93339").toList) := by kernel_rfl
end Go.Proofs.YtlembainfhnnbaaDoor.facts
