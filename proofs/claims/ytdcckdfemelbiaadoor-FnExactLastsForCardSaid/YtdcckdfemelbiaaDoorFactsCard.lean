/-
  Facts of the whole program that every card asks.
-/
import Derived.Test.YtdcckdfemelbiaaDoorCards
import Derived.Test.YtdcckdfemelbiaaDoorTie
import Derived.ProofKit
namespace Go.Proofs.YtdcckdfemelbiaaDoor.facts
open Go
theorem looks : true = Tryd.pinned.checked.prog.looks [] := by kernel_rfl
theorem mainIs : Tryd.pinned.checked.prog.mainIs = some (true, ("c489f444a003d2373c37a4d9cbec0423839b5298c5d3c9f64b410717403c5ed6").toList) := by kernel_rfl
end Go.Proofs.YtdcckdfemelbiaaDoor.facts
