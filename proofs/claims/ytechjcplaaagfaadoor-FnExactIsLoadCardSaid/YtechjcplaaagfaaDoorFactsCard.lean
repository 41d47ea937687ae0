/-
  Facts of the whole program that every card asks.
-/
import Derived.Test.YtechjcplaaagfaaDoorCards
import Derived.Test.YtechjcplaaagfaaDoorTie
import Derived.ProofKit
namespace Go.Proofs.YtechjcplaaagfaaDoor.facts
open Go
theorem looks : true = Tryd.pinned.checked.prog.looks [] := by kernel_rfl
theorem mainIs : Tryd.pinned.checked.prog.mainIs = some (true, ("346915a326337df9a91253b5ac8aabc04763201dd5003e255519b451c85c3d13").toList) := by kernel_rfl
end Go.Proofs.YtechjcplaaagfaaDoor.facts
