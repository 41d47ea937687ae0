/-
  Facts of the whole program that every card asks.
-/
import Derived.Test.YtekigapeekjigaaDoorCards
import Derived.Test.YtekigapeekjigaaDoorTie
import Derived.ProofKit
namespace Go.Proofs.YtekigapeekjigaaDoor.facts
open Go
theorem looks : true = Tryd.pinned.checked.prog.looks [] := by kernel_rfl
theorem mainIs : Tryd.pinned.checked.prog.mainIs = some (true, ("692c3a3602500c0a99672a70725120ab98fbb518c4f3bf840f754cced2701b79").toList) := by kernel_rfl
end Go.Proofs.YtekigapeekjigaaDoor.facts
