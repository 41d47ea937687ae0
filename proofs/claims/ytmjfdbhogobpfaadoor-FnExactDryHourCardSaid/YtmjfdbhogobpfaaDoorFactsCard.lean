/-
  Facts of the whole program that every card asks.
-/
import Derived.Test.YtmjfdbhogobpfaaDoorCards
import Derived.Test.YtmjfdbhogobpfaaDoorTie
import Derived.ProofKit
namespace Go.Proofs.YtmjfdbhogobpfaaDoor.facts
open Go
theorem looks : true = Tryd.pinned.checked.prog.looks [] := by kernel_rfl
theorem mainIs : Tryd.pinned.checked.prog.mainIs = some (true, ("81752687bfa696fd1694dd609fd72e12f465ba446b5a5950c5c28f33159ae082").toList) := by kernel_rfl
end Go.Proofs.YtmjfdbhogobpfaaDoor.facts
