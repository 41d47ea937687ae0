/-
  Facts of the whole program that every card asks.
-/
import Derived.Test.YtjfimmfnhlimkaaDoorCards
import Derived.Test.YtjfimmfnhlimkaaDoorTie
import Derived.ProofKit
namespace Go.Proofs.YtjfimmfnhlimkaaDoor.facts
open Go
theorem looks : true = Tryd.pinned.checked.prog.looks [] := by kernel_rfl
theorem mainIs : Tryd.pinned.checked.prog.mainIs = some (true, ("41d7c18e3c0a3dd404c639b478abade04e6dc57a0b79fe04d30cbefd8e79a30f").toList) := by kernel_rfl
end Go.Proofs.YtjfimmfnhlimkaaDoor.facts
