/-
  Facts of the whole program that every card asks.
-/
import Derived.Test.YtcbbabepjfiigaaDoorCards
import Derived.Test.YtcbbabepjfiigaaDoorTie
import Derived.ProofKit
namespace Go.Proofs.YtcbbabepjfiigaaDoor.facts
open Go
theorem looks : true = Tryd.pinned.checked.prog.looks [] := by kernel_rfl
theorem mainIs : Tryd.pinned.checked.prog.mainIs = some (true, ("ed5fff400b2371b81df71f3d6656bdb5e630cbef3fc18a0345b9afab37e88590").toList) := by kernel_rfl
end Go.Proofs.YtcbbabepjfiigaaDoor.facts
