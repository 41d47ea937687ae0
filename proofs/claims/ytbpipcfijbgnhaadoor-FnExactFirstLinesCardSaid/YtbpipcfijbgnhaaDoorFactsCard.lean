/-
  Facts of the whole program that every card asks.
-/
import Derived.Test.YtbpipcfijbgnhaaDoorCards
import Derived.Test.YtbpipcfijbgnhaaDoorTie
import Derived.ProofKit
namespace Go.Proofs.YtbpipcfijbgnhaaDoor.facts
open Go
theorem looks : true = Tryd.pinned.checked.prog.looks [] := by kernel_rfl
theorem mainIs : Tryd.pinned.checked.prog.mainIs = some (true, ("3ce9ef463a31511d3b289e458f1b8ef9a1242bec040d7282a35b8aa61953ea5e").toList) := by kernel_rfl
end Go.Proofs.YtbpipcfijbgnhaaDoor.facts
