/-
  Facts of the whole program that every card asks.
-/
import Derived.Test.YtfnlgpnocodonaaDoorCards
import Derived.Test.YtfnlgpnocodonaaDoorTie
import Derived.ProofKit
namespace Go.Proofs.YtfnlgpnocodonaaDoor.facts
open Go
theorem looks : true = Tryd.pinned.checked.prog.looks [] := by kernel_rfl
theorem mainIs : Tryd.pinned.checked.prog.mainIs = some (true, ("16e9806100b1dc28ffaf07b3ab2e92066b8de3004c444bffc8102500bd7aaa0a").toList) := by kernel_rfl
end Go.Proofs.YtfnlgpnocodonaaDoor.facts
