/-
  Facts of the whole program that every card asks.
-/
import Derived.Test.YtajhdgoinghmmaaDoorCards
import Derived.Test.YtajhdgoinghmmaaDoorTie
import Derived.ProofKit
namespace Go.Proofs.YtajhdgoinghmmaaDoor.facts
open Go
theorem looks : true = Tryd.pinned.checked.prog.looks [] := by kernel_rfl
theorem mainIs : Tryd.pinned.checked.prog.mainIs = some (true, ("8b436b0d4ebc244ca5fa1ecb4acd5e6b323842bc986de5ee1cc583ce84129dc0").toList) := by kernel_rfl
end Go.Proofs.YtajhdgoinghmmaaDoor.facts
