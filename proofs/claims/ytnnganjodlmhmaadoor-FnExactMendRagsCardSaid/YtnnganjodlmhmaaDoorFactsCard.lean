/-
  Facts of the whole program that every card asks.
-/
import Derived.Test.YtnnganjodlmhmaaDoorCards
import Derived.Test.YtnnganjodlmhmaaDoorTie
import Derived.ProofKit
namespace Go.Proofs.YtnnganjodlmhmaaDoor.facts
open Go
theorem looks : true = Tryd.pinned.checked.prog.looks [] := by kernel_rfl
theorem mainIs : Tryd.pinned.checked.prog.mainIs = some (true, ("79d07f078c320a14c75cab838b3933855142a7410c5809f9f49a12a4260c5af0").toList) := by kernel_rfl
end Go.Proofs.YtnnganjodlmhmaaDoor.facts
