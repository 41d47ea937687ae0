/-
  Line: its contracts: copied, held against another one, counted.
-/
import Derived.Test.YtekigapeekjigaaDoorRows
import Derived.Test.YtekigapeekjigaaDoorSl
import Derived.Test.YtekigapeekjigaaDoorWords
import Derived.WalkKit
import Derived.WalkSpells
import Derived.WalkLawsBesides
import Derived.Lib.Hide
import Derived.Deep.QuietTactic
import Derived.BigQuiet
import Derived.Deep.RegionHeld3
import Derived.Deep.MidRow
namespace Go.Proofs.YtekigapeekjigaaDoor
open Go.RowKit

/-- the numbers of a Line -/
structure Lin where
  long : Int
  most : Int

/-- they are in the range of their kinds -/
structure Lin.Fits (x : Lin) : Prop where
  long0 : -32768 ≤ x.long
  long1 : x.long ≤ 32767
  most0 : -32768 ≤ x.most
  most1 : x.most ≤ 32767
abbrev Lin.cells (x : Lin) : List Value := [.int .i16 x.long, .int .i16 x.most]
abbrev Lin.v (x : Lin) : Value := .agg #[.int .i16 x.long, .int .i16 x.most]
theorem Lin.len (xs : List Lin) : ∀ x ∈ xs, (Lin.cells x).length = 2 := fun _ _ => rfl
/-- are two equal -/
def Lin.eq (x y : Lin) : Bool := x.long == y.long && (x.most == y.most)
theorem Lin.eq_iff (x y : Lin) : Lin.eq x y = true ↔ x = y := by
  cases x
  cases y
  simp [Lin.eq]
end Go.Proofs.YtekigapeekjigaaDoor
namespace Go.Proofs.YtekigapeekjigaaDoor.linS
open Go.RowKit sl

theorem at_ {w : World} {p : Addr} {x : Lin} (h : At w p x.cells) :
    w.cell? p = some (.int .i16 x.long) ∧ w.cell? ⟨p.block, p.off + 1, none⟩ = some (.int .i16 x.most) :=
  ⟨h 0 _ rfl, h 1 _ rfl⟩




end Go.Proofs.YtekigapeekjigaaDoor.linS
