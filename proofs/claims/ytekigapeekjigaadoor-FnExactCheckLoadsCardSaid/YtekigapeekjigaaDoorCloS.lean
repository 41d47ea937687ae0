/-
  Cloth: its contracts: copied, held against another one, counted.
-/
import Derived.Test.YtekigapeekjigaaDoorRows
import Derived.Test.YtekigapeekjigaaDoorSl
import Derived.Test.YtekigapeekjigaaDoorWords
import Derived.WalkKit
import Derived.WalkSpells
import Derived.WalkLawsBesides
import Derived.Lib.Hide
import Derived.Deep.QuietTactic
import Derived.BigQuiet
import Derived.Deep.RegionHeld3
import Derived.Deep.MidRow
namespace Go.Proofs.YtekigapeekjigaaDoor
open Go.RowKit

/-- the numbers of a Cloth -/
structure Clo where
  wide : Int
  heavy : Int

/-- they are in the range of their kinds -/
structure Clo.Fits (x : Clo) : Prop where
  wide0 : -32768 ≤ x.wide
  wide1 : x.wide ≤ 32767
  heavy0 : -32768 ≤ x.heavy
  heavy1 : x.heavy ≤ 32767
abbrev Clo.cells (x : Clo) : List Value := [.int .i16 x.wide, .int .i16 x.heavy]
abbrev Clo.v (x : Clo) : Value := .agg #[.int .i16 x.wide, .int .i16 x.heavy]
theorem Clo.len (xs : List Clo) : ∀ x ∈ xs, (Clo.cells x).length = 2 := fun _ _ => rfl
/-- are two equal -/
def Clo.eq (x y : Clo) : Bool := x.wide == y.wide && (x.heavy == y.heavy)
theorem Clo.eq_iff (x y : Clo) : Clo.eq x y = true ↔ x = y := by
  cases x
  cases y
  simp [Clo.eq]
end Go.Proofs.YtekigapeekjigaaDoor
namespace Go.Proofs.YtekigapeekjigaaDoor.cloS
open Go.RowKit sl

theorem at_ {w : World} {p : Addr} {x : Clo} (h : At w p x.cells) :
    w.cell? p = some (.int .i16 x.wide) ∧ w.cell? ⟨p.block, p.off + 1, none⟩ = some (.int .i16 x.heavy) :=
  ⟨h 0 _ rfl, h 1 _ rfl⟩




end Go.Proofs.YtekigapeekjigaaDoor.cloS
