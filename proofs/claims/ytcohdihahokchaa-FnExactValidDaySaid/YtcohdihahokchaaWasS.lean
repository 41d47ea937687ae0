/-
  Wash: its contracts: copied, held against another one, counted.
-/
import Derived.Test.YtcohdihahokchaaRows
import Derived.Test.YtcohdihahokchaaSl
import Derived.Test.YtcohdihahokchaaWords
import Derived.WalkKit
import Derived.WalkSpells
import Derived.WalkLawsBesides
import Derived.Lib.Hide
import Derived.Deep.QuietTactic
import Derived.BigQuiet
import Derived.Deep.RegionHeld3
import Derived.Deep.MidRow
namespace Go.Proofs.Ytcohdihahokchaa
open Go.RowKit

/-- the numbers of a Wash -/
structure Was where
  wet : Int
  thick : Int

/-- they are in the range of their kinds -/
structure Was.Fits (x : Was) : Prop where
  wet0 : -32768 ≤ x.wet
  wet1 : x.wet ≤ 32767
  thick0 : -128 ≤ x.thick
  thick1 : x.thick ≤ 127
abbrev Was.cells (x : Was) : List Value := [.int .i16 x.wet, .int .i8 x.thick]
abbrev Was.v (x : Was) : Value := .agg #[.int .i16 x.wet, .int .i8 x.thick]
theorem Was.len (xs : List Was) : ∀ x ∈ xs, (Was.cells x).length = 2 := fun _ _ => rfl
/-- are two equal -/
def Was.eq (x y : Was) : Bool := x.wet == y.wet && (x.thick == y.thick)
theorem Was.eq_iff (x y : Was) : Was.eq x y = true ↔ x = y := by
  cases x
  cases y
  simp [Was.eq]
end Go.Proofs.Ytcohdihahokchaa
namespace Go.Proofs.Ytcohdihahokchaa.wasS
open Go.RowKit sl

theorem at_ {w : World} {p : Addr} {x : Was} (h : At w p x.cells) :
    w.cell? p = some (.int .i16 x.wet) ∧ w.cell? ⟨p.block, p.off + 1, none⟩ = some (.int .i8 x.thick) :=
  ⟨h 0 _ rfl, h 1 _ rfl⟩

set_option maxHeartbeats 1000000 in
theorem to_any (x : Was) (w : World) :
    Calls Try.prog 9 #[x.v] w fun e w' => e = .returned x.v ∧ Below w.heap.size w w' := by
  go_enter Try.func9, Try.ntmps9
  go_wp2
  refine bodyPost_ret (v := x.v) (by simp [results, Try.results9, go_sem]) rfl ⟨rfl, ?_⟩
  repeat (first | exact Below.refl _ _ | assumption | apply Below.drew | (refine Below.alloc ?_ (by first | (simp; done) | (simp; omega) | omega) _) | (refine Below.setCell ?_ (by first | (simp; done) | (simp; omega) | omega) _))
theorem to_parts (wet thick : Int) (w : World) :
    Calls Try.prog 9 #[.agg #[.int .i16 wet, .int .i8 thick]] w fun e w' => e = .returned (.agg #[.int .i16 wet, .int .i8 thick]) ∧ Below w.heap.size w w' := to_any ⟨wet, thick⟩ w



end Go.Proofs.Ytcohdihahokchaa.wasS
