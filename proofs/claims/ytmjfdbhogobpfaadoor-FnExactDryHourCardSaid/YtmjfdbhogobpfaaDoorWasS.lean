/-
  Wash: its contracts: copied, held against another one, counted.
-/
import Derived.Test.YtmjfdbhogobpfaaDoorRows
import Derived.Test.YtmjfdbhogobpfaaDoorSl
import Derived.Test.YtmjfdbhogobpfaaDoorWords
import Derived.WalkKit
import Derived.WalkSpells
import Derived.WalkLawsBesides
import Derived.Lib.Hide
import Derived.Deep.QuietTactic
import Derived.BigQuiet
import Derived.Deep.RegionHeld3
import Derived.Deep.MidRow
namespace Go.Proofs.YtmjfdbhogobpfaaDoor
open Go.RowKit

/-- the numbers of a Wash -/
structure Was where
  wet : Int
  thick : Int

/-- they are in the range of their kinds -/
structure Was.Fits (x : Was) : Prop where
  wet0 : -32768 ≤ x.wet
  wet1 : x.wet ≤ 32767
  thick0 : -128 ≤ x.thick
  thick1 : x.thick ≤ 127
abbrev Was.cells (x : Was) : List Value := [.int .i16 x.wet, .int .i8 x.thick]
abbrev Was.v (x : Was) : Value := .agg #[.int .i16 x.wet, .int .i8 x.thick]
theorem Was.len (xs : List Was) : ∀ x ∈ xs, (Was.cells x).length = 2 := fun _ _ => rfl
/-- are two equal -/
def Was.eq (x y : Was) : Bool := x.wet == y.wet && (x.thick == y.thick)
theorem Was.eq_iff (x y : Was) : Was.eq x y = true ↔ x = y := by
  cases x
  cases y
  simp [Was.eq]
end Go.Proofs.YtmjfdbhogobpfaaDoor
namespace Go.Proofs.YtmjfdbhogobpfaaDoor.wasS
open Go.RowKit sl

theorem at_ {w : World} {p : Addr} {x : Was} (h : At w p x.cells) :
    w.cell? p = some (.int .i16 x.wet) ∧ w.cell? ⟨p.block, p.off + 1, none⟩ = some (.int .i8 x.thick) :=
  ⟨h 0 _ rfl, h 1 _ rfl⟩

set_option maxHeartbeats 1000000 in
theorem to_any (x : Was) (w : World) :
    Calls Tryd.prog 16 #[x.v] w fun e w' => e = .returned x.v ∧ Below w.heap.size w w' := by
  go_enter Tryd.func16, Tryd.ntmps16
  go_wp2
  refine bodyPost_ret (v := x.v) (by simp [results, Tryd.results16, go_sem]) rfl ⟨rfl, ?_⟩
  repeat (first | exact Below.refl _ _ | assumption | apply Below.drew | (refine Below.alloc ?_ (by first | (simp; done) | (simp; omega) | omega) _) | (refine Below.setCell ?_ (by first | (simp; done) | (simp; omega) | omega) _))
theorem to_parts (wet thick : Int) (w : World) :
    Calls Tryd.prog 16 #[.agg #[.int .i16 wet, .int .i8 thick]] w fun e w' => e = .returned (.agg #[.int .i16 wet, .int .i8 thick]) ∧ Below w.heap.size w w' := to_any ⟨wet, thick⟩ w


set_option maxHeartbeats 1000000 in
theorem eq_any (x y : Was) (w : World) :
    Calls Tryd.prog 19 #[x.v, y.v] w fun e w' => e = .returned (.bool (Was.eq x y)) ∧ Below w.heap.size w w' := by
  go_enter Tryd.func19, Tryd.ntmps19
  go_wp2_with fail
  all_goals go_ret
  all_goals exact ⟨ret_bool (by simp only [Was.eq]; first | (simp [*]; done) | (simp_all; done)), ((Below.refl _ _).alloc (Nat.le_refl _) _).alloc (by simp) _⟩

end Go.Proofs.YtmjfdbhogobpfaaDoor.wasS
