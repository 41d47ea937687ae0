/-
  Weather: its contracts: copied, held against another one, counted.
-/
import Derived.Test.YtmjfdbhogobpfaaDoorRows
import Derived.Test.YtmjfdbhogobpfaaDoorSl
import Derived.Test.YtmjfdbhogobpfaaDoorWords
import Derived.WalkKit
import Derived.WalkSpells
import Derived.WalkLawsBesides
import Derived.Lib.Hide
import Derived.Deep.QuietTactic
import Derived.BigQuiet
import Derived.Deep.RegionHeld3
import Derived.Deep.MidRow
namespace Go.Proofs.YtmjfdbhogobpfaaDoor
open Go.RowKit

/-- the numbers of a Weather -/
structure Wea where
  sun : Int
  wind : Int
  rain : Int

/-- they are in the range of their kinds -/
structure Wea.Fits (x : Wea) : Prop where
  sun0 : -128 ≤ x.sun
  sun1 : x.sun ≤ 127
  wind0 : -128 ≤ x.wind
  wind1 : x.wind ≤ 127
  rain0 : -128 ≤ x.rain
  rain1 : x.rain ≤ 127
abbrev Wea.cells (x : Wea) : List Value := [.int .i8 x.sun, .int .i8 x.wind, .int .i8 x.rain]
abbrev Wea.v (x : Wea) : Value := .agg #[.int .i8 x.sun, .int .i8 x.wind, .int .i8 x.rain]
theorem Wea.len (xs : List Wea) : ∀ x ∈ xs, (Wea.cells x).length = 3 := fun _ _ => rfl
/-- are two equal -/
def Wea.eq (x y : Wea) : Bool := x.sun == y.sun && (x.wind == y.wind && (x.rain == y.rain))
theorem Wea.eq_iff (x y : Wea) : Wea.eq x y = true ↔ x = y := by
  cases x
  cases y
  simp [Wea.eq]
end Go.Proofs.YtmjfdbhogobpfaaDoor
namespace Go.Proofs.YtmjfdbhogobpfaaDoor.weaS
open Go.RowKit sl

theorem at_ {w : World} {p : Addr} {x : Wea} (h : At w p x.cells) :
    w.cell? p = some (.int .i8 x.sun) ∧ w.cell? ⟨p.block, p.off + 1, none⟩ = some (.int .i8 x.wind) ∧ w.cell? ⟨p.block, p.off + 2, none⟩ = some (.int .i8 x.rain) :=
  ⟨h 0 _ rfl, h 1 _ rfl, h 2 _ rfl⟩

set_option maxHeartbeats 1000000 in
theorem to_any (x : Wea) (w : World) :
    Calls Tryd.prog 17 #[x.v] w fun e w' => e = .returned x.v ∧ Below w.heap.size w w' := by
  go_enter Tryd.func17, Tryd.ntmps17
  go_wp2
  refine bodyPost_ret (v := x.v) (by simp [results, Tryd.results17, go_sem]) rfl ⟨rfl, ?_⟩
  repeat (first | exact Below.refl _ _ | assumption | apply Below.drew | (refine Below.alloc ?_ (by first | (simp; done) | (simp; omega) | omega) _) | (refine Below.setCell ?_ (by first | (simp; done) | (simp; omega) | omega) _))
theorem to_parts (sun wind rain : Int) (w : World) :
    Calls Tryd.prog 17 #[.agg #[.int .i8 sun, .int .i8 wind, .int .i8 rain]] w fun e w' => e = .returned (.agg #[.int .i8 sun, .int .i8 wind, .int .i8 rain]) ∧ Below w.heap.size w w' := to_any ⟨sun, wind, rain⟩ w



end Go.Proofs.YtmjfdbhogobpfaaDoor.weaS
