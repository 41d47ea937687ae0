/-
  Sheet: its contracts: copied, held against another one, counted.
-/
import Derived.Test.YtcbbabepjfiigaaDoorRows
import Derived.Test.YtcbbabepjfiigaaDoorSl
import Derived.Test.YtcbbabepjfiigaaDoorWords
import Derived.WalkKit
import Derived.WalkSpells
import Derived.WalkLawsBesides
import Derived.Lib.Hide
import Derived.Deep.QuietTactic
import Derived.BigQuiet
import Derived.Deep.RegionHeld3
import Derived.Deep.MidRow
namespace Go.Proofs.YtcbbabepjfiigaaDoor
open Go.RowKit

/-- the numbers of a Sheet -/
structure She where
  wide : Int
  high : Int
  lay : Int

/-- they are in the range of their kinds -/
structure She.Fits (x : She) : Prop where
  wide0 : -32768 ≤ x.wide
  wide1 : x.wide ≤ 32767
  high0 : -32768 ≤ x.high
  high1 : x.high ≤ 32767
  lay0 : -32768 ≤ x.lay
  lay1 : x.lay ≤ 32767
abbrev She.cells (x : She) : List Value := [.int .i16 x.wide, .int .i16 x.high, .int .i16 x.lay]
abbrev She.v (x : She) : Value := .agg #[.int .i16 x.wide, .int .i16 x.high, .int .i16 x.lay]
theorem She.len (xs : List She) : ∀ x ∈ xs, (She.cells x).length = 3 := fun _ _ => rfl
/-- are two equal -/
def She.eq (x y : She) : Bool := x.wide == y.wide && (x.high == y.high && (x.lay == y.lay))
theorem She.eq_iff (x y : She) : She.eq x y = true ↔ x = y := by
  cases x
  cases y
  simp [She.eq]
end Go.Proofs.YtcbbabepjfiigaaDoor
namespace Go.Proofs.YtcbbabepjfiigaaDoor.sheS
open Go.RowKit sl

theorem at_ {w : World} {p : Addr} {x : She} (h : At w p x.cells) :
    w.cell? p = some (.int .i16 x.wide) ∧ w.cell? ⟨p.block, p.off + 1, none⟩ = some (.int .i16 x.high) ∧ w.cell? ⟨p.block, p.off + 2, none⟩ = some (.int .i16 x.lay) :=
  ⟨h 0 _ rfl, h 1 _ rfl, h 2 _ rfl⟩

set_option maxHeartbeats 1000000 in
theorem to_any (x : She) (w : World) :
    Calls Tryd.prog 15 #[x.v] w fun e w' => e = .returned x.v ∧ Below w.heap.size w w' := by
  go_enter Tryd.func15, Tryd.ntmps15
  go_wp2
  refine bodyPost_ret (v := x.v) (by simp [results, Tryd.results15, go_sem]) rfl ⟨rfl, ?_⟩
  repeat (first | exact Below.refl _ _ | assumption | apply Below.drew | (refine Below.alloc ?_ (by first | (simp; done) | (simp; omega) | omega) _) | (refine Below.setCell ?_ (by first | (simp; done) | (simp; omega) | omega) _))
theorem to_parts (wide high lay : Int) (w : World) :
    Calls Tryd.prog 15 #[.agg #[.int .i16 wide, .int .i16 high, .int .i16 lay]] w fun e w' => e = .returned (.agg #[.int .i16 wide, .int .i16 high, .int .i16 lay]) ∧ Below w.heap.size w w' := to_any ⟨wide, high, lay⟩ w


set_option maxHeartbeats 1000000 in
theorem eq_any (x y : She) (w : World) :
    Calls Tryd.prog 17 #[x.v, y.v] w fun e w' => e = .returned (.bool (She.eq x y)) ∧ Below w.heap.size w w' := by
  go_enter Tryd.func17, Tryd.ntmps17
  go_wp2_with fail
  all_goals go_ret
  all_goals exact ⟨ret_bool (by simp only [She.eq]; first | (simp [*]; done) | (simp_all; done)), ((Below.refl _ _).alloc (Nat.le_refl _) _).alloc (by simp) _⟩

end Go.Proofs.YtcbbabepjfiigaaDoor.sheS
