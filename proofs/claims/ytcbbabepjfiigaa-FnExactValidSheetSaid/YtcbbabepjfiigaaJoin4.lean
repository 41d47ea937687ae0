/-
  Several texts of this proof, joined.
-/
import Derived.Test.YtcbbabepjfiigaaRows
import Derived.Test.YtcbbabepjfiigaaSl
import Derived.Test.YtcbbabepjfiigaaWords
import Derived.WalkKit
import Derived.WalkSpells
import Derived.WalkLawsBesides
import Derived.Lib.Hide
import Derived.Deep.QuietTactic
import Derived.BigQuiet
import Derived.Deep.RegionHeld3
import Derived.Deep.MidRow
/-
  Sheet: its contracts: copied, held against another one, counted.
-/
namespace Go.Proofs.Ytcbbabepjfiigaa
open Go.RowKit

/-- the numbers of a Sheet -/
structure She where
  wide : Int
  high : Int
  lay : Int

/-- they are in the range of their kinds -/
structure She.Fits (x : She) : Prop where
  wide0 : -32768 ≤ x.wide
  wide1 : x.wide ≤ 32767
  high0 : -32768 ≤ x.high
  high1 : x.high ≤ 32767
  lay0 : -32768 ≤ x.lay
  lay1 : x.lay ≤ 32767
abbrev She.cells (x : She) : List Value := [.int .i16 x.wide, .int .i16 x.high, .int .i16 x.lay]
abbrev She.v (x : She) : Value := .agg #[.int .i16 x.wide, .int .i16 x.high, .int .i16 x.lay]
theorem She.len (xs : List She) : ∀ x ∈ xs, (She.cells x).length = 3 := fun _ _ => rfl
/-- are two equal -/
def She.eq (x y : She) : Bool := x.wide == y.wide && (x.high == y.high && (x.lay == y.lay))
theorem She.eq_iff (x y : She) : She.eq x y = true ↔ x = y := by
  cases x
  cases y
  simp [She.eq]
end Go.Proofs.Ytcbbabepjfiigaa
namespace Go.Proofs.Ytcbbabepjfiigaa.sheS
open Go.RowKit sl

theorem at_ {w : World} {p : Addr} {x : She} (h : At w p x.cells) :
    w.cell? p = some (.int .i16 x.wide) ∧ w.cell? ⟨p.block, p.off + 1, none⟩ = some (.int .i16 x.high) ∧ w.cell? ⟨p.block, p.off + 2, none⟩ = some (.int .i16 x.lay) :=
  ⟨h 0 _ rfl, h 1 _ rfl, h 2 _ rfl⟩

set_option maxHeartbeats 1000000 in
theorem to_any (x : She) (w : World) :
    Calls Try.prog 5 #[x.v] w fun e w' => e = .returned x.v ∧ Below w.heap.size w w' := by
  go_enter Try.func5, Try.ntmps5
  go_wp2
  refine bodyPost_ret (v := x.v) (by simp [results, Try.results5, go_sem]) rfl ⟨rfl, ?_⟩
  repeat (first | exact Below.refl _ _ | assumption | apply Below.drew | (refine Below.alloc ?_ (by first | (simp; done) | (simp; omega) | omega) _) | (refine Below.setCell ?_ (by first | (simp; done) | (simp; omega) | omega) _))
theorem to_parts (wide high lay : Int) (w : World) :
    Calls Try.prog 5 #[.agg #[.int .i16 wide, .int .i16 high, .int .i16 lay]] w fun e w' => e = .returned (.agg #[.int .i16 wide, .int .i16 high, .int .i16 lay]) ∧ Below w.heap.size w w' := to_any ⟨wide, high, lay⟩ w



end Go.Proofs.Ytcbbabepjfiigaa.sheS

/-
  Sheets, valid or not, the program's and the model's, where no error stands.
-/
namespace Go.Proofs.Ytcbbabepjfiigaa.fold
open Go Go.RowKit sl

def inB (n lo hi : Int) : Bool := decide (lo ≤ n) && decide (n ≤ hi)
theorem inB_iff (n lo hi : Int) : inB n lo hi = true ↔ lo ≤ n ∧ n ≤ hi := by simp [inB]
theorem inB_no (n lo hi : Int) : inB n lo hi = false ↔ n < lo ∨ hi < n := by
  rw [← Bool.not_eq_true, inB_iff]
  omega
/-- a sheet is valid -/
def She.valid (x : She) : Bool := inB x.wide 1 1296 && (inB x.high 1 1296 && inB x.lay 1 144)
/-- what the bounds of a valid sheet are -/
structure Good (x : She) : Prop where
  w0 : 1 ≤ x.wide
  w1 : x.wide ≤ 1296
  h0 : 1 ≤ x.high
  h1 : x.high ≤ 1296
  l0 : 1 ≤ x.lay
  l1 : x.lay ≤ 144
theorem valid_iff (x : She) : She.valid x = true ↔ Good x := by
  simp only [She.valid, Bool.and_eq_true, inB_iff]
  constructor
  · rintro ⟨⟨a, b⟩, ⟨c, d⟩, e, f⟩
    exact ⟨a, b, c, d, e, f⟩
  · rintro ⟨a, b, c, d, e, f⟩
    exact ⟨⟨a, b⟩, ⟨c, d⟩, e, f⟩

theorem l00In_any (n lo hi : Int) (w : World) :
    Calls Try.prog 9 #[.int .i64 n, .int .i64 lo, .int .i64 hi] w fun o w' => o = .returned (.bool (inB n lo hi)) ∧ w = w' := by
  go_enter Try.func9, Try.ntmps9
  go_wp2_with fail
  all_goals go_ret
  all_goals exact ⟨ret_bool (by first | (simp [inB, *]; done) | (simp [inB]; omega)), rfl⟩
theorem l00In_b (n lo hi : Int) (b : Bool) (hb : inB n lo hi = b) (w : World) :
    Calls Try.prog 9 #[.int .i64 n, .int .i64 lo, .int .i64 hi] w fun o w' => o = .returned (.bool b) ∧ w = w' := by
  subst hb
  exact l00In_any n lo hi w
theorem l04Side_b (n : Int) (b : Bool) (hb : inB n 1 1296 = b) (w : World) :
    Calls Try.prog 8 #[.int .i64 n] w fun o w' => o = .returned (.bool b) ∧ w = w' := by
  go_enter Try.func8, Try.ntmps8
  go_wp2_with fail
  refine (l00In_b n 1 1296 b hb _).mono ?_
  rintro o u ⟨rfl, rfl⟩
  go_wp2_with fail
  go_ret
  exact ⟨rfl, rfl⟩
set_option maxHeartbeats 1000000 in
theorem l04Ok_any (x : She) (hx : x.Fits) (w : World) :
    Calls Try.prog 7 #[x.v] w fun o w' => o = .returned (.bool (She.valid x)) ∧ Below w.heap.size w w' := by
  have B0 : Hid (Below w.heap.size w (w.alloc (.cells #[.int .i16 x.wide, .int .i16 x.high, .int .i16 x.lay] 26))) := Lib.hid (by repeat (first | exact Below.refl _ _ | assumption | apply Below.drew | (refine Below.alloc ?_ (by first | (simp; done) | (simp; omega) | omega) _) | (refine Below.setCell ?_ (by first | (simp; done) | (simp; omega) | omega) _)))
  obtain ⟨a, ha⟩ : ∃ a, inB x.wide 1 1296 = a := ⟨_, rfl⟩
  obtain ⟨b, hb⟩ : ∃ a, inB x.high 1 1296 = a := ⟨_, rfl⟩
  obtain ⟨c, hc⟩ : ∃ a, inB x.lay 1 144 = a := ⟨_, rfl⟩
  have e : She.valid x = (a && (b && c)) := by rw [She.valid, ha, hb, hc]
  rw [e]
  obtain ⟨p, q, r⟩ := x
  obtain ⟨a0, a1, a2, a3, a4, a5⟩ := hx
  simp only at a0 a1 a2 a3 a4 a5 ha hb hc
  have HA := Lib.hid ha
  have HB := Lib.hid hb
  have HC := Lib.hid hc
  clear ha hb hc e
  have c0 : IntKind.i64.wrap p = p := IntWalk.i64_in _ (by omega)
  have c1 : IntKind.i64.wrap q = q := IntWalk.i64_in _ (by omega)
  have c2 : IntKind.i64.wrap r = r := IntWalk.i64_in _ (by omega)
  go_enter Try.func7, Try.ntmps7
  go_wp2_with fail
  refine (l04Side_b p a HA.out _).mono ?_
  rintro o u ⟨rfl, rfl⟩
  cases a with
  | false =>
    go_wp2_with fail
    go_ret
    exact ⟨rfl, B0.out⟩
  | true =>
    go_wp2_with fail
    refine (l04Side_b q b HB.out _).mono ?_
    rintro o u ⟨rfl, rfl⟩
    cases b with
    | false =>
      go_wp2_with fail
      go_ret
      exact ⟨rfl, B0.out⟩
    | true =>
      go_wp2_with fail
      refine (l00In_b r 1 144 c HC.out _).mono ?_
      rintro o u ⟨rfl, rfl⟩
      cases c with
      | false =>
        go_wp2_with fail
        go_ret
        exact ⟨rfl, B0.out⟩
      | true =>
        go_wp2_with fail
        go_ret
        exact ⟨rfl, B0.out⟩
theorem ValidSheet_spec (x : She) (hx : x.Fits) (w : World) :
    Calls Try.prog 4 #[x.v] w fun o w' => o = .returned (.bool (She.valid x)) ∧ Below w.heap.size w w' := by
  have B0 : Hid (Below w.heap.size w (w.alloc (.cells #[.int .i16 x.wide, .int .i16 x.high, .int .i16 x.lay] 26))) := Lib.hid (by repeat (first | exact Below.refl _ _ | assumption | apply Below.drew | (refine Below.alloc ?_ (by first | (simp; done) | (simp; omega) | omega) _) | (refine Below.setCell ?_ (by first | (simp; done) | (simp; omega) | omega) _)))
  go_enter Try.func4, Try.ntmps4
  go_wp2_with fail
  refine (l04Ok_any x hx _).mono ?_
  rintro e w2 ⟨rfl, hb⟩
  have HB := Lib.hid (below_next B0.out hb (by simp))
  clear hb B0
  go_wp2_with fail
  go_ret
  exact ⟨rfl, HB.out⟩
set_option maxHeartbeats 2000000 in
theorem ValidSheet_any (x : She) (hx : x.Fits) (w : World) :
    Calls Try.prog 6 #[x.v] w fun e w' => e = .returned (.bool (She.valid x)) ∧ Below w.heap.size w w' := by
  obtain ⟨p, q, r⟩ := x
  obtain ⟨a0, a1, a2, a3, a4, a5⟩ := hx
  simp only at a0 a1 a2 a3 a4 a5
  go_enter Try.func6, Try.ntmps6
  go_wp2
  all_goals go_ret
  all_goals refine ⟨ret_bool (by first | (simp [She.valid, inB, *]; done) | (simp [She.valid, inB]; omega)), ?_⟩
  all_goals repeat (first | exact Below.refl _ _ | assumption | apply Below.drew | (refine Below.alloc ?_ (by first | (simp; done) | (simp; omega) | omega) _) | (refine Below.setCell ?_ (by first | (simp; done) | (simp; omega) | omega) _))
end Go.Proofs.Ytcbbabepjfiigaa.fold
