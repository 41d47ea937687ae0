/-
  Several texts of this proof, joined.
-/
import Derived.Test.YtcbbabepjfiigaaDoorRows
import Derived.Test.YtcbbabepjfiigaaDoorSl
import Derived.Test.YtcbbabepjfiigaaDoorWords
import Derived.WalkKit
import Derived.WalkSpells
import Derived.WalkLawsBesides
import Derived.Lib.Hide
import Derived.Deep.QuietTactic
import Derived.BigQuiet
import Derived.Deep.RegionHeld3
import Derived.Deep.MidRow
/-
  Sheet: its contracts: copied, held against another one, counted.
-/
namespace Go.Proofs.YtcbbabepjfiigaaDoor
open Go.RowKit

/-- the numbers of a Sheet -/
structure She where
  wide : Int
  high : Int
  lay : Int

/-- they are in the range of their kinds -/
structure She.Fits (x : She) : Prop where
  wide0 : -32768 ≤ x.wide
  wide1 : x.wide ≤ 32767
  high0 : -32768 ≤ x.high
  high1 : x.high ≤ 32767
  lay0 : -32768 ≤ x.lay
  lay1 : x.lay ≤ 32767
abbrev She.cells (x : She) : List Value := [.int .i16 x.wide, .int .i16 x.high, .int .i16 x.lay]
abbrev She.v (x : She) : Value := .agg #[.int .i16 x.wide, .int .i16 x.high, .int .i16 x.lay]
theorem She.len (xs : List She) : ∀ x ∈ xs, (She.cells x).length = 3 := fun _ _ => rfl
/-- are two equal -/
def She.eq (x y : She) : Bool := x.wide == y.wide && (x.high == y.high && (x.lay == y.lay))
theorem She.eq_iff (x y : She) : She.eq x y = true ↔ x = y := by
  cases x
  cases y
  simp [She.eq]
end Go.Proofs.YtcbbabepjfiigaaDoor
namespace Go.Proofs.YtcbbabepjfiigaaDoor.sheS
open Go.RowKit sl

theorem at_ {w : World} {p : Addr} {x : She} (h : At w p x.cells) :
    w.cell? p = some (.int .i16 x.wide) ∧ w.cell? ⟨p.block, p.off + 1, none⟩ = some (.int .i16 x.high) ∧ w.cell? ⟨p.block, p.off + 2, none⟩ = some (.int .i16 x.lay) :=
  ⟨h 0 _ rfl, h 1 _ rfl, h 2 _ rfl⟩

set_option maxHeartbeats 1000000 in
theorem to_any (x : She) (w : World) :
    Calls Tryd.prog 15 #[x.v] w fun e w' => e = .returned x.v ∧ Below w.heap.size w w' := by
  go_enter Tryd.func15, Tryd.ntmps15
  go_wp2
  refine bodyPost_ret (v := x.v) (by simp [results, Tryd.results15, go_sem]) rfl ⟨rfl, ?_⟩
  repeat (first | exact Below.refl _ _ | assumption | apply Below.drew | (refine Below.alloc ?_ (by first | (simp; done) | (simp; omega) | omega) _) | (refine Below.setCell ?_ (by first | (simp; done) | (simp; omega) | omega) _))
theorem to_parts (wide high lay : Int) (w : World) :
    Calls Tryd.prog 15 #[.agg #[.int .i16 wide, .int .i16 high, .int .i16 lay]] w fun e w' => e = .returned (.agg #[.int .i16 wide, .int .i16 high, .int .i16 lay]) ∧ Below w.heap.size w w' := to_any ⟨wide, high, lay⟩ w


set_option maxHeartbeats 1000000 in
theorem eq_any (x y : She) (w : World) :
    Calls Tryd.prog 17 #[x.v, y.v] w fun e w' => e = .returned (.bool (She.eq x y)) ∧ Below w.heap.size w w' := by
  go_enter Tryd.func17, Tryd.ntmps17
  go_wp2_with fail
  all_goals go_ret
  all_goals exact ⟨ret_bool (by simp only [She.eq]; first | (simp [*]; done) | (simp_all; done)), ((Below.refl _ _).alloc (Nat.le_refl _) _).alloc (by simp) _⟩

end Go.Proofs.YtcbbabepjfiigaaDoor.sheS

/-
  Sheet: the program's structs are compared field by field.
-/
namespace Go.Proofs.YtcbbabepjfiigaaDoor.sheS
open Go.RowKit sl

theorem eqFields_step {P : Program} {d : Nat} {xs ys : Array Value} {f : Field} {fs : List Field} {w : World} {a b : Value} {r : Bool} (hn : f.name ≠ "_") (ha : (part f.type xs f.offset).run P w = .ok a w)
    (hb : (part f.type ys f.offset).run P w = .ok b w) (hr : (Op.equalIn d f.type a b).run P w = .ok r w) :
    (Op.eqFields d xs ys (f :: fs)).run P w = if r = true then (Op.eqFields d xs ys fs).run P w else .ok false w := by
  rw [Op.eqFields, if_pos hn]
  simp only [Sem.run_bind, ha, hb, hr, Result.andThen_ok]
  cases r <;> simp

theorem fieldsI : Tryd.prog.underlying 25 = some (.struct (Tryd.prog.fieldsOf 25)) := by kernel_rfl
theorem stoodI : Tryd.prog.stoodInHeld 25 = false := by kernel_rfl
theorem guardI : Tryd.prog.eqGuardType Tryd.prog.depth 25 = false := by kernel_rfl
abbrev fldI0 : Field := { name := "Wide", type := 22, offset := 0, embedded := false, tag := "", pkgPath := "", byteOffset := 0 }
abbrev fldI1 : Field := { name := "High", type := 22, offset := 1, embedded := false, tag := "", pkgPath := "", byteOffset := 2 }
abbrev fldI2 : Field := { name := "Layers", type := 22, offset := 2, embedded := false, tag := "", pkgPath := "", byteOffset := 4 }
theorem listI : (Tryd.prog.fieldsOf 25).toList = [fldI0, fldI1, fldI2] := by kernel_rfl
theorem partI0 (x : She) (w : World) : (part 22 #[.int .i16 x.wide, .int .i16 x.high, .int .i16 x.lay] 0).run Tryd.prog w = .ok (.int .i16 x.wide) w := by kernel_rfl
theorem partI1 (x : She) (w : World) : (part 22 #[.int .i16 x.wide, .int .i16 x.high, .int .i16 x.lay] 1).run Tryd.prog w = .ok (.int .i16 x.high) w := by kernel_rfl
theorem partI2 (x : She) (w : World) : (part 22 #[.int .i16 x.wide, .int .i16 x.high, .int .i16 x.lay] 2).run Tryd.prog w = .ok (.int .i16 x.lay) w := by kernel_rfl
theorem equalIn_any (d : Nat) (x y : She) (w : World) : (Op.equalIn (d + 2) 25 x.v y.v).run Tryd.prog w = .ok (She.eq x y) w := by
  rw [run_equalIn_agg w (d + 1) 25 _ _ fieldsI stoodI, listI]
  rw [eqFields_step (f := fldI0) (by decide) (partI0 x w) (partI0 y w) (run_equalIn_int w d 22 .i16 .i16 x.wide y.wide Tryd.underlying22)]
  rw [eqFields_step (f := fldI1) (by decide) (partI1 x w) (partI1 y w) (run_equalIn_int w d 22 .i16 .i16 x.high y.high Tryd.underlying22)]
  rw [eqFields_step (f := fldI2) (by decide) (partI2 x w) (partI2 y w) (run_equalIn_int w d 22 .i16 .i16 x.lay y.lay Tryd.underlying22)]
  unfold She.eq
  cases x.wide == y.wide <;> cases x.high == y.high <;> cases x.lay == y.lay <;> simp [Op.eqFields]

theorem run_eql (x y : She) (w : World) : (binOp .eql 25 x.v y.v).run Tryd.prog w = .ok (.bool (She.eq x y)) w := by
  have e : (10000 : Nat) = 9998 + 2 := by decide
  rw [run_eql_struct, e, equalIn_any 9998 x y w, Result.andThen_ok]
theorem run_neq (x y : She) (w : World) : (binOp .neq 25 x.v y.v).run Tryd.prog w = .ok (.bool (!She.eq x y)) w := by
  have e : (10000 : Nat) = 9998 + 2 := by decide
  rw [run_neq_struct, e, equalIn_any 9998 x y w, Result.andThen_ok]
theorem run_guard (op : BinOp) (x y : She) (o p : Operand) (w : World) : (eqGuard op 25 o p x.v y.v).run Tryd.prog w = .ok () w := run_eqGuard_agg w op _ _ _ _ _ guardI
end Go.Proofs.YtcbbabepjfiigaaDoor.sheS
