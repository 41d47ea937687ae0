/-
  Several texts of this proof, joined.
-/
import Derived.Test.YtjfimmfnhlimkaaDoorRows
import Derived.Test.YtjfimmfnhlimkaaDoorSl
import Derived.Test.YtjfimmfnhlimkaaDoorWords
import Derived.WalkKit
import Derived.WalkSpells
import Derived.WalkLawsBesides
import Derived.Lib.Hide
import Derived.Deep.QuietTactic
import Derived.BigQuiet
import Derived.Deep.RegionHeld3
import Derived.Deep.MidRow
/-
  Weather: its contracts: copied, held against another one, counted.
-/
namespace Go.Proofs.YtjfimmfnhlimkaaDoor
open Go.RowKit

/-- the numbers of a Weather -/
structure Wea where
  sun : Int
  wind : Int
  rain : Int

/-- they are in the range of their kinds -/
structure Wea.Fits (x : Wea) : Prop where
  sun0 : -128 ≤ x.sun
  sun1 : x.sun ≤ 127
  wind0 : -128 ≤ x.wind
  wind1 : x.wind ≤ 127
  rain0 : -128 ≤ x.rain
  rain1 : x.rain ≤ 127
abbrev Wea.cells (x : Wea) : List Value := [.int .i8 x.sun, .int .i8 x.wind, .int .i8 x.rain]
abbrev Wea.v (x : Wea) : Value := .agg #[.int .i8 x.sun, .int .i8 x.wind, .int .i8 x.rain]
theorem Wea.len (xs : List Wea) : ∀ x ∈ xs, (Wea.cells x).length = 3 := fun _ _ => rfl
/-- are two equal -/
def Wea.eq (x y : Wea) : Bool := x.sun == y.sun && (x.wind == y.wind && (x.rain == y.rain))
theorem Wea.eq_iff (x y : Wea) : Wea.eq x y = true ↔ x = y := by
  cases x
  cases y
  simp [Wea.eq]
end Go.Proofs.YtjfimmfnhlimkaaDoor
namespace Go.Proofs.YtjfimmfnhlimkaaDoor.weaS
open Go.RowKit sl

theorem at_ {w : World} {p : Addr} {x : Wea} (h : At w p x.cells) :
    w.cell? p = some (.int .i8 x.sun) ∧ w.cell? ⟨p.block, p.off + 1, none⟩ = some (.int .i8 x.wind) ∧ w.cell? ⟨p.block, p.off + 2, none⟩ = some (.int .i8 x.rain) :=
  ⟨h 0 _ rfl, h 1 _ rfl, h 2 _ rfl⟩

set_option maxHeartbeats 1000000 in
theorem to_any (x : Wea) (w : World) :
    Calls Tryd.prog 75 #[x.v] w fun e w' => e = .returned x.v ∧ Below w.heap.size w w' := by
  go_enter Tryd.func75, Tryd.ntmps75
  go_wp2
  refine bodyPost_ret (v := x.v) (by simp [results, Tryd.results75, go_sem]) rfl ⟨rfl, ?_⟩
  repeat (first | exact Below.refl _ _ | assumption | apply Below.drew | (refine Below.alloc ?_ (by first | (simp; done) | (simp; omega) | omega) _) | (refine Below.setCell ?_ (by first | (simp; done) | (simp; omega) | omega) _))
theorem to_parts (sun wind rain : Int) (w : World) :
    Calls Tryd.prog 75 #[.agg #[.int .i8 sun, .int .i8 wind, .int .i8 rain]] w fun e w' => e = .returned (.agg #[.int .i8 sun, .int .i8 wind, .int .i8 rain]) ∧ Below w.heap.size w w' := to_any ⟨sun, wind, rain⟩ w


set_option maxHeartbeats 1000000 in
theorem eq_any (x y : Wea) (w : World) :
    Calls Tryd.prog 78 #[x.v, y.v] w fun e w' => e = .returned (.bool (Wea.eq x y)) ∧ Below w.heap.size w w' := by
  go_enter Tryd.func78, Tryd.ntmps78
  go_wp2_with fail
  all_goals go_ret
  all_goals exact ⟨ret_bool (by simp only [Wea.eq]; first | (simp [*]; done) | (simp_all; done)), ((Below.refl _ _).alloc (Nat.le_refl _) _).alloc (by simp) _⟩

end Go.Proofs.YtjfimmfnhlimkaaDoor.weaS

/-
  Wash: its contracts: copied, held against another one, counted.
-/
namespace Go.Proofs.YtjfimmfnhlimkaaDoor
open Go.RowKit

/-- the numbers of a Wash -/
structure Was where
  wet : Int
  thick : Int

/-- they are in the range of their kinds -/
structure Was.Fits (x : Was) : Prop where
  wet0 : -32768 ≤ x.wet
  wet1 : x.wet ≤ 32767
  thick0 : -128 ≤ x.thick
  thick1 : x.thick ≤ 127
abbrev Was.cells (x : Was) : List Value := [.int .i16 x.wet, .int .i8 x.thick]
abbrev Was.v (x : Was) : Value := .agg #[.int .i16 x.wet, .int .i8 x.thick]
theorem Was.len (xs : List Was) : ∀ x ∈ xs, (Was.cells x).length = 2 := fun _ _ => rfl
/-- are two equal -/
def Was.eq (x y : Was) : Bool := x.wet == y.wet && (x.thick == y.thick)
theorem Was.eq_iff (x y : Was) : Was.eq x y = true ↔ x = y := by
  cases x
  cases y
  simp [Was.eq]
end Go.Proofs.YtjfimmfnhlimkaaDoor
namespace Go.Proofs.YtjfimmfnhlimkaaDoor.wasS
open Go.RowKit sl

theorem at_ {w : World} {p : Addr} {x : Was} (h : At w p x.cells) :
    w.cell? p = some (.int .i16 x.wet) ∧ w.cell? ⟨p.block, p.off + 1, none⟩ = some (.int .i8 x.thick) :=
  ⟨h 0 _ rfl, h 1 _ rfl⟩




end Go.Proofs.YtjfimmfnhlimkaaDoor.wasS

/-
  Days in plain words: 24 weathers, one behind the other; a day's cells, a day in a block.
-/
namespace Go.Proofs.YtjfimmfnhlimkaaDoor
open Go Go.RowKit sl

/-- is weather valid -/
def Wea.valid (x : Wea) : Bool := decide (0 ≤ x.sun) && (decide (x.sun ≤ 9) && (decide (0 ≤ x.wind) && (decide (x.wind ≤ 9) && (decide (0 ≤ x.rain) && decide (x.rain ≤ 9)))))
theorem Wea.valid_iff (x : Wea) : Wea.valid x = true ↔ (0 ≤ x.sun ∧ x.sun ≤ 9) ∧ (0 ≤ x.wind ∧ x.wind ≤ 9) ∧ 0 ≤ x.rain ∧ x.rain ≤ 9 := by
  simp [Wea.valid, and_assoc]
/-- is a thing valid -/
def Was.valid (x : Was) : Bool := decide (0 ≤ x.wet) && (decide (x.wet ≤ 1000) && (decide (1 ≤ x.thick) && decide (x.thick ≤ 9)))
theorem Was.valid_iff (x : Was) : Was.valid x = true ↔ (0 ≤ x.wet ∧ x.wet ≤ 1000) ∧ 1 ≤ x.thick ∧ x.thick ≤ 9 := by
  simp [Was.valid, and_assoc]

/-- the cells of a day -/
def dayCs (d : List Wea) : Array Value := (d.flatMap Wea.cells).toArray
/-- a day -/
abbrev dayV (d : List Wea) : Value := .agg (dayCs d)
theorem dayCs_size {d : List Wea} (h : d.length = 24) : (dayCs d).size = 72 := by
  unfold dayCs
  rw [List.size_toArray, flat_len (Wea.len d), h]
theorem dayV_cells (d : List Wea) : (dayV d).cells = dayCs d := rfl
theorem dayV_list (d : List Wea) : (Value.agg (d.flatMap Wea.cells).toArray) = dayV d := rfl

/-- a day lies at the head of a block -/
structure DayAt (u : World) (b : Nat) (d : List Wea) : Prop where
  lt : b < u.heap.size
  row : u.rangeAt b 0 (d.flatMap Wea.cells)
theorem DayAt.new (d : List Wea) (T : TypeId) (w : World) : DayAt (w.alloc (.cells (dayCs d) T)) w.heap.size d :=
  ⟨by simp, fun j v hj => by
    rw [Nat.zero_add, cell_of_row _ _ _ _ _ _ (heap_alloc_new w _)]
    simpa [dayCs] using hj⟩
theorem DayAt.below {u u' : World} {b B : Nat} {d : List Wea} (h : DayAt u b d) (hb : Below B u u') (hB : b < B) : DayAt u' b d :=
  ⟨Nat.lt_of_lt_of_le h.lt hb.size, fun j v hj => (hb.cell (p := ⟨b, 0 + j, none⟩) hB).trans (h.row j v hj)⟩
theorem DayAt.next {u u' : World} {b : Nat} {d : List Wea} (h : DayAt u b d) (hb : Below u.heap.size u u') : DayAt u' b d := h.below hb h.lt
theorem DayAt.get {u : World} {b : Nat} {d : List Wea} (h : DayAt u b d) {k : Nat} {x : Wea} (hx : d[k]? = some x) :
    u.cell? ⟨b, k * 3, none⟩ = some (.int .i8 x.sun) ∧ u.cell? ⟨b, k * 3 + 1, none⟩ = some (.int .i8 x.wind) ∧ u.cell? ⟨b, k * 3 + 2, none⟩ = some (.int .i8 x.rain) := by
  have g := fun j v hj => h.row (k * 3 + j) v (flat_get (Wea.len d) (j := j) (v := v) hx hj)
  refine ⟨?_, ?_, ?_⟩
  · simpa using g 0 _ rfl
  · simpa using g 1 _ rfl
  · simpa using g 2 _ rfl
theorem DayAt.sl {u : World} {b : Nat} {d : List Wea} (h : DayAt u b d) : Sl Wea.cells 3 u u.heap.size (some ⟨b, 0, none⟩) d :=
  ⟨fun k x hx => ⟨_, rfl, h.lt, fun j v hj => by
    rw [add_lit, add_at]
    simpa using h.row (k * 3 + j) v (flat_get (Wea.len d) hx hj)⟩⟩
/-- .. and what lies behind one hour -/
theorem DayAt.sl_from {u : World} {b : Nat} {d : List Wea} (h : DayAt u b d) (f : Nat) : Sl Wea.cells 3 u u.heap.size (some ⟨b, f * 3, none⟩) (d.drop f) :=
  ⟨fun k x hx => ⟨_, rfl, h.lt, fun j v hj => by
    rw [add_at, add_at]
    rw [List.getElem?_drop] at hx
    have := h.row ((f + k) * 3 + j) v (flat_get (Wea.len d) hx hj)
    rw [Nat.zero_add, Nat.add_mul] at this
    exact this⟩⟩
end Go.Proofs.YtjfimmfnhlimkaaDoor

/-
  Weather: the program's structs are compared field by field.
-/
namespace Go.Proofs.YtjfimmfnhlimkaaDoor.weaS
open Go.RowKit sl

theorem eqFields_step {P : Program} {d : Nat} {xs ys : Array Value} {f : Field} {fs : List Field} {w : World} {a b : Value} {r : Bool} (hn : f.name ≠ "_") (ha : (part f.type xs f.offset).run P w = .ok a w)
    (hb : (part f.type ys f.offset).run P w = .ok b w) (hr : (Op.equalIn d f.type a b).run P w = .ok r w) :
    (Op.eqFields d xs ys (f :: fs)).run P w = if r = true then (Op.eqFields d xs ys fs).run P w else .ok false w := by
  rw [Op.eqFields, if_pos hn]
  simp only [Sem.run_bind, ha, hb, hr, Result.andThen_ok]
  cases r <;> simp

theorem fieldsI : Tryd.prog.underlying 38 = some (.struct (Tryd.prog.fieldsOf 38)) := by kernel_rfl
theorem stoodI : Tryd.prog.stoodInHeld 38 = false := by kernel_rfl
theorem guardI : Tryd.prog.eqGuardType Tryd.prog.depth 38 = false := by kernel_rfl
abbrev fldI0 : Field := { name := "Sun", type := 33, offset := 0, embedded := false, tag := "", pkgPath := "", byteOffset := 0 }
abbrev fldI1 : Field := { name := "Wind", type := 33, offset := 1, embedded := false, tag := "", pkgPath := "", byteOffset := 1 }
abbrev fldI2 : Field := { name := "Rain", type := 33, offset := 2, embedded := false, tag := "", pkgPath := "", byteOffset := 2 }
theorem listI : (Tryd.prog.fieldsOf 38).toList = [fldI0, fldI1, fldI2] := by kernel_rfl
theorem partI0 (x : Wea) (w : World) : (part 33 #[.int .i8 x.sun, .int .i8 x.wind, .int .i8 x.rain] 0).run Tryd.prog w = .ok (.int .i8 x.sun) w := by kernel_rfl
theorem partI1 (x : Wea) (w : World) : (part 33 #[.int .i8 x.sun, .int .i8 x.wind, .int .i8 x.rain] 1).run Tryd.prog w = .ok (.int .i8 x.wind) w := by kernel_rfl
theorem partI2 (x : Wea) (w : World) : (part 33 #[.int .i8 x.sun, .int .i8 x.wind, .int .i8 x.rain] 2).run Tryd.prog w = .ok (.int .i8 x.rain) w := by kernel_rfl
theorem equalIn_any (d : Nat) (x y : Wea) (w : World) : (Op.equalIn (d + 2) 38 x.v y.v).run Tryd.prog w = .ok (Wea.eq x y) w := by
  rw [run_equalIn_agg w (d + 1) 38 _ _ fieldsI stoodI, listI]
  rw [eqFields_step (f := fldI0) (by decide) (partI0 x w) (partI0 y w) (run_equalIn_int w d 33 .i8 .i8 x.sun y.sun Tryd.underlying33)]
  rw [eqFields_step (f := fldI1) (by decide) (partI1 x w) (partI1 y w) (run_equalIn_int w d 33 .i8 .i8 x.wind y.wind Tryd.underlying33)]
  rw [eqFields_step (f := fldI2) (by decide) (partI2 x w) (partI2 y w) (run_equalIn_int w d 33 .i8 .i8 x.rain y.rain Tryd.underlying33)]
  unfold Wea.eq
  cases x.sun == y.sun <;> cases x.wind == y.wind <;> cases x.rain == y.rain <;> simp [Op.eqFields]

theorem run_eql (x y : Wea) (w : World) : (binOp .eql 38 x.v y.v).run Tryd.prog w = .ok (.bool (Wea.eq x y)) w := by
  have e : (10000 : Nat) = 9998 + 2 := by decide
  rw [run_eql_struct, e, equalIn_any 9998 x y w, Result.andThen_ok]
theorem run_neq (x y : Wea) (w : World) : (binOp .neq 38 x.v y.v).run Tryd.prog w = .ok (.bool (!Wea.eq x y)) w := by
  have e : (10000 : Nat) = 9998 + 2 := by decide
  rw [run_neq_struct, e, equalIn_any 9998 x y w, Result.andThen_ok]
theorem run_guard (op : BinOp) (x y : Wea) (o p : Operand) (w : World) : (eqGuard op 38 o p x.v y.v).run Tryd.prog w = .ok () w := run_eqGuard_agg w op _ _ _ _ _ guardI
end Go.Proofs.YtjfimmfnhlimkaaDoor.weaS
