/-
  Several texts of this proof, joined.
-/
import Derived.Test.YtjfimmfnhlimkaaDoorRows
import Derived.WalkKit
import Derived.Test.YtjfimmfnhlimkaaDoorWords
/-
  Plain words on garments and rules; no program in them.
-/
namespace Go.Proofs.YtjfimmfnhlimkaaDoor
open Go.RowKit

/-- a garment's numbers -/
structure Gar where
  c : Int
  n : Int
  m : Int
  g : Int

/-- the numbers are in the range of their kinds -/
structure Gar.Fits (x : Gar) : Prop where
  c0 : 0 ≤ x.c
  c1 : x.c ≤ 255
  n0 : -128 ≤ x.n
  n1 : x.n ≤ 127
  m0 : -128 ≤ x.m
  m1 : x.m ≤ 127
  g0 : -32768 ≤ x.g
  g1 : x.g ≤ 32767

/-- is a garment valid -/
def Gar.valid (x : Gar) : Bool := decide (x.c < 6) && (decide (0 ≤ x.n) && (decide (x.n ≤ x.m) && (decide (x.m ≤ 95) && (decide (1 ≤ x.g) && decide (x.g ≤ 2000)))))

abbrev Gar.cells (x : Gar) : List Value := [.int .u8 x.c, .int .i8 x.n, .int .i8 x.m, .int .i16 x.g]
abbrev Gar.v (x : Gar) : Value := .agg #[.int .u8 x.c, .int .i8 x.n, .int .i8 x.m, .int .i16 x.g]

end Go.Proofs.YtjfimmfnhlimkaaDoor

/-
  Garments are compared field by field.
-/
namespace Go.Proofs.YtjfimmfnhlimkaaDoor.garS
open Go.RowKit

/-- are two garments equal -/
def gEq (x y : Gar) : Bool := x.c == y.c && (x.n == y.n && (x.m == y.m && x.g == y.g))
theorem gEq_iff (x y : Gar) : gEq x y = true ↔ x = y := by
  obtain ⟨a, b, c, d⟩ := x
  obtain ⟨a', b', c', d'⟩ := y
  simp [gEq]
theorem gEq_not (x y : Gar) : gEq x y = false ↔ ¬ x = y := by
  rw [← gEq_iff]
  simp

theorem eqFields_step {P : Program} {d : Nat} {xs ys : Array Value} {f : Field} {fs : List Field} {w : World} {a b : Value} {r : Bool} (hn : f.name ≠ "_") (ha : (part f.type xs f.offset).run P w = .ok a w)
    (hb : (part f.type ys f.offset).run P w = .ok b w) (hr : (Op.equalIn d f.type a b).run P w = .ok r w) :
    (Op.eqFields d xs ys (f :: fs)).run P w = if r = true then (Op.eqFields d xs ys fs).run P w else .ok false w := by
  rw [Op.eqFields, if_pos hn]
  simp only [Sem.run_bind, ha, hb, hr, Result.andThen_ok]
  cases r <;> simp

theorem fieldsG : Tryd.prog.underlying 118 = some (.struct (Tryd.prog.fieldsOf 118)) := by kernel_rfl
theorem stoodG : Tryd.prog.stoodInHeld 118 = false := by kernel_rfl
theorem guardG : Tryd.prog.eqGuardType Tryd.prog.depth 118 = false := by kernel_rfl
abbrev fld0 : Field := { name := "Colour", type := 5, offset := 0, embedded := false, tag := "", pkgPath := "", byteOffset := 0 }
abbrev fld1 : Field := { name := "Need", type := 33, offset := 1, embedded := false, tag := "", pkgPath := "", byteOffset := 1 }
abbrev fld2 : Field := { name := "Most", type := 33, offset := 2, embedded := false, tag := "", pkgPath := "", byteOffset := 2 }
abbrev fld3 : Field := { name := "Weight", type := 67, offset := 3, embedded := false, tag := "", pkgPath := "", byteOffset := 4 }
theorem listG : (Tryd.prog.fieldsOf 118).toList = [fld0, fld1, fld2, fld3] := by kernel_rfl
theorem part0 (x : Gar) (w : World) : (part 5 #[.int .u8 x.c, .int .i8 x.n, .int .i8 x.m, .int .i16 x.g] 0).run Tryd.prog w = .ok (.int .u8 x.c) w := by kernel_rfl
theorem part1 (x : Gar) (w : World) : (part 33 #[.int .u8 x.c, .int .i8 x.n, .int .i8 x.m, .int .i16 x.g] 1).run Tryd.prog w = .ok (.int .i8 x.n) w := by kernel_rfl
theorem part2 (x : Gar) (w : World) : (part 33 #[.int .u8 x.c, .int .i8 x.n, .int .i8 x.m, .int .i16 x.g] 2).run Tryd.prog w = .ok (.int .i8 x.m) w := by kernel_rfl
theorem part3 (x : Gar) (w : World) : (part 67 #[.int .u8 x.c, .int .i8 x.n, .int .i8 x.m, .int .i16 x.g] 3).run Tryd.prog w = .ok (.int .i16 x.g) w := by kernel_rfl

theorem equalIn_gar (d : Nat) (x y : Gar) (w : World) : (Op.equalIn (d + 2) 118 x.v y.v).run Tryd.prog w = .ok (gEq x y) w := by
  rw [run_equalIn_agg w (d + 1) 118 _ _ fieldsG stoodG, listG]
  rw [eqFields_step (f := fld0) (by decide) (part0 x w) (part0 y w) (run_equalIn_int w d 5 .u8 .u8 x.c y.c Tryd.underlying5)]
  rw [eqFields_step (f := fld1) (by decide) (part1 x w) (part1 y w) (run_equalIn_int w d 33 .i8 .i8 x.n y.n Tryd.underlying33)]
  rw [eqFields_step (f := fld2) (by decide) (part2 x w) (part2 y w) (run_equalIn_int w d 33 .i8 .i8 x.m y.m Tryd.underlying33)]
  rw [eqFields_step (f := fld3) (by decide) (part3 x w) (part3 y w) (run_equalIn_int w d 67 .i16 .i16 x.g y.g Tryd.underlying67)]
  unfold gEq
  cases x.c == y.c <;> cases x.n == y.n <;> cases x.m == y.m <;> cases x.g == y.g <;> simp [Op.eqFields]

theorem run_neq_gar (x y : Gar) (w : World) : (binOp .neq 118 x.v y.v).run Tryd.prog w = .ok (.bool (!gEq x y)) w := by
  have e : (10000 : Nat) = 9998 + 2 := by decide
  rw [run_neq_struct, e, equalIn_gar 9998 x y w, Result.andThen_ok]
theorem run_guard_gar (x y : Gar) (o p : Operand) (w : World) : (eqGuard .neq 118 o p x.v y.v).run Tryd.prog w = .ok () w := run_eqGuard_agg w .neq _ _ _ _ _ guardG
end Go.Proofs.YtjfimmfnhlimkaaDoor.garS
