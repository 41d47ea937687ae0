/-
  Garments are compared field by field.
-/
import Derived.Test.YtekigapeekjigaaDoorPure
import Derived.WalkKit
namespace Go.Proofs.YtekigapeekjigaaDoor.garS
open Go.RowKit

/-- are two garments equal -/
def gEq (x y : Gar) : Bool := x.c == y.c && (x.n == y.n && (x.m == y.m && x.g == y.g))
theorem gEq_iff (x y : Gar) : gEq x y = true ↔ x = y := by
  obtain ⟨a, b, c, d⟩ := x
  obtain ⟨a', b', c', d'⟩ := y
  simp [gEq]
theorem gEq_not (x y : Gar) : gEq x y = false ↔ ¬ x = y := by
  rw [← gEq_iff]
  simp

theorem eqFields_step {P : Program} {d : Nat} {xs ys : Array Value} {f : Field} {fs : List Field} {w : World} {a b : Value} {r : Bool} (hn : f.name ≠ "_") (ha : (part f.type xs f.offset).run P w = .ok a w)
    (hb : (part f.type ys f.offset).run P w = .ok b w) (hr : (Op.equalIn d f.type a b).run P w = .ok r w) :
    (Op.eqFields d xs ys (f :: fs)).run P w = if r = true then (Op.eqFields d xs ys fs).run P w else .ok false w := by
  rw [Op.eqFields, if_pos hn]
  simp only [Sem.run_bind, ha, hb, hr, Result.andThen_ok]
  cases r <;> simp

theorem fieldsG : Tryd.prog.underlying 96 = some (.struct (Tryd.prog.fieldsOf 96)) := by kernel_rfl
theorem stoodG : Tryd.prog.stoodInHeld 96 = false := by kernel_rfl
theorem guardG : Tryd.prog.eqGuardType Tryd.prog.depth 96 = false := by kernel_rfl
abbrev fld0 : Field := { name := "Colour", type := 5, offset := 0, embedded := false, tag := "", pkgPath := "", byteOffset := 0 }
abbrev fld1 : Field := { name := "Need", type := 57, offset := 1, embedded := false, tag := "", pkgPath := "", byteOffset := 1 }
abbrev fld2 : Field := { name := "Most", type := 57, offset := 2, embedded := false, tag := "", pkgPath := "", byteOffset := 2 }
abbrev fld3 : Field := { name := "Weight", type := 56, offset := 3, embedded := false, tag := "", pkgPath := "", byteOffset := 4 }
theorem listG : (Tryd.prog.fieldsOf 96).toList = [fld0, fld1, fld2, fld3] := by kernel_rfl
theorem part0 (x : Gar) (w : World) : (part 5 #[.int .u8 x.c, .int .i8 x.n, .int .i8 x.m, .int .i16 x.g] 0).run Tryd.prog w = .ok (.int .u8 x.c) w := by kernel_rfl
theorem part1 (x : Gar) (w : World) : (part 57 #[.int .u8 x.c, .int .i8 x.n, .int .i8 x.m, .int .i16 x.g] 1).run Tryd.prog w = .ok (.int .i8 x.n) w := by kernel_rfl
theorem part2 (x : Gar) (w : World) : (part 57 #[.int .u8 x.c, .int .i8 x.n, .int .i8 x.m, .int .i16 x.g] 2).run Tryd.prog w = .ok (.int .i8 x.m) w := by kernel_rfl
theorem part3 (x : Gar) (w : World) : (part 56 #[.int .u8 x.c, .int .i8 x.n, .int .i8 x.m, .int .i16 x.g] 3).run Tryd.prog w = .ok (.int .i16 x.g) w := by kernel_rfl

theorem equalIn_gar (d : Nat) (x y : Gar) (w : World) : (Op.equalIn (d + 2) 96 x.v y.v).run Tryd.prog w = .ok (gEq x y) w := by
  rw [run_equalIn_agg w (d + 1) 96 _ _ fieldsG stoodG, listG]
  rw [eqFields_step (f := fld0) (by decide) (part0 x w) (part0 y w) (run_equalIn_int w d 5 .u8 .u8 x.c y.c Tryd.underlying5)]
  rw [eqFields_step (f := fld1) (by decide) (part1 x w) (part1 y w) (run_equalIn_int w d 57 .i8 .i8 x.n y.n Tryd.underlying57)]
  rw [eqFields_step (f := fld2) (by decide) (part2 x w) (part2 y w) (run_equalIn_int w d 57 .i8 .i8 x.m y.m Tryd.underlying57)]
  rw [eqFields_step (f := fld3) (by decide) (part3 x w) (part3 y w) (run_equalIn_int w d 56 .i16 .i16 x.g y.g Tryd.underlying56)]
  unfold gEq
  cases x.c == y.c <;> cases x.n == y.n <;> cases x.m == y.m <;> cases x.g == y.g <;> simp [Op.eqFields]

theorem run_neq_gar (x y : Gar) (w : World) : (binOp .neq 96 x.v y.v).run Tryd.prog w = .ok (.bool (!gEq x y)) w := by
  have e : (10000 : Nat) = 9998 + 2 := by decide
  rw [run_neq_struct, e, equalIn_gar 9998 x y w, Result.andThen_ok]
theorem run_guard_gar (x y : Gar) (o p : Operand) (w : World) : (eqGuard .neq 96 o p x.v y.v).run Tryd.prog w = .ok () w := run_eqGuard_agg w .neq _ _ _ _ _ guardG
end Go.Proofs.YtekigapeekjigaaDoor.garS
