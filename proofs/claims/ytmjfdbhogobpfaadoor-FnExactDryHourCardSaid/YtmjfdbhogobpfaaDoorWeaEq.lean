/-
  Weather: the program's structs are compared field by field.
-/
import Derived.Test.YtmjfdbhogobpfaaDoorWeaS
namespace Go.Proofs.YtmjfdbhogobpfaaDoor.weaS
open Go.RowKit sl

theorem eqFields_step {P : Program} {d : Nat} {xs ys : Array Value} {f : Field} {fs : List Field} {w : World} {a b : Value} {r : Bool} (hn : f.name ≠ "_") (ha : (part f.type xs f.offset).run P w = .ok a w)
    (hb : (part f.type ys f.offset).run P w = .ok b w) (hr : (Op.equalIn d f.type a b).run P w = .ok r w) :
    (Op.eqFields d xs ys (f :: fs)).run P w = if r = true then (Op.eqFields d xs ys fs).run P w else .ok false w := by
  rw [Op.eqFields, if_pos hn]
  simp only [Sem.run_bind, ha, hb, hr, Result.andThen_ok]
  cases r <;> simp

theorem fieldsI : Tryd.prog.underlying 32 = some (.struct (Tryd.prog.fieldsOf 32)) := by kernel_rfl
theorem stoodI : Tryd.prog.stoodInHeld 32 = false := by kernel_rfl
theorem guardI : Tryd.prog.eqGuardType Tryd.prog.depth 32 = false := by kernel_rfl
abbrev fldI0 : Field := { name := "Sun", type := 23, offset := 0, embedded := false, tag := "", pkgPath := "", byteOffset := 0 }
abbrev fldI1 : Field := { name := "Wind", type := 23, offset := 1, embedded := false, tag := "", pkgPath := "", byteOffset := 1 }
abbrev fldI2 : Field := { name := "Rain", type := 23, offset := 2, embedded := false, tag := "", pkgPath := "", byteOffset := 2 }
theorem listI : (Tryd.prog.fieldsOf 32).toList = [fldI0, fldI1, fldI2] := by kernel_rfl
theorem partI0 (x : Wea) (w : World) : (part 23 #[.int .i8 x.sun, .int .i8 x.wind, .int .i8 x.rain] 0).run Tryd.prog w = .ok (.int .i8 x.sun) w := by kernel_rfl
theorem partI1 (x : Wea) (w : World) : (part 23 #[.int .i8 x.sun, .int .i8 x.wind, .int .i8 x.rain] 1).run Tryd.prog w = .ok (.int .i8 x.wind) w := by kernel_rfl
theorem partI2 (x : Wea) (w : World) : (part 23 #[.int .i8 x.sun, .int .i8 x.wind, .int .i8 x.rain] 2).run Tryd.prog w = .ok (.int .i8 x.rain) w := by kernel_rfl
theorem equalIn_any (d : Nat) (x y : Wea) (w : World) : (Op.equalIn (d + 2) 32 x.v y.v).run Tryd.prog w = .ok (Wea.eq x y) w := by
  rw [run_equalIn_agg w (d + 1) 32 _ _ fieldsI stoodI, listI]
  rw [eqFields_step (f := fldI0) (by decide) (partI0 x w) (partI0 y w) (run_equalIn_int w d 23 .i8 .i8 x.sun y.sun Tryd.underlying23)]
  rw [eqFields_step (f := fldI1) (by decide) (partI1 x w) (partI1 y w) (run_equalIn_int w d 23 .i8 .i8 x.wind y.wind Tryd.underlying23)]
  rw [eqFields_step (f := fldI2) (by decide) (partI2 x w) (partI2 y w) (run_equalIn_int w d 23 .i8 .i8 x.rain y.rain Tryd.underlying23)]
  unfold Wea.eq
  cases x.sun == y.sun <;> cases x.wind == y.wind <;> cases x.rain == y.rain <;> simp [Op.eqFields]

theorem run_eql (x y : Wea) (w : World) : (binOp .eql 32 x.v y.v).run Tryd.prog w = .ok (.bool (Wea.eq x y)) w := by
  have e : (10000 : Nat) = 9998 + 2 := by decide
  rw [run_eql_struct, e, equalIn_any 9998 x y w, Result.andThen_ok]
theorem run_neq (x y : Wea) (w : World) : (binOp .neq 32 x.v y.v).run Tryd.prog w = .ok (.bool (!Wea.eq x y)) w := by
  have e : (10000 : Nat) = 9998 + 2 := by decide
  rw [run_neq_struct, e, equalIn_any 9998 x y w, Result.andThen_ok]
theorem run_guard (op : BinOp) (x y : Wea) (o p : Operand) (w : World) : (eqGuard op 32 o p x.v y.v).run Tryd.prog w = .ok () w := run_eqGuard_agg w op _ _ _ _ _ guardI
end Go.Proofs.YtmjfdbhogobpfaaDoor.weaS
