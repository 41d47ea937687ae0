/-
  Wash: the program's structs are compared field by field.
-/
import Derived.Test.YtmjfdbhogobpfaaDoorWasS
namespace Go.Proofs.YtmjfdbhogobpfaaDoor.wasS
open Go.RowKit sl

theorem eqFields_step {P : Program} {d : Nat} {xs ys : Array Value} {f : Field} {fs : List Field} {w : World} {a b : Value} {r : Bool} (hn : f.name ≠ "_") (ha : (part f.type xs f.offset).run P w = .ok a w)
    (hb : (part f.type ys f.offset).run P w = .ok b w) (hr : (Op.equalIn d f.type a b).run P w = .ok r w) :
    (Op.eqFields d xs ys (f :: fs)).run P w = if r = true then (Op.eqFields d xs ys fs).run P w else .ok false w := by
  rw [Op.eqFields, if_pos hn]
  simp only [Sem.run_bind, ha, hb, hr, Result.andThen_ok]
  cases r <;> simp

theorem fieldsI : Tryd.prog.underlying 28 = some (.struct (Tryd.prog.fieldsOf 28)) := by kernel_rfl
theorem stoodI : Tryd.prog.stoodInHeld 28 = false := by kernel_rfl
theorem guardI : Tryd.prog.eqGuardType Tryd.prog.depth 28 = false := by kernel_rfl
abbrev fldI0 : Field := { name := "Wet", type := 22, offset := 0, embedded := false, tag := "", pkgPath := "", byteOffset := 0 }
abbrev fldI1 : Field := { name := "Thick", type := 23, offset := 1, embedded := false, tag := "", pkgPath := "", byteOffset := 2 }
theorem listI : (Tryd.prog.fieldsOf 28).toList = [fldI0, fldI1] := by kernel_rfl
theorem partI0 (x : Was) (w : World) : (part 22 #[.int .i16 x.wet, .int .i8 x.thick] 0).run Tryd.prog w = .ok (.int .i16 x.wet) w := by kernel_rfl
theorem partI1 (x : Was) (w : World) : (part 23 #[.int .i16 x.wet, .int .i8 x.thick] 1).run Tryd.prog w = .ok (.int .i8 x.thick) w := by kernel_rfl
theorem equalIn_any (d : Nat) (x y : Was) (w : World) : (Op.equalIn (d + 2) 28 x.v y.v).run Tryd.prog w = .ok (Was.eq x y) w := by
  rw [run_equalIn_agg w (d + 1) 28 _ _ fieldsI stoodI, listI]
  rw [eqFields_step (f := fldI0) (by decide) (partI0 x w) (partI0 y w) (run_equalIn_int w d 22 .i16 .i16 x.wet y.wet Tryd.underlying22)]
  rw [eqFields_step (f := fldI1) (by decide) (partI1 x w) (partI1 y w) (run_equalIn_int w d 23 .i8 .i8 x.thick y.thick Tryd.underlying23)]
  unfold Was.eq
  cases x.wet == y.wet <;> cases x.thick == y.thick <;> simp [Op.eqFields]

theorem run_eql (x y : Was) (w : World) : (binOp .eql 28 x.v y.v).run Tryd.prog w = .ok (.bool (Was.eq x y)) w := by
  have e : (10000 : Nat) = 9998 + 2 := by decide
  rw [run_eql_struct, e, equalIn_any 9998 x y w, Result.andThen_ok]
theorem run_neq (x y : Was) (w : World) : (binOp .neq 28 x.v y.v).run Tryd.prog w = .ok (.bool (!Was.eq x y)) w := by
  have e : (10000 : Nat) = 9998 + 2 := by decide
  rw [run_neq_struct, e, equalIn_any 9998 x y w, Result.andThen_ok]
theorem run_guard (op : BinOp) (x y : Was) (o p : Operand) (w : World) : (eqGuard op 28 o p x.v y.v).run Tryd.prog w = .ok () w := run_eqGuard_agg w op _ _ _ _ _ guardI
end Go.Proofs.YtmjfdbhogobpfaaDoor.wasS
