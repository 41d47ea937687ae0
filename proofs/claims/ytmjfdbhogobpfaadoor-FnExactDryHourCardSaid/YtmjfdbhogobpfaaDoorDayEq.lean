/-
  The program's days are compared hour by hour.
-/
import Derived.Test.YtmjfdbhogobpfaaDoorDayTo
import Derived.Test.YtmjfdbhogobpfaaDoorWeaEq
namespace Go.Proofs.YtmjfdbhogobpfaaDoor.day
open Go Go.RowKit sl

abbrev w0 : Wea := ⟨0, 0, 0⟩
/-- are two days equal -/
def dayEq (xs ys : List Wea) : Bool := (List.range' 0 24 1).all fun i => Wea.eq (xs.getD i w0) (ys.getD i w0)
theorem dayEq_iff {xs ys : List Wea} (hx : xs.length = 24) (hy : ys.length = 24) : dayEq xs ys = true ↔ xs = ys := by
  unfold dayEq
  rw [List.all_eq_true]
  constructor
  · intro h
    refine List.ext_getElem? fun i => ?_
    rcases Nat.lt_or_ge i 24 with hi | hi
    · have h1 := (Wea.eq_iff _ _).1 (h i (by simp; omega))
      simp only [List.getD] at h1
      rw [List.getElem?_eq_getElem (show i < xs.length by omega), List.getElem?_eq_getElem (show i < ys.length by omega)] at h1 ⊢
      exact congrArg some h1
    · rw [List.getElem?_eq_none (by omega), List.getElem?_eq_none (by omega)]
  · rintro rfl i _
    exact (Wea.eq_iff _ _).2 rfl
theorem extract_day {d : List Wea} {k : Nat} {x : Wea} (hx : d[k]? = some x) : (dayCs d).extract (k * 3) (k * 3 + 3) = #[.int .i8 x.sun, .int .i8 x.wind, .int .i8 x.rain] := by
  have hk : k < d.length := (List.getElem?_eq_some_iff.1 hx).1
  have hs : (dayCs d).size = d.length * 3 := by
    unfold dayCs
    rw [List.size_toArray, flat_len (Wea.len d)]
  have g := fun j v (hj : (Wea.cells x)[j]? = some v) => flat_get (Wea.len d) hx hj
  refine Array.ext_getElem? fun i => ?_
  rw [Array.getElem?_extract]
  have hd : ∀ j : Nat, (dayCs d)[j]? = (d.flatMap Wea.cells)[j]? := fun j => by simp [dayCs]
  match i with
  | 0 => rw [if_pos (by omega), hd, g 0 _ rfl]; rfl
  | 1 => rw [if_pos (by omega), hd, g 1 _ rfl]; rfl
  | 2 => rw [if_pos (by omega), hd, g 2 _ rfl]; rfl
  | i + 3 => rw [if_neg (by omega)]; simp
theorem sizeWea (u : World) : (sizeOf 32).run Tryd.prog u = .ok 3 u := by kernel_rfl
theorem aggWea (u : World) : (isAgg 32).run Tryd.prog u = .ok true u := by kernel_rfl
theorem part_day {d : List Wea} {k : Nat} {x : Wea} (hx : d[k]? = some x) (u : World) : (part 32 (dayCs d) (k * 3)).run Tryd.prog u = .ok x.v u := by
  simp only [part, Sem.run_bind, aggWea, sizeWea, Result.andThen_ok, if_true, Sem.run_pure, extract_day hx]

theorem equalIn_day (n : Nat) (xs ys : List Wea) (hx : xs.length = 24) (hy : ys.length = 24) (u : World) : (Op.equalIn (n + 3) 40 (dayV xs) (dayV ys)).run Tryd.prog u = .ok (dayEq xs ys) u := by
  have hu : Tryd.prog.underlying 40 = some (.array 24 32) := Tryd.underlying40
  unfold dayEq
  rw [Op.equalIn]
  simp only [Sem.run_bind, run_underlying hu, Result.andThen_ok, sizeWea, Std.Legacy.Range.forIn_eq_forIn_range', Std.Legacy.Range.size, Nat.sub_zero, Nat.add_sub_cancel, Nat.div_one]
  have hl : ∀ i ∈ List.range' 0 24 1, i < 24 := fun i hi => by simpa using (List.mem_range'_1.1 hi).2
  generalize List.range' 0 24 1 = l at hl ⊢
  induction l with
  | nil => simp
  | cons i l ih =>
    have hi : i < 24 := hl i (by simp)
    have gx : xs[i]? = some (xs.getD i w0) := by simp [List.getD, List.getElem?_eq_getElem (show i < xs.length by omega)]
    have gy : ys[i]? = some (ys.getD i w0) := by simp [List.getD, List.getElem?_eq_getElem (show i < ys.length by omega)]
    simp only [List.forIn_cons, Sem.run_bind, part_day gx, part_day gy, weaS.equalIn_any n, Result.andThen_ok, List.all_cons]
    cases hb : Wea.eq (xs.getD i w0) (ys.getD i w0)
    · simp
    · simp only [Bool.not_true, Bool.false_eq_true, if_false, Sem.run_pure, Result.andThen_ok, Bool.true_and]
      exact ih fun j hj => hl j (by simp [hj])
theorem run_eql_day (xs ys : List Wea) (hx : xs.length = 24) (hy : ys.length = 24) (u : World) : (binOp .eql 40 (dayV xs) (dayV ys)).run Tryd.prog u = .ok (.bool (dayEq xs ys)) u := by
  have e : (10000 : Nat) = 9997 + 3 := by decide
  rw [run_eql_struct, e, equalIn_day 9997 xs ys hx hy u, Result.andThen_ok]
theorem guardD : Tryd.prog.eqGuardType Tryd.prog.depth 40 = false := by kernel_rfl
theorem run_guard_day (xs ys : List Wea) (o p : Operand) (u : World) : (eqGuard .eql 40 o p (dayV xs) (dayV ys)).run Tryd.prog u = .ok () u := run_eqGuard_agg u .eql _ _ _ _ _ guardD
end Go.Proofs.YtmjfdbhogobpfaaDoor.day
