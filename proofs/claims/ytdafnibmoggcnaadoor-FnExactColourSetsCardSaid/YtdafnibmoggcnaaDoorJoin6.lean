/-
  Several texts of this proof, joined.
-/
import Derived.Test.YtdafnibmoggcnaaDoorRows
import Derived.WalkKit
import Derived.Test.YtdafnibmoggcnaaDoorWords
/-
  Plain words on garments and rules; no program in them.
-/
namespace Go.Proofs.YtdafnibmoggcnaaDoor
open Go.RowKit

/-- a garment's numbers -/
structure Gar where
  c : Int
  n : Int
  m : Int
  g : Int

/-- the numbers are in the range of their kinds -/
structure Gar.Fits (x : Gar) : Prop where
  c0 : 0 ≤ x.c
  c1 : x.c ≤ 255
  n0 : -128 ≤ x.n
  n1 : x.n ≤ 127
  m0 : -128 ≤ x.m
  m1 : x.m ≤ 127
  g0 : -32768 ≤ x.g
  g1 : x.g ≤ 32767

/-- is a garment valid -/
def Gar.valid (x : Gar) : Bool := decide (x.c < 6) && (decide (0 ≤ x.n) && (decide (x.n ≤ x.m) && (decide (x.m ≤ 95) && (decide (1 ≤ x.g) && decide (x.g ≤ 2000)))))

abbrev Gar.cells (x : Gar) : List Value := [.int .u8 x.c, .int .i8 x.n, .int .i8 x.m, .int .i16 x.g]
abbrev Gar.v (x : Gar) : Value := .agg #[.int .u8 x.c, .int .i8 x.n, .int .i8 x.m, .int .i16 x.g]

end Go.Proofs.YtdafnibmoggcnaaDoor

/-
  Plain words on bits; no program in them.
-/
namespace Go.Proofs.YtdafnibmoggcnaaDoor
open Go.RowKit

/-- bit k of a number -/
abbrev bitZ (x : Int) (k : Nat) : Bool := x.toNat.testBit k

theorem shr_and_one (x : Int) (hx : 0 ≤ x ∧ x ≤ 255) (k : Nat) : bits BinOp.and IntKind.u8 (x / 2 ^ min k 8) 1 = if bitZ x k = true then 1 else 0 := by
  obtain ⟨n, rfl⟩ := Int.eq_ofNat_of_zero_le hx.1
  have hn : n ≤ 255 := by omega
  have hq : ((n : Int) / 2 ^ min k 8) = ((n / 2 ^ min k 8 : Nat) : Int) := by simp
  have hle : n / 2 ^ min k 8 ≤ n := Nat.div_le_self _ _
  have h := (bits_nat .u8 8 (by decide) (fun n h0 h1 => by rw [IntKind.wrap_u8]; omega) (n / 2 ^ min k 8) 1 (by omega) (by decide)).1
  rw [hq]
  rw [Nat.and_one_is_mod] at h
  refine h.trans ?_
  have hb : bitZ (n : Int) k = decide (n / 2 ^ k % 2 = 1) := by
    simp [bitZ, Nat.testBit_eq_decide_div_mod_eq]
  have he : n / 2 ^ min k 8 % 2 = n / 2 ^ k % 2 := by
    by_cases hk : k ≤ 8
    · rw [Nat.min_eq_left hk]
    · have h8 : 2 ^ 8 ≤ 2 ^ k := Nat.pow_le_pow_right (by decide) (by omega)
      rw [Nat.min_eq_right (by omega), Nat.div_eq_of_lt (by omega : n < 2 ^ 8), Nat.div_eq_of_lt (by omega : n < 2 ^ k)]
  rw [he, hb]
  have h2 : n / 2 ^ k % 2 < 2 := Nat.mod_lt _ (by decide)
  by_cases h1 : n / 2 ^ k % 2 = 1
  · simp [h1]
  · have h0 : n / 2 ^ k % 2 = 0 := by omega
    simp [h0]

theorem bit_eq_one (x : Int) (hx : 0 ≤ x ∧ x ≤ 255) (k : Nat) : (bits BinOp.and IntKind.u8 (x / 2 ^ min k 8) 1 == 1) = bitZ x k := by
  rw [shr_and_one x hx k]
  cases bitZ x k <;> simp
theorem bit_ne_zero (x : Int) (hx : 0 ≤ x ∧ x ≤ 255) (k : Nat) : (bits BinOp.and IntKind.u8 (x / 2 ^ min k 8) 1 != 0) = bitZ x k := by
  rw [shr_and_one x hx k]
  cases bitZ x k <;> simp

/-- six numbers of a byte each -/
def Six (r : Nat → Int) : Prop := ∀ a, a < 6 → 0 ≤ r a ∧ r a ≤ 255
abbrev rulesCs (r : Nat → Int) : Array Value := #[.int .u8 (r 0), .int .u8 (r 1), .int .u8 (r 2), .int .u8 (r 3), .int .u8 (r 4), .int .u8 (r 5)]
abbrev rulesV (r : Nat → Int) : Value := .agg #[.int .u8 (r 0), .int .u8 (r 1), .int .u8 (r 2), .int .u8 (r 3), .int .u8 (r 4), .int .u8 (r 5)]
theorem six_get (r : Nat → Int) {a : Nat} (ha : a < 6) : (rulesCs r)[a]? = some (.int .u8 (r a)) := by
  match a, ha with
  | 0, _ => rfl
  | 1, _ => rfl
  | 2, _ => rfl
  | 3, _ => rfl
  | 4, _ => rfl
  | 5, _ => rfl
theorem six_get' (r : Nat → Int) {a : Nat} (ha : a < 6) : [Value.int .u8 (r 0), .int .u8 (r 1), .int .u8 (r 2), .int .u8 (r 3), .int .u8 (r 4), .int .u8 (r 5)][a]? = some (.int .u8 (r a)) := by
  simpa using six_get r ha
/-- may a be washed with b -/
def allowB (r : Nat → Int) (a b : Nat) : Bool := bitZ (r a) b
/-- are the rules of one colour as they should be, with all below m -/
def rowB (r : Nat → Int) (a m : Nat) : Prop := r a < 64 ∧ allowB r a a = true ∧ ∀ b, b < m → allowB r a b = allowB r b a
def validR (r : Nat → Int) : Prop := ∀ a, a < 6 → rowB r a 6
open Classical in
noncomputable def validRB (r : Nat → Int) : Bool := decide (validR r)

theorem validRB_true {r : Nat → Int} (h : validR r) : validRB r = true := by simp [validRB, h]
theorem validRB_false {r : Nat → Int} (h : ¬ validR r) : validRB r = false := by simp [validRB, h]
theorem validR_of {r : Nat → Int} (h : ∀ a, a < 6 → rowB r a a) : validR r := by
  intro a ha
  refine ⟨(h a ha).1, (h a ha).2.1, fun b hb => ?_⟩
  rcases Nat.lt_trichotomy b a with hlt | rfl | hgt
  · exact (h a ha).2.2 b hlt
  · rfl
  · exact ((h b hb).2.2 a hgt).symm
end Go.Proofs.YtdafnibmoggcnaaDoor

/-
  Garments are compared field by field.
-/
namespace Go.Proofs.YtdafnibmoggcnaaDoor.garS
open Go.RowKit

/-- are two garments equal -/
def gEq (x y : Gar) : Bool := x.c == y.c && (x.n == y.n && (x.m == y.m && x.g == y.g))
theorem gEq_iff (x y : Gar) : gEq x y = true ↔ x = y := by
  obtain ⟨a, b, c, d⟩ := x
  obtain ⟨a', b', c', d'⟩ := y
  simp [gEq]
theorem gEq_not (x y : Gar) : gEq x y = false ↔ ¬ x = y := by
  rw [← gEq_iff]
  simp

theorem eqFields_step {P : Program} {d : Nat} {xs ys : Array Value} {f : Field} {fs : List Field} {w : World} {a b : Value} {r : Bool} (hn : f.name ≠ "_") (ha : (part f.type xs f.offset).run P w = .ok a w)
    (hb : (part f.type ys f.offset).run P w = .ok b w) (hr : (Op.equalIn d f.type a b).run P w = .ok r w) :
    (Op.eqFields d xs ys (f :: fs)).run P w = if r = true then (Op.eqFields d xs ys fs).run P w else .ok false w := by
  rw [Op.eqFields, if_pos hn]
  simp only [Sem.run_bind, ha, hb, hr, Result.andThen_ok]
  cases r <;> simp

theorem fieldsG : Tryd.prog.underlying 56 = some (.struct (Tryd.prog.fieldsOf 56)) := by kernel_rfl
theorem stoodG : Tryd.prog.stoodInHeld 56 = false := by kernel_rfl
theorem guardG : Tryd.prog.eqGuardType Tryd.prog.depth 56 = false := by kernel_rfl
abbrev fld0 : Field := { name := "Colour", type := 5, offset := 0, embedded := false, tag := "", pkgPath := "", byteOffset := 0 }
abbrev fld1 : Field := { name := "Need", type := 53, offset := 1, embedded := false, tag := "", pkgPath := "", byteOffset := 1 }
abbrev fld2 : Field := { name := "Most", type := 53, offset := 2, embedded := false, tag := "", pkgPath := "", byteOffset := 2 }
abbrev fld3 : Field := { name := "Weight", type := 54, offset := 3, embedded := false, tag := "", pkgPath := "", byteOffset := 4 }
theorem listG : (Tryd.prog.fieldsOf 56).toList = [fld0, fld1, fld2, fld3] := by kernel_rfl
theorem part0 (x : Gar) (w : World) : (part 5 #[.int .u8 x.c, .int .i8 x.n, .int .i8 x.m, .int .i16 x.g] 0).run Tryd.prog w = .ok (.int .u8 x.c) w := by kernel_rfl
theorem part1 (x : Gar) (w : World) : (part 53 #[.int .u8 x.c, .int .i8 x.n, .int .i8 x.m, .int .i16 x.g] 1).run Tryd.prog w = .ok (.int .i8 x.n) w := by kernel_rfl
theorem part2 (x : Gar) (w : World) : (part 53 #[.int .u8 x.c, .int .i8 x.n, .int .i8 x.m, .int .i16 x.g] 2).run Tryd.prog w = .ok (.int .i8 x.m) w := by kernel_rfl
theorem part3 (x : Gar) (w : World) : (part 54 #[.int .u8 x.c, .int .i8 x.n, .int .i8 x.m, .int .i16 x.g] 3).run Tryd.prog w = .ok (.int .i16 x.g) w := by kernel_rfl

theorem equalIn_gar (d : Nat) (x y : Gar) (w : World) : (Op.equalIn (d + 2) 56 x.v y.v).run Tryd.prog w = .ok (gEq x y) w := by
  rw [run_equalIn_agg w (d + 1) 56 _ _ fieldsG stoodG, listG]
  rw [eqFields_step (f := fld0) (by decide) (part0 x w) (part0 y w) (run_equalIn_int w d 5 .u8 .u8 x.c y.c Tryd.underlying5)]
  rw [eqFields_step (f := fld1) (by decide) (part1 x w) (part1 y w) (run_equalIn_int w d 53 .i8 .i8 x.n y.n Tryd.underlying53)]
  rw [eqFields_step (f := fld2) (by decide) (part2 x w) (part2 y w) (run_equalIn_int w d 53 .i8 .i8 x.m y.m Tryd.underlying53)]
  rw [eqFields_step (f := fld3) (by decide) (part3 x w) (part3 y w) (run_equalIn_int w d 54 .i16 .i16 x.g y.g Tryd.underlying54)]
  unfold gEq
  cases x.c == y.c <;> cases x.n == y.n <;> cases x.m == y.m <;> cases x.g == y.g <;> simp [Op.eqFields]

theorem run_neq_gar (x y : Gar) (w : World) : (binOp .neq 56 x.v y.v).run Tryd.prog w = .ok (.bool (!gEq x y)) w := by
  have e : (10000 : Nat) = 9998 + 2 := by decide
  rw [run_neq_struct, e, equalIn_gar 9998 x y w, Result.andThen_ok]
theorem run_guard_gar (x y : Gar) (o p : Operand) (w : World) : (eqGuard .neq 56 o p x.v y.v).run Tryd.prog w = .ok () w := run_eqGuard_agg w .neq _ _ _ _ _ guardG
end Go.Proofs.YtdafnibmoggcnaaDoor.garS
