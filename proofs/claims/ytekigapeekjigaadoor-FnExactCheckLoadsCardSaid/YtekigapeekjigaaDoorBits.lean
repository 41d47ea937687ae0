/-
  Plain words on bits; no program in them.
-/
import Derived.Test.YtekigapeekjigaaDoorPure
import Derived.WalkKit
namespace Go.Proofs.YtekigapeekjigaaDoor
open Go.RowKit

/-- bit k of a number -/
abbrev bitZ (x : Int) (k : Nat) : Bool := x.toNat.testBit k

theorem shr_and_one (x : Int) (hx : 0 ≤ x ∧ x ≤ 255) (k : Nat) : bits BinOp.and IntKind.u8 (x / 2 ^ min k 8) 1 = if bitZ x k = true then 1 else 0 := by
  obtain ⟨n, rfl⟩ := Int.eq_ofNat_of_zero_le hx.1
  have hn : n ≤ 255 := by omega
  have hq : ((n : Int) / 2 ^ min k 8) = ((n / 2 ^ min k 8 : Nat) : Int) := by simp
  have hle : n / 2 ^ min k 8 ≤ n := Nat.div_le_self _ _
  have h := (bits_nat .u8 8 (by decide) (fun n h0 h1 => by rw [IntKind.wrap_u8]; omega) (n / 2 ^ min k 8) 1 (by omega) (by decide)).1
  rw [hq]
  rw [Nat.and_one_is_mod] at h
  refine h.trans ?_
  have hb : bitZ (n : Int) k = decide (n / 2 ^ k % 2 = 1) := by
    simp [bitZ, Nat.testBit_eq_decide_div_mod_eq]
  have he : n / 2 ^ min k 8 % 2 = n / 2 ^ k % 2 := by
    by_cases hk : k ≤ 8
    · rw [Nat.min_eq_left hk]
    · have h8 : 2 ^ 8 ≤ 2 ^ k := Nat.pow_le_pow_right (by decide) (by omega)
      rw [Nat.min_eq_right (by omega), Nat.div_eq_of_lt (by omega : n < 2 ^ 8), Nat.div_eq_of_lt (by omega : n < 2 ^ k)]
  rw [he, hb]
  have h2 : n / 2 ^ k % 2 < 2 := Nat.mod_lt _ (by decide)
  by_cases h1 : n / 2 ^ k % 2 = 1
  · simp [h1]
  · have h0 : n / 2 ^ k % 2 = 0 := by omega
    simp [h0]

theorem bit_eq_one (x : Int) (hx : 0 ≤ x ∧ x ≤ 255) (k : Nat) : (bits BinOp.and IntKind.u8 (x / 2 ^ min k 8) 1 == 1) = bitZ x k := by
  rw [shr_and_one x hx k]
  cases bitZ x k <;> simp
theorem bit_ne_zero (x : Int) (hx : 0 ≤ x ∧ x ≤ 255) (k : Nat) : (bits BinOp.and IntKind.u8 (x / 2 ^ min k 8) 1 != 0) = bitZ x k := by
  rw [shr_and_one x hx k]
  cases bitZ x k <;> simp

/-- six numbers of a byte each -/
def Six (r : Nat → Int) : Prop := ∀ a, a < 6 → 0 ≤ r a ∧ r a ≤ 255
abbrev rulesCs (r : Nat → Int) : Array Value := #[.int .u8 (r 0), .int .u8 (r 1), .int .u8 (r 2), .int .u8 (r 3), .int .u8 (r 4), .int .u8 (r 5)]
abbrev rulesV (r : Nat → Int) : Value := .agg #[.int .u8 (r 0), .int .u8 (r 1), .int .u8 (r 2), .int .u8 (r 3), .int .u8 (r 4), .int .u8 (r 5)]
theorem six_get (r : Nat → Int) {a : Nat} (ha : a < 6) : (rulesCs r)[a]? = some (.int .u8 (r a)) := by
  match a, ha with
  | 0, _ => rfl
  | 1, _ => rfl
  | 2, _ => rfl
  | 3, _ => rfl
  | 4, _ => rfl
  | 5, _ => rfl
theorem six_get' (r : Nat → Int) {a : Nat} (ha : a < 6) : [Value.int .u8 (r 0), .int .u8 (r 1), .int .u8 (r 2), .int .u8 (r 3), .int .u8 (r 4), .int .u8 (r 5)][a]? = some (.int .u8 (r a)) := by
  simpa using six_get r ha
/-- may a be washed with b -/
def allowB (r : Nat → Int) (a b : Nat) : Bool := bitZ (r a) b
/-- are the rules of one colour as they should be, with all below m -/
def rowB (r : Nat → Int) (a m : Nat) : Prop := r a < 64 ∧ allowB r a a = true ∧ ∀ b, b < m → allowB r a b = allowB r b a
def validR (r : Nat → Int) : Prop := ∀ a, a < 6 → rowB r a 6
open Classical in
noncomputable def validRB (r : Nat → Int) : Bool := decide (validR r)

theorem validRB_true {r : Nat → Int} (h : validR r) : validRB r = true := by simp [validRB, h]
theorem validRB_false {r : Nat → Int} (h : ¬ validR r) : validRB r = false := by simp [validRB, h]
theorem validR_of {r : Nat → Int} (h : ∀ a, a < 6 → rowB r a a) : validR r := by
  intro a ha
  refine ⟨(h a ha).1, (h a ha).2.1, fun b hb => ?_⟩
  rcases Nat.lt_trichotomy b a with hlt | rfl | hgt
  · exact (h a ha).2.2 b hlt
  · rfl
  · exact ((h b hb).2.2 a hgt).symm
end Go.Proofs.YtekigapeekjigaaDoor
