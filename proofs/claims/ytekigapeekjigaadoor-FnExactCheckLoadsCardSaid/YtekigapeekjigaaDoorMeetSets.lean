/-
  The program's meetingSets: for each garment the set of those that it may meet.
-/
import Derived.Test.YtekigapeekjigaaDoorBridge
import Derived.Test.YtekigapeekjigaaDoorMapKey
import Derived.Test.YtekigapeekjigaaDoorMay
import Derived.Maps.OwnSet
import Derived.Maps.OwnOps
namespace Go.Proofs.YtekigapeekjigaaDoor.mem
open Go Go.RowKit Go.Maps errs garS heats meet load

/-- may garment x meet garment j -/
def meetAt (r : Nat → Int) (gs : List Gar) (x : Gar) (j : Nat) : Bool := (gs[j]?.map (meetB r x)).getD false
/-- the set of the first k garments that x may meet -/
def setOf (r : Nat → Int) (gs : List Gar) (x : Gar) (k : Nat) : Nat := (List.range k).foldl (fun s j => if meetAt r gs x j = true then s ||| 2 ^ j else s) 0
theorem setOf_succ (r : Nat → Int) (gs : List Gar) (x : Gar) (k : Nat) : setOf r gs x (k + 1) = if meetAt r gs x k = true then setOf r gs x k ||| 2 ^ k else setOf r gs x k := by simp [setOf, List.range_succ]
theorem setOf_bit (r : Nat → Int) (gs : List Gar) (x : Gar) (j : Nat) : ∀ k, (setOf r gs x k).testBit j = (decide (j < k) && meetAt r gs x j)
  | 0 => by simp [setOf]
  | k + 1 => by
    rw [setOf_succ]
    split
    · rename_i h
      rw [Nat.testBit_or, setOf_bit r gs x j k, Nat.testBit_two_pow]
      by_cases e : k = j
      · subst e; simp [h]
      · have : decide (j < k + 1) = decide (j < k) := by rw [Bool.eq_iff_iff]; simp; omega
        simp [e, this]
    · rename_i h
      rw [setOf_bit r gs x j k]
      by_cases e : k = j
      · subst e; simp [h]
      · have : decide (j < k + 1) = decide (j < k) := by rw [Bool.eq_iff_iff]; simp; omega
        rw [this]
theorem setOf_lt (r : Nat → Int) (gs : List Gar) (x : Gar) (k : Nat) (hk : k ≤ 8) : setOf r gs x k < 256 := by
  refine Nat.lt_pow_two_of_testBit (n := 8) _ fun i hi => ?_
  rw [setOf_bit]
  simp
  omega
def msOf (r : Nat → Int) (gs : List Gar) (k i : Nat) : Int := if i < k then ((gs[i]?.map fun x => setOf r gs x gs.length).getD 0 : Nat) else 0
theorem msOf_meets {r : Nat → Int} {gs : List Gar} (hn : gs.length ≤ 8) : Meets r gs (msOf r gs gs.length) := by
  refine ⟨fun i => ?_, fun i x k hx => ?_⟩
  · unfold msOf
    split
    · cases hx : gs[i]? with
      | none => simp
      | some x =>
        have := setOf_lt r gs x gs.length hn
        simp
        omega
    · omega
  · have hi := (List.getElem?_eq_some_iff.1 hx).1
    rw [msOf, if_pos hi, hx]
    simp only [Option.map_some, Option.getD_some, Int.toNat_natCast]
    rw [setOf_bit, Bool.and_eq_true, decide_eq_true_eq, meetAt]
    constructor
    · rintro ⟨h1, h2⟩
      have hy : gs[k]? = some (gs[k]'h1) := List.getElem?_eq_getElem _
      rw [hy] at h2
      exact ⟨_, hy, by simpa using h2⟩
    · rintro ⟨y, hy, h2⟩
      exact ⟨(List.getElem?_eq_some_iff.1 hy).1, by rw [hy]; simpa using h2⟩
end Go.Proofs.YtekigapeekjigaaDoor.mem
