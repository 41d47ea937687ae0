/-
  What isLoad of a basket says, in plain words.
-/
import Derived.Test.YtekigapeekjigaaDoorIsLoadB
import Derived.Test.YtekigapeekjigaaDoorSpecLoad
import Derived.Laws.BitsAllLaws
namespace Go.Proofs.YtekigapeekjigaaDoor.mem
open Go Go.RowKit garS heats meet load

theorem off_zero (a b : Nat) (ha : a < 256) (hb : b < 256) : a &&& (255 - b) = 0 ↔ ∀ k, k < 8 → a.testBit k = true → b.testBit k = true := by
  have e : ∀ k, (255 - b).testBit k = (decide (k < 8) && !b.testBit k) := fun k => by
    have := Nat.testBit_two_pow_sub_succ (x := b) (n := 8) hb k
    rwa [show 2 ^ 8 - (b + 1) = 255 - b by omega] at this
  constructor
  · intro h k hk h1
    have h2 : (a &&& (255 - b)).testBit k = false := by rw [h]; simp
    rw [Nat.testBit_and, h1, e k] at h2
    simp [hk] at h2
    exact h2
  · intro h
    apply Nat.eq_of_testBit_eq
    intro k
    rw [Nat.testBit_and, e k, Nat.zero_testBit]
    cases h1 : a.testBit k with
    | false => rfl
    | true =>
      by_cases hk : k < 8
      · rw [h k hk h1]; simp
      · simp [hk]
theorem memb_all : ∀ n, n ≤ 8 → memb (2 ^ n - 1) = List.range n
  | 0, _ => by decide +kernel
  | 1, _ => by decide +kernel
  | 2, _ => by decide +kernel
  | 3, _ => by decide +kernel
  | 4, _ => by decide +kernel
  | 5, _ => by decide +kernel
  | 6, _ => by decide +kernel
  | 7, _ => by decide +kernel
  | 8, _ => by decide +kernel
theorem wSum_range (gs : List Gar) : ∀ k, k ≤ gs.length → wSum gs (List.range k) = wAll (gs.take k)
  | 0, _ => rfl
  | k + 1, h => by
    obtain ⟨x, hx⟩ : ∃ x, gs[k]? = some x := ⟨gs[k]'(by omega), List.getElem?_eq_getElem _⟩
    rw [List.range_succ, wSum_snoc, wSum_range gs k (by omega), wAll_snoc hx, wAt, hx]
    rfl
/-- m has for each garment the set of those that it may meet -/
structure Meets (r : Nat → Int) (gs : List Gar) (m : Nat → Int) : Prop where
  lo : ∀ i, 0 ≤ m i ∧ m i < 256
  bit : ∀ i x k, gs[i]? = some x → ((m i).toNat.testBit k = true ↔ ∃ y, gs[k]? = some y ∧ meetB r x y = true)
theorem two_pow_le : ∀ n, n ≤ 8 → 2 ^ n - 1 < 256 ∧ (0 < n → 2 ^ n - 1 ≠ 0) ∧ ∀ k, (2 ^ n - 1).testBit k = decide (k < n) := fun n hn => by
  refine ⟨?_, ?_, fun k => Nat.testBit_two_pow_sub_one n k⟩
  · have := Nat.pow_le_pow_right (show 0 < 2 by decide) hn
    omega
  · intro h
    have := Nat.pow_le_pow_right (show 0 < 2 by decide) h
    omega
theorem meet_symm {r : Nat → Int} (hv : ∀ a b, a < 6 → b < 6 → bitZ (r a) b = bitZ (r b) a) {x y : Gar} (hx : x.c.toNat < 6) (hy : y.c.toNat < 6) : meetB r x y = meetB r y x := by
  unfold meetB
  rw [hv _ _ hx hy, Bool.and_comm (decide (x.n ≤ y.m))]
theorem isLoadB_all {r : Nat → Int} {gs : List Gar} {m : Nat → Int} (hm : Meets r gs m) (hold : Int) (n : Nat) (en : n = gs.length) (hn : n ≤ 8) (hs : ∀ x y, x ∈ gs → y ∈ gs → meetB r x y = meetB r y x) (hr : ∀ x ∈ gs, meetB r x x = true) :
    isLoadB gs m hold (2 ^ n - 1) = true ↔ 0 < n ∧ Pairs r gs ∧ wAll gs ≤ hold := by
  obtain ⟨p1, p2, p3⟩ := two_pow_le n hn
  have hw : wSum gs (List.range n) = wAll gs := by
    rw [wSum_range gs n (by omega), List.take_of_length_le (by omega)]
  have hall : (∀ i ∈ List.range n, offB m (2 ^ n - 1) i = 0) ↔ Pairs r gs := by
    have each : ∀ i x, gs[i]? = some x → (offB m (2 ^ n - 1) i = 0 ↔ ∀ k y, gs[k]? = some y → meetB r x y = true) := fun i x hx => by
      obtain ⟨l1, l2⟩ := hm.lo i
      have e := u8_andNot ((2 ^ n - 1 : Nat) : Int) (m i) (by omega) (by omega) l1 l2
      have e2 : offB m (2 ^ n - 1) i = (((2 ^ n - 1) &&& (255 - (m i).toNat) : Nat) : Int) := by simpa using e
      rw [e2, Int.natCast_eq_zero, off_zero _ _ p1 (by omega)]
      constructor
      · intro h k y hy
        have hk := (List.getElem?_eq_some_iff.1 hy).1
        obtain ⟨z, hz, hm2⟩ := (hm.bit i x k hx).1 (h k (by omega) (by rw [p3]; simp; omega))
        rw [hy] at hz
        rw [Option.some.inj hz]
        exact hm2
      · intro h k hk hb
        rw [p3] at hb
        have hkn : k < n := by simpa using hb
        exact (hm.bit i x k hx).2 ⟨gs[k]'(by omega), List.getElem?_eq_getElem _, h k _ (List.getElem?_eq_getElem _)⟩
    constructor
    · intro h i k x y hki hx hy
      have hi := (List.getElem?_eq_some_iff.1 hx).1
      exact (each i x hx).1 (h i (by rw [List.mem_range]; omega)) k y hy
    · intro h i hi
      rw [List.mem_range] at hi
      have hx : gs[i]? = some (gs[i]'(by omega)) := List.getElem?_eq_getElem _
      refine (each i _ hx).2 fun k y hy => ?_
      rcases Nat.lt_trichotomy k i with h1 | h1 | h1
      · exact h i k _ y h1 hx hy
      · subst h1
        rw [hx] at hy
        rw [← Option.some.inj hy]
        exact hr _ (List.mem_of_getElem? hx)
      · rw [hs _ _ (List.mem_of_getElem? hx) (List.mem_of_getElem? hy)]
        exact h k i y _ h1 hy hx
  rw [isLoadB, memb_all n hn, hw, Bool.and_eq_true, Bool.and_eq_true, List.all_eq_true]
  have h1 : (∀ i ∈ List.range n, (offB m (2 ^ n - 1) i == 0) = true) ↔ Pairs r gs := by
    rw [← hall]
    exact ⟨fun h i hi => by simpa using h i hi, fun h i hi => by simpa using h i hi⟩
  rw [h1]
  constructor
  · rintro ⟨a, b, c⟩
    refine ⟨?_, a, by simpa using c⟩
    rcases Nat.eq_zero_or_pos n with h | h
    · subst h; simp at b
    · exact h
  · rintro ⟨a, b, c⟩
    exact ⟨b, by rw [bne_iff_ne]; exact p2 a, by simpa using c⟩
end Go.Proofs.YtekigapeekjigaaDoor.mem
