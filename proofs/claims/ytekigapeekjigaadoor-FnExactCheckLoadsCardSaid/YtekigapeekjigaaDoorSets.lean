/-
  Sets of garments that numbers tell, in plain words.
-/
import Derived.Test.YtekigapeekjigaaDoorBridge
namespace Go.Proofs.YtekigapeekjigaaDoor.mem
open Go Go.RowKit garS heats meet load

/-- the garments ahead of j with the number k, as bits -/
def setK (ls : List Int) (k : Int) : Nat → Nat
  | 0 => 0
  | j + 1 => if ls[j]? = some k then setK ls k j ||| 2 ^ j else setK ls k j
theorem setK_bit (ls : List Int) (k : Int) : ∀ j i, (setK ls k j).testBit i = (decide (i < j) && decide (ls[i]? = some k))
  | 0, i => by simp [setK]
  | j + 1, i => by
    have ih := setK_bit ls k j i
    unfold setK
    by_cases h : ls[j]? = some k
    · rw [if_pos h, Nat.testBit_or, ih, Nat.testBit_two_pow]
      by_cases e : j = i
      · subst e; simp [h]
      · by_cases h1 : i < j
        · simp [h1, e, show i < j + 1 by omega]
        · simp [h1, e, show ¬ i < j + 1 by omega]
    · rw [if_neg h, ih]
      by_cases e : i = j
      · subst e; simp [h]
      · by_cases h1 : i < j
        · simp [h1, show i < j + 1 by omega]
        · simp [h1, show ¬ i < j + 1 by omega]
theorem setK_lt (ls : List Int) (k : Int) (j : Nat) (hj : j ≤ 8) : setK ls k j < 256 := by
  have h : setK ls k j < 2 ^ 8 := Nat.lt_pow_two_of_testBit _ fun i hi => by
    rw [setK_bit]
    simp [show ¬ i < j by omega]
  exact h
theorem setK_in (ls : List Int) (k : Int) (j : Nat) : ∀ i, i < 8 → (setK ls k j).testBit i = true → i < j := fun i _ h => by
  rw [setK_bit] at h
  simp at h
  exact h.1
/-- the garments ahead of j with the number k -/
def withL (gs : List Gar) (ls : List Int) (k : Int) : Nat → List Gar
  | 0 => []
  | j + 1 => if ls[j]? = some k then withL gs ls k j ++ (gs[j]?).toList else withL gs ls k j
theorem withL_len (gs : List Gar) (ls : List Int) (k : Int) : ∀ j, (withL gs ls k j).length ≤ j
  | 0 => Nat.le_refl _
  | j + 1 => by
    have := withL_len gs ls k j
    unfold withL
    split
    · rw [List.length_append]
      have : (gs[j]?).toList.length ≤ 1 := by cases gs[j]? <;> simp
      omega
    · omega
theorem withL_mem (gs : List Gar) (ls : List Int) (k : Int) (y : Gar) : ∀ j, y ∈ withL gs ls k j ↔ ∃ i, i < j ∧ ls[i]? = some k ∧ gs[i]? = some y
  | 0 => by simp [withL]
  | j + 1 => by
    have ih := withL_mem gs ls k y j
    unfold withL
    by_cases h : ls[j]? = some k
    · rw [if_pos h, List.mem_append, ih]
      constructor
      · rintro (⟨i, h1, h2, h3⟩ | h1)
        · exact ⟨i, by omega, h2, h3⟩
        · exact ⟨j, by omega, h, by simpa using h1⟩
      · rintro ⟨i, h1, h2, h3⟩
        by_cases e : i = j
        · subst e; exact .inr (by simpa using h3)
        · exact .inl ⟨i, by omega, h2, h3⟩
    · rw [if_neg h, ih]
      constructor
      · rintro ⟨i, h1, h2, h3⟩
        exact ⟨i, by omega, h2, h3⟩
      · rintro ⟨i, h1, h2, h3⟩
        by_cases e : i = j
        · subst e; exact absurd h2 h
        · exact ⟨i, by omega, h2, h3⟩
theorem withL_in (gs : List Gar) (ls : List Int) (k : Int) (j : Nat) : ∀ y ∈ withL gs ls k j, y ∈ gs := fun y h => by
  obtain ⟨i, _, _, h3⟩ := (withL_mem gs ls k y j).1 h
  exact List.mem_of_getElem? h3
theorem pairs_snoc (r : Nat → Int) (l : List Gar) (x : Gar) : Pairs r (l ++ [x]) ↔ Pairs r l ∧ ∀ y ∈ l, meetB r x y = true := by
  constructor
  · intro h
    constructor
    · intro i k a b hk ha hb
      have hi := (List.getElem?_eq_some_iff.1 ha).1
      exact h i k a b hk (by rw [List.getElem?_append_left hi]; exact ha) (by rw [List.getElem?_append_left (by omega)]; exact hb)
    · intro y hy
      obtain ⟨k, hk⟩ := List.mem_iff_getElem?.1 hy
      have hl := (List.getElem?_eq_some_iff.1 hk).1
      exact h l.length k x y hl (by simp) (by rw [List.getElem?_append_left hl]; exact hk)
  · rintro ⟨h1, h2⟩ i k a b hk ha hb
    have hi := (List.getElem?_eq_some_iff.1 ha).1
    rw [List.length_append, List.length_singleton] at hi
    rw [List.getElem?_append_left (by omega)] at hb
    by_cases e : i < l.length
    · rw [List.getElem?_append_left e] at ha
      exact h1 i k a b hk ha hb
    · obtain rfl : i = l.length := by omega
      simp at ha
      subst ha
      exact h2 b (List.mem_of_getElem? hb)
theorem pairs_nil (r : Nat → Int) : Pairs r [] := fun i k a b _ ha _ => by simp at ha
theorem wAll_append (l : List Gar) (x : Gar) : wAll (l ++ [x]) = wAll l + x.g := by simp [wAll]
theorem withL_pairs (r : Nat → Int) (gs : List Gar) (ls : List Int) (k : Int) : ∀ j, j ≤ gs.length → (Pairs r (withL gs ls k j) ↔ ∀ a b x y, b < a → a < j → ls[a]? = some k → ls[b]? = some k → gs[a]? = some x → gs[b]? = some y → meetB r x y = true)
  | 0, _ => ⟨fun _ a b x y _ h => absurd h (by omega), fun _ => pairs_nil r⟩
  | j + 1, hj => by
    have ih := withL_pairs r gs ls k j (by omega)
    obtain ⟨z, hz⟩ : ∃ z, gs[j]? = some z := ⟨gs[j]'(by omega), List.getElem?_eq_getElem _⟩
    unfold withL
    by_cases h : ls[j]? = some k
    · rw [if_pos h, hz, Option.toList_some, pairs_snoc, ih]
      constructor
      · rintro ⟨h1, h2⟩ a b x y hb ha la lb ga gb
        by_cases e : a = j
        · subst e
          rw [hz] at ga
          obtain rfl := Option.some.inj ga
          exact h2 y ((withL_mem gs ls k y _).2 ⟨b, hb, lb, gb⟩)
        · exact h1 a b x y hb (by omega) la lb ga gb
      · intro h1
        refine ⟨fun a b x y hb ha => h1 a b x y hb (by omega), fun y hy => ?_⟩
        obtain ⟨b, hb, lb, gb⟩ := (withL_mem gs ls k y _).1 hy
        exact h1 j b z y hb (by omega) h lb hz gb
    · rw [if_neg h, ih]
      constructor
      · intro h1 a b x y hb ha la
        by_cases e : a = j
        · subst e; exact absurd la h
        · exact h1 a b x y hb (by omega) la
      · intro h1 a b x y hb ha
        exact h1 a b x y hb (by omega)
theorem memb_filter (s : Nat) (p : Nat → Bool) (n : Nat) (hn : n ≤ 8) (h : ∀ i, i < 8 → s.testBit i = (decide (i < n) && p i)) : memb s = (List.range n).filter p := by
  unfold memb
  have e1 : (List.range 8).filter s.testBit = (List.range 8).filter (fun i => decide (i < n) && p i) := List.filter_congr fun i hi => h i (by simpa using hi)
  rw [e1]
  obtain ⟨m, hm⟩ : ∃ m, 8 = n + m := ⟨8 - n, by omega⟩
  have e3 : List.range 8 = List.range n ++ (List.range m).map (n + ·) := by rw [hm, List.range_add]
  rw [e3, List.filter_append]
  have e2 : ((List.range m).map (n + ·)).filter (fun i => decide (i < n) && p i) = [] := by
    rw [List.filter_eq_nil_iff]
    intro a ha
    obtain ⟨b, _, rfl⟩ := List.mem_map.1 ha
    simp [show ¬ n + b < n by omega]
  rw [e2, List.append_nil]
  exact List.filter_congr fun i hi => by simp at hi; simp [hi]
theorem memb_setK (ls : List Int) (k : Int) (n : Nat) (hn : n ≤ 8) : memb (setK ls k n) = (List.range n).filter (fun i => decide (ls[i]? = some k)) :=
  memb_filter _ _ n hn fun i _ => setK_bit ls k n i
theorem wSum_with (gs : List Gar) (ls : List Int) (k : Int) : ∀ n, n ≤ gs.length → wSum gs ((List.range n).filter (fun i => decide (ls[i]? = some k))) = wAll (withL gs ls k n)
  | 0, _ => rfl
  | n + 1, hn => by
    have ih := wSum_with gs ls k n (by omega)
    obtain ⟨z, hz⟩ : ∃ z, gs[n]? = some z := ⟨gs[n]'(by omega), List.getElem?_eq_getElem _⟩
    rw [List.range_succ, List.filter_append]
    unfold withL
    by_cases h : ls[n]? = some k
    · rw [if_pos h, hz, Option.toList_some, wAll_append, ← ih]
      simp only [List.filter_cons, List.filter_nil, h, decide_true, if_true]
      rw [wSum_snoc, wAt, hz]
      rfl
    · rw [if_neg h, ← ih]
      simp [List.filter_cons, h]
/-- what isLoad says of any set -/
theorem isLoadB_iff {r : Nat → Int} {gs : List Gar} {m : Nat → Int} (hm : Meets r gs m) (hold : Int) (s : Nat) (hs : s < 256) (hin : ∀ i, i < 8 → s.testBit i = true → i < gs.length) :
    isLoadB gs m hold s = true ↔ s ≠ 0 ∧ (∀ i k x y, s.testBit i = true → s.testBit k = true → gs[i]? = some x → gs[k]? = some y → meetB r x y = true) ∧ wSum gs (memb s) ≤ hold := by
  have h8 : ∀ i, s.testBit i = true → i < 8 := fun i h => by
    apply Classical.byContradiction
    intro h1
    rw [Nat.testBit_lt_two_pow (Nat.lt_of_lt_of_le hs (Nat.pow_le_pow_right (show 0 < 2 by decide) (show 8 ≤ i by omega)))] at h
    cases h
  have hall : (∀ i ∈ memb s, offB m s i = 0) ↔ ∀ i k x y, s.testBit i = true → s.testBit k = true → gs[i]? = some x → gs[k]? = some y → meetB r x y = true := by
    have each : ∀ i x, gs[i]? = some x → (offB m s i = 0 ↔ ∀ k y, s.testBit k = true → gs[k]? = some y → meetB r x y = true) := fun i x hx => by
      obtain ⟨l1, l2⟩ := hm.lo i
      have e := u8_andNot (s : Int) (m i) (by omega) (by omega) l1 l2
      have e2 : offB m s i = ((s &&& (255 - (m i).toNat) : Nat) : Int) := by simpa using e
      rw [e2, Int.natCast_eq_zero, off_zero _ _ hs (by omega)]
      constructor
      · intro h k y hk hy
        obtain ⟨z, hz, hm2⟩ := (hm.bit i x k hx).1 (h k (h8 k hk) hk)
        rw [hy] at hz
        rw [Option.some.inj hz]
        exact hm2
      · intro h k hk hb
        have hkn := hin k hk hb
        exact (hm.bit i x k hx).2 ⟨gs[k]'hkn, List.getElem?_eq_getElem _, h k _ hb (List.getElem?_eq_getElem _)⟩
    constructor
    · intro h i k x y hi hk hx hy
      exact (each i x hx).1 (h i (memb_mem.2 ⟨h8 i hi, hi⟩)) k y hk hy
    · intro h i hi
      obtain ⟨h1, h2⟩ := memb_mem.1 hi
      have hx : gs[i]? = some (gs[i]'(hin i h1 h2)) := List.getElem?_eq_getElem _
      exact (each i _ hx).2 fun k y hk hy => h i k _ y h2 hk hx hy
  rw [isLoadB, Bool.and_eq_true, Bool.and_eq_true, List.all_eq_true]
  have h1 : (∀ i ∈ memb s, (offB m s i == 0) = true) ↔ ∀ i k x y, s.testBit i = true → s.testBit k = true → gs[i]? = some x → gs[k]? = some y → meetB r x y = true := by
    rw [← hall]
    exact ⟨fun h i hi => by simpa using h i hi, fun h i hi => by simpa using h i hi⟩
  rw [h1]
  constructor
  · rintro ⟨a, b, c⟩
    exact ⟨by simpa using b, a, by simpa using c⟩
  · rintro ⟨a, b, c⟩
    exact ⟨b, by simpa using a, by simpa using c⟩
theorem isLoadB_set {r : Nat → Int} {gs : List Gar} {m : Nat → Int} (hm : Meets r gs m) (hold : Int) (ls : List Int) (k : Int) (n : Nat) (hn : n ≤ 8) (hng : n ≤ gs.length) (hsy : ∀ x y, x ∈ gs → y ∈ gs → meetB r x y = meetB r y x) (hre : ∀ x ∈ gs, meetB r x x = true) :
    isLoadB gs m hold (setK ls k n) = true ↔ setK ls k n ≠ 0 ∧ Pairs r (withL gs ls k n) ∧ wAll (withL gs ls k n) ≤ hold := by
  rw [isLoadB_iff hm hold _ (setK_lt ls k n hn) (fun i h1 h2 => Nat.lt_of_lt_of_le (setK_in ls k n i h1 h2) hng), memb_setK ls k n hn, wSum_with gs ls k n hng, withL_pairs r gs ls k n hng]
  have e : (∀ i k' x y, (setK ls k n).testBit i = true → (setK ls k n).testBit k' = true → gs[i]? = some x → gs[k']? = some y → meetB r x y = true) ↔
      ∀ a b x y, b < a → a < n → ls[a]? = some k → ls[b]? = some k → gs[a]? = some x → gs[b]? = some y → meetB r x y = true := by
    have bit : ∀ i, (setK ls k n).testBit i = true ↔ i < n ∧ ls[i]? = some k := fun i => by rw [setK_bit]; simp
    constructor
    · intro h a b x y hb ha la lb
      exact h a b x y ((bit a).2 ⟨ha, la⟩) ((bit b).2 ⟨by omega, lb⟩)
    · intro h i j x y hi hj gi gj
      obtain ⟨i1, i2⟩ := (bit i).1 hi
      obtain ⟨j1, j2⟩ := (bit j).1 hj
      rcases Nat.lt_trichotomy j i with h1 | h1 | h1
      · exact h i j x y h1 i1 i2 j2 gi gj
      · subst h1
        rw [gi] at gj
        rw [← Option.some.inj gj]
        exact hre _ (List.mem_of_getElem? gi)
      · rw [hsy _ _ (List.mem_of_getElem? gi) (List.mem_of_getElem? gj)]
        exact h j i y x h1 j1 j2 i2 gj gi
  rw [e]
theorem setK_none (gs : List Gar) (ls : List Int) (k : Int) : ∀ n, setK ls k n = 0 → withL gs ls k n = []
  | 0, _ => rfl
  | n + 1, h => by
    unfold setK at h
    unfold withL
    by_cases e : ls[n]? = some k
    · rw [if_pos e] at h
      have h1 := congrArg (fun x => x.testBit n) h
      simp [Nat.testBit_or, Nat.testBit_two_pow] at h1
    · rw [if_neg e] at h ⊢
      exact setK_none gs ls k n h
/-- are loads right -/
def Right (r : Nat → Int) (gs : List Gar) (hold : Int) (ls : List Int) : Prop := ls.length = gs.length ∧ (∀ x ∈ ls, 0 ≤ x ∧ x < 8) ∧ ∀ k : Nat, k < 8 → Pairs r (withL gs ls k gs.length) ∧ wAll (withL gs ls k gs.length) ≤ hold
/-- as the program looks at it -/
def RightB (gs : List Gar) (m : Nat → Int) (hold : Int) (ls : List Int) : Prop := ls.length = gs.length ∧ (∀ x ∈ ls, 0 ≤ x ∧ x < 8) ∧ ∀ k : Nat, k < 8 → setK ls k gs.length = 0 ∨ isLoadB gs m hold (setK ls k gs.length) = true
theorem right_iff {r : Nat → Int} {gs : List Gar} {m : Nat → Int} (hm : Meets r gs m) (hold : Int) (h0 : 0 ≤ hold) (ls : List Int) (hn : gs.length ≤ 8) (hsy : ∀ x y, x ∈ gs → y ∈ gs → meetB r x y = meetB r y x) (hre : ∀ x ∈ gs, meetB r x x = true) : RightB gs m hold ls ↔ Right r gs hold ls := by
  unfold RightB Right
  refine and_congr_right fun _ => and_congr_right fun _ => forall_congr' fun k => imp_congr_right fun _ => ?_
  rw [isLoadB_set hm hold ls k gs.length hn (Nat.le_refl _) hsy hre]
  constructor
  · rintro (h | h)
    · rw [setK_none gs ls k _ h]
      exact ⟨pairs_nil r, h0⟩
    · exact h.2
  · intro h
    by_cases e : setK ls k gs.length = 0
    · exact .inl e
    · exact .inr ⟨e, h⟩
end Go.Proofs.YtekigapeekjigaaDoor.mem
