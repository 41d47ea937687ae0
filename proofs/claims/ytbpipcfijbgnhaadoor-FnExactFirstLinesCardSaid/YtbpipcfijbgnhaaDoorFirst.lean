/-
  Cloths that are put onto the first line on which they fit, in plain words.
-/
import Derived.Test.YtbpipcfijbgnhaaDoorOnLine
import Derived.Test.YtbpipcfijbgnhaaDoorRackNew
namespace Go.Proofs.YtbpipcfijbgnhaaDoor.hang
open Go.RowKit sl errs

/-- the first line from j on on which one cloth more fits -/
def leastJ (l : Lin) (rows : Nat → List Clo) (x : Clo) : Nat → Nat → Nat
  | 0, j => j
  | f + 1, j => if fitsB l (rows j ++ [x]) = true then j else leastJ l rows x f (j + 1)
theorem leastJ_eq {l : Lin} {rows : Nat → List Clo} {x : Clo} : ∀ {f b j : Nat}, (∀ i, b ≤ i → i < b + j → fitsB l (rows i ++ [x]) = false) → fitsB l (rows (b + j) ++ [x]) = true → j < f → leastJ l rows x f b = b + j
  | 0, _, j, _, _, h => absurd h (by omega)
  | f + 1, b, 0, _, hy, _ => by
    rw [Nat.add_zero] at hy
    rw [leastJ, if_pos hy]
    rfl
  | f + 1, b, j + 1, hn, hy, hj => by
    have h0 := hn b (Nat.le_refl _) (by omega)
    have e : b + (j + 1) = b + 1 + j := by omega
    rw [e] at hy
    rw [leastJ, if_neg (by rw [h0]; decide), leastJ_eq (fun i h1 h2 => hn i (by omega) (by omega)) hy (by omega)]
    omega
def firstStep (l : Lin) (zs : List (Int × Clo)) (x : Clo) : List (Int × Clo) := zs ++ [(((leastJ l (fun n => onZ zs n) x 8 0 : Nat) : Int), x)]
def firstZ (l : Lin) (xs : List Clo) : List (Int × Clo) := xs.foldl (firstStep l) []
theorem firstZ_take {l : Lin} {xs : List Clo} {k : Nat} {x : Clo} (hx : xs[k]? = some x) : firstZ l (xs.take (k + 1)) = firstStep l (firstZ l (xs.take k)) x := by
  rw [take_snoc hx]
  simp [firstZ]
theorem firstZ_len (l : Lin) (xs : List Clo) : (firstZ l xs).length = xs.length := by
  induction xs using snoc_ind with
  | h0 => rfl
  | h1 xs x ih =>
    have : firstZ l (xs ++ [x]) = firstStep l (firstZ l xs) x := by simp [firstZ]
    rw [this]
    simp [firstStep, ih]
theorem firstZ_snd (l : Lin) (xs : List Clo) : (firstZ l xs).map (·.2) = xs := by
  induction xs using snoc_ind with
  | h0 => rfl
  | h1 xs x ih =>
    have : firstZ l (xs ++ [x]) = firstStep l (firstZ l xs) x := by simp [firstZ]
    rw [this]
    simp [firstStep, ih]
/-- the numbers -/
def firstO (l : Lin) (xs : List Clo) : List Int := (firstZ l xs).map (·.1)
theorem firstO_len (l : Lin) (xs : List Clo) : (firstO l xs).length = xs.length := by simp [firstO, firstZ_len]
theorem firstO_zip (l : Lin) (xs : List Clo) (k : Nat) : (firstO l (xs.take k)).zip xs = firstZ l (xs.take k) := by
  have h := firstZ_snd l (xs.take k)
  have e : ∀ (zs : List (Int × Clo)) (ys : List Clo), (zs.map (·.1)).zip (zs.map (·.2) ++ ys) = zs := fun zs => by
    induction zs with
    | nil => intro ys; rfl
    | cons z r ih => intro ys; simp [ih]
  have e2 := e (firstZ l (xs.take k)) (xs.drop k)
  rw [h, List.take_append_drop] at e2
  exact e2
/-- so many lines are used, without a gap -/
structure Used (zs : List (Int × Clo)) (u : Nat) : Prop where
  lo : ∀ i : Nat, i < u → onZ zs i ≠ []
  hi : ∀ i : Nat, u ≤ i → onZ zs i = []
theorem Used.le {zs : List (Int × Clo)} {u : Nat} (h : Used zs u) : u ≤ zs.length := by
  have key : ∀ (u : Nat) (zs : List (Int × Clo)), (∀ i : Nat, i < u → onZ zs i ≠ []) → u ≤ zs.length := by
    intro u
    induction u with
    | zero => intros; omega
    | succ u ih =>
      intro zs hz
      have h1 := ih (zs.filter fun p => p.1 ≠ (u : Int)) (fun i hi hnil => hz i (by omega) (by
        unfold onZ at *
        rw [List.filterMap_filter] at hnil
        rw [List.filterMap_eq_nil_iff] at *
        intro p hp
        have := hnil p hp
        by_cases e : p.1 = (i : Int)
        · have hne : p.1 ≠ (u : Int) := by omega
          simp [e] at this
          omega
        · simp [e]))
      have h2 : (zs.filter fun p => p.1 ≠ (u : Int)).length < zs.length := by
        rcases Nat.lt_or_ge (zs.filter fun p => p.1 ≠ (u : Int)).length zs.length with h | h
        · exact h
        · exfalso
          have hall := List.filter_eq_self.1 (List.Sublist.eq_of_length_le List.filter_sublist h)
          refine hz u (by omega) ?_
          unfold onZ
          rw [List.filterMap_eq_nil_iff]
          intro p hp
          have := hall p hp
          simp at this
          simp [this]
      omega
  exact key u zs h.lo
/-- one cloth more -/
theorem Used.step {l : Lin} {zs : List (Int × Clo)} {u j : Nat} {x : Clo} (h : Used zs u) (hj : j ≤ u) : Used (zs ++ [((j : Int), x)]) (max u (j + 1)) := by
  refine ⟨fun i hi => ?_, fun i hi => ?_⟩
  · rw [onZ_snoc]
    by_cases e : (j : Int) = i
    · simp [e]
    · rw [if_neg e, List.append_nil]
      exact h.lo i (by omega)
  · rw [onZ_snoc, if_neg (by omega), List.append_nil]
    exact h.hi i (by omega)
theorem used_unique {zs : List (Int × Clo)} {u v : Nat} (h : Used zs u) (k : Used zs v) : u = v := by
  rcases Nat.lt_trichotomy u v with h1 | h1 | h1
  · exact absurd (h.hi u (Nat.le_refl _)) (k.lo u h1)
  · exact h1
  · exact absurd (k.hi v (Nat.le_refl _)) (h.lo v h1)
def aloneB (l : Lin) (xs : List Clo) : Bool := xs.all fun x => fitsB l [x]
theorem alone_at {l : Lin} {xs : List Clo} {k : Nat} {x : Clo} (h : aloneB l xs = true) (hx : xs[k]? = some x) : fitsB l [x] = true := List.all_eq_true.1 h x (List.mem_of_getElem? hx)
/-- the line of a cloth, found -/
theorem first_found {l : Lin} {zs : List (Int × Clo)} {u j : Nat} {x : Clo} (h : Used zs u) (hu : u ≤ 7) (hal : fitsB l [x] = true) (hn : ∀ i : Nat, i < j → fitsB l (onZ zs i ++ [x]) = false) (hj : j ≤ u) (hy : j < u → fitsB l (onZ zs j ++ [x]) = true) :
    leastJ l (fun n => onZ zs n) x 8 0 = j := by
  have hfit : fitsB l (onZ zs (0 + j : Nat) ++ [x]) = true := by
    rw [Nat.zero_add]
    rcases Nat.lt_or_ge j u with h1 | h1
    · exact hy h1
    · rw [h.hi j h1]
      exact hal
  have := leastJ_eq (rows := fun n => onZ zs n) (f := 8) (b := 0) (j := j) (fun i _ h2 => hn i (by omega)) hfit (by omega)
  omega
/-- no fit is found behind all lines that are used -/
theorem first_below {l : Lin} {zs : List (Int × Clo)} {u j : Nat} {x : Clo} (h : Used zs u) (hal : fitsB l [x] = true) (hn : ∀ i : Nat, i < j → fitsB l (onZ zs i ++ [x]) = false) : j ≤ u := by
  rcases Nat.lt_or_ge u j with h1 | h1
  · have := hn u h1
    rw [h.hi u (Nat.le_refl _)] at this
    have e : ([] : List Clo) ++ [x] = [x] := rfl
    rw [e, hal] at this
    cases this
  · exact h1
theorem leastJ_le {l : Lin} {rows : Nat → List Clo} {x : Clo} : ∀ {f b u : Nat}, fitsB l (rows (b + u) ++ [x]) = true → u < f → leastJ l rows x f b ≤ b + u
  | 0, _, u, _, h => absurd h (by omega)
  | f + 1, b, u, hy, hu => by
    rw [leastJ]
    split
    · omega
    · cases u with
      | zero =>
        rename_i h
        exact absurd hy h
      | succ u =>
        have e : b + (u + 1) = b + 1 + u := by omega
        rw [e] at hy ⊢
        exact leastJ_le hy (by omega)
theorem firstZ_snoc (l : Lin) (xs : List Clo) (x : Clo) : firstZ l (xs ++ [x]) = firstStep l (firstZ l xs) x := by simp [firstZ]
theorem firstZ_pre (l : Lin) (xs : List Clo) (k : Nat) (hk : k ≤ xs.length) : (firstZ l xs).take k = firstZ l (xs.take k) := by
  induction xs using snoc_ind with
  | h0 => simp [firstZ]
  | h1 xs x ih =>
    rcases Nat.lt_or_ge xs.length k with h | h
    · have e : k = (xs ++ [x]).length := by simp at hk ⊢; omega
      rw [List.take_of_length_le (by rw [firstZ_len]; omega), List.take_of_length_le (by omega)]
    · rw [firstZ_snoc, firstStep, List.take_append_of_le_length (by rw [firstZ_len]; exact h), ih h, List.take_append_of_le_length h]
theorem firstO_at {l : Lin} {xs : List Clo} {k j : Nat} {x : Clo} (hx : xs[k]? = some x) (hj : leastJ l (fun n => onZ (firstZ l (xs.take k)) n) x 8 0 = j) : (firstO l xs)[k]? = some (j : Int) := by
  have hk : k < xs.length := (List.getElem?_eq_some_iff.1 hx).1
  have h1 := firstZ_pre l xs (k + 1) hk
  rw [firstZ_take hx] at h1
  have h2 : ((firstZ l xs).take (k + 1))[k]? = (firstZ l xs)[k]? := by simp
  rw [h1, firstStep, List.getElem?_append_right (by rw [firstZ_len, List.length_take]; omega)] at h2
  have e : k - (firstZ l (xs.take k)).length = 0 := by rw [firstZ_len, List.length_take]; omega
  rw [e] at h2
  simp only [firstO, List.getElem?_map, ← h2, hj]
  rfl
theorem used_exists {l : Lin} {xs : List Clo} (hal : aloneB l xs = true) (hn : xs.length ≤ 7) : ∃ u, Used (firstZ l xs) u := by
  induction xs using snoc_ind with
  | h0 => exact ⟨0, fun i hi => absurd hi (by omega), fun i _ => rfl⟩
  | h1 xs x ih =>
    have hal2 : aloneB l xs = true := by
      simp [aloneB] at hal ⊢
      exact hal.1
    have hx : fitsB l [x] = true := by
      simp [aloneB] at hal
      exact hal.2
    obtain ⟨u, hu⟩ := ih hal2 (by simp at hn; omega)
    have hul := hu.le
    rw [firstZ_len] at hul
    refine ⟨max u (leastJ l (fun n => onZ (firstZ l xs) n) x 8 0 + 1), ?_⟩
    rw [firstZ_snoc, firstStep]
    refine Used.step (l := l) hu ?_
    have := leastJ_le (l := l) (rows := fun n => onZ (firstZ l xs) n) (x := x) (f := 8) (b := 0) (u := u) (by
      rw [Nat.zero_add, hu.hi u (Nat.le_refl _)]
      exact hx) (by simp at hn; omega)
    omega
end Go.Proofs.YtbpipcfijbgnhaaDoor.hang
