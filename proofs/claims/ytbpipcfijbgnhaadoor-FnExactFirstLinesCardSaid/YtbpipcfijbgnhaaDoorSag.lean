/-
  How a line sags, in plain words; and the contracts of the program's and the model's functions that tell it.
-/
import Derived.Test.YtbpipcfijbgnhaaDoorCFitsLine
namespace Go.Proofs.YtbpipcfijbgnhaaDoor.hang
open Go.RowKit sl errs

def sagM (h : Hung) (c : Clo) : Int := 2 * h.place c + c.wide
def sagT (l : Lin) (h : Hung) (c : Clo) : Int := c.heavy * min (sagM h c) (2 * l.long - sagM h c) / (2 * l.long)
def sagP (l : Lin) (xs : List Clo) : Hung × Int := xs.foldl (fun s c => (s.1.step c, s.2 + sagT l s.1 c)) (Hung.none, 0)
def sagL (l : Lin) (xs : List Clo) : Int := (sagP l xs).2
theorem sagP_hung (l : Lin) (xs : List Clo) : (sagP l xs).1 = hung xs := by
  induction xs using snoc_ind with
  | h0 => rfl
  | h1 xs x ih =>
    rw [hung_snoc, ← ih]
    simp [sagP]
theorem sag_snoc (l : Lin) (xs : List Clo) (c : Clo) : sagL l (xs ++ [c]) = sagL l xs + sagT l (hung xs) c := by
  rw [← sagP_hung l xs]
  simp [sagL, sagP]
theorem sag_take {l : Lin} {xs : List Clo} {k : Nat} {x : Clo} (hx : xs[k]? = some x) : sagL l (xs.take (k + 1)) = sagL l (xs.take k) + sagT l (hung (xs.take k)) x := by
  rw [take_snoc hx, sag_snoc]
theorem hung_mono (xs ys : List Clo) (hv : ∀ x ∈ ys, Clo.valid x = true) : (hung xs).fin ≤ (hung (xs ++ ys)).fin := by
  induction ys using snoc_ind with
  | h0 => simp
  | h1 ys y ih =>
    have h := ih (fun x hx => hv x (List.mem_append_left _ hx))
    obtain ⟨y0, _, _, _⟩ := clo_parts (hv y (by simp))
    have g := gap_bd (hung (xs ++ ys)).last y
    have e : (hung (xs ++ (ys ++ [y]))).fin = (hung (xs ++ ys)).fin + gapOf (hung (xs ++ ys)).last y + y.wide := by
      rw [← List.append_assoc, hung_snoc]
      rfl
    omega
theorem hung_pre (xs : List Clo) (k : Nat) (hv : ∀ x ∈ xs, Clo.valid x = true) : (hung (xs.take k)).fin ≤ (hung xs).fin := by
  have h := hung_mono (xs.take k) (xs.drop k) (fun x hx => hv x (List.mem_of_mem_drop hx))
  rwa [List.take_append_drop] at h
theorem places_get {xs : List Clo} {k : Nat} {x : Clo} (hx : xs[k]? = some x) : (hung xs).places[k]? = some ((hung (xs.take k)).place x) := by
  induction xs using snoc_ind with
  | h0 => simp at hx
  | h1 xs c ih =>
    have e : (hung (xs ++ [c])).places = (hung xs).places ++ [(hung xs).place c] := by rw [hung_snoc]; rfl
    have hl := hung_len xs
    rw [e]
    rcases Nat.lt_or_ge k xs.length with h | h
    · rw [List.getElem?_append_left h] at hx
      rw [List.getElem?_append_left (by omega), ih hx, List.take_append_of_le_length (by omega)]
    · have hk : k = xs.length := by
        have := (List.getElem?_eq_some_iff.1 hx).1
        simp at this
        omega
      subst hk
      have hc : c = x := by simpa using hx
      subst hc
      rw [List.getElem?_append_right (by omega), hl]
      simp
/-- what a round of the sum needs -/
theorem sag_bd {l : Lin} {xs : List Clo} {k : Nat} {x : Clo} (hx : xs[k]? = some x) (hl : Lin.valid l = true) (hv : ∀ x ∈ xs, Clo.valid x = true) (hfit : (hung xs).fin ≤ l.long) :
    0 ≤ (hung (xs.take k)).place x ∧ (hung (xs.take k)).place x + x.wide ≤ l.long ∧ 0 ≤ sagT l (hung (xs.take k)) x ∧ sagT l (hung (xs.take k)) x ≤ 500 := by
  obtain ⟨p0, _⟩ := place_bd (xs.take k) (fun y hy => hv y (List.mem_of_mem_take hy)) x
  have hp := hung_pre xs (k + 1) hv
  have e : (hung (xs.take (k + 1))).fin = (hung (xs.take k)).place x + x.wide := by rw [hung_take hx]; rfl
  obtain ⟨x0, x1, x2, x3⟩ := clo_parts (hv x (List.mem_of_getElem? hx))
  obtain ⟨l0, l1, _, _⟩ := lin_parts hl
  have hm : 0 ≤ min (sagM (hung (xs.take k)) x) (2 * l.long - sagM (hung (xs.take k)) x) := by unfold sagM; omega
  have hm2 : min (sagM (hung (xs.take k)) x) (2 * l.long - sagM (hung (xs.take k)) x) ≤ 2 * l.long := by unfold sagM; omega
  refine ⟨p0, by omega, ?_, ?_⟩
  · exact Int.ediv_nonneg (Int.mul_nonneg (by omega) hm) (by omega)
  · unfold sagT
    have h1 : x.heavy * min (sagM (hung (xs.take k)) x) (2 * l.long - sagM (hung (xs.take k)) x) ≤ 500 * (2 * l.long) := Int.mul_le_mul x3 hm2 hm (by omega)
    exact Int.ediv_le_of_le_mul (by omega) h1
theorem sagL_bd (l : Lin) (xs : List Clo) (k : Nat) (hl : Lin.valid l = true) (hv : ∀ x ∈ xs, Clo.valid x = true) (hfit : (hung xs).fin ≤ l.long) : 0 ≤ sagL l (xs.take k) ∧ sagL l (xs.take k) ≤ 500 * k := by
  induction k with
  | zero =>
    have e : sagL l (xs.take 0) = 0 := rfl
    rw [e]
    omega
  | succ k ih =>
    rcases Nat.lt_or_ge k xs.length with h | h
    · have hx : xs[k]? = some xs[k] := List.getElem?_eq_getElem h
      obtain ⟨_, _, t0, t1⟩ := sag_bd hx hl hv hfit
      rw [sag_take hx]
      omega
    · rw [List.take_of_length_le (by omega)]
      rw [List.take_of_length_le (by omega)] at ih
      omega
/-- one term, written out -/
theorem sag_term (l : Lin) (h : Hung) (c : Clo) (p : Int) (hp : h.place c = p) : sagT l h c = c.heavy * min (2 * p + c.wide) (2 * l.long - (2 * p + c.wide)) / (2 * l.long) := by
  subst hp
  rfl
theorem l00Min_any (a b : Int) (w : World) :
    Calls Tryd.prog 87 #[.int .i64 a, .int .i64 b] w fun o w' => o = .returned (.int .i64 (min a b)) ∧ w' = w := by
  by_cases h : a < b
  · go_enter Tryd.func87, Tryd.ntmps87
    go_wp2_with fail
    go_ret
    exact ⟨ret_int (by omega), rfl⟩
  · go_enter Tryd.func87, Tryd.ntmps87
    go_wp2_with fail
    go_ret
    exact ⟨ret_int (by omega), rfl⟩
theorem l00Min_v (a b d : Int) (h : min a b = d) (w : World) :
    Calls Tryd.prog 87 #[.int .i64 a, .int .i64 b] w fun o w' => o = .returned (.int .i64 d) ∧ w' = w := by
  subst h
  exact l00Min_any a b w
end Go.Proofs.YtbpipcfijbgnhaaDoor.hang
