/-
  Cloths on a line, in plain words: which neighbours share a peg, where each one hangs, how many pegs are needed, how a line sags; no program in it.
-/
import Derived.Test.YtekigapeekjigaaDoorCloS
import Derived.Test.YtekigapeekjigaaDoorLinS
namespace Go.Proofs.YtekigapeekjigaaDoor.hang
open Go.RowKit

def Clo.valid (x : Clo) : Bool := decide (4 ≤ x.wide) && (decide (x.wide ≤ 200) && (decide (1 ≤ x.heavy) && decide (x.heavy ≤ 500)))
def Lin.valid (x : Lin) : Bool := decide (4 ≤ x.long) && (decide (x.long ≤ 2000) && (decide (1 ≤ x.most) && decide (x.most ≤ 2000)))
theorem clo_parts {x : Clo} (h : Clo.valid x = true) : 4 ≤ x.wide ∧ x.wide ≤ 200 ∧ 1 ≤ x.heavy ∧ x.heavy ≤ 500 := by
  simpa [Clo.valid, and_assoc] using h
theorem lin_parts {x : Lin} (h : Lin.valid x = true) : 4 ≤ x.long ∧ x.long ≤ 2000 ∧ 1 ≤ x.most ∧ x.most ≤ 2000 := by
  simpa [Lin.valid, and_assoc] using h
/-- do two neighbours share a peg -/
def shares (a b : Clo) : Bool := decide (a.heavy + b.heavy ≤ 120)
def gapOf : Option Clo → Clo → Int
  | none, _ => 0
  | some p, c => if shares p c = true then -2 else 1
def pegOf : Option Clo → Clo → Int
  | none, _ => 2
  | some p, c => if shares p c = true then 1 else 2
/-- what hangs: the last one, where it ends, where each one begins, how many pegs -/
structure Hung where
  last : Option Clo
  fin : Int
  places : List Int
  pegs : Int
def Hung.place (h : Hung) (c : Clo) : Int := h.fin + gapOf h.last c
def Hung.step (h : Hung) (c : Clo) : Hung := ⟨some c, h.place c + c.wide, h.places ++ [h.place c], h.pegs + pegOf h.last c⟩
def Hung.none : Hung := ⟨Option.none, 0, [], 0⟩
def hung (xs : List Clo) : Hung := xs.foldl Hung.step Hung.none
theorem hung_nil : hung [] = Hung.none := rfl
theorem hung_snoc (xs : List Clo) (c : Clo) : hung (xs ++ [c]) = (hung xs).step c := by simp [hung]
theorem hung_take {xs : List Clo} {k : Nat} {x : Clo} (hx : xs[k]? = some x) : hung (xs.take (k + 1)) = (hung (xs.take k)).step x := by rw [take_snoc hx, hung_snoc]
theorem snoc_ind {α : Type} {P : List α → Prop} (h0 : P []) (h1 : ∀ xs x, P xs → P (xs ++ [x])) (xs : List α) : P xs := by
  have : ∀ ys : List α, P ys.reverse := fun ys => by
    induction ys with
    | nil => exact h0
    | cons y r ih => rw [List.reverse_cons]; exact h1 _ _ ih
  rw [← List.reverse_reverse xs]
  exact this _
theorem hung_last (xs : List Clo) : (hung xs).last = xs.getLast? := by
  induction xs using snoc_ind with
  | h0 => rfl
  | h1 xs x _ => rw [hung_snoc]; simp [Hung.step]
theorem hung_len (xs : List Clo) : (hung xs).places.length = xs.length := by
  induction xs using snoc_ind with
  | h0 => rfl
  | h1 xs x ih => rw [hung_snoc]; simp [Hung.step, ih]
theorem gap_bd (p : Option Clo) (c : Clo) : -2 ≤ gapOf p c ∧ gapOf p c ≤ 1 := by
  cases p with
  | none => simp only [gapOf]; omega
  | some p => simp only [gapOf]; split <;> omega
theorem peg_bd (p : Option Clo) (c : Clo) : 1 ≤ pegOf p c ∧ pegOf p c ≤ 2 := by
  cases p with
  | none => simp only [pegOf]; omega
  | some p => simp only [pegOf]; split <;> omega
theorem hung_bd (xs : List Clo) (hv : ∀ x ∈ xs, Clo.valid x = true) : 0 ≤ (hung xs).fin ∧ (hung xs).fin ≤ 201 * xs.length ∧ (xs ≠ [] → 4 ≤ (hung xs).fin) ∧ 0 ≤ (hung xs).pegs ∧ (hung xs).pegs ≤ 2 * xs.length := by
  induction xs using snoc_ind with
  | h0 => exact ⟨by decide, by decide, fun h => absurd rfl h, by decide, by decide⟩
  | h1 xs x ih =>
    obtain ⟨h0, h1, h2, h3, h4⟩ := ih (fun y hy => hv y (List.mem_append_left _ hy))
    obtain ⟨w0, w1, _, _⟩ := clo_parts (hv x (by simp))
    have g := gap_bd (hung xs).last x
    have p := peg_bd (hung xs).last x
    have e : ((xs ++ [x]).length : Int) = xs.length + 1 := by simp
    have e2 : (hung (xs ++ [x])).fin = (hung xs).fin + gapOf (hung xs).last x + x.wide := by rw [hung_snoc]; rfl
    have e3 : (hung (xs ++ [x])).pegs = (hung xs).pegs + pegOf (hung xs).last x := by rw [hung_snoc]; rfl
    rw [e2, e3, e]
    have h4' : 4 ≤ (hung xs).fin + gapOf (hung xs).last x + x.wide := by
      by_cases hx : xs = []
      · subst hx
        have : gapOf (hung []).last x = 0 := rfl
        have f0 : (hung []).fin = 0 := rfl
        rw [this, f0]
        omega
      · have := h2 hx
        omega
    exact ⟨by omega, by omega, fun _ => h4', by omega, by omega⟩
theorem place_bd (xs : List Clo) (hv : ∀ x ∈ xs, Clo.valid x = true) (c : Clo) : 0 ≤ (hung xs).place c ∧ (hung xs).place c ≤ 201 * xs.length + 1 := by
  obtain ⟨h0, h1, h2, _, _⟩ := hung_bd xs hv
  have g := gap_bd (hung xs).last c
  unfold Hung.place
  by_cases hx : xs = []
  · subst hx
    have : gapOf (hung []).last c = 0 := rfl
    rw [this]
    omega
  · have := h2 hx
    omega
def heavyOf (xs : List Clo) : Int := xs.foldl (fun s c => s + c.heavy) 0
theorem heavy_snoc (xs : List Clo) (c : Clo) : heavyOf (xs ++ [c]) = heavyOf xs + c.heavy := by simp [heavyOf]
theorem heavy_take {xs : List Clo} {k : Nat} {x : Clo} (hx : xs[k]? = some x) : heavyOf (xs.take (k + 1)) = heavyOf (xs.take k) + x.heavy := by rw [take_snoc hx, heavy_snoc]
theorem heavy_bd (xs : List Clo) (hv : ∀ x ∈ xs, x.Fits) : -32768 * xs.length ≤ heavyOf xs ∧ heavyOf xs ≤ 32767 * xs.length := by
  induction xs using snoc_ind with
  | h0 => exact ⟨by decide, by decide⟩
  | h1 xs x ih =>
    obtain ⟨h0, h1⟩ := ih (fun y hy => hv y (List.mem_append_left _ hy))
    have hf := hv x (by simp)
    have := hf.heavy0
    have := hf.heavy1
    have e : ((xs ++ [x]).length : Int) = xs.length + 1 := by simp
    rw [heavy_snoc, e]
    omega
/-- do cloths fit on a line -/
def fitsB (l : Lin) (xs : List Clo) : Bool := decide ((hung xs).fin ≤ l.long) && decide (heavyOf xs ≤ l.most)
/-- the code of cloths of which there are at most so many -/
def codeMany (xs : List Clo) (most : Nat) : Nat := if xs.all Clo.valid = true then (if most < xs.length then 3 else 0) else 1
end Go.Proofs.YtekigapeekjigaaDoor.hang
