/-
  Cupboards read from a text: pure.
-/
import Derived.Test.YtjfimmfnhlimkaaDoorJoin36
import Derived.Test.YtjfimmfnhlimkaaDoorCupTx
import Derived.Test.YtjfimmfnhlimkaaDoorJoin35
namespace Go.Proofs.YtjfimmfnhlimkaaDoor.rd
open Go Go.RowKit sl dec txt cup cupt

theorem rowT_dg (xs : List Int) : rowT xs = Lib.join (xs.map dgU) [44] := rfl
theorem rowT_no47 (xs : List Int) : (47 : UInt8) ∉ rowT xs := by
  rw [rowT_dg]
  refine join_noB (by decide) fun l hl => ?_
  obtain ⟨x, _, rfl⟩ := List.mem_map.1 hl
  exact dgU_no 47 rfl x
theorem rowT_ne {xs : List Int} (h : xs ≠ []) : rowT xs ≠ [] := by
  intro e
  have h1 := (split_iff (dgU_no 44 rfl) h (t := rowT xs)).2 (rowT_dg xs)
  rw [e] at h1
  have h2 : splitB 44 [] = [[]] := rfl
  rw [h2] at h1
  cases xs with
  | nil => exact h rfl
  | cons x r =>
    rw [List.map_cons, List.cons.injEq] at h1
    exact (dec_props x.toNat).2.2.1 h1.1.symm
/-- what the model reads of a part -/
def numI (t : List UInt8) : Option Int := match numO t with | some n => some (n : Int) | none => none
def numU (t : List UInt8) : Option (List Int) := if t = [] then some [] else readL numI (splitB 44 t)
/-- what is read kindly -/
def kindU (t : List UInt8) : Option (List (List Int)) := match readL kindI (splitB 47 t) with
  | some D => if D.length ≤ 6 then some D else none
  | none => none
/-- whether a cupboard is right -/
noncomputable def cupB (D : List (List Int)) : Bool := @decide (CupOk D) (Classical.propDecidable _)
theorem cupB_iff (D : List (List Int)) : cupB D = true ↔ CupOk D := by
  unfold cupB
  exact @decide_eq_true_iff _ (Classical.propDecidable _)
/-- its text -/
noncomputable def cupText (D : List (List Int)) : ByteArray := if cupB D = true then bsJ (cupT D) else ⟨#[]⟩
/-- what the program reads -/
noncomputable def progU (t : List UInt8) : Option (List (List Int)) := match kindU t with
  | some D => if cupText D = bsJ t then some D else none
  | none => none
/-- what the model reads -/
noncomputable def specU (t : List UInt8) : Option (List (List Int)) := match readL numU (splitB 47 t) with
  | some D => if cupB D = true then some D else none
  | none => none
theorem numI_some {p : List UInt8} {x : Int} (h : numI p = some x) : p = dgU x ∧ 0 ≤ x ∧ x < 1000000000 := by
  rw [numI] at h
  cases hn : numO p with
  | none => rw [hn] at h; cases h
  | some n =>
    rw [hn] at h
    obtain rfl := Option.some.inj h
    obtain ⟨h1, h2⟩ := numO_iff.1 hn
    exact ⟨h1, by omega, by omega⟩
theorem numI_dg {x : Int} (h : 0 ≤ x ∧ x ≤ 999) : numI (dgU x) = some x := by
  rw [numI, (numO_iff (l := dgU x) (n := x.toNat)).2 ⟨rfl, by omega⟩]
  simp only
  congr 1
  omega
theorem kindI_row {xs : List Int} (h8 : xs.length ≤ 8) (h : ∀ x ∈ xs, 0 ≤ x ∧ x ≤ 999) : kindI (rowT xs) = some xs := by
  rw [kindI]
  by_cases he : xs = []
  · subst he
    rfl
  · rw [if_neg (rowT_ne he), (split_iff (dgU_no 44 rfl) he).2 (rowT_dg xs), readL_map fun x hx => ?_]
    · simp only
      rw [if_pos h8]
    · have h1 := h x hx
      rw [dgU, intK_dec (B := 64) (by omega) (by omega) (by omega)]
      congr 1
      omega
theorem numU_row {xs : List Int} (h : ∀ x ∈ xs, 0 ≤ x ∧ x ≤ 999) : numU (rowT xs) = some xs := by
  rw [numU]
  by_cases he : xs = []
  · subst he
    rfl
  · rw [if_neg (rowT_ne he), (split_iff (dgU_no 44 rfl) he).2 (rowT_dg xs), readL_map fun x hx => numI_dg (h x hx)]
theorem numU_some {t : List UInt8} {xs : List Int} (h : numU t = some xs) : t = rowT xs := by
  rw [numU] at h
  by_cases ht : t = []
  · rw [if_pos ht] at h
    obtain rfl := Option.some.inj h
    exact ht
  · rw [if_neg ht] at h
    have h1 := readL_of (fun p x hp => (numI_some hp).1) h
    have hE : xs ≠ [] := fun e => by
      rw [e] at h1
      exact splitB_ne 44 t h1
    rw [rowT_dg]
    exact (split_iff (dgU_no 44 rfl) hE).1 h1
theorem cup_one : CupOk [[]] := ⟨by decide, by decide, fun xs hx => by rw [List.mem_singleton.1 hx]; decide, Fine.nil⟩
theorem cup_rows {D : List (List Int)} (h : CupOk D) {xs : List Int} (hx : xs ∈ D) : ∀ x ∈ xs, 0 ≤ x ∧ x ≤ 999 := fun _x hm => cup_rg h hx hm
theorem cup_ne {D : List (List Int)} (h : CupOk D) : D ≠ [] := fun e => by have := h.pos; rw [e] at this; simp at this
theorem progU_eq (t : List UInt8) : progU t = specU t := by
  apply Option.ext
  intro D
  rw [progU, specU]
  constructor
  · intro h
    cases hk : kindU t with
    | none => rw [hk] at h; cases h
    | some E =>
      rw [hk] at h
      simp only at h
      by_cases hc : cupText E = bsJ t
      · rw [if_pos hc] at h
        obtain rfl := Option.some.inj h
        have hok : cupB E = true := by
          apply Decidable.byContradiction
          intro hn
          rw [cupText, if_neg hn] at hc
          have ht : t = [] := (bsJ_inj (a := []) hc).symm
          subst ht
          have e1 : kindU [] = some [[]] := rfl
          rw [e1] at hk
          obtain rfl := Option.some.inj hk
          exact hn ((cupB_iff _).2 cup_one)
        have hC := (cupB_iff _).1 hok
        rw [cupText, if_pos hok] at hc
        have h3 := (split_iff rowT_no47 (cup_ne hC)).2 (bsJ_inj hc).symm
        rw [h3, readL_map fun xs hx => numU_row (cup_rows hC hx)]
        simp only
        rw [if_pos hok]
      · rw [if_neg hc] at h; cases h
  · intro h
    cases hr : readL numU (splitB 47 t) with
    | none => rw [hr] at h; cases h
    | some E =>
      rw [hr] at h
      simp only at h
      by_cases hok : cupB E = true
      · rw [if_pos hok] at h
        obtain rfl := Option.some.inj h
        have hC := (cupB_iff _).1 hok
        have h1 := readL_of (fun p x hp => numU_some hp) hr
        have h2 := (split_iff rowT_no47 (cup_ne hC)).1 h1
        have hk : kindU t = some E := by
          rw [kindU, h1, readL_map fun xs hx => kindI_row (hC.high xs hx) (cup_rows hC hx)]
          simp only
          rw [if_pos hC.most]
        rw [hk]
        simp only
        rw [if_pos]
        rw [cupText, if_pos hok, h2]
        rfl
      · rw [if_neg hok] at h; cases h
/-- what is read kindly is small -/
theorem kindI_len {t : List UInt8} {xs : List Int} (h : kindI t = some xs) : xs.length ≤ 8 := by
  rw [kindI] at h
  by_cases ht : t = []
  · rw [if_pos ht] at h
    obtain rfl := Option.some.inj h
    simp
  · rw [if_neg ht] at h
    cases hr : readL (intK 64) (splitB 44 t) with
    | none => rw [hr] at h; cases h
    | some E =>
      rw [hr] at h
      simp only at h
      by_cases hl : E.length ≤ 8
      · rw [if_pos hl] at h
        obtain rfl := Option.some.inj h
        exact hl
      · rw [if_neg hl] at h; cases h
theorem kindU_len {t : List UInt8} {D : List (List Int)} (h : kindU t = some D) : D.length ≤ 6 ∧ ∀ xs ∈ D, xs.length ≤ 8 := by
  rw [kindU] at h
  cases hr : readL kindI (splitB 47 t) with
  | none => rw [hr] at h; cases h
  | some E =>
    rw [hr] at h
    simp only at h
    by_cases hl : E.length ≤ 6
    · rw [if_pos hl] at h
      obtain rfl := Option.some.inj h
      exact ⟨hl, readL_all (fun p x hp => kindI_len hp) hr⟩
    · rw [if_neg hl] at h; cases h
/-- what is read, and its code -/
noncomputable def rdU (t : List UInt8) : List (List Int) × Nat := match progU t with | some D => (D, 0) | none => ([], 5)
theorem rdU_ok {t : List UInt8} {D : List (List Int)} {k : Nat} (h : rdU t = (D, k)) : D.length ≤ 6 ∧ ∀ xs ∈ D, xs.length ≤ 8 := by
  rw [rdU, progU] at h
  cases hk : kindU t with
  | none =>
    rw [hk] at h
    obtain ⟨rfl, _⟩ := Prod.mk.inj h
    simp
  | some E =>
    rw [hk] at h
    simp only at h
    by_cases hc : cupText E = bsJ t
    · rw [if_pos hc] at h
      obtain ⟨rfl, _⟩ := Prod.mk.inj h
      exact kindU_len hk
    · rw [if_neg hc] at h
      obtain ⟨rfl, _⟩ := Prod.mk.inj h
      simp
end Go.Proofs.YtjfimmfnhlimkaaDoor.rd
