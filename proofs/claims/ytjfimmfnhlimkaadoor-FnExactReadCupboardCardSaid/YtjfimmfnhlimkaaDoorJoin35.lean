/-
  Several texts of this proof, joined.
-/
import Derived.Test.YtjfimmfnhlimkaaDoorRdKind
import Derived.Test.YtjfimmfnhlimkaaDoorCloTi
/-
  Cloths read from a text: pure.
-/
namespace Go.Proofs.YtjfimmfnhlimkaaDoor.rd
open Go Go.RowKit sl dec txt hang

theorem dec_noB (n : Nat) {b : UInt8} (h : isDig b = false) : b ∉ Lib.decDigits n := fun hb => by
  have h1 := (dec_props n).1 b hb
  rw [h] at h1
  cases h1
/-- parts joined, and split again -/
theorem split_iff {α : Type} {g : α → List UInt8} {b : UInt8} (hb : ∀ x, b ∉ g x) {D : List α} (hD : D ≠ []) {t : List UInt8} : splitB b t = D.map g ↔ t = Lib.join (D.map g) [b] := by
  constructor
  · intro h
    rw [← h, join_splitB]
  · intro h
    rw [h]
    refine splitB_join b (fun e => hD (List.map_eq_nil_iff.1 e)) fun l hl => ?_
    obtain ⟨x, _, rfl⟩ := List.mem_map.1 hl
    exact hb x
def readC (p : List UInt8) : Option Clo := match intK 16 (cutA 47 p), intK 16 (cutZ 47 p) with | some a, some b => some ⟨a, b⟩ | _, _ => none
def numC (p : List UInt8) : Option Clo := match numsF [47] p with | some [a, b] => if a ≤ 200 ∧ b ≤ 500 then some ⟨(a : Int), (b : Int)⟩ else none | _ => none
theorem cloT_noB (x : Clo) : (32 : UInt8) ∉ cloT x := by
  intro h
  rcases List.mem_append.1 h with h | h
  · rcases List.mem_append.1 h with h | h
    · exact dec_noB _ rfl h
    · exact absurd (List.mem_singleton.1 h) (by decide)
  · exact dec_noB _ rfl h
theorem cloT_two (x : Clo) : cloT x = Lib.decDigits x.wide.toNat ++ 47 :: Lib.decDigits x.heavy.toNat := by simp [cloT]
theorem readC_clo {x : Clo} (h : Clo.valid x = true) : readC (cloT x) = some x := by
  obtain ⟨a, b, c, d⟩ := clo_parts h
  obtain ⟨e1, e2⟩ := cut_at (b := 47) (p := Lib.decDigits x.wide.toNat) (dec_noB _ rfl) (Lib.decDigits x.heavy.toNat)
  rw [readC, cloT_two, e1, e2, intK_dec (B := 16) (by omega) (by omega) (show x.wide.toNat < 32768 by omega), intK_dec (B := 16) (by omega) (by omega) (show x.heavy.toNat < 32768 by omega)]
  have h1 : ((x.wide.toNat : Nat) : Int) = x.wide := by omega
  have h2 : ((x.heavy.toNat : Nat) : Int) = x.heavy := by omega
  simp only [h1, h2]
theorem readC_fits {p : List UInt8} {x : Clo} (h : readC p = some x) : x.Fits := by
  rw [readC] at h
  cases ha : intK 16 (cutA 47 p) with
  | none => rw [ha] at h; cases h
  | some a =>
    cases hb : intK 16 (cutZ 47 p) with
    | none => rw [ha, hb] at h; cases h
    | some b =>
      rw [ha, hb] at h
      obtain rfl := Option.some.inj h
      have h1 : -32768 ≤ a ∧ a < 32768 := intK_fits ha
      have h2 : -32768 ≤ b ∧ b < 32768 := intK_fits hb
      exact ⟨by simp only; omega, by simp only; omega, by simp only; omega, by simp only; omega⟩
theorem numC_some {p : List UInt8} {x : Clo} (h : numC p = some x) : p = cloT x ∧ 0 ≤ x.wide ∧ x.wide ≤ 200 ∧ 0 ≤ x.heavy ∧ x.heavy ≤ 500 := by
  rw [numC] at h
  cases hn : numsF [47] p with
  | none => rw [hn] at h; cases h
  | some ys =>
    rw [hn] at h
    obtain ⟨h1, h2, h3⟩ := (numsF_iff (fun m hm => by rw [List.mem_singleton.1 hm]; rfl)).1 hn
    match ys, h1 with
    | [a, b], _ =>
      simp only at h
      by_cases hc : a ≤ 200 ∧ b ≤ 500
      · rw [if_pos hc] at h
        obtain rfl := Option.some.inj h
        refine ⟨by rw [h3, cloT_two, joinM, joinM]; rfl, ?_⟩
        simp only
        omega
      · rw [if_neg hc] at h; cases h
theorem numC_clo {x : Clo} (h : Clo.valid x = true) : numC (cloT x) = some x := by
  obtain ⟨a, b, c, d⟩ := clo_parts h
  have hn : numsF [47] (cloT x) = some [x.wide.toNat, x.heavy.toNat] := (numsF_iff (fun m hm => by rw [List.mem_singleton.1 hm]; rfl)).2 ⟨rfl, fun y hy => by
    rcases List.mem_cons.1 hy with rfl | hy
    · omega
    · rw [List.mem_singleton.1 hy]; omega, by rw [cloT_two, joinM, joinM]⟩
  have h1 : ((x.wide.toNat : Nat) : Int) = x.wide := by omega
  have h2 : ((x.heavy.toNat : Nat) : Int) = x.heavy := by omega
  rw [numC, hn]
  simp only
  rw [if_pos (by omega), h1, h2]
/-- what the program reads -/
def progC (t : List UInt8) : Option (List Clo) := if t = [] then some [] else match readL readC (splitB 32 t) with
  | some D => if D.length ≤ 100 ∧ cloText D = bsJ t then some D else none
  | none => none
/-- what the model reads -/
def specC (t : List UInt8) : Option (List Clo) := if t = [] then some [] else match readL numC (splitB 32 t) with
  | some D => if codeMany D 100 = 0 then some D else none
  | none => none
theorem many_parts {D : List Clo} (h : codeMany D 100 = 0) : (∀ x ∈ D, Clo.valid x = true) ∧ D.length ≤ 100 := by
  unfold codeMany at h
  by_cases h1 : D.all Clo.valid = true
  · rw [if_pos h1] at h
    by_cases h2 : 100 < D.length
    · rw [if_pos h2] at h; omega
    · exact ⟨List.all_eq_true.1 h1, by omega⟩
  · rw [if_neg h1] at h; omega
theorem progC_eq (t : List UInt8) : progC t = specC t := by
  by_cases ht : t = []
  · rw [progC, specC, if_pos ht, if_pos ht]
  · apply Option.ext
    intro D
    rw [progC, specC, if_neg ht, if_neg ht]
    constructor
    · intro h
      cases hr : readL readC (splitB 32 t) with
      | none => rw [hr] at h; cases h
      | some E =>
        rw [hr] at h
        simp only at h
        by_cases hc : E.length ≤ 100 ∧ cloText E = bsJ t
        · rw [if_pos hc] at h
          obtain rfl := Option.some.inj h
          have hE : E ≠ [] := fun e => by
            have h1 := readL_len hr
            rw [e] at h1
            exact splitB_ne 32 t (List.eq_nil_of_length_eq_zero h1.symm)
          have hm : codeMany E 100 = 0 := by
            apply Decidable.byContradiction
            intro hm
            have h2 := hc.2
            rw [cloText, if_neg hm] at h2
            exact ht (bsJ_inj (a := []) h2).symm
          have h2 := hc.2
          rw [cloText, if_pos hm] at h2
          have h3 := (split_iff cloT_noB hE).2 (bsJ_inj h2).symm
          rw [h3, readL_map fun x hx => numC_clo ((many_parts hm).1 x hx)]
          simp only
          rw [if_pos hm]
        · rw [if_neg hc] at h; cases h
    · intro h
      cases hr : readL numC (splitB 32 t) with
      | none => rw [hr] at h; cases h
      | some E =>
        rw [hr] at h
        simp only at h
        by_cases hm : codeMany E 100 = 0
        · rw [if_pos hm] at h
          obtain rfl := Option.some.inj h
          have hE : E ≠ [] := fun e => by
            have h1 := readL_len hr
            rw [e] at h1
            exact splitB_ne 32 t (List.eq_nil_of_length_eq_zero h1.symm)
          have h1 := readL_of (fun p x hp => (numC_some hp).1) hr
          have h2 := (split_iff cloT_noB hE).1 h1
          rw [h1, readL_map fun x hx => readC_clo ((many_parts hm).1 x hx)]
          simp only
          rw [if_pos ⟨(many_parts hm).2, by rw [cloText, if_pos hm, closT, ← h2]⟩]
        · rw [if_neg hm] at h; cases h
end Go.Proofs.YtjfimmfnhlimkaaDoor.rd

/-
  Texts of numbers joined by a byte: pure.
-/
namespace Go.Proofs.YtjfimmfnhlimkaaDoor.rd
open Go Go.RowKit sl dec txt

theorem join_noB {b c : UInt8} (hbc : b ≠ c) : ∀ {ls : List (List UInt8)}, (∀ l ∈ ls, b ∉ l) → b ∉ Lib.join ls [c]
  | [], _ => by simp [Lib.join_nil]
  | x :: r, h => by
    rw [Lib.join_cons]
    intro hm
    rcases List.mem_append.1 hm with h1 | h1
    · exact h x (List.mem_cons_self ..) h1
    · rw [Lib.joinTail] at h1
      obtain ⟨q, hq, hbq⟩ := List.mem_flatten.1 h1
      obtain ⟨l, hl, rfl⟩ := List.mem_map.1 hq
      rcases List.mem_append.1 hbq with h2 | h2
      · exact hbc (List.mem_singleton.1 h2)
      · exact h l (List.mem_cons_of_mem _ hl) h2
/-- the text of a number -/
def dgU (x : Int) : List UInt8 := Lib.decDigits x.toNat
theorem dgU_no (b : UInt8) (hb : isDig b = false) (x : Int) : b ∉ dgU x := dec_noB _ hb
end Go.Proofs.YtjfimmfnhlimkaaDoor.rd
