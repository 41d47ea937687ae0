/-
  Several texts of this proof, joined.
-/
import Derived.Test.YtjfimmfnhlimkaaDoorRdKind
import Derived.Test.YtjfimmfnhlimkaaDoorJoin36
/-
  Cloths read from a text: pure.
-/
namespace Go.Proofs.YtjfimmfnhlimkaaDoor.rd
open Go Go.RowKit sl dec txt hang

theorem dec_noB (n : Nat) {b : UInt8} (h : isDig b = false) : b ∉ Lib.decDigits n := fun hb => by
  have h1 := (dec_props n).1 b hb
  rw [h] at h1
  cases h1
/-- parts joined, and split again -/
theorem split_iff {α : Type} {g : α → List UInt8} {b : UInt8} (hb : ∀ x, b ∉ g x) {D : List α} (hD : D ≠ []) {t : List UInt8} : splitB b t = D.map g ↔ t = Lib.join (D.map g) [b] := by
  constructor
  · intro h
    rw [← h, join_splitB]
  · intro h
    rw [h]
    refine splitB_join b (fun e => hD (List.map_eq_nil_iff.1 e)) fun l hl => ?_
    obtain ⟨x, _, rfl⟩ := List.mem_map.1 hl
    exact hb x
def readC (p : List UInt8) : Option Clo := match intK 16 (cutA 47 p), intK 16 (cutZ 47 p) with | some a, some b => some ⟨a, b⟩ | _, _ => none
def numC (p : List UInt8) : Option Clo := match numsF [47] p with | some [a, b] => if a ≤ 200 ∧ b ≤ 500 then some ⟨(a : Int), (b : Int)⟩ else none | _ => none
theorem cloT_noB (x : Clo) : (32 : UInt8) ∉ cloT x := by
  intro h
  rcases List.mem_append.1 h with h | h
  · rcases List.mem_append.1 h with h | h
    · exact dec_noB _ rfl h
    · exact absurd (List.mem_singleton.1 h) (by decide)
  · exact dec_noB _ rfl h
theorem cloT_two (x : Clo) : cloT x = Lib.decDigits x.wide.toNat ++ 47 :: Lib.decDigits x.heavy.toNat := by simp [cloT]
theorem readC_clo {x : Clo} (h : Clo.valid x = true) : readC (cloT x) = some x := by
  obtain ⟨a, b, c, d⟩ := clo_parts h
  obtain ⟨e1, e2⟩ := cut_at (b := 47) (p := Lib.decDigits x.wide.toNat) (dec_noB _ rfl) (Lib.decDigits x.heavy.toNat)
  rw [readC, cloT_two, e1, e2, intK_dec (B := 16) (by omega) (by omega) (show x.wide.toNat < 32768 by omega), intK_dec (B := 16) (by omega) (by omega) (show x.heavy.toNat < 32768 by omega)]
  have h1 : ((x.wide.toNat : Nat) : Int) = x.wide := by omega
  have h2 : ((x.heavy.toNat : Nat) : Int) = x.heavy := by omega
  simp only [h1, h2]
theorem readC_fits {p : List UInt8} {x : Clo} (h : readC p = some x) : x.Fits := by
  rw [readC] at h
  cases ha : intK 16 (cutA 47 p) with
  | none => rw [ha] at h; cases h
  | some a =>
    cases hb : intK 16 (cutZ 47 p) with
    | none => rw [ha, hb] at h; cases h
    | some b =>
      rw [ha, hb] at h
      obtain rfl := Option.some.inj h
      have h1 : -32768 ≤ a ∧ a < 32768 := intK_fits ha
      have h2 : -32768 ≤ b ∧ b < 32768 := intK_fits hb
      exact ⟨by simp only; omega, by simp only; omega, by simp only; omega, by simp only; omega⟩
theorem numC_some {p : List UInt8} {x : Clo} (h : numC p = some x) : p = cloT x ∧ 0 ≤ x.wide ∧ x.wide ≤ 200 ∧ 0 ≤ x.heavy ∧ x.heavy ≤ 500 := by
  rw [numC] at h
  cases hn : numsF [47] p with
  | none => rw [hn] at h; cases h
  | some ys =>
    rw [hn] at h
    obtain ⟨h1, h2, h3⟩ := (numsF_iff (fun m hm => by rw [List.mem_singleton.1 hm]; rfl)).1 hn
    match ys, h1 with
    | [a, b], _ =>
      simp only at h
      by_cases hc : a ≤ 200 ∧ b ≤ 500
      · rw [if_pos hc] at h
        obtain rfl := Option.some.inj h
        refine ⟨by rw [h3, cloT_two, joinM, joinM]; rfl, ?_⟩
        simp only
        omega
      · rw [if_neg hc] at h; cases h
theorem numC_clo {x : Clo} (h : Clo.valid x = true) : numC (cloT x) = some x := by
  obtain ⟨a, b, c, d⟩ := clo_parts h
  have hn : numsF [47] (cloT x) = some [x.wide.toNat, x.heavy.toNat] := (numsF_iff (fun m hm => by rw [List.mem_singleton.1 hm]; rfl)).2 ⟨rfl, fun y hy => by
    rcases List.mem_cons.1 hy with rfl | hy
    · omega
    · rw [List.mem_singleton.1 hy]; omega, by rw [cloT_two, joinM, joinM]⟩
  have h1 : ((x.wide.toNat : Nat) : Int) = x.wide := by omega
  have h2 : ((x.heavy.toNat : Nat) : Int) = x.heavy := by omega
  rw [numC, hn]
  simp only
  rw [if_pos (by omega), h1, h2]
/-- what the program reads -/
def progC (t : List UInt8) : Option (List Clo) := if t = [] then some [] else match readL readC (splitB 32 t) with
  | some D => if D.length ≤ 100 ∧ cloText D = bsJ t then some D else none
  | none => none
/-- what the model reads -/
def specC (t : List UInt8) : Option (List Clo) := if t = [] then some [] else match readL numC (splitB 32 t) with
  | some D => if codeMany D 100 = 0 then some D else none
  | none => none
theorem many_parts {D : List Clo} (h : codeMany D 100 = 0) : (∀ x ∈ D, Clo.valid x = true) ∧ D.length ≤ 100 := by
  unfold codeMany at h
  by_cases h1 : D.all Clo.valid = true
  · rw [if_pos h1] at h
    by_cases h2 : 100 < D.length
    · rw [if_pos h2] at h; omega
    · exact ⟨List.all_eq_true.1 h1, by omega⟩
  · rw [if_neg h1] at h; omega
theorem progC_eq (t : List UInt8) : progC t = specC t := by
  by_cases ht : t = []
  · rw [progC, specC, if_pos ht, if_pos ht]
  · apply Option.ext
    intro D
    rw [progC, specC, if_neg ht, if_neg ht]
    constructor
    · intro h
      cases hr : readL readC (splitB 32 t) with
      | none => rw [hr] at h; cases h
      | some E =>
        rw [hr] at h
        simp only at h
        by_cases hc : E.length ≤ 100 ∧ cloText E = bsJ t
        · rw [if_pos hc] at h
          obtain rfl := Option.some.inj h
          have hE : E ≠ [] := fun e => by
            have h1 := readL_len hr
            rw [e] at h1
            exact splitB_ne 32 t (List.eq_nil_of_length_eq_zero h1.symm)
          have hm : codeMany E 100 = 0 := by
            apply Decidable.byContradiction
            intro hm
            have h2 := hc.2
            rw [cloText, if_neg hm] at h2
            exact ht (bsJ_inj (a := []) h2).symm
          have h2 := hc.2
          rw [cloText, if_pos hm] at h2
          have h3 := (split_iff cloT_noB hE).2 (bsJ_inj h2).symm
          rw [h3, readL_map fun x hx => numC_clo ((many_parts hm).1 x hx)]
          simp only
          rw [if_pos hm]
        · rw [if_neg hc] at h; cases h
    · intro h
      cases hr : readL numC (splitB 32 t) with
      | none => rw [hr] at h; cases h
      | some E =>
        rw [hr] at h
        simp only at h
        by_cases hm : codeMany E 100 = 0
        · rw [if_pos hm] at h
          obtain rfl := Option.some.inj h
          have hE : E ≠ [] := fun e => by
            have h1 := readL_len hr
            rw [e] at h1
            exact splitB_ne 32 t (List.eq_nil_of_length_eq_zero h1.symm)
          have h1 := readL_of (fun p x hp => (numC_some hp).1) hr
          have h2 := (split_iff cloT_noB hE).1 h1
          rw [h1, readL_map fun x hx => readC_clo ((many_parts hm).1 x hx)]
          simp only
          rw [if_pos ⟨(many_parts hm).2, by rw [cloText, if_pos hm, closT, ← h2]⟩]
        · rw [if_neg hm] at h; cases h
end Go.Proofs.YtjfimmfnhlimkaaDoor.rd

/-
  Texts of numbers joined by a byte: pure.
-/
namespace Go.Proofs.YtjfimmfnhlimkaaDoor.rd
open Go Go.RowKit sl dec txt

theorem join_noB {b c : UInt8} (hbc : b ≠ c) : ∀ {ls : List (List UInt8)}, (∀ l ∈ ls, b ∉ l) → b ∉ Lib.join ls [c]
  | [], _ => by simp [Lib.join_nil]
  | x :: r, h => by
    rw [Lib.join_cons]
    intro hm
    rcases List.mem_append.1 hm with h1 | h1
    · exact h x (List.mem_cons_self ..) h1
    · rw [Lib.joinTail] at h1
      obtain ⟨q, hq, hbq⟩ := List.mem_flatten.1 h1
      obtain ⟨l, hl, rfl⟩ := List.mem_map.1 hq
      rcases List.mem_append.1 hbq with h2 | h2
      · exact hbc (List.mem_singleton.1 h2)
      · exact h l (List.mem_cons_of_mem _ hl) h2
/-- the text of a number -/
def dgU (x : Int) : List UInt8 := Lib.decDigits x.toNat
theorem dgU_no (b : UInt8) (hb : isDig b = false) (x : Int) : b ∉ dgU x := dec_noB _ hb
end Go.Proofs.YtjfimmfnhlimkaaDoor.rd

/-
  Pieces read from a text: pure.
-/
namespace Go.Proofs.YtjfimmfnhlimkaaDoor.rd
open Go Go.RowKit sl dec txt hang iron

def readP (p : List UInt8) : Option Pie := match intK 8 (cutA 47 p), intK 8 (cutA 64 (cutZ 47 p)), intK 16 (cutZ 64 (cutZ 47 p)) with | some a, some b, some c => some ⟨a, b, c⟩ | _, _, _ => none
def numP (p : List UInt8) : Option Pie := match numsF [47, 64] p with | some [a, b, c] => if a ≤ 3 ∧ b ≤ 60 ∧ c ≤ 1000 then (if pieB ⟨(a : Int), (b : Int), (c : Int)⟩ = true then some ⟨(a : Int), (b : Int), (c : Int)⟩ else none) else none | _ => none
theorem pie_parts {x : Pie} (h : pieB x = true) : 1 ≤ x.lev ∧ x.lev ≤ 3 ∧ 1 ≤ x.mins ∧ x.mins ≤ 60 ∧ 0 ≤ x.due ∧ x.due ≤ 1000 := by
  simpa [pieB, stk.inB, and_assoc] using h
theorem pieT_noB (x : Pie) : (32 : UInt8) ∉ pieT x := by
  intro h
  rcases List.mem_append.1 h with h | h
  · rcases List.mem_append.1 h with h | h
    · rcases List.mem_append.1 h with h | h
      · rcases List.mem_append.1 h with h | h
        · exact dec_noB _ rfl h
        · exact absurd (List.mem_singleton.1 h) (by decide)
      · exact dec_noB _ rfl h
    · exact absurd (List.mem_singleton.1 h) (by decide)
  · exact dec_noB _ rfl h
theorem pieT_three (x : Pie) : pieT x = Lib.decDigits x.lev.toNat ++ 47 :: (Lib.decDigits x.mins.toNat ++ 64 :: Lib.decDigits x.due.toNat) := by simp [pieT]
theorem readP_pie {x : Pie} (h : pieB x = true) : readP (pieT x) = some x := by
  obtain ⟨a, b, c, d, e, f⟩ := pie_parts h
  obtain ⟨e1, e2⟩ := cut_at (b := 47) (p := Lib.decDigits x.lev.toNat) (dec_noB _ rfl) (Lib.decDigits x.mins.toNat ++ 64 :: Lib.decDigits x.due.toNat)
  obtain ⟨e3, e4⟩ := cut_at (b := 64) (p := Lib.decDigits x.mins.toNat) (dec_noB _ rfl) (Lib.decDigits x.due.toNat)
  rw [readP, pieT_three, e1, e2, e3, e4, intK_dec (B := 8) (by omega) (by omega) (show x.lev.toNat < 128 by omega), intK_dec (B := 8) (by omega) (by omega) (show x.mins.toNat < 128 by omega), intK_dec (B := 16) (by omega) (by omega) (show x.due.toNat < 32768 by omega)]
  have h1 : ((x.lev.toNat : Nat) : Int) = x.lev := by omega
  have h2 : ((x.mins.toNat : Nat) : Int) = x.mins := by omega
  have h3 : ((x.due.toNat : Nat) : Int) = x.due := by omega
  simp only [h1, h2, h3]
theorem readP_fits {p : List UInt8} {x : Pie} (h : readP p = some x) : x.Fits := by
  rw [readP] at h
  cases ha : intK 8 (cutA 47 p) with
  | none => rw [ha] at h; cases h
  | some a =>
    cases hb : intK 8 (cutA 64 (cutZ 47 p)) with
    | none => rw [ha, hb] at h; cases h
    | some b =>
      cases hc : intK 16 (cutZ 64 (cutZ 47 p)) with
      | none => rw [ha, hb, hc] at h; cases h
      | some c =>
        rw [ha, hb, hc] at h
        obtain rfl := Option.some.inj h
        have h1 : -128 ≤ a ∧ a < 128 := intK_fits ha
        have h2 : -128 ≤ b ∧ b < 128 := intK_fits hb
        have h3 : -32768 ≤ c ∧ c < 32768 := intK_fits hc
        exact ⟨by simp only; omega, by simp only; omega, by simp only; omega, by simp only; omega, by simp only; omega, by simp only; omega⟩
theorem marksP : ∀ m ∈ ([47, 64] : List UInt8), isDig m = false := fun m hm => by
  rcases List.mem_cons.1 hm with rfl | hm
  · rfl
  · rw [List.mem_singleton.1 hm]; rfl
theorem numP_some {p : List UInt8} {x : Pie} (h : numP p = some x) : p = pieT x ∧ pieB x = true := by
  rw [numP] at h
  cases hn : numsF [47, 64] p with
  | none => rw [hn] at h; cases h
  | some ys =>
    rw [hn] at h
    obtain ⟨h1, h2, h3⟩ := (numsF_iff marksP).1 hn
    match ys, h1 with
    | [a, b, c], _ =>
      simp only at h
      by_cases hc : a ≤ 3 ∧ b ≤ 60 ∧ c ≤ 1000
      · rw [if_pos hc] at h
        by_cases hv : pieB ⟨(a : Int), (b : Int), (c : Int)⟩ = true
        · rw [if_pos hv] at h
          obtain rfl := Option.some.inj h
          exact ⟨by rw [h3, pieT_three, joinM, joinM, joinM]; rfl, hv⟩
        · rw [if_neg hv] at h; cases h
      · rw [if_neg hc] at h; cases h
theorem numP_pie {x : Pie} (h : pieB x = true) : numP (pieT x) = some x := by
  obtain ⟨a, b, c, d, e, f⟩ := pie_parts h
  have hn : numsF [47, 64] (pieT x) = some [x.lev.toNat, x.mins.toNat, x.due.toNat] := (numsF_iff marksP).2 ⟨rfl, fun y hy => by
    rcases List.mem_cons.1 hy with rfl | hy
    · omega
    · rcases List.mem_cons.1 hy with rfl | hy
      · omega
      · rw [List.mem_singleton.1 hy]; omega, by rw [pieT_three, joinM, joinM, joinM]⟩
  have h1 : ((x.lev.toNat : Nat) : Int) = x.lev := by omega
  have h2 : ((x.mins.toNat : Nat) : Int) = x.mins := by omega
  have h3 : ((x.due.toNat : Nat) : Int) = x.due := by omega
  rw [numP, hn]
  simp only
  rw [if_pos (by omega), h1, h2, h3, if_pos h]
/-- what the program reads -/
noncomputable def progP (t : List UInt8) : Option (List Pie) := if t = [] then some [] else match readL readP (splitB 32 t) with
  | some D => if D.length ≤ 8 ∧ pieText D = bsJ t then some D else none
  | none => none
/-- what the model reads -/
def specP (t : List UInt8) : Option (List Pie) := if t = [] then some [] else if (splitB 32 t).length ≤ 8 then readL numP (splitB 32 t) else none
theorem codePs_parts {D : List Pie} (h : codePs D = 0) : (∀ x ∈ D, pieB x = true) ∧ D.length ≤ 8 := by
  unfold codePs at h
  by_cases h1 : D.all pieB = true
  · rw [if_pos h1] at h
    by_cases h2 : 8 < D.length
    · rw [if_pos h2] at h; omega
    · exact ⟨List.all_eq_true.1 h1, by omega⟩
  · rw [if_neg h1] at h; omega
theorem progP_eq (t : List UInt8) : progP t = specP t := by
  by_cases ht : t = []
  · rw [progP, specP, if_pos ht, if_pos ht]
  · apply Option.ext
    intro D
    rw [progP, specP, if_neg ht, if_neg ht]
    constructor
    · intro h
      cases hr : readL readP (splitB 32 t) with
      | none => rw [hr] at h; cases h
      | some E =>
        rw [hr] at h
        simp only at h
        by_cases hc : E.length ≤ 8 ∧ pieText E = bsJ t
        · rw [if_pos hc] at h
          obtain rfl := Option.some.inj h
          have hE : E ≠ [] := fun e => by
            have h1 := readL_len hr
            rw [e] at h1
            exact splitB_ne 32 t (List.eq_nil_of_length_eq_zero h1.symm)
          have hm : codePs E = 0 := by
            apply Decidable.byContradiction
            intro hm
            have h2 := hc.2
            rw [pieText, if_neg hm] at h2
            exact ht (bsJ_inj (a := []) h2).symm
          have h2 := hc.2
          rw [pieText, if_pos hm] at h2
          have h3 := (split_iff pieT_noB hE).2 (bsJ_inj h2).symm
          rw [h3, List.length_map, if_pos hc.1]
          exact readL_map fun x hx => numP_pie ((codePs_parts hm).1 x hx)
        · rw [if_neg hc] at h; cases h
    · intro h
      by_cases hl : (splitB 32 t).length ≤ 8
      · rw [if_pos hl] at h
        have hE : D ≠ [] := fun e => by
          have h1 := readL_len h
          rw [e] at h1
          exact splitB_ne 32 t (List.eq_nil_of_length_eq_zero h1.symm)
        have hv := readL_all (fun p x hp => (numP_some hp).2) h
        have hm : codePs D = 0 := by
          have h1 := readL_len h
          rw [codePs, if_pos (List.all_eq_true.2 hv), if_neg (by omega)]
        have h1 := readL_of (fun p x hp => (numP_some hp).1) h
        have h2 := (split_iff pieT_noB hE).1 h1
        rw [h1, readL_map fun x hx => readP_pie (hv x hx)]
        simp only
        rw [if_pos ⟨(codePs_parts hm).2, by rw [pieText, if_pos hm, piesT, ← h2]⟩]
      · rw [if_neg hl] at h; cases h
end Go.Proofs.YtjfimmfnhlimkaaDoor.rd
