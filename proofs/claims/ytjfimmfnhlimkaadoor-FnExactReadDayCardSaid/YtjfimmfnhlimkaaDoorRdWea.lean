/-
  Days read from a text: pure.
-/
import Derived.Test.YtjfimmfnhlimkaaDoorRdClo
import Derived.Test.YtjfimmfnhlimkaaDoorJoin27
namespace Go.Proofs.YtjfimmfnhlimkaaDoor.rd
open Go Go.RowKit sl dec txt hang day

def readW (p : List UInt8) : Option Wea := match intK 8 (cutA 47 p), intK 8 (cutA 47 (cutZ 47 p)), intK 8 (cutZ 47 (cutZ 47 p)) with | some a, some b, some c => some ⟨a, b, c⟩ | _, _, _ => none
def numW (p : List UInt8) : Option Wea := match numsF [47, 47] p with | some [a, b, c] => if a ≤ 9 ∧ b ≤ 9 ∧ c ≤ 9 then some ⟨(a : Int), (b : Int), (c : Int)⟩ else none | _ => none
theorem wea_parts9 {x : Wea} (h : Wea.valid x = true) : 0 ≤ x.sun ∧ x.sun ≤ 9 ∧ 0 ≤ x.wind ∧ x.wind ≤ 9 ∧ 0 ≤ x.rain ∧ x.rain ≤ 9 := by
  simpa [Wea.valid, and_assoc] using h
theorem weaT_noB (x : Wea) : (32 : UInt8) ∉ weaT x := by
  intro h
  rcases List.mem_append.1 h with h | h
  · rcases List.mem_append.1 h with h | h
    · rcases List.mem_append.1 h with h | h
      · rcases List.mem_append.1 h with h | h
        · exact dec_noB _ rfl h
        · exact absurd (List.mem_singleton.1 h) (by decide)
      · exact dec_noB _ rfl h
    · exact absurd (List.mem_singleton.1 h) (by decide)
  · exact dec_noB _ rfl h
theorem weaT_three (x : Wea) : weaT x = Lib.decDigits x.sun.toNat ++ 47 :: (Lib.decDigits x.wind.toNat ++ 47 :: Lib.decDigits x.rain.toNat) := by simp [weaT]
theorem readW_wea {x : Wea} (h : Wea.valid x = true) : readW (weaT x) = some x := by
  obtain ⟨a, b, c, d, e, f⟩ := wea_parts9 h
  obtain ⟨e1, e2⟩ := cut_at (b := 47) (p := Lib.decDigits x.sun.toNat) (dec_noB _ rfl) (Lib.decDigits x.wind.toNat ++ 47 :: Lib.decDigits x.rain.toNat)
  obtain ⟨e3, e4⟩ := cut_at (b := 47) (p := Lib.decDigits x.wind.toNat) (dec_noB _ rfl) (Lib.decDigits x.rain.toNat)
  rw [readW, weaT_three, e1, e2, e3, e4, intK_dec (B := 8) (by omega) (by omega) (show x.sun.toNat < 128 by omega), intK_dec (B := 8) (by omega) (by omega) (show x.wind.toNat < 128 by omega), intK_dec (B := 8) (by omega) (by omega) (show x.rain.toNat < 128 by omega)]
  have h1 : ((x.sun.toNat : Nat) : Int) = x.sun := by omega
  have h2 : ((x.wind.toNat : Nat) : Int) = x.wind := by omega
  have h3 : ((x.rain.toNat : Nat) : Int) = x.rain := by omega
  simp only [h1, h2, h3]
theorem readW_fits {p : List UInt8} {x : Wea} (h : readW p = some x) : x.Fits := by
  rw [readW] at h
  cases ha : intK 8 (cutA 47 p) with
  | none => rw [ha] at h; cases h
  | some a =>
    cases hb : intK 8 (cutA 47 (cutZ 47 p)) with
    | none => rw [ha, hb] at h; cases h
    | some b =>
      cases hc : intK 8 (cutZ 47 (cutZ 47 p)) with
      | none => rw [ha, hb, hc] at h; cases h
      | some c =>
        rw [ha, hb, hc] at h
        obtain rfl := Option.some.inj h
        have h1 : -128 ≤ a ∧ a < 128 := intK_fits ha
        have h2 : -128 ≤ b ∧ b < 128 := intK_fits hb
        have h3 : -128 ≤ c ∧ c < 128 := intK_fits hc
        exact ⟨by simp only; omega, by simp only; omega, by simp only; omega, by simp only; omega, by simp only; omega, by simp only; omega⟩
theorem marksW : ∀ m ∈ ([47, 47] : List UInt8), isDig m = false := fun m hm => by
  rcases List.mem_cons.1 hm with rfl | hm
  · rfl
  · rw [List.mem_singleton.1 hm]; rfl
theorem numW_some {p : List UInt8} {x : Wea} (h : numW p = some x) : p = weaT x ∧ Wea.valid x = true := by
  rw [numW] at h
  cases hn : numsF [47, 47] p with
  | none => rw [hn] at h; cases h
  | some ys =>
    rw [hn] at h
    obtain ⟨h1, h2, h3⟩ := (numsF_iff marksW).1 hn
    match ys, h1 with
    | [a, b, c], _ =>
      simp only at h
      by_cases hc : a ≤ 9 ∧ b ≤ 9 ∧ c ≤ 9
      · rw [if_pos hc] at h
        obtain rfl := Option.some.inj h
        refine ⟨by rw [h3, weaT_three, joinM, joinM, joinM]; rfl, ?_⟩
        simp [Wea.valid]
        omega
      · rw [if_neg hc] at h; cases h
theorem numW_wea {x : Wea} (h : Wea.valid x = true) : numW (weaT x) = some x := by
  obtain ⟨a, b, c, d, e, f⟩ := wea_parts9 h
  have hn : numsF [47, 47] (weaT x) = some [x.sun.toNat, x.wind.toNat, x.rain.toNat] := (numsF_iff marksW).2 ⟨rfl, fun y hy => by
    rcases List.mem_cons.1 hy with rfl | hy
    · omega
    · rcases List.mem_cons.1 hy with rfl | hy
      · omega
      · rw [List.mem_singleton.1 hy]; omega, by rw [weaT_three, joinM, joinM, joinM]⟩
  have h1 : ((x.sun.toNat : Nat) : Int) = x.sun := by omega
  have h2 : ((x.wind.toNat : Nat) : Int) = x.wind := by omega
  have h3 : ((x.rain.toNat : Nat) : Int) = x.rain := by omega
  rw [numW, hn]
  simp only
  rw [if_pos (by omega), h1, h2, h3]
/-- hours that are missing -/
def padW (D : List Wea) : List Wea := D ++ List.replicate (24 - D.length) ⟨0, 0, 0⟩
theorem padW_len {D : List Wea} (h : D.length ≤ 24) : (padW D).length = 24 := by
  rw [padW, List.length_append, List.length_replicate]
  omega
theorem padW_all {D : List Wea} (h : D.length = 24) : padW D = D := by
  rw [padW, h]
  simp
/-- what the program reads -/
def progW (t : List UInt8) : Option (List Wea) := match readL readW (splitB 32 t) with
  | some D => if D.length ≤ 24 ∧ dayText (padW D) = bsJ t then some (padW D) else none
  | none => none
/-- what the model reads -/
def specW (t : List UInt8) : Option (List Wea) := if (splitB 32 t).length = 24 then readL numW (splitB 32 t) else none
theorem readW_nil : readW [] = none := rfl
theorem progW_eq (t : List UInt8) : progW t = specW t := by
  apply Option.ext
  intro D
  rw [progW, specW]
  constructor
  · intro h
    cases hr : readL readW (splitB 32 t) with
    | none => rw [hr] at h; cases h
    | some E =>
      rw [hr] at h
      simp only at h
      by_cases hc : E.length ≤ 24 ∧ dayText (padW E) = bsJ t
      · rw [if_pos hc] at h
        obtain rfl := Option.some.inj h
        obtain ⟨F, hF⟩ : ∃ F, padW E = F := ⟨_, rfl⟩
        have hl := padW_len hc.1
        have h2 := hc.2
        rw [hF] at hl h2 ⊢
        have hm : F.all Wea.valid = true := by
          apply Decidable.byContradiction
          intro hm
          rw [dayText, if_neg hm] at h2
          have ht : t = [] := (bsJ_inj (a := []) h2).symm
          rw [ht, splitB, readL, readW_nil] at hr
          cases hr
        rw [dayText, if_pos hm] at h2
        have hE : F ≠ [] := fun e => by rw [e] at hl; cases hl
        have h3 := (split_iff weaT_noB hE).2 (bsJ_inj h2).symm
        rw [h3, List.length_map, if_pos hl]
        exact readL_map fun x hx => numW_wea (List.all_eq_true.1 hm x hx)
      · rw [if_neg hc] at h; cases h
  · intro h
    by_cases hl : (splitB 32 t).length = 24
    · rw [if_pos hl] at h
      have hlen := readL_len h
      have hE : D ≠ [] := fun e => by rw [e] at hlen; rw [← hlen] at hl; cases hl
      have hv := readL_all (fun p x hp => (numW_some hp).2) h
      have h1 := readL_of (fun p x hp => (numW_some hp).1) h
      have h2 := (split_iff weaT_noB hE).1 h1
      have hp : padW D = D := padW_all (hlen.trans hl)
      rw [h1, readL_map fun x hx => readW_wea (hv x hx)]
      simp only
      rw [hp, if_pos ⟨by omega, by rw [dayText, if_pos (List.all_eq_true.2 hv), daysT, ← h2]⟩]
    · rw [if_neg hl] at h; cases h
end Go.Proofs.YtjfimmfnhlimkaaDoor.rd
