/-
  Texts read kindly, part by part: pure.
-/
import Derived.Test.YtjfimmfnhlimkaaDoorJoin29
import Derived.Lib.ParseIntB
import Derived.Lib.Bytealg
namespace Go.Proofs.YtjfimmfnhlimkaaDoor.rd
open Go Go.RowKit sl dec txt

theorem bsJ_inj {a b : List UInt8} (h : bsJ a = bsJ b) : a = b := by
  have h1 := congrArg (fun s : ByteArray => s.data.toList) h
  simpa using h1
theorem bsJ_of (s : ByteArray) : bsJ s.data.toList = s := by
  apply ByteArray.ext
  simp
theorem len_list (s : ByteArray) : s.data.toList.length = s.size := Array.length_toList ..
/-- the value of digits behind others -/
def valF (acc : Nat) (l : List UInt8) : Nat := l.foldl (fun n c => 10 * n + (c.toNat - 48)) acc
theorem valF_ge : ∀ (l : List UInt8) (acc : Nat), acc ≤ valF acc l
  | [], _ => Nat.le_refl _
  | c :: r, acc => by
    have h := valF_ge r (10 * acc + (c.toNat - 48))
    have e : valF acc (c :: r) = valF (10 * acc + (c.toNat - 48)) r := rfl
    omega
theorem uintM_dig (M : Nat) (hM : M < 18446744073709551616) : ∀ (l : List UInt8) (acc : Nat), (∀ c ∈ l, isDig c = true) → valF acc l ≤ M → Lib.parseUintM M acc l = .ok (valF acc l)
  | [], acc, _, _ => rfl
  | c :: r, acc, hd, h => by
    have hc : 48 ≤ c.toNat ∧ c.toNat ≤ 57 := of_decide_eq_true (hd c (List.mem_cons_self ..))
    have e : valF acc (c :: r) = valF (10 * acc + (c.toNat - 48)) r := rfl
    have hg := valF_ge r (10 * acc + (c.toNat - 48))
    have ih := uintM_dig M hM r (10 * acc + (c.toNat - 48)) (fun x hx => hd x (List.mem_cons_of_mem _ hx)) (by omega)
    have ea : acc * 10 + (c.toNat - 48) = 10 * acc + (c.toNat - 48) := by omega
    rw [Lib.parseUintM, if_pos hc, if_neg (by omega), if_neg (by omega), ea, ih, e]
theorem parseI_dec {B n : Nat} (h1 : 1 ≤ B) (h2 : B ≤ 64) (h : n < 2 ^ (B - 1)) : Lib.parseIntB B (Lib.decDigits n) = .ok (n : Int) := by
  obtain ⟨d1, d2, d3, _⟩ := dec_props n
  have hB : 2 ^ B ≤ 18446744073709551616 := Nat.pow_le_pow_right (n := 2) (by omega) h2
  have hp : 2 ^ B = 2 * 2 ^ (B - 1) := by
    obtain ⟨k, rfl⟩ : ∃ k, B = k + 1 := ⟨B - 1, by omega⟩
    rw [Nat.pow_succ, Nat.add_sub_cancel]
    omega
  have hv : valF 0 (Lib.decDigits n) = n := d2
  have hu := uintM_dig (2 ^ B - 1) (by omega) (Lib.decDigits n) 0 d1 (by omega)
  rw [hv] at hu
  have hub : Lib.parseUintB B (Lib.decDigits n) = .ok n := by rw [Lib.parseUintB, if_neg d3, hu]
  cases hl : Lib.decDigits n with
  | nil => exact absurd hl d3
  | cons c r =>
    have hc : 48 ≤ c.toNat ∧ c.toNat ≤ 57 := of_decide_eq_true (d1 c (by rw [hl]; exact List.mem_cons_self ..))
    rw [hl] at hub
    rw [Lib.parseIntB]
    rw [if_neg (by omega : ¬ (c.toNat = 43 ∨ c.toNat = 45)), hub]
    simp only
    rw [if_neg (by omega), if_neg (by omega), if_neg (by omega)]
theorem parseI_fits {B : Nat} {l : List UInt8} {v : Int} (h : Lib.parseIntB B l = .ok v) : -(2 ^ (B - 1) : Nat) ≤ v ∧ v < (2 ^ (B - 1) : Nat) := by
  have hp : 1 ≤ 2 ^ (B - 1) := Nat.one_le_two_pow
  cases l with
  | nil => rw [Lib.parseIntB] at h; cases h
  | cons c r =>
    rw [Lib.parseIntB] at h
    split at h
    · cases h
    · cases h
    · rename_i u _
      by_cases h1 : ¬ c.toNat = 45 ∧ 2 ^ (B - 1) ≤ u
      · rw [if_pos h1] at h; cases h
      · rw [if_neg h1] at h
        by_cases h2 : c.toNat = 45 ∧ 2 ^ (B - 1) < u
        · rw [if_pos h2] at h; cases h
        · rw [if_neg h2] at h
          have hv := Lib.NumEnd.ok.inj h
          by_cases h3 : c.toNat = 45
          · rw [if_pos h3] at hv; subst hv; omega
          · rw [if_neg h3] at hv; subst hv; omega
/-- a number read kindly -/
def intK (B : Nat) (l : List UInt8) : Option Int := match Lib.parseIntB B l with | .ok v => some v | _ => none
theorem intK_dec {B n : Nat} (h1 : 1 ≤ B) (h2 : B ≤ 64) (h : n < 2 ^ (B - 1)) : intK B (Lib.decDigits n) = some (n : Int) := by rw [intK, parseI_dec h1 h2 h]
theorem intK_fits {B : Nat} {l : List UInt8} {v : Int} (h : intK B l = some v) : -(2 ^ (B - 1) : Nat) ≤ v ∧ v < (2 ^ (B - 1) : Nat) := by
  rw [intK] at h
  split at h
  · rename_i u hu
    obtain rfl := Option.some.inj h
    exact parseI_fits hu
  · cases h
/-- a text cut at a byte -/
def notB (b c : UInt8) : Bool := !(c == b)
theorem notB_self (b : UInt8) : ¬ notB b b = true := by simp [notB]
theorem notB_of {b c : UInt8} (h : ¬ c = b) : notB b c = true := by simp [notB, h]
def cutA (b : UInt8) (l : List UInt8) : List UInt8 := l.takeWhile (notB b)
def cutZ (b : UInt8) (l : List UInt8) : List UInt8 := (l.dropWhile (notB b)).drop 1
theorem cut_at {b : UInt8} {p : List UInt8} (h : b ∉ p) (q : List UInt8) : cutA b (p ++ b :: q) = p ∧ cutZ b (p ++ b :: q) = q := by
  have hp : ∀ c ∈ p, notB b c = true := fun c hc => notB_of fun e => h (e ▸ hc)
  have hb := notB_self b
  rw [cutA, cutZ, List.takeWhile_append_of_pos hp, List.dropWhile_append_of_pos hp, List.takeWhile_cons_of_neg hb, List.dropWhile_cons_of_neg hb, List.append_nil, List.drop_one, List.tail_cons]
  exact ⟨rfl, rfl⟩
theorem cut_none {b : UInt8} {p : List UInt8} (h : b ∉ p) : cutA b p = p ∧ cutZ b p = [] := by
  have hp : ∀ c ∈ p, notB b c = true := fun c hc => notB_of fun e => h (e ▸ hc)
  have h1 := List.takeWhile_append_of_pos (p := notB b) (l₁ := p) (l₂ := []) hp
  have h2 := List.dropWhile_append_of_pos (p := notB b) (l₁ := p) (l₂ := []) hp
  rw [List.append_nil] at h1 h2
  rw [cutA, cutZ, h1, h2]
  simp
/-- where a byte is found -/
theorem index_cases (b : UInt8) : ∀ (l : List UInt8), (Lib.indexByte l b = -1 ∧ b ∉ l) ∨ ∃ i : Nat, Lib.indexByte l b = i ∧ i < l.length ∧ cutA b l = l.take i ∧ cutZ b l = l.drop (i + 1) ∧ splitB b l = l.take i :: splitB b (l.drop (i + 1))
  | [] => .inl ⟨rfl, by simp⟩
  | c :: r => by
    by_cases hc : c = b
    · subst hc
      have hn := notB_self c
      refine .inr ⟨0, by simp [Lib.indexByte], by simp, ?_, ?_, ?_⟩
      · rw [cutA, List.takeWhile_cons_of_neg hn]; rfl
      · rw [cutZ, List.dropWhile_cons_of_neg hn]; try rfl
      · rw [splitB, if_pos rfl]; rfl
    · have hb : (c == b) = false := by simpa using hc
      have hp : notB b c = true := notB_of hc
      rcases index_cases b r with ⟨h1, h2⟩ | ⟨i, h1, h2, h3, h4, h5⟩
      · refine .inl ⟨by rw [Lib.indexByte, hb, h1]; rfl, fun h => ?_⟩
        rcases List.mem_cons.1 h with e | e
        · exact hc e.symm
        · exact h2 e
      · refine .inr ⟨i + 1, ?_, by simpa using h2, ?_, ?_, ?_⟩
        · have hne : ((i : Int) == -1) = false := by simp
          rw [Lib.indexByte, hb, h1, hne]
          simp
        · rw [cutA, List.takeWhile_cons_of_pos hp]
          rw [cutA] at h3
          rw [h3]
          rfl
        · rw [cutZ, List.dropWhile_cons_of_pos hp]
          rw [cutZ] at h4
          rw [h4]
          rfl
        · rw [splitB, if_neg hc, h5]
          rfl
theorem splitB_none {b : UInt8} {l : List UInt8} (h : b ∉ l) : splitB b l = [l] := by
  have h1 := splitB_piece b l h []
  rw [List.append_nil] at h1
  rw [h1]
  simp [splitB, glueB]
/-- parts read one by one -/
def readL {β α : Type} (f : β → Option α) : List β → Option (List α)
  | [] => some []
  | p :: ps => match f p with
    | none => none
    | some x => (readL f ps).map fun xs => x :: xs
theorem readL_snoc {β α : Type} (f : β → Option α) (p : β) : ∀ ps : List β, readL f (ps ++ [p]) = match readL f ps, f p with | some xs, some x => some (xs ++ [x]) | _, _ => none
  | [] => by simp only [List.nil_append, readL]; cases f p <;> rfl
  | q :: qs => by
    rw [List.cons_append, readL, readL, readL_snoc f p qs]
    cases f q with
    | none => rfl
    | some y =>
      simp only
      cases readL f qs with
      | none => rfl
      | some ys =>
        cases f p with
        | none => rfl
        | some x => rfl
theorem readL_len {β α : Type} {f : β → Option α} : ∀ {ps : List β} {xs : List α}, readL f ps = some xs → xs.length = ps.length
  | [], xs, h => by obtain rfl := Option.some.inj h; rfl
  | p :: ps, xs, h => by
    rw [readL] at h
    cases hp : f p with
    | none => rw [hp] at h; cases h
    | some x =>
      rw [hp] at h
      simp only at h
      cases hr : readL f ps with
      | none => rw [hr] at h; cases h
      | some ys =>
        rw [hr] at h
        obtain rfl := Option.some.inj h
        simp [readL_len hr]
theorem readL_prefix {β α : Type} {f : β → Option α} {pre : List β} (h : readL f pre = none) : ∀ {ps : List β}, pre <+: ps → readL f ps = none := by
  rintro ps ⟨r, rfl⟩
  induction pre with
  | nil => cases h
  | cons p pre ih =>
    rw [List.cons_append, readL]
    rw [readL] at h
    cases hp : f p with
    | none => rfl
    | some x =>
      rw [hp] at h
      simp only at h ⊢
      cases hr : readL f pre with
      | none => rw [ih hr]; rfl
      | some ys => rw [hr] at h; cases h
theorem readL_map {β α : Type} {f : β → Option α} {g : α → β} : ∀ {xs : List α}, (∀ x ∈ xs, f (g x) = some x) → readL f (xs.map g) = some xs
  | [], _ => rfl
  | x :: xs, h => by
    rw [List.map_cons, readL, h x (List.mem_cons_self ..)]
    simp only
    rw [readL_map fun y hy => h y (List.mem_cons_of_mem _ hy)]
    rfl
/-- what has been read, part by part -/
theorem readL_of {β α : Type} {f : β → Option α} {g : α → β} (hf : ∀ p x, f p = some x → p = g x) : ∀ {ps : List β} {xs : List α}, readL f ps = some xs → ps = xs.map g
  | [], xs, h => by obtain rfl := Option.some.inj h; rfl
  | p :: ps, xs, h => by
    rw [readL] at h
    cases hp : f p with
    | none => rw [hp] at h; cases h
    | some x =>
      rw [hp] at h
      simp only at h
      cases hr : readL f ps with
      | none => rw [hr] at h; cases h
      | some ys =>
        rw [hr] at h
        obtain rfl := Option.some.inj h
        rw [List.map_cons, ← hf p x hp, ← readL_of hf hr]
theorem readL_all {β α : Type} {f : β → Option α} {q : α → Prop} (hf : ∀ p x, f p = some x → q x) : ∀ {ps : List β} {xs : List α}, readL f ps = some xs → ∀ x ∈ xs, q x
  | [], xs, h => by obtain rfl := Option.some.inj h; simp
  | p :: ps, xs, h => by
    rw [readL] at h
    cases hp : f p with
    | none => rw [hp] at h; cases h
    | some x =>
      rw [hp] at h
      simp only at h
      cases hr : readL f ps with
      | none => rw [hr] at h; cases h
      | some ys =>
        rw [hr] at h
        obtain rfl := Option.some.inj h
        intro y hy
        rcases List.mem_cons.1 hy with rfl | hy
        · exact hf p _ hp
        · exact readL_all hf hr y hy
end Go.Proofs.YtjfimmfnhlimkaaDoor.rd
