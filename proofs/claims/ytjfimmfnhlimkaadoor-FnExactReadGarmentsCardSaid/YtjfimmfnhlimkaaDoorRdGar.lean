/-
  Garments read from a text: pure.
-/
import Derived.Test.YtjfimmfnhlimkaaDoorRdKind
import Derived.Test.YtjfimmfnhlimkaaDoorJoin27
import Derived.Lib.Strings
namespace Go.Proofs.YtjfimmfnhlimkaaDoor.rd
open Go Go.RowKit sl dec txt gart

/-- the lines of a text, each with its end -/
def linesB : List UInt8 → List (List UInt8)
  | [] => []
  | c :: r => if c = 10 then [c] :: linesB r else match linesB r with | [] => [[c]] | p :: ps => (c :: p) :: ps
theorem linesB_cases : ∀ (l : List UInt8), l ≠ [] → (Lib.indexByte l 10 = -1 ∧ linesB l = [l]) ∨ ∃ i : Nat, Lib.indexByte l 10 = i ∧ i < l.length ∧ linesB l = l.take (i + 1) :: linesB (l.drop (i + 1))
  | [], h => absurd rfl h
  | c :: r, _ => by
    by_cases hc : c = 10
    · subst hc
      exact .inr ⟨0, by simp [Lib.indexByte], by simp, by rw [linesB, if_pos rfl]; rfl⟩
    · have hb : (c == 10) = false := by simpa using hc
      by_cases hr : r = []
      · subst hr
        refine .inl ⟨by rw [Lib.indexByte, hb]; rfl, ?_⟩
        rw [linesB, if_neg hc, linesB]
      · rcases linesB_cases r hr with ⟨h1, h2⟩ | ⟨i, h1, h2, h3⟩
        · refine .inl ⟨by rw [Lib.indexByte, hb, h1]; rfl, ?_⟩
          rw [linesB, if_neg hc, h2]
        · refine .inr ⟨i + 1, ?_, by simpa using h2, ?_⟩
          · have hne : ((i : Int) == -1) = false := by simp
            rw [Lib.indexByte, hb, h1, hne]
            simp
          · rw [linesB, if_neg hc, h3]
            rfl
theorem linesB_len : ∀ l : List UInt8, (linesB l).length ≤ l.length
  | [] => by simp [linesB]
  | c :: r => by
    have ih := linesB_len r
    unfold linesB
    split
    · simp only [List.length_cons]; omega
    · split
      · simp
      · rename_i h
        rw [h] at ih
        simp only [List.length_cons] at ih ⊢
        omega
theorem linesB_line : ∀ (p : List UInt8), (10 : UInt8) ∉ p → ∀ r, linesB (p ++ 10 :: r) = (p ++ [10]) :: linesB r
  | [], _, r => by rw [List.nil_append, linesB, if_pos rfl]; rfl
  | c :: p, h, r => by
    have hc : ¬ c = 10 := fun e => h (by rw [e]; exact List.mem_cons_self ..)
    have ih := linesB_line p (fun hx => h (List.mem_cons_of_mem _ hx)) r
    rw [List.cons_append, linesB, if_neg hc, ih]
    rfl
/-- a garment's text without its end -/
def garQ (x : Gar) : List UInt8 := Lib.decDigits x.c.toNat ++ 47 :: (Lib.decDigits x.n.toNat ++ 45 :: (Lib.decDigits x.m.toNat ++ 32 :: Lib.decDigits x.g.toNat))
theorem garT_Q (x : Gar) : garT x = garQ x ++ [10] := by simp [garT, garQ]
theorem dec_noG (n : Nat) {b : UInt8} (h : isDig b = false) : b ∉ Lib.decDigits n := fun hb => by
  have h1 := (dec_props n).1 b hb
  rw [h] at h1
  cases h1
theorem garQ_no (x : Gar) : (10 : UInt8) ∉ garQ x := by
  intro h
  rcases List.mem_append.1 h with h | h
  · exact dec_noG _ rfl h
  · rcases List.mem_cons.1 h with h | h
    · exact absurd h (by decide)
    · rcases List.mem_append.1 h with h | h
      · exact dec_noG _ rfl h
      · rcases List.mem_cons.1 h with h | h
        · exact absurd h (by decide)
        · rcases List.mem_append.1 h with h | h
          · exact dec_noG _ rfl h
          · rcases List.mem_cons.1 h with h | h
            · exact absurd h (by decide)
            · exact dec_noG _ rfl h
theorem lines_gars : ∀ xs : List Gar, linesB (garsT xs) = xs.map garT ∧ splitB 10 (garsT xs) = xs.map garQ ++ [[]]
  | [] => ⟨rfl, rfl⟩
  | x :: xs => by
    obtain ⟨i1, i2⟩ := lines_gars xs
    have e : garsT (x :: xs) = garQ x ++ 10 :: garsT xs := by simp [garsT, garT_Q]
    rw [e, linesB_line _ (garQ_no x), i1, splitB_piece 10 _ (garQ_no x), splitB, if_pos rfl, i2]
    exact ⟨by rw [List.map_cons, garT_Q], by simp [glueB]⟩
/-- a text by its lines -/
theorem text_lines (b : UInt8) : ∀ (t : List UInt8) (ini : List (List UInt8)), splitB b t = ini ++ [[]] → t = (ini.map fun p => p ++ [b]).flatten
  | [], ini, h => by
    cases ini with
    | nil => rfl
    | cons p ps =>
      rw [splitB] at h
      have := congrArg List.length h
      simp at this
  | c :: r, ini, h => by
    unfold splitB at h
    by_cases hc : c = b
    · rw [if_pos hc] at h
      cases ini with
      | nil =>
        have h1 := List.cons.inj h
        exact absurd h1.2 (splitB_ne b r)
      | cons p ps =>
        have h1 := List.cons.inj h
        have ih := text_lines b r ps h1.2
        rw [hc, ← h1.1, List.map_cons, List.flatten_cons, ← ih]
        rfl
    · rw [if_neg hc] at h
      cases hs : splitB b r with
      | nil => exact absurd hs (splitB_ne b r)
      | cons q qs =>
        rw [hs] at h
        simp only at h
        cases ini with
        | nil =>
          have h1 := (List.cons.inj h).1
          cases h1
        | cons p ps =>
          have h1 := List.cons.inj h
          have ih := text_lines b r (q :: ps) (by rw [hs, h1.2]; rfl)
          rw [ih, ← h1.1]
          simp
/-- one line, read kindly -/
def readG (p : List UInt8) : Option Gar :=
  match intK 16 (cutA 47 (Lib.trimSuffix p [10])), intK 16 (cutA 45 (cutZ 47 (Lib.trimSuffix p [10]))), intK 16 (cutA 32 (cutZ 45 (cutZ 47 (Lib.trimSuffix p [10])))), intK 16 (cutZ 32 (cutZ 45 (cutZ 47 (Lib.trimSuffix p [10])))) with
  | some a, some b, some c, some d => some ⟨IntKind.u8.wrap a, IntKind.i8.wrap b, IntKind.i8.wrap c, IntKind.i16.wrap d⟩
  | _, _, _, _ => none
theorem wrap_in (k : Nat) (hk : k = 8 ∨ k = 16) {n : Int} (h0 : -(2 ^ (k - 1) : Nat) ≤ n) (h1 : n < (2 ^ (k - 1) : Nat)) : (if k = 8 then IntKind.i8.wrap n else IntKind.i16.wrap n) = n := by
  rcases hk with rfl | rfl
  · have h2 : -128 ≤ n := h0
    have h3 : n < 128 := h1
    simp [IntKind.wrap, IntKind.bits, IntKind.signed]
    split <;> omega
  · have h2 : -32768 ≤ n := h0
    have h3 : n < 32768 := h1
    simp [IntKind.wrap, IntKind.bits, IntKind.signed]
    split <;> omega
theorem wrap_i16R {n : Int} (h0 : -32768 ≤ n) (h1 : n < 32768) : IntKind.i16.wrap n = n := wrap_in 16 (.inr rfl) h0 h1
theorem wrap_i8R {n : Int} (h0 : -128 ≤ n) (h1 : n < 128) : IntKind.i8.wrap n = n := wrap_in 8 (.inl rfl) h0 h1
theorem wrap_u8R {n : Int} (h0 : 0 ≤ n) (h1 : n < 256) : IntKind.u8.wrap n = n := by
  simp [IntKind.wrap, IntKind.bits, IntKind.signed]
  omega
theorem wrap_fitsG (a b c d : Int) : (⟨IntKind.u8.wrap a, IntKind.i8.wrap b, IntKind.i8.wrap c, IntKind.i16.wrap d⟩ : Gar).Fits := by
  constructor <;> simp [IntKind.wrap, IntKind.bits, IntKind.signed] <;> (try split) <;> omega
theorem readG_fits {p : List UInt8} {x : Gar} (h : readG p = some x) : x.Fits := by
  unfold readG at h
  split at h
  · obtain rfl := Option.some.inj h
    exact wrap_fitsG _ _ _ _
  · cases h
theorem trim_line (q : List UInt8) : Lib.trimSuffix (q ++ [10]) [10] = q := by
  have h : Lib.hasSuffix (q ++ [10]) [10] = true := by
    rw [Lib.hasSuffix, List.isSuffixOf_iff_suffix]
    exact List.suffix_append _ _
  rw [Lib.trimSuffix, if_pos h]
  simp
theorem gar_all {x : Gar} (h : Gar.valid x = true) (hf : x.Fits) : (0 ≤ x.c ∧ x.c ≤ 5) ∧ (0 ≤ x.n ∧ x.n ≤ 95) ∧ (0 ≤ x.m ∧ x.m ≤ 95) ∧ (0 ≤ x.g ∧ x.g ≤ 2000) := gar_parts h hf
theorem readG_gar {x : Gar} (h : Gar.valid x = true) (hf : x.Fits) : readG (garT x) = some x := by
  obtain ⟨⟨a, b⟩, ⟨c, d⟩, ⟨e, f⟩, g, i⟩ := gar_parts h hf
  obtain ⟨e1, e2⟩ := cut_at (b := 47) (p := Lib.decDigits x.c.toNat) (dec_noG _ rfl) (Lib.decDigits x.n.toNat ++ 45 :: (Lib.decDigits x.m.toNat ++ 32 :: Lib.decDigits x.g.toNat))
  obtain ⟨e3, e4⟩ := cut_at (b := 45) (p := Lib.decDigits x.n.toNat) (dec_noG _ rfl) (Lib.decDigits x.m.toNat ++ 32 :: Lib.decDigits x.g.toNat)
  obtain ⟨e5, e6⟩ := cut_at (b := 32) (p := Lib.decDigits x.m.toNat) (dec_noG _ rfl) (Lib.decDigits x.g.toNat)
  rw [readG, garT_Q, trim_line, garQ, e1, e2, e3, e4, e5, e6, intK_dec (B := 16) (by omega) (by omega) (show x.c.toNat < 32768 by omega), intK_dec (B := 16) (by omega) (by omega) (show x.n.toNat < 32768 by omega), intK_dec (B := 16) (by omega) (by omega) (show x.m.toNat < 32768 by omega), intK_dec (B := 16) (by omega) (by omega) (show x.g.toNat < 32768 by omega)]
  have h1 : ((x.c.toNat : Nat) : Int) = x.c := by omega
  have h2 : ((x.n.toNat : Nat) : Int) = x.n := by omega
  have h3 : ((x.m.toNat : Nat) : Int) = x.m := by omega
  have h4 : ((x.g.toNat : Nat) : Int) = x.g := by omega
  simp only [h1, h2, h3, h4]
  rw [wrap_u8R (by omega) (by omega), wrap_i8R (by omega) (by omega), wrap_i8R (by omega) (by omega), wrap_i16R (by omega) (by omega)]
def numG (p : List UInt8) : Option Gar := match numsF [47, 45, 32] p with
  | some [a, b, c, d] => if a ≤ 6 ∧ b ≤ 95 ∧ c ≤ 95 ∧ d ≤ 2000 then (if Gar.valid ⟨(a : Int), (b : Int), (c : Int), (d : Int)⟩ = true then some ⟨(a : Int), (b : Int), (c : Int), (d : Int)⟩ else none) else none
  | _ => none
theorem marksG : ∀ m ∈ ([47, 45, 32] : List UInt8), isDig m = false := by decide
theorem numG_some {p : List UInt8} {x : Gar} (h : numG p = some x) : p = garQ x ∧ Gar.valid x = true ∧ x.Fits := by
  rw [numG] at h
  cases hn : numsF [47, 45, 32] p with
  | none => rw [hn] at h; cases h
  | some ys =>
    rw [hn] at h
    obtain ⟨h1, h2, h3⟩ := (numsF_iff marksG).1 hn
    match ys, h1 with
    | [a, b, c, d], _ =>
      simp only at h
      by_cases hc : a ≤ 6 ∧ b ≤ 95 ∧ c ≤ 95 ∧ d ≤ 2000
      · rw [if_pos hc] at h
        by_cases hv : Gar.valid ⟨(a : Int), (b : Int), (c : Int), (d : Int)⟩ = true
        · rw [if_pos hv] at h
          obtain rfl := Option.some.inj h
          refine ⟨by rw [h3, garQ, joinM, joinM, joinM, joinM]; rfl, hv, ?_⟩
          constructor <;> simp only <;> omega
        · rw [if_neg hv] at h; cases h
      · rw [if_neg hc] at h; cases h
theorem numG_gar {x : Gar} (h : Gar.valid x = true) (hf : x.Fits) : numG (garQ x) = some x := by
  obtain ⟨⟨a, b⟩, ⟨c, d⟩, ⟨e, f⟩, g, i⟩ := gar_parts h hf
  have hn : numsF [47, 45, 32] (garQ x) = some [x.c.toNat, x.n.toNat, x.m.toNat, x.g.toNat] := (numsF_iff marksG).2 ⟨rfl, fun y hy => by
    simp only [List.mem_cons, List.not_mem_nil, or_false] at hy
    rcases hy with rfl | rfl | rfl | rfl <;> omega, by rw [garQ, joinM, joinM, joinM, joinM]⟩
  have h1 : ((x.c.toNat : Nat) : Int) = x.c := by omega
  have h2 : ((x.n.toNat : Nat) : Int) = x.n := by omega
  have h3 : ((x.m.toNat : Nat) : Int) = x.m := by omega
  have h4 : ((x.g.toNat : Nat) : Int) = x.g := by omega
  rw [numG, hn]
  simp only
  rw [if_pos (by omega), h1, h2, h3, h4, if_pos h]
/-- what the program reads -/
def progG (t : List UInt8) : Option (List Gar) := match readL readG (linesB t) with
  | some D => if D.length ≤ 8 ∧ garText D = bsJ t then some D else none
  | none => none
/-- what the model reads -/
def specG (t : List UInt8) : Option (List Gar) := if (splitB 10 t).getLast? = some [] ∧ (splitB 10 t).length ≤ 9 then readL numG (splitB 10 t).dropLast else none
theorem progG_eq (t : List UInt8) : progG t = specG t := by
  apply Option.ext
  intro D
  rw [progG, specG]
  constructor
  · intro h
    cases hr : readL readG (linesB t) with
    | none => rw [hr] at h; cases h
    | some E =>
      rw [hr] at h
      simp only at h
      by_cases hc : E.length ≤ 8 ∧ garText E = bsJ t
      · rw [if_pos hc] at h
        obtain rfl := Option.some.inj h
        have hfE := readL_all (fun p x hp => readG_fits hp) hr
        have hm : codeAll E true = 0 := by
          apply Decidable.byContradiction
          intro hm
          have h2 := hc.2
          rw [garText, if_neg hm] at h2
          have ht : t = [] := (bsJ_inj (a := []) h2).symm
          rw [ht, linesB, readL] at hr
          obtain rfl := Option.some.inj hr
          exact hm rfl
        have h2 := hc.2
        rw [garText, if_pos hm] at h2
        have ht := bsJ_inj h2
        obtain ⟨_, h4⟩ := lines_gars E
        rw [← ht, h4, if_pos ⟨by simp, by simp; omega⟩, List.dropLast_concat]
        exact readL_map fun x hx => numG_gar ((codeAll_zero hm).1 x hx) (hfE x hx)
      · rw [if_neg hc] at h; cases h
  · intro h
    by_cases hl : (splitB 10 t).getLast? = some [] ∧ (splitB 10 t).length ≤ 9
    · rw [if_pos hl] at h
      have hsp : splitB 10 t = (splitB 10 t).dropLast ++ [[]] := by
        have h1 := List.dropLast_concat_getLast (splitB_ne 10 t)
        rw [List.getLast?_eq_some_getLast (splitB_ne 10 t)] at hl
        rw [Option.some.inj hl.1] at h1
        exact h1.symm
      have h1 := readL_of (fun p x hp => (numG_some hp).1) h
      have hv := readL_all (q := fun x => Gar.valid x = true ∧ x.Fits) (fun p x hp => (numG_some hp).2) h
      have ht := text_lines 10 t _ hsp
      rw [h1] at ht
      have htg : t = garsT D := by
        rw [ht, garsT, List.map_map]
        congr 1
        exact List.map_congr_left fun x _ => (garT_Q x).symm
      have hlen : D.length ≤ 8 := by
        have h2 := readL_len h
        rw [List.length_dropLast] at h2
        omega
      have hm : codeAll D true = 0 := by
        rw [codeAll, if_pos (List.all_eq_true.2 fun x hx => (hv x hx).1), if_pos rfl, if_neg (by omega)]
      obtain ⟨h3, _⟩ := lines_gars D
      rw [← htg] at h3
      rw [h3, readL_map fun x hx => readG_gar (hv x hx).1 (hv x hx).2]
      simp only
      rw [if_pos ⟨hlen, by rw [garText, if_pos hm, ← htg]⟩]
    · rw [if_neg hl] at h; cases h
end Go.Proofs.YtjfimmfnhlimkaaDoor.rd
