/-
  Several texts of this proof, joined.
-/
import Derived.Test.YtdcckdfemelbiaaDoorJoin17
import Derived.Test.YtdcckdfemelbiaaDoorStill
/-
  Pieces are laid down at a place: add, the program's.
-/
namespace Go.Proofs.YtdcckdfemelbiaaDoor.stk
open Go Go.RowKit sl row fold

theorem upd_same (f : Stk) (j : Nat) (x : Int) : upd f j x j = x := by unfold upd; rw [if_pos rfl]
theorem upd_ne (f : Stk) {i j : Nat} (x : Int) (h : i ≠ j) : upd f j x i = f i := by unfold upd; rw [if_neg h]
/-- a place and where it begins -/
inductive Pl : Value → Nat → Prop
  | clean : Pl placeC 0
  | used : Pl placeU 8
  | dirty : Pl placeD 16
set_option maxRecDepth 100000 in
set_option maxHeartbeats 4000000 in
theorem add_rags (v : Value) (n : Int) (f : Stk) (b p : Nat) (w : World) (h : StkOwn w b p f) (hn : -2147483648 ≤ n ∧ n ≤ 2147483647) (hs : -2147483648 ≤ f 24 + n ∧ f 24 + n ≤ 2147483647) :
    Calls Tryd.prog 155 #[.pointer (some ⟨b, p, none⟩), v, .int .i64 0, .int .i64 n] w fun o w' => o = .returned (.tuple #[]) ∧ StkOwn w' b p (upd f 24 (f 24 + n)) ∧ Chg w w' b p 25 := by
  have H0 := Lib.hid h
  have hc : w.cell? ⟨b, p + 24, none⟩ = some (.int .i32 (f 24)) := h.cell 24 (by omega)
  have hz : w.frozen? ⟨b, p + 24, none⟩ = false := h.free 24 (by omega)
  have w0 : IntKind.i32.wrap n = n := IntWalk.i32_in _ (by omega)
  have w1 : IntKind.i32.wrap (f 24 + n) = f 24 + n := IntWalk.i32_in _ (by omega)
  clear h
  go_enter Tryd.func155, Tryd.ntmps155
  go_wp2_with fail
  refine bodyPost_ret (v := .tuple #[]) (by simp [results, Tryd.results155]) rfl ⟨rfl, ?_, ?_⟩
  · exact StkOwn.setRags H0.out _
  · exact (Chg.refl w b p 25).set (by omega) (by omega) _
set_option maxRecDepth 100000 in
set_option maxHeartbeats 4000000 in
theorem add_any (v : Value) (o u : Nat) (hv : Pl v o) (hu : u < 8) (n : Int) (f : Stk) (b p : Nat) (w : World) (h : StkOwn w b p f) (hn : -32768 ≤ n ∧ n ≤ 32767) (hs : -32768 ≤ f (o + u) + n ∧ f (o + u) + n ≤ 32767) :
    Calls Tryd.prog 155 #[.pointer (some ⟨b, p, none⟩), v, .int .i64 ((u : Int) + 1), .int .i64 n] w fun e w' => e = .returned (.tuple #[]) ∧ StkOwn w' b p (upd f (o + u) (f (o + u) + n)) ∧ Chg w w' b p 25 := by
  have H0 := Lib.hid h
  have ho : o + 8 ≤ 24 := by cases hv <;> omega
  have hc : w.drew.cell? ⟨b, p + o + u, none⟩ = some (.int .i16 (f (o + u))) := by
    have := h.cell (o + u) (by omega)
    rwa [cellS_16 f (by omega), ← Nat.add_assoc] at this
  have hz : w.drew.frozen? ⟨b, p + o + u, none⟩ = false := by
    have := h.free (o + u) (by omega)
    rwa [← Nat.add_assoc] at this
  have w0 : IntKind.i16.wrap n = n := IntWalk.i16_in _ (by omega)
  have w1 : IntKind.i16.wrap (f (o + u) + n) = f (o + u) + n := IntWalk.i16_in _ (by omega)
  have u0 : (((u : Int) + 1) == 0) = false := by rw [beq_eq_false_iff_ne]; omega
  have u1 : IntKind.i64.wrap (u : Int) = u := IntWalk.i64_in _ (by omega)
  have u2 : (0 : Int) ≤ (u : Int) ∧ (u : Int) < 8 := ⟨by omega, by omega⟩
  clear h
  cases hv with
  | clean =>
    (try simp only [Nat.zero_add, Nat.add_zero] at hc hz w1 ⊢)
    go_enter Tryd.func155, Tryd.ntmps155
    go_wp2_with fail
    refine still_region 13 (by kernel_rfl) ?_
    simp only [List.take_succ_cons, List.take_zero, List.drop_succ_cons, List.drop_zero]
    repeat still_step
    still_call (clean_any b p _)
    repeat still_step
    refine wpStill_nil ?_
    go_wp2_with fail
    go_end0
    refine ⟨rfl, ?_, ?_⟩
    · have h3 := StkOwn.set H0.out (j := 0 + u) (by omega) (f (0 + u) + n)
      simp only [Nat.zero_add] at h3
      exact h3.next (Below.refl _ _).drew
    · exact ((Chg.refl w b p 25).set (by omega) (by omega) _).drew
  | used =>
    (try simp only [Nat.zero_add, Nat.add_zero] at hc hz w1 ⊢)
    go_enter Tryd.func155, Tryd.ntmps155
    go_wp2_with fail
    refine still_region 13 (by kernel_rfl) ?_
    simp only [List.take_succ_cons, List.take_zero, List.drop_succ_cons, List.drop_zero]
    repeat still_step
    still_call (used_any b p _)
    repeat still_step
    refine wpStill_nil ?_
    go_wp2_with fail
    go_end0
    refine ⟨rfl, ?_, ?_⟩
    · have h3 := StkOwn.set H0.out (j := 8 + u) (by omega) (f (8 + u) + n)
      simp only [← Nat.add_assoc] at h3
      exact h3.next (Below.refl _ _).drew
    · exact ((Chg.refl w b p 25).set (by omega) (by omega) _).drew
  | dirty =>
    (try simp only [Nat.zero_add, Nat.add_zero] at hc hz w1 ⊢)
    go_enter Tryd.func155, Tryd.ntmps155
    go_wp2_with fail
    refine still_region 13 (by kernel_rfl) ?_
    simp only [List.take_succ_cons, List.take_zero, List.drop_succ_cons, List.drop_zero]
    repeat still_step
    still_call (dirty_any b p _)
    repeat still_step
    refine wpStill_nil ?_
    go_wp2_with fail
    go_end0
    refine ⟨rfl, ?_, ?_⟩
    · have h3 := StkOwn.set H0.out (j := 16 + u) (by omega) (f (16 + u) + n)
      simp only [← Nat.add_assoc] at h3
      exact h3.next (Below.refl _ _).drew
    · exact ((Chg.refl w b p 25).set (by omega) (by omega) _).drew
end Go.Proofs.YtdcckdfemelbiaaDoor.stk

/-
  Pieces are moved from one place of a stock to another; no program in it.
-/
namespace Go.Proofs.YtdcckdfemelbiaaDoor.stk
open Go Go.RowKit sl row fold

/-- a stock of some pieces, not too many -/
structure Good (f : Stk) : Prop where
  pos : ∀ j, j < 25 → 0 ≤ f j
  most : sumTo f 25 ≤ 500
theorem valid_good {f : Stk} : validS f = true ↔ Good f := by
  simp only [validS, Bool.and_eq_true, posS_iff, decide_eq_true_iff]
  exact ⟨fun h => ⟨h.1, h.2⟩, fun h => ⟨h.1, h.2⟩⟩
theorem sumTo_pos {f : Stk} : ∀ n, (∀ j, j < n → 0 ≤ f j) → 0 ≤ sumTo f n
  | 0, _ => by simp [sumTo]
  | n + 1, h => by
    have h1 := sumTo_pos n fun j hj => h j (by omega)
    have h2 := h n (by omega)
    rw [sumTo]
    omega
theorem le_sumTo {f : Stk} : ∀ n, (∀ j, j < n → 0 ≤ f j) → ∀ j, j < n → f j ≤ sumTo f n
  | 0, _, j, hj => absurd hj (by omega)
  | n + 1, h, j, hj => by
    have h2 := h n (by omega)
    have h3 := sumTo_pos n fun j hj => h j (by omega)
    rw [sumTo]
    by_cases e : j = n
    · subst e; omega
    · have := le_sumTo n (fun j hj => h j (by omega)) j (by omega)
      omega
theorem Good.le {f : Stk} (h : Good f) {j : Nat} (hj : j < 25) : f j ≤ 500 := Int.le_trans (le_sumTo 25 h.pos j hj) h.most
theorem Good.fits {f : Stk} (h : Good f) : Fits f :=
  ⟨fun j hj => by have := h.pos j (by omega); omega, fun j hj => by have := h.le (show j < 25 by omega); omega, by have := h.pos 24 (by omega); omega, by have := h.le (show 24 < 25 by omega); omega⟩
theorem sumTo_upd_ge (f : Stk) (j : Nat) (x : Int) : ∀ n, n ≤ j → sumTo (upd f j x) n = sumTo f n
  | 0, _ => rfl
  | n + 1, h => by rw [sumTo, sumTo, sumTo_upd_ge f j x n (by omega), upd_ne f x (by omega)]
theorem sumTo_upd (f : Stk) (j : Nat) (x : Int) : ∀ n, j < n → sumTo (upd f j x) n = sumTo f n - f j + x
  | 0, h => absurd h (by omega)
  | n + 1, h => by
    rw [sumTo, sumTo]
    by_cases e : j = n
    · subst e
      rw [sumTo_upd_ge f j x j (Nat.le_refl _), upd_same]
      omega
    · rw [sumTo_upd f j x n (by omega), upd_ne f x (Ne.symm e)]
      omega
/-- some pieces go from one number to another -/
def shift (f : Stk) (i j : Nat) (n : Int) : Stk := upd (upd f i (f i + -n)) j (upd f i (f i + -n) j + n)
theorem Good.shift {f : Stk} (h : Good f) {i j : Nat} (hi : i < 25) (hj : j < 25) {n : Int} (h0 : 0 ≤ n) (hn : n ≤ f i) : Good (shift f i j n) := by
  constructor
  · intro k hk
    unfold stk.shift
    by_cases e : k = j
    · subst e
      rw [upd_same]
      by_cases e2 : k = i
      · subst e2; rw [upd_same]; omega
      · rw [upd_ne _ _ e2]; have := h.pos k hk; omega
    · rw [upd_ne _ _ e]
      by_cases e2 : k = i
      · subst e2; rw [upd_same]; omega
      · rw [upd_ne _ _ e2]; exact h.pos k hk
  · unfold stk.shift
    rw [sumTo_upd _ _ _ 25 hj, sumTo_upd _ _ _ 25 hi]
    have := h.most
    omega
theorem shift_sum (f : Stk) {i j : Nat} (hi : i < 25) (hj : j < 25) (n : Int) : sumTo (shift f i j n) 25 = sumTo f 25 := by
  unfold shift
  rw [sumTo_upd _ _ _ 25 hj, sumTo_upd _ _ _ 25 hi]
  omega
/-- as many as there are, or as are left -/
def few (r x : Int) : Int := if r < x then r else x
theorem few_le (r x : Int) : few r x ≤ r ∧ few r x ≤ x := by unfold few; split <;> omega
theorem few_pos {r x : Int} (h : 0 ≤ r) (h' : 0 ≤ x) : 0 ≤ few r x := by unfold few; split <;> omega
/-- where pieces with u + 1 uses go -/
def tgt (o ls u : Nat) : Nat := if ls = 0 then o + u else if u = 0 then 24 else o + (u - 1)
theorem tgt_lt {o ls u : Nat} (ho : o + 8 ≤ 24) (hu : u < 8) : tgt o ls u < 25 := by unfold tgt; split <;> (try split) <;> omega
def stepS (o q ls u : Nat) (s : Stk × Int) : Stk × Int := (shift s.1 (o + u) (tgt q ls u) (few s.2 (s.1 (o + u))), s.2 - few s.2 (s.1 (o + u)))
/-- those with the most uses left first -/
def mv (o q ls : Nat) : Nat → Stk × Int → Stk × Int
  | 0, s => s
  | k + 1, s => mv o q ls k (stepS o q ls k s)
theorem step_good {o q ls u : Nat} (ho : o + 8 ≤ 24) (hq : q + 8 ≤ 24) (hu : u < 8) {s : Stk × Int} (h : Good s.1) (hr : 0 ≤ s.2) : Good (stepS o q ls u s).1 ∧ 0 ≤ (stepS o q ls u s).2 ∧ (stepS o q ls u s).2 ≤ s.2 := by
  have h1 := few_le s.2 (s.1 (o + u))
  have h2 := few_pos hr (h.pos (o + u) (by omega))
  exact ⟨h.shift (by omega) (tgt_lt hq hu) h2 h1.2, by unfold stepS; simp only; omega, by unfold stepS; simp only; omega⟩
theorem mv_good {o q ls : Nat} (ho : o + 8 ≤ 24) (hq : q + 8 ≤ 24) : ∀ k, k ≤ 8 → ∀ {s : Stk × Int}, Good s.1 → 0 ≤ s.2 → Good (mv o q ls k s).1 ∧ 0 ≤ (mv o q ls k s).2 ∧ (mv o q ls k s).2 ≤ s.2 ∧ sumTo (mv o q ls k s).1 25 = sumTo s.1 25
  | 0, _, s, h, hr => ⟨h, hr, Int.le_refl _, rfl⟩
  | k + 1, hk, s, h, hr => by
    obtain ⟨a, b, c⟩ := step_good (o := o) (q := q) (ls := ls) ho hq (show k < 8 by omega) h hr
    obtain ⟨a', b', c', d'⟩ := mv_good (o := o) (q := q) (ls := ls) ho hq k (by omega) a b
    refine ⟨a', b', Int.le_trans c' c, d'.trans ?_⟩
    exact shift_sum _ (by omega) (tgt_lt hq (by omega)) _
/-- what was used before is dirty now, of the first so many numbers of uses -/
def dirtLow (k : Nat) (f : Stk) : Stk := fun j => if 16 ≤ j ∧ j < 16 + k then f j + f (j - 8) else if 8 ≤ j ∧ j < 8 + k then 0 else f j
theorem dirtLow_zero (f : Stk) : dirtLow 0 f = f := by
  funext j
  unfold dirtLow
  rw [if_neg (by omega), if_neg (by omega)]
/-- the sum of what was used -/
def usedSum (f : Stk) : Nat → Int
  | 0 => 0
  | k + 1 => usedSum f k + f (8 + k)
theorem usedSum_congr {f g : Stk} : ∀ k, (∀ j, j < k → f (8 + j) = g (8 + j)) → usedSum f k = usedSum g k
  | 0, _ => rfl
  | k + 1, h => by rw [usedSum, usedSum, usedSum_congr k fun j hj => h j (by omega), h k (by omega)]
theorem usedSum_pos {f : Stk} : ∀ k, (∀ j, j < k → 0 ≤ f (8 + j)) → 0 ≤ usedSum f k
  | 0, _ => by simp [usedSum]
  | k + 1, h => by
    have := usedSum_pos (f := f) k fun j hj => h j (by omega)
    have := h k (by omega)
    rw [usedSum]; omega
theorem mv_dirt : ∀ k, k ≤ 8 → ∀ (f : Stk) (r : Int), (∀ j, j < k → 0 ≤ f (8 + j)) → usedSum f k ≤ r → (mv 8 16 0 k (f, r)).1 = dirtLow k f
  | 0, _, f, r, _, _ => by rw [dirtLow_zero]; rfl
  | k + 1, hk, f, r, hp, hs => by
    have h1 : few r (f (8 + k)) = f (8 + k) := by
      have := usedSum_pos (f := f) k fun j hj => hp j (by omega)
      rw [usedSum] at hs
      unfold few
      split <;> omega
    have e : stepS 8 16 0 k (f, r) = (shift f (8 + k) (16 + k) (f (8 + k)), r - f (8 + k)) := by
      unfold stepS tgt
      simp only [h1, if_pos]
    have hne : ∀ j, j < k → shift f (8 + k) (16 + k) (f (8 + k)) (8 + j) = f (8 + j) := fun j hj => by
      unfold shift
      rw [upd_ne _ _ (by omega), upd_ne _ _ (by omega)]
    rw [mv, e, mv_dirt k (by omega) _ _ (fun j hj => by rw [hne j hj]; exact hp j (by omega)) (by
      rw [usedSum_congr k hne]
      rw [usedSum] at hs
      omega)]
    funext j
    unfold dirtLow shift
    by_cases a : j = 16 + k
    · subst a
      rw [if_neg (by omega), if_neg (by omega), upd_same, upd_ne _ _ (by omega), if_pos (by omega), show 16 + k - 8 = 8 + k by omega]
    · by_cases b : j = 8 + k
      · subst b
        rw [if_neg (by omega), if_neg (by omega), upd_ne _ _ (by omega), upd_same, if_neg (by omega), if_pos (by omega)]
        omega
      · by_cases c : 16 ≤ j ∧ j < 16 + k
        · rw [if_pos c, if_pos (by omega), upd_ne _ _ (by omega), upd_ne _ _ (by omega), upd_ne _ _ (by omega), upd_ne _ _ (by omega)]
        · by_cases d : 8 ≤ j ∧ j < 8 + k
          · rw [if_neg c, if_pos d, if_neg (by omega), if_pos (by omega)]
          · rw [if_neg c, if_neg d, if_neg (by omega), if_neg (by omega), upd_ne _ _ a, upd_ne _ _ b]
theorem usedSum_le {f : Stk} (h : Good f) : usedSum f 8 ≤ 500 := by
  have h1 := h.most
  have p := h.pos
  have := p 0 (by omega); have := p 1 (by omega); have := p 2 (by omega); have := p 3 (by omega); have := p 4 (by omega); have := p 5 (by omega); have := p 6 (by omega); have := p 7 (by omega)
  have := p 16 (by omega); have := p 17 (by omega); have := p 18 (by omega); have := p 19 (by omega); have := p 20 (by omega); have := p 21 (by omega); have := p 22 (by omega); have := p 23 (by omega); have := p 24 (by omega)
  simp only [sumTo] at h1
  simp only [usedSum, Nat.reduceAdd]
  omega
/-- a stock behind its use: what is left of the need -/
def useS (f : Stk) (need : Int) : Stk × Int := mv 0 8 1 8 (dirtLow 8 f, need)
theorem dirt_good {f : Stk} (h : Good f) : Good (dirtLow 8 f) ∧ sumTo (dirtLow 8 f) 25 = sumTo f 25 := by
  have e := mv_dirt 8 (Nat.le_refl _) f 500 (fun j hj => h.pos _ (by omega)) (usedSum_le h)
  have g := mv_good (o := 8) (q := 16) (ls := 0) (by omega) (by omega) 8 (Nat.le_refl _) (s := (f, 500)) h (by simp)
  rw [e] at g
  exact ⟨g.1, g.2.2.2⟩
theorem use_good {f : Stk} (h : Good f) {need : Int} (hn : 0 ≤ need) : Good (useS f need).1 ∧ 0 ≤ (useS f need).2 ∧ (useS f need).2 ≤ need ∧ sumTo (useS f need).1 25 = sumTo f 25 := by
  obtain ⟨d, e⟩ := dirt_good h
  obtain ⟨a, b, c, q⟩ := mv_good (o := 0) (q := 8) (ls := 1) (by omega) (by omega) 8 (Nat.le_refl _) (s := (dirtLow 8 f, need)) d hn
  exact ⟨a, b, c, q.trans e⟩
end Go.Proofs.YtdcckdfemelbiaaDoor.stk

/-
  Dirty pieces washed in a house: what comes of it; no program in it.
-/
namespace Go.Proofs.YtdcckdfemelbiaaDoor.hou
open Go Go.RowKit sl row stk fold

/-- one kind: what comes of it, and what is left of the tub -/
abbrev wash1 (f : Stk) (l : Int) : Stk × Int := mv 16 0 0 8 (f, l)
/-- the kinds one after another -/
def washS : List Stk → Int → List Stk × Int
  | [], l => ([], l)
  | f :: t, l => ((wash1 f l).1 :: (washS t (wash1 f l).2).1, (washS t (wash1 f l).2).2)
theorem washS_len : ∀ (xs : List Stk) (l : Int), (washS xs l).1.length = xs.length
  | [], _ => rfl
  | f :: t, l => by rw [washS, List.length_cons, List.length_cons, washS_len t]
theorem wash1_good {f : Stk} {l : Int} (hf : stk.Good f) (hl : 0 ≤ l) : stk.Good (wash1 f l).1 ∧ 0 ≤ (wash1 f l).2 ∧ (wash1 f l).2 ≤ l := by
  obtain ⟨a, b, c, _⟩ := mv_good (o := 16) (q := 0) (ls := 0) (by omega) (by omega) 8 (by omega) (s := (f, l)) hf hl
  exact ⟨a, b, c⟩
theorem washS_good : ∀ (xs : List Stk) (l : Int), (∀ f ∈ xs, stk.Good f) → 0 ≤ l → (∀ f ∈ (washS xs l).1, stk.Good f) ∧ 0 ≤ (washS xs l).2 ∧ (washS xs l).2 ≤ l
  | [], l, _, hl => ⟨(fun f hf => by cases hf), hl, Int.le_refl _⟩
  | f :: t, l, h, hl => by
    obtain ⟨a, b, c⟩ := wash1_good (h f (List.mem_cons_self ..)) hl
    obtain ⟨a', b', c'⟩ := washS_good t (wash1 f l).2 (fun g hg => h g (List.mem_cons_of_mem _ hg)) b
    refine ⟨fun g hg => ?_, by rw [washS]; exact b', by rw [washS]; exact Int.le_trans c' c⟩
    rw [washS] at hg
    rcases List.mem_cons.1 hg with rfl | hg
    · exact a
    · exact a' g hg
theorem washS_snoc : ∀ (xs : List Stk) (f : Stk) (l : Int), washS (xs ++ [f]) l = ((washS xs l).1 ++ [(wash1 f (washS xs l).2).1], (wash1 f (washS xs l).2).2)
  | [], f, l => rfl
  | g :: t, f, l => by
    rw [List.cons_append, washS, washS_snoc t, washS]
    rfl
/-- what a house holds behind the first i kinds -/
def washI (xs : List Stk) (l : Int) (i : Nat) : List Stk × Int := ((washS (xs.take i) l).1 ++ xs.drop i, (washS (xs.take i) l).2)
theorem washI_zero (xs : List Stk) (l : Int) : washI xs l 0 = (xs, l) := by simp [washI, washS]
theorem washI_all (xs : List Stk) (l : Int) : washI xs l xs.length = washS xs l := by simp [washI]
theorem washI_len (xs : List Stk) (l : Int) (i : Nat) : (washI xs l i).1.length = xs.length := by
  simp [washI, washS_len]
  omega
theorem washI_next {xs : List Stk} {i : Nat} {f : Stk} (l : Int) (h : xs[i]? = some f) : washI xs l (i + 1) = ((washI xs l i).1.set i (wash1 f (washI xs l i).2).1, (wash1 f (washI xs l i).2).2) := by
  obtain ⟨hi, rfl⟩ := List.getElem?_eq_some_iff.1 h
  have h1 : xs.take (i + 1) = xs.take i ++ [xs[i]] := by rw [List.take_succ_eq_append_getElem hi]
  have h2 : xs.drop i = xs[i] :: xs.drop (i + 1) := List.drop_eq_getElem_cons hi
  have h3 : (washS (xs.take i) l).1.length = i := by rw [washS_len, List.length_take]; omega
  unfold washI
  rw [h1, washS_snoc, h2, List.set_append_right _ _ (by omega), h3, Nat.sub_self, List.set_cons_zero, List.append_assoc]
  rfl
/-- the kind that is washed next is still as it was -/
theorem washI_at {xs : List Stk} {i : Nat} {f : Stk} (l : Int) (h : xs[i]? = some f) : (washI xs l i).1[i]? = some f := by
  obtain ⟨hi, rfl⟩ := List.getElem?_eq_some_iff.1 h
  have h3 : (washS (xs.take i) l).1.length = i := by rw [washS_len, List.length_take]; omega
  unfold washI
  rw [List.getElem?_append_right (by omega), h3, Nat.sub_self, List.getElem?_drop]
  simp
theorem washI_good {xs : List Stk} {l : Int} (i : Nat) (h : ∀ f ∈ xs, stk.Good f) (hl : 0 ≤ l) : (∀ f ∈ (washI xs l i).1, stk.Good f) ∧ 0 ≤ (washI xs l i).2 ∧ (washI xs l i).2 ≤ l := by
  obtain ⟨a, b, c⟩ := washS_good (xs.take i) l (fun f hf => h f (List.mem_of_mem_take hf)) hl
  refine ⟨fun f hf => ?_, b, c⟩
  rcases List.mem_append.1 hf with h1 | h1
  · exact a f h1
  · exact h f (List.mem_of_mem_drop h1)
end Go.Proofs.YtdcckdfemelbiaaDoor.hou

/-
  Pieces are moved: the program's move, at the three pairs of places.
-/
namespace Go.Proofs.YtdcckdfemelbiaaDoor.stk
open Go Go.RowKit sl row fold

set_option maxRecDepth 100000 in
set_option maxHeartbeats 4000000 in
theorem move_ud (f : Stk) (hf : Good f) (most : Int) (hm : 0 ≤ most ∧ most ≤ 100000) (b p : Nat) (w : World) (h : StkOwn w b p f) :
    Calls Tryd.prog 144 #[.pointer (some ⟨b, p, none⟩), placeU, placeD, .int .i64 most, .int .i64 0] w fun e w' => e = .returned (.int .i64 (most - (mv 8 16 0 8 (f, most)).2)) ∧ StkOwn w' b p (mv 8 16 0 8 (f, most)).1 ∧ Chg w w' b p 25 := by
  obtain ⟨z, hz⟩ : ∃ z, z = mv 8 16 0 8 (f, most) := ⟨_, rfl⟩
  rw [← hz]
  have HZ := Lib.hid hz
  have H0 := Lib.hid h
  clear hz h
  go_enter Tryd.func144, Tryd.ntmps144
  go_wp2_with fail
  go_loopw [11, 12, 13] (fun vm vu _ wr => ∃ (k : Nat) (r m : Int) (g : Stk), k ≤ 8 ∧ vu = .int .i64 (k : Nat) ∧ vm = .int .i64 m ∧ Hid (m = most - r) ∧ mv 8 16 0 k (g, r) = z ∧ StkOwn wr b p g ∧ Chg w wr b p 25 ∧ (Good g ∧ 0 ≤ r ∧ r ≤ most)) (fun _ vu _ _ => (intOf vu).toNat)
  case atStart => exact ⟨8, most, 0, f, by omega, rfl, rfl, Lib.hid (by omega), HZ.out.symm, H0.out, Chg.refl _ _ _ _, hf, by omega, by omega⟩
  case round =>
    obtain ⟨k, r, m, g, hk, rfl, rfl, HMR, hmv, hO, hG, hgood, hr0, hr1⟩ := hrel
    have HO := Lib.hid hO
    have HG := Lib.hid hG
    have HM := Lib.hid hmv
    clear hO hG hmv
    cases k with
    | zero =>
      obtain ⟨e1, e2⟩ : g = z.1 ∧ r = z.2 := by
        have := HM.out
        rw [mv] at this
        rw [← this]
        exact ⟨rfl, rfl⟩
      subst e1 e2
      have HGO := Lib.hid hgood
      clear hgood
      go_wp2_with fail
      go_ret
      exact ⟨ret_int HMR.out, HO.out, HG.out⟩
    | succ k =>
      have hc : wr.cell? ⟨b, p + 8 + k, none⟩ = some (.int .i16 (g (8 + k))) := by
        have := HO.out.cell (8 + k) (by omega)
        rw [cellS_16 g (by omega), ← Nat.add_assoc] at this
        simpa using this
      have hp := hgood.pos (8 + k) (by omega)
      have hl := hgood.le (show 8 + k < 25 by omega)
      have e0 : (8 + k) = 8 + k := by omega
      obtain ⟨n, hn⟩ : ∃ n, n = few r (g (8 + k)) := ⟨_, rfl⟩
      have hn1 := few_le r (g (8 + k))
      have hn2 := few_pos hr0 hp
      rw [← hn] at hn1 hn2
      have hnn : (if r < g (8 + k) then r else g (8 + k)) = n := by rw [e0, hn]; rfl
      obtain ⟨s0, s1, s2⟩ := step_good (o := 8) (q := 16) (ls := 0) (u := k) (s := (g, r)) (by omega) (by omega) (by omega) hgood hr0
      obtain ⟨g2, hg2⟩ : ∃ g2, g2 = upd g (8 + k) (g (8 + k) + -n) := ⟨_, rfl⟩
      have es : stepS 8 16 0 k (g, r) = (upd g2 (tgt 16 0 k) (g2 (tgt 16 0 k) + n), r - n) := by
        unfold stepS shift
        simp only [← hn, hg2]
      rw [es] at s0 s1 s2
      have HQ : Hid (Good (upd g2 (tgt 16 0 k) (g2 (tgt 16 0 k) + n)) ∧ 0 ≤ r - n ∧ r - n ≤ most) := Lib.hid ⟨s0, s1, by omega⟩
      have hM2 : mv 8 16 0 k (upd g2 (tgt 16 0 k) (g2 (tgt 16 0 k) + n), r - n) = z := by
        have := HM.out
        rw [mv, es] at this
        exact this
      have hS2 : -2147483648 ≤ g2 (tgt 16 0 k) + n ∧ g2 (tgt 16 0 k) + n ≤ 500 := by
        have a := s0.pos _ (tgt_lt (o := 16) (ls := 0) (by omega) (show k < 8 by omega))
        have b := s0.le (tgt_lt (o := 16) (ls := 0) (by omega) (show k < 8 by omega))
        simp only [upd_same] at a b
        omega
      have hS0 : 0 ≤ g2 (tgt 16 0 k) + n := by
        have a := s0.pos _ (tgt_lt (o := 16) (ls := 0) (by omega) (show k < 8 by omega))
        simpa only [upd_same] using a
      have x1 : wrap64 (most - m) = r := by have := HMR.out; unfold wrap64; omega
      have x2 : wrap64 (-n) = -n := by unfold wrap64; omega
      have x3 : wrap64 (m + n) = m + n := by have := HMR.out; unfold wrap64; omega
      have HMR2 : Hid (m + n = most - (r - n)) := Lib.hid (by have := HMR.out; omega)
      have x4 : IntKind.i64.wrap (k : Int) = k := IntWalk.i64_in _ (by omega)
      have x5 : IntKind.i64.wrap (g (8 + k)) = g (8 + k) := IntWalk.i64_in _ (by rw [e0]; omega)
      have HH : Hid (g (8 + k) ≤ 500) := Lib.hid hl
      have HN : Hid (0 ≤ n ∧ n ≤ 500 ∧ n ≤ g (8 + k)) := Lib.hid ⟨hn2, by omega, hn1.2⟩
      have HE2 := Lib.hid hg2
      have HM2 := Lib.hid hM2
      have HT := Lib.hid (And.intro hS0 hS2.2)
      clear hS0 hS2 hM2 hg2 es s0 s1 s2 hn hn1 hn2 hp hl hgood e0
      go_wp2_with fail
      refine (used_any b p _).mono ?_
      rintro e w1 ⟨rfl, rfl⟩
      go_wp2_with fail
      refine (add_any placeU 8 k .used (by omega) (-n) g b p _ HO.out (by have := HN.out; omega) (by have := HN.out; have := HH.out; omega)).mono ?_
      rintro e w2 ⟨rfl, hO2, hg2⟩
      rw [← HE2.out] at hO2
      have HO2 := Lib.hid hO2
      have HG2 := Lib.hid (Chg.trans HG.out hg2)
      clear hO2 hg2 HO HG hc hnn x1 x2 x5
      have ht : tgt 16 0 k = 16 + k := by simp [tgt]
      rw [ht] at HT HM2 HQ
      have x6 : IntKind.i64.wrap ((k : Int) + 1) = (k : Int) + 1 := IntWalk.i64_in _ (by omega)
      have x7 : wrap64 ((k : Int) + 1) = (k : Int) + 1 := by unfold wrap64; omega
      clear ht
      go_wp2_with fail
      refine (add_any placeD 16 k .dirty (by omega) n g2 b p _ HO2.out (by have := HN.out; omega) (by have := HT.out; omega)).mono ?_
      rintro e w3 ⟨rfl, hO3, hg3⟩
      have HG3 := Lib.hid (Chg.trans HG2.out hg3)
      have HO3 := Lib.hid hO3
      clear hO3 hg3 HO2 HG2
      go_wp2_with fail
      go_roundw
      case rel => exact ⟨k, r - n, m + n, _, by omega, by go_num, by first | rfl | (congr 1; done) | (congr 1; omega), HMR2, HM2.out, HO3.out, HG3.out, HQ.out⟩
      case measure => first | (simp [intOf]; done) | (simp [intOf]; omega)
set_option maxRecDepth 100000 in
set_option maxHeartbeats 4000000 in
theorem move_cu (f : Stk) (hf : Good f) (most : Int) (hm : 0 ≤ most ∧ most ≤ 100000) (b p : Nat) (w : World) (h : StkOwn w b p f) :
    Calls Tryd.prog 144 #[.pointer (some ⟨b, p, none⟩), placeC, placeU, .int .i64 most, .int .i64 1] w fun e w' => e = .returned (.int .i64 (most - (mv 0 8 1 8 (f, most)).2)) ∧ StkOwn w' b p (mv 0 8 1 8 (f, most)).1 ∧ Chg w w' b p 25 := by
  obtain ⟨z, hz⟩ : ∃ z, z = mv 0 8 1 8 (f, most) := ⟨_, rfl⟩
  rw [← hz]
  have HZ := Lib.hid hz
  have H0 := Lib.hid h
  clear hz h
  go_enter Tryd.func144, Tryd.ntmps144
  go_wp2_with fail
  go_loopw [11, 12, 13] (fun vm vu _ wr => ∃ (k : Nat) (r m : Int) (g : Stk), k ≤ 8 ∧ vu = .int .i64 (k : Nat) ∧ vm = .int .i64 m ∧ Hid (m = most - r) ∧ mv 0 8 1 k (g, r) = z ∧ StkOwn wr b p g ∧ Chg w wr b p 25 ∧ (Good g ∧ 0 ≤ r ∧ r ≤ most)) (fun _ vu _ _ => (intOf vu).toNat)
  case atStart => exact ⟨8, most, 0, f, by omega, rfl, rfl, Lib.hid (by omega), HZ.out.symm, H0.out, Chg.refl _ _ _ _, hf, by omega, by omega⟩
  case round =>
    obtain ⟨k, r, m, g, hk, rfl, rfl, HMR, hmv, hO, hG, hgood, hr0, hr1⟩ := hrel
    have HO := Lib.hid hO
    have HG := Lib.hid hG
    have HM := Lib.hid hmv
    clear hO hG hmv
    cases k with
    | zero =>
      obtain ⟨e1, e2⟩ : g = z.1 ∧ r = z.2 := by
        have := HM.out
        rw [mv] at this
        rw [← this]
        exact ⟨rfl, rfl⟩
      subst e1 e2
      have HGO := Lib.hid hgood
      clear hgood
      go_wp2_with fail
      go_ret
      exact ⟨ret_int HMR.out, HO.out, HG.out⟩
    | succ k =>
      have hc : wr.cell? ⟨b, p + k, none⟩ = some (.int .i16 (g (k))) := by
        have := HO.out.cell (0 + k) (by omega)
        rw [cellS_16 g (by omega), ← Nat.add_assoc] at this
        simpa using this
      have hp := hgood.pos (0 + k) (by omega)
      have hl := hgood.le (show 0 + k < 25 by omega)
      have e0 : (k) = 0 + k := by omega
      obtain ⟨n, hn⟩ : ∃ n, n = few r (g (0 + k)) := ⟨_, rfl⟩
      have hn1 := few_le r (g (0 + k))
      have hn2 := few_pos hr0 hp
      rw [← hn] at hn1 hn2
      have hnn : (if r < g (k) then r else g (k)) = n := by rw [e0, hn]; rfl
      obtain ⟨s0, s1, s2⟩ := step_good (o := 0) (q := 8) (ls := 1) (u := k) (s := (g, r)) (by omega) (by omega) (by omega) hgood hr0
      obtain ⟨g2, hg2⟩ : ∃ g2, g2 = upd g (0 + k) (g (0 + k) + -n) := ⟨_, rfl⟩
      have es : stepS 0 8 1 k (g, r) = (upd g2 (tgt 8 1 k) (g2 (tgt 8 1 k) + n), r - n) := by
        unfold stepS shift
        simp only [← hn, hg2]
      rw [es] at s0 s1 s2
      have HQ : Hid (Good (upd g2 (tgt 8 1 k) (g2 (tgt 8 1 k) + n)) ∧ 0 ≤ r - n ∧ r - n ≤ most) := Lib.hid ⟨s0, s1, by omega⟩
      have hM2 : mv 0 8 1 k (upd g2 (tgt 8 1 k) (g2 (tgt 8 1 k) + n), r - n) = z := by
        have := HM.out
        rw [mv, es] at this
        exact this
      have hS2 : -2147483648 ≤ g2 (tgt 8 1 k) + n ∧ g2 (tgt 8 1 k) + n ≤ 500 := by
        have a := s0.pos _ (tgt_lt (o := 8) (ls := 1) (by omega) (show k < 8 by omega))
        have b := s0.le (tgt_lt (o := 8) (ls := 1) (by omega) (show k < 8 by omega))
        simp only [upd_same] at a b
        omega
      have hS0 : 0 ≤ g2 (tgt 8 1 k) + n := by
        have a := s0.pos _ (tgt_lt (o := 8) (ls := 1) (by omega) (show k < 8 by omega))
        simpa only [upd_same] using a
      have x1 : wrap64 (most - m) = r := by have := HMR.out; unfold wrap64; omega
      have x2 : wrap64 (-n) = -n := by unfold wrap64; omega
      have x3 : wrap64 (m + n) = m + n := by have := HMR.out; unfold wrap64; omega
      have HMR2 : Hid (m + n = most - (r - n)) := Lib.hid (by have := HMR.out; omega)
      have x4 : IntKind.i64.wrap (k : Int) = k := IntWalk.i64_in _ (by omega)
      have x5 : IntKind.i64.wrap (g (k)) = g (k) := IntWalk.i64_in _ (by rw [e0]; omega)
      have HH : Hid (g (0 + k) ≤ 500) := Lib.hid hl
      have HN : Hid (0 ≤ n ∧ n ≤ 500 ∧ n ≤ g (0 + k)) := Lib.hid ⟨hn2, by omega, hn1.2⟩
      have HE2 := Lib.hid hg2
      have HM2 := Lib.hid hM2
      have HT := Lib.hid (And.intro hS0 hS2.2)
      clear hS0 hS2 hM2 hg2 es s0 s1 s2 hn hn1 hn2 hp hl hgood e0
      go_wp2_with fail
      refine (clean_any b p _).mono ?_
      rintro e w1 ⟨rfl, rfl⟩
      go_wp2_with fail
      refine (add_any placeC 0 k .clean (by omega) (-n) g b p _ HO.out (by have := HN.out; omega) (by have := HN.out; have := HH.out; omega)).mono ?_
      rintro e w2 ⟨rfl, hO2, hg2⟩
      rw [← HE2.out] at hO2
      have HO2 := Lib.hid hO2
      have HG2 := Lib.hid (Chg.trans HG.out hg2)
      clear hO2 hg2 HO HG hc hnn x1 x2 x5
      cases k with
      | zero =>
        have ht : tgt 8 1 0 = 24 := by simp [tgt]
        rw [ht] at HT HM2 HQ
        clear ht
        go_wp2_with fail
        refine (add_rags placeU n g2 b p _ HO2.out (by have := HN.out; omega) (by have := HT.out; omega)).mono ?_
        rintro e w3 ⟨rfl, hO3, hg3⟩
        have HG3 := Lib.hid (Chg.trans HG2.out hg3)
        have HO3 := Lib.hid hO3
        clear hO3 hg3 HO2 HG2
        go_wp2_with fail
        go_roundw
        case rel => exact ⟨0, r - n, m + n, _, by omega, by go_num, by first | rfl | (congr 1; done) | (congr 1; omega), HMR2, HM2.out, HO3.out, HG3.out, HQ.out⟩
        case measure => first | (simp [intOf]; done) | (simp [intOf]; omega)
      | succ j =>
        have ht : tgt 8 1 (j + 1) = 8 + j := by simp [tgt]
        rw [ht] at HT HM2 HQ
        have x6 : IntKind.i64.wrap ((j : Int) + 1) = (j : Int) + 1 := IntWalk.i64_in _ (by omega)
        clear ht
        go_wp2_with fail
        refine (add_any placeU 8 j .used (by omega) n g2 b p _ HO2.out (by have := HN.out; omega) (by have := HT.out; omega)).mono ?_
        rintro e w3 ⟨rfl, hO3, hg3⟩
        have HG3 := Lib.hid (Chg.trans HG2.out hg3)
        have HO3 := Lib.hid hO3
        clear hO3 hg3 HO2 HG2
        go_wp2_with fail
        go_roundw
        case rel => exact ⟨j + 1, r - n, m + n, _, by omega, by go_num, by first | rfl | (congr 1; done) | (congr 1; omega), HMR2, HM2.out, HO3.out, HG3.out, HQ.out⟩
        case measure => first | (simp [intOf]; done) | (simp [intOf]; omega)
set_option maxRecDepth 100000 in
set_option maxHeartbeats 4000000 in
theorem move_dc (f : Stk) (hf : Good f) (most : Int) (hm : 0 ≤ most ∧ most ≤ 100000) (b p : Nat) (w : World) (h : StkOwn w b p f) :
    Calls Tryd.prog 144 #[.pointer (some ⟨b, p, none⟩), placeD, placeC, .int .i64 most, .int .i64 0] w fun e w' => e = .returned (.int .i64 (most - (mv 16 0 0 8 (f, most)).2)) ∧ StkOwn w' b p (mv 16 0 0 8 (f, most)).1 ∧ Chg w w' b p 25 := by
  obtain ⟨z, hz⟩ : ∃ z, z = mv 16 0 0 8 (f, most) := ⟨_, rfl⟩
  rw [← hz]
  have HZ := Lib.hid hz
  have H0 := Lib.hid h
  clear hz h
  go_enter Tryd.func144, Tryd.ntmps144
  go_wp2_with fail
  go_loopw [11, 12, 13] (fun vm vu _ wr => ∃ (k : Nat) (r m : Int) (g : Stk), k ≤ 8 ∧ vu = .int .i64 (k : Nat) ∧ vm = .int .i64 m ∧ Hid (m = most - r) ∧ mv 16 0 0 k (g, r) = z ∧ StkOwn wr b p g ∧ Chg w wr b p 25 ∧ (Good g ∧ 0 ≤ r ∧ r ≤ most)) (fun _ vu _ _ => (intOf vu).toNat)
  case atStart => exact ⟨8, most, 0, f, by omega, rfl, rfl, Lib.hid (by omega), HZ.out.symm, H0.out, Chg.refl _ _ _ _, hf, by omega, by omega⟩
  case round =>
    obtain ⟨k, r, m, g, hk, rfl, rfl, HMR, hmv, hO, hG, hgood, hr0, hr1⟩ := hrel
    have HO := Lib.hid hO
    have HG := Lib.hid hG
    have HM := Lib.hid hmv
    clear hO hG hmv
    cases k with
    | zero =>
      obtain ⟨e1, e2⟩ : g = z.1 ∧ r = z.2 := by
        have := HM.out
        rw [mv] at this
        rw [← this]
        exact ⟨rfl, rfl⟩
      subst e1 e2
      have HGO := Lib.hid hgood
      clear hgood
      go_wp2_with fail
      go_ret
      exact ⟨ret_int HMR.out, HO.out, HG.out⟩
    | succ k =>
      have hc : wr.cell? ⟨b, p + 16 + k, none⟩ = some (.int .i16 (g (16 + k))) := by
        have := HO.out.cell (16 + k) (by omega)
        rw [cellS_16 g (by omega), ← Nat.add_assoc] at this
        simpa using this
      have hp := hgood.pos (16 + k) (by omega)
      have hl := hgood.le (show 16 + k < 25 by omega)
      have e0 : (16 + k) = 16 + k := by omega
      obtain ⟨n, hn⟩ : ∃ n, n = few r (g (16 + k)) := ⟨_, rfl⟩
      have hn1 := few_le r (g (16 + k))
      have hn2 := few_pos hr0 hp
      rw [← hn] at hn1 hn2
      have hnn : (if r < g (16 + k) then r else g (16 + k)) = n := by rw [e0, hn]; rfl
      obtain ⟨s0, s1, s2⟩ := step_good (o := 16) (q := 0) (ls := 0) (u := k) (s := (g, r)) (by omega) (by omega) (by omega) hgood hr0
      obtain ⟨g2, hg2⟩ : ∃ g2, g2 = upd g (16 + k) (g (16 + k) + -n) := ⟨_, rfl⟩
      have es : stepS 16 0 0 k (g, r) = (upd g2 (tgt 0 0 k) (g2 (tgt 0 0 k) + n), r - n) := by
        unfold stepS shift
        simp only [← hn, hg2]
      rw [es] at s0 s1 s2
      have HQ : Hid (Good (upd g2 (tgt 0 0 k) (g2 (tgt 0 0 k) + n)) ∧ 0 ≤ r - n ∧ r - n ≤ most) := Lib.hid ⟨s0, s1, by omega⟩
      have hM2 : mv 16 0 0 k (upd g2 (tgt 0 0 k) (g2 (tgt 0 0 k) + n), r - n) = z := by
        have := HM.out
        rw [mv, es] at this
        exact this
      have hS2 : -2147483648 ≤ g2 (tgt 0 0 k) + n ∧ g2 (tgt 0 0 k) + n ≤ 500 := by
        have a := s0.pos _ (tgt_lt (o := 0) (ls := 0) (by omega) (show k < 8 by omega))
        have b := s0.le (tgt_lt (o := 0) (ls := 0) (by omega) (show k < 8 by omega))
        simp only [upd_same] at a b
        omega
      have hS0 : 0 ≤ g2 (tgt 0 0 k) + n := by
        have a := s0.pos _ (tgt_lt (o := 0) (ls := 0) (by omega) (show k < 8 by omega))
        simpa only [upd_same] using a
      have x1 : wrap64 (most - m) = r := by have := HMR.out; unfold wrap64; omega
      have x2 : wrap64 (-n) = -n := by unfold wrap64; omega
      have x3 : wrap64 (m + n) = m + n := by have := HMR.out; unfold wrap64; omega
      have HMR2 : Hid (m + n = most - (r - n)) := Lib.hid (by have := HMR.out; omega)
      have x4 : IntKind.i64.wrap (k : Int) = k := IntWalk.i64_in _ (by omega)
      have x5 : IntKind.i64.wrap (g (16 + k)) = g (16 + k) := IntWalk.i64_in _ (by rw [e0]; omega)
      have HH : Hid (g (16 + k) ≤ 500) := Lib.hid hl
      have HN : Hid (0 ≤ n ∧ n ≤ 500 ∧ n ≤ g (16 + k)) := Lib.hid ⟨hn2, by omega, hn1.2⟩
      have HE2 := Lib.hid hg2
      have HM2 := Lib.hid hM2
      have HT := Lib.hid (And.intro hS0 hS2.2)
      clear hS0 hS2 hM2 hg2 es s0 s1 s2 hn hn1 hn2 hp hl hgood e0
      go_wp2_with fail
      refine (dirty_any b p _).mono ?_
      rintro e w1 ⟨rfl, rfl⟩
      go_wp2_with fail
      refine (add_any placeD 16 k .dirty (by omega) (-n) g b p _ HO.out (by have := HN.out; omega) (by have := HN.out; have := HH.out; omega)).mono ?_
      rintro e w2 ⟨rfl, hO2, hg2⟩
      rw [← HE2.out] at hO2
      have HO2 := Lib.hid hO2
      have HG2 := Lib.hid (Chg.trans HG.out hg2)
      clear hO2 hg2 HO HG hc hnn x1 x2 x5
      have ht : tgt 0 0 k = 0 + k := by simp [tgt]
      rw [ht] at HT HM2 HQ
      have x6 : IntKind.i64.wrap ((k : Int) + 1) = (k : Int) + 1 := IntWalk.i64_in _ (by omega)
      have x7 : wrap64 ((k : Int) + 1) = (k : Int) + 1 := by unfold wrap64; omega
      clear ht
      go_wp2_with fail
      refine (add_any placeC 0 k .clean (by omega) n g2 b p _ HO2.out (by have := HN.out; omega) (by have := HT.out; omega)).mono ?_
      rintro e w3 ⟨rfl, hO3, hg3⟩
      have HG3 := Lib.hid (Chg.trans HG2.out hg3)
      have HO3 := Lib.hid hO3
      clear hO3 hg3 HO2 HG2
      go_wp2_with fail
      go_roundw
      case rel => exact ⟨k, r - n, m + n, _, by omega, by go_num, by first | rfl | (congr 1; done) | (congr 1; omega), HMR2, HM2.out, HO3.out, HG3.out, HQ.out⟩
      case measure => first | (simp [intOf]; done) | (simp [intOf]; omega)
end Go.Proofs.YtdcckdfemelbiaaDoor.stk

/-
  A kind is used: turnOf, the program's.
-/
namespace Go.Proofs.YtdcckdfemelbiaaDoor.stk
open Go Go.RowKit sl row fold

/-- a stock behind its use, and by how many it was short -/
def cellT (f : Stk) (s : Int) (j : Nat) : Value := if j = 25 then .int .i64 s else cellS f j
def turnCs (f : Stk) (s : Int) : Array Value := (lst 26 (cellT f s)).toArray
abbrev turnV (f : Stk) (s : Int) : Value := .agg (turnCs f s)
theorem turnCs_size (f : Stk) (s : Int) : (turnCs f s).size = 26 := by simp [turnCs, lst_len]
theorem turnCs_one (f : Stk) (s : Int) : (turnCs f s).all (·.oneCell') = true := lst_one fun j _ => by unfold cellT; split; rfl; exact cellS_one f j
theorem infoT : (Tryd.prog.info? 219).map (·.size) = some 26 := by kernel_rfl
theorem zeroTi : (Tryd.prog.info? 219).map (fun i => (i.zero, i.size)) = some (some (.agg (turnCs zeroS 0)), 26) := by kernel_rfl
set_option maxRecDepth 100000 in
theorem build_turn (f : Stk) (u : World) : (Instr.build 219 #[(0, stkV f)]).run Tryd.prog u = .ok (turnV f 0) u := by kernel_rfl
abbrev TurnOwn (u : World) (b : Nat) (f : Stk) (s : Int) : Prop := RowOwn u b 0 26 (cellT f s)
theorem TurnOwn.stk {u : World} {b : Nat} {f : Stk} {s : Int} (h : TurnOwn u b f s) : StkOwn u b 0 f :=
  (RowOwn.sub h 0 25 (by omega)).to fun j hj => by unfold cellT; rw [Nat.zero_add, if_neg (by omega)]
theorem TurnOwn.new (w : World) (f : Stk) (s : Int) (T : TypeId) : TurnOwn (w.alloc (.cells (turnCs f s) T)) w.heap.size f s := RowOwn.new w 26 (cellT f s) T
theorem TurnOwn.to_stk {u v : World} {b : Nat} {f g : Stk} {s : Int} (h : TurnOwn u b f s) (k : StkOwn v b 0 g) (hc : Chg u v b 0 25) : TurnOwn v b g s :=
  ⟨⟨k.lt, fun j hj => by
    by_cases e : j = 25
    · subst e
      exact (hc.out (0 + 25) (by omega)).trans (h.cell 25 (by omega))
    · have := k.cell j (by omega)
      rw [this]
      unfold cellT
      rw [if_neg e]⟩, fun j hj => (hc.fz _).trans (h.free j hj)⟩
theorem TurnOwn.short {u : World} {b : Nat} {f : Stk} {s : Int} (h : TurnOwn u b f s) (x : Int) : TurnOwn (u.setCell ⟨b, 25, none⟩ (.int .i64 x)) b f x := by
  have := RowOwn.set h (show 25 < 26 by omega) (.int .i64 x)
  rw [Nat.zero_add] at this
  exact this.to fun j hj => by
    unfold cellT
    by_cases e : j = 25
    · rw [if_pos e, if_pos e]
    · rw [if_neg e, if_neg e, if_neg e]
section
variable {ops : Array Oper} {rest : List Oper} {op : Oper} {a : Act} {u : World} {Q : Exit → Act → World → Prop}
theorem wpl_load_turn (hgd : op.guard = none) (x : Operand) (ho : op.op = .load 219 x) (b : Nat) (hx : a.eval x = .pointer (some ⟨b, 0, none⟩))
    {f : Stk} {s : Int} (h : TurnOwn u b f s) (hK : wpList Tryd.prog ops Q rest (a.put op.dst (turnV f s)) u) : wpList Tryd.prog ops Q (op :: rest) a u :=
  wpList_load_mid hgd 219 x ho b 0 hx (lst 26 (cellT f s)) _ h.range Tryd.underlying219 rfl (by rw [infoT, lst_len]) hK
theorem wpl_store_turn (hgd : op.guard = none) (x y : Operand) (ho : op.op = .store 219 x y) (b : Nat) (hx : a.eval x = .pointer (some ⟨b, 0, none⟩))
    {f g : Stk} {s r : Int} (hy : a.eval y = turnV f s) (ht : TurnOwn u b g r) (hK : wpList Tryd.prog ops Q rest (a.put op.dst undef) (u.setCells b 0 (lst 26 (cellT f s)))) : wpList Tryd.prog ops Q (op :: rest) a u :=
  wpList_store_mid hgd 219 x y ho b 0 (turnCs f s) hx hy (by rw [turnCs_size]; exact ht.there) (by rw [infoT, turnCs_size]) (turnCs_one f s) hK
end
theorem TurnOwn.stored {u : World} {b : Nat} {g : Stk} {r : Int} (h : TurnOwn u b g r) (f : Stk) (s : Int) : TurnOwn (u.setCells b 0 (lst 26 (cellT f s))) b f s :=
  (RowOwn.sets (o := 0) (m := 26) h (by omega) (cellT f s)).to fun j hj => by rw [if_pos (by omega), Nat.sub_zero]
/-- the result's block, and that of what is used -/
structure TT (w : World) (f : Stk) (s : Int) (u : World) : Prop where
  r : TurnOwn u (w.heap.size + 1) zeroS 0
  t : TurnOwn u (w.heap.size + 1 + 1) f s
  b : Below w.heap.size w u
theorem TT.chg {w : World} {f g : Stk} {s : Int} {u v : World} (h : TT w f s u) (k : StkOwn v (w.heap.size + 1 + 1) 0 g) (hc : Chg u v (w.heap.size + 1 + 1) 0 25) : TT w g s v :=
  ⟨RowOwn.chg h.r hc (.inl (by omega)), h.t.to_stk k hc, below_grown h.b hc.g h.b.size (by omega)⟩
theorem TT.short {w : World} {f : Stk} {s : Int} {u : World} (h : TT w f s u) (x : Int) : TT w f x (u.setCell ⟨w.heap.size + 1 + 1, 25, none⟩ (.int .i64 x)) :=
  ⟨RowOwn.set_other h.r (by simp) _, h.t.short x, h.b.setCell (by simp; omega) _⟩
set_option maxRecDepth 100000 in
set_option maxHeartbeats 4000000 in
theorem turnOf_any (f : Stk) (hf : Good f) (need : Int) (hn : 0 ≤ need ∧ need ≤ 500) (w : World) :
    Calls Tryd.prog 169 #[stkV f, .int .i64 need] w fun o w' => o = .returned (turnV (useS f need).1 (useS f need).2) ∧ Below w.heap.size w w' := by
  have hzz : ∀ u : World, (zeroValue 219).run Tryd.prog u = .ok (.agg (turnCs zeroS 0)) u := (zero_of_info zeroTi).1
  obtain ⟨u1, hu1⟩ : ∃ u1, u1 = (w.alloc (.cells (stkCs f) 179)).alloc (.cells (turnCs zeroS 0) 219) := ⟨_, rfl⟩
  have A1 : StkAt u1 w.heap.size 0 f := by
    rw [hu1]
    exact ((StkOwn.new w f _).next ((Below.refl _ _).alloc (Nat.le_refl _) _)).toRowAt
  have R1 : TurnOwn u1 (w.heap.size + 1) zeroS 0 := by
    rw [hu1]
    have := TurnOwn.new (w.alloc (.cells (stkCs f) 179)) zeroS 0 219
    rwa [World.size_alloc] at this
  have B1 : Below w.heap.size w u1 := by
    rw [hu1]
    exact ((Below.refl _ _).alloc (Nat.le_refl _) _).alloc (by simp) _
  have hs1 : u1.heap.size = w.heap.size + 1 + 1 := by rw [hu1]; simp
  obtain ⟨u2, hu2⟩ : ∃ u2, u2 = u1.alloc (.cells (turnCs zeroS 0) 219) := ⟨_, rfl⟩
  have R2 : TurnOwn u2 (w.heap.size + 1) zeroS 0 := by rw [hu2]; exact RowOwn.next R1 ((Below.refl _ _).alloc (Nat.le_refl _) _)
  have T2 : TurnOwn u2 (w.heap.size + 1 + 1) zeroS 0 := by rw [hu2, ← hs1]; exact TurnOwn.new u1 zeroS 0 _
  have B2 : Below w.heap.size w u2 := by rw [hu2]; exact B1.alloc B1.size _
  obtain ⟨u3, hu3⟩ : ∃ u3, u3 = u2.setCells (w.heap.size + 1 + 1) 0 (lst 26 (cellT f 0)) := ⟨_, rfl⟩
  have H3 : Hid (TT w f 0 u3) := Lib.hid (by
    rw [hu3]
    exact ⟨RowOwn.sets_other R2 (by omega) _ _, T2.stored f 0, below_cells B2 (by omega) _ _⟩)
  have HU1 := Lib.hid hu1
  have HU2 := Lib.hid hu2
  have HU3 := Lib.hid hu3
  have HA1 := Lib.hid A1
  have HT2 := Lib.hid T2
  have HS1 := Lib.hid hs1
  clear hu1 hu2 hu3 A1 R1 B1 R2 T2 B2 hs1
  obtain ⟨z, hz⟩ : ∃ z, z = useS f need := ⟨_, rfl⟩
  have hzg := use_good hf hn.1
  rw [← hz] at hzg ⊢
  have HZ := Lib.hid hz
  have HZG := Lib.hid hzg
  clear hz hzg
  go_enter Tryd.func169, Tryd.ntmps169
  go_wp2_with (first
    | (rw [← HU1.out]; refine wpl_load_stk rfl (.tmp 2) rfl w.heap.size 0 rfl HA1.out ?_)
    | (refine wpl_built rfl 219 _ rfl #[(0, stkV f)] ?hp (build_turn f _) ?_; case hp => simp [Act.eval, Act.put])
    | (rw [HS1.out, ← HU2.out]; refine wpl_store_turn rfl (.tmp 5) (.tmp 7) rfl (w.heap.size + 1 + 1) rfl (f := f) (s := 0) rfl HT2.out ?_; rw [← HU3.out])
    | fail)
  refine (move_ud f hf 500 ⟨by omega, by omega⟩ _ 0 _ H3.out.t.stk).mono ?_
  rintro e w4 ⟨rfl, hO, hC⟩
  rw [mv_dirt 8 (Nat.le_refl _) f 500 (fun j hj => hf.pos _ (by omega)) (usedSum_le hf)] at hO
  have H4 := Lib.hid (H3.out.chg hO hC)
  clear hO hC H3 HU1 HU2 HU3 HA1 HT2 HS1 hzz
  go_wp2_with fail
  refine (move_cu (dirtLow 8 f) (dirt_good hf).1 need ⟨hn.1, by omega⟩ _ 0 _ H4.out.t.stk).mono ?_
  rintro e w5 ⟨rfl, hO, hC⟩
  have hz2 : mv 0 8 1 8 (dirtLow 8 f, need) = z := HZ.out.symm
  rw [hz2] at hO ⊢
  obtain ⟨g, r⟩ := z
  have H5 := Lib.hid (H4.out.chg hO hC)
  have hr0 : 0 ≤ r := HZG.out.2.1
  have hr1 : r ≤ need := HZG.out.2.2.1
  have s0 : w5.cell? ⟨w.heap.size + 1 + 1, 25, none⟩ = some (.int .i64 0) := H5.out.t.cell 25 (by omega)
  have f0 : w5.frozen? ⟨w.heap.size + 1 + 1, 25, none⟩ = false := H5.out.t.free 25 (by omega)
  obtain ⟨w6, hw6⟩ : ∃ w6, w6 = w5.setCell ⟨w.heap.size + 1 + 1, 25, none⟩ (.int .i64 r) := ⟨_, rfl⟩
  have H6 : Hid (TT w g r w6) := Lib.hid (by rw [hw6]; exact H5.out.short r)
  have HW6 := Lib.hid hw6
  have HS := Lib.hid (TurnOwn.stored H6.out.r g r).toRowAt
  clear hO hC H4 hw6 hz2 H5
  simp only
  generalize hm : need - r = m
  have x1 : wrap64 (need - m) = r := by unfold wrap64; omega
  clear hm
  go_wp2_with (first
    | (rw [← HW6.out]; refine wpl_load_turn rfl (.tmp 5) rfl (w.heap.size + 1 + 1) rfl (f := g) (s := r) H6.out.t ?_)
    | (refine wpl_store_turn rfl (.tmp 4) (.tmp 16) rfl (w.heap.size + 1) rfl (f := g) (s := r) rfl H6.out.r ?_)
    | fail)
  refine bodyPost_ret (v := turnV g r) (results_row Tryd.results169 rfl HS.out.range Tryd.underlying219 rfl (by rw [infoT, lst_len])) rfl ⟨rfl, ?_⟩
  exact below_cells H6.out.b (by omega) _ _
end Go.Proofs.YtdcckdfemelbiaaDoor.stk
