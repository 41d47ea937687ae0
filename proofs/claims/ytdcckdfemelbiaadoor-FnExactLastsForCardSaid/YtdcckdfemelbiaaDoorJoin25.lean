/-
  Several texts of this proof, joined.
-/
import Derived.Test.YtdcckdfemelbiaaDoorJoin19
import Derived.Test.YtdcckdfemelbiaaDoorJoin18
import Derived.Test.YtdcckdfemelbiaaDoorStkPieces
import Derived.Test.YtdcckdfemelbiaaDoorJoin9
import Derived.Test.YtdcckdfemelbiaaDoorJoin7
/-
  Days gone through: what comes of them; no program in it.
-/
namespace Go.Proofs.YtdcckdfemelbiaaDoor.hou
open Go Go.RowKit sl row stk fold

/-- the kinds behind their use on a day, and by how many each one was short -/
def useK (xs : List Stk) (ns : List Int) : List Stk := List.zipWith (fun f n => (useS f n).1) xs ns
def useX (xs : List Stk) (ns : List Int) : List Int := List.zipWith (fun f n => (useS f n).2) xs ns
/-- the code of a day -/
def codeY (s : List Stk × Int) (ns : List Int) : Nat := if ns.length = s.1.length ∧ pcsOk ns = true then (if s.2 = 60 then 4 else 0) else 2
/-- kinds and today behind a day -/
def dayS (t x : Int) (s : List Stk × Int) (ns : List Int) : List Stk × Int := (if (s.2 + 1) % x = 0 then (washS (useK s.1 ns) t).1 else useK s.1 ns, s.2 + 1)
/-- behind all days -/
def finS (t x : Int) : List (List Int) → List Stk × Int → List Stk × Int
  | [], s => s
  | ns :: r, s => finS t x r (dayS t x s ns)
def shsS (t x : Int) : List (List Int) → List Stk × Int → List (List Int)
  | [], _ => []
  | ns :: r, s => useX s.1 ns :: shsS t x r (dayS t x s ns)
def codS (t x : Int) : List (List Int) → List Stk × Int → Nat
  | [], _ => 0
  | ns :: r, s => if codeY s ns = 0 then codS t x r (dayS t x s ns) else codeY s ns
theorem codeY_zero {s : List Stk × Int} {ns : List Int} (h : codeY s ns = 0) : ns.length = s.1.length ∧ (∀ n ∈ ns, 0 ≤ n ∧ n ≤ 500) ∧ s.2 ≠ 60 := by
  unfold codeY at h
  split at h
  · rename_i a
    split at h
    · cases h
    · rename_i b
      exact ⟨a.1, pcsOk_iff.1 a.2, b⟩
  · cases h
theorem codeY_or (s : List Stk × Int) (ns : List Int) : codeY s ns = 0 ∨ codeY s ns = 2 ∨ codeY s ns = 4 := by
  unfold codeY
  split
  · split
    · exact .inr (.inr rfl)
    · exact .inl rfl
  · exact .inr (.inl rfl)
theorem codS_or (t x : Int) : ∀ (L : List (List Int)) (s : List Stk × Int), codS t x L s = 0 ∨ codS t x L s = 2 ∨ codS t x L s = 4
  | [], _ => .inl rfl
  | ns :: r, s => by
    rw [codS]
    split
    · exact codS_or t x r _
    · exact codeY_or s ns
theorem useK_len {xs : List Stk} {ns : List Int} (h : ns.length = xs.length) : (useK xs ns).length = xs.length := by simp [useK, h]
theorem useX_len {xs : List Stk} {ns : List Int} (h : ns.length = xs.length) : (useX xs ns).length = xs.length := by simp [useX, h]
theorem useK_good {xs : List Stk} {ns : List Int} (h : ∀ f ∈ xs, stk.Good f) (hn : ∀ n ∈ ns, 0 ≤ n ∧ n ≤ 500) : ∀ f ∈ useK xs ns, stk.Good f := by
  intro f hf
  unfold useK at hf
  rw [List.mem_iff_getElem] at hf
  obtain ⟨i, hi, rfl⟩ := hf
  rw [List.getElem_zipWith]
  exact (use_good (h _ (List.getElem_mem _)) (hn _ (List.getElem_mem _)).1).1
theorem dayS_len {t x : Int} {s : List Stk × Int} {ns : List Int} (h : ns.length = s.1.length) : (dayS t x s ns).1.length = s.1.length := by
  unfold dayS
  dsimp only
  split
  · rw [washS_len, useK_len h]
  · rw [useK_len h]
theorem dayS_good {t x : Int} {s : List Stk × Int} {ns : List Int} (h : ∀ f ∈ s.1, stk.Good f) (hn : ∀ n ∈ ns, 0 ≤ n ∧ n ≤ 500) (ht : 0 ≤ t) : ∀ f ∈ (dayS t x s ns).1, stk.Good f := by
  unfold dayS
  dsimp only
  split
  · exact (washS_good _ t (useK_good h hn) ht).1
  · exact useK_good h hn
/-- behind the first k kinds of a day -/
def useI (xs : List Stk) (ns : List Int) (k : Nat) : List Stk := useK (xs.take k) (ns.take k) ++ xs.drop k
theorem useI_zero (xs : List Stk) (ns : List Int) : useI xs ns 0 = xs := by simp [useI, useK]
theorem useI_all {xs : List Stk} {ns : List Int} (h : ns.length = xs.length) : useI xs ns xs.length = useK xs ns := by
  unfold useI
  rw [List.take_length, List.drop_length, List.append_nil, ← h, List.take_length]
theorem useI_len {xs : List Stk} {ns : List Int} (h : ns.length = xs.length) (k : Nat) : (useI xs ns k).length = xs.length := by
  simp [useI, useK, h]
  omega
theorem zip_snoc {α β γ : Type} (g : α → β → γ) {xs : List α} {ns : List β} {k : Nat} {f : α} {n : β} (hf : xs[k]? = some f) (hn : ns[k]? = some n) : List.zipWith g (xs.take (k + 1)) (ns.take (k + 1)) = List.zipWith g (xs.take k) (ns.take k) ++ [g f n] := by
  obtain ⟨h1, rfl⟩ := List.getElem?_eq_some_iff.1 hf
  obtain ⟨h2, rfl⟩ := List.getElem?_eq_some_iff.1 hn
  rw [List.take_succ_eq_append_getElem h1, List.take_succ_eq_append_getElem h2, List.zipWith_append (by simp; omega)]
  rfl
theorem useI_next {xs : List Stk} {ns : List Int} {k : Nat} {f : Stk} {n : Int} (hf : xs[k]? = some f) (hn : ns[k]? = some n) : useI xs ns (k + 1) = (useI xs ns k).set k (useS f n).1 := by
  have h1 := (List.getElem?_eq_some_iff.1 hf).1
  have h2 := (List.getElem?_eq_some_iff.1 hn).1
  have h3 : (useK (xs.take k) (ns.take k)).length = k := by simp [useK]; omega
  have h4 : xs.drop k = f :: xs.drop (k + 1) := by
    rw [List.drop_eq_getElem_cons h1]
    rw [(List.getElem?_eq_some_iff.1 hf).2]
  unfold useI
  rw [h4, List.set_append_right _ _ (by omega), h3, Nat.sub_self, List.set_cons_zero]
  have : useK (xs.take (k + 1)) (ns.take (k + 1)) = useK (xs.take k) (ns.take k) ++ [(useS f n).1] := zip_snoc _ hf hn
  rw [this]
  simp
theorem useI_at {xs : List Stk} {ns : List Int} {k : Nat} {f : Stk} (hf : xs[k]? = some f) (hn : k < ns.length) : (useI xs ns k)[k]? = some f := by
  have h1 := (List.getElem?_eq_some_iff.1 hf).1
  have h3 : (useK (xs.take k) (ns.take k)).length = k := by simp [useK]; omega
  unfold useI
  rw [List.getElem?_append_right (by omega), h3, Nat.sub_self, List.getElem?_drop]
  simpa using hf
theorem useI_good {xs : List Stk} {ns : List Int} (k : Nat) (h : ∀ f ∈ xs, stk.Good f) (hn : ∀ n ∈ ns, 0 ≤ n ∧ n ≤ 500) : ∀ f ∈ useI xs ns k, stk.Good f := by
  intro f hf
  rcases List.mem_append.1 hf with h1 | h1
  · exact useK_good (fun f hf => h f (List.mem_of_mem_take hf)) (fun n hn' => hn n (List.mem_of_mem_take hn')) f h1
  · exact h f (List.mem_of_mem_drop h1)
theorem useX_next {xs : List Stk} {ns : List Int} {k : Nat} {f : Stk} {n : Int} (hf : xs[k]? = some f) (hn : ns[k]? = some n) : useX (xs.take (k + 1)) (ns.take (k + 1)) = useX (xs.take k) (ns.take k) ++ [(useS f n).2] := zip_snoc _ hf hn
theorem useX_all {xs : List Stk} {ns : List Int} (h : ns.length = xs.length) : useX (xs.take xs.length) (ns.take xs.length) = useX xs ns := by
  rw [List.take_length, ← h, List.take_length]
theorem useX_le {xs : List Stk} {ns : List Int} (h : ∀ f ∈ xs, stk.Good f) (hn : ∀ n ∈ ns, 0 ≤ n ∧ n ≤ 500) : ∀ z ∈ useX xs ns, 0 ≤ z ∧ z ≤ 500 := by
  intro z hz
  unfold useX at hz
  rw [List.mem_iff_getElem] at hz
  obtain ⟨i, hi, rfl⟩ := hz
  rw [List.getElem_zipWith]
  have hi2 : i < xs.length ∧ i < ns.length := by rw [List.length_zipWith] at hi; omega
  have a := use_good (h (xs[i]'hi2.1) (List.getElem_mem _)) (hn (ns[i]'hi2.2) (List.getElem_mem _)).1
  have b := (hn (ns[i]'hi2.2) (List.getElem_mem _)).2
  exact ⟨a.2.1, Int.le_trans a.2.2.1 b⟩
end Go.Proofs.YtdcckdfemelbiaaDoor.hou

/-
  UseKind, the program's and the model's.
-/
namespace Go.Proofs.YtdcckdfemelbiaaDoor.stk
open Go Go.RowKit sl row fold errs

/-- a result that is a struct, and two numbers behind it -/
theorem results_row_two {fn : Func} {s t r : Nat} {T : TypeId} (hf : fn.results = #[.cell s T, .tmp t, .tmp r]) {tmps : Array Value} {u : World} {b : Nat} {cs : List Value} {d : TypeDesc} (hs : tmps.getD s undef = .pointer (some ⟨b, 0, none⟩)) (h : u.rangeAt b 0 cs)
    (hu : Tryd.prog.underlying T = some d) (hd : d.isRow = true) (hi : (Tryd.prog.info? T).map (·.size) = some cs.length) :
    (results fn tmps).run Tryd.prog u = .ok (.tuple #[.agg cs.toArray, tmps.getD t undef, tmps.getD r undef]) u := by
  have hr := run_loadVar_mid (P := Tryd.prog) u b 0 T cs d h hu hd hi
  have hs' : tmps[s]?.getD undef = .pointer (some ⟨b, 0, none⟩) := by rw [← hs]; simp
  generalize hdv : Value.agg cs.toArray = dv at hr
  simp [results, hf, hs', hr, asAddr]
def codeU (f : Stk) (need : Int) : Nat := if validS f = true then (if 0 ≤ need ∧ need ≤ 500 then 0 else 2) else 1
def useR (f : Stk) (need : Int) : Stk × Int := if codeU f need = 0 then useS f need else (zeroS, 0)
theorem codeU_zero {f : Stk} {need : Int} (h : codeU f need = 0) : Good f ∧ 0 ≤ need ∧ need ≤ 500 := by
  unfold codeU at h
  split at h
  · rename_i hv
    split at h
    · rename_i hn
      exact ⟨valid_good.1 hv, hn⟩
    · cases h
  · cases h
theorem codeU_le (f : Stk) (need : Int) : codeU f need ≤ 2 := by
  unfold codeU
  split
  · split <;> omega
  · omega
theorem codeU_first (f : Stk) (need : Int) : firstCode [codeK f, if 0 ≤ need ∧ need ≤ 500 then 0 else 2] = codeU f need := by
  unfold codeK codeU
  split
  · split <;> rfl
  · rfl
abbrev triV (f : Stk) (a b : Int) : Value := .tuple #[stkV f, .int .i64 a, .int .i64 b]
end Go.Proofs.YtdcckdfemelbiaaDoor.stk

/-
  UseKind, the model's.
-/
namespace Go.Proofs.YtdcckdfemelbiaaDoor.stk
open Go Go.RowKit sl row fold

theorem dirt_step {f : Stk} {k : Nat} (hk : k < 8) : upd (upd (dirtLow k f) (16 + k) (dirtLow k f (16 + k) + dirtLow k f (8 + k))) (8 + k) 0 = dirtLow (k + 1) f := by
  have e1 : dirtLow k f (16 + k) = f (16 + k) := by unfold dirtLow; rw [if_neg (by omega), if_neg (by omega)]
  have e2 : dirtLow k f (8 + k) = f (8 + k) := by unfold dirtLow; rw [if_neg (by omega), if_neg (by omega)]
  funext j
  by_cases a : j = 8 + k
  · subst a
    rw [upd_same]
    unfold dirtLow
    rw [if_neg (by omega), if_pos (by omega)]
  · rw [upd_ne _ _ a]
    by_cases b : j = 16 + k
    · subst b
      rw [upd_same, e1, e2]
      unfold dirtLow
      rw [if_pos (by omega), show 16 + k - 8 = 8 + k by omega]
    · rw [upd_ne _ _ b]
      unfold dirtLow
      by_cases c : 16 ≤ j ∧ j < 16 + k
      · rw [if_pos c, if_pos (by omega)]
      · by_cases d : 8 ≤ j ∧ j < 8 + k
        · rw [if_neg c, if_pos d, if_neg (by omega), if_pos (by omega)]
        · rw [if_neg c, if_neg d, if_neg (by omega), if_neg (by omega)]
theorem dirt_vals {f : Stk} {k : Nat} (hk : k < 8) : dirtLow k f (16 + k) = f (16 + k) ∧ dirtLow k f (8 + k) = f (8 + k) := by
  constructor
  · unfold dirtLow; rw [if_neg (by omega), if_neg (by omega)]
  · unfold dirtLow; rw [if_neg (by omega), if_neg (by omega)]
theorem l00Min_any (a b : Int) (w : World) :
    Calls Tryd.prog 141 #[.int .i64 a, .int .i64 b] w fun o w' => o = .returned (.int .i64 (few a b)) ∧ w' = w := by
  unfold few
  by_cases h : a < b
  · rw [if_pos h]
    go_enter Tryd.func141, Tryd.ntmps141
    go_wp2_with fail
    go_ret
    exact ⟨rfl, rfl⟩
  · rw [if_neg h]
    go_enter Tryd.func141, Tryd.ntmps141
    go_wp2_with fail
    go_ret
    exact ⟨rfl, rfl⟩
set_option maxRecDepth 100000 in
set_option maxHeartbeats 8000000 in
theorem l05Use_any (f : Stk) (hf : Good f) (need : Int) (hn : 0 ≤ need ∧ need ≤ 500) (b p : Nat) (w : World) (h : StkOwn w b p f) :
    Calls Tryd.prog 149 #[.pointer (some ⟨b, p, none⟩), .int .i64 need] w fun o w' => o = .returned (.int .i64 (useS f need).2) ∧ StkOwn w' b p (useS f need).1 ∧ Chg w w' b p 25 := by
  have hd := (dirt_good hf).1
  obtain ⟨d, hd0⟩ : ∃ d, d = dirtLow 8 f := ⟨_, rfl⟩
  obtain ⟨z, hz⟩ : ∃ z, z = useS f need := ⟨_, rfl⟩
  rw [← hz]
  have HZ : Hid (mv 0 8 1 8 (d, need) = z) := Lib.hid (by rw [hz, useS, hd0])
  rw [← hd0] at hd
  have HD := Lib.hid hd
  have HD0 := Lib.hid hd0
  have H0 := Lib.hid h
  clear hz hd0 hd h
  go_enter Tryd.func149, Tryd.ntmps149
  go_wp2_with fail
  go_loopw [5] (fun vi wr => ∃ k : Nat, k ≤ 8 ∧ vi = .int .i64 (k : Nat) ∧ StkOwn wr b p (dirtLow k f) ∧ Chg w wr b p 25) (fun vi _ => 8 - (intOf vi).toNat)
  case atStart => exact ⟨0, by omega, rfl, by rw [dirtLow_zero]; exact H0.out, Chg.refl _ _ _ _⟩
  case round =>
    obtain ⟨k, hk, rfl, hO, hC⟩ := hrel
    have HO := Lib.hid hO
    have HC := Lib.hid hC
    clear hO hC
    by_cases hlt : k < 8
    · obtain ⟨v1, v2⟩ := dirt_vals (f := f) hlt
      have p1 := hf.pos (16 + k) (by omega)
      have p2 := hf.le (show 16 + k < 25 by omega)
      have p3 := hf.pos (8 + k) (by omega)
      have p4 := hf.le (show 8 + k < 25 by omega)
      have c1 : wr.cell? ⟨b, p + 16 + k, none⟩ = some (.int .i16 (f (16 + k))) := by
        have := HO.out.cell (16 + k) (by omega)
        rwa [cellS_16 _ (by omega), v1, ← Nat.add_assoc] at this
      have c2 : wr.cell? ⟨b, p + 8 + k, none⟩ = some (.int .i16 (f (8 + k))) := by
        have := HO.out.cell (8 + k) (by omega)
        rwa [cellS_16 _ (by omega), v2, ← Nat.add_assoc] at this
      have f1 : wr.frozen? ⟨b, p + 16 + k, none⟩ = false := by
        have := HO.out.free (16 + k) (by omega)
        rwa [← Nat.add_assoc] at this
      have f2 : wr.frozen? ⟨b, p + 8 + k, none⟩ = false := by
        have := HO.out.free (8 + k) (by omega)
        rwa [← Nat.add_assoc] at this
      have x1 : IntKind.i16.wrap (f (16 + k) + f (8 + k)) = f (16 + k) + f (8 + k) := IntWalk.i16_in _ (by omega)
      have k0 : (0 : Int) ≤ (k : Int) ∧ (k : Int) < 8 := ⟨by omega, by omega⟩
      have c3 : (wr.setCell ⟨b, p + 16 + k, none⟩ (.int .i16 (f (16 + k) + f (8 + k)))).cell? ⟨b, p + 8 + k, none⟩ = some (.int .i16 (f (8 + k))) := by
        rw [World.cell?_setCell_other _ _ _ _ (fun e => by have := congrArg Addr.off e; dsimp at this; omega)]
        exact c2
      have H2 : Hid (StkOwn ((wr.setCell ⟨b, p + 16 + k, none⟩ (.int .i16 (f (16 + k) + f (8 + k)))).setCell ⟨b, p + 8 + k, none⟩ (.int .i16 0)) b p (dirtLow (k + 1) f)) := Lib.hid (by
        have a1 := StkOwn.set HO.out (j := 16 + k) (by omega) (f (16 + k) + f (8 + k))
        have a2 := StkOwn.set a1 (j := 8 + k) (by omega) 0
        rw [← v1, ← v2, dirt_step hlt] at a2
        rw [v1, v2, ← Nat.add_assoc, ← Nat.add_assoc] at a2
        exact a2)
      clear p1 p2 p3 p4 v1 v2
      go_wp2_with fail
      refine still_region 16 (by kernel_rfl) ?_
      simp only [List.take_succ_cons, List.take_zero, List.drop_succ_cons, List.drop_zero]
      repeat still_step
      refine wpStill_nil ?_
      go_wp2_with fail
      go_roundw
      case rel => exact ⟨k + 1, by omega, by go_num, H2.out.next (Below.refl _ _).drew, ((HC.out.set (by omega) (by omega) _).set (by omega) (by omega) _).drew⟩
      case measure => simp [intOf]; omega
    · obtain rfl : k = 8 := by omega
      rw [← HD0.out] at HO
      clear H0
      obtain ⟨wo, rfl⟩ : ∃ wo, wo = wr := ⟨wr, rfl⟩
      go_wp2_with fail
      go_loopw [1, 6, 7] (fun vr vi _ wr => ∃ (k : Nat) (i r : Int) (g : Stk), k ≤ 8 ∧ i = (k : Int) - 1 ∧ vi = .int .i64 i ∧ vr = .int .i64 r ∧ mv 0 8 1 k (g, r) = z ∧ StkOwn wr b p g ∧ Chg w wr b p 25 ∧ (Good g ∧ 0 ≤ r ∧ r ≤ 500)) (fun _ vi _ _ => (intOf vi + 1).toNat)
      case atStart => exact ⟨8, 7, need, d, by omega, by omega, rfl, rfl, HZ.out, HO.out, HC.out, HD.out, by omega, by omega⟩
      case round =>
        clear HO HC HZ HD
        obtain ⟨k, i, r, g, hk, hi, rfl, rfl, hmv, hO, hC, hgood, hr0, hr1⟩ := hrel
        have HO := Lib.hid hO
        have HC := Lib.hid hC
        have HM := Lib.hid hmv
        clear hO hC hmv
        cases k with
        | zero =>
          obtain rfl : i = -1 := by omega
          obtain ⟨e1, e2⟩ : g = z.1 ∧ r = z.2 := by
            have := HM.out
            rw [mv] at this
            rw [← this]
            exact ⟨rfl, rfl⟩
          subst e1 e2
          clear hi hgood
          go_wp2_with fail
          go_ret
          exact ⟨rfl, HO.out, HC.out⟩
        | succ k =>
          obtain rfl : i = (k : Int) := by omega
          have hp := hgood.pos (0 + k) (by omega)
          have hl := hgood.le (show 0 + k < 25 by omega)
          obtain ⟨n, hn⟩ : ∃ n, n = few r (g (0 + k)) := ⟨_, rfl⟩
          have hn1 := few_le r (g (0 + k))
          have hn2 := few_pos hr0 hp
          rw [← hn] at hn1 hn2
          have HN0 : Hid (few r (g k) = n) := Lib.hid (by rw [hn, Nat.zero_add])
          obtain ⟨s0, s1, s2⟩ := step_good (o := 0) (q := 8) (ls := 1) (u := k) (s := (g, r)) (by omega) (by omega) (by omega) hgood hr0
          obtain ⟨g2, hg2⟩ : ∃ g2, g2 = upd g (0 + k) (g (0 + k) + -n) := ⟨_, rfl⟩
          have es : stepS 0 8 1 k (g, r) = (upd g2 (tgt 8 1 k) (g2 (tgt 8 1 k) + n), r - n) := by
            unfold stepS shift
            simp only [← hn, hg2]
          rw [es] at s0 s1 s2
          have HQ : Hid (Good (upd g2 (tgt 8 1 k) (g2 (tgt 8 1 k) + n)) ∧ 0 ≤ r - n ∧ r - n ≤ 500) := Lib.hid ⟨s0, s1, by omega⟩
          have hM2 : mv 0 8 1 k (upd g2 (tgt 8 1 k) (g2 (tgt 8 1 k) + n), r - n) = z := by
            have := HM.out
            rw [mv, es] at this
            exact this
          have hS0 : 0 ≤ g2 (tgt 8 1 k) + n ∧ g2 (tgt 8 1 k) + n ≤ 500 := by
            have a := s0.pos _ (tgt_lt (o := 8) (ls := 1) (by omega) (show k < 8 by omega))
            have b := s0.le (tgt_lt (o := 8) (ls := 1) (by omega) (show k < 8 by omega))
            simp only [upd_same] at a b
            exact ⟨a, b⟩
          rw [Nat.zero_add] at hp hl hn1 hg2
          have hc : wr.cell? ⟨b, p + k, none⟩ = some (.int .i16 (g k)) := by
            have := HO.out.cell k (by omega)
            rwa [cellS_16 g (by omega)] at this
          have hz : wr.frozen? ⟨b, p + k, none⟩ = false := HO.out.free k (by omega)
          have x0 : IntKind.i64.wrap (g k) = g k := IntWalk.i64_in _ (by omega)
          have x1 : wrap64 (r - n) = r - n := by unfold wrap64; omega
          have x2 : IntKind.i16.wrap n = n := IntWalk.i16_in _ (by omega)
          have x3 : IntKind.i16.wrap (g k - n) = g k - n := IntWalk.i16_in _ (by omega)
          have x4 : IntKind.i32.wrap n = n := IntWalk.i32_in _ (by omega)
          have k0 : (0 : Int) ≤ (k : Int) ∧ (k : Int) < 8 := ⟨by omega, by omega⟩
          have H2 : StkOwn (wr.setCell ⟨b, p + k, none⟩ (.int .i16 (g k - n))) b p g2 := by
            rw [hg2]
            exact StkOwn.set HO.out (j := k) (by omega) (g k - n)
          have HM2 := Lib.hid hM2
          have HT := Lib.hid hS0
          have H2 := Lib.hid H2
          clear hS0 hM2 hg2 es s0 s1 s2 hn hn1 hn2 hp hl hgood hi
          go_wp2_with fail
          refine (l00Min_any r (g k) _).mono ?_
          rintro e w1 ⟨rfl, hw1⟩
          obtain rfl := hw1.symm
          clear hw1
          rw [HN0.out]
          by_cases hk0 : k = 0
          · have e0 : ((k : Int) == 0) = true := by rw [beq_iff_eq]; omega
            have ht : tgt 8 1 k = 24 := by simp [tgt, hk0]
            rw [ht] at HT HM2 HQ
            have y1 : IntKind.i32.wrap (g2 24 + n) = g2 24 + n := IntWalk.i32_in _ (by have := HT.out; omega)
            have c2 := H2.out.cell 24 (by omega)
            have f2 := H2.out.free 24 (by omega)
            rw [cellS_24] at c2
            have H3 := Lib.hid (StkOwn.setRags H2.out (g2 24 + n))
            clear ht hk0 HN0
            go_wp2_with fail
            refine still_region 12 (by kernel_rfl) ?_
            simp only [List.take_succ_cons, List.take_zero, List.drop_succ_cons, List.drop_zero]
            repeat still_step
            refine wpStill_nil ?_
            go_wp2_with fail
            refine ⟨?_, ?measure⟩
            apply Exists.intro
            (repeat apply Exists.intro)
            refine ⟨?rel, rfl⟩
            case rel => exact ⟨k, _, r - n, _, by omega, rfl, by first | rfl | go_num, by first | rfl | go_num, HM2.out, H3.out.next (Below.refl _ _).drew, ((HC.out.set (by omega) (by omega) _).set (by omega) (by omega) _).drew, HQ.out⟩
            case measure => simp [intOf]
          · obtain ⟨j, hj⟩ : ∃ j, k = j + 1 := ⟨k - 1, by omega⟩
            have e0 : ((k : Int) == 0) = false := by rw [beq_eq_false_iff_ne]; omega
            have ht : tgt 8 1 k = 8 + j := by simp [tgt, hj]
            rw [ht] at HT HM2 HQ
            have y1 : IntKind.i16.wrap (g2 (8 + j) + n) = g2 (8 + j) + n := IntWalk.i16_in _ (by have := HT.out; omega)
            have y4 : IntKind.i64.wrap (j : Int) = (j : Int) := IntWalk.i64_in _ (by omega)
            have y3 : (0 : Int) ≤ (j : Int) ∧ (j : Int) < 8 := ⟨by omega, by omega⟩
            have c2 := H2.out.cell (8 + j) (by omega)
            have f2 := H2.out.free (8 + j) (by omega)
            rw [cellS_16 _ (by omega), ← Nat.add_assoc] at c2
            rw [← Nat.add_assoc] at f2
            have H3 : Hid (StkOwn ((wr.setCell ⟨b, p + k, none⟩ (.int .i16 (g k - n))).setCell ⟨b, p + 8 + j, none⟩ (.int .i16 (g2 (8 + j) + n))) b p (upd g2 (8 + j) (g2 (8 + j) + n))) := Lib.hid (by
              have := StkOwn.set H2.out (j := 8 + j) (by omega) (g2 (8 + j) + n)
              rwa [← Nat.add_assoc] at this)
            have HJ := Lib.hid hj
            clear ht hk0 HN0 e0 hj
            go_wp2_with fail
            refine still_region 12 (by kernel_rfl) ?_
            simp only [List.take_succ_cons, List.take_zero, List.drop_succ_cons, List.drop_zero]
            repeat still_step
            refine wpStill_nil ?_
            have hj := HJ.out
            subst hj
            clear HJ
            have e0 : (((j : Int) + 1) == 0) = false := by rw [beq_eq_false_iff_ne]; omega
            go_wp2_with fail
            refine still_region 13 (by kernel_rfl) ?_
            simp only [List.take_succ_cons, List.take_zero, List.drop_succ_cons, List.drop_zero]
            repeat still_step
            refine wpStill_nil ?_
            go_wp2_with fail
            refine ⟨?_, ?measure⟩
            apply Exists.intro
            (repeat apply Exists.intro)
            refine ⟨?rel, rfl⟩
            case rel => exact ⟨j + 1, (j : Int), r - n, _, by omega, by omega, by first | rfl | go_num, by first | rfl | go_num, HM2.out, H3.out.next (below_drewN _ _ 2), ((HC.out.set (by omega) (by omega) _).set (by omega) (by omega) _).drewN 2, HQ.out⟩
            case measure => simp [intOf]; omega
end Go.Proofs.YtdcckdfemelbiaaDoor.stk
