/-
  Contract of the program's IsLoad.
-/
import Derived.Test.YtechjcplaaagfaaDoorLoadJ
namespace Go.Proofs.YtechjcplaaagfaaDoor.mem
open Go Go.RowKit errs garS heats meet load

theorem codeAsk4 (r : Nat → Int) (gs : List Gar) (hold : Int) (n k1 k2 k3 k4 : Nat) (fine : Bool) (en : n = gs.length) (hfine : fine = true ↔ (1 ≤ hold ∧ hold ≤ 20000)) (h1 : k1 = if validRB r = true then 0 else 1) (h2 : k2 = if gs.all Gar.valid = true then 0 else 1) (h3 : k3 = if 1 ≤ hold ∧ hold ≤ 20000 then 0 else 2) (h4 : k4 = if 8 < n then 3 else 0) :
    firstCode [k1, k2, k3, k4] = codeAsk r gs fine := by
  unfold codeAsk codeAll
  rw [← en]
  by_cases a1 : validRB r = true
  · rw [if_pos a1] at h1 ⊢
    by_cases a2 : gs.all Gar.valid = true
    · rw [if_pos a2] at h2 ⊢
      by_cases a3 : 1 ≤ hold ∧ hold ≤ 20000
      · rw [if_pos a3] at h3
        rw [if_pos (hfine.2 a3), h1, h2, h3, h4]
        split
        · rfl
        · rfl
      · rw [if_neg a3] at h3
        rw [if_neg (fun q => a3 (hfine.1 q)), h1, h2, h3]
        rfl
    · rw [if_neg a2] at h2 ⊢
      rw [h1, h2]
      rfl
  · rw [if_neg a1] at h1 ⊢
    rw [h1]
    rfl
theorem codeAsk_le (r : Nat → Int) (gs : List Gar) (fine : Bool) : codeAsk r gs fine ≤ 3 := by
  have := codeAll_le gs fine
  unfold codeAsk
  split <;> omega
theorem ask_len {r : Nat → Int} {gs : List Gar} {fine : Bool} (h : 0 = codeAsk r gs fine) : gs.length ≤ 8 := by
  unfold codeAsk at h
  split at h
  · unfold codeAll at h
    split at h
    · split at h
      · split at h
        · omega
        · omega
      · omega
    · omega
  · omega
theorem all_in (n : Nat) (hn : n ≤ 8) : ∀ i, i < 8 → (2 ^ n - 1).testBit i = true → i < n := fun i _ h => by
  rw [(two_pow_le n hn).2.2] at h
  simpa using h
/-- a basket in its box -/
abbrev BX (w : World) (q : Nat) (A : Option Addr) (n c : Nat) (m : Nat → Int) (hold : Int) (u : World) : Prop := u.cell? ⟨q, 0, none⟩ = some (.slice A n c) ∧ u.cell? ⟨q, 1, none⟩ = some (.int .u8 (m 0)) ∧ u.cell? ⟨q, 2, none⟩ = some (.int .u8 (m 1)) ∧ u.cell? ⟨q, 3, none⟩ = some (.int .u8 (m 2)) ∧ u.cell? ⟨q, 4, none⟩ = some (.int .u8 (m 3)) ∧ u.cell? ⟨q, 5, none⟩ = some (.int .u8 (m 4)) ∧ u.cell? ⟨q, 6, none⟩ = some (.int .u8 (m 5)) ∧ u.cell? ⟨q, 7, none⟩ = some (.int .u8 (m 6)) ∧ u.cell? ⟨q, 8, none⟩ = some (.int .u8 (m 7)) ∧ u.cell? ⟨q, 9, none⟩ = some (.int .i64 hold) ∧ Below w.heap.size w u ∧ q < u.heap.size
theorem BX.next {w : World} {q : Nat} {A : Option Addr} {n c : Nat} {m : Nat → Int} {hold : Int} {u v : World} (h : BX w q A n c m hold u) (hb : Below u.heap.size u v) : BX w q A n c m hold v := by
  obtain ⟨c0, c1, c2, c3, c4, c5, c6, c7, c8, c9, hB, hq⟩ := h
  exact ⟨(hb.cell (p := ⟨q, 0, none⟩) hq).trans c0, (hb.cell (p := ⟨q, 1, none⟩) hq).trans c1, (hb.cell (p := ⟨q, 2, none⟩) hq).trans c2, (hb.cell (p := ⟨q, 3, none⟩) hq).trans c3, (hb.cell (p := ⟨q, 4, none⟩) hq).trans c4, (hb.cell (p := ⟨q, 5, none⟩) hq).trans c5, (hb.cell (p := ⟨q, 6, none⟩) hq).trans c6, (hb.cell (p := ⟨q, 7, none⟩) hq).trans c7, (hb.cell (p := ⟨q, 8, none⟩) hq).trans c8, (hb.cell (p := ⟨q, 9, none⟩) hq).trans c9, hB.trans (hb.mono hB.size), Nat.lt_of_lt_of_le hq hb.size⟩
theorem BX.b {w : World} {q : Nat} {A : Option Addr} {n c : Nat} {m : Nat → Int} {hold : Int} {u : World} (h : BX w q A n c m hold u) : Below w.heap.size w u := by
  obtain ⟨c0, c1, c2, c3, c4, c5, c6, c7, c8, c9, hB, hq⟩ := h
  exact hB
theorem BX.new {w : World} (A : Option Addr) (n c : Nat) (m : Nat → Int) (hold : Int) {u : World} (t : TypeId) (hB : Below w.heap.size w u) : BX w u.heap.size A n c m hold (u.alloc (.cells (bC A n c m hold) t)) := by
  have h : ∀ j, (u.alloc (.cells (bC A n c m hold) t)).cell? ⟨u.heap.size, j, none⟩ = (bC A n c m hold)[j]? := fun j => cell_of_row _ _ _ _ _ _ (heap_alloc_new u _)
  exact ⟨h 0, h 1, h 2, h 3, h 4, h 5, h 6, h 7, h 8, h 9, hB.alloc hB.size _, by simp⟩
set_option maxRecDepth 100000 in
set_option maxHeartbeats 8000000 in
theorem IsLoad_any (r : Nat → Int) (hr : Six r) (hold : Int) (A : Option Addr) (n c : Nat) (gs : List Gar) (en : n = gs.length) (hs : n ≤ 1048576) {w : World} {B : Nat} {e : Nat → Addr} (h : Errs w B e) (hB : B ≤ w.heap.size) (hg : GS w w.heap.size A gs) (fine : Bool) (hfine : fine = true ↔ (1 ≤ hold ∧ hold ≤ 20000)) (code : Nat) (hcode : code = codeAsk r gs fine) (b : Bool) (hb : code ≠ 0 → b = false) (hb0 : code = 0 → isLoadB gs (msOf r gs n) hold (2 ^ n - 1) = b) :
    Calls Tryd.prog 29 #[rulesV r, .int .i64 hold, .slice A n c] w fun o w' => o = .returned (.tuple #[.bool b, .int .i64 code]) ∧ Below w.heap.size w w' := by
  obtain ⟨k1, hk1⟩ : ∃ k : Nat, k = if validRB r = true then 0 else 1 := ⟨_, rfl⟩
  obtain ⟨k2, hk2⟩ : ∃ k : Nat, k = if gs.all Gar.valid = true then 0 else 1 := ⟨_, rfl⟩
  obtain ⟨k3, hk3⟩ : ∃ k : Nat, k = if 1 ≤ hold ∧ hold ≤ 20000 then 0 else 2 := ⟨_, rfl⟩
  obtain ⟨k4, hk4⟩ : ∃ k : Nat, k = if 8 < n then 3 else 0 := ⟨_, rfl⟩
  have HF : Hid (firstCode [k1, k2, k3, k4] = code) := Lib.hid ((codeAsk4 r gs hold n k1 k2 k3 k4 fine en hfine hk1 hk2 hk3 hk4).trans hcode.symm)
  have hle : code ≤ 3 := by rw [hcode]; exact codeAsk_le _ _ _
  have HC := Lib.hid hcode
  have HK1 := Lib.hid hk1
  have HK2 := Lib.hid hk2
  have HK3 := Lib.hid hk3
  have HK4 := Lib.hid hk4
  have En := Lib.hid en
  have HBB := Lib.hid hb
  have HB0 := Lib.hid hb0
  have L0 : Hid (LS r w (w.alloc (.cells (rulesCs r) 29))) := Lib.hid ⟨SixAt.new r w 29, by simp, (Below.refl w.heap.size w).alloc (Nat.le_refl _) _⟩
  obtain ⟨⟨s0, s1, s2, s3, s4, s5⟩, _, _⟩ := L0.out
  clear hk1 hk2 hk3 hk4 en hb hb0 hcode hfine
  go_enter Tryd.func29, Tryd.ntmps29
  go_wp2_with fail
  refine (checkRules_any r hr (h.below (L0.out.2.2.mono hB)) (Nat.le_trans hB L0.out.2.2.size) k1 HK1.out).mono ?_
  rintro o w1 ⟨rfl, hb1⟩
  have L1 := Lib.hid (L0.out.next hb1)
  clear hb1 s0 s1 s2 s3 s4 s5
  go_wp2_with fail
  refine (checkGarments_any A n c gs En.out hs (h.below (L1.out.2.2.mono hB)) (Nat.le_trans hB L1.out.2.2.size) ((hg.below L1.out.2.2).more L1.out.2.2.size) k2 HK2.out).mono ?_
  rintro o w2 ⟨rfl, hb2⟩
  have L2 := Lib.hid (L1.out.next hb2)
  clear hb2
  go_wp2_with fail
  refine (checkHold_any hold (h.below (L2.out.2.2.mono hB))).mono ?_
  rintro o w3 ⟨rfl, rfl⟩
  rw [← HK3.out]
  go_wp2_with fail
  refine (checkCount_any A n c hs (h.below (L2.out.2.2.mono hB))).mono ?_
  rintro o w4 ⟨rfl, rfl⟩
  rw [← HK4.out]
  go_wp2_with (refine wpList_listed rfl 115 4 _ rfl #[(0, errOf e k1), (1, errOf e k2), (2, errOf e k3), (3, errOf e k4)] ?hp (buildSlice4 e k1 k2 k3 k4 _) ?_; case hp => simp [Act.eval])
  have L3 := Lib.hid (L2.out.next ((Below.refl w2.heap.size w2).alloc (Nat.le_refl _) (.cells #[errOf e k1, errOf e k2, errOf e k3, errOf e k4] 72)))
  refine (firstOf_any e [k1, k2, k3, k4] _ 4 4 rfl (by decide) _ (cells_errs e [k1, k2, k3, k4] w2 72 #[errOf e k1, errOf e k2, errOf e k3, errOf e k4] rfl)).mono ?_
  rintro o w5 ⟨rfl, rfl⟩
  rw [HF.out]
  obtain ⟨w3, hw3⟩ : ∃ w3, w3 = w2.alloc (.cells #[errOf e k1, errOf e k2, errOf e k3, errOf e k4] 72) := ⟨_, rfl⟩
  rw [← hw3] at L3 ⊢
  have HE := Lib.hid (h.below (L3.out.2.2.mono hB))
  clear hw3
  obtain ⟨⟨s0, s1, s2, s3, s4, s5⟩, _, _⟩ := L3.out
  cases code with
  | zero =>
    have e0 : errOf e 0 = .nilIface := rfl
    rw [e0]
    have hval := ask_valid HC.out
    have hn8 : n ≤ 8 := by have := En.out; have := ask_len HC.out; omega
    have hm := HB0.out rfl
    have HM := Lib.hid hm
    clear e0 hm hle
    go_wp2_with fail
    refine (newBasket_any r hr hold A n c gs En.out hn8 hval _ ((hg.below L3.out.2.2).more L3.out.2.2.size)).mono ?_
    rintro o w6 ⟨rfl, hb6⟩
    have B6 := Lib.hid (L3.out.2.2.trans (hb6.mono L3.out.2.2.size))
    have X0 := Lib.hid (BX.new A n c (msOf r gs n) hold 92 B6.out)
    obtain ⟨c0, c1, c2, c3, c4, c5, c6, c7, c8, c9, _, _⟩ := X0.out
    clear s0 s1 s2 s3 s4 s5 hb6
    go_wp2_with fail
    go_region_held3 (fun u => BX w w6.heap.size A n c (msOf r gs n) hold u)
      (first | assumption | exact X0.out | exact X0.out.next (below_drewN _ _ 1) | exact BX.next (by assumption) hb2)
      (first
        | (go_at_call 70; refine (all_any A n c hn8 (msOf r gs n) hold _).mono ?_; rintro o w7 ⟨rfl, hb2⟩)
        | (go_at_call 69; refine (isLoad_any A n c gs En.out hs (msOf r gs n) hold (2 ^ n - 1) (two_pow_le n hn8).1 (all_in n hn8) _ ((hg.below (BX.b (by assumption))).more (BX.b (by assumption)).size) b HM.out).mono ?_; rintro o w8 ⟨rfl, hb2⟩)
        | fail)
    rename_i hS
    have HS := Lib.hid hS
    clear hS
    go_wp2_with fail
    go_ret2
    exact ⟨by simp, HS.out.b⟩
  | succ i =>
    have hbf : b = false := HBB.out (by omega)
    subst hbf
    have e0 : errOf e (i + 1) = errV (e i) := rfl
    rw [e0]
    clear e0
    go_wp2_with fail
    refine (codeOf_any HE.out (i + 1) (by omega)).mono ?_
    rintro o w7 ⟨rfl, rfl⟩
    go_wp2_with fail
    go_ret2
    exact ⟨by simp, L3.out.2.2⟩
end Go.Proofs.YtechjcplaaagfaaDoor.mem
