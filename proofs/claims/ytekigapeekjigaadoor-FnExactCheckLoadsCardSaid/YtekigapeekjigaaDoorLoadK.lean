/-
  Contract of the program's IsLoad.
-/
import Derived.Test.YtekigapeekjigaaDoorLoadJ
namespace Go.Proofs.YtekigapeekjigaaDoor.mem
open Go Go.RowKit errs garS heats meet load

theorem codeAsk4 (r : Nat → Int) (gs : List Gar) (hold : Int) (n k1 k2 k3 k4 : Nat) (fine : Bool) (en : n = gs.length) (hfine : fine = true ↔ (1 ≤ hold ∧ hold ≤ 20000)) (h1 : k1 = if validRB r = true then 0 else 1) (h2 : k2 = if gs.all Gar.valid = true then 0 else 1) (h3 : k3 = if 1 ≤ hold ∧ hold ≤ 20000 then 0 else 2) (h4 : k4 = if 8 < n then 3 else 0) :
    firstCode [k1, k2, k3, k4] = codeAsk r gs fine := by
  unfold codeAsk codeAll
  rw [← en]
  by_cases a1 : validRB r = true
  · rw [if_pos a1] at h1 ⊢
    by_cases a2 : gs.all Gar.valid = true
    · rw [if_pos a2] at h2 ⊢
      by_cases a3 : 1 ≤ hold ∧ hold ≤ 20000
      · rw [if_pos a3] at h3
        rw [if_pos (hfine.2 a3), h1, h2, h3, h4]
        split
        · rfl
        · rfl
      · rw [if_neg a3] at h3
        rw [if_neg (fun q => a3 (hfine.1 q)), h1, h2, h3]
        rfl
    · rw [if_neg a2] at h2 ⊢
      rw [h1, h2]
      rfl
  · rw [if_neg a1] at h1 ⊢
    rw [h1]
    rfl
theorem codeAsk_le (r : Nat → Int) (gs : List Gar) (fine : Bool) : codeAsk r gs fine ≤ 3 := by
  have := codeAll_le gs fine
  unfold codeAsk
  split <;> omega
theorem ask_len {r : Nat → Int} {gs : List Gar} {fine : Bool} (h : 0 = codeAsk r gs fine) : gs.length ≤ 8 := by
  unfold codeAsk at h
  split at h
  · unfold codeAll at h
    split at h
    · split at h
      · split at h
        · omega
        · omega
      · omega
    · omega
  · omega
theorem all_in (n : Nat) (hn : n ≤ 8) : ∀ i, i < 8 → (2 ^ n - 1).testBit i = true → i < n := fun i _ h => by
  rw [(two_pow_le n hn).2.2] at h
  simpa using h
/-- a basket in its box -/
abbrev BX (w : World) (q : Nat) (A : Option Addr) (n c : Nat) (m : Nat → Int) (hold : Int) (u : World) : Prop := u.cell? ⟨q, 0, none⟩ = some (.slice A n c) ∧ u.cell? ⟨q, 1, none⟩ = some (.int .u8 (m 0)) ∧ u.cell? ⟨q, 2, none⟩ = some (.int .u8 (m 1)) ∧ u.cell? ⟨q, 3, none⟩ = some (.int .u8 (m 2)) ∧ u.cell? ⟨q, 4, none⟩ = some (.int .u8 (m 3)) ∧ u.cell? ⟨q, 5, none⟩ = some (.int .u8 (m 4)) ∧ u.cell? ⟨q, 6, none⟩ = some (.int .u8 (m 5)) ∧ u.cell? ⟨q, 7, none⟩ = some (.int .u8 (m 6)) ∧ u.cell? ⟨q, 8, none⟩ = some (.int .u8 (m 7)) ∧ u.cell? ⟨q, 9, none⟩ = some (.int .i64 hold) ∧ Below w.heap.size w u ∧ q < u.heap.size
theorem BX.next {w : World} {q : Nat} {A : Option Addr} {n c : Nat} {m : Nat → Int} {hold : Int} {u v : World} (h : BX w q A n c m hold u) (hb : Below u.heap.size u v) : BX w q A n c m hold v := by
  obtain ⟨c0, c1, c2, c3, c4, c5, c6, c7, c8, c9, hB, hq⟩ := h
  exact ⟨(hb.cell (p := ⟨q, 0, none⟩) hq).trans c0, (hb.cell (p := ⟨q, 1, none⟩) hq).trans c1, (hb.cell (p := ⟨q, 2, none⟩) hq).trans c2, (hb.cell (p := ⟨q, 3, none⟩) hq).trans c3, (hb.cell (p := ⟨q, 4, none⟩) hq).trans c4, (hb.cell (p := ⟨q, 5, none⟩) hq).trans c5, (hb.cell (p := ⟨q, 6, none⟩) hq).trans c6, (hb.cell (p := ⟨q, 7, none⟩) hq).trans c7, (hb.cell (p := ⟨q, 8, none⟩) hq).trans c8, (hb.cell (p := ⟨q, 9, none⟩) hq).trans c9, hB.trans (hb.mono hB.size), Nat.lt_of_lt_of_le hq hb.size⟩
theorem BX.b {w : World} {q : Nat} {A : Option Addr} {n c : Nat} {m : Nat → Int} {hold : Int} {u : World} (h : BX w q A n c m hold u) : Below w.heap.size w u := by
  obtain ⟨c0, c1, c2, c3, c4, c5, c6, c7, c8, c9, hB, hq⟩ := h
  exact hB
theorem BX.new {w : World} (A : Option Addr) (n c : Nat) (m : Nat → Int) (hold : Int) {u : World} (t : TypeId) (hB : Below w.heap.size w u) : BX w u.heap.size A n c m hold (u.alloc (.cells (bC A n c m hold) t)) := by
  have h : ∀ j, (u.alloc (.cells (bC A n c m hold) t)).cell? ⟨u.heap.size, j, none⟩ = (bC A n c m hold)[j]? := fun j => cell_of_row _ _ _ _ _ _ (heap_alloc_new u _)
  exact ⟨h 0, h 1, h 2, h 3, h 4, h 5, h 6, h 7, h 8, h 9, hB.alloc hB.size _, by simp⟩
end Go.Proofs.YtekigapeekjigaaDoor.mem
