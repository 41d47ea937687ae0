/-
  Lists of cloths, marked with rising numbers, and held against them.
-/
import Derived.Test.YtbpipcfijbgnhaaDoorCloS
import Derived.Test.YtbpipcfijbgnhaaDoorIntS
import Derived.IntWalk
namespace Go.Proofs.YtbpipcfijbgnhaaDoor.cloS
open Go.RowKit sl

/-- the cloths with the numbers from k on -/
def cmark (k : Int) (i : Nat) : Clo := ⟨IntKind.i16.wrap (k + 2 * (i : Int)), IntKind.i16.wrap (k + 2 * (i : Int) + 1)⟩
def cmarks (k : Int) (n : Nat) : List Clo := (List.range n).map (cmark k)
theorem cmarks_len (k : Int) (n : Nat) : (cmarks k n).length = n := by simp [cmarks]
theorem cmarks_at (k : Int) (n i : Nat) (h : i < n) : (cmarks k n)[i]? = some (cmark k i) := by simp [cmarks, h]

set_option maxRecDepth 100000 in
set_option maxHeartbeats 2000000 in
theorem markS_row (base g n c : Nat) (k0 : Int) (hk : 0 ≤ k0 ∧ k0 ≤ 1000000000000) (hn : n ≤ 1048576) (L : List Value) (w : World) (hP : w.ownsRow base 27 2 (.slice (some ⟨g, 0, none⟩) n c) n L) :
    Calls Tryd.prog 26 #[.slice (some ⟨g, 0, none⟩) n c, .int .i64 k0] w fun e w' => e = .returned (.int .i64 (k0 + 2 * n)) ∧
      w'.ownsRow base 27 2 (.slice (some ⟨g, 0, none⟩) n c) n ((cmarks k0 n).flatMap Clo.cells) ∧ w.grownBy w' (some g) := by
  have HP0 := Lib.hid hP
  clear hP
  go_enter Tryd.func26, Tryd.ntmps26
  go_wp2_with fail
  go_loopw [1, 5] (fun vk vi wr => ∃ k L, k ≤ n ∧ vi = .int .i64 (k : Nat) ∧ vk = .int .i64 (k0 + 2 * k) ∧ wr.ownsRow base 27 2 (.slice (some ⟨g, 0, none⟩) n c) n L ∧ Done Clo.cells 2 (cmarks k0 n) k L ∧ w.grownBy wr (some g)) (fun _ vi _ => n - (intOf vi).toNat)
  case atStart => exact ⟨0, _, by omega, rfl, by simp, HP0.out, Done.zero _ _ _ _, ⟨rfl, rfl, rfl, Nat.le_refl _, fun _ _ _ => rfl⟩⟩
  case round =>
    obtain ⟨k, L, hk', rfl, rfl, hP, hD, hB⟩ := hrel
    by_cases hlt : k < n
    · have HX := Lib.hid (cmarks_at k0 n k hlt)
      have HD := Lib.hid hD
      have hLL := hP.1
      obtain ⟨v0, s0⟩ : ∃ v, wr.cell? ⟨g, k * 2, none⟩ = some v := ⟨L[k * 2]'(by omega), (hP.cellAt (k * 2) (by omega)).trans (List.getElem?_eq_getElem _)⟩
      obtain ⟨v1, s1⟩ : ∃ v, wr.cell? ⟨g, k * 2 + 1, none⟩ = some v := ⟨L[k * 2 + 1]'(by omega), (hP.cellAt (k * 2 + 1) (by omega)).trans (List.getElem?_eq_getElem _)⟩
      have f0 := hP.frozenAt (k * 2)
      have f1 := hP.frozenAt (k * 2 + 1)
      have HLL := Lib.hid hLL
      have HP := Lib.hid hP
      have HB := Lib.hid hB
      clear hLL hP hD hB
      go_wp2_with fail
      go_roundw
      case rel =>
        have hP3 := owns_cells (o := k * 2) (vs := (cmark k0 k).cells) HP.out
        have g2 := hP3.2
        have hB := HB.out
        have e1 : k0 + 2 * (k : Int) + 1 + 1 = k0 + 2 * ((k + 1 : Nat) : Int) := by omega
        exact ⟨k + 1, _, by omega, by go_num, by rw [e1], hP3.1, HD.out.step (Clo.len _) HX.out (by rw [HLL.out, cmarks_len]), ⟨g2.os.trans hB.os, g2.tape.trans hB.tape, g2.output.trans hB.output, Nat.le_trans hB.size g2.size, fun i hi hne => (g2.block i (Nat.lt_of_lt_of_le hi hB.size) hne).trans (hB.block i hi hne)⟩⟩
      case measure => simp [intOf]; omega
    · go_wp2_with fail
      obtain rfl : k = n := by omega
      go_ret
      have e : L = (cmarks k0 k).flatMap Clo.cells := Done.full (by rw [cmarks_len]; exact hD) (Clo.len _) (by omega) (by rw [hP.1, cmarks_len])
      rw [← e]
      exact ⟨rfl, hP, hB⟩
set_option maxHeartbeats 1000000 in
theorem markS_nil (k0 : Int) (w : World) :
    Calls Tryd.prog 26 #[.slice none 0 0, .int .i64 k0] w fun e w' => e = .returned (.int .i64 k0) ∧ w = w' := by
  go_enter Tryd.func26, Tryd.ntmps26
  go_wp2_with fail
  refine wp_loop_rounds 1 ?_
  rw [rounds_succ]
  go_wp2_with fail
  go_ret
  exact ⟨rfl, rfl⟩
/-- a row of the call's own is marked -/
theorem markS_any (base : Nat) (v : Value) (n : Nat) (k0 : Int) (hk : 0 ≤ k0 ∧ k0 ≤ 1000000000000) (hn : n ≤ 1048576) (L : List Value) (w : World) (hP : w.ownsRow base 27 2 v n L) :
    Calls Tryd.prog 26 #[v, .int .i64 k0] w fun e w' => e = .returned (.int .i64 (k0 + 2 * n)) ∧ w'.ownsRow base 27 2 v n ((cmarks k0 n).flatMap Clo.cells) ∧ ∃ g, base ≤ g ∧ w.grownBy w' (some g) ∧ (v.ownBlock = none ∨ v.ownBlock = some g) := by
  obtain ⟨h1, h2⟩ := hP
  rcases h2 with ⟨rfl, rfl⟩ | ⟨g, c, cur, rfl, hg, rest⟩
  · refine (markS_nil k0 w).mono ?_
    rintro e w' ⟨rfl, rfl⟩
    exact ⟨by simp, by simpa [cmarks] using World.ownsRow_nil w base 27 2, base, Nat.le_refl _, ⟨rfl, rfl, rfl, Nat.le_refl _, fun _ _ _ => rfl⟩, .inl rfl⟩
  · refine (markS_row base g n c k0 hk hn L w ⟨h1, .inr ⟨g, c, cur, rfl, hg, rest⟩⟩).mono ?_
    rintro e w' ⟨rfl, hP', hgr⟩
    exact ⟨rfl, hP', g, hg, hgr, .inr rfl⟩

set_option maxHeartbeats 2000000 in
theorem heldS_any (A : Option Addr) (n c : Nat) (k0 : Int) (hk : 0 ≤ k0 ∧ k0 ≤ 1000000000000) (hn : n ≤ 1048576) (w : World) (B : Nat) (hg : Sl Clo.cells 2 w B A (cmarks k0 n)) :
    Calls Tryd.prog 35 #[.slice A n c, .int .i64 k0] w fun e w' => e = .returned (.int .i64 (k0 + 2 * n)) ∧ w = w' := by
  go_enter Tryd.func35, Tryd.ntmps35
  go_wp2_with fail
  go_loop [1, 5] (fun vk vi => ∃ k : Nat, k ≤ n ∧ vi = .int .i64 k ∧ vk = .int .i64 (k0 + 2 * k)) (fun _ vi => n - (intOf vi).toNat)
  case atStart => exact ⟨0, by omega, rfl, by simp⟩
  case round =>
    obtain ⟨k, hk', rfl, rfl⟩ := hrel
    by_cases hlt : k < n
    · obtain ⟨a, rfl, hab, hat⟩ := hg.at_ k _ (cmarks_at k0 n k hlt)
      obtain ⟨q0, q1⟩ := at_ hat
      simp only [cmark] at q0 q1
      clear hat
      go_wp2_with fail
      go_round
      case rel =>
        have e1 : k0 + 2 * (k : Int) + 1 + 1 = k0 + 2 * ((k + 1 : Nat) : Int) := by omega
        exact ⟨k + 1, by omega, by go_num, by rw [e1]⟩
      case measure => simp [intOf]; omega
    · go_wp2_with fail
      obtain rfl : k = n := by omega
      go_ret
      exact ⟨rfl, rfl⟩
end Go.Proofs.YtbpipcfijbgnhaaDoor.cloS
