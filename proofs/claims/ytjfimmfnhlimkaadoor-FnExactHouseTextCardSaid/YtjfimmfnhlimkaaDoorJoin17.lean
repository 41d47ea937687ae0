/-
  Several texts of this proof, joined.
-/
import Derived.Test.YtjfimmfnhlimkaaDoorRows
import Derived.Test.YtjfimmfnhlimkaaDoorSl
import Derived.Test.YtjfimmfnhlimkaaDoorWords
import Derived.WalkKit
import Derived.WalkSpells
import Derived.WalkLawsBesides
import Derived.Lib.Hide
import Derived.Deep.QuietTactic
import Derived.BigQuiet
import Derived.Deep.RegionHeld3
import Derived.Deep.MidRow
/-
  Lists of numbers (int64): copied, held against each other, marked.
-/
namespace Go.Proofs.YtjfimmfnhlimkaaDoor.intS
open Go.RowKit sl

abbrev C (x : Int) : List Value := cInt .i64 x
theorem len (xs : List Int) : ∀ x ∈ xs, (C x).length = 1 := fun _ _ => rfl
theorem at_ {w : World} {a : Addr} {k : Nat} {x : Int} (h : At w (a.add (k * 1)) (C x)) : w.cell? (a.add k) = some (.int .i64 x) := by
  have h0 := h 0 _ rfl
  rw [Nat.mul_one] at h0
  exact h0
theorem info : (Tryd.prog.info? 2).map (fun i => (i.zero, i.size, i.bytes)) = some (some (.int .i64 0), 1, 8) := by kernel_rfl

set_option maxHeartbeats 2000000 in
theorem toS_any (A : Option Addr) (n c : Nat) (xs : List Int) (en : n = xs.length) (hn : n ≤ 1048576) (w : World) (hg : Sl C 1 w w.heap.size A xs) :
    Calls Tryd.prog 108 #[.slice A n c] w fun e w' => ∃ g, e = .returned (.slice (some ⟨g, 0, none⟩) n n) ∧
      w'.ownsRow w.heap.size 2 1 (.slice (some ⟨g, 0, none⟩) n n) n (xs.flatMap C) ∧ Below w.heap.size w w' := by
  obtain ⟨i0, hi, hz0, hz1, hz2⟩ := info_parts info
  have En := Lib.hid en
  clear en
  have hmk : ∀ u : World, (Instr.makeSlice 101 (.int .i64 (n : Int)) (.int .i64 (n : Int))).run Tryd.prog u =
      .ok (.slice (some ⟨u.heap.size, 0, none⟩) n n) (u.alloc (.cells (madeCells #[.int .i64 0] n) 2)) := fun u => by
    have h := run_make (P := Tryd.prog) u 101 2 i0 _ Tryd.underlying101 hi hz0 .i64 .i64 (n : Int) (n : Int) (by omega) (Int.le_refl _) (by rw [hz2]; omega) (by omega)
    have e : ((n : Int)).toNat = n := by omega
    rw [e] at h
    simpa [hz1, Value.cells] using h
  go_enter Tryd.func108, Tryd.ntmps108
  have hB0 : Below w.heap.size w (w.alloc (.cells (madeCells #[.int .i64 0] n) 2)) := (Below.refl _ _).alloc (Nat.le_refl _) _
  have hP0 : (w.alloc (.cells (madeCells #[.int .i64 0] n) 2)).ownsRow w.heap.size 2 1 (.slice (some ⟨w.heap.size, 0, none⟩) n n) n _ :=
    World.ownsRow_lit w (madeCells #[.int .i64 0] n) n (Nat.le_refl _) (by unfold maxLen; omega) (by rw [size_madeCells, Nat.mul_one])
  have HP0 := Lib.hid hP0
  clear hP0
  go_wp2_with fail
  go_loopw [4] (fun vi wr => ∃ k L, k ≤ n ∧ vi = .int .i64 (k : Nat) ∧ wr.ownsRow w.heap.size 2 1 (.slice (some ⟨w.heap.size, 0, none⟩) n n) n L ∧ Done C 1 xs k L ∧ Below w.heap.size w wr) (fun vi _ => n - (intOf vi).toNat)
  case atStart => exact ⟨0, _, by omega, rfl, HP0.out, Done.zero _ _ _ _, hB0⟩
  case round =>
    clear hB0 HP0
    obtain ⟨k, L, hk, rfl, hP, hD, hB⟩ := hrel
    by_cases hlt : k < n
    · obtain ⟨x, hx⟩ : ∃ x, xs[k]? = some x := ⟨xs[k]'(by have := En.out; omega), List.getElem?_eq_getElem _⟩
      obtain ⟨a, rfl, hab, hat⟩ := (hg.below hB).at_ k x hx
      have q0 := at_ hat
      have HX := Lib.hid hx
      have HD := Lib.hid hD
      have hLL := hP.1
      obtain ⟨v0, s0⟩ : ∃ v, wr.cell? ⟨w.heap.size, k, none⟩ = some v := ⟨L[k]'(by omega), (hP.cellAt k (by omega)).trans (List.getElem?_eq_getElem _)⟩
      have f0 := hP.frozenAt k
      have HLL := Lib.hid hLL
      have HP := Lib.hid hP
      clear hLL hP hx hat hD
      go_wp2_with fail
      go_roundw
      case rel =>
        have hP3 := (HP.out.stored k (.int .i64 x)).1
        refine ⟨k + 1, _, by omega, by go_num, hP3, ?_, hB.setCell (p := ⟨w.heap.size, k, none⟩) (Nat.le_refl _) _⟩
        have hd := HD.out.step (len xs) HX.out (by rw [HLL.out, En.out])
        rw [Nat.mul_one] at hd
        exact hd
      case measure => simp [intOf]; omega
    · go_wp2_with fail
      obtain rfl : k = n := by omega
      go_ret
      have hl := En.out
      have e : L = xs.flatMap C := Done.full (by rw [← hl]; exact hD) (len xs) (by omega) (by rw [hP.1, hl])
      rw [← e]
      exact ⟨_, rfl, hP, hB⟩

set_option maxHeartbeats 2000000 in
theorem eqS_any (A A' : Option Addr) (n n' c c' : Nat) (xs ys : List Int) (en : n = xs.length) (en' : n' = ys.length) (hn : n ≤ 1048576) (hn' : n' ≤ 9223372036854775807) (w : World) (hg : Sl C 1 w w.heap.size A xs) (hg' : Sl C 1 w w.heap.size A' ys) (b : Bool) (hb : b = true ↔ xs = ys) :
    Calls Tryd.prog 111 #[.slice A n c, .slice A' n' c'] w fun e w' => e = .returned (.bool b) ∧ Below w.heap.size w w' := by
  have En := Lib.hid en
  have En' := Lib.hid en'
  have Hb := Lib.hid hb
  clear en en' hb
  by_cases hlen : n = n'
  · subst hlen
    go_enter Tryd.func111, Tryd.ntmps111
    go_wp2_with fail
    go_loopw [5] (fun vi wr => ∃ k : Nat, k ≤ n ∧ vi = .int .i64 k ∧ (∀ i, i < k → xs[i]? = ys[i]?) ∧ ∃ m, wr = w.drewN m) (fun vi _ => n - (intOf vi).toNat)
    case atStart => exact ⟨0, by omega, rfl, fun i hi => absurd hi (by omega), 0, rfl⟩
    case round =>
      obtain ⟨k, hk, rfl, hsame, m, rfl⟩ := hrel
      by_cases hlt : k < n
      · obtain ⟨x, hx⟩ : ∃ x, xs[k]? = some x := ⟨xs[k]'(by have := En.out; omega), List.getElem?_eq_getElem _⟩
        obtain ⟨y, hy⟩ : ∃ y, ys[k]? = some y := ⟨ys[k]'(by have := En'.out; omega), List.getElem?_eq_getElem _⟩
        obtain ⟨a, rfl, hab, hat⟩ := hg.at_ k x hx
        obtain ⟨a', rfl, hab', hat'⟩ := hg'.at_ k y hy
        have q0 := at_ hat
        have r0 := at_ hat'
        have HX := Lib.hid hx
        have HY := Lib.hid hy
        clear hx hy hat hat'
        by_cases hxy : x = y
        · subst hxy
          go_wp2_with fail
          go_quiet (fail)
          go_wp2_with fail
          go_roundw
          case rel => exact ⟨k + 1, by omega, by go_num, fun i hi => by
            rcases Nat.lt_or_ge i k with h1 | h1
            · exact hsame i h1
            · obtain rfl : i = k := by omega
              rw [HX.out, HY.out], _, rfl⟩
          case measure => simp [intOf]; omega
        · have hne : (x != y) = true := by rw [bne_iff_ne]; exact hxy
          go_wp2_with fail
          go_quiet (fail)
          go_wp2_with fail
          go_ret
          refine ⟨ret_bool ?_, (below_drewN _ _ _).trans (below_drewN _ _ _)⟩
          cases hbb : b with
          | false => rfl
          | true =>
            have he := Hb.out.1 hbb
            have h1 := HX.out
            rw [he, HY.out] at h1
            exact absurd (Option.some.inj h1).symm hxy
      · go_wp2_with fail
        go_ret
        refine ⟨ret_bool ?_, below_drewN _ _ _⟩
        exact (Hb.out.2 (lists_eq En.out En'.out fun i hi => hsame i (by omega))).symm
  · have hno : b = false := by
      cases hbb : b with
      | false => rfl
      | true => exact absurd ((En.out.trans (congrArg List.length (Hb.out.1 hbb))).trans En'.out.symm) hlen
    subst hno
    have hl : ((n : Int) != (n' : Int)) = true := by rw [bne_iff_ne]; omega
    clear hlen
    go_enter Tryd.func111, Tryd.ntmps111
    go_wp2_with fail
    go_ret
    exact ⟨rfl, Below.refl _ _⟩

/-- the numbers from k on -/
def marks (k : Int) (n : Nat) : List Int := (List.range n).map fun i : Nat => k + (i : Int)
theorem marks_len (k : Int) (n : Nat) : (marks k n).length = n := by simp [marks]
theorem marks_at (k : Int) (n i : Nat) (h : i < n) : (marks k n)[i]? = some (k + i) := by simp [marks, h]

set_option maxHeartbeats 2000000 in
theorem markS_row (base g n c : Nat) (k0 : Int) (hk : 0 ≤ k0 ∧ k0 ≤ 1000000000000) (hn : n ≤ 1048576) (L : List Value) (w : World) (hP : w.ownsRow base 2 1 (.slice (some ⟨g, 0, none⟩) n c) n L) :
    Calls Tryd.prog 114 #[.slice (some ⟨g, 0, none⟩) n c, .int .i64 k0] w fun e w' => e = .returned (.int .i64 (k0 + n)) ∧
      w'.ownsRow base 2 1 (.slice (some ⟨g, 0, none⟩) n c) n ((marks k0 n).flatMap C) ∧ w.grownBy w' (some g) := by
  have HP0 := Lib.hid hP
  clear hP
  go_enter Tryd.func114, Tryd.ntmps114
  go_wp2_with fail
  go_loopw [1, 5] (fun vk vi wr => ∃ k L, k ≤ n ∧ vi = .int .i64 (k : Nat) ∧ vk = .int .i64 (k0 + k) ∧ wr.ownsRow base 2 1 (.slice (some ⟨g, 0, none⟩) n c) n L ∧ Done C 1 (marks k0 n) k L ∧ w.grownBy wr (some g)) (fun _ vi _ => n - (intOf vi).toNat)
  case atStart => exact ⟨0, _, by omega, rfl, by simp, HP0.out, Done.zero _ _ _ _, ⟨rfl, rfl, rfl, Nat.le_refl _, fun _ _ _ => rfl⟩⟩
  case round =>
    obtain ⟨k, L, hk', rfl, rfl, hP, hD, hB⟩ := hrel
    by_cases hlt : k < n
    · have HX := Lib.hid (marks_at k0 n k hlt)
      have HD := Lib.hid hD
      have hLL := hP.1
      obtain ⟨v0, s0⟩ : ∃ v, wr.cell? ⟨g, k, none⟩ = some v := ⟨L[k]'(by omega), (hP.cellAt k (by omega)).trans (List.getElem?_eq_getElem _)⟩
      have f0 := hP.frozenAt k
      have HLL := Lib.hid hLL
      have HP := Lib.hid hP
      clear hLL hP hD
      go_wp2_with fail
      go_roundw
      case rel =>
        have hP3 := HP.out.stored k (.int .i64 (k0 + k))
        have g2 := hP3.2
        refine ⟨k + 1, _, by omega, by go_num, by go_num, hP3.1, ?_, ⟨g2.os.trans hB.os, g2.tape.trans hB.tape, g2.output.trans hB.output, Nat.le_trans hB.size g2.size, fun i hi hne => (g2.block i (Nat.lt_of_lt_of_le hi hB.size) hne).trans (hB.block i hi hne)⟩⟩
        have hd := HD.out.step (len _) HX.out (by rw [HLL.out, marks_len])
        rw [Nat.mul_one] at hd
        exact hd
      case measure => simp [intOf]; omega
    · go_wp2_with fail
      obtain rfl : k = n := by omega
      go_ret
      have e : L = (marks k0 k).flatMap C := Done.full (by rw [marks_len]; exact hD) (len _) (by omega) (by rw [hP.1, marks_len])
      rw [← e]
      exact ⟨rfl, hP, hB⟩
set_option maxHeartbeats 1000000 in
theorem markS_nil (k0 : Int) (w : World) :
    Calls Tryd.prog 114 #[.slice none 0 0, .int .i64 k0] w fun e w' => e = .returned (.int .i64 k0) ∧ w = w' := by
  go_enter Tryd.func114, Tryd.ntmps114
  go_wp2_with fail
  refine wp_loop_rounds 1 ?_
  rw [rounds_succ]
  go_wp2_with fail
  go_ret
  exact ⟨rfl, rfl⟩
/-- a row of the call's own is marked -/
theorem markS_any (base : Nat) (v : Value) (n : Nat) (k0 : Int) (hk : 0 ≤ k0 ∧ k0 ≤ 1000000000000) (hn : n ≤ 1048576) (L : List Value) (w : World) (hP : w.ownsRow base 2 1 v n L) :
    Calls Tryd.prog 114 #[v, .int .i64 k0] w fun e w' => e = .returned (.int .i64 (k0 + n)) ∧ w'.ownsRow base 2 1 v n ((marks k0 n).flatMap C) ∧ ∃ g, base ≤ g ∧ w.grownBy w' (some g) ∧ (v.ownBlock = none ∨ v.ownBlock = some g) := by
  obtain ⟨h1, h2⟩ := hP
  rcases h2 with ⟨rfl, rfl⟩ | ⟨g, c, cur, rfl, hg, rest⟩
  · refine (markS_nil k0 w).mono ?_
    rintro e w' ⟨rfl, rfl⟩
    exact ⟨by simp, by simpa [marks] using World.ownsRow_nil w base 2 1, base, Nat.le_refl _, ⟨rfl, rfl, rfl, Nat.le_refl _, fun _ _ _ => rfl⟩, .inl rfl⟩
  · refine (markS_row base g n c k0 hk hn L w ⟨h1, .inr ⟨g, c, cur, rfl, hg, rest⟩⟩).mono ?_
    rintro e w' ⟨rfl, hP', hgr⟩
    exact ⟨rfl, hP', g, hg, hgr, .inr rfl⟩

set_option maxHeartbeats 2000000 in
theorem heldS_any (A : Option Addr) (n c : Nat) (k0 : Int) (hk : 0 ≤ k0 ∧ k0 ≤ 1000000000000) (hn : n ≤ 1048576) (w : World) (B : Nat) (hg : Sl C 1 w B A (marks k0 n)) :
    Calls Tryd.prog 115 #[.slice A n c, .int .i64 k0] w fun e w' => e = .returned (.int .i64 (k0 + n)) ∧ w = w' := by
  go_enter Tryd.func115, Tryd.ntmps115
  go_wp2_with fail
  go_loop [1, 5] (fun vk vi => ∃ k : Nat, k ≤ n ∧ vi = .int .i64 k ∧ vk = .int .i64 (k0 + k)) (fun _ vi => n - (intOf vi).toNat)
  case atStart => exact ⟨0, by omega, rfl, by simp⟩
  case round =>
    obtain ⟨k, hk', rfl, rfl⟩ := hrel
    by_cases hlt : k < n
    · obtain ⟨a, rfl, hab, hat⟩ := hg.at_ k _ (marks_at k0 n k hlt)
      have q0 := at_ hat
      clear hat
      go_wp2_with fail
      go_round
      case rel => exact ⟨k + 1, by omega, by go_num, by go_num⟩
      case measure => simp [intOf]; omega
    · go_wp2_with fail
      obtain rfl : k = n := by omega
      go_ret
      exact ⟨rfl, rfl⟩
end Go.Proofs.YtjfimmfnhlimkaaDoor.intS

/-
  A block of one value that has just been made.
-/
namespace Go.Proofs.YtjfimmfnhlimkaaDoor.fold
open Go Go.RowKit sl

theorem one_newI (w : World) (v : Value) (T : TypeId) : ∀ (j : Nat) u, [v][j]? = some u → (w.alloc (.cells #[v] T)).cell? ((⟨w.heap.size, 0, none⟩ : Addr).add j) = some u := by
  intro j x hj
  rw [add_lit, cell_of_row _ _ _ _ _ _ (heap_alloc_new w _)]
  simpa using hj
theorem one_newB (w : World) (g : Nat) (v : Value) (T : TypeId) (hg : g = w.heap.size) : ∀ (j : Nat) u, [v][j]? = some u → (w.alloc (.cells #[v] T)).cell? ((⟨g, 0, none⟩ : Addr).add j) = some u := by
  subst hg
  exact one_newI w v T
theorem one_cellI {v : Value} (h : v.oneCell' = true) : ∀ u ∈ [v], u.oneCell' = true := by
  intro u hu
  rw [List.mem_singleton.1 hu]
  exact h
theorem flat_snoc (xs : List Int) (n : Int) : (xs ++ [n]).flatMap intS.C = xs.flatMap intS.C ++ [.int .i64 n] := by simp [intS.C]
end Go.Proofs.YtjfimmfnhlimkaaDoor.fold
