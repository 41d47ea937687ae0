/-
  Several texts of this proof, joined.
-/
import Derived.Test.YtlembainfhnnbaaDoorRows
import Derived.Test.YtlembainfhnnbaaDoorSl
import Derived.Test.YtlembainfhnnbaaDoorWords
import Derived.WalkKit
import Derived.WalkSpells
import Derived.WalkLawsBesides
import Derived.Lib.Hide
import Derived.Deep.QuietTactic
import Derived.BigQuiet
import Derived.Deep.RegionHeld3
import Derived.Deep.MidRow
import Derived.Maps.AppendAt
/-
  Lists of numbers (impl.Mark): copied, held against each other, marked.
-/
namespace Go.Proofs.YtlembainfhnnbaaDoor.marS
open Go.RowKit sl

abbrev C (x : Nat) : List Value := cInt .u16 (x : Int)
theorem len (xs : List Nat) : ∀ x ∈ xs, (C x).length = 1 := fun _ _ => rfl
theorem at_ {w : World} {a : Addr} {k : Nat} {x : Nat} (h : At w (a.add (k * 1)) (C x)) : w.cell? (a.add k) = some (.int .u16 x) := by
  have h0 := h 0 _ rfl
  rw [Nat.mul_one] at h0
  exact h0
theorem info : (Tryd.prog.info? 26).map (fun i => (i.zero, i.size, i.bytes)) = some (some (.int .u16 0), 1, 2) := by kernel_rfl

set_option maxHeartbeats 2000000 in
theorem toS_any (A : Option Addr) (n c : Nat) (xs : List Nat) (en : n = xs.length) (hn : n ≤ 1048576) (w : World) (hg : Sl C 1 w w.heap.size A xs) :
    Calls Tryd.prog 21 #[.slice A n c] w fun e w' => ∃ g, e = .returned (.slice (some ⟨g, 0, none⟩) n n) ∧
      w'.ownsRow w.heap.size 26 1 (.slice (some ⟨g, 0, none⟩) n n) n (xs.flatMap C) ∧ Below w.heap.size w w' := by
  obtain ⟨i0, hi, hz0, hz1, hz2⟩ := info_parts info
  have En := Lib.hid en
  clear en
  have hmk : ∀ u : World, (Instr.makeSlice 23 (.int .i64 (n : Int)) (.int .i64 (n : Int))).run Tryd.prog u =
      .ok (.slice (some ⟨u.heap.size, 0, none⟩) n n) (u.alloc (.cells (madeCells #[.int .u16 0] n) 26)) := fun u => by
    have h := run_make (P := Tryd.prog) u 23 26 i0 _ Tryd.underlying23 hi hz0 .i64 .i64 (n : Int) (n : Int) (by omega) (Int.le_refl _) (by rw [hz2]; omega) (by omega)
    have e : ((n : Int)).toNat = n := by omega
    rw [e] at h
    simpa [hz1, Value.cells] using h
  go_enter Tryd.func21, Tryd.ntmps21
  have hB0 : Below w.heap.size w (w.alloc (.cells (madeCells #[.int .u16 0] n) 26)) := (Below.refl _ _).alloc (Nat.le_refl _) _
  have hP0 : (w.alloc (.cells (madeCells #[.int .u16 0] n) 26)).ownsRow w.heap.size 26 1 (.slice (some ⟨w.heap.size, 0, none⟩) n n) n _ :=
    World.ownsRow_lit w (madeCells #[.int .u16 0] n) n (Nat.le_refl _) (by unfold maxLen; omega) (by rw [size_madeCells, Nat.mul_one])
  have HP0 := Lib.hid hP0
  clear hP0
  go_wp2_with fail
  go_loopw [4] (fun vi wr => ∃ k L, k ≤ n ∧ vi = .int .i64 (k : Nat) ∧ wr.ownsRow w.heap.size 26 1 (.slice (some ⟨w.heap.size, 0, none⟩) n n) n L ∧ Done C 1 xs k L ∧ Below w.heap.size w wr) (fun vi _ => n - (intOf vi).toNat)
  case atStart => exact ⟨0, _, by omega, rfl, HP0.out, Done.zero _ _ _ _, hB0⟩
  case round =>
    clear hB0 HP0
    obtain ⟨k, L, hk, rfl, hP, hD, hB⟩ := hrel
    by_cases hlt : k < n
    · obtain ⟨x, hx⟩ : ∃ x, xs[k]? = some x := ⟨xs[k]'(by have := En.out; omega), List.getElem?_eq_getElem _⟩
      obtain ⟨a, rfl, hab, hat⟩ := (hg.below hB).at_ k x hx
      have q0 := at_ hat
      have HX := Lib.hid hx
      have HD := Lib.hid hD
      have hLL := hP.1
      obtain ⟨v0, s0⟩ : ∃ v, wr.cell? ⟨w.heap.size, k, none⟩ = some v := ⟨L[k]'(by omega), (hP.cellAt k (by omega)).trans (List.getElem?_eq_getElem _)⟩
      have f0 := hP.frozenAt k
      have HLL := Lib.hid hLL
      have HP := Lib.hid hP
      clear hLL hP hx hat hD
      go_wp2_with fail
      go_roundw
      case rel =>
        have hP3 := (HP.out.stored k (.int .u16 x)).1
        refine ⟨k + 1, _, by omega, by go_num, hP3, ?_, hB.setCell (p := ⟨w.heap.size, k, none⟩) (Nat.le_refl _) _⟩
        have hd := HD.out.step (len xs) HX.out (by rw [HLL.out, En.out])
        rw [Nat.mul_one] at hd
        exact hd
      case measure => simp [intOf]; omega
    · go_wp2_with fail
      obtain rfl : k = n := by omega
      go_ret
      have hl := En.out
      have e : L = xs.flatMap C := Done.full (by rw [← hl]; exact hD) (len xs) (by omega) (by rw [hP.1, hl])
      rw [← e]
      exact ⟨_, rfl, hP, hB⟩

set_option maxHeartbeats 2000000 in
theorem eqS_any (A A' : Option Addr) (n n' c c' : Nat) (xs ys : List Nat) (en : n = xs.length) (en' : n' = ys.length) (hn : n ≤ 1048576) (hn' : n' ≤ 9223372036854775807) (w : World) (hg : Sl C 1 w w.heap.size A xs) (hg' : Sl C 1 w w.heap.size A' ys) (b : Bool) (hb : b = true ↔ xs = ys) :
    Calls Tryd.prog 17 #[.slice A n c, .slice A' n' c'] w fun e w' => e = .returned (.bool b) ∧ Below w.heap.size w w' := by
  have En := Lib.hid en
  have En' := Lib.hid en'
  have Hb := Lib.hid hb
  clear en en' hb
  by_cases hlen : n = n'
  · subst hlen
    go_enter Tryd.func17, Tryd.ntmps17
    go_wp2_with fail
    go_loopw [5] (fun vi wr => ∃ k : Nat, k ≤ n ∧ vi = .int .i64 k ∧ (∀ i, i < k → xs[i]? = ys[i]?) ∧ ∃ m, wr = w.drewN m) (fun vi _ => n - (intOf vi).toNat)
    case atStart => exact ⟨0, by omega, rfl, fun i hi => absurd hi (by omega), 0, rfl⟩
    case round =>
      obtain ⟨k, hk, rfl, hsame, m, rfl⟩ := hrel
      by_cases hlt : k < n
      · obtain ⟨x, hx⟩ : ∃ x, xs[k]? = some x := ⟨xs[k]'(by have := En.out; omega), List.getElem?_eq_getElem _⟩
        obtain ⟨y, hy⟩ : ∃ y, ys[k]? = some y := ⟨ys[k]'(by have := En'.out; omega), List.getElem?_eq_getElem _⟩
        obtain ⟨a, rfl, hab, hat⟩ := hg.at_ k x hx
        obtain ⟨a', rfl, hab', hat'⟩ := hg'.at_ k y hy
        have q0 := at_ hat
        have r0 := at_ hat'
        have HX := Lib.hid hx
        have HY := Lib.hid hy
        clear hx hy hat hat'
        by_cases hxy : x = y
        · subst hxy
          go_wp2_with fail
          go_quiet (fail)
          go_wp2_with fail
          go_roundw
          case rel => exact ⟨k + 1, by omega, by go_num, fun i hi => by
            rcases Nat.lt_or_ge i k with h1 | h1
            · exact hsame i h1
            · obtain rfl : i = k := by omega
              rw [HX.out, HY.out], _, rfl⟩
          case measure => simp [intOf]; omega
        · have hne : ((x : Int) != (y : Int)) = true := by rw [bne_iff_ne]; omega
          go_wp2_with fail
          go_quiet (fail)
          go_wp2_with fail
          go_ret
          refine ⟨ret_bool ?_, (below_drewN _ _ _).trans (below_drewN _ _ _)⟩
          cases hbb : b with
          | false => rfl
          | true =>
            have he := Hb.out.1 hbb
            have h1 := HX.out
            rw [he, HY.out] at h1
            exact absurd (Option.some.inj h1).symm hxy
      · go_wp2_with fail
        go_ret
        refine ⟨ret_bool ?_, below_drewN _ _ _⟩
        exact (Hb.out.2 (lists_eq En.out En'.out fun i hi => hsame i (by omega))).symm
  · have hno : b = false := by
      cases hbb : b with
      | false => rfl
      | true => exact absurd ((En.out.trans (congrArg List.length (Hb.out.1 hbb))).trans En'.out.symm) hlen
    subst hno
    have hl : ((n : Int) != (n' : Int)) = true := by rw [bne_iff_ne]; omega
    clear hlen
    go_enter Tryd.func17, Tryd.ntmps17
    go_wp2_with fail
    go_ret
    exact ⟨rfl, Below.refl _ _⟩

/-- the numbers from k on -/
def marks (k : Nat) (n : Nat) : List Nat := (List.range n).map fun i : Nat => (k + i) % 65536
theorem wrap_mark (k i : Nat) : IntKind.u16.wrap ((k : Int) + (i : Int)) = (((k + i) % 65536 : Nat) : Int) := by
  simp [IntKind.wrap, IntKind.bits, IntKind.signed]
theorem marks_len (k : Nat) (n : Nat) : (marks k n).length = n := by simp [marks]
theorem marks_at (k n i : Nat) (h : i < n) : (marks k n)[i]? = some ((k + i) % 65536) := by simp [marks, h]

set_option maxHeartbeats 2000000 in
theorem markS_row (base g n c : Nat) (k0 : Nat) (hk : k0 ≤ 1000000000000) (hn : n ≤ 1048576) (L : List Value) (w : World) (hP : w.ownsRow base 26 1 (.slice (some ⟨g, 0, none⟩) n c) n L) :
    Calls Tryd.prog 18 #[.slice (some ⟨g, 0, none⟩) n c, .int .i64 (k0 : Int)] w fun e w' => e = .returned (.int .i64 ((k0 : Int) + n)) ∧
      w'.ownsRow base 26 1 (.slice (some ⟨g, 0, none⟩) n c) n ((marks k0 n).flatMap C) ∧ w.grownBy w' (some g) := by
  have HP0 := Lib.hid hP
  clear hP
  go_enter Tryd.func18, Tryd.ntmps18
  go_wp2_with fail
  go_loopw [1, 5] (fun vk vi wr => ∃ k L, k ≤ n ∧ vi = .int .i64 (k : Nat) ∧ vk = .int .i64 ((k0 : Int) + k) ∧ wr.ownsRow base 26 1 (.slice (some ⟨g, 0, none⟩) n c) n L ∧ Done C 1 (marks k0 n) k L ∧ w.grownBy wr (some g)) (fun _ vi _ => n - (intOf vi).toNat)
  case atStart => exact ⟨0, _, by omega, rfl, by simp, HP0.out, Done.zero _ _ _ _, ⟨rfl, rfl, rfl, Nat.le_refl _, fun _ _ _ => rfl⟩⟩
  case round =>
    obtain ⟨k, L, hk', rfl, rfl, hP, hD, hB⟩ := hrel
    by_cases hlt : k < n
    · have HX := Lib.hid (marks_at k0 n k hlt)
      have hwm := wrap_mark k0 k
      have HD := Lib.hid hD
      have hLL := hP.1
      obtain ⟨v0, s0⟩ : ∃ v, wr.cell? ⟨g, k, none⟩ = some v := ⟨L[k]'(by omega), (hP.cellAt k (by omega)).trans (List.getElem?_eq_getElem _)⟩
      have f0 := hP.frozenAt k
      have HLL := Lib.hid hLL
      have HP := Lib.hid hP
      clear hLL hP hD
      go_wp2_with fail
      go_roundw
      case rel =>
        have hP3 := HP.out.stored k (.int .u16 ((((k0 + k) % 65536 : Nat)) : Int))
        have g2 := hP3.2
        refine ⟨k + 1, _, by omega, by go_num, by go_num, hP3.1, ?_, ⟨g2.os.trans hB.os, g2.tape.trans hB.tape, g2.output.trans hB.output, Nat.le_trans hB.size g2.size, fun i hi hne => (g2.block i (Nat.lt_of_lt_of_le hi hB.size) hne).trans (hB.block i hi hne)⟩⟩
        have hd := HD.out.step (len _) HX.out (by rw [HLL.out, marks_len])
        rw [Nat.mul_one] at hd
        exact hd
      case measure => simp [intOf]; omega
    · go_wp2_with fail
      obtain rfl : k = n := by omega
      go_ret
      have e : L = (marks k0 k).flatMap C := Done.full (by rw [marks_len]; exact hD) (len _) (by omega) (by rw [hP.1, marks_len])
      rw [← e]
      exact ⟨rfl, hP, hB⟩
set_option maxHeartbeats 1000000 in
theorem markS_nil (k0 : Nat) (w : World) :
    Calls Tryd.prog 18 #[.slice none 0 0, .int .i64 (k0 : Int)] w fun e w' => e = .returned (.int .i64 (k0 : Int)) ∧ w = w' := by
  go_enter Tryd.func18, Tryd.ntmps18
  go_wp2_with fail
  refine wp_loop_rounds 1 ?_
  rw [rounds_succ]
  go_wp2_with fail
  go_ret
  exact ⟨rfl, rfl⟩
/-- a row of the call's own is marked -/
theorem markS_any (base : Nat) (v : Value) (n : Nat) (k0 : Nat) (hk : k0 ≤ 1000000000000) (hn : n ≤ 1048576) (L : List Value) (w : World) (hP : w.ownsRow base 26 1 v n L) :
    Calls Tryd.prog 18 #[v, .int .i64 (k0 : Int)] w fun e w' => e = .returned (.int .i64 ((k0 : Int) + n)) ∧ w'.ownsRow base 26 1 v n ((marks k0 n).flatMap C) ∧ ∃ g, base ≤ g ∧ w.grownBy w' (some g) ∧ (v.ownBlock = none ∨ v.ownBlock = some g) := by
  obtain ⟨h1, h2⟩ := hP
  rcases h2 with ⟨rfl, rfl⟩ | ⟨g, c, cur, rfl, hg, rest⟩
  · refine (markS_nil k0 w).mono ?_
    rintro e w' ⟨rfl, rfl⟩
    exact ⟨by simp, by simpa [marks] using World.ownsRow_nil w base 26 1, base, Nat.le_refl _, ⟨rfl, rfl, rfl, Nat.le_refl _, fun _ _ _ => rfl⟩, .inl rfl⟩
  · refine (markS_row base g n c k0 hk hn L w ⟨h1, .inr ⟨g, c, cur, rfl, hg, rest⟩⟩).mono ?_
    rintro e w' ⟨rfl, hP', hgr⟩
    exact ⟨rfl, hP', g, hg, hgr, .inr rfl⟩

set_option maxHeartbeats 2000000 in
theorem heldS_any (A : Option Addr) (n c : Nat) (k0 : Nat) (hk : k0 ≤ 1000000000000) (hn : n ≤ 1048576) (w : World) (B : Nat) (hg : Sl C 1 w B A (marks k0 n)) :
    Calls Tryd.prog 19 #[.slice A n c, .int .i64 (k0 : Int)] w fun e w' => e = .returned (.int .i64 ((k0 : Int) + n)) ∧ w = w' := by
  go_enter Tryd.func19, Tryd.ntmps19
  go_wp2_with fail
  go_loop [1, 5] (fun vk vi => ∃ k : Nat, k ≤ n ∧ vi = .int .i64 k ∧ vk = .int .i64 ((k0 : Int) + k)) (fun _ vi => n - (intOf vi).toNat)
  case atStart => exact ⟨0, by omega, rfl, by simp⟩
  case round =>
    obtain ⟨k, hk', rfl, rfl⟩ := hrel
    by_cases hlt : k < n
    · obtain ⟨a, rfl, hab, hat⟩ := hg.at_ k _ (marks_at k0 n k hlt)
      have q0 := at_ hat
      have hwm := wrap_mark k0 k
      clear hat
      go_wp2_with fail
      go_round
      case rel => exact ⟨k + 1, by omega, by go_num, by go_num⟩
      case measure => simp [intOf]; omega
    · go_wp2_with fail
      obtain rfl : k = n := by omega
      go_ret
      exact ⟨rfl, rfl⟩
theorem markS_rowZ (base g n c : Nat) (k0 : Int) (hk : 0 ≤ k0 ∧ k0 ≤ 1000000000000) (hn : n ≤ 1048576) (L : List Value) (w : World) (hP : w.ownsRow base 26 1 (.slice (some ⟨g, 0, none⟩) n c) n L) :
    Calls Tryd.prog 18 #[.slice (some ⟨g, 0, none⟩) n c, .int .i64 k0] w fun e w' => e = .returned (.int .i64 (k0 + n)) ∧
      w'.ownsRow base 26 1 (.slice (some ⟨g, 0, none⟩) n c) n ((marks k0.toNat n).flatMap C) ∧ w.grownBy w' (some g) := by
  obtain ⟨k, rfl⟩ := Int.eq_ofNat_of_zero_le hk.1
  exact markS_row base g n c k (by omega) hn L w hP
theorem markS_anyZ (base : Nat) (v : Value) (n : Nat) (k0 : Int) (hk : 0 ≤ k0 ∧ k0 ≤ 1000000000000) (hn : n ≤ 1048576) (L : List Value) (w : World) (hP : w.ownsRow base 26 1 v n L) :
    Calls Tryd.prog 18 #[v, .int .i64 k0] w fun e w' => e = .returned (.int .i64 (k0 + n)) ∧ w'.ownsRow base 26 1 v n ((marks k0.toNat n).flatMap C) ∧ ∃ g, base ≤ g ∧ w.grownBy w' (some g) ∧ (v.ownBlock = none ∨ v.ownBlock = some g) := by
  obtain ⟨k, rfl⟩ := Int.eq_ofNat_of_zero_le hk.1
  exact markS_any base v n k (by omega) hn L w hP
theorem heldS_anyZ (A : Option Addr) (n c : Nat) (k0 : Int) (hk : 0 ≤ k0 ∧ k0 ≤ 1000000000000) (hn : n ≤ 1048576) (w : World) (B : Nat) (hg : Sl C 1 w B A (marks k0.toNat n)) :
    Calls Tryd.prog 19 #[.slice A n c, .int .i64 k0] w fun e w' => e = .returned (.int .i64 (k0 + n)) ∧ w = w' := by
  obtain ⟨k, rfl⟩ := Int.eq_ofNat_of_zero_le hk.1
  exact heldS_any A n c k (by omega) hn w B hg
end Go.Proofs.YtlembainfhnnbaaDoor.marS

/-
  Lists of numbers (int64): copied, held against each other, marked.
-/
namespace Go.Proofs.YtlembainfhnnbaaDoor.intS
open Go.RowKit sl

abbrev C (x : Int) : List Value := cInt .i64 x
theorem len (xs : List Int) : ∀ x ∈ xs, (C x).length = 1 := fun _ _ => rfl
theorem at_ {w : World} {a : Addr} {k : Nat} {x : Int} (h : At w (a.add (k * 1)) (C x)) : w.cell? (a.add k) = some (.int .i64 x) := by
  have h0 := h 0 _ rfl
  rw [Nat.mul_one] at h0
  exact h0
theorem info : (Tryd.prog.info? 2).map (fun i => (i.zero, i.size, i.bytes)) = some (some (.int .i64 0), 1, 8) := by kernel_rfl

set_option maxHeartbeats 2000000 in
theorem toS_any (A : Option Addr) (n c : Nat) (xs : List Int) (en : n = xs.length) (hn : n ≤ 1048576) (w : World) (hg : Sl C 1 w w.heap.size A xs) :
    Calls Tryd.prog 34 #[.slice A n c] w fun e w' => ∃ g, e = .returned (.slice (some ⟨g, 0, none⟩) n n) ∧
      w'.ownsRow w.heap.size 2 1 (.slice (some ⟨g, 0, none⟩) n n) n (xs.flatMap C) ∧ Below w.heap.size w w' := by
  obtain ⟨i0, hi, hz0, hz1, hz2⟩ := info_parts info
  have En := Lib.hid en
  clear en
  have hmk : ∀ u : World, (Instr.makeSlice 46 (.int .i64 (n : Int)) (.int .i64 (n : Int))).run Tryd.prog u =
      .ok (.slice (some ⟨u.heap.size, 0, none⟩) n n) (u.alloc (.cells (madeCells #[.int .i64 0] n) 2)) := fun u => by
    have h := run_make (P := Tryd.prog) u 46 2 i0 _ Tryd.underlying46 hi hz0 .i64 .i64 (n : Int) (n : Int) (by omega) (Int.le_refl _) (by rw [hz2]; omega) (by omega)
    have e : ((n : Int)).toNat = n := by omega
    rw [e] at h
    simpa [hz1, Value.cells] using h
  go_enter Tryd.func34, Tryd.ntmps34
  have hB0 : Below w.heap.size w (w.alloc (.cells (madeCells #[.int .i64 0] n) 2)) := (Below.refl _ _).alloc (Nat.le_refl _) _
  have hP0 : (w.alloc (.cells (madeCells #[.int .i64 0] n) 2)).ownsRow w.heap.size 2 1 (.slice (some ⟨w.heap.size, 0, none⟩) n n) n _ :=
    World.ownsRow_lit w (madeCells #[.int .i64 0] n) n (Nat.le_refl _) (by unfold maxLen; omega) (by rw [size_madeCells, Nat.mul_one])
  have HP0 := Lib.hid hP0
  clear hP0
  go_wp2_with fail
  go_loopw [4] (fun vi wr => ∃ k L, k ≤ n ∧ vi = .int .i64 (k : Nat) ∧ wr.ownsRow w.heap.size 2 1 (.slice (some ⟨w.heap.size, 0, none⟩) n n) n L ∧ Done C 1 xs k L ∧ Below w.heap.size w wr) (fun vi _ => n - (intOf vi).toNat)
  case atStart => exact ⟨0, _, by omega, rfl, HP0.out, Done.zero _ _ _ _, hB0⟩
  case round =>
    clear hB0 HP0
    obtain ⟨k, L, hk, rfl, hP, hD, hB⟩ := hrel
    by_cases hlt : k < n
    · obtain ⟨x, hx⟩ : ∃ x, xs[k]? = some x := ⟨xs[k]'(by have := En.out; omega), List.getElem?_eq_getElem _⟩
      obtain ⟨a, rfl, hab, hat⟩ := (hg.below hB).at_ k x hx
      have q0 := at_ hat
      have HX := Lib.hid hx
      have HD := Lib.hid hD
      have hLL := hP.1
      obtain ⟨v0, s0⟩ : ∃ v, wr.cell? ⟨w.heap.size, k, none⟩ = some v := ⟨L[k]'(by omega), (hP.cellAt k (by omega)).trans (List.getElem?_eq_getElem _)⟩
      have f0 := hP.frozenAt k
      have HLL := Lib.hid hLL
      have HP := Lib.hid hP
      clear hLL hP hx hat hD
      go_wp2_with fail
      go_roundw
      case rel =>
        have hP3 := (HP.out.stored k (.int .i64 x)).1
        refine ⟨k + 1, _, by omega, by go_num, hP3, ?_, hB.setCell (p := ⟨w.heap.size, k, none⟩) (Nat.le_refl _) _⟩
        have hd := HD.out.step (len xs) HX.out (by rw [HLL.out, En.out])
        rw [Nat.mul_one] at hd
        exact hd
      case measure => simp [intOf]; omega
    · go_wp2_with fail
      obtain rfl : k = n := by omega
      go_ret
      have hl := En.out
      have e : L = xs.flatMap C := Done.full (by rw [← hl]; exact hD) (len xs) (by omega) (by rw [hP.1, hl])
      rw [← e]
      exact ⟨_, rfl, hP, hB⟩

set_option maxHeartbeats 2000000 in
theorem eqS_any (A A' : Option Addr) (n n' c c' : Nat) (xs ys : List Int) (en : n = xs.length) (en' : n' = ys.length) (hn : n ≤ 1048576) (hn' : n' ≤ 9223372036854775807) (w : World) (hg : Sl C 1 w w.heap.size A xs) (hg' : Sl C 1 w w.heap.size A' ys) (b : Bool) (hb : b = true ↔ xs = ys) :
    Calls Tryd.prog 36 #[.slice A n c, .slice A' n' c'] w fun e w' => e = .returned (.bool b) ∧ Below w.heap.size w w' := by
  have En := Lib.hid en
  have En' := Lib.hid en'
  have Hb := Lib.hid hb
  clear en en' hb
  by_cases hlen : n = n'
  · subst hlen
    go_enter Tryd.func36, Tryd.ntmps36
    go_wp2_with fail
    go_loopw [5] (fun vi wr => ∃ k : Nat, k ≤ n ∧ vi = .int .i64 k ∧ (∀ i, i < k → xs[i]? = ys[i]?) ∧ ∃ m, wr = w.drewN m) (fun vi _ => n - (intOf vi).toNat)
    case atStart => exact ⟨0, by omega, rfl, fun i hi => absurd hi (by omega), 0, rfl⟩
    case round =>
      obtain ⟨k, hk, rfl, hsame, m, rfl⟩ := hrel
      by_cases hlt : k < n
      · obtain ⟨x, hx⟩ : ∃ x, xs[k]? = some x := ⟨xs[k]'(by have := En.out; omega), List.getElem?_eq_getElem _⟩
        obtain ⟨y, hy⟩ : ∃ y, ys[k]? = some y := ⟨ys[k]'(by have := En'.out; omega), List.getElem?_eq_getElem _⟩
        obtain ⟨a, rfl, hab, hat⟩ := hg.at_ k x hx
        obtain ⟨a', rfl, hab', hat'⟩ := hg'.at_ k y hy
        have q0 := at_ hat
        have r0 := at_ hat'
        have HX := Lib.hid hx
        have HY := Lib.hid hy
        clear hx hy hat hat'
        by_cases hxy : x = y
        · subst hxy
          go_wp2_with fail
          go_quiet (fail)
          go_wp2_with fail
          go_roundw
          case rel => exact ⟨k + 1, by omega, by go_num, fun i hi => by
            rcases Nat.lt_or_ge i k with h1 | h1
            · exact hsame i h1
            · obtain rfl : i = k := by omega
              rw [HX.out, HY.out], _, rfl⟩
          case measure => simp [intOf]; omega
        · have hne : (x != y) = true := by rw [bne_iff_ne]; exact hxy
          go_wp2_with fail
          go_quiet (fail)
          go_wp2_with fail
          go_ret
          refine ⟨ret_bool ?_, (below_drewN _ _ _).trans (below_drewN _ _ _)⟩
          cases hbb : b with
          | false => rfl
          | true =>
            have he := Hb.out.1 hbb
            have h1 := HX.out
            rw [he, HY.out] at h1
            exact absurd (Option.some.inj h1).symm hxy
      · go_wp2_with fail
        go_ret
        refine ⟨ret_bool ?_, below_drewN _ _ _⟩
        exact (Hb.out.2 (lists_eq En.out En'.out fun i hi => hsame i (by omega))).symm
  · have hno : b = false := by
      cases hbb : b with
      | false => rfl
      | true => exact absurd ((En.out.trans (congrArg List.length (Hb.out.1 hbb))).trans En'.out.symm) hlen
    subst hno
    have hl : ((n : Int) != (n' : Int)) = true := by rw [bne_iff_ne]; omega
    clear hlen
    go_enter Tryd.func36, Tryd.ntmps36
    go_wp2_with fail
    go_ret
    exact ⟨rfl, Below.refl _ _⟩

/-- the numbers from k on -/
def marks (k : Int) (n : Nat) : List Int := (List.range n).map fun i : Nat => k + (i : Int)
theorem marks_len (k : Int) (n : Nat) : (marks k n).length = n := by simp [marks]
theorem marks_at (k : Int) (n i : Nat) (h : i < n) : (marks k n)[i]? = some (k + i) := by simp [marks, h]

set_option maxHeartbeats 2000000 in
theorem markS_row (base g n c : Nat) (k0 : Int) (hk : 0 ≤ k0 ∧ k0 ≤ 1000000000000) (hn : n ≤ 1048576) (L : List Value) (w : World) (hP : w.ownsRow base 2 1 (.slice (some ⟨g, 0, none⟩) n c) n L) :
    Calls Tryd.prog 37 #[.slice (some ⟨g, 0, none⟩) n c, .int .i64 k0] w fun e w' => e = .returned (.int .i64 (k0 + n)) ∧
      w'.ownsRow base 2 1 (.slice (some ⟨g, 0, none⟩) n c) n ((marks k0 n).flatMap C) ∧ w.grownBy w' (some g) := by
  have HP0 := Lib.hid hP
  clear hP
  go_enter Tryd.func37, Tryd.ntmps37
  go_wp2_with fail
  go_loopw [1, 5] (fun vk vi wr => ∃ k L, k ≤ n ∧ vi = .int .i64 (k : Nat) ∧ vk = .int .i64 (k0 + k) ∧ wr.ownsRow base 2 1 (.slice (some ⟨g, 0, none⟩) n c) n L ∧ Done C 1 (marks k0 n) k L ∧ w.grownBy wr (some g)) (fun _ vi _ => n - (intOf vi).toNat)
  case atStart => exact ⟨0, _, by omega, rfl, by simp, HP0.out, Done.zero _ _ _ _, ⟨rfl, rfl, rfl, Nat.le_refl _, fun _ _ _ => rfl⟩⟩
  case round =>
    obtain ⟨k, L, hk', rfl, rfl, hP, hD, hB⟩ := hrel
    by_cases hlt : k < n
    · have HX := Lib.hid (marks_at k0 n k hlt)
      have HD := Lib.hid hD
      have hLL := hP.1
      obtain ⟨v0, s0⟩ : ∃ v, wr.cell? ⟨g, k, none⟩ = some v := ⟨L[k]'(by omega), (hP.cellAt k (by omega)).trans (List.getElem?_eq_getElem _)⟩
      have f0 := hP.frozenAt k
      have HLL := Lib.hid hLL
      have HP := Lib.hid hP
      clear hLL hP hD
      go_wp2_with fail
      go_roundw
      case rel =>
        have hP3 := HP.out.stored k (.int .i64 (k0 + k))
        have g2 := hP3.2
        refine ⟨k + 1, _, by omega, by go_num, by go_num, hP3.1, ?_, ⟨g2.os.trans hB.os, g2.tape.trans hB.tape, g2.output.trans hB.output, Nat.le_trans hB.size g2.size, fun i hi hne => (g2.block i (Nat.lt_of_lt_of_le hi hB.size) hne).trans (hB.block i hi hne)⟩⟩
        have hd := HD.out.step (len _) HX.out (by rw [HLL.out, marks_len])
        rw [Nat.mul_one] at hd
        exact hd
      case measure => simp [intOf]; omega
    · go_wp2_with fail
      obtain rfl : k = n := by omega
      go_ret
      have e : L = (marks k0 k).flatMap C := Done.full (by rw [marks_len]; exact hD) (len _) (by omega) (by rw [hP.1, marks_len])
      rw [← e]
      exact ⟨rfl, hP, hB⟩
set_option maxHeartbeats 1000000 in
theorem markS_nil (k0 : Int) (w : World) :
    Calls Tryd.prog 37 #[.slice none 0 0, .int .i64 k0] w fun e w' => e = .returned (.int .i64 k0) ∧ w = w' := by
  go_enter Tryd.func37, Tryd.ntmps37
  go_wp2_with fail
  refine wp_loop_rounds 1 ?_
  rw [rounds_succ]
  go_wp2_with fail
  go_ret
  exact ⟨rfl, rfl⟩
/-- a row of the call's own is marked -/
theorem markS_any (base : Nat) (v : Value) (n : Nat) (k0 : Int) (hk : 0 ≤ k0 ∧ k0 ≤ 1000000000000) (hn : n ≤ 1048576) (L : List Value) (w : World) (hP : w.ownsRow base 2 1 v n L) :
    Calls Tryd.prog 37 #[v, .int .i64 k0] w fun e w' => e = .returned (.int .i64 (k0 + n)) ∧ w'.ownsRow base 2 1 v n ((marks k0 n).flatMap C) ∧ ∃ g, base ≤ g ∧ w.grownBy w' (some g) ∧ (v.ownBlock = none ∨ v.ownBlock = some g) := by
  obtain ⟨h1, h2⟩ := hP
  rcases h2 with ⟨rfl, rfl⟩ | ⟨g, c, cur, rfl, hg, rest⟩
  · refine (markS_nil k0 w).mono ?_
    rintro e w' ⟨rfl, rfl⟩
    exact ⟨by simp, by simpa [marks] using World.ownsRow_nil w base 2 1, base, Nat.le_refl _, ⟨rfl, rfl, rfl, Nat.le_refl _, fun _ _ _ => rfl⟩, .inl rfl⟩
  · refine (markS_row base g n c k0 hk hn L w ⟨h1, .inr ⟨g, c, cur, rfl, hg, rest⟩⟩).mono ?_
    rintro e w' ⟨rfl, hP', hgr⟩
    exact ⟨rfl, hP', g, hg, hgr, .inr rfl⟩

set_option maxHeartbeats 2000000 in
theorem heldS_any (A : Option Addr) (n c : Nat) (k0 : Int) (hk : 0 ≤ k0 ∧ k0 ≤ 1000000000000) (hn : n ≤ 1048576) (w : World) (B : Nat) (hg : Sl C 1 w B A (marks k0 n)) :
    Calls Tryd.prog 38 #[.slice A n c, .int .i64 k0] w fun e w' => e = .returned (.int .i64 (k0 + n)) ∧ w = w' := by
  go_enter Tryd.func38, Tryd.ntmps38
  go_wp2_with fail
  go_loop [1, 5] (fun vk vi => ∃ k : Nat, k ≤ n ∧ vi = .int .i64 k ∧ vk = .int .i64 (k0 + k)) (fun _ vi => n - (intOf vi).toNat)
  case atStart => exact ⟨0, by omega, rfl, by simp⟩
  case round =>
    obtain ⟨k, hk', rfl, rfl⟩ := hrel
    by_cases hlt : k < n
    · obtain ⟨a, rfl, hab, hat⟩ := hg.at_ k _ (marks_at k0 n k hlt)
      have q0 := at_ hat
      clear hat
      go_wp2_with fail
      go_round
      case rel => exact ⟨k + 1, by omega, by go_num, by go_num⟩
      case measure => simp [intOf]; omega
    · go_wp2_with fail
      obtain rfl : k = n := by omega
      go_ret
      exact ⟨rfl, rfl⟩
end Go.Proofs.YtlembainfhnnbaaDoor.intS

/-
  A block of one value that has just been made.
-/
namespace Go.Proofs.YtlembainfhnnbaaDoor.fold
open Go Go.RowKit sl

theorem one_newI (w : World) (v : Value) (T : TypeId) : ∀ (j : Nat) u, [v][j]? = some u → (w.alloc (.cells #[v] T)).cell? ((⟨w.heap.size, 0, none⟩ : Addr).add j) = some u := by
  intro j x hj
  rw [add_lit, cell_of_row _ _ _ _ _ _ (heap_alloc_new w _)]
  simpa using hj
theorem one_newB (w : World) (g : Nat) (v : Value) (T : TypeId) (hg : g = w.heap.size) : ∀ (j : Nat) u, [v][j]? = some u → (w.alloc (.cells #[v] T)).cell? ((⟨g, 0, none⟩ : Addr).add j) = some u := by
  subst hg
  exact one_newI w v T
theorem one_cellI {v : Value} (h : v.oneCell' = true) : ∀ u ∈ [v], u.oneCell' = true := by
  intro u hu
  rw [List.mem_singleton.1 hu]
  exact h
theorem flat_snoc (xs : List Int) (n : Int) : (xs ++ [n]).flatMap intS.C = xs.flatMap intS.C ++ [.int .i64 n] := by simp [intS.C]
end Go.Proofs.YtlembainfhnnbaaDoor.fold

/-
  A list of numbers of the call's own, and a code.
-/
namespace Go.Proofs.YtlembainfhnnbaaDoor.mks
open Go Go.RowKit sl fold

/-- a list of numbers of the call's own, and a code -/
def OwnN (w : World) (ys : List Int) (k : Nat) (o : Ending) (w' : World) : Prop :=
  ∃ v, o = .returned (.tuple #[v, .int .i64 k]) ∧ w'.ownsRow w.heap.size 2 1 v ys.length (ys.flatMap intS.C) ∧ Below w.heap.size w w'
theorem build_noI (u : World) : (Instr.buildSlice 46 0 #[]).run Tryd.prog u = .ok (.slice (some ⟨u.heap.size, 0, Option.none⟩) 0 0) (u.alloc (.cells #[] 2)) := by kernel_rfl
theorem own_noI (u : World) : (u.alloc (.cells #[] 2)).ownsRow u.heap.size 2 1 (.slice (some ⟨u.heap.size, 0, Option.none⟩) 0 0) 0 [] := World.ownsRow_lit u #[] 0 (Nat.le_refl _) (by unfold maxLen; omega) rfl
theorem own_noB {u : World} {B : Nat} (hB : B ≤ u.heap.size) : (u.alloc (.cells #[] 2)).ownsRow B 2 1 (.slice (some ⟨u.heap.size, 0, Option.none⟩) 0 0) 0 [] := owns_below (own_noI u) hB
end Go.Proofs.YtlembainfhnnbaaDoor.mks

/-
  Lists of lists of numbers, in memory: read; copied by the laws; held against each other.
-/
namespace Go.Proofs.YtlembainfhnnbaaDoor
open Go.RowKit sl

/-- a row: where it lies, its capacity, its numbers -/
structure Rw where
  A : Option Addr
  c : Nat
  xs : List Int
abbrev Rw.v (r : Rw) : Value := .slice r.A r.xs.length r.c
abbrev Rw.C (r : Rw) : List Value := [r.v]
theorem Rw.len (rs : List Rw) : ∀ r ∈ rs, (Rw.C r).length = 1 := fun _ _ => rfl
end Go.Proofs.YtlembainfhnnbaaDoor
namespace Go.Proofs.YtlembainfhnnbaaDoor.rows
open Go Go.RowKit sl

/-- a slice of slices that reads as rows, all below block B -/
structure SS (w : World) (B : Nat) (A : Option Addr) (rs : List Rw) : Prop where
  heads : Sl Rw.C 1 w B A rs
  each : ∀ r ∈ rs, Sl intS.C 1 w B r.A r.xs
  short : ∀ r ∈ rs, r.xs.length ≤ maxLen
theorem SS.below {w w' : World} {B : Nat} {A : Option Addr} {rs : List Rw} (h : SS w B A rs) (hb : Below B w w') : SS w' B A rs := ⟨h.heads.below hb, fun r hr => (h.each r hr).below hb, h.short⟩
theorem SS.more {w : World} {B B' : Nat} {A : Option Addr} {rs : List Rw} (h : SS w B A rs) (hB : B ≤ B') : SS w B' A rs := ⟨h.heads.more hB, fun r hr => (h.each r hr).more hB, h.short⟩
theorem SS.next {w w' : World} {A : Option Addr} {rs : List Rw} (h : SS w w.heap.size A rs) (hb : Below w.heap.size w w') : SS w' w'.heap.size A rs := (h.below hb).more hb.size
/-- a row's head -/
theorem SS.head {w : World} {B : Nat} {A : Option Addr} {rs : List Rw} (h : SS w B A rs) {k : Nat} {r : Rw} (hr : rs[k]? = some r) : ∃ a, A = some a ∧ a.block < B ∧ w.cell? (a.add k) = some (.slice r.A r.xs.length r.c) := by
  obtain ⟨a, e, hb, hat⟩ := h.heads.at_ k r hr
  refine ⟨a, e, hb, ?_⟩
  have := hat 0 _ rfl
  rwa [Nat.mul_one] at this
abbrev nums (rs : List Rw) : List (List Int) := rs.map Rw.xs
/-- rows of the call's own -/
structure OS (w : World) (base : Nat) (A : Option Addr) (c : Nat) (rs : List Rw) : Prop where
  outer : w.ownsRow base 46 1 (.slice A rs.length c) rs.length (rs.flatMap Rw.C)
  each : ∀ r ∈ rs, w.ownsRow base 2 1 r.v r.xs.length (r.xs.flatMap intS.C)
  dist : rs.Pairwise fun a b => ∀ k, a.v.ownBlock = some k → b.v.ownBlock ≠ some k
  off : ∀ r ∈ rs, ∀ k, r.v.ownBlock = some k → (Value.slice A rs.length c).ownBlock ≠ some k
  short : ∀ r ∈ rs, r.xs.length ≤ maxLen
theorem OS.next {w w' : World} {base : Nat} {A : Option Addr} {c : Nat} {rs : List Rw} (h : OS w base A c rs) (hb : Below w.heap.size w w') : OS w' base A c rs :=
  ⟨owns_next h.outer hb, fun r hr => owns_next (h.each r hr) hb, h.dist, h.off, h.short⟩
theorem OS.lower {w : World} {base base' : Nat} {A : Option Addr} {c : Nat} {rs : List Rw} (h : OS w base A c rs) (hb : base' ≤ base) : OS w base' A c rs :=
  ⟨owns_below h.outer hb, fun r hr => owns_below (h.each r hr) hb, h.dist, h.off, h.short⟩
theorem OS.ss {w : World} {base : Nat} {A : Option Addr} {c : Nat} {rs : List Rw} (h : OS w base A c rs) : SS w w.heap.size A rs :=
  ⟨Sl.of_owns h.outer (Rw.len rs) (by decide), fun r hr => Sl.of_owns (h.each r hr) (intS.len _) (by decide), h.short⟩

/-- two heads that are read -/
abbrev RB (p p' : Addr) (v v' : Value) (W u : World) : Prop := u.cell? p = some v ∧ u.cell? p' = some v' ∧ Below W.heap.size W u
theorem RB.next {p p' : Addr} {v v' : Value} {W u t : World} (h : RB p p' v v' W u) (hp : p.block < W.heap.size) (hp' : p'.block < W.heap.size) (hb : Below u.heap.size u t) : RB p p' v v' W t := by
  obtain ⟨h0, h1, hB⟩ := h
  have k := hb.mono hB.size
  exact ⟨(k.cell hp).trans h0, (k.cell hp').trans h1, hB.trans k⟩
theorem RB.below {p p' : Addr} {v v' : Value} {W u : World} (h : RB p p' v v' W u) : Below W.heap.size W u := h.2.2
set_option maxRecDepth 100000 in
set_option maxHeartbeats 4000000 in
theorem eqSS_any (A A' : Option Addr) (n n' c c' : Nat) (rs rs' : List Rw) (en : n = rs.length) (en' : n' = rs'.length) (hn : n ≤ 1048576) (hn' : n' ≤ 9223372036854775807) (hs : ∀ r ∈ rs, r.xs.length ≤ 1048576) (w : World) (hg : SS w w.heap.size A rs) (hg' : SS w w.heap.size A' rs') (b : Bool) (hb : b = true ↔ nums rs = nums rs') :
    Calls Tryd.prog 45 #[.slice A n c, .slice A' n' c'] w fun e w' => e = .returned (.bool b) ∧ Below w.heap.size w w' := by
  have En := Lib.hid en
  have En' := Lib.hid en'
  have Hb := Lib.hid hb
  clear en en' hb
  by_cases hlen : n = n'
  · subst hlen
    go_enter Tryd.func45, Tryd.ntmps45
    go_wp2_with fail
    go_loopw [5] (fun vi wr => ∃ k : Nat, k ≤ n ∧ vi = .int .i64 k ∧ (∀ i, i < k → (nums rs)[i]? = (nums rs')[i]?) ∧ Below w.heap.size w wr) (fun vi _ => n - (intOf vi).toNat)
    case atStart => exact ⟨0, by omega, rfl, fun i hi => absurd hi (by omega), Below.refl _ _⟩
    case round =>
      obtain ⟨k, hk, rfl, hsame, hB⟩ := hrel
      have HB := Lib.hid hB
      have HSA := Lib.hid hsame
      clear hB hsame
      by_cases hlt : k < n
      · obtain ⟨r, hr⟩ : ∃ r, rs[k]? = some r := ⟨rs[k]'(by have := En.out; omega), List.getElem?_eq_getElem _⟩
        obtain ⟨r', hr'⟩ : ∃ r, rs'[k]? = some r := ⟨rs'[k]'(by have := En'.out; omega), List.getElem?_eq_getElem _⟩
        obtain ⟨a, rfl, hab, q0⟩ := (hg.below HB.out).head hr
        obtain ⟨a', rfl, hab', q0'⟩ := (hg'.below HB.out).head hr'
        have hm := List.mem_of_getElem? hr
        have hm' := List.mem_of_getElem? hr'
        have h1 := hs r hm
        have h2 := hg'.short r' hm'
        unfold maxLen at h2
        have hp : (a.add k).block < w.heap.size := by rw [block_add]; exact hab
        have hp' : (a'.add k).block < w.heap.size := by rw [block_add]; exact hab'
        have R0 : Hid (RB (a.add k) (a'.add k) r.v r'.v w wr) := Lib.hid ⟨q0, q0', HB.out⟩
        have HR : Hid ((nums rs)[k]? = some r.xs) := Lib.hid (by simp [nums, hr])
        have HR' : Hid ((nums rs')[k]? = some r'.xs) := Lib.hid (by simp [nums, hr'])
        obtain ⟨t, ht⟩ := some_bool (r.xs = r'.xs)
        have hc := fun (u : World) (hu : Below w.heap.size w u) => intS.eqS_any r.A r'.A r.xs.length r'.xs.length r.c r'.c r.xs r'.xs rfl rfl h1 (by omega) u (((hg.below hu).more hu.size).each r hm) (((hg'.below hu).more hu.size).each r' hm') t ht
        have HC := Lib.hid hc
        have HT := Lib.hid ht
        clear hc ht hr hr' q0 q0' hm hm'
        go_wp2_with fail
        go_region_held3 (RB (a.add k) (a'.add k) r.v r'.v w)
          (first | assumption | exact R0.out.next hp hp' (below_drewN _ wr 1) | exact RB.next (by assumption) hp hp' hb2 | fail)
          (first | (go_at_call 36; refine (HC.out _ ?_).mono ?_; (exact RB.below (p := a.add k) (p' := a'.add k) (by assumption)); rintro e w2 ⟨rfl, hb2⟩) | fail)
        rename_i hS
        have B2 := Lib.hid (RB.below hS)
        clear hS
        cases t with
        | false =>
          go_wp2_with fail
          go_ret
          refine ⟨ret_bool ?_, B2.out⟩
          cases hbb : b with
          | false => rfl
          | true =>
            have he := Hb.out.1 hbb
            have h1 := HR.out
            rw [he, HR'.out] at h1
            have := HT.out.2 (Option.some.inj h1).symm
            cases this
        | true =>
          go_wp2_with fail
          go_roundw
          case rel => exact ⟨k + 1, by omega, by go_num, fun i hi => by
            rcases Nat.lt_or_ge i k with h1 | h1
            · exact HSA.out i h1
            · obtain rfl : i = k := by omega
              rw [HR.out, HR'.out, HT.out.1 rfl], B2.out⟩
          case measure => simp [intOf]; omega
      · go_wp2_with fail
        go_ret
        refine ⟨ret_bool ?_, HB.out⟩
        exact (Hb.out.2 (lists_eq (n := n) (by simp [nums, En.out]) (by simp [nums, En'.out]) fun i hi => HSA.out i (by omega))).symm
  · have hno : b = false := by
      cases hbb : b with
      | false => rfl
      | true =>
        have := congrArg List.length (Hb.out.1 hbb)
        simp only [nums, List.length_map] at this
        exact absurd (En.out.trans (this.trans En'.out.symm)) hlen
    subst hno
    have hl : ((n : Int) != (n' : Int)) = true := by rw [bne_iff_ne]; omega
    clear hlen
    go_enter Tryd.func45, Tryd.ntmps45
    go_wp2_with fail
    go_ret
    exact ⟨rfl, Below.refl _ _⟩
end Go.Proofs.YtlembainfhnnbaaDoor.rows

/-
  Rows of numbers of the call's own, wherever in their blocks they lie: marked, and still held.
-/
namespace Go.Proofs.YtlembainfhnnbaaDoor.rows
open Go Go.RowKit sl

/-- a row of the call's own: nothing, or a part of a block of numbers -/
def Own1 (w : World) (base : Nat) (r : Rw) : Prop :=
  (r.A = none ∧ r.c = 0 ∧ r.xs = []) ∨ ∃ g o cur, r.A = some ⟨g, o, none⟩ ∧ base ≤ g ∧ w.heap[g]? = some (.cells cur 2 (0, 0)) ∧ r.xs.length ≤ r.c ∧ r.c ≤ maxLen ∧ o + r.c ≤ cur.size ∧ ∀ j x, r.xs[j]? = some x → cur[o + j]? = some (.int .i64 x)
/-- what changed lies in the blocks S -/
structure But (S : Nat → Prop) (w w' : World) : Prop where
  os : w'.os = w.os
  tape : w'.tape = w.tape
  output : w'.output = w.output
  size : w.heap.size ≤ w'.heap.size
  block : ∀ k, k < w.heap.size → ¬ S k → w'.heap[k]? = w.heap[k]?
theorem But.refl (S : Nat → Prop) (w : World) : But S w w := ⟨rfl, rfl, rfl, Nat.le_refl _, fun _ _ _ => rfl⟩
theorem But.trans {S : Nat → Prop} {u v w : World} (h : But S u v) (h' : But S v w) : But S u w :=
  ⟨h'.os.trans h.os, h'.tape.trans h.tape, h'.output.trans h.output, Nat.le_trans h.size h'.size, fun k hk hS => (h'.block k (Nat.lt_of_lt_of_le hk h.size) hS).trans (h.block k hk hS)⟩
theorem But.mono {S S' : Nat → Prop} {u v : World} (h : But S u v) (hS : ∀ k, S k → S' k) : But S' u v := ⟨h.os, h.tape, h.output, h.size, fun k hk hn => h.block k hk fun h' => hn (hS k h')⟩
theorem But.of_grown {u v : World} {g : Nat} (h : u.grownBy v (some g)) : But (fun k => k = g) u v := ⟨h.os, h.tape, h.output, h.size, fun k hk hn => h.block k hk fun e => hn (Option.some.inj e)⟩
theorem But.below {S : Nat → Prop} {u v : World} {B : Nat} (h : But S u v) (hB : B ≤ u.heap.size) (hS : ∀ k, S k → B ≤ k) : Below B u v :=
  ⟨h.os, h.tape, h.output, h.size, fun k hk => h.block k (by omega) (fun hk' => by have := hS k hk'; omega)⟩
theorem Own1.at_lt {w : World} {base : Nat} {r : Rw} (h : Own1 w base r) : ∀ k, r.v.ownBlock = some k → base ≤ k ∧ k < w.heap.size := by
  intro k hk
  rcases h with ⟨hA, _, _⟩ | ⟨g, o, cur, hA, hb, hg, _⟩
  · rw [Rw.v, hA] at hk
    simp [Value.ownBlock] at hk
  · rw [Rw.v, hA] at hk
    simp only [Value.ownBlock, Option.some.injEq] at hk
    subst hk
    exact ⟨hb, (Array.getElem?_eq_some_iff.1 hg).1⟩
theorem Own1.keep {w w' : World} {base : Nat} {r : Rw} (h : Own1 w base r) (hk : ∀ g, r.v.ownBlock = some g → w'.heap[g]? = w.heap[g]?) : Own1 w' base r := by
  rcases h with h | ⟨g, o, cur, hA, hb, hg, rest⟩
  · exact .inl h
  · exact .inr ⟨g, o, cur, hA, hb, (hk g (by rw [Rw.v, hA]; rfl)).trans hg, rest⟩
theorem Own1.next {w w' : World} {base : Nat} {r : Rw} (h : Own1 w base r) (hb : Below w.heap.size w w') : Own1 w' base r := h.keep fun g hg => hb.block g (h.at_lt g hg).2
theorem Own1.but {w w' : World} {base : Nat} {r : Rw} {S : Nat → Prop} (h : Own1 w base r) (hb : But S w w') (hS : ∀ g, r.v.ownBlock = some g → ¬ S g) : Own1 w' base r := h.keep fun g hg => hb.block g (h.at_lt g hg).2 (hS g hg)
theorem Own1.lower {w : World} {base base' : Nat} {r : Rw} (h : Own1 w base r) (hb : base' ≤ base) : Own1 w base' r := by
  rcases h with h | ⟨g, o, cur, hA, hg, rest⟩
  · exact .inl h
  · exact .inr ⟨g, o, cur, hA, Nat.le_trans hb hg, rest⟩
theorem Own1.short {w : World} {base : Nat} {r : Rw} (h : Own1 w base r) : r.xs.length ≤ maxLen := by
  rcases h with ⟨_, _, e⟩ | ⟨g, o, cur, hA, hg, _, h1, h2, _⟩
  · rw [e]; exact Nat.zero_le _
  · omega
theorem Own1.sl {w : World} {base : Nat} {r : Rw} (h : Own1 w base r) : Sl intS.C 1 w w.heap.size r.A r.xs := by
  refine ⟨fun k x hx => ?_⟩
  rcases h with ⟨_, _, e⟩ | ⟨g, o, cur, hA, hb, hg, h1, h2, h3, h4⟩
  · rw [e] at hx
    simp at hx
  · refine ⟨_, hA, (Array.getElem?_eq_some_iff.1 hg).1, fun j v hj => ?_⟩
    have hj0 : j = 0 := by
      have := (List.getElem?_eq_some_iff.1 hj).1
      simp [cInt] at this
      exact this
    subst hj0
    simp only [cInt, List.getElem?_cons_zero, Option.some.injEq] at hj
    subst hj
    have := h4 k x hx
    have e := cell_of_row w g (o + k) cur 2 (0, 0) hg
    rw [Nat.mul_one]
    rw [add_at, add_at, Nat.add_zero, e]
    exact this
theorem Own1.of_owns {w : World} {base : Nat} {r : Rw} (h : w.ownsRow base 2 1 r.v r.xs.length (r.xs.flatMap intS.C)) : Own1 w base r := by
  obtain ⟨h1, h2⟩ := h
  rcases h2 with ⟨hv, h0⟩ | ⟨g, cap, cur, hv, hg, hh, hnc, hcm, hcs, ht⟩
  · simp only [Rw.v, Value.slice.injEq] at hv
    exact .inl ⟨hv.1, hv.2.2, List.length_eq_zero_iff.1 h0⟩
  · simp only [Rw.v, Value.slice.injEq] at hv
    refine .inr ⟨g, 0, cur, hv.1, hg, hh, by omega, by omega, by omega, fun j x hx => ?_⟩
    have hf := flat_get (fun y _ => rfl : ∀ y ∈ r.xs, (intS.C y).length = 1) hx (j := 0) (v := .int .i64 x) rfl
    rw [← ht, Nat.mul_one, Nat.add_zero, Nat.mul_one, List.getElem?_take] at hf
    split at hf
    · rw [Nat.zero_add]
      simpa using hf
    · cases hf
/-- the lowest number goes -/
theorem Own1.tail {w : World} {base : Nat} {g o c : Nat} {x : Int} {xs : List Int} (h : Own1 w base ⟨some ⟨g, o, none⟩, c, x :: xs⟩) : Own1 w base ⟨some ⟨g, o + 1, none⟩, c - 1, xs⟩ := by
  rcases h with ⟨h, _⟩ | ⟨g', o', cur, hA, hb, hg, h1, h2, h3, h4⟩
  · cases h
  · simp only [Option.some.injEq, Addr.mk.injEq, and_true] at hA
    obtain ⟨rfl, rfl⟩ := hA
    simp only [List.length_cons] at h1 h2 h3
    refine .inr ⟨g, o + 1, cur, rfl, hb, hg, by show xs.length ≤ c - 1; omega, by show c - 1 ≤ maxLen; omega, by show o + 1 + (c - 1) ≤ cur.size; omega, fun j y hy => ?_⟩
    have := h4 (j + 1) y (by simpa using hy)
    rw [← this]
    congr 1
    omega
set_option maxHeartbeats 2000000 in
theorem mark1_any (w : World) (base : Nat) (r : Rw) (h : Own1 w base r) (k0 : Int) (hk : 0 ≤ k0 ∧ k0 ≤ 1000000000000) (hn : r.xs.length ≤ 1048576) :
    Calls Tryd.prog 37 #[r.v, .int .i64 k0] w fun e w' => e = .returned (.int .i64 (k0 + r.xs.length)) ∧ Own1 w' base ⟨r.A, r.c, intS.marks k0 r.xs.length⟩ ∧ But (fun k => r.v.ownBlock = some k) w w' := by
  obtain ⟨A, c, xs⟩ := r
  rcases h with ⟨hA, hc, hx⟩ | ⟨g, o, cur, hA, hb, hg, h1, h2, h3, h4⟩
  · simp only at hA hc hx
    subst hA hc hx
    refine (intS.markS_nil k0 w).mono ?_
    rintro e w' ⟨rfl, rfl⟩
    exact ⟨by simp, .inl ⟨rfl, rfl, rfl⟩, But.refl _ _⟩
  · simp only at hA h1 h2 h3 h4 hn
    subst hA
    obtain ⟨n, hN⟩ : ∃ n, xs.length = n := ⟨_, rfl⟩
    simp only [Rw.v]
    rw [hN] at h1 hn ⊢
    have HG := Lib.hid hg
    have H4 := Lib.hid h4
    clear hg h4
    go_enter Tryd.func37, Tryd.ntmps37
    go_wp2_with fail
    go_loopw [1, 5] (fun vk vi wr => ∃ k cu, k ≤ n ∧ vi = .int .i64 (k : Nat) ∧ vk = .int .i64 (k0 + k) ∧ wr.heap[g]? = some (.cells cu 2 (0, 0)) ∧ cu.size = cur.size ∧ (∀ j, j < k → cu[o + j]? = some (.int .i64 (k0 + j))) ∧ But (fun k => k = g) w wr) (fun _ vi _ => n - (intOf vi).toNat)
    case atStart => exact ⟨0, cur, by omega, rfl, by simp, HG.out, rfl, fun j hj => absurd hj (by omega), But.refl _ _⟩
    case round =>
      obtain ⟨k, cu, hk', rfl, rfl, hg, hs, hd, hB⟩ := hrel
      have HG1 := Lib.hid hg
      have HS := Lib.hid hs
      have HD := Lib.hid hd
      have HB := Lib.hid hB
      clear hg hs hd hB
      by_cases hlt : k < n
      · have hb1 : o + k < cu.size := by have := HS.out; omega
        obtain ⟨v0, s0⟩ : ∃ v, wr.cell? ⟨g, o + k, none⟩ = some v := ⟨cu[o + k], by rw [cell_of_row wr g (o + k) cu 2 (0, 0) HG1.out]; exact Array.getElem?_eq_getElem hb1⟩
        have f0 := frozen_of_row wr g (o + k) cu 2 HG1.out
        go_wp2_with fail
        go_roundw
        case rel =>
          refine ⟨k + 1, cu.setIfInBounds (o + k) (.int .i64 (k0 + k)), by omega, by go_num, by go_num, heap_setCell_same wr g (o + k) cu 2 (.int .i64 (k0 + k)) HG1.out, by simpa using HS.out, fun j hj => ?_, HB.out.trans ⟨rfl, rfl, rfl, by simp, fun i _ hne => heap_setCell_other wr ⟨g, o + k, none⟩ i _ (fun e => hne (by simp [e]))⟩⟩
          rcases Nat.lt_or_ge j k with h5 | h5
          · rw [Array.getElem?_setIfInBounds_ne (by omega)]
            exact HD.out j h5
          · obtain rfl : j = k := by omega
            rw [Array.getElem?_setIfInBounds_self, if_pos hb1]
        case measure => simp [intOf]; omega
      · go_wp2_with fail
        obtain rfl : k = n := by omega
        go_ret
        refine ⟨rfl, .inr ⟨g, o, cu, rfl, hb, HG1.out, by simpa [intS.marks_len] using h1, h2, by have := HS.out; simp only; omega, fun j x hx => ?_⟩, HB.out.mono fun i hi => by subst hi; rfl⟩
        have hj : j < k := by
          have := (List.getElem?_eq_some_iff.1 hx).1
          simpa [intS.marks_len] using this
        rw [HD.out j hj]
        have := intS.marks_at k0 k j hj
        simp only at hx
        rw [this] at hx
        rw [Option.some.inj hx]
end Go.Proofs.YtlembainfhnnbaaDoor.rows

/-
  Lists of rows of the call's own: counted, marked, still held.
-/
namespace Go.Proofs.YtlembainfhnnbaaDoor.rows
open Go Go.RowKit sl

/-- how many numbers there are -/
def tot : List Rw → Nat
  | [] => 0
  | r :: rs => r.xs.length + tot rs
theorem tot_snoc (rs : List Rw) (r : Rw) : tot (rs ++ [r]) = tot rs + r.xs.length := by
  induction rs with
  | nil => simp [tot]
  | cons x t ih => simp only [List.cons_append, tot, ih]; omega
theorem tot_append (a b : List Rw) : tot (a ++ b) = tot a + tot b := by
  induction a with
  | nil => simp [tot]
  | cons x t ih => simp only [List.cons_append, tot, ih]; omega
theorem tot_mem {rs : List Rw} {r : Rw} (h : r ∈ rs) : r.xs.length ≤ tot rs := by
  induction rs with
  | nil => cases h
  | cons x t ih =>
    rcases List.mem_cons.1 h with rfl | h
    · simp only [tot]; omega
    · have := ih h; simp only [tot]; omega
theorem tot_nums {a b : List Rw} (h : nums a = nums b) : tot a = tot b := by
  induction a generalizing b with
  | nil =>
    cases b with
    | nil => rfl
    | cons x t => cases h
  | cons x t ih =>
    cases b with
    | nil => cases h
    | cons y s =>
      simp only [nums, List.map_cons, List.cons.injEq] at h
      simp only [tot, h.1, ih h.2]
/-- the rows, marked from k on -/
def markR : Int → List Rw → List Rw
  | _, [] => []
  | k, r :: rs => ⟨r.A, r.c, intS.marks k r.xs.length⟩ :: markR (k + r.xs.length) rs
theorem markR_snoc (k : Int) (rs : List Rw) (r : Rw) : markR k (rs ++ [r]) = markR k rs ++ [⟨r.A, r.c, intS.marks (k + tot rs) r.xs.length⟩] := by
  induction rs generalizing k with
  | nil => simp [markR, tot]
  | cons x t ih =>
    simp only [List.cons_append, markR, ih, tot, List.cons.injEq, true_and]
    have e : k + (x.xs.length : Int) + (tot t : Int) = k + ((x.xs.length + tot t : Nat) : Int) := by push_cast; omega
    rw [e]
theorem markR_len (k : Int) (rs : List Rw) : (markR k rs).length = rs.length := by
  induction rs generalizing k with
  | nil => rfl
  | cons x t ih => simp [markR, ih]
theorem markR_v (k : Int) (rs : List Rw) : (markR k rs).map Rw.v = rs.map Rw.v := by
  induction rs generalizing k with
  | nil => rfl
  | cons x t ih => simp only [markR, List.map_cons, ih]; simp [Rw.v, intS.marks_len]
theorem flat_v (rs : List Rw) : rs.flatMap Rw.C = rs.map Rw.v := by
  induction rs with
  | nil => rfl
  | cons x t ih => rw [List.flatMap_cons, ih]; rfl
/-- a list of rows, all of the call's own -/
structure OT (w : World) (base : Nat) (A : Option Addr) (c : Nat) (rs : List Rw) : Prop where
  outer : w.ownsRow base 46 1 (.slice A rs.length c) rs.length (rs.map Rw.v)
  each : ∀ r ∈ rs, Own1 w base r
  dist : (rs.map Rw.v).Pairwise fun a b => ∀ k, a.ownBlock = some k → b.ownBlock ≠ some k
  off : ∀ v ∈ rs.map Rw.v, ∀ k, v.ownBlock = some k → (Value.slice A rs.length c).ownBlock ≠ some k
theorem OT.of {w : World} {base : Nat} {A : Option Addr} {c : Nat} {rs : List Rw} (h : OS w base A c rs) : OT w base A c rs :=
  ⟨by rw [← flat_v]; exact h.outer, fun r hr => Own1.of_owns (h.each r hr), List.pairwise_map.2 h.dist, fun v hv => by
    obtain ⟨r, hr, rfl⟩ := List.mem_map.1 hv
    exact h.off r hr⟩
theorem OT.next {w w' : World} {base : Nat} {A : Option Addr} {c : Nat} {rs : List Rw} (h : OT w base A c rs) (hb : Below w.heap.size w w') : OT w' base A c rs :=
  ⟨owns_next h.outer hb, fun r hr => (h.each r hr).next hb, h.dist, h.off⟩
theorem OT.lower {w : World} {base base' : Nat} {A : Option Addr} {c : Nat} {rs : List Rw} (h : OT w base A c rs) (hb : base' ≤ base) : OT w base' A c rs :=
  ⟨owns_below h.outer hb, fun r hr => (h.each r hr).lower hb, h.dist, h.off⟩
theorem OT.ss {w : World} {base : Nat} {A : Option Addr} {c : Nat} {rs : List Rw} (h : OT w base A c rs) : SS w w.heap.size A rs :=
  ⟨Sl.of_owns (by rw [flat_v]; exact h.outer) (Rw.len rs) (by decide), fun r hr => (h.each r hr).sl, fun r hr => (h.each r hr).short⟩
theorem owns_but {w w' : World} {base : Nat} {e : TypeId} {sz : Nat} {v : Value} {n : Nat} {L : List Value} {S : Nat → Prop} (h : w.ownsRow base e sz v n L) (hb : But S w w') (hS : ∀ g, v.ownBlock = some g → ¬ S g) : w'.ownsRow base e sz v n L := by
  refine ⟨h.1, ?_⟩
  rcases h.2 with hn | ⟨g, cap, cur, rfl, hg, hh, rest⟩
  · exact .inl hn
  · exact .inr ⟨g, cap, cur, rfl, hg, (hb.block g (Array.getElem?_eq_some_iff.1 hh).1 (hS g rfl)).trans hh, rest⟩
/-- what the rows and their list lie in -/
def Blocks (A : Option Addr) (rs : List Rw) (k : Nat) : Prop := (∃ a, A = some a ∧ a.block = k) ∨ ∃ r ∈ rs, r.v.ownBlock = some k
theorem OT.but {w w' : World} {base : Nat} {A : Option Addr} {c : Nat} {rs : List Rw} {S : Nat → Prop} (h : OT w base A c rs) (hb : But S w w') (hS : ∀ k, base ≤ k → k < w.heap.size → ¬ S k) : OT w' base A c rs :=
  ⟨owns_but h.outer hb (fun g hg => hS g (h.outer.lt g hg).1 (h.outer.lt g hg).2), fun r hr => (h.each r hr).but hb (fun g hg => hS g ((h.each r hr).at_lt g hg).1 ((h.each r hr).at_lt g hg).2), h.dist, h.off⟩
/-- one row's numbers are others now -/
theorem OT.mark {w w' : World} {base : Nat} {A : Option Addr} {c : Nat} {pre post : List Rw} {r r' : Rw} (h : OT w base A c (pre ++ r :: post)) (hv : r'.v = r.v) (h' : Own1 w' base r') (hb : But (fun k => r.v.ownBlock = some k) w w') : OT w' base A c (pre ++ r' :: post) := by
  have hl : (pre ++ r' :: post).length = (pre ++ r :: post).length := by simp
  have hm : (pre ++ r' :: post).map Rw.v = (pre ++ r :: post).map Rw.v := by simp only [List.map_append, List.map_cons, hv]
  refine ⟨?_, ?_, by rw [hm]; exact h.dist, by rw [hm, hl]; exact h.off⟩
  · rw [hm, hl]
    exact owns_but h.outer hb fun g hg hr => h.off r.v (by simp) g hr hg
  · have hd := h.dist
    rw [List.map_append, List.map_cons, List.pairwise_append, List.pairwise_cons] at hd
    obtain ⟨_, ⟨hd1, _⟩, hd2⟩ := hd
    intro x hx
    rcases List.mem_append.1 hx with h1 | h1
    · exact (h.each x (List.mem_append_left _ h1)).but hb fun g hg hr => hd2 x.v (List.mem_map_of_mem h1) r.v (List.mem_cons_self ..) g hg hr
    · rcases List.mem_cons.1 h1 with rfl | h1
      · exact h'
      · exact (h.each x (List.mem_append_right _ (List.mem_cons_of_mem _ h1))).but hb fun g hg hr => hd1 x.v (List.mem_map_of_mem h1) g hr hg
set_option maxRecDepth 100000 in
set_option maxHeartbeats 2000000 in
theorem markSS_any (w : World) (base : Nat) (A : Option Addr) (c n : Nat) (rs : List Rw) (en : n = rs.length) (h : OT w base A c rs) (k0 : Int) (hk : 0 ≤ k0 ∧ k0 ≤ 1000000000) (hn : n + tot rs ≤ 1048576) :
    Calls Tryd.prog 46 #[.slice A n c, .int .i64 k0] w fun e w' => e = .returned (.int .i64 (k0 + tot rs)) ∧ OT w' base A c (markR k0 rs) ∧ But (Blocks A rs) w w' := by
  have En := Lib.hid en
  have H0 := Lib.hid h
  clear en h
  go_enter Tryd.func46, Tryd.ntmps46
  go_wp2_with fail
  go_loopw [1, 5] (fun vk vi wr => ∃ (k : Nat) (pre post : List Rw), k ≤ n ∧ vi = .int .i64 k ∧ vk = .int .i64 (k0 + tot pre) ∧ rs = pre ++ post ∧ pre.length = k ∧ OT wr base A c (markR k0 pre ++ post) ∧ But (Blocks A rs) w wr) (fun _ vi _ => n - (intOf vi).toNat)
  case atStart => exact ⟨0, [], rs, by omega, rfl, by simp [tot], rfl, rfl, H0.out, But.refl _ _⟩
  case round =>
    obtain ⟨k, pre, post, hk', rfl, rfl, hz2, hz3, hO, hB⟩ := hrel
    have HZ := Lib.hid hz2
    have HP := Lib.hid hz3
    have HO := Lib.hid hO
    have HB := Lib.hid hB
    have htot : tot pre + tot post ≤ 1048576 := by rw [← tot_append, ← hz2]; omega
    have HTT := Lib.hid htot
    clear hz2 hz3 hO hB htot
    by_cases hlt : k < n
    · obtain ⟨r, t, ht⟩ : ∃ r t, post = r :: t := by
        cases post with
        | nil =>
          exfalso
          have h1 := congrArg List.length HZ.out
          have h2 := HP.out
          have h3 := En.out
          simp only [List.length_append, List.length_nil] at h1
          omega
        | cons r t => exact ⟨r, t, rfl⟩
      subst ht
      have hr : (markR k0 pre ++ r :: t)[k]? = some r := by rw [List.getElem?_append_right (by rw [markR_len, HP.out]; exact Nat.le_refl _), markR_len, HP.out, Nat.sub_self]; rfl
      obtain ⟨a, rfl, hab, q0⟩ := HO.out.ss.head hr
      have hO1 := HO.out.each r (List.mem_of_getElem? hr)
      have hp1 : tot pre ≤ 1048576 := by have := HTT.out; omega
      have hp2 : r.xs.length ≤ 1048576 := by have := HTT.out; simp only [tot] at this; omega
      have HM := Lib.hid (mark1_any wr base r hO1 (k0 + tot pre) (by omega) hp2)
      clear hr hO1
      go_wp2_with fail
      refine HM.out.mono ?_
      rintro o u ⟨rfl, P, hb⟩
      have HP1 := Lib.hid P
      have HB1 := Lib.hid hb
      clear P hb
      go_wp2_with fail
      go_roundw
      case rel => exact ⟨k + 1, pre ++ [r], t, by omega, by go_num, by rw [tot_snoc]; push_cast; rw [Int.add_assoc], by rw [HZ.out]; simp, by rw [List.length_append, HP.out]; rfl, by
        rw [markR_snoc, List.append_assoc]
        exact HO.out.mark (by simp [Rw.v, intS.marks_len]) HP1.out HB1.out, HB.out.trans (HB1.out.mono fun g hg => .inr ⟨r, by rw [HZ.out]; simp, hg⟩)⟩
      case measure => simp [intOf]; omega
    · obtain rfl : k = n := by omega
      have hpost : post = [] := by
        have h1 := congrArg List.length HZ.out
        have h2 := HP.out
        have h3 := En.out
        rw [List.length_append] at h1
        exact List.length_eq_zero_iff.1 (by omega)
      have ht : rs = pre := by rw [HZ.out, hpost, List.append_nil]
      have hO := HO.out
      rw [hpost, List.append_nil, ← ht] at hO
      have HOE := Lib.hid hO
      clear hO
      rw [← ht]
      go_wp2_with fail
      go_ret
      exact ⟨rfl, HOE.out, HB.out⟩
end Go.Proofs.YtlembainfhnnbaaDoor.rows

/-
  A row of a list that is the call's own grows; such a list beside a list of numbers.
-/
namespace Go.Proofs.YtlembainfhnnbaaDoor.rows
open Go Go.RowKit sl

abbrev Own0 (w : World) (base : Nat) (r : Rw) : Prop := w.ownsRow base 2 1 r.v r.xs.length (r.xs.flatMap intS.C)
/-- one row is another one now, in its old block or in a new one -/
theorem OS.grow {u u1 : World} {base g c : Nat} {pre post : List Rw} {r r' : Rw} (h : OS u base (some ⟨g, 0, none⟩) c (pre ++ r :: post)) (hg : u.grownBy u1 r.v.ownBlock) (h' : Own0 u1 base r')
    (hat : r'.v.ownBlock = r.v.ownBlock ∨ r'.v.ownBlock = some u.heap.size) :
    OS (u1.setCell ⟨g, pre.length, none⟩ r'.v) base (some ⟨g, 0, none⟩) c (pre ++ r' :: post) ∧ u1.grownBy (u1.setCell ⟨g, pre.length, none⟩ r'.v) (some g) := by
  have hl : (pre ++ r' :: post).length = (pre ++ r :: post).length := by simp
  have hgl := (h.outer.lt g rfl).2
  have hrg : ∀ x ∈ pre ++ r :: post, ∀ k, x.v.ownBlock = some k → k ≠ g := fun x hx k hk e => h.off x hx k hk (by subst e; rfl)
  have hr'g : ∀ k, r'.v.ownBlock = some k → k ≠ g := fun k hk e => by
    rcases hat with h1 | h1
    · exact hrg r (by simp) k (h1 ▸ hk) e
    · rw [h1] at hk
      have := Option.some.inj hk
      omega
  have ho1 : u1.ownsRow base 46 1 (.slice (some ⟨g, 0, none⟩) (pre ++ r :: post).length c) (pre ++ r :: post).length ((pre ++ r :: post).flatMap Rw.C) := by
    refine h.outer.kept hg (.inr (fun e => hrg r (by simp) g e.symm rfl))
  have hst := ho1.stored pre.length r'.v
  have hset : ((pre ++ r :: post).flatMap Rw.C).set pre.length r'.v = (pre ++ r' :: post).flatMap Rw.C := by
    rw [flat_v, flat_v, List.map_append, List.map_cons, List.set_append_right _ _ (by simp)]
    simp
  rw [hset] at hst
  have keep : ∀ x : Rw, Own0 u1 base x → (∀ k, x.v.ownBlock = some k → k ≠ g) → Own0 (u1.setCell ⟨g, pre.length, none⟩ r'.v) base x := fun x hx hne => owns_other hx hst.2 hne
  have hd := h.dist
  rw [List.pairwise_append, List.pairwise_cons] at hd
  obtain ⟨d0, ⟨d1, d2⟩, d3⟩ := hd
  have pass : ∀ x : Rw, Own0 u base x → (∀ k, x.v.ownBlock = some k → r.v.ownBlock ≠ some k) → Own0 u1 base x := fun x hx hne => hx.kept hg (by
    cases hv : x.v.ownBlock with
    | none => exact .inl rfl
    | some k => exact .inr (fun e => hne k hv e.symm))
  have hpre : ∀ x ∈ pre, Own0 (u1.setCell ⟨g, pre.length, none⟩ r'.v) base x := fun x hx =>
    keep x (pass x (h.each x (List.mem_append_left _ hx)) (fun k hk => d3 x hx r (List.mem_cons_self ..) k hk)) (hrg x (List.mem_append_left _ hx))
  have hpost : ∀ x ∈ post, Own0 (u1.setCell ⟨g, pre.length, none⟩ r'.v) base x := fun x hx =>
    keep x (pass x (h.each x (List.mem_append_right _ (List.mem_cons_of_mem _ hx))) (fun k hk e => d1 x hx k e hk)) (hrg x (List.mem_append_right _ (List.mem_cons_of_mem _ hx)))
  have lt : ∀ x ∈ pre ++ r :: post, ∀ k, x.v.ownBlock = some k → k < u.heap.size := fun x hx k hk => ((h.each x hx).lt k hk).2
  refine ⟨⟨by rw [hl]; exact hst.1, fun x hx => ?_, ?_, fun x hx k hk => ?_, fun x hx => ?_⟩, hst.2⟩
  · rcases List.mem_append.1 hx with h1 | h1
    · exact hpre x h1
    · rcases List.mem_cons.1 h1 with rfl | h1
      · exact keep _ h' hr'g
      · exact hpost x h1
  · rw [List.pairwise_append, List.pairwise_cons]
    refine ⟨d0, ⟨fun b hb k hk e => ?_, d2⟩, fun a ha b hb k hk e => ?_⟩
    · rcases hat with h1 | h1
      · exact d1 b hb k (h1 ▸ hk) e
      · rw [h1] at hk
        have h2 := Option.some.inj hk
        have h3 := lt b (List.mem_append_right _ (List.mem_cons_of_mem _ hb)) k e
        omega
    · rcases List.mem_cons.1 hb with rfl | hb
      · rcases hat with h1 | h1
        · exact d3 a ha r (List.mem_cons_self ..) k hk (h1 ▸ e)
        · rw [h1] at e
          have h2 := Option.some.inj e
          have h3 := lt a (List.mem_append_left _ ha) k hk
          omega
      · exact d3 a ha b (List.mem_cons_of_mem _ hb) k hk e
  · rw [hl]
    rcases List.mem_append.1 hx with h1 | h1
    · exact h.off x (List.mem_append_left _ h1) k hk
    · rcases List.mem_cons.1 h1 with rfl | h1
      · exact fun e => hr'g k hk (Option.some.inj e).symm
      · exact h.off x (List.mem_append_right _ (List.mem_cons_of_mem _ h1)) k hk
  · rcases List.mem_append.1 hx with h1 | h1
    · exact h.short x (List.mem_append_left _ h1)
    · rcases List.mem_cons.1 h1 with rfl | h1
      · exact (Own1.of_owns h').short
      · exact h.short x (List.mem_append_right _ (List.mem_cons_of_mem _ h1))
/-- what OS.grow asks of the list's own block, ahead of the store -/
theorem OS.outer1 {u u1 : World} {base g c : Nat} {pre post : List Rw} {r : Rw} (h : OS u base (some ⟨g, 0, none⟩) c (pre ++ r :: post)) (hg : u.grownBy u1 r.v.ownBlock) :
    u1.ownsRow base 46 1 (.slice (some ⟨g, 0, none⟩) (pre ++ r :: post).length c) (pre ++ r :: post).length ((pre ++ r :: post).flatMap Rw.C) :=
  h.outer.kept hg (.inr (fun e => h.off r (by simp) g e.symm rfl))
/-- rows of the call's own where another block grows -/
theorem OS.kept {u u1 : World} {base c : Nat} {A : Option Addr} {rs : List Rw} {b : Option Nat} (h : OS u base A c rs) (hg : u.grownBy u1 b) (hA : ∀ k, b = some k → (Value.slice A rs.length c).ownBlock ≠ some k) (hR : ∀ k, b = some k → ∀ r ∈ rs, r.v.ownBlock ≠ some k) : OS u1 base A c rs :=
  ⟨h.outer.kept hg (by
    cases hv : (Value.slice A rs.length c).ownBlock with
    | none => exact .inl rfl
    | some k => exact .inr (fun e => hA k e.symm hv)),
   fun r hr => (h.each r hr).kept hg (by
    cases hv : r.v.ownBlock with
    | none => exact .inl rfl
    | some k => exact .inr (fun e => hR k e.symm r hr hv)), h.dist, h.off, h.short⟩
/-- rows of the call's own, and a list of numbers beside them -/
structure SR (w : World) (base : Nat) (A : Option Addr) (c : Nat) (rs : List Rw) (v : Value) (ys : List Int) : Prop where
  os : OS w base A c rs
  own : w.ownsRow base 2 1 v ys.length (ys.flatMap intS.C)
  sepO : ∀ k, v.ownBlock = some k → (Value.slice A rs.length c).ownBlock ≠ some k
  sepR : ∀ k, v.ownBlock = some k → ∀ r ∈ rs, r.v.ownBlock ≠ some k
theorem SR.next {w w' : World} {base : Nat} {A : Option Addr} {c : Nat} {rs : List Rw} {v : Value} {ys : List Int} (h : SR w base A c rs v ys) (hb : Below w.heap.size w w') : SR w' base A c rs v ys :=
  ⟨h.os.next hb, owns_next h.own hb, h.sepO, h.sepR⟩
theorem SR.lower {w : World} {base base' : Nat} {A : Option Addr} {c : Nat} {rs : List Rw} {v : Value} {ys : List Int} (h : SR w base A c rs v ys) (hb : base' ≤ base) : SR w base' A c rs v ys :=
  ⟨h.os.lower hb, owns_below h.own hb, h.sepO, h.sepR⟩
/-- the list of numbers is another one now, in its old block or in a new one -/
theorem SR.rest {u u1 : World} {base c : Nat} {A : Option Addr} {rs : List Rw} {v v' : Value} {ys ys' : List Int} (h : SR u base A c rs v ys) (hg : u.grownBy u1 v.ownBlock) (h' : u1.ownsRow base 2 1 v' ys'.length (ys'.flatMap intS.C))
    (hat : v'.ownBlock = v.ownBlock ∨ v'.ownBlock = some u.heap.size) : SR u1 base A c rs v' ys' := by
  refine ⟨h.os.kept hg (fun k hk => h.sepO k hk) (fun k hk => h.sepR k hk), h', fun k hk e => ?_, fun k hk r hr e => ?_⟩
  · rcases hat with h1 | h1
    · exact h.sepO k (h1 ▸ hk) e
    · rw [h1] at hk
      have h2 := Option.some.inj hk
      have h3 := (h.os.outer.lt k e).2
      omega
  · rcases hat with h1 | h1
    · exact h.sepR k (h1 ▸ hk) r hr e
    · rw [h1] at hk
      have h2 := Option.some.inj hk
      have h3 := ((h.os.each r hr).lt k e).2
      omega
/-- one row is another one now -/
theorem SR.row {u u1 : World} {base g c : Nat} {pre post : List Rw} {r r' : Rw} {v : Value} {ys : List Int} (h : SR u base (some ⟨g, 0, none⟩) c (pre ++ r :: post) v ys) (hg : u.grownBy u1 r.v.ownBlock) (h' : Own0 u1 base r')
    (hat : r'.v.ownBlock = r.v.ownBlock ∨ r'.v.ownBlock = some u.heap.size) : SR (u1.setCell ⟨g, pre.length, none⟩ r'.v) base (some ⟨g, 0, none⟩) c (pre ++ r' :: post) v ys := by
  obtain ⟨h1, h2⟩ := h.os.grow hg h' hat
  have hl : (pre ++ r' :: post).length = (pre ++ r :: post).length := by simp
  have hv1 : u1.ownsRow base 2 1 v ys.length (ys.flatMap intS.C) := h.own.kept hg (by
    cases hv : v.ownBlock with
    | none => exact .inl rfl
    | some k => exact .inr (fun e => h.sepR k hv r (by simp) e.symm))
  refine ⟨h1, owns_other hv1 h2 (fun k hk e => h.sepO k hk (by rw [← e]; rfl)), fun k hk => by rw [hl]; exact h.sepO k hk, fun k hk x hx e => ?_⟩
  rcases List.mem_append.1 hx with hx | hx
  · exact h.sepR k hk x (List.mem_append_left _ hx) e
  · rcases List.mem_cons.1 hx with rfl | hx
    · rcases hat with h3 | h3
      · exact h.sepR k hk r (by simp) (h3 ▸ e)
      · rw [h3] at e
        have h4 := Option.some.inj e
        have h5 := (h.own.lt k hk).2
        omega
    · exact h.sepR k hk x (List.mem_append_right _ (List.mem_cons_of_mem _ hx)) e
end Go.Proofs.YtlembainfhnnbaaDoor.rows

/-
  Lists of rows: what was marked is still held.
-/
namespace Go.Proofs.YtlembainfhnnbaaDoor.rows
open Go Go.RowKit sl

theorem markR_split (k : Int) (a b : List Rw) : markR k (a ++ b) = markR k a ++ markR (k + tot a) b := by
  induction a generalizing k with
  | nil => simp [markR, tot]
  | cons x t ih =>
    simp only [List.cons_append, markR, ih, tot, List.cons.injEq, true_and]
    have e : k + (x.xs.length : Int) + (tot t : Int) = k + ((x.xs.length + tot t : Nat) : Int) := by push_cast; omega
    rw [e]
set_option maxRecDepth 100000 in
set_option maxHeartbeats 2000000 in
theorem heldSS_any (w : World) (A : Option Addr) (c n : Nat) (rs : List Rw) (en : n = rs.length) (k0 : Int) (h : SS w w.heap.size A (markR k0 rs)) (hk : 0 ≤ k0 ∧ k0 ≤ 1000000000) (hn : n + tot rs ≤ 1048576) :
    Calls Tryd.prog 47 #[.slice A n c, .int .i64 k0] w fun e w' => e = .returned (.int .i64 (k0 + tot rs)) ∧ w = w' := by
  have En := Lib.hid en
  have H0 := Lib.hid h
  clear en h
  go_enter Tryd.func47, Tryd.ntmps47
  go_wp2_with fail
  go_loop [1, 5] (fun vk vi => ∃ (k : Nat) (pre post : List Rw), k ≤ n ∧ vi = .int .i64 k ∧ vk = .int .i64 (k0 + tot pre) ∧ rs = pre ++ post ∧ pre.length = k) (fun _ vi => n - (intOf vi).toNat)
  case atStart => exact ⟨0, [], rs, by omega, rfl, by simp [tot], rfl, rfl⟩
  case round =>
    obtain ⟨k, pre, post, hk', rfl, rfl, hz2, hz3⟩ := hrel
    have HZ := Lib.hid hz2
    have HP := Lib.hid hz3
    have htot : tot pre + tot post ≤ 1048576 := by rw [← tot_append, ← hz2]; omega
    have HTT := Lib.hid htot
    clear hz2 hz3 htot
    by_cases hlt : k < n
    · obtain ⟨r, t, ht⟩ : ∃ r t, post = r :: t := by
        cases post with
        | nil =>
          exfalso
          have h1 := congrArg List.length HZ.out
          have h2 := HP.out
          have h3 := En.out
          simp only [List.length_append, List.length_nil] at h1
          omega
        | cons r t => exact ⟨r, t, rfl⟩
      subst ht
      have hr : (markR k0 rs)[k]? = some ⟨r.A, r.c, intS.marks (k0 + tot pre) r.xs.length⟩ := by
        rw [HZ.out, markR_split, List.getElem?_append_right (by rw [markR_len, HP.out]; exact Nat.le_refl _), markR_len, HP.out, Nat.sub_self]; rfl
      obtain ⟨a, rfl, hab, q0⟩ := H0.out.head hr
      have hO1 := H0.out.each _ (List.mem_of_getElem? hr)
      simp only [intS.marks_len] at q0 hO1
      have hp1 : tot pre ≤ 1048576 := by have := HTT.out; omega
      have hp2 : r.xs.length ≤ 1048576 := by have := HTT.out; simp only [tot] at this; omega
      have HM := Lib.hid (intS.heldS_any r.A r.xs.length r.c (k0 + tot pre) (by omega) hp2 _ _ hO1)
      have hno : decide (k0 + (tot pre : Int) + (r.xs.length : Int) < 0) = false := by simp; omega
      clear hr hO1
      go_wp2_with fail
      refine HM.out.mono ?_
      rintro o u ⟨rfl, rfl⟩
      go_wp2_with fail
      go_round
      case rel => exact ⟨k + 1, pre ++ [r], t, by omega, by go_num, by rw [tot_snoc]; push_cast; rw [Int.add_assoc], by rw [HZ.out]; simp, by rw [List.length_append, HP.out]; rfl⟩
      case measure => simp [intOf]; omega
    · obtain rfl : k = n := by omega
      have hpost : post = [] := by
        have h1 := congrArg List.length HZ.out
        have h2 := HP.out
        have h3 := En.out
        rw [List.length_append] at h1
        exact List.length_eq_zero_iff.1 (by omega)
      have ht : rs = pre := by rw [HZ.out, hpost, List.append_nil]
      rw [← ht]
      go_wp2_with fail
      go_ret
      exact ⟨rfl, rfl⟩
end Go.Proofs.YtlembainfhnnbaaDoor.rows
