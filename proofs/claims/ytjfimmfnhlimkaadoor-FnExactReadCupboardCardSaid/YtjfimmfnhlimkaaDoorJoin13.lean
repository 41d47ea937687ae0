/-
  Several texts of this proof, joined.
-/
import Derived.Test.YtjfimmfnhlimkaaDoorRows
import Derived.Test.YtjfimmfnhlimkaaDoorSl
import Derived.Test.YtjfimmfnhlimkaaDoorJoin3
import Derived.WalkKit
import Derived.WalkSpells
import Derived.WalkLawsBesides
import Derived.Lib.Hide
import Derived.Deep.QuietTactic
import Derived.BigQuiet
import Derived.Deep.RegionHeld3
import Derived.Deep.MidRow
import Derived.RegionTactic
import Derived.ChangeAlike
/-
  Lists of numbers (int64): copied, held against each other, marked.
-/
namespace Go.Proofs.YtjfimmfnhlimkaaDoor.intS
open Go.RowKit sl

abbrev C (x : Int) : List Value := cInt .i64 x
theorem len (xs : List Int) : ∀ x ∈ xs, (C x).length = 1 := fun _ _ => rfl
theorem at_ {w : World} {a : Addr} {k : Nat} {x : Int} (h : At w (a.add (k * 1)) (C x)) : w.cell? (a.add k) = some (.int .i64 x) := by
  have h0 := h 0 _ rfl
  rw [Nat.mul_one] at h0
  exact h0
theorem info : (Tryd.prog.info? 2).map (fun i => (i.zero, i.size, i.bytes)) = some (some (.int .i64 0), 1, 8) := by kernel_rfl

set_option maxHeartbeats 2000000 in
theorem toS_any (A : Option Addr) (n c : Nat) (xs : List Int) (en : n = xs.length) (hn : n ≤ 1048576) (w : World) (hg : Sl C 1 w w.heap.size A xs) :
    Calls Tryd.prog 108 #[.slice A n c] w fun e w' => ∃ g, e = .returned (.slice (some ⟨g, 0, none⟩) n n) ∧
      w'.ownsRow w.heap.size 2 1 (.slice (some ⟨g, 0, none⟩) n n) n (xs.flatMap C) ∧ Below w.heap.size w w' := by
  obtain ⟨i0, hi, hz0, hz1, hz2⟩ := info_parts info
  have En := Lib.hid en
  clear en
  have hmk : ∀ u : World, (Instr.makeSlice 101 (.int .i64 (n : Int)) (.int .i64 (n : Int))).run Tryd.prog u =
      .ok (.slice (some ⟨u.heap.size, 0, none⟩) n n) (u.alloc (.cells (madeCells #[.int .i64 0] n) 2)) := fun u => by
    have h := run_make (P := Tryd.prog) u 101 2 i0 _ Tryd.underlying101 hi hz0 .i64 .i64 (n : Int) (n : Int) (by omega) (Int.le_refl _) (by rw [hz2]; omega) (by omega)
    have e : ((n : Int)).toNat = n := by omega
    rw [e] at h
    simpa [hz1, Value.cells] using h
  go_enter Tryd.func108, Tryd.ntmps108
  have hB0 : Below w.heap.size w (w.alloc (.cells (madeCells #[.int .i64 0] n) 2)) := (Below.refl _ _).alloc (Nat.le_refl _) _
  have hP0 : (w.alloc (.cells (madeCells #[.int .i64 0] n) 2)).ownsRow w.heap.size 2 1 (.slice (some ⟨w.heap.size, 0, none⟩) n n) n _ :=
    World.ownsRow_lit w (madeCells #[.int .i64 0] n) n (Nat.le_refl _) (by unfold maxLen; omega) (by rw [size_madeCells, Nat.mul_one])
  have HP0 := Lib.hid hP0
  clear hP0
  go_wp2_with fail
  go_loopw [4] (fun vi wr => ∃ k L, k ≤ n ∧ vi = .int .i64 (k : Nat) ∧ wr.ownsRow w.heap.size 2 1 (.slice (some ⟨w.heap.size, 0, none⟩) n n) n L ∧ Done C 1 xs k L ∧ Below w.heap.size w wr) (fun vi _ => n - (intOf vi).toNat)
  case atStart => exact ⟨0, _, by omega, rfl, HP0.out, Done.zero _ _ _ _, hB0⟩
  case round =>
    clear hB0 HP0
    obtain ⟨k, L, hk, rfl, hP, hD, hB⟩ := hrel
    by_cases hlt : k < n
    · obtain ⟨x, hx⟩ : ∃ x, xs[k]? = some x := ⟨xs[k]'(by have := En.out; omega), List.getElem?_eq_getElem _⟩
      obtain ⟨a, rfl, hab, hat⟩ := (hg.below hB).at_ k x hx
      have q0 := at_ hat
      have HX := Lib.hid hx
      have HD := Lib.hid hD
      have hLL := hP.1
      obtain ⟨v0, s0⟩ : ∃ v, wr.cell? ⟨w.heap.size, k, none⟩ = some v := ⟨L[k]'(by omega), (hP.cellAt k (by omega)).trans (List.getElem?_eq_getElem _)⟩
      have f0 := hP.frozenAt k
      have HLL := Lib.hid hLL
      have HP := Lib.hid hP
      clear hLL hP hx hat hD
      go_wp2_with fail
      go_roundw
      case rel =>
        have hP3 := (HP.out.stored k (.int .i64 x)).1
        refine ⟨k + 1, _, by omega, by go_num, hP3, ?_, hB.setCell (p := ⟨w.heap.size, k, none⟩) (Nat.le_refl _) _⟩
        have hd := HD.out.step (len xs) HX.out (by rw [HLL.out, En.out])
        rw [Nat.mul_one] at hd
        exact hd
      case measure => simp [intOf]; omega
    · go_wp2_with fail
      obtain rfl : k = n := by omega
      go_ret
      have hl := En.out
      have e : L = xs.flatMap C := Done.full (by rw [← hl]; exact hD) (len xs) (by omega) (by rw [hP.1, hl])
      rw [← e]
      exact ⟨_, rfl, hP, hB⟩

set_option maxHeartbeats 2000000 in
theorem eqS_any (A A' : Option Addr) (n n' c c' : Nat) (xs ys : List Int) (en : n = xs.length) (en' : n' = ys.length) (hn : n ≤ 1048576) (hn' : n' ≤ 9223372036854775807) (w : World) (hg : Sl C 1 w w.heap.size A xs) (hg' : Sl C 1 w w.heap.size A' ys) (b : Bool) (hb : b = true ↔ xs = ys) :
    Calls Tryd.prog 111 #[.slice A n c, .slice A' n' c'] w fun e w' => e = .returned (.bool b) ∧ Below w.heap.size w w' := by
  have En := Lib.hid en
  have En' := Lib.hid en'
  have Hb := Lib.hid hb
  clear en en' hb
  by_cases hlen : n = n'
  · subst hlen
    go_enter Tryd.func111, Tryd.ntmps111
    go_wp2_with fail
    go_loopw [5] (fun vi wr => ∃ k : Nat, k ≤ n ∧ vi = .int .i64 k ∧ (∀ i, i < k → xs[i]? = ys[i]?) ∧ ∃ m, wr = w.drewN m) (fun vi _ => n - (intOf vi).toNat)
    case atStart => exact ⟨0, by omega, rfl, fun i hi => absurd hi (by omega), 0, rfl⟩
    case round =>
      obtain ⟨k, hk, rfl, hsame, m, rfl⟩ := hrel
      by_cases hlt : k < n
      · obtain ⟨x, hx⟩ : ∃ x, xs[k]? = some x := ⟨xs[k]'(by have := En.out; omega), List.getElem?_eq_getElem _⟩
        obtain ⟨y, hy⟩ : ∃ y, ys[k]? = some y := ⟨ys[k]'(by have := En'.out; omega), List.getElem?_eq_getElem _⟩
        obtain ⟨a, rfl, hab, hat⟩ := hg.at_ k x hx
        obtain ⟨a', rfl, hab', hat'⟩ := hg'.at_ k y hy
        have q0 := at_ hat
        have r0 := at_ hat'
        have HX := Lib.hid hx
        have HY := Lib.hid hy
        clear hx hy hat hat'
        by_cases hxy : x = y
        · subst hxy
          go_wp2_with fail
          go_quiet (fail)
          go_wp2_with fail
          go_roundw
          case rel => exact ⟨k + 1, by omega, by go_num, fun i hi => by
            rcases Nat.lt_or_ge i k with h1 | h1
            · exact hsame i h1
            · obtain rfl : i = k := by omega
              rw [HX.out, HY.out], _, rfl⟩
          case measure => simp [intOf]; omega
        · have hne : (x != y) = true := by rw [bne_iff_ne]; exact hxy
          go_wp2_with fail
          go_quiet (fail)
          go_wp2_with fail
          go_ret
          refine ⟨ret_bool ?_, (below_drewN _ _ _).trans (below_drewN _ _ _)⟩
          cases hbb : b with
          | false => rfl
          | true =>
            have he := Hb.out.1 hbb
            have h1 := HX.out
            rw [he, HY.out] at h1
            exact absurd (Option.some.inj h1).symm hxy
      · go_wp2_with fail
        go_ret
        refine ⟨ret_bool ?_, below_drewN _ _ _⟩
        exact (Hb.out.2 (lists_eq En.out En'.out fun i hi => hsame i (by omega))).symm
  · have hno : b = false := by
      cases hbb : b with
      | false => rfl
      | true => exact absurd ((En.out.trans (congrArg List.length (Hb.out.1 hbb))).trans En'.out.symm) hlen
    subst hno
    have hl : ((n : Int) != (n' : Int)) = true := by rw [bne_iff_ne]; omega
    clear hlen
    go_enter Tryd.func111, Tryd.ntmps111
    go_wp2_with fail
    go_ret
    exact ⟨rfl, Below.refl _ _⟩

/-- the numbers from k on -/
def marks (k : Int) (n : Nat) : List Int := (List.range n).map fun i : Nat => k + (i : Int)
theorem marks_len (k : Int) (n : Nat) : (marks k n).length = n := by simp [marks]
theorem marks_at (k : Int) (n i : Nat) (h : i < n) : (marks k n)[i]? = some (k + i) := by simp [marks, h]

set_option maxHeartbeats 2000000 in
theorem markS_row (base g n c : Nat) (k0 : Int) (hk : 0 ≤ k0 ∧ k0 ≤ 1000000000000) (hn : n ≤ 1048576) (L : List Value) (w : World) (hP : w.ownsRow base 2 1 (.slice (some ⟨g, 0, none⟩) n c) n L) :
    Calls Tryd.prog 114 #[.slice (some ⟨g, 0, none⟩) n c, .int .i64 k0] w fun e w' => e = .returned (.int .i64 (k0 + n)) ∧
      w'.ownsRow base 2 1 (.slice (some ⟨g, 0, none⟩) n c) n ((marks k0 n).flatMap C) ∧ w.grownBy w' (some g) := by
  have HP0 := Lib.hid hP
  clear hP
  go_enter Tryd.func114, Tryd.ntmps114
  go_wp2_with fail
  go_loopw [1, 5] (fun vk vi wr => ∃ k L, k ≤ n ∧ vi = .int .i64 (k : Nat) ∧ vk = .int .i64 (k0 + k) ∧ wr.ownsRow base 2 1 (.slice (some ⟨g, 0, none⟩) n c) n L ∧ Done C 1 (marks k0 n) k L ∧ w.grownBy wr (some g)) (fun _ vi _ => n - (intOf vi).toNat)
  case atStart => exact ⟨0, _, by omega, rfl, by simp, HP0.out, Done.zero _ _ _ _, ⟨rfl, rfl, rfl, Nat.le_refl _, fun _ _ _ => rfl⟩⟩
  case round =>
    obtain ⟨k, L, hk', rfl, rfl, hP, hD, hB⟩ := hrel
    by_cases hlt : k < n
    · have HX := Lib.hid (marks_at k0 n k hlt)
      have HD := Lib.hid hD
      have hLL := hP.1
      obtain ⟨v0, s0⟩ : ∃ v, wr.cell? ⟨g, k, none⟩ = some v := ⟨L[k]'(by omega), (hP.cellAt k (by omega)).trans (List.getElem?_eq_getElem _)⟩
      have f0 := hP.frozenAt k
      have HLL := Lib.hid hLL
      have HP := Lib.hid hP
      clear hLL hP hD
      go_wp2_with fail
      go_roundw
      case rel =>
        have hP3 := HP.out.stored k (.int .i64 (k0 + k))
        have g2 := hP3.2
        refine ⟨k + 1, _, by omega, by go_num, by go_num, hP3.1, ?_, ⟨g2.os.trans hB.os, g2.tape.trans hB.tape, g2.output.trans hB.output, Nat.le_trans hB.size g2.size, fun i hi hne => (g2.block i (Nat.lt_of_lt_of_le hi hB.size) hne).trans (hB.block i hi hne)⟩⟩
        have hd := HD.out.step (len _) HX.out (by rw [HLL.out, marks_len])
        rw [Nat.mul_one] at hd
        exact hd
      case measure => simp [intOf]; omega
    · go_wp2_with fail
      obtain rfl : k = n := by omega
      go_ret
      have e : L = (marks k0 k).flatMap C := Done.full (by rw [marks_len]; exact hD) (len _) (by omega) (by rw [hP.1, marks_len])
      rw [← e]
      exact ⟨rfl, hP, hB⟩
set_option maxHeartbeats 1000000 in
theorem markS_nil (k0 : Int) (w : World) :
    Calls Tryd.prog 114 #[.slice none 0 0, .int .i64 k0] w fun e w' => e = .returned (.int .i64 k0) ∧ w = w' := by
  go_enter Tryd.func114, Tryd.ntmps114
  go_wp2_with fail
  refine wp_loop_rounds 1 ?_
  rw [rounds_succ]
  go_wp2_with fail
  go_ret
  exact ⟨rfl, rfl⟩
/-- a row of the call's own is marked -/
theorem markS_any (base : Nat) (v : Value) (n : Nat) (k0 : Int) (hk : 0 ≤ k0 ∧ k0 ≤ 1000000000000) (hn : n ≤ 1048576) (L : List Value) (w : World) (hP : w.ownsRow base 2 1 v n L) :
    Calls Tryd.prog 114 #[v, .int .i64 k0] w fun e w' => e = .returned (.int .i64 (k0 + n)) ∧ w'.ownsRow base 2 1 v n ((marks k0 n).flatMap C) ∧ ∃ g, base ≤ g ∧ w.grownBy w' (some g) ∧ (v.ownBlock = none ∨ v.ownBlock = some g) := by
  obtain ⟨h1, h2⟩ := hP
  rcases h2 with ⟨rfl, rfl⟩ | ⟨g, c, cur, rfl, hg, rest⟩
  · refine (markS_nil k0 w).mono ?_
    rintro e w' ⟨rfl, rfl⟩
    exact ⟨by simp, by simpa [marks] using World.ownsRow_nil w base 2 1, base, Nat.le_refl _, ⟨rfl, rfl, rfl, Nat.le_refl _, fun _ _ _ => rfl⟩, .inl rfl⟩
  · refine (markS_row base g n c k0 hk hn L w ⟨h1, .inr ⟨g, c, cur, rfl, hg, rest⟩⟩).mono ?_
    rintro e w' ⟨rfl, hP', hgr⟩
    exact ⟨rfl, hP', g, hg, hgr, .inr rfl⟩

set_option maxHeartbeats 2000000 in
theorem heldS_any (A : Option Addr) (n c : Nat) (k0 : Int) (hk : 0 ≤ k0 ∧ k0 ≤ 1000000000000) (hn : n ≤ 1048576) (w : World) (B : Nat) (hg : Sl C 1 w B A (marks k0 n)) :
    Calls Tryd.prog 115 #[.slice A n c, .int .i64 k0] w fun e w' => e = .returned (.int .i64 (k0 + n)) ∧ w = w' := by
  go_enter Tryd.func115, Tryd.ntmps115
  go_wp2_with fail
  go_loop [1, 5] (fun vk vi => ∃ k : Nat, k ≤ n ∧ vi = .int .i64 k ∧ vk = .int .i64 (k0 + k)) (fun _ vi => n - (intOf vi).toNat)
  case atStart => exact ⟨0, by omega, rfl, by simp⟩
  case round =>
    obtain ⟨k, hk', rfl, rfl⟩ := hrel
    by_cases hlt : k < n
    · obtain ⟨a, rfl, hab, hat⟩ := hg.at_ k _ (marks_at k0 n k hlt)
      have q0 := at_ hat
      clear hat
      go_wp2_with fail
      go_round
      case rel => exact ⟨k + 1, by omega, by go_num, by go_num⟩
      case measure => simp [intOf]; omega
    · go_wp2_with fail
      obtain rfl : k = n := by omega
      go_ret
      exact ⟨rfl, rfl⟩
end Go.Proofs.YtjfimmfnhlimkaaDoor.intS

/-
  A block of one value that has just been made.
-/
namespace Go.Proofs.YtjfimmfnhlimkaaDoor.fold
open Go Go.RowKit sl

theorem one_newI (w : World) (v : Value) (T : TypeId) : ∀ (j : Nat) u, [v][j]? = some u → (w.alloc (.cells #[v] T)).cell? ((⟨w.heap.size, 0, none⟩ : Addr).add j) = some u := by
  intro j x hj
  rw [add_lit, cell_of_row _ _ _ _ _ _ (heap_alloc_new w _)]
  simpa using hj
theorem one_newB (w : World) (g : Nat) (v : Value) (T : TypeId) (hg : g = w.heap.size) : ∀ (j : Nat) u, [v][j]? = some u → (w.alloc (.cells #[v] T)).cell? ((⟨g, 0, none⟩ : Addr).add j) = some u := by
  subst hg
  exact one_newI w v T
theorem one_cellI {v : Value} (h : v.oneCell' = true) : ∀ u ∈ [v], u.oneCell' = true := by
  intro u hu
  rw [List.mem_singleton.1 hu]
  exact h
theorem flat_snoc (xs : List Int) (n : Int) : (xs ++ [n]).flatMap intS.C = xs.flatMap intS.C ++ [.int .i64 n] := by simp [intS.C]
end Go.Proofs.YtjfimmfnhlimkaaDoor.fold

/-
  Cloth: its contracts: copied, held against another one, counted.
-/
namespace Go.Proofs.YtjfimmfnhlimkaaDoor
open Go.RowKit

/-- the numbers of a Cloth -/
structure Clo where
  wide : Int
  heavy : Int

/-- they are in the range of their kinds -/
structure Clo.Fits (x : Clo) : Prop where
  wide0 : -32768 ≤ x.wide
  wide1 : x.wide ≤ 32767
  heavy0 : -32768 ≤ x.heavy
  heavy1 : x.heavy ≤ 32767
abbrev Clo.cells (x : Clo) : List Value := [.int .i16 x.wide, .int .i16 x.heavy]
abbrev Clo.v (x : Clo) : Value := .agg #[.int .i16 x.wide, .int .i16 x.heavy]
theorem Clo.len (xs : List Clo) : ∀ x ∈ xs, (Clo.cells x).length = 2 := fun _ _ => rfl
/-- are two equal -/
def Clo.eq (x y : Clo) : Bool := x.wide == y.wide && (x.heavy == y.heavy)
theorem Clo.eq_iff (x y : Clo) : Clo.eq x y = true ↔ x = y := by
  cases x
  cases y
  simp [Clo.eq]
end Go.Proofs.YtjfimmfnhlimkaaDoor
namespace Go.Proofs.YtjfimmfnhlimkaaDoor.cloS
open Go.RowKit sl

theorem at_ {w : World} {p : Addr} {x : Clo} (h : At w p x.cells) :
    w.cell? p = some (.int .i16 x.wide) ∧ w.cell? ⟨p.block, p.off + 1, none⟩ = some (.int .i16 x.heavy) :=
  ⟨h 0 _ rfl, h 1 _ rfl⟩

set_option maxHeartbeats 1000000 in
theorem to_any (x : Clo) (w : World) :
    Calls Tryd.prog 92 #[x.v] w fun e w' => e = .returned x.v ∧ Below w.heap.size w w' := by
  go_enter Tryd.func92, Tryd.ntmps92
  go_wp2
  refine bodyPost_ret (v := x.v) (by simp [results, Tryd.results92, go_sem]) rfl ⟨rfl, ?_⟩
  repeat (first | exact Below.refl _ _ | assumption | apply Below.drew | (refine Below.alloc ?_ (by first | (simp; done) | (simp; omega) | omega) _) | (refine Below.setCell ?_ (by first | (simp; done) | (simp; omega) | omega) _))
theorem to_parts (wide heavy : Int) (w : World) :
    Calls Tryd.prog 92 #[.agg #[.int .i16 wide, .int .i16 heavy]] w fun e w' => e = .returned (.agg #[.int .i16 wide, .int .i16 heavy]) ∧ Below w.heap.size w w' := to_any ⟨wide, heavy⟩ w

theorem info : (Tryd.prog.info? 136).map (fun i => (i.zero, i.size, i.bytes)) = some (some (.agg #[.int .i16 0, .int .i16 0]), 2, 4) := by kernel_rfl

set_option maxHeartbeats 2000000 in
theorem toS_any (A : Option Addr) (c : Nat) (xs : List Clo) (hn : xs.length ≤ 1048576) (w : World) (hg : Sl Clo.cells 2 w w.heap.size A xs) :
    Calls Tryd.prog 40 #[.slice A xs.length c] w fun e w' => ∃ g, e = .returned (.slice (some ⟨g, 0, none⟩) xs.length xs.length) ∧
      w'.ownsRow w.heap.size 136 2 (.slice (some ⟨g, 0, none⟩) xs.length xs.length) xs.length (xs.flatMap Clo.cells) ∧ Below w.heap.size w w' := by
  obtain ⟨i0, hi, hz0, hz1, hz2⟩ := info_parts info
  obtain ⟨n, en⟩ : ∃ n, n = xs.length := ⟨_, rfl⟩
  rw [← en] at hn ⊢
  have En := Lib.hid en
  clear en
  have hmk : ∀ u : World, (Instr.makeSlice 59 (.int .i64 (n : Int)) (.int .i64 (n : Int))).run Tryd.prog u =
      .ok (.slice (some ⟨u.heap.size, 0, none⟩) n n) (u.alloc (.cells (madeCells #[.int .i16 0, .int .i16 0] (n * 2)) 136)) := fun u => by
    have h := run_make (P := Tryd.prog) u 59 136 i0 _ Tryd.underlying59 hi hz0 .i64 .i64 (n : Int) (n : Int) (by omega) (Int.le_refl _) (by rw [hz2]; omega) (by omega)
    have e : ((n : Int)).toNat = n := by omega
    rw [e] at h
    simpa [hz1, Value.cells] using h
  go_enter Tryd.func40, Tryd.ntmps40
  have hB0 : Below w.heap.size w (w.alloc (.cells (madeCells #[.int .i16 0, .int .i16 0] (n * 2)) 136)) := (Below.refl _ _).alloc (Nat.le_refl _) _
  have hP0 : (w.alloc (.cells (madeCells #[.int .i16 0, .int .i16 0] (n * 2)) 136)).ownsRow w.heap.size 136 2 (.slice (some ⟨w.heap.size, 0, none⟩) n n) n _ :=
    World.ownsRow_lit w (madeCells #[.int .i16 0, .int .i16 0] (n * 2)) n (Nat.le_refl _) (by unfold maxLen; omega) (size_madeCells _ _)
  have HP0 := Lib.hid hP0
  clear hP0
  go_wp2_with fail
  go_loopw [4] (fun vi wr => ∃ k L, k ≤ n ∧ vi = .int .i64 (k : Nat) ∧ wr.ownsRow w.heap.size 136 2 (.slice (some ⟨w.heap.size, 0, none⟩) n n) n L ∧ Done Clo.cells 2 xs k L ∧ Below w.heap.size w wr) (fun vi _ => n - (intOf vi).toNat)
  case atStart => exact ⟨0, _, by omega, rfl, HP0.out, Done.zero _ _ _ _, hB0⟩
  case round =>
    clear hB0 HP0
    obtain ⟨k, L, hk, rfl, hP, hD, hB⟩ := hrel
    by_cases hlt : k < n
    · have hl := En.out
      obtain ⟨x, hx⟩ : ∃ x, xs[k]? = some x := ⟨xs[k], List.getElem?_eq_getElem (by omega)⟩
      clear hl
      obtain ⟨a, rfl, hab, hat⟩ := (hg.below hB).at_ k x hx
      obtain ⟨hg0, hg1⟩ := at_ hat
      have HX := Lib.hid hx
      have HA := Lib.hid hat
      have HD := Lib.hid hD
      clear hx hat hD
      go_wp2_with fail
      refine (to_any x _).mono ?_
      rintro e w2 ⟨rfl, hb2⟩
      have hP2 := owns_next hP hb2
      have hB2 := hB.trans (hb2.mono hB.size)
      clear hg0 hg1 hb2
      have hLL := hP2.1

      obtain ⟨v0, s0⟩ : ∃ v, w2.cell? ⟨w.heap.size, k * 2, none⟩ = some v := ⟨L[k * 2]'(by omega), (hP2.cellAt (k * 2) (by omega)).trans (List.getElem?_eq_getElem _)⟩
      have f0 := hP2.frozenAt (k * 2)
      obtain ⟨v1, s1⟩ : ∃ v, w2.cell? ⟨w.heap.size, k * 2 + 1, none⟩ = some v := ⟨L[k * 2 + 1]'(by omega), (hP2.cellAt (k * 2 + 1) (by omega)).trans (List.getElem?_eq_getElem _)⟩
      have f1 := hP2.frozenAt (k * 2 + 1)
      have HLL := Lib.hid hLL
      clear hLL
      have HP2 := Lib.hid hP2
      clear hP2 hP
      go_wp2_with fail
      go_roundw
      case rel =>
        have hP3 := (owns_cells (o := k * 2) (vs := x.cells) HP2.out).1
        exact ⟨k + 1, _, by omega, by go_num, hP3, HD.out.step (Clo.len xs) HX.out (by rw [HLL.out, En.out]), below_cells hB2 (Nat.le_refl _) x.cells (k * 2)⟩
      case measure => simp [intOf]; omega
    · go_wp2_with fail
      obtain rfl : k = n := by omega
      go_ret
      have hl := En.out
      have e : L = xs.flatMap Clo.cells := Done.full (by rw [← hl]; exact hD) (Clo.len xs) (by omega) (by rw [hP.1, hl])
      rw [← e]
      exact ⟨_, rfl, hP, hB⟩

set_option maxHeartbeats 1000000 in
theorem eq_any (x y : Clo) (w : World) :
    Calls Tryd.prog 95 #[x.v, y.v] w fun e w' => e = .returned (.bool (Clo.eq x y)) ∧ Below w.heap.size w w' := by
  go_enter Tryd.func95, Tryd.ntmps95
  go_wp2_with fail
  all_goals go_ret
  all_goals exact ⟨ret_bool (by simp only [Clo.eq]; first | (simp [*]; done) | (simp_all; done)), ((Below.refl _ _).alloc (Nat.le_refl _) _).alloc (by simp) _⟩

abbrev Both (p p' : Addr) (x y : Clo) (W u : World) : Prop :=
  u.cell? p = some (.int .i16 x.wide) ∧ u.cell? ⟨p.block, p.off + 1, none⟩ = some (.int .i16 x.heavy) ∧ u.cell? p' = some (.int .i16 y.wide) ∧ u.cell? ⟨p'.block, p'.off + 1, none⟩ = some (.int .i16 y.heavy) ∧ Below W.heap.size W u
theorem Both.next {p p' : Addr} {x y : Clo} {W u v : World} (h : Both p p' x y W u) (hp : p.block < W.heap.size) (hp' : p'.block < W.heap.size) (hb : Below u.heap.size u v) : Both p p' x y W v := by
  obtain ⟨h0, h1, h2, h3, hB⟩ := h
  have hs := hB.size
  have k := hb.mono hs
  exact ⟨(k.cell (p := p) hp).trans h0, (k.cell (p := ⟨p.block, p.off + 1, none⟩) hp).trans h1, (k.cell (p := p') hp').trans h2, (k.cell (p := ⟨p'.block, p'.off + 1, none⟩) hp').trans h3, hB.trans k⟩
theorem Both.below {p p' : Addr} {x y : Clo} {W u : World} (h : Both p p' x y W u) : Below W.heap.size W u := h.2.2.2.2

set_option maxHeartbeats 4000000 in
theorem eqS_any (A A' : Option Addr) (n n' c c' : Nat) (xs ys : List Clo) (en : n = xs.length) (en' : n' = ys.length) (hn : n ≤ 1048576) (hn' : n' ≤ 9223372036854775807) (w : World) (hg : Sl Clo.cells 2 w w.heap.size A xs) (hg' : Sl Clo.cells 2 w w.heap.size A' ys) (b : Bool) (hb : b = true ↔ xs = ys) :
    Calls Tryd.prog 42 #[.slice A n c, .slice A' n' c'] w fun e w' => e = .returned (.bool b) ∧ Below w.heap.size w w' := by
  have En := Lib.hid en
  have En' := Lib.hid en'
  have Hb := Lib.hid hb
  clear en en' hb
  by_cases hlen : n = n'
  · subst hlen
    go_enter Tryd.func42, Tryd.ntmps42
    go_wp2_with fail
    go_loopw [5] (fun vi wr => ∃ k : Nat, k ≤ n ∧ vi = .int .i64 k ∧ (∀ i, i < k → xs[i]? = ys[i]?) ∧ Below w.heap.size w wr) (fun vi _ => n - (intOf vi).toNat)
    case atStart => exact ⟨0, by omega, rfl, fun i hi => absurd hi (by omega), Below.refl _ _⟩
    case round =>
      obtain ⟨k, hk, rfl, hsame, hB⟩ := hrel
      by_cases hlt : k < n
      · obtain ⟨x, hx⟩ : ∃ x, xs[k]? = some x := ⟨xs[k]'(by have := En.out; omega), List.getElem?_eq_getElem _⟩
        obtain ⟨y, hy⟩ : ∃ y, ys[k]? = some y := ⟨ys[k]'(by have := En'.out; omega), List.getElem?_eq_getElem _⟩
        obtain ⟨a, rfl, hab, hat⟩ := (hg.below hB).at_ k x hx
        obtain ⟨a', rfl, hab', hat'⟩ := (hg'.below hB).at_ k y hy
        obtain ⟨q0, q1⟩ := at_ hat
        obtain ⟨r0, r1⟩ := at_ hat'
        have HX := Lib.hid hx
        have HY := Lib.hid hy
        have hp : (a.add (k * 2)).block < w.heap.size := by rw [block_add]; exact hab
        have hp' : (a'.add (k * 2)).block < w.heap.size := by rw [block_add]; exact hab'
        have h8 : Both (a.add (k * 2)) (a'.add (k * 2)) x y w wr := ⟨q0, q1, r0, r1, hB⟩
        have H8 := Lib.hid h8
        clear h8 hx hy hat hat'
        go_wp2_with fail
        go_region_held3 (fun u => u.cell? (a.add (k * 2)) = some (.int .i16 x.wide) ∧ u.cell? ⟨(a.add (k * 2)).block, (a.add (k * 2)).off + 1, none⟩ = some (.int .i16 x.heavy) ∧ u.cell? (a'.add (k * 2)) = some (.int .i16 y.wide) ∧ u.cell? ⟨(a'.add (k * 2)).block, (a'.add (k * 2)).off + 1, none⟩ = some (.int .i16 y.heavy) ∧ Below w.heap.size w u)
          (first | exact H8.out.next hp hp' (below_drewN _ wr 1) | exact Both.next (by assumption) hp hp' hb2)
          (first | (go_at_call 95; refine (eq_any x y _).mono ?_; rintro e w2 ⟨rfl, hb2⟩) | fail)
        go_wp2_with fail
        · have hno : (!Clo.eq x y) = true := by assumption
          go_ret
          refine ⟨ret_bool ?_, Both.below (p := a.add (k * 2)) (p' := a'.add (k * 2)) (x := x) (y := y) (by assumption)⟩
          cases hbb : b with
          | false => rfl
          | true =>
            have he := Hb.out.1 hbb
            have h1 := HX.out
            rw [he, HY.out] at h1
            have h2 : Clo.eq x y = true := (Clo.eq_iff x y).2 (Option.some.inj h1).symm
            rw [h2] at hno
            cases hno
        · have hno : (!Clo.eq x y) = false := by assumption
          have he : x = y := (Clo.eq_iff x y).1 (by simpa using hno)
          clear hno
          go_roundw
          case rel => exact ⟨k + 1, by omega, by go_num, fun i hi => by
            rcases Nat.lt_or_ge i k with h1 | h1
            · exact hsame i h1
            · obtain rfl : i = k := by omega
              rw [HX.out, HY.out, he], Both.below (p := a.add (k * 2)) (p' := a'.add (k * 2)) (x := x) (y := y) (by assumption)⟩
          case measure => simp [intOf]; omega
      · go_wp2_with fail
        go_ret
        refine ⟨ret_bool ?_, hB⟩
        exact (Hb.out.2 (lists_eq En.out En'.out fun i hi => hsame i (by omega))).symm
  · have hno : b = false := by
      cases hbb : b with
      | false => rfl
      | true => exact absurd ((En.out.trans (congrArg List.length (Hb.out.1 hbb))).trans En'.out.symm) hlen
    subst hno
    have hl : ((n : Int) != (n' : Int)) = true := by rw [bne_iff_ne]; omega
    clear hlen
    go_enter Tryd.func42, Tryd.ntmps42
    go_wp2_with fail
    go_ret
    exact ⟨rfl, Below.refl _ _⟩
set_option maxHeartbeats 1000000 in
/-- how many are left -/
theorem szS_any (A : Option Addr) (n c : Nat) (left : Int) (hn : n ≤ 9223372036854775807) (hl : 0 ≤ left ∧ left ≤ 1048576) (w : World) :
    Calls Tryd.prog 38 #[.slice A n c, .int .i64 left] w fun e w' => e = .returned (.int .i64 (if left - n < 0 then -1 else left - n)) ∧ w = w' := by
  go_enter Tryd.func38, Tryd.ntmps38
  go_wp2_with fail
  all_goals go_ret
  all_goals exact ⟨rfl, rfl⟩
end Go.Proofs.YtjfimmfnhlimkaaDoor.cloS

/-
  Line: its contracts: copied, held against another one, counted.
-/
namespace Go.Proofs.YtjfimmfnhlimkaaDoor
open Go.RowKit

/-- the numbers of a Line -/
structure Lin where
  long : Int
  most : Int

/-- they are in the range of their kinds -/
structure Lin.Fits (x : Lin) : Prop where
  long0 : -32768 ≤ x.long
  long1 : x.long ≤ 32767
  most0 : -32768 ≤ x.most
  most1 : x.most ≤ 32767
abbrev Lin.cells (x : Lin) : List Value := [.int .i16 x.long, .int .i16 x.most]
abbrev Lin.v (x : Lin) : Value := .agg #[.int .i16 x.long, .int .i16 x.most]
theorem Lin.len (xs : List Lin) : ∀ x ∈ xs, (Lin.cells x).length = 2 := fun _ _ => rfl
/-- are two equal -/
def Lin.eq (x y : Lin) : Bool := x.long == y.long && (x.most == y.most)
theorem Lin.eq_iff (x y : Lin) : Lin.eq x y = true ↔ x = y := by
  cases x
  cases y
  simp [Lin.eq]
end Go.Proofs.YtjfimmfnhlimkaaDoor
namespace Go.Proofs.YtjfimmfnhlimkaaDoor.linS
open Go.RowKit sl

theorem at_ {w : World} {p : Addr} {x : Lin} (h : At w p x.cells) :
    w.cell? p = some (.int .i16 x.long) ∧ w.cell? ⟨p.block, p.off + 1, none⟩ = some (.int .i16 x.most) :=
  ⟨h 0 _ rfl, h 1 _ rfl⟩




end Go.Proofs.YtjfimmfnhlimkaaDoor.linS

/-
  Cloths on a line, in plain words: which neighbours share a peg, where each one hangs, how many pegs are needed, how a line sags; no program in it.
-/
namespace Go.Proofs.YtjfimmfnhlimkaaDoor.hang
open Go.RowKit

def Clo.valid (x : Clo) : Bool := decide (4 ≤ x.wide) && (decide (x.wide ≤ 200) && (decide (1 ≤ x.heavy) && decide (x.heavy ≤ 500)))
def Lin.valid (x : Lin) : Bool := decide (4 ≤ x.long) && (decide (x.long ≤ 2000) && (decide (1 ≤ x.most) && decide (x.most ≤ 2000)))
theorem clo_parts {x : Clo} (h : Clo.valid x = true) : 4 ≤ x.wide ∧ x.wide ≤ 200 ∧ 1 ≤ x.heavy ∧ x.heavy ≤ 500 := by
  simpa [Clo.valid, and_assoc] using h
theorem lin_parts {x : Lin} (h : Lin.valid x = true) : 4 ≤ x.long ∧ x.long ≤ 2000 ∧ 1 ≤ x.most ∧ x.most ≤ 2000 := by
  simpa [Lin.valid, and_assoc] using h
/-- do two neighbours share a peg -/
def shares (a b : Clo) : Bool := decide (a.heavy + b.heavy ≤ 120)
def gapOf : Option Clo → Clo → Int
  | none, _ => 0
  | some p, c => if shares p c = true then -2 else 1
def pegOf : Option Clo → Clo → Int
  | none, _ => 2
  | some p, c => if shares p c = true then 1 else 2
/-- what hangs: the last one, where it ends, where each one begins, how many pegs -/
structure Hung where
  last : Option Clo
  fin : Int
  places : List Int
  pegs : Int
def Hung.place (h : Hung) (c : Clo) : Int := h.fin + gapOf h.last c
def Hung.step (h : Hung) (c : Clo) : Hung := ⟨some c, h.place c + c.wide, h.places ++ [h.place c], h.pegs + pegOf h.last c⟩
def Hung.none : Hung := ⟨Option.none, 0, [], 0⟩
def hung (xs : List Clo) : Hung := xs.foldl Hung.step Hung.none
theorem hung_nil : hung [] = Hung.none := rfl
theorem hung_snoc (xs : List Clo) (c : Clo) : hung (xs ++ [c]) = (hung xs).step c := by simp [hung]
theorem hung_take {xs : List Clo} {k : Nat} {x : Clo} (hx : xs[k]? = some x) : hung (xs.take (k + 1)) = (hung (xs.take k)).step x := by rw [take_snoc hx, hung_snoc]
theorem snoc_ind {α : Type} {P : List α → Prop} (h0 : P []) (h1 : ∀ xs x, P xs → P (xs ++ [x])) (xs : List α) : P xs := by
  have : ∀ ys : List α, P ys.reverse := fun ys => by
    induction ys with
    | nil => exact h0
    | cons y r ih => rw [List.reverse_cons]; exact h1 _ _ ih
  rw [← List.reverse_reverse xs]
  exact this _
theorem hung_last (xs : List Clo) : (hung xs).last = xs.getLast? := by
  induction xs using snoc_ind with
  | h0 => rfl
  | h1 xs x _ => rw [hung_snoc]; simp [Hung.step]
theorem hung_len (xs : List Clo) : (hung xs).places.length = xs.length := by
  induction xs using snoc_ind with
  | h0 => rfl
  | h1 xs x ih => rw [hung_snoc]; simp [Hung.step, ih]
theorem gap_bd (p : Option Clo) (c : Clo) : -2 ≤ gapOf p c ∧ gapOf p c ≤ 1 := by
  cases p with
  | none => simp only [gapOf]; omega
  | some p => simp only [gapOf]; split <;> omega
theorem peg_bd (p : Option Clo) (c : Clo) : 1 ≤ pegOf p c ∧ pegOf p c ≤ 2 := by
  cases p with
  | none => simp only [pegOf]; omega
  | some p => simp only [pegOf]; split <;> omega
theorem hung_bd (xs : List Clo) (hv : ∀ x ∈ xs, Clo.valid x = true) : 0 ≤ (hung xs).fin ∧ (hung xs).fin ≤ 201 * xs.length ∧ (xs ≠ [] → 4 ≤ (hung xs).fin) ∧ 0 ≤ (hung xs).pegs ∧ (hung xs).pegs ≤ 2 * xs.length := by
  induction xs using snoc_ind with
  | h0 => exact ⟨by decide, by decide, fun h => absurd rfl h, by decide, by decide⟩
  | h1 xs x ih =>
    obtain ⟨h0, h1, h2, h3, h4⟩ := ih (fun y hy => hv y (List.mem_append_left _ hy))
    obtain ⟨w0, w1, _, _⟩ := clo_parts (hv x (by simp))
    have g := gap_bd (hung xs).last x
    have p := peg_bd (hung xs).last x
    have e : ((xs ++ [x]).length : Int) = xs.length + 1 := by simp
    have e2 : (hung (xs ++ [x])).fin = (hung xs).fin + gapOf (hung xs).last x + x.wide := by rw [hung_snoc]; rfl
    have e3 : (hung (xs ++ [x])).pegs = (hung xs).pegs + pegOf (hung xs).last x := by rw [hung_snoc]; rfl
    rw [e2, e3, e]
    have h4' : 4 ≤ (hung xs).fin + gapOf (hung xs).last x + x.wide := by
      by_cases hx : xs = []
      · subst hx
        have : gapOf (hung []).last x = 0 := rfl
        have f0 : (hung []).fin = 0 := rfl
        rw [this, f0]
        omega
      · have := h2 hx
        omega
    exact ⟨by omega, by omega, fun _ => h4', by omega, by omega⟩
theorem place_bd (xs : List Clo) (hv : ∀ x ∈ xs, Clo.valid x = true) (c : Clo) : 0 ≤ (hung xs).place c ∧ (hung xs).place c ≤ 201 * xs.length + 1 := by
  obtain ⟨h0, h1, h2, _, _⟩ := hung_bd xs hv
  have g := gap_bd (hung xs).last c
  unfold Hung.place
  by_cases hx : xs = []
  · subst hx
    have : gapOf (hung []).last c = 0 := rfl
    rw [this]
    omega
  · have := h2 hx
    omega
def heavyOf (xs : List Clo) : Int := xs.foldl (fun s c => s + c.heavy) 0
theorem heavy_snoc (xs : List Clo) (c : Clo) : heavyOf (xs ++ [c]) = heavyOf xs + c.heavy := by simp [heavyOf]
theorem heavy_take {xs : List Clo} {k : Nat} {x : Clo} (hx : xs[k]? = some x) : heavyOf (xs.take (k + 1)) = heavyOf (xs.take k) + x.heavy := by rw [take_snoc hx, heavy_snoc]
theorem heavy_bd (xs : List Clo) (hv : ∀ x ∈ xs, x.Fits) : -32768 * xs.length ≤ heavyOf xs ∧ heavyOf xs ≤ 32767 * xs.length := by
  induction xs using snoc_ind with
  | h0 => exact ⟨by decide, by decide⟩
  | h1 xs x ih =>
    obtain ⟨h0, h1⟩ := ih (fun y hy => hv y (List.mem_append_left _ hy))
    have hf := hv x (by simp)
    have := hf.heavy0
    have := hf.heavy1
    have e : ((xs ++ [x]).length : Int) = xs.length + 1 := by simp
    rw [heavy_snoc, e]
    omega
/-- do cloths fit on a line -/
def fitsB (l : Lin) (xs : List Clo) : Bool := decide ((hung xs).fin ≤ l.long) && decide (heavyOf xs ≤ l.most)
/-- the code of cloths of which there are at most so many -/
def codeMany (xs : List Clo) (most : Nat) : Nat := if xs.all Clo.valid = true then (if most < xs.length then 3 else 0) else 1
end Go.Proofs.YtjfimmfnhlimkaaDoor.hang

/-
  Contracts of the functions on one cloth, one line, or the validity of a list of cloths.
-/
namespace Go.Proofs.YtjfimmfnhlimkaaDoor.hang
open Go.RowKit sl

/-- is a number between two -/
def inB (n lo hi : Int) : Bool := decide (lo ≤ n) && decide (n ≤ hi)
theorem inB_iff {n lo hi : Int} : inB n lo hi = true ↔ lo ≤ n ∧ n ≤ hi := by simp [inB]
theorem clo_in (x : Clo) : Clo.valid x = (inB x.wide 4 200 && inB x.heavy 1 500) := by simp [Clo.valid, inB, Bool.and_assoc]
theorem lin_in (x : Lin) : Lin.valid x = (inB x.long 4 2000 && inB x.most 1 2000) := by simp [Lin.valid, inB, Bool.and_assoc]

theorem l00In_any (n lo hi : Int) (w : World) :
    Calls Tryd.prog 121 #[.int .i64 n, .int .i64 lo, .int .i64 hi] w fun o w' => o = .returned (.bool (inB n lo hi)) ∧ w = w' := by
  go_enter Tryd.func121, Tryd.ntmps121
  go_wp2_with fail
  all_goals go_ret
  all_goals exact ⟨ret_bool (by first | (simp [inB, *]; done) | (simp [inB]; omega)), rfl⟩
theorem l00In_b (n lo hi : Int) (b : Bool) (hb : inB n lo hi = b) (w : World) :
    Calls Tryd.prog 121 #[.int .i64 n, .int .i64 lo, .int .i64 hi] w fun o w' => o = .returned (.bool b) ∧ w = w' := by
  subst hb
  exact l00In_any n lo hi w

set_option maxHeartbeats 1000000 in
theorem valid_any (x : Clo) (hx : x.Fits) (w : World) :
    Calls Tryd.prog 160 #[x.v] w fun e w' => e = .returned (.bool (Clo.valid x)) ∧ Below w.heap.size w w' := by
  obtain ⟨p, q⟩ := x
  obtain ⟨a0, a1, a2, a3⟩ := hx
  simp only at a0 a1 a2 a3
  go_enter Tryd.func160, Tryd.ntmps160
  go_wp2
  all_goals go_ret
  all_goals refine ⟨ret_bool (by first | (simp [Clo.valid, *]; done) | (simp [Clo.valid]; omega)), ?_⟩
  all_goals repeat (first | exact Below.refl _ _ | assumption | apply Below.drew | (refine Below.alloc ?_ (by first | (simp; done) | (simp; omega) | omega) _) | (refine Below.setCell ?_ (by first | (simp; done) | (simp; omega) | omega) _))
set_option maxHeartbeats 2000000 in
theorem ValidCloths_any (A : Option Addr) (n c : Nat) (xs : List Clo) (en : n = xs.length) (hn : n ≤ 9223372036854775807) (hf : ∀ x ∈ xs, x.Fits) (w : World) (hg : Sl Clo.cells 2 w w.heap.size A xs) :
    Calls Tryd.prog 133 #[.slice A n c] w fun e w' => e = .returned (.bool (xs.all Clo.valid)) ∧ Below w.heap.size w w' := by
  have En := Lib.hid en
  clear en
  go_enter Tryd.func133, Tryd.ntmps133
  go_wp2_with fail
  go_loopw [7, 4] (fun vi _ wr => ∃ k : Nat, k ≤ n ∧ vi = .int .i64 k ∧ (∀ i x, i < k → xs[i]? = some x → Clo.valid x = true) ∧ Below w.heap.size w wr) (fun vi _ _ => n - (intOf vi).toNat)
  case atStart => exact ⟨0, by omega, rfl, fun i x hi => absurd hi (by omega), Below.refl _ _⟩
  case round =>
    obtain ⟨k, hk, rfl, hval, hB⟩ := hrel
    by_cases hlt : k < n
    · obtain ⟨x, hx⟩ : ∃ x, xs[k]? = some x := ⟨xs[k]'(by have := En.out; omega), List.getElem?_eq_getElem _⟩
      obtain ⟨a, rfl, hab, hat⟩ := (hg.below hB).at_ k x hx
      obtain ⟨q0, q1⟩ := cloS.at_ hat
      have hxf : x.Fits := hf x (List.mem_of_getElem? hx)
      have HX := Lib.hid hx
      clear hx hat
      cases hv : Clo.valid x with
      | true =>
        have HV := Lib.hid hv
        clear hv
        go_wp2_with fail
        refine (valid_any x hxf _).mono ?_
        rintro o w2 ⟨rfl, hb2⟩
        rw [HV.out]
        have H2 := (hB.alloc hB.size _).trans (hb2.mono (by have := hB.size; simp; omega))
        clear q0 q1 hb2
        go_wp2_with fail
        go_roundw
        case rel => exact ⟨k + 1, by omega, by go_num, fun i y hi hy => by
          rcases Nat.lt_or_ge i k with h1 | h1
          · exact hval i y h1 hy
          · obtain rfl : i = k := by omega
            have := HX.out
            rw [hy] at this
            rw [Option.some.inj this]
            exact HV.out, H2⟩
        case measure => simp [intOf]; omega
      | false =>
        have HV := Lib.hid hv
        clear hv
        go_wp2_with fail
        refine (valid_any x hxf _).mono ?_
        rintro o w2 ⟨rfl, hb2⟩
        rw [HV.out]
        have H2 := (hB.alloc hB.size _).trans (hb2.mono (by have := hB.size; simp; omega))
        clear q0 q1 hb2
        go_wp2_with fail
        go_ret
        exact ⟨ret_bool (all_not HX.out HV.out).symm, H2⟩
    · go_wp2_with fail
      go_ret
      exact ⟨ret_bool (all_of_idx fun i x hi hx => hval i x (by have := En.out; omega) hx).symm, hB⟩
set_option maxHeartbeats 2000000 in
theorem l02Cloths_any (A : Option Addr) (n c : Nat) (xs : List Clo) (en : n = xs.length) (hn : n ≤ 9223372036854775807) (hf : ∀ x ∈ xs, x.Fits) (w : World) (B : Nat) (hg : Sl Clo.cells 2 w B A xs) :
    Calls Tryd.prog 132 #[.slice A n c] w fun e w' => e = .returned (.bool (xs.all Clo.valid)) ∧ w = w' := by
  have En := Lib.hid en
  clear en
  go_enter Tryd.func132, Tryd.ntmps132
  go_wp2_with fail
  go_loop [3] (fun vi => ∃ k : Nat, k ≤ n ∧ vi = .int .i64 k ∧ (∀ i x, i < k → xs[i]? = some x → Clo.valid x = true)) (fun vi => n - (intOf vi).toNat)
  case atStart => exact ⟨0, by omega, rfl, fun i x hi => absurd hi (by omega)⟩
  case round =>
    obtain ⟨k, hk, rfl, hval⟩ := hrel
    by_cases hlt : k < n
    · obtain ⟨x, hx⟩ : ∃ x, xs[k]? = some x := ⟨xs[k]'(by have := En.out; omega), List.getElem?_eq_getElem _⟩
      obtain ⟨a, rfl, hab, hat⟩ := hg.at_ k x hx
      obtain ⟨q0, q1⟩ := cloS.at_ hat
      obtain ⟨x0, x1, x2, x3⟩ := hf x (List.mem_of_getElem? hx)
      have HX := Lib.hid hx
      clear hx hat
      cases h1 : inB x.wide 4 200 with
      | true =>
        have H1 := Lib.hid h1
        clear h1
        cases h2 : inB x.heavy 1 500 with
        | true =>
          have H2 := Lib.hid h2
          clear h2
          go_wp2_with fail
          refine (l00In_b _ _ _ true H1.out _).mono ?_
          rintro o w2 ⟨rfl, rfl⟩
          go_wp2_with fail
          refine (l00In_b _ _ _ true H2.out _).mono ?_
          rintro o w2 ⟨rfl, rfl⟩
          go_wp2_with fail
          go_round
          case rel => exact ⟨k + 1, by omega, by go_num, fun i y hi hy => by
            rcases Nat.lt_or_ge i k with h1 | h1
            · exact hval i y h1 hy
            · obtain rfl : i = k := by omega
              have := HX.out
              rw [hy] at this
              rw [Option.some.inj this, clo_in, H1.out, H2.out]
              rfl⟩
          case measure => simp [intOf]; omega
        | false =>
          have H2 := Lib.hid h2
          clear h2
          go_wp2_with fail
          refine (l00In_b _ _ _ true H1.out _).mono ?_
          rintro o w2 ⟨rfl, rfl⟩
          go_wp2_with fail
          refine (l00In_b _ _ _ false H2.out _).mono ?_
          rintro o w2 ⟨rfl, rfl⟩
          go_wp2_with fail
          go_ret
          exact ⟨ret_bool (all_not HX.out (by rw [clo_in, H1.out, H2.out]; rfl)).symm, rfl⟩
      | false =>
        have H1 := Lib.hid h1
        clear h1
        go_wp2_with fail
        refine (l00In_b _ _ _ false H1.out _).mono ?_
        rintro o w2 ⟨rfl, rfl⟩
        go_wp2_with fail
        go_ret
        exact ⟨ret_bool (all_not HX.out (by rw [clo_in, H1.out]; rfl)).symm, rfl⟩
    · go_wp2_with fail
      go_ret
      exact ⟨ret_bool (all_of_idx fun i x hi hx => hval i x (by have := En.out; omega) hx).symm, rfl⟩
end Go.Proofs.YtjfimmfnhlimkaaDoor.hang

/-
  Cloth: the program's structs are compared field by field.
-/
namespace Go.Proofs.YtjfimmfnhlimkaaDoor.cloS
open Go.RowKit sl

theorem eqFields_step {P : Program} {d : Nat} {xs ys : Array Value} {f : Field} {fs : List Field} {w : World} {a b : Value} {r : Bool} (hn : f.name ≠ "_") (ha : (part f.type xs f.offset).run P w = .ok a w)
    (hb : (part f.type ys f.offset).run P w = .ok b w) (hr : (Op.equalIn d f.type a b).run P w = .ok r w) :
    (Op.eqFields d xs ys (f :: fs)).run P w = if r = true then (Op.eqFields d xs ys fs).run P w else .ok false w := by
  rw [Op.eqFields, if_pos hn]
  simp only [Sem.run_bind, ha, hb, hr, Result.andThen_ok]
  cases r <;> simp

theorem fieldsI : Tryd.prog.underlying 136 = some (.struct (Tryd.prog.fieldsOf 136)) := by kernel_rfl
theorem stoodI : Tryd.prog.stoodInHeld 136 = false := by kernel_rfl
theorem guardI : Tryd.prog.eqGuardType Tryd.prog.depth 136 = false := by kernel_rfl
abbrev fldI0 : Field := { name := "Wide", type := 67, offset := 0, embedded := false, tag := "", pkgPath := "", byteOffset := 0 }
abbrev fldI1 : Field := { name := "Heavy", type := 67, offset := 1, embedded := false, tag := "", pkgPath := "", byteOffset := 2 }
theorem listI : (Tryd.prog.fieldsOf 136).toList = [fldI0, fldI1] := by kernel_rfl
theorem partI0 (x : Clo) (w : World) : (part 67 #[.int .i16 x.wide, .int .i16 x.heavy] 0).run Tryd.prog w = .ok (.int .i16 x.wide) w := by kernel_rfl
theorem partI1 (x : Clo) (w : World) : (part 67 #[.int .i16 x.wide, .int .i16 x.heavy] 1).run Tryd.prog w = .ok (.int .i16 x.heavy) w := by kernel_rfl
theorem equalIn_any (d : Nat) (x y : Clo) (w : World) : (Op.equalIn (d + 2) 136 x.v y.v).run Tryd.prog w = .ok (Clo.eq x y) w := by
  rw [run_equalIn_agg w (d + 1) 136 _ _ fieldsI stoodI, listI]
  rw [eqFields_step (f := fldI0) (by decide) (partI0 x w) (partI0 y w) (run_equalIn_int w d 67 .i16 .i16 x.wide y.wide Tryd.underlying67)]
  rw [eqFields_step (f := fldI1) (by decide) (partI1 x w) (partI1 y w) (run_equalIn_int w d 67 .i16 .i16 x.heavy y.heavy Tryd.underlying67)]
  unfold Clo.eq
  cases x.wide == y.wide <;> cases x.heavy == y.heavy <;> simp [Op.eqFields]

theorem run_eql (x y : Clo) (w : World) : (binOp .eql 136 x.v y.v).run Tryd.prog w = .ok (.bool (Clo.eq x y)) w := by
  have e : (10000 : Nat) = 9998 + 2 := by decide
  rw [run_eql_struct, e, equalIn_any 9998 x y w, Result.andThen_ok]
theorem run_neq (x y : Clo) (w : World) : (binOp .neq 136 x.v y.v).run Tryd.prog w = .ok (.bool (!Clo.eq x y)) w := by
  have e : (10000 : Nat) = 9998 + 2 := by decide
  rw [run_neq_struct, e, equalIn_any 9998 x y w, Result.andThen_ok]
theorem run_guard (op : BinOp) (x y : Clo) (o p : Operand) (w : World) : (eqGuard op 136 o p x.v y.v).run Tryd.prog w = .ok () w := run_eqGuard_agg w op _ _ _ _ _ guardI
end Go.Proofs.YtjfimmfnhlimkaaDoor.cloS

/-
  Contracts of the closure that hangs one cloth behind the other.
-/
namespace Go.Proofs.YtjfimmfnhlimkaaDoor.hang
open Go.RowKit sl

/-- the last cloth, or none -/
def lastClo (h : Hung) : Clo := h.last.getD ⟨0, 0⟩
/-- a closure's three variables lie at b -/
structure HangAt (w : World) (b : Nat) (h : Hung) : Prop where
  l : w.heap[b]? = some (.cells #[.int .i16 (lastClo h).wide, .int .i16 (lastClo h).heavy] 136 (0, 0))
  n : w.heap[b + 1]? = some (.cells #[.int .i16 0, .int .i16 0] 136 (0, 0))
  e : w.heap[b + 1 + 1]? = some (.cells #[.int .i64 h.fin] 2 (0, 0))
theorem HangAt.lt {w : World} {b : Nat} {h : Hung} (k : HangAt w b h) : b + 1 + 1 < w.heap.size := (Array.getElem?_eq_some_iff.1 k.e).1
/-- what the closure may write -/
abbrev hangS (b : Nat) : Nat → Prop := fun k => k = b ∨ k = b + 1 + 1
theorem HangAt.keep {w w' : World} {b : Nat} {h : Hung} (k : HangAt w b h) {S : Nat → Prop} (hf : Keeps S w w') (hs : ∀ i, S i → i < b ∨ b + 1 + 1 < i) : HangAt w' b h := by
  have hl := k.lt
  exact ⟨(hf.block _ (by omega) (fun hS => by have := hs _ hS; omega)).trans k.l, (hf.block _ (by omega) (fun hS => by have := hs _ hS; omega)).trans k.n, (hf.block _ hl (fun hS => by have := hs _ hS; omega)).trans k.e⟩

theorem hang_stored {w : World} {b : Nat} {h h' : Hung} (k : HangAt w b h) (p q z : Int) (hl : lastClo h' = ⟨p, q⟩) (hz : h'.fin = z) :
    HangAt (((w.setCell ⟨b, 0, none⟩ (.int .i16 p)).setCell ⟨b, 1, none⟩ (.int .i16 q)).setCell ⟨b + 1 + 1, 0, none⟩ (.int .i64 z)) b h' ∧
      Keeps (hangS b) w (((w.setCell ⟨b, 0, none⟩ (.int .i16 p)).setCell ⟨b, 1, none⟩ (.int .i16 q)).setCell ⟨b + 1 + 1, 0, none⟩ (.int .i64 z)) := by
  have hlt := k.lt
  have h1 := heap_setCell_same w b 0 _ 136 (.int .i16 p) k.l
  have h2 := heap_setCell_same _ b 1 _ 136 (.int .i16 q) h1
  have e1 : (w.setCell ⟨b, 0, none⟩ (.int .i16 p)).heap[b + 1 + 1]? = _ := (Below.heap_setCell w ⟨b, 0, none⟩ _ (b + 1 + 1) (by show b + 1 + 1 ≠ b; omega)).trans k.e
  have e2 := (Below.heap_setCell _ ⟨b, 1, none⟩ (.int .i16 q) (b + 1 + 1) (by show b + 1 + 1 ≠ b; omega)).trans e1
  have e3 := heap_setCell_same _ (b + 1 + 1) 0 _ 2 (.int .i64 z) e2
  refine ⟨⟨?_, ?_, ?_⟩, ?_⟩
  · rw [Below.heap_setCell _ ⟨b + 1 + 1, 0, none⟩ _ b (by show b ≠ b + 1 + 1; omega), h2, hl]
    rfl
  · rw [Below.heap_setCell _ ⟨b + 1 + 1, 0, none⟩ _ (b + 1) (by show b + 1 ≠ b + 1 + 1; omega), Below.heap_setCell _ ⟨b, 1, none⟩ _ (b + 1) (by show b + 1 ≠ b; omega), Below.heap_setCell _ ⟨b, 0, none⟩ _ (b + 1) (by show b + 1 ≠ b; omega)]
    exact k.n
  · rw [e3, hz]
    rfl
  · exact (((Keeps.refl _ w).setCell (p := ⟨b, 0, none⟩) (.inl (.inl rfl)) _).setCell (p := ⟨b, 1, none⟩) (.inl (.inl rfl)) _).setCell (p := ⟨b + 1 + 1, 0, none⟩) (.inl (.inr rfl)) _
theorem hang_after {w : World} {b : Nat} {h h' : Hung} (k : HangAt w b h) (p q z : Int) (hl : lastClo h' = ⟨p, q⟩) (hz : h'.fin = z) {w' : World} (hb : Below (((w.setCell ⟨b, 0, none⟩ (.int .i16 p)).setCell ⟨b, 1, none⟩ (.int .i16 q)).setCell ⟨b + 1 + 1, 0, none⟩ (.int .i64 z)).heap.size (((w.setCell ⟨b, 0, none⟩ (.int .i16 p)).setCell ⟨b, 1, none⟩ (.int .i16 q)).setCell ⟨b + 1 + 1, 0, none⟩ (.int .i64 z)) w') :
    HangAt w' b h' ∧ Keeps (hangS b) w w' := by
  obtain ⟨h1, h2⟩ := hang_stored k p q z hl hz
  have hk : Keeps (fun _ => False) _ w' := Keeps.of_below hb
  exact ⟨h1.keep hk (fun i hi => hi.elim), h2.trans (hk.mono fun _ _ hi => hi.elim)⟩

end Go.Proofs.YtjfimmfnhlimkaaDoor.hang

/-
  Lists of lists of numbers, in memory: read; copied by the laws; held against each other.
-/
namespace Go.Proofs.YtjfimmfnhlimkaaDoor
open Go.RowKit sl

/-- a row: where it lies, its capacity, its numbers -/
structure Rw where
  A : Option Addr
  c : Nat
  xs : List Int
abbrev Rw.v (r : Rw) : Value := .slice r.A r.xs.length r.c
abbrev Rw.C (r : Rw) : List Value := [r.v]
theorem Rw.len (rs : List Rw) : ∀ r ∈ rs, (Rw.C r).length = 1 := fun _ _ => rfl
end Go.Proofs.YtjfimmfnhlimkaaDoor
namespace Go.Proofs.YtjfimmfnhlimkaaDoor.rows
open Go Go.RowKit sl

/-- a slice of slices that reads as rows, all below block B -/
structure SS (w : World) (B : Nat) (A : Option Addr) (rs : List Rw) : Prop where
  heads : Sl Rw.C 1 w B A rs
  each : ∀ r ∈ rs, Sl intS.C 1 w B r.A r.xs
  short : ∀ r ∈ rs, r.xs.length ≤ maxLen
theorem SS.below {w w' : World} {B : Nat} {A : Option Addr} {rs : List Rw} (h : SS w B A rs) (hb : Below B w w') : SS w' B A rs := ⟨h.heads.below hb, fun r hr => (h.each r hr).below hb, h.short⟩
theorem SS.more {w : World} {B B' : Nat} {A : Option Addr} {rs : List Rw} (h : SS w B A rs) (hB : B ≤ B') : SS w B' A rs := ⟨h.heads.more hB, fun r hr => (h.each r hr).more hB, h.short⟩
theorem SS.next {w w' : World} {A : Option Addr} {rs : List Rw} (h : SS w w.heap.size A rs) (hb : Below w.heap.size w w') : SS w' w'.heap.size A rs := (h.below hb).more hb.size
/-- a row's head -/
theorem SS.head {w : World} {B : Nat} {A : Option Addr} {rs : List Rw} (h : SS w B A rs) {k : Nat} {r : Rw} (hr : rs[k]? = some r) : ∃ a, A = some a ∧ a.block < B ∧ w.cell? (a.add k) = some (.slice r.A r.xs.length r.c) := by
  obtain ⟨a, e, hb, hat⟩ := h.heads.at_ k r hr
  refine ⟨a, e, hb, ?_⟩
  have := hat 0 _ rfl
  rwa [Nat.mul_one] at this
abbrev nums (rs : List Rw) : List (List Int) := rs.map Rw.xs
/-- rows of the call's own -/
structure OS (w : World) (base : Nat) (A : Option Addr) (c : Nat) (rs : List Rw) : Prop where
  outer : w.ownsRow base 101 1 (.slice A rs.length c) rs.length (rs.flatMap Rw.C)
  each : ∀ r ∈ rs, w.ownsRow base 2 1 r.v r.xs.length (r.xs.flatMap intS.C)
  dist : rs.Pairwise fun a b => ∀ k, a.v.ownBlock = some k → b.v.ownBlock ≠ some k
  off : ∀ r ∈ rs, ∀ k, r.v.ownBlock = some k → (Value.slice A rs.length c).ownBlock ≠ some k
  short : ∀ r ∈ rs, r.xs.length ≤ maxLen
theorem OS.next {w w' : World} {base : Nat} {A : Option Addr} {c : Nat} {rs : List Rw} (h : OS w base A c rs) (hb : Below w.heap.size w w') : OS w' base A c rs :=
  ⟨owns_next h.outer hb, fun r hr => owns_next (h.each r hr) hb, h.dist, h.off, h.short⟩
theorem OS.lower {w : World} {base base' : Nat} {A : Option Addr} {c : Nat} {rs : List Rw} (h : OS w base A c rs) (hb : base' ≤ base) : OS w base' A c rs :=
  ⟨owns_below h.outer hb, fun r hr => owns_below (h.each r hr) hb, h.dist, h.off, h.short⟩
theorem OS.ss {w : World} {base : Nat} {A : Option Addr} {c : Nat} {rs : List Rw} (h : OS w base A c rs) : SS w w.heap.size A rs :=
  ⟨Sl.of_owns h.outer (Rw.len rs) (by decide), fun r hr => Sl.of_owns (h.each r hr) (intS.len _) (by decide), h.short⟩

set_option maxHeartbeats 1000000 in
/-- how many are left -/
theorem szI_any (A : Option Addr) (n c : Nat) (left : Int) (hn : n ≤ 9223372036854775807) (hl : 0 ≤ left ∧ left ≤ 1048576) (w : World) :
    Calls Tryd.prog 105 #[.slice A n c, .int .i64 left] w fun e w' => e = .returned (.int .i64 (if left - n < 0 then -1 else left - n)) ∧ w = w' := by
  go_enter Tryd.func105, Tryd.ntmps105
  go_wp2_with fail
  all_goals go_ret
  all_goals exact ⟨rfl, rfl⟩
set_option maxRecDepth 100000 in
set_option maxHeartbeats 2000000 in
/-- too many, or what bounds there are -/
theorem szSS_any (A : Option Addr) (n c : Nat) (rs : List Rw) (en : n = rs.length) (hn : n ≤ 9223372036854775807) (left : Int) (hl : 0 ≤ left ∧ left ≤ 1048576) (w : World) (hg : SS w w.heap.size A rs) :
    Calls Tryd.prog 52 #[.slice A n c, .int .i64 left] w fun e w' => ∃ z : Int, e = .returned (.int .i64 z) ∧ w = w' ∧ -1 ≤ z ∧ z ≤ 1048576 ∧ (0 ≤ z → n ≤ 1048576 ∧ ∀ r ∈ rs, r.xs.length ≤ 1048576) := by
  have En := Lib.hid en
  clear en
  by_cases h0 : left - n < 0
  · go_enter Tryd.func52, Tryd.ntmps52
    go_wp2_with fail
    go_ret
    exact ⟨-1, rfl, rfl, by omega, by omega, fun h => by omega⟩
  · have hw : wrap64 (left - n) = left - n := by unfold wrap64; omega
    go_enter Tryd.func52, Tryd.ntmps52
    go_wp2_with fail
    go_loop [1, 5] (fun vl vi => ∃ (k : Nat) (z : Int), k ≤ n ∧ vi = .int .i64 k ∧ vl = .int .i64 z ∧ 0 ≤ z ∧ z ≤ left - n ∧ ∀ i r, i < k → rs[i]? = some r → r.xs.length ≤ 1048576) (fun _ vi => n - (intOf vi).toNat)
    case atStart => exact ⟨0, left - n, by omega, rfl, by first | rfl | rw [hw], by omega, by omega, fun i r hi => absurd hi (by omega)⟩
    case round =>
      obtain ⟨k, z, hk, rfl, rfl, hz0, hz1, hz2⟩ := hrel
      have HZ := Lib.hid hz2
      clear hz2
      by_cases hlt : k < n
      · obtain ⟨r, hr⟩ : ∃ r, rs[k]? = some r := ⟨rs[k]'(by have := En.out; omega), List.getElem?_eq_getElem _⟩
        obtain ⟨a, rfl, hab, q0⟩ := hg.head hr
        have hs := hg.short r (List.mem_of_getElem? hr)
        unfold maxLen at hs
        have HR := Lib.hid hr
        clear hr
        by_cases hz : z - r.xs.length < 0
        · go_wp2_with fail
          refine (szI_any r.A r.xs.length r.c z (by omega) (by omega) _).mono ?_
          rintro o u ⟨rfl, rfl⟩
          rw [if_pos hz]
          go_wp2_with fail
          go_ret
          exact ⟨-1, rfl, rfl, by omega, by omega, fun h => by omega⟩
        · have HNZ := Lib.hid hz
          go_wp2_with fail
          refine (szI_any r.A r.xs.length r.c z (by omega) (by omega) _).mono ?_
          rintro o u ⟨rfl, rfl⟩
          rw [if_neg (show ¬ z - (r.xs.length : Int) < 0 by have := HNZ.out; omega)]
          go_wp2_with fail
          go_round
          case rel => exact ⟨k + 1, z - r.xs.length, by omega, by go_num, rfl, by omega, by omega, fun i r' hi hr' => by
            rcases Nat.lt_or_ge i k with h1 | h1
            · exact HZ.out i r' h1 hr'
            · obtain rfl : i = k := by omega
              have := HR.out
              rw [hr'] at this
              rw [Option.some.inj this]
              omega⟩
          case measure => simp [intOf]; omega
      · obtain rfl : k = n := by omega
        go_wp2_with fail
        go_ret
        refine ⟨z, rfl, rfl, by omega, by omega, fun _ => ⟨by omega, fun r hr => ?_⟩⟩
        obtain ⟨i, hi⟩ := List.mem_iff_getElem?.1 hr
        exact HZ.out i r (by have := (List.getElem?_eq_some_iff.1 hi).1; have := En.out; omega) hi
theorem infoR : (Tryd.prog.info? 101).map (fun i => (i.zero, i.size, i.bytes)) = some (some (.slice none 0 0), 1, 24) := by kernel_rfl
set_option maxRecDepth 100000 in
set_option maxHeartbeats 4000000 in
theorem toSS_any (A : Option Addr) (n c : Nat) (rs : List Rw) (en : n = rs.length) (hn : n ≤ 1048576) (hs : ∀ r ∈ rs, r.xs.length ≤ 1048576) (w : World) (hg : SS w w.heap.size A rs) :
    Calls Tryd.prog 54 #[.slice A n c] w fun e w' => ∃ (g : Nat) (rs' : List Rw), e = .returned (.slice (some ⟨g, 0, none⟩) n n) ∧ rs'.length = n ∧ nums rs' = nums rs ∧ OS w' w.heap.size (some ⟨g, 0, none⟩) n rs' ∧ Below w.heap.size w w' := by
  obtain ⟨i0, hi, hz0, hz1, hz2⟩ := info_parts infoR
  have En := Lib.hid en
  clear en
  have hmk : ∀ u : World, (Instr.makeSlice 78 (.int .i64 (n : Int)) (.int .i64 (n : Int))).run Tryd.prog u =
      .ok (.slice (some ⟨u.heap.size, 0, none⟩) n n) (u.alloc (.cells (madeCells #[.slice none 0 0] n) 101)) := fun u => by
    have h := run_make (P := Tryd.prog) u 78 101 i0 _ Tryd.underlying78 hi hz0 .i64 .i64 (n : Int) (n : Int) (by omega) (Int.le_refl _) (by rw [hz2]; omega) (by omega)
    have e : ((n : Int)).toNat = n := by omega
    rw [e] at h
    simpa [hz1, Value.cells] using h
  go_enter Tryd.func54, Tryd.ntmps54
  have hB0 : Below w.heap.size w (w.alloc (.cells (madeCells #[.slice none 0 0] n) 101)) := (Below.refl _ _).alloc (Nat.le_refl _) _
  have hP0 : (w.alloc (.cells (madeCells #[.slice none 0 0] n) 101)).ownsRow w.heap.size 101 1 (.slice (some ⟨w.heap.size, 0, none⟩) n n) n _ :=
    World.ownsRow_lit w (madeCells #[.slice none 0 0] n) n (Nat.le_refl _) (by unfold maxLen; omega) (by rw [size_madeCells, Nat.mul_one])
  have HP0 := Lib.hid hP0
  clear hP0
  go_wp2_with fail
  go_loopw [4] (fun vi wr => ∃ k L rs', k ≤ n ∧ vi = .int .i64 (k : Nat) ∧ rs'.length = k ∧ nums rs' = (nums rs).take k ∧ wr.ownsRow w.heap.size 101 1 (.slice (some ⟨w.heap.size, 0, none⟩) n n) n L ∧ Done Rw.C 1 rs' k L ∧
    (∀ r ∈ rs', wr.ownsRow (w.heap.size + 1) 2 1 r.v r.xs.length (r.xs.flatMap intS.C)) ∧ (rs'.Pairwise fun a b => ∀ k, a.v.ownBlock = some k → b.v.ownBlock ≠ some k) ∧ w.heap.size < wr.heap.size ∧ Below w.heap.size w wr) (fun vi _ => n - (intOf vi).toNat)
  case atStart => exact ⟨0, _, [], by omega, rfl, rfl, rfl, HP0.out, Done.zero _ _ _ _, fun r hr => by simp at hr, List.Pairwise.nil, by simp, hB0⟩
  case round =>
    clear hB0 HP0
    obtain ⟨k, L, rs', hk, rfl, hl', hn', hP, hD, hE, hW, hz, hB⟩ := hrel
    have HB := Lib.hid hB
    have HL' := Lib.hid hl'
    have HN' := Lib.hid hn'
    have HD := Lib.hid hD
    have HE := Lib.hid hE
    have HW := Lib.hid hW
    have HP := Lib.hid hP
    clear hB hl' hn' hD hE hW hP
    by_cases hlt : k < n
    · obtain ⟨r, hr⟩ : ∃ r, rs[k]? = some r := ⟨rs[k]'(by have := En.out; omega), List.getElem?_eq_getElem _⟩
      obtain ⟨a, rfl, hab, q0⟩ := (hg.below HB.out).head hr
      have hrs := hs r (List.mem_of_getElem? hr)
      have HR := Lib.hid hr
      clear hr
      go_wp2_with fail
      refine (intS.toS_any r.A r.xs.length r.c r.xs rfl hrs _ ((hg.below HB.out).more HB.out.size |>.each r (List.mem_of_getElem? HR.out))).mono ?_
      rintro o u ⟨g, rfl, P, hb⟩
      have P2 := Lib.hid (owns_next HP.out hb)
      have Q2 := Lib.hid P
      have B2 := Lib.hid (below_next HB.out hb (Nat.le_refl _))
      have HE2 : Hid (∀ r ∈ rs', u.ownsRow (w.heap.size + 1) 2 1 r.v r.xs.length (r.xs.flatMap intS.C)) := Lib.hid fun r hr => owns_next (HE.out r hr) hb
      have gLt := (P.lt g rfl)
      have LtE : Hid (∀ r ∈ rs', ∀ k, r.v.ownBlock = some k → k < wr.heap.size ∧ w.heap.size + 1 ≤ k) := Lib.hid fun r hr k hk => ⟨((HE.out r hr).lt k hk).2, ((HE.out r hr).lt k hk).1⟩
      clear P hb q0 HE HP
      have hLL := P2.out.1
      obtain ⟨v0, s0⟩ : ∃ v, u.cell? ⟨w.heap.size, k, none⟩ = some v := ⟨L[k]'(by omega), (P2.out.cellAt k (by omega)).trans (List.getElem?_eq_getElem _)⟩
      have f0 := P2.out.frozenAt k
      have HLL := Lib.hid hLL
      clear hLL
      go_wp2_with fail
      go_roundw
      case rel =>
        have hP3 := P2.out.stored k (.slice (some ⟨g, 0, none⟩) r.xs.length r.xs.length)
        have hx : (rs' ++ [(⟨some ⟨g, 0, none⟩, r.xs.length, r.xs⟩ : Rw)])[k]? = some ⟨some ⟨g, 0, none⟩, r.xs.length, r.xs⟩ := by
          rw [List.getElem?_append_right (by rw [HL'.out]; exact Nat.le_refl _), HL'.out, Nat.sub_self]
          rfl
        have hgl : w.heap.size < g := Nat.lt_of_lt_of_le hz gLt.1
        have keep : ∀ {T : TypeId} {s m : Nat} {v : Value} {LL : List Value} {b : Nat}, u.ownsRow b T s v m LL → (∀ k, v.ownBlock = some k → k ≠ w.heap.size) → (u.setCell ⟨w.heap.size, k, none⟩ (.slice (some ⟨g, 0, none⟩) r.xs.length r.xs.length)).ownsRow b T s v m LL := fun h hne => owns_other h hP3.2 hne
        refine ⟨k + 1, _, rs' ++ [⟨some ⟨g, 0, none⟩, r.xs.length, r.xs⟩], by omega, by go_num, by rw [List.length_append, HL'.out]; rfl, ?_, hP3.1, ?_, ?_, ?_, ?_, ?_⟩
        · have e := take_snoc (xs := nums rs) (k := k) (x := r.xs) (by simp [nums, HR.out])
          rw [e, nums, List.map_append, ← HN'.out]
          rfl
        · have hmono : Done Rw.C 1 (rs' ++ [(⟨some ⟨g, 0, none⟩, r.xs.length, r.xs⟩ : Rw)]) k L := fun i x hi hxi j v hv => by
            rw [List.getElem?_append_left (by rw [HL'.out]; exact hi)] at hxi
            exact HD.out i x hi hxi j v hv
          intro i x hi hxi j v hv
          have hj : j = 0 := by
            have := (List.getElem?_eq_some_iff.1 hv).1
            simp [Rw.C] at this
            exact this
          subst hj
          simp only [Rw.C, List.getElem?_cons_zero, Option.some.injEq] at hv
          subst hv
          rcases Nat.lt_or_ge i k with h1 | h1
          · have := hmono i x h1 hxi 0 _ rfl
            rw [Nat.mul_one, Nat.add_zero] at this ⊢
            rw [List.getElem?_set_ne (by omega)]
            exact this
          · obtain rfl : i = k := by omega
            rw [hx] at hxi
            obtain rfl := Option.some.inj hxi
            rw [Nat.mul_one, Nat.add_zero, List.getElem?_set_self (by rw [HLL.out]; omega)]
        · intro x hx
          rcases List.mem_append.1 hx with h1 | h1
          · exact keep (HE2.out x h1) (fun k hk => by have := (LtE.out x h1 k hk).2; omega)
          · obtain rfl := List.mem_singleton.1 h1
            exact keep (owns_below Q2.out (by omega)) (fun k hk => by obtain rfl : g = k := Option.some.inj hk; omega)
        · refine List.pairwise_append.2 ⟨HW.out, List.pairwise_singleton _ _, fun x hx y hy k hk => ?_⟩
          obtain rfl := List.mem_singleton.1 hy
          intro e
          obtain rfl : g = k := Option.some.inj e
          have := (LtE.out x hx g hk).1
          omega
        · have := B2.out.size
          simp [World.setCell]
          omega
        · exact B2.out.setCell (p := ⟨w.heap.size, k, none⟩) (Nat.le_refl _) _
      case measure => simp [intOf]; omega
    · go_wp2_with fail
      obtain rfl : k = n := by omega
      go_ret
      have hl := HL'.out
      have e : L = rs'.flatMap Rw.C := Done.full (by rw [hl]; exact HD.out) (Rw.len rs') (by omega) (by rw [HP.out.1, hl])
      have hP := HP.out
      rw [e] at hP
      refine ⟨_, rs', rfl, hl, ?_, ⟨by rw [hl]; exact hP, fun r hr => owns_below (HE.out r hr) (by omega), HW.out, fun r hr k hk e => ?_, fun r hr => ?_⟩, HB.out⟩
      · rw [HN'.out, List.take_of_length_le (by simp [nums, ← En.out])]
      · have h1 := ((HE.out r hr).lt k hk).1
        obtain rfl : w.heap.size = k := Option.some.inj e
        omega
      · have hx : r.xs ∈ nums rs' := List.mem_map_of_mem hr
        rw [HN'.out] at hx
        obtain ⟨r0, h0, e0⟩ := List.mem_map.1 (List.mem_of_mem_take hx)
        have := hs r0 h0
        rw [e0] at this
        unfold maxLen
        omega
/-- two heads that are read -/
abbrev RB (p p' : Addr) (v v' : Value) (W u : World) : Prop := u.cell? p = some v ∧ u.cell? p' = some v' ∧ Below W.heap.size W u
theorem RB.next {p p' : Addr} {v v' : Value} {W u t : World} (h : RB p p' v v' W u) (hp : p.block < W.heap.size) (hp' : p'.block < W.heap.size) (hb : Below u.heap.size u t) : RB p p' v v' W t := by
  obtain ⟨h0, h1, hB⟩ := h
  have k := hb.mono hB.size
  exact ⟨(k.cell hp).trans h0, (k.cell hp').trans h1, hB.trans k⟩
theorem RB.below {p p' : Addr} {v v' : Value} {W u : World} (h : RB p p' v v' W u) : Below W.heap.size W u := h.2.2
set_option maxRecDepth 100000 in
set_option maxHeartbeats 4000000 in
theorem eqSS_any (A A' : Option Addr) (n n' c c' : Nat) (rs rs' : List Rw) (en : n = rs.length) (en' : n' = rs'.length) (hn : n ≤ 1048576) (hn' : n' ≤ 9223372036854775807) (hs : ∀ r ∈ rs, r.xs.length ≤ 1048576) (w : World) (hg : SS w w.heap.size A rs) (hg' : SS w w.heap.size A' rs') (b : Bool) (hb : b = true ↔ nums rs = nums rs') :
    Calls Tryd.prog 56 #[.slice A n c, .slice A' n' c'] w fun e w' => e = .returned (.bool b) ∧ Below w.heap.size w w' := by
  have En := Lib.hid en
  have En' := Lib.hid en'
  have Hb := Lib.hid hb
  clear en en' hb
  by_cases hlen : n = n'
  · subst hlen
    go_enter Tryd.func56, Tryd.ntmps56
    go_wp2_with fail
    go_loopw [5] (fun vi wr => ∃ k : Nat, k ≤ n ∧ vi = .int .i64 k ∧ (∀ i, i < k → (nums rs)[i]? = (nums rs')[i]?) ∧ Below w.heap.size w wr) (fun vi _ => n - (intOf vi).toNat)
    case atStart => exact ⟨0, by omega, rfl, fun i hi => absurd hi (by omega), Below.refl _ _⟩
    case round =>
      obtain ⟨k, hk, rfl, hsame, hB⟩ := hrel
      have HB := Lib.hid hB
      have HSA := Lib.hid hsame
      clear hB hsame
      by_cases hlt : k < n
      · obtain ⟨r, hr⟩ : ∃ r, rs[k]? = some r := ⟨rs[k]'(by have := En.out; omega), List.getElem?_eq_getElem _⟩
        obtain ⟨r', hr'⟩ : ∃ r, rs'[k]? = some r := ⟨rs'[k]'(by have := En'.out; omega), List.getElem?_eq_getElem _⟩
        obtain ⟨a, rfl, hab, q0⟩ := (hg.below HB.out).head hr
        obtain ⟨a', rfl, hab', q0'⟩ := (hg'.below HB.out).head hr'
        have hm := List.mem_of_getElem? hr
        have hm' := List.mem_of_getElem? hr'
        have h1 := hs r hm
        have h2 := hg'.short r' hm'
        unfold maxLen at h2
        have hp : (a.add k).block < w.heap.size := by rw [block_add]; exact hab
        have hp' : (a'.add k).block < w.heap.size := by rw [block_add]; exact hab'
        have R0 : Hid (RB (a.add k) (a'.add k) r.v r'.v w wr) := Lib.hid ⟨q0, q0', HB.out⟩
        have HR : Hid ((nums rs)[k]? = some r.xs) := Lib.hid (by simp [nums, hr])
        have HR' : Hid ((nums rs')[k]? = some r'.xs) := Lib.hid (by simp [nums, hr'])
        obtain ⟨t, ht⟩ := some_bool (r.xs = r'.xs)
        have hc := fun (u : World) (hu : Below w.heap.size w u) => intS.eqS_any r.A r'.A r.xs.length r'.xs.length r.c r'.c r.xs r'.xs rfl rfl h1 (by omega) u (((hg.below hu).more hu.size).each r hm) (((hg'.below hu).more hu.size).each r' hm') t ht
        have HC := Lib.hid hc
        have HT := Lib.hid ht
        clear hc ht hr hr' q0 q0' hm hm'
        go_wp2_with fail
        go_region_held3 (RB (a.add k) (a'.add k) r.v r'.v w)
          (first | assumption | exact R0.out.next hp hp' (below_drewN _ wr 1) | exact RB.next (by assumption) hp hp' hb2 | fail)
          (first | (go_at_call 111; refine (HC.out _ ?_).mono ?_; (exact RB.below (p := a.add k) (p' := a'.add k) (by assumption)); rintro e w2 ⟨rfl, hb2⟩) | fail)
        rename_i hS
        have B2 := Lib.hid (RB.below hS)
        clear hS
        cases t with
        | false =>
          go_wp2_with fail
          go_ret
          refine ⟨ret_bool ?_, B2.out⟩
          cases hbb : b with
          | false => rfl
          | true =>
            have he := Hb.out.1 hbb
            have h1 := HR.out
            rw [he, HR'.out] at h1
            have := HT.out.2 (Option.some.inj h1).symm
            cases this
        | true =>
          go_wp2_with fail
          go_roundw
          case rel => exact ⟨k + 1, by omega, by go_num, fun i hi => by
            rcases Nat.lt_or_ge i k with h1 | h1
            · exact HSA.out i h1
            · obtain rfl : i = k := by omega
              rw [HR.out, HR'.out, HT.out.1 rfl], B2.out⟩
          case measure => simp [intOf]; omega
      · go_wp2_with fail
        go_ret
        refine ⟨ret_bool ?_, HB.out⟩
        exact (Hb.out.2 (lists_eq (n := n) (by simp [nums, En.out]) (by simp [nums, En'.out]) fun i hi => HSA.out i (by omega))).symm
  · have hno : b = false := by
      cases hbb : b with
      | false => rfl
      | true =>
        have := congrArg List.length (Hb.out.1 hbb)
        simp only [nums, List.length_map] at this
        exact absurd (En.out.trans (this.trans En'.out.symm)) hlen
    subst hno
    have hl : ((n : Int) != (n' : Int)) = true := by rw [bne_iff_ne]; omega
    clear hlen
    go_enter Tryd.func56, Tryd.ntmps56
    go_wp2_with fail
    go_ret
    exact ⟨rfl, Below.refl _ _⟩
end Go.Proofs.YtjfimmfnhlimkaaDoor.rows

/-
  Sheet: its contracts: copied, held against another one, counted.
-/
namespace Go.Proofs.YtjfimmfnhlimkaaDoor
open Go.RowKit

/-- the numbers of a Sheet -/
structure She where
  wide : Int
  high : Int
  lay : Int

/-- they are in the range of their kinds -/
structure She.Fits (x : She) : Prop where
  wide0 : -32768 ≤ x.wide
  wide1 : x.wide ≤ 32767
  high0 : -32768 ≤ x.high
  high1 : x.high ≤ 32767
  lay0 : -32768 ≤ x.lay
  lay1 : x.lay ≤ 32767
abbrev She.cells (x : She) : List Value := [.int .i16 x.wide, .int .i16 x.high, .int .i16 x.lay]
abbrev She.v (x : She) : Value := .agg #[.int .i16 x.wide, .int .i16 x.high, .int .i16 x.lay]
theorem She.len (xs : List She) : ∀ x ∈ xs, (She.cells x).length = 3 := fun _ _ => rfl
/-- are two equal -/
def She.eq (x y : She) : Bool := x.wide == y.wide && (x.high == y.high && (x.lay == y.lay))
theorem She.eq_iff (x y : She) : She.eq x y = true ↔ x = y := by
  cases x
  cases y
  simp [She.eq]
end Go.Proofs.YtjfimmfnhlimkaaDoor
namespace Go.Proofs.YtjfimmfnhlimkaaDoor.sheS
open Go.RowKit sl

theorem at_ {w : World} {p : Addr} {x : She} (h : At w p x.cells) :
    w.cell? p = some (.int .i16 x.wide) ∧ w.cell? ⟨p.block, p.off + 1, none⟩ = some (.int .i16 x.high) ∧ w.cell? ⟨p.block, p.off + 2, none⟩ = some (.int .i16 x.lay) :=
  ⟨h 0 _ rfl, h 1 _ rfl, h 2 _ rfl⟩




end Go.Proofs.YtjfimmfnhlimkaaDoor.sheS

/-
  Results that are lists of the call's own: what a contract says of them.
-/
namespace Go.Proofs.YtjfimmfnhlimkaaDoor.hang
open Go.RowKit sl

/-- a list of the call's own, and a number -/
def Own2 (w : World) (ys : List Int) (z : Int) (o : Ending) (w' : World) : Prop :=
  ∃ v, o = .returned (.tuple #[v, .int .i64 z]) ∧ w'.ownsRow w.heap.size 2 1 v ys.length (ys.flatMap intS.C) ∧ Below w.heap.size w w'
/-- a list of the call's own, and two numbers -/
def Own3 (w : World) (ys : List Int) (y z : Int) (o : Ending) (w' : World) : Prop :=
  ∃ v, o = .returned (.tuple #[v, .int .i64 y, .int .i64 z]) ∧ w'.ownsRow w.heap.size 2 1 v ys.length (ys.flatMap intS.C) ∧ Below w.heap.size w w'
/-- one list of the call's own -/
def Own1 (w : World) (ys : List Int) (o : Ending) (w' : World) : Prop :=
  ∃ v, o = .returned v ∧ w'.ownsRow w.heap.size 2 1 v ys.length (ys.flatMap intS.C) ∧ Below w.heap.size w w'
theorem owns_none (w : World) (b : Nat) : w.ownsRow b 2 1 (.slice none 0 0) ([] : List Int).length (([] : List Int).flatMap intS.C) := World.ownsRow_nil w b 2 1
theorem owns_void (w : World) {b : Nat} (hb : b ≤ w.heap.size) : (w.alloc (.cells #[] 2)).ownsRow b 2 1 (.slice (some ⟨w.heap.size, 0, none⟩) 0 0) ([] : List Int).length (([] : List Int).flatMap intS.C) :=
  World.ownsRow_lit w #[] 0 hb (by unfold maxLen; simp) rfl
end Go.Proofs.YtjfimmfnhlimkaaDoor.hang

/-
  Rows of numbers of the call's own, wherever in their blocks they lie: marked, and still held.
-/
namespace Go.Proofs.YtjfimmfnhlimkaaDoor.rows
open Go Go.RowKit sl

/-- a row of the call's own: nothing, or a part of a block of numbers -/
def Own1 (w : World) (base : Nat) (r : Rw) : Prop :=
  (r.A = none ∧ r.c = 0 ∧ r.xs = []) ∨ ∃ g o cur, r.A = some ⟨g, o, none⟩ ∧ base ≤ g ∧ w.heap[g]? = some (.cells cur 2 (0, 0)) ∧ r.xs.length ≤ r.c ∧ r.c ≤ maxLen ∧ o + r.c ≤ cur.size ∧ ∀ j x, r.xs[j]? = some x → cur[o + j]? = some (.int .i64 x)
/-- what changed lies in the blocks S -/
structure But (S : Nat → Prop) (w w' : World) : Prop where
  os : w'.os = w.os
  tape : w'.tape = w.tape
  output : w'.output = w.output
  size : w.heap.size ≤ w'.heap.size
  block : ∀ k, k < w.heap.size → ¬ S k → w'.heap[k]? = w.heap[k]?
theorem But.refl (S : Nat → Prop) (w : World) : But S w w := ⟨rfl, rfl, rfl, Nat.le_refl _, fun _ _ _ => rfl⟩
theorem But.trans {S : Nat → Prop} {u v w : World} (h : But S u v) (h' : But S v w) : But S u w :=
  ⟨h'.os.trans h.os, h'.tape.trans h.tape, h'.output.trans h.output, Nat.le_trans h.size h'.size, fun k hk hS => (h'.block k (Nat.lt_of_lt_of_le hk h.size) hS).trans (h.block k hk hS)⟩
theorem But.mono {S S' : Nat → Prop} {u v : World} (h : But S u v) (hS : ∀ k, S k → S' k) : But S' u v := ⟨h.os, h.tape, h.output, h.size, fun k hk hn => h.block k hk fun h' => hn (hS k h')⟩
theorem But.of_grown {u v : World} {g : Nat} (h : u.grownBy v (some g)) : But (fun k => k = g) u v := ⟨h.os, h.tape, h.output, h.size, fun k hk hn => h.block k hk fun e => hn (Option.some.inj e)⟩
theorem But.below {S : Nat → Prop} {u v : World} {B : Nat} (h : But S u v) (hB : B ≤ u.heap.size) (hS : ∀ k, S k → B ≤ k) : Below B u v :=
  ⟨h.os, h.tape, h.output, h.size, fun k hk => h.block k (by omega) (fun hk' => by have := hS k hk'; omega)⟩
theorem Own1.at_lt {w : World} {base : Nat} {r : Rw} (h : Own1 w base r) : ∀ k, r.v.ownBlock = some k → base ≤ k ∧ k < w.heap.size := by
  intro k hk
  rcases h with ⟨hA, _, _⟩ | ⟨g, o, cur, hA, hb, hg, _⟩
  · rw [Rw.v, hA] at hk
    simp [Value.ownBlock] at hk
  · rw [Rw.v, hA] at hk
    simp only [Value.ownBlock, Option.some.injEq] at hk
    subst hk
    exact ⟨hb, (Array.getElem?_eq_some_iff.1 hg).1⟩
theorem Own1.keep {w w' : World} {base : Nat} {r : Rw} (h : Own1 w base r) (hk : ∀ g, r.v.ownBlock = some g → w'.heap[g]? = w.heap[g]?) : Own1 w' base r := by
  rcases h with h | ⟨g, o, cur, hA, hb, hg, rest⟩
  · exact .inl h
  · exact .inr ⟨g, o, cur, hA, hb, (hk g (by rw [Rw.v, hA]; rfl)).trans hg, rest⟩
theorem Own1.next {w w' : World} {base : Nat} {r : Rw} (h : Own1 w base r) (hb : Below w.heap.size w w') : Own1 w' base r := h.keep fun g hg => hb.block g (h.at_lt g hg).2
theorem Own1.but {w w' : World} {base : Nat} {r : Rw} {S : Nat → Prop} (h : Own1 w base r) (hb : But S w w') (hS : ∀ g, r.v.ownBlock = some g → ¬ S g) : Own1 w' base r := h.keep fun g hg => hb.block g (h.at_lt g hg).2 (hS g hg)
theorem Own1.lower {w : World} {base base' : Nat} {r : Rw} (h : Own1 w base r) (hb : base' ≤ base) : Own1 w base' r := by
  rcases h with h | ⟨g, o, cur, hA, hg, rest⟩
  · exact .inl h
  · exact .inr ⟨g, o, cur, hA, Nat.le_trans hb hg, rest⟩
theorem Own1.short {w : World} {base : Nat} {r : Rw} (h : Own1 w base r) : r.xs.length ≤ maxLen := by
  rcases h with ⟨_, _, e⟩ | ⟨g, o, cur, hA, hg, _, h1, h2, _⟩
  · rw [e]; exact Nat.zero_le _
  · omega
theorem Own1.sl {w : World} {base : Nat} {r : Rw} (h : Own1 w base r) : Sl intS.C 1 w w.heap.size r.A r.xs := by
  refine ⟨fun k x hx => ?_⟩
  rcases h with ⟨_, _, e⟩ | ⟨g, o, cur, hA, hb, hg, h1, h2, h3, h4⟩
  · rw [e] at hx
    simp at hx
  · refine ⟨_, hA, (Array.getElem?_eq_some_iff.1 hg).1, fun j v hj => ?_⟩
    have hj0 : j = 0 := by
      have := (List.getElem?_eq_some_iff.1 hj).1
      simp [] at this
      exact this
    subst hj0
    simp only [List.getElem?_cons_zero, Option.some.injEq] at hj
    subst hj
    have := h4 k x hx
    have e := cell_of_row w g (o + k) cur 2 (0, 0) hg
    rw [Nat.mul_one]
    rw [add_at, add_at, Nat.add_zero, e]
    exact this
theorem Own1.of_owns {w : World} {base : Nat} {r : Rw} (h : w.ownsRow base 2 1 r.v r.xs.length (r.xs.flatMap intS.C)) : Own1 w base r := by
  obtain ⟨h1, h2⟩ := h
  rcases h2 with ⟨hv, h0⟩ | ⟨g, cap, cur, hv, hg, hh, hnc, hcm, hcs, ht⟩
  · simp only [Rw.v, Value.slice.injEq] at hv
    exact .inl ⟨hv.1, hv.2.2, List.length_eq_zero_iff.1 h0⟩
  · simp only [Rw.v, Value.slice.injEq] at hv
    refine .inr ⟨g, 0, cur, hv.1, hg, hh, by omega, by omega, by omega, fun j x hx => ?_⟩
    have hf := flat_get (fun y _ => rfl : ∀ y ∈ r.xs, (intS.C y).length = 1) hx (j := 0) (v := .int .i64 x) rfl
    rw [← ht, Nat.mul_one, Nat.add_zero, Nat.mul_one, List.getElem?_take] at hf
    split at hf
    · rw [Nat.zero_add]
      simpa using hf
    · cases hf
/-- the lowest number goes -/
theorem Own1.tail {w : World} {base : Nat} {g o c : Nat} {x : Int} {xs : List Int} (h : Own1 w base ⟨some ⟨g, o, none⟩, c, x :: xs⟩) : Own1 w base ⟨some ⟨g, o + 1, none⟩, c - 1, xs⟩ := by
  rcases h with ⟨h, _⟩ | ⟨g', o', cur, hA, hb, hg, h1, h2, h3, h4⟩
  · cases h
  · simp only [Option.some.injEq, Addr.mk.injEq, and_true] at hA
    obtain ⟨rfl, rfl⟩ := hA
    simp only [List.length_cons] at h1 h2 h3
    refine .inr ⟨g, o + 1, cur, rfl, hb, hg, by show xs.length ≤ c - 1; omega, by show c - 1 ≤ maxLen; omega, by show o + 1 + (c - 1) ≤ cur.size; omega, fun j y hy => ?_⟩
    have := h4 (j + 1) y (by simpa using hy)
    rw [← this]
    congr 1
    omega
set_option maxHeartbeats 2000000 in
theorem mark1_any (w : World) (base : Nat) (r : Rw) (h : Own1 w base r) (k0 : Int) (hk : 0 ≤ k0 ∧ k0 ≤ 1000000000000) (hn : r.xs.length ≤ 1048576) :
    Calls Tryd.prog 114 #[r.v, .int .i64 k0] w fun e w' => e = .returned (.int .i64 (k0 + r.xs.length)) ∧ Own1 w' base ⟨r.A, r.c, intS.marks k0 r.xs.length⟩ ∧ But (fun k => r.v.ownBlock = some k) w w' := by
  obtain ⟨A, c, xs⟩ := r
  rcases h with ⟨hA, hc, hx⟩ | ⟨g, o, cur, hA, hb, hg, h1, h2, h3, h4⟩
  · simp only at hA hc hx
    subst hA hc hx
    refine (intS.markS_nil k0 w).mono ?_
    rintro e w' ⟨rfl, rfl⟩
    exact ⟨by simp, .inl ⟨rfl, rfl, rfl⟩, But.refl _ _⟩
  · simp only at hA h1 h2 h3 h4 hn
    subst hA
    obtain ⟨n, hN⟩ : ∃ n, xs.length = n := ⟨_, rfl⟩
    simp only [Rw.v]
    rw [hN] at h1 hn ⊢
    have HG := Lib.hid hg
    have H4 := Lib.hid h4
    clear hg h4
    go_enter Tryd.func114, Tryd.ntmps114
    go_wp2_with fail
    go_loopw [1, 5] (fun vk vi wr => ∃ k cu, k ≤ n ∧ vi = .int .i64 (k : Nat) ∧ vk = .int .i64 (k0 + k) ∧ wr.heap[g]? = some (.cells cu 2 (0, 0)) ∧ cu.size = cur.size ∧ (∀ j, j < k → cu[o + j]? = some (.int .i64 (k0 + j))) ∧ But (fun k => k = g) w wr) (fun _ vi _ => n - (intOf vi).toNat)
    case atStart => exact ⟨0, cur, by omega, rfl, by simp, HG.out, rfl, fun j hj => absurd hj (by omega), But.refl _ _⟩
    case round =>
      obtain ⟨k, cu, hk', rfl, rfl, hg, hs, hd, hB⟩ := hrel
      have HG1 := Lib.hid hg
      have HS := Lib.hid hs
      have HD := Lib.hid hd
      have HB := Lib.hid hB
      clear hg hs hd hB
      by_cases hlt : k < n
      · have hb1 : o + k < cu.size := by have := HS.out; omega
        obtain ⟨v0, s0⟩ : ∃ v, wr.cell? ⟨g, o + k, none⟩ = some v := ⟨cu[o + k], by rw [cell_of_row wr g (o + k) cu 2 (0, 0) HG1.out]; exact Array.getElem?_eq_getElem hb1⟩
        have f0 := frozen_of_row wr g (o + k) cu 2 HG1.out
        go_wp2_with fail
        go_roundw
        case rel =>
          refine ⟨k + 1, cu.setIfInBounds (o + k) (.int .i64 (k0 + k)), by omega, by go_num, by go_num, heap_setCell_same wr g (o + k) cu 2 (.int .i64 (k0 + k)) HG1.out, by simpa using HS.out, fun j hj => ?_, HB.out.trans ⟨rfl, rfl, rfl, by simp, fun i _ hne => heap_setCell_other wr ⟨g, o + k, none⟩ i _ (fun e => hne (by simp [e]))⟩⟩
          rcases Nat.lt_or_ge j k with h5 | h5
          · rw [Array.getElem?_setIfInBounds_ne (by omega)]
            exact HD.out j h5
          · obtain rfl : j = k := by omega
            rw [Array.getElem?_setIfInBounds_self, if_pos hb1]
        case measure => simp [intOf]; omega
      · go_wp2_with fail
        obtain rfl : k = n := by omega
        go_ret
        refine ⟨rfl, .inr ⟨g, o, cu, rfl, hb, HG1.out, by simpa [intS.marks_len] using h1, h2, by have := HS.out; simp only; omega, fun j x hx => ?_⟩, HB.out.mono fun i hi => by subst hi; rfl⟩
        have hj : j < k := by
          have := (List.getElem?_eq_some_iff.1 hx).1
          simpa [intS.marks_len] using this
        rw [HD.out j hj]
        have := intS.marks_at k0 k j hj
        simp only at hx
        rw [this] at hx
        rw [Option.some.inj hx]
end Go.Proofs.YtjfimmfnhlimkaaDoor.rows

/-
  Lists of rows of the call's own: counted, marked, still held.
-/
namespace Go.Proofs.YtjfimmfnhlimkaaDoor.rows
open Go Go.RowKit sl

/-- how many numbers there are -/
def tot : List Rw → Nat
  | [] => 0
  | r :: rs => r.xs.length + tot rs
theorem tot_snoc (rs : List Rw) (r : Rw) : tot (rs ++ [r]) = tot rs + r.xs.length := by
  induction rs with
  | nil => simp [tot]
  | cons x t ih => simp only [List.cons_append, tot, ih]; omega
theorem tot_append (a b : List Rw) : tot (a ++ b) = tot a + tot b := by
  induction a with
  | nil => simp [tot]
  | cons x t ih => simp only [List.cons_append, tot, ih]; omega
theorem tot_mem {rs : List Rw} {r : Rw} (h : r ∈ rs) : r.xs.length ≤ tot rs := by
  induction rs with
  | nil => cases h
  | cons x t ih =>
    rcases List.mem_cons.1 h with rfl | h
    · simp only [tot]; omega
    · have := ih h; simp only [tot]; omega
theorem tot_nums {a b : List Rw} (h : nums a = nums b) : tot a = tot b := by
  induction a generalizing b with
  | nil =>
    cases b with
    | nil => rfl
    | cons x t => cases h
  | cons x t ih =>
    cases b with
    | nil => cases h
    | cons y s =>
      simp only [nums, List.map_cons, List.cons.injEq] at h
      simp only [tot, h.1, ih h.2]
/-- the rows, marked from k on -/
def markR : Int → List Rw → List Rw
  | _, [] => []
  | k, r :: rs => ⟨r.A, r.c, intS.marks k r.xs.length⟩ :: markR (k + r.xs.length) rs
theorem markR_snoc (k : Int) (rs : List Rw) (r : Rw) : markR k (rs ++ [r]) = markR k rs ++ [⟨r.A, r.c, intS.marks (k + tot rs) r.xs.length⟩] := by
  induction rs generalizing k with
  | nil => simp [markR, tot]
  | cons x t ih =>
    simp only [List.cons_append, markR, ih, tot, List.cons.injEq, true_and]
    have e : k + (x.xs.length : Int) + (tot t : Int) = k + ((x.xs.length + tot t : Nat) : Int) := by push_cast; omega
    rw [e]
theorem markR_len (k : Int) (rs : List Rw) : (markR k rs).length = rs.length := by
  induction rs generalizing k with
  | nil => rfl
  | cons x t ih => simp [markR, ih]
theorem markR_v (k : Int) (rs : List Rw) : (markR k rs).map Rw.v = rs.map Rw.v := by
  induction rs generalizing k with
  | nil => rfl
  | cons x t ih => simp only [markR, List.map_cons, ih]; simp [Rw.v, intS.marks_len]
theorem flat_v (rs : List Rw) : rs.flatMap Rw.C = rs.map Rw.v := by
  induction rs with
  | nil => rfl
  | cons x t ih => rw [List.flatMap_cons, ih]; rfl
/-- a list of rows, all of the call's own -/
structure OT (w : World) (base : Nat) (A : Option Addr) (c : Nat) (rs : List Rw) : Prop where
  outer : w.ownsRow base 101 1 (.slice A rs.length c) rs.length (rs.map Rw.v)
  each : ∀ r ∈ rs, Own1 w base r
  dist : (rs.map Rw.v).Pairwise fun a b => ∀ k, a.ownBlock = some k → b.ownBlock ≠ some k
  off : ∀ v ∈ rs.map Rw.v, ∀ k, v.ownBlock = some k → (Value.slice A rs.length c).ownBlock ≠ some k
theorem OT.of {w : World} {base : Nat} {A : Option Addr} {c : Nat} {rs : List Rw} (h : OS w base A c rs) : OT w base A c rs :=
  ⟨by rw [← flat_v]; exact h.outer, fun r hr => Own1.of_owns (h.each r hr), List.pairwise_map.2 h.dist, fun v hv => by
    obtain ⟨r, hr, rfl⟩ := List.mem_map.1 hv
    exact h.off r hr⟩
theorem OT.next {w w' : World} {base : Nat} {A : Option Addr} {c : Nat} {rs : List Rw} (h : OT w base A c rs) (hb : Below w.heap.size w w') : OT w' base A c rs :=
  ⟨owns_next h.outer hb, fun r hr => (h.each r hr).next hb, h.dist, h.off⟩
theorem OT.lower {w : World} {base base' : Nat} {A : Option Addr} {c : Nat} {rs : List Rw} (h : OT w base A c rs) (hb : base' ≤ base) : OT w base' A c rs :=
  ⟨owns_below h.outer hb, fun r hr => (h.each r hr).lower hb, h.dist, h.off⟩
theorem OT.ss {w : World} {base : Nat} {A : Option Addr} {c : Nat} {rs : List Rw} (h : OT w base A c rs) : SS w w.heap.size A rs :=
  ⟨Sl.of_owns (by rw [flat_v]; exact h.outer) (Rw.len rs) (by decide), fun r hr => (h.each r hr).sl, fun r hr => (h.each r hr).short⟩
theorem owns_but {w w' : World} {base : Nat} {e : TypeId} {sz : Nat} {v : Value} {n : Nat} {L : List Value} {S : Nat → Prop} (h : w.ownsRow base e sz v n L) (hb : But S w w') (hS : ∀ g, v.ownBlock = some g → ¬ S g) : w'.ownsRow base e sz v n L := by
  refine ⟨h.1, ?_⟩
  rcases h.2 with hn | ⟨g, cap, cur, rfl, hg, hh, rest⟩
  · exact .inl hn
  · exact .inr ⟨g, cap, cur, rfl, hg, (hb.block g (Array.getElem?_eq_some_iff.1 hh).1 (hS g rfl)).trans hh, rest⟩
/-- what the rows and their list lie in -/
def Blocks (A : Option Addr) (rs : List Rw) (k : Nat) : Prop := (∃ a, A = some a ∧ a.block = k) ∨ ∃ r ∈ rs, r.v.ownBlock = some k
theorem OT.but {w w' : World} {base : Nat} {A : Option Addr} {c : Nat} {rs : List Rw} {S : Nat → Prop} (h : OT w base A c rs) (hb : But S w w') (hS : ∀ k, base ≤ k → k < w.heap.size → ¬ S k) : OT w' base A c rs :=
  ⟨owns_but h.outer hb (fun g hg => hS g (h.outer.lt g hg).1 (h.outer.lt g hg).2), fun r hr => (h.each r hr).but hb (fun g hg => hS g ((h.each r hr).at_lt g hg).1 ((h.each r hr).at_lt g hg).2), h.dist, h.off⟩
/-- one row's numbers are others now -/
theorem OT.mark {w w' : World} {base : Nat} {A : Option Addr} {c : Nat} {pre post : List Rw} {r r' : Rw} (h : OT w base A c (pre ++ r :: post)) (hv : r'.v = r.v) (h' : Own1 w' base r') (hb : But (fun k => r.v.ownBlock = some k) w w') : OT w' base A c (pre ++ r' :: post) := by
  have hl : (pre ++ r' :: post).length = (pre ++ r :: post).length := by simp
  have hm : (pre ++ r' :: post).map Rw.v = (pre ++ r :: post).map Rw.v := by simp only [List.map_append, List.map_cons, hv]
  refine ⟨?_, ?_, by rw [hm]; exact h.dist, by rw [hm, hl]; exact h.off⟩
  · rw [hm, hl]
    exact owns_but h.outer hb fun g hg hr => h.off r.v (by simp) g hr hg
  · have hd := h.dist
    rw [List.map_append, List.map_cons, List.pairwise_append, List.pairwise_cons] at hd
    obtain ⟨_, ⟨hd1, _⟩, hd2⟩ := hd
    intro x hx
    rcases List.mem_append.1 hx with h1 | h1
    · exact (h.each x (List.mem_append_left _ h1)).but hb fun g hg hr => hd2 x.v (List.mem_map_of_mem h1) r.v (List.mem_cons_self ..) g hg hr
    · rcases List.mem_cons.1 h1 with rfl | h1
      · exact h'
      · exact (h.each x (List.mem_append_right _ (List.mem_cons_of_mem _ h1))).but hb fun g hg hr => hd1 x.v (List.mem_map_of_mem h1) g hr hg
set_option maxRecDepth 100000 in
set_option maxHeartbeats 2000000 in
/-- too many, or what bounds there are -/
theorem szSS_tot (A : Option Addr) (n c : Nat) (rs : List Rw) (en : n = rs.length) (hn : n ≤ 9223372036854775807) (left : Int) (hl : 0 ≤ left ∧ left ≤ 1048576) (w : World) (hg : SS w w.heap.size A rs) :
    Calls Tryd.prog 52 #[.slice A n c, .int .i64 left] w fun e w' => ∃ z : Int, e = .returned (.int .i64 z) ∧ w = w' ∧ -1 ≤ z ∧ z ≤ 1048576 ∧ (0 ≤ z → n + tot rs ≤ 1048576) := by
  have En := Lib.hid en
  clear en
  by_cases h0 : left - n < 0
  · go_enter Tryd.func52, Tryd.ntmps52
    go_wp2_with fail
    go_ret
    exact ⟨-1, rfl, rfl, by omega, by omega, fun h => by omega⟩
  · have hw : wrap64 (left - n) = left - n := by unfold wrap64; omega
    go_enter Tryd.func52, Tryd.ntmps52
    go_wp2_with fail
    go_loop [1, 5] (fun vl vi => ∃ (k : Nat) (z : Int) (pre post : List Rw), k ≤ n ∧ vi = .int .i64 k ∧ vl = .int .i64 z ∧ 0 ≤ z ∧ z + tot pre = left - n ∧ rs = pre ++ post ∧ pre.length = k) (fun _ vi => n - (intOf vi).toNat)
    case atStart => exact ⟨0, left - n, [], rs, by omega, rfl, by first | rfl | rw [hw], by omega, by simp [tot], rfl, rfl⟩
    case round =>
      obtain ⟨k, z, pre, post, hk, rfl, rfl, hz0, hz1, hz2, hz3⟩ := hrel
      have HZ := Lib.hid hz2
      have HP := Lib.hid hz3
      have HZ1 := Lib.hid hz1
      have hz4 : z ≤ 1048576 := by omega
      clear hz2 hz3 hz1
      by_cases hlt : k < n
      · obtain ⟨r, t, ht⟩ : ∃ r t, post = r :: t := by
          cases post with
          | nil =>
            exfalso
            have h1 := congrArg List.length HZ.out
            have h2 := HP.out
            have h3 := En.out
            simp only [List.length_append, List.length_nil] at h1
            omega
          | cons r t => exact ⟨r, t, rfl⟩
        subst ht
        have hr : rs[k]? = some r := by rw [HZ.out, List.getElem?_append_right (by rw [HP.out]; exact Nat.le_refl _), HP.out, Nat.sub_self]; rfl
        obtain ⟨a, rfl, hab, q0⟩ := hg.head hr
        have hs := hg.short r (List.mem_of_getElem? hr)
        unfold maxLen at hs
        clear hr
        by_cases hz : z - r.xs.length < 0
        · go_wp2_with fail
          refine (szI_any r.A r.xs.length r.c z (by omega) (by omega) _).mono ?_
          rintro o u ⟨rfl, rfl⟩
          rw [if_pos hz]
          go_wp2_with fail
          go_ret
          exact ⟨-1, rfl, rfl, by omega, by omega, fun h => by omega⟩
        · have HNZ := Lib.hid hz
          go_wp2_with fail
          refine (szI_any r.A r.xs.length r.c z (by omega) (by omega) _).mono ?_
          rintro o u ⟨rfl, rfl⟩
          rw [if_neg (show ¬ z - (r.xs.length : Int) < 0 by have := HNZ.out; omega)]
          go_wp2_with fail
          go_round
          case rel => exact ⟨k + 1, z - r.xs.length, pre ++ [r], t, by omega, by go_num, rfl, by omega, by rw [tot_snoc]; have := HZ1.out; omega, by rw [HZ.out]; simp, by rw [List.length_append, HP.out]; rfl⟩
          case measure => simp [intOf]; omega
      · obtain rfl : k = n := by omega
        have hpost : post = [] := by
          have h1 := congrArg List.length HZ.out
          have h2 := HP.out
          have h3 := En.out
          rw [List.length_append] at h1
          exact List.length_eq_zero_iff.1 (by omega)
        have ht : tot rs = tot pre := by rw [HZ.out, hpost, List.append_nil]
        have HT := Lib.hid ht
        clear ht hpost
        go_wp2_with fail
        go_ret
        exact ⟨z, rfl, rfl, by omega, by omega, fun _ => by have := HT.out; have := HZ1.out; omega⟩
set_option maxRecDepth 100000 in
set_option maxHeartbeats 2000000 in
theorem markSS_any (w : World) (base : Nat) (A : Option Addr) (c n : Nat) (rs : List Rw) (en : n = rs.length) (h : OT w base A c rs) (k0 : Int) (hk : 0 ≤ k0 ∧ k0 ≤ 1000000000) (hn : n + tot rs ≤ 1048576) :
    Calls Tryd.prog 59 #[.slice A n c, .int .i64 k0] w fun e w' => e = .returned (.int .i64 (k0 + tot rs)) ∧ OT w' base A c (markR k0 rs) ∧ But (Blocks A rs) w w' := by
  have En := Lib.hid en
  have H0 := Lib.hid h
  clear en h
  go_enter Tryd.func59, Tryd.ntmps59
  go_wp2_with fail
  go_loopw [1, 5] (fun vk vi wr => ∃ (k : Nat) (pre post : List Rw), k ≤ n ∧ vi = .int .i64 k ∧ vk = .int .i64 (k0 + tot pre) ∧ rs = pre ++ post ∧ pre.length = k ∧ OT wr base A c (markR k0 pre ++ post) ∧ But (Blocks A rs) w wr) (fun _ vi _ => n - (intOf vi).toNat)
  case atStart => exact ⟨0, [], rs, by omega, rfl, by simp [tot], rfl, rfl, H0.out, But.refl _ _⟩
  case round =>
    obtain ⟨k, pre, post, hk', rfl, rfl, hz2, hz3, hO, hB⟩ := hrel
    have HZ := Lib.hid hz2
    have HP := Lib.hid hz3
    have HO := Lib.hid hO
    have HB := Lib.hid hB
    have htot : tot pre + tot post ≤ 1048576 := by rw [← tot_append, ← hz2]; omega
    have HTT := Lib.hid htot
    clear hz2 hz3 hO hB htot
    by_cases hlt : k < n
    · obtain ⟨r, t, ht⟩ : ∃ r t, post = r :: t := by
        cases post with
        | nil =>
          exfalso
          have h1 := congrArg List.length HZ.out
          have h2 := HP.out
          have h3 := En.out
          simp only [List.length_append, List.length_nil] at h1
          omega
        | cons r t => exact ⟨r, t, rfl⟩
      subst ht
      have hr : (markR k0 pre ++ r :: t)[k]? = some r := by rw [List.getElem?_append_right (by rw [markR_len, HP.out]; exact Nat.le_refl _), markR_len, HP.out, Nat.sub_self]; rfl
      obtain ⟨a, rfl, hab, q0⟩ := HO.out.ss.head hr
      have hO1 := HO.out.each r (List.mem_of_getElem? hr)
      have hp1 : tot pre ≤ 1048576 := by have := HTT.out; omega
      have hp2 : r.xs.length ≤ 1048576 := by have := HTT.out; simp only [tot] at this; omega
      have HM := Lib.hid (mark1_any wr base r hO1 (k0 + tot pre) (by omega) hp2)
      clear hr hO1
      go_wp2_with fail
      refine HM.out.mono ?_
      rintro o u ⟨rfl, P, hb⟩
      have HP1 := Lib.hid P
      have HB1 := Lib.hid hb
      clear P hb
      go_wp2_with fail
      go_roundw
      case rel => exact ⟨k + 1, pre ++ [r], t, by omega, by go_num, by rw [tot_snoc]; push_cast; rw [Int.add_assoc], by rw [HZ.out]; simp, by rw [List.length_append, HP.out]; rfl, by
        rw [markR_snoc, List.append_assoc]
        exact HO.out.mark (by simp [Rw.v, intS.marks_len]) HP1.out HB1.out, HB.out.trans (HB1.out.mono fun g hg => .inr ⟨r, by rw [HZ.out]; simp, hg⟩)⟩
      case measure => simp [intOf]; omega
    · obtain rfl : k = n := by omega
      have hpost : post = [] := by
        have h1 := congrArg List.length HZ.out
        have h2 := HP.out
        have h3 := En.out
        rw [List.length_append] at h1
        exact List.length_eq_zero_iff.1 (by omega)
      have ht : rs = pre := by rw [HZ.out, hpost, List.append_nil]
      have hO := HO.out
      rw [hpost, List.append_nil, ← ht] at hO
      have HOE := Lib.hid hO
      clear hO
      rw [← ht]
      go_wp2_with fail
      go_ret
      exact ⟨rfl, HOE.out, HB.out⟩
end Go.Proofs.YtjfimmfnhlimkaaDoor.rows

/-
  Lists of rows: what was marked is still held.
-/
namespace Go.Proofs.YtjfimmfnhlimkaaDoor.rows
open Go Go.RowKit sl

theorem markR_split (k : Int) (a b : List Rw) : markR k (a ++ b) = markR k a ++ markR (k + tot a) b := by
  induction a generalizing k with
  | nil => simp [markR, tot]
  | cons x t ih =>
    simp only [List.cons_append, markR, ih, tot, List.cons.injEq, true_and]
    have e : k + (x.xs.length : Int) + (tot t : Int) = k + ((x.xs.length + tot t : Nat) : Int) := by push_cast; omega
    rw [e]
set_option maxRecDepth 100000 in
set_option maxHeartbeats 2000000 in
theorem heldSS_any (w : World) (A : Option Addr) (c n : Nat) (rs : List Rw) (en : n = rs.length) (k0 : Int) (h : SS w w.heap.size A (markR k0 rs)) (hk : 0 ≤ k0 ∧ k0 ≤ 1000000000) (hn : n + tot rs ≤ 1048576) :
    Calls Tryd.prog 60 #[.slice A n c, .int .i64 k0] w fun e w' => e = .returned (.int .i64 (k0 + tot rs)) ∧ w = w' := by
  have En := Lib.hid en
  have H0 := Lib.hid h
  clear en h
  go_enter Tryd.func60, Tryd.ntmps60
  go_wp2_with fail
  go_loop [1, 5] (fun vk vi => ∃ (k : Nat) (pre post : List Rw), k ≤ n ∧ vi = .int .i64 k ∧ vk = .int .i64 (k0 + tot pre) ∧ rs = pre ++ post ∧ pre.length = k) (fun _ vi => n - (intOf vi).toNat)
  case atStart => exact ⟨0, [], rs, by omega, rfl, by simp [tot], rfl, rfl⟩
  case round =>
    obtain ⟨k, pre, post, hk', rfl, rfl, hz2, hz3⟩ := hrel
    have HZ := Lib.hid hz2
    have HP := Lib.hid hz3
    have htot : tot pre + tot post ≤ 1048576 := by rw [← tot_append, ← hz2]; omega
    have HTT := Lib.hid htot
    clear hz2 hz3 htot
    by_cases hlt : k < n
    · obtain ⟨r, t, ht⟩ : ∃ r t, post = r :: t := by
        cases post with
        | nil =>
          exfalso
          have h1 := congrArg List.length HZ.out
          have h2 := HP.out
          have h3 := En.out
          simp only [List.length_append, List.length_nil] at h1
          omega
        | cons r t => exact ⟨r, t, rfl⟩
      subst ht
      have hr : (markR k0 rs)[k]? = some ⟨r.A, r.c, intS.marks (k0 + tot pre) r.xs.length⟩ := by
        rw [HZ.out, markR_split, List.getElem?_append_right (by rw [markR_len, HP.out]; exact Nat.le_refl _), markR_len, HP.out, Nat.sub_self]; rfl
      obtain ⟨a, rfl, hab, q0⟩ := H0.out.head hr
      have hO1 := H0.out.each _ (List.mem_of_getElem? hr)
      simp only [intS.marks_len] at q0 hO1
      have hp1 : tot pre ≤ 1048576 := by have := HTT.out; omega
      have hp2 : r.xs.length ≤ 1048576 := by have := HTT.out; simp only [tot] at this; omega
      have HM := Lib.hid (intS.heldS_any r.A r.xs.length r.c (k0 + tot pre) (by omega) hp2 _ _ hO1)
      have hno : decide (k0 + (tot pre : Int) + (r.xs.length : Int) < 0) = false := by simp; omega
      clear hr hO1
      go_wp2_with fail
      refine HM.out.mono ?_
      rintro o u ⟨rfl, rfl⟩
      go_wp2_with fail
      go_round
      case rel => exact ⟨k + 1, pre ++ [r], t, by omega, by go_num, by rw [tot_snoc]; push_cast; rw [Int.add_assoc], by rw [HZ.out]; simp, by rw [List.length_append, HP.out]; rfl⟩
      case measure => simp [intOf]; omega
    · obtain rfl : k = n := by omega
      have hpost : post = [] := by
        have h1 := congrArg List.length HZ.out
        have h2 := HP.out
        have h3 := En.out
        rw [List.length_append] at h1
        exact List.length_eq_zero_iff.1 (by omega)
      have ht : rs = pre := by rw [HZ.out, hpost, List.append_nil]
      rw [← ht]
      go_wp2_with fail
      go_ret
      exact ⟨rfl, rfl⟩
end Go.Proofs.YtjfimmfnhlimkaaDoor.rows
