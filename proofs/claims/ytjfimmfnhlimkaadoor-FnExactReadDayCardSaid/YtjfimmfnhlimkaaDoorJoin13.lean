/-
  Several texts of this proof, joined.
-/
import Derived.Test.YtjfimmfnhlimkaaDoorRows
import Derived.Test.YtjfimmfnhlimkaaDoorSl
import Derived.Test.YtjfimmfnhlimkaaDoorJoin3
import Derived.WalkKit
import Derived.WalkSpells
import Derived.WalkLawsBesides
import Derived.Lib.Hide
import Derived.Deep.QuietTactic
import Derived.BigQuiet
import Derived.Deep.RegionHeld3
import Derived.Deep.MidRow
import Derived.RegionTactic
import Derived.ChangeAlike
/-
  Lists of numbers (int64): copied, held against each other, marked.
-/
namespace Go.Proofs.YtjfimmfnhlimkaaDoor.intS
open Go.RowKit sl

abbrev C (x : Int) : List Value := cInt .i64 x
theorem len (xs : List Int) : ∀ x ∈ xs, (C x).length = 1 := fun _ _ => rfl
theorem at_ {w : World} {a : Addr} {k : Nat} {x : Int} (h : At w (a.add (k * 1)) (C x)) : w.cell? (a.add k) = some (.int .i64 x) := by
  have h0 := h 0 _ rfl
  rw [Nat.mul_one] at h0
  exact h0
theorem info : (Tryd.prog.info? 2).map (fun i => (i.zero, i.size, i.bytes)) = some (some (.int .i64 0), 1, 8) := by kernel_rfl

set_option maxHeartbeats 2000000 in
theorem toS_any (A : Option Addr) (n c : Nat) (xs : List Int) (en : n = xs.length) (hn : n ≤ 1048576) (w : World) (hg : Sl C 1 w w.heap.size A xs) :
    Calls Tryd.prog 108 #[.slice A n c] w fun e w' => ∃ g, e = .returned (.slice (some ⟨g, 0, none⟩) n n) ∧
      w'.ownsRow w.heap.size 2 1 (.slice (some ⟨g, 0, none⟩) n n) n (xs.flatMap C) ∧ Below w.heap.size w w' := by
  obtain ⟨i0, hi, hz0, hz1, hz2⟩ := info_parts info
  have En := Lib.hid en
  clear en
  have hmk : ∀ u : World, (Instr.makeSlice 101 (.int .i64 (n : Int)) (.int .i64 (n : Int))).run Tryd.prog u =
      .ok (.slice (some ⟨u.heap.size, 0, none⟩) n n) (u.alloc (.cells (madeCells #[.int .i64 0] n) 2)) := fun u => by
    have h := run_make (P := Tryd.prog) u 101 2 i0 _ Tryd.underlying101 hi hz0 .i64 .i64 (n : Int) (n : Int) (by omega) (Int.le_refl _) (by rw [hz2]; omega) (by omega)
    have e : ((n : Int)).toNat = n := by omega
    rw [e] at h
    simpa [hz1, Value.cells] using h
  go_enter Tryd.func108, Tryd.ntmps108
  have hB0 : Below w.heap.size w (w.alloc (.cells (madeCells #[.int .i64 0] n) 2)) := (Below.refl _ _).alloc (Nat.le_refl _) _
  have hP0 : (w.alloc (.cells (madeCells #[.int .i64 0] n) 2)).ownsRow w.heap.size 2 1 (.slice (some ⟨w.heap.size, 0, none⟩) n n) n _ :=
    World.ownsRow_lit w (madeCells #[.int .i64 0] n) n (Nat.le_refl _) (by unfold maxLen; omega) (by rw [size_madeCells, Nat.mul_one])
  have HP0 := Lib.hid hP0
  clear hP0
  go_wp2_with fail
  go_loopw [4] (fun vi wr => ∃ k L, k ≤ n ∧ vi = .int .i64 (k : Nat) ∧ wr.ownsRow w.heap.size 2 1 (.slice (some ⟨w.heap.size, 0, none⟩) n n) n L ∧ Done C 1 xs k L ∧ Below w.heap.size w wr) (fun vi _ => n - (intOf vi).toNat)
  case atStart => exact ⟨0, _, by omega, rfl, HP0.out, Done.zero _ _ _ _, hB0⟩
  case round =>
    clear hB0 HP0
    obtain ⟨k, L, hk, rfl, hP, hD, hB⟩ := hrel
    by_cases hlt : k < n
    · obtain ⟨x, hx⟩ : ∃ x, xs[k]? = some x := ⟨xs[k]'(by have := En.out; omega), List.getElem?_eq_getElem _⟩
      obtain ⟨a, rfl, hab, hat⟩ := (hg.below hB).at_ k x hx
      have q0 := at_ hat
      have HX := Lib.hid hx
      have HD := Lib.hid hD
      have hLL := hP.1
      obtain ⟨v0, s0⟩ : ∃ v, wr.cell? ⟨w.heap.size, k, none⟩ = some v := ⟨L[k]'(by omega), (hP.cellAt k (by omega)).trans (List.getElem?_eq_getElem _)⟩
      have f0 := hP.frozenAt k
      have HLL := Lib.hid hLL
      have HP := Lib.hid hP
      clear hLL hP hx hat hD
      go_wp2_with fail
      go_roundw
      case rel =>
        have hP3 := (HP.out.stored k (.int .i64 x)).1
        refine ⟨k + 1, _, by omega, by go_num, hP3, ?_, hB.setCell (p := ⟨w.heap.size, k, none⟩) (Nat.le_refl _) _⟩
        have hd := HD.out.step (len xs) HX.out (by rw [HLL.out, En.out])
        rw [Nat.mul_one] at hd
        exact hd
      case measure => simp [intOf]; omega
    · go_wp2_with fail
      obtain rfl : k = n := by omega
      go_ret
      have hl := En.out
      have e : L = xs.flatMap C := Done.full (by rw [← hl]; exact hD) (len xs) (by omega) (by rw [hP.1, hl])
      rw [← e]
      exact ⟨_, rfl, hP, hB⟩

set_option maxHeartbeats 2000000 in
theorem eqS_any (A A' : Option Addr) (n n' c c' : Nat) (xs ys : List Int) (en : n = xs.length) (en' : n' = ys.length) (hn : n ≤ 1048576) (hn' : n' ≤ 9223372036854775807) (w : World) (hg : Sl C 1 w w.heap.size A xs) (hg' : Sl C 1 w w.heap.size A' ys) (b : Bool) (hb : b = true ↔ xs = ys) :
    Calls Tryd.prog 111 #[.slice A n c, .slice A' n' c'] w fun e w' => e = .returned (.bool b) ∧ Below w.heap.size w w' := by
  have En := Lib.hid en
  have En' := Lib.hid en'
  have Hb := Lib.hid hb
  clear en en' hb
  by_cases hlen : n = n'
  · subst hlen
    go_enter Tryd.func111, Tryd.ntmps111
    go_wp2_with fail
    go_loopw [5] (fun vi wr => ∃ k : Nat, k ≤ n ∧ vi = .int .i64 k ∧ (∀ i, i < k → xs[i]? = ys[i]?) ∧ ∃ m, wr = w.drewN m) (fun vi _ => n - (intOf vi).toNat)
    case atStart => exact ⟨0, by omega, rfl, fun i hi => absurd hi (by omega), 0, rfl⟩
    case round =>
      obtain ⟨k, hk, rfl, hsame, m, rfl⟩ := hrel
      by_cases hlt : k < n
      · obtain ⟨x, hx⟩ : ∃ x, xs[k]? = some x := ⟨xs[k]'(by have := En.out; omega), List.getElem?_eq_getElem _⟩
        obtain ⟨y, hy⟩ : ∃ y, ys[k]? = some y := ⟨ys[k]'(by have := En'.out; omega), List.getElem?_eq_getElem _⟩
        obtain ⟨a, rfl, hab, hat⟩ := hg.at_ k x hx
        obtain ⟨a', rfl, hab', hat'⟩ := hg'.at_ k y hy
        have q0 := at_ hat
        have r0 := at_ hat'
        have HX := Lib.hid hx
        have HY := Lib.hid hy
        clear hx hy hat hat'
        by_cases hxy : x = y
        · subst hxy
          go_wp2_with fail
          go_quiet (fail)
          go_wp2_with fail
          go_roundw
          case rel => exact ⟨k + 1, by omega, by go_num, fun i hi => by
            rcases Nat.lt_or_ge i k with h1 | h1
            · exact hsame i h1
            · obtain rfl : i = k := by omega
              rw [HX.out, HY.out], _, rfl⟩
          case measure => simp [intOf]; omega
        · have hne : (x != y) = true := by rw [bne_iff_ne]; exact hxy
          go_wp2_with fail
          go_quiet (fail)
          go_wp2_with fail
          go_ret
          refine ⟨ret_bool ?_, (below_drewN _ _ _).trans (below_drewN _ _ _)⟩
          cases hbb : b with
          | false => rfl
          | true =>
            have he := Hb.out.1 hbb
            have h1 := HX.out
            rw [he, HY.out] at h1
            exact absurd (Option.some.inj h1).symm hxy
      · go_wp2_with fail
        go_ret
        refine ⟨ret_bool ?_, below_drewN _ _ _⟩
        exact (Hb.out.2 (lists_eq En.out En'.out fun i hi => hsame i (by omega))).symm
  · have hno : b = false := by
      cases hbb : b with
      | false => rfl
      | true => exact absurd ((En.out.trans (congrArg List.length (Hb.out.1 hbb))).trans En'.out.symm) hlen
    subst hno
    have hl : ((n : Int) != (n' : Int)) = true := by rw [bne_iff_ne]; omega
    clear hlen
    go_enter Tryd.func111, Tryd.ntmps111
    go_wp2_with fail
    go_ret
    exact ⟨rfl, Below.refl _ _⟩

/-- the numbers from k on -/
def marks (k : Int) (n : Nat) : List Int := (List.range n).map fun i : Nat => k + (i : Int)
theorem marks_len (k : Int) (n : Nat) : (marks k n).length = n := by simp [marks]
theorem marks_at (k : Int) (n i : Nat) (h : i < n) : (marks k n)[i]? = some (k + i) := by simp [marks, h]

set_option maxHeartbeats 2000000 in
theorem markS_row (base g n c : Nat) (k0 : Int) (hk : 0 ≤ k0 ∧ k0 ≤ 1000000000000) (hn : n ≤ 1048576) (L : List Value) (w : World) (hP : w.ownsRow base 2 1 (.slice (some ⟨g, 0, none⟩) n c) n L) :
    Calls Tryd.prog 114 #[.slice (some ⟨g, 0, none⟩) n c, .int .i64 k0] w fun e w' => e = .returned (.int .i64 (k0 + n)) ∧
      w'.ownsRow base 2 1 (.slice (some ⟨g, 0, none⟩) n c) n ((marks k0 n).flatMap C) ∧ w.grownBy w' (some g) := by
  have HP0 := Lib.hid hP
  clear hP
  go_enter Tryd.func114, Tryd.ntmps114
  go_wp2_with fail
  go_loopw [1, 5] (fun vk vi wr => ∃ k L, k ≤ n ∧ vi = .int .i64 (k : Nat) ∧ vk = .int .i64 (k0 + k) ∧ wr.ownsRow base 2 1 (.slice (some ⟨g, 0, none⟩) n c) n L ∧ Done C 1 (marks k0 n) k L ∧ w.grownBy wr (some g)) (fun _ vi _ => n - (intOf vi).toNat)
  case atStart => exact ⟨0, _, by omega, rfl, by simp, HP0.out, Done.zero _ _ _ _, ⟨rfl, rfl, rfl, Nat.le_refl _, fun _ _ _ => rfl⟩⟩
  case round =>
    obtain ⟨k, L, hk', rfl, rfl, hP, hD, hB⟩ := hrel
    by_cases hlt : k < n
    · have HX := Lib.hid (marks_at k0 n k hlt)
      have HD := Lib.hid hD
      have hLL := hP.1
      obtain ⟨v0, s0⟩ : ∃ v, wr.cell? ⟨g, k, none⟩ = some v := ⟨L[k]'(by omega), (hP.cellAt k (by omega)).trans (List.getElem?_eq_getElem _)⟩
      have f0 := hP.frozenAt k
      have HLL := Lib.hid hLL
      have HP := Lib.hid hP
      clear hLL hP hD
      go_wp2_with fail
      go_roundw
      case rel =>
        have hP3 := HP.out.stored k (.int .i64 (k0 + k))
        have g2 := hP3.2
        refine ⟨k + 1, _, by omega, by go_num, by go_num, hP3.1, ?_, ⟨g2.os.trans hB.os, g2.tape.trans hB.tape, g2.output.trans hB.output, Nat.le_trans hB.size g2.size, fun i hi hne => (g2.block i (Nat.lt_of_lt_of_le hi hB.size) hne).trans (hB.block i hi hne)⟩⟩
        have hd := HD.out.step (len _) HX.out (by rw [HLL.out, marks_len])
        rw [Nat.mul_one] at hd
        exact hd
      case measure => simp [intOf]; omega
    · go_wp2_with fail
      obtain rfl : k = n := by omega
      go_ret
      have e : L = (marks k0 k).flatMap C := Done.full (by rw [marks_len]; exact hD) (len _) (by omega) (by rw [hP.1, marks_len])
      rw [← e]
      exact ⟨rfl, hP, hB⟩
set_option maxHeartbeats 1000000 in
theorem markS_nil (k0 : Int) (w : World) :
    Calls Tryd.prog 114 #[.slice none 0 0, .int .i64 k0] w fun e w' => e = .returned (.int .i64 k0) ∧ w = w' := by
  go_enter Tryd.func114, Tryd.ntmps114
  go_wp2_with fail
  refine wp_loop_rounds 1 ?_
  rw [rounds_succ]
  go_wp2_with fail
  go_ret
  exact ⟨rfl, rfl⟩
/-- a row of the call's own is marked -/
theorem markS_any (base : Nat) (v : Value) (n : Nat) (k0 : Int) (hk : 0 ≤ k0 ∧ k0 ≤ 1000000000000) (hn : n ≤ 1048576) (L : List Value) (w : World) (hP : w.ownsRow base 2 1 v n L) :
    Calls Tryd.prog 114 #[v, .int .i64 k0] w fun e w' => e = .returned (.int .i64 (k0 + n)) ∧ w'.ownsRow base 2 1 v n ((marks k0 n).flatMap C) ∧ ∃ g, base ≤ g ∧ w.grownBy w' (some g) ∧ (v.ownBlock = none ∨ v.ownBlock = some g) := by
  obtain ⟨h1, h2⟩ := hP
  rcases h2 with ⟨rfl, rfl⟩ | ⟨g, c, cur, rfl, hg, rest⟩
  · refine (markS_nil k0 w).mono ?_
    rintro e w' ⟨rfl, rfl⟩
    exact ⟨by simp, by simpa [marks] using World.ownsRow_nil w base 2 1, base, Nat.le_refl _, ⟨rfl, rfl, rfl, Nat.le_refl _, fun _ _ _ => rfl⟩, .inl rfl⟩
  · refine (markS_row base g n c k0 hk hn L w ⟨h1, .inr ⟨g, c, cur, rfl, hg, rest⟩⟩).mono ?_
    rintro e w' ⟨rfl, hP', hgr⟩
    exact ⟨rfl, hP', g, hg, hgr, .inr rfl⟩

set_option maxHeartbeats 2000000 in
theorem heldS_any (A : Option Addr) (n c : Nat) (k0 : Int) (hk : 0 ≤ k0 ∧ k0 ≤ 1000000000000) (hn : n ≤ 1048576) (w : World) (B : Nat) (hg : Sl C 1 w B A (marks k0 n)) :
    Calls Tryd.prog 115 #[.slice A n c, .int .i64 k0] w fun e w' => e = .returned (.int .i64 (k0 + n)) ∧ w = w' := by
  go_enter Tryd.func115, Tryd.ntmps115
  go_wp2_with fail
  go_loop [1, 5] (fun vk vi => ∃ k : Nat, k ≤ n ∧ vi = .int .i64 k ∧ vk = .int .i64 (k0 + k)) (fun _ vi => n - (intOf vi).toNat)
  case atStart => exact ⟨0, by omega, rfl, by simp⟩
  case round =>
    obtain ⟨k, hk', rfl, rfl⟩ := hrel
    by_cases hlt : k < n
    · obtain ⟨a, rfl, hab, hat⟩ := hg.at_ k _ (marks_at k0 n k hlt)
      have q0 := at_ hat
      clear hat
      go_wp2_with fail
      go_round
      case rel => exact ⟨k + 1, by omega, by go_num, by go_num⟩
      case measure => simp [intOf]; omega
    · go_wp2_with fail
      obtain rfl : k = n := by omega
      go_ret
      exact ⟨rfl, rfl⟩
end Go.Proofs.YtjfimmfnhlimkaaDoor.intS

/-
  A block of one value that has just been made.
-/
namespace Go.Proofs.YtjfimmfnhlimkaaDoor.fold
open Go Go.RowKit sl

theorem one_newI (w : World) (v : Value) (T : TypeId) : ∀ (j : Nat) u, [v][j]? = some u → (w.alloc (.cells #[v] T)).cell? ((⟨w.heap.size, 0, none⟩ : Addr).add j) = some u := by
  intro j x hj
  rw [add_lit, cell_of_row _ _ _ _ _ _ (heap_alloc_new w _)]
  simpa using hj
theorem one_newB (w : World) (g : Nat) (v : Value) (T : TypeId) (hg : g = w.heap.size) : ∀ (j : Nat) u, [v][j]? = some u → (w.alloc (.cells #[v] T)).cell? ((⟨g, 0, none⟩ : Addr).add j) = some u := by
  subst hg
  exact one_newI w v T
theorem one_cellI {v : Value} (h : v.oneCell' = true) : ∀ u ∈ [v], u.oneCell' = true := by
  intro u hu
  rw [List.mem_singleton.1 hu]
  exact h
theorem flat_snoc (xs : List Int) (n : Int) : (xs ++ [n]).flatMap intS.C = xs.flatMap intS.C ++ [.int .i64 n] := by simp [intS.C]
end Go.Proofs.YtjfimmfnhlimkaaDoor.fold

/-
  Cloth: its contracts: copied, held against another one, counted.
-/
namespace Go.Proofs.YtjfimmfnhlimkaaDoor
open Go.RowKit

/-- the numbers of a Cloth -/
structure Clo where
  wide : Int
  heavy : Int

/-- they are in the range of their kinds -/
structure Clo.Fits (x : Clo) : Prop where
  wide0 : -32768 ≤ x.wide
  wide1 : x.wide ≤ 32767
  heavy0 : -32768 ≤ x.heavy
  heavy1 : x.heavy ≤ 32767
abbrev Clo.cells (x : Clo) : List Value := [.int .i16 x.wide, .int .i16 x.heavy]
abbrev Clo.v (x : Clo) : Value := .agg #[.int .i16 x.wide, .int .i16 x.heavy]
theorem Clo.len (xs : List Clo) : ∀ x ∈ xs, (Clo.cells x).length = 2 := fun _ _ => rfl
/-- are two equal -/
def Clo.eq (x y : Clo) : Bool := x.wide == y.wide && (x.heavy == y.heavy)
theorem Clo.eq_iff (x y : Clo) : Clo.eq x y = true ↔ x = y := by
  cases x
  cases y
  simp [Clo.eq]
end Go.Proofs.YtjfimmfnhlimkaaDoor
namespace Go.Proofs.YtjfimmfnhlimkaaDoor.cloS
open Go.RowKit sl

theorem at_ {w : World} {p : Addr} {x : Clo} (h : At w p x.cells) :
    w.cell? p = some (.int .i16 x.wide) ∧ w.cell? ⟨p.block, p.off + 1, none⟩ = some (.int .i16 x.heavy) :=
  ⟨h 0 _ rfl, h 1 _ rfl⟩

set_option maxHeartbeats 1000000 in
theorem to_any (x : Clo) (w : World) :
    Calls Tryd.prog 92 #[x.v] w fun e w' => e = .returned x.v ∧ Below w.heap.size w w' := by
  go_enter Tryd.func92, Tryd.ntmps92
  go_wp2
  refine bodyPost_ret (v := x.v) (by simp [results, Tryd.results92, go_sem]) rfl ⟨rfl, ?_⟩
  repeat (first | exact Below.refl _ _ | assumption | apply Below.drew | (refine Below.alloc ?_ (by first | (simp; done) | (simp; omega) | omega) _) | (refine Below.setCell ?_ (by first | (simp; done) | (simp; omega) | omega) _))
theorem to_parts (wide heavy : Int) (w : World) :
    Calls Tryd.prog 92 #[.agg #[.int .i16 wide, .int .i16 heavy]] w fun e w' => e = .returned (.agg #[.int .i16 wide, .int .i16 heavy]) ∧ Below w.heap.size w w' := to_any ⟨wide, heavy⟩ w

theorem info : (Tryd.prog.info? 136).map (fun i => (i.zero, i.size, i.bytes)) = some (some (.agg #[.int .i16 0, .int .i16 0]), 2, 4) := by kernel_rfl

set_option maxHeartbeats 2000000 in
theorem toS_any (A : Option Addr) (c : Nat) (xs : List Clo) (hn : xs.length ≤ 1048576) (w : World) (hg : Sl Clo.cells 2 w w.heap.size A xs) :
    Calls Tryd.prog 40 #[.slice A xs.length c] w fun e w' => ∃ g, e = .returned (.slice (some ⟨g, 0, none⟩) xs.length xs.length) ∧
      w'.ownsRow w.heap.size 136 2 (.slice (some ⟨g, 0, none⟩) xs.length xs.length) xs.length (xs.flatMap Clo.cells) ∧ Below w.heap.size w w' := by
  obtain ⟨i0, hi, hz0, hz1, hz2⟩ := info_parts info
  obtain ⟨n, en⟩ : ∃ n, n = xs.length := ⟨_, rfl⟩
  rw [← en] at hn ⊢
  have En := Lib.hid en
  clear en
  have hmk : ∀ u : World, (Instr.makeSlice 59 (.int .i64 (n : Int)) (.int .i64 (n : Int))).run Tryd.prog u =
      .ok (.slice (some ⟨u.heap.size, 0, none⟩) n n) (u.alloc (.cells (madeCells #[.int .i16 0, .int .i16 0] (n * 2)) 136)) := fun u => by
    have h := run_make (P := Tryd.prog) u 59 136 i0 _ Tryd.underlying59 hi hz0 .i64 .i64 (n : Int) (n : Int) (by omega) (Int.le_refl _) (by rw [hz2]; omega) (by omega)
    have e : ((n : Int)).toNat = n := by omega
    rw [e] at h
    simpa [hz1, Value.cells] using h
  go_enter Tryd.func40, Tryd.ntmps40
  have hB0 : Below w.heap.size w (w.alloc (.cells (madeCells #[.int .i16 0, .int .i16 0] (n * 2)) 136)) := (Below.refl _ _).alloc (Nat.le_refl _) _
  have hP0 : (w.alloc (.cells (madeCells #[.int .i16 0, .int .i16 0] (n * 2)) 136)).ownsRow w.heap.size 136 2 (.slice (some ⟨w.heap.size, 0, none⟩) n n) n _ :=
    World.ownsRow_lit w (madeCells #[.int .i16 0, .int .i16 0] (n * 2)) n (Nat.le_refl _) (by unfold maxLen; omega) (size_madeCells _ _)
  have HP0 := Lib.hid hP0
  clear hP0
  go_wp2_with fail
  go_loopw [4] (fun vi wr => ∃ k L, k ≤ n ∧ vi = .int .i64 (k : Nat) ∧ wr.ownsRow w.heap.size 136 2 (.slice (some ⟨w.heap.size, 0, none⟩) n n) n L ∧ Done Clo.cells 2 xs k L ∧ Below w.heap.size w wr) (fun vi _ => n - (intOf vi).toNat)
  case atStart => exact ⟨0, _, by omega, rfl, HP0.out, Done.zero _ _ _ _, hB0⟩
  case round =>
    clear hB0 HP0
    obtain ⟨k, L, hk, rfl, hP, hD, hB⟩ := hrel
    by_cases hlt : k < n
    · have hl := En.out
      obtain ⟨x, hx⟩ : ∃ x, xs[k]? = some x := ⟨xs[k], List.getElem?_eq_getElem (by omega)⟩
      clear hl
      obtain ⟨a, rfl, hab, hat⟩ := (hg.below hB).at_ k x hx
      obtain ⟨hg0, hg1⟩ := at_ hat
      have HX := Lib.hid hx
      have HA := Lib.hid hat
      have HD := Lib.hid hD
      clear hx hat hD
      go_wp2_with fail
      refine (to_any x _).mono ?_
      rintro e w2 ⟨rfl, hb2⟩
      have hP2 := owns_next hP hb2
      have hB2 := hB.trans (hb2.mono hB.size)
      clear hg0 hg1 hb2
      have hLL := hP2.1

      obtain ⟨v0, s0⟩ : ∃ v, w2.cell? ⟨w.heap.size, k * 2, none⟩ = some v := ⟨L[k * 2]'(by omega), (hP2.cellAt (k * 2) (by omega)).trans (List.getElem?_eq_getElem _)⟩
      have f0 := hP2.frozenAt (k * 2)
      obtain ⟨v1, s1⟩ : ∃ v, w2.cell? ⟨w.heap.size, k * 2 + 1, none⟩ = some v := ⟨L[k * 2 + 1]'(by omega), (hP2.cellAt (k * 2 + 1) (by omega)).trans (List.getElem?_eq_getElem _)⟩
      have f1 := hP2.frozenAt (k * 2 + 1)
      have HLL := Lib.hid hLL
      clear hLL
      have HP2 := Lib.hid hP2
      clear hP2 hP
      go_wp2_with fail
      go_roundw
      case rel =>
        have hP3 := (owns_cells (o := k * 2) (vs := x.cells) HP2.out).1
        exact ⟨k + 1, _, by omega, by go_num, hP3, HD.out.step (Clo.len xs) HX.out (by rw [HLL.out, En.out]), below_cells hB2 (Nat.le_refl _) x.cells (k * 2)⟩
      case measure => simp [intOf]; omega
    · go_wp2_with fail
      obtain rfl : k = n := by omega
      go_ret
      have hl := En.out
      have e : L = xs.flatMap Clo.cells := Done.full (by rw [← hl]; exact hD) (Clo.len xs) (by omega) (by rw [hP.1, hl])
      rw [← e]
      exact ⟨_, rfl, hP, hB⟩

set_option maxHeartbeats 1000000 in
theorem eq_any (x y : Clo) (w : World) :
    Calls Tryd.prog 95 #[x.v, y.v] w fun e w' => e = .returned (.bool (Clo.eq x y)) ∧ Below w.heap.size w w' := by
  go_enter Tryd.func95, Tryd.ntmps95
  go_wp2_with fail
  all_goals go_ret
  all_goals exact ⟨ret_bool (by simp only [Clo.eq]; first | (simp [*]; done) | (simp_all; done)), ((Below.refl _ _).alloc (Nat.le_refl _) _).alloc (by simp) _⟩

abbrev Both (p p' : Addr) (x y : Clo) (W u : World) : Prop :=
  u.cell? p = some (.int .i16 x.wide) ∧ u.cell? ⟨p.block, p.off + 1, none⟩ = some (.int .i16 x.heavy) ∧ u.cell? p' = some (.int .i16 y.wide) ∧ u.cell? ⟨p'.block, p'.off + 1, none⟩ = some (.int .i16 y.heavy) ∧ Below W.heap.size W u
theorem Both.next {p p' : Addr} {x y : Clo} {W u v : World} (h : Both p p' x y W u) (hp : p.block < W.heap.size) (hp' : p'.block < W.heap.size) (hb : Below u.heap.size u v) : Both p p' x y W v := by
  obtain ⟨h0, h1, h2, h3, hB⟩ := h
  have hs := hB.size
  have k := hb.mono hs
  exact ⟨(k.cell (p := p) hp).trans h0, (k.cell (p := ⟨p.block, p.off + 1, none⟩) hp).trans h1, (k.cell (p := p') hp').trans h2, (k.cell (p := ⟨p'.block, p'.off + 1, none⟩) hp').trans h3, hB.trans k⟩
theorem Both.below {p p' : Addr} {x y : Clo} {W u : World} (h : Both p p' x y W u) : Below W.heap.size W u := h.2.2.2.2

set_option maxHeartbeats 4000000 in
theorem eqS_any (A A' : Option Addr) (n n' c c' : Nat) (xs ys : List Clo) (en : n = xs.length) (en' : n' = ys.length) (hn : n ≤ 1048576) (hn' : n' ≤ 9223372036854775807) (w : World) (hg : Sl Clo.cells 2 w w.heap.size A xs) (hg' : Sl Clo.cells 2 w w.heap.size A' ys) (b : Bool) (hb : b = true ↔ xs = ys) :
    Calls Tryd.prog 42 #[.slice A n c, .slice A' n' c'] w fun e w' => e = .returned (.bool b) ∧ Below w.heap.size w w' := by
  have En := Lib.hid en
  have En' := Lib.hid en'
  have Hb := Lib.hid hb
  clear en en' hb
  by_cases hlen : n = n'
  · subst hlen
    go_enter Tryd.func42, Tryd.ntmps42
    go_wp2_with fail
    go_loopw [5] (fun vi wr => ∃ k : Nat, k ≤ n ∧ vi = .int .i64 k ∧ (∀ i, i < k → xs[i]? = ys[i]?) ∧ Below w.heap.size w wr) (fun vi _ => n - (intOf vi).toNat)
    case atStart => exact ⟨0, by omega, rfl, fun i hi => absurd hi (by omega), Below.refl _ _⟩
    case round =>
      obtain ⟨k, hk, rfl, hsame, hB⟩ := hrel
      by_cases hlt : k < n
      · obtain ⟨x, hx⟩ : ∃ x, xs[k]? = some x := ⟨xs[k]'(by have := En.out; omega), List.getElem?_eq_getElem _⟩
        obtain ⟨y, hy⟩ : ∃ y, ys[k]? = some y := ⟨ys[k]'(by have := En'.out; omega), List.getElem?_eq_getElem _⟩
        obtain ⟨a, rfl, hab, hat⟩ := (hg.below hB).at_ k x hx
        obtain ⟨a', rfl, hab', hat'⟩ := (hg'.below hB).at_ k y hy
        obtain ⟨q0, q1⟩ := at_ hat
        obtain ⟨r0, r1⟩ := at_ hat'
        have HX := Lib.hid hx
        have HY := Lib.hid hy
        have hp : (a.add (k * 2)).block < w.heap.size := by rw [block_add]; exact hab
        have hp' : (a'.add (k * 2)).block < w.heap.size := by rw [block_add]; exact hab'
        have h8 : Both (a.add (k * 2)) (a'.add (k * 2)) x y w wr := ⟨q0, q1, r0, r1, hB⟩
        have H8 := Lib.hid h8
        clear h8 hx hy hat hat'
        go_wp2_with fail
        go_region_held3 (fun u => u.cell? (a.add (k * 2)) = some (.int .i16 x.wide) ∧ u.cell? ⟨(a.add (k * 2)).block, (a.add (k * 2)).off + 1, none⟩ = some (.int .i16 x.heavy) ∧ u.cell? (a'.add (k * 2)) = some (.int .i16 y.wide) ∧ u.cell? ⟨(a'.add (k * 2)).block, (a'.add (k * 2)).off + 1, none⟩ = some (.int .i16 y.heavy) ∧ Below w.heap.size w u)
          (first | exact H8.out.next hp hp' (below_drewN _ wr 1) | exact Both.next (by assumption) hp hp' hb2)
          (first | (go_at_call 95; refine (eq_any x y _).mono ?_; rintro e w2 ⟨rfl, hb2⟩) | fail)
        go_wp2_with fail
        · have hno : (!Clo.eq x y) = true := by assumption
          go_ret
          refine ⟨ret_bool ?_, Both.below (p := a.add (k * 2)) (p' := a'.add (k * 2)) (x := x) (y := y) (by assumption)⟩
          cases hbb : b with
          | false => rfl
          | true =>
            have he := Hb.out.1 hbb
            have h1 := HX.out
            rw [he, HY.out] at h1
            have h2 : Clo.eq x y = true := (Clo.eq_iff x y).2 (Option.some.inj h1).symm
            rw [h2] at hno
            cases hno
        · have hno : (!Clo.eq x y) = false := by assumption
          have he : x = y := (Clo.eq_iff x y).1 (by simpa using hno)
          clear hno
          go_roundw
          case rel => exact ⟨k + 1, by omega, by go_num, fun i hi => by
            rcases Nat.lt_or_ge i k with h1 | h1
            · exact hsame i h1
            · obtain rfl : i = k := by omega
              rw [HX.out, HY.out, he], Both.below (p := a.add (k * 2)) (p' := a'.add (k * 2)) (x := x) (y := y) (by assumption)⟩
          case measure => simp [intOf]; omega
      · go_wp2_with fail
        go_ret
        refine ⟨ret_bool ?_, hB⟩
        exact (Hb.out.2 (lists_eq En.out En'.out fun i hi => hsame i (by omega))).symm
  · have hno : b = false := by
      cases hbb : b with
      | false => rfl
      | true => exact absurd ((En.out.trans (congrArg List.length (Hb.out.1 hbb))).trans En'.out.symm) hlen
    subst hno
    have hl : ((n : Int) != (n' : Int)) = true := by rw [bne_iff_ne]; omega
    clear hlen
    go_enter Tryd.func42, Tryd.ntmps42
    go_wp2_with fail
    go_ret
    exact ⟨rfl, Below.refl _ _⟩
set_option maxHeartbeats 1000000 in
/-- how many are left -/
theorem szS_any (A : Option Addr) (n c : Nat) (left : Int) (hn : n ≤ 9223372036854775807) (hl : 0 ≤ left ∧ left ≤ 1048576) (w : World) :
    Calls Tryd.prog 38 #[.slice A n c, .int .i64 left] w fun e w' => e = .returned (.int .i64 (if left - n < 0 then -1 else left - n)) ∧ w = w' := by
  go_enter Tryd.func38, Tryd.ntmps38
  go_wp2_with fail
  all_goals go_ret
  all_goals exact ⟨rfl, rfl⟩
end Go.Proofs.YtjfimmfnhlimkaaDoor.cloS

/-
  Line: its contracts: copied, held against another one, counted.
-/
namespace Go.Proofs.YtjfimmfnhlimkaaDoor
open Go.RowKit

/-- the numbers of a Line -/
structure Lin where
  long : Int
  most : Int

/-- they are in the range of their kinds -/
structure Lin.Fits (x : Lin) : Prop where
  long0 : -32768 ≤ x.long
  long1 : x.long ≤ 32767
  most0 : -32768 ≤ x.most
  most1 : x.most ≤ 32767
abbrev Lin.cells (x : Lin) : List Value := [.int .i16 x.long, .int .i16 x.most]
abbrev Lin.v (x : Lin) : Value := .agg #[.int .i16 x.long, .int .i16 x.most]
theorem Lin.len (xs : List Lin) : ∀ x ∈ xs, (Lin.cells x).length = 2 := fun _ _ => rfl
/-- are two equal -/
def Lin.eq (x y : Lin) : Bool := x.long == y.long && (x.most == y.most)
theorem Lin.eq_iff (x y : Lin) : Lin.eq x y = true ↔ x = y := by
  cases x
  cases y
  simp [Lin.eq]
end Go.Proofs.YtjfimmfnhlimkaaDoor
namespace Go.Proofs.YtjfimmfnhlimkaaDoor.linS
open Go.RowKit sl

theorem at_ {w : World} {p : Addr} {x : Lin} (h : At w p x.cells) :
    w.cell? p = some (.int .i16 x.long) ∧ w.cell? ⟨p.block, p.off + 1, none⟩ = some (.int .i16 x.most) :=
  ⟨h 0 _ rfl, h 1 _ rfl⟩




end Go.Proofs.YtjfimmfnhlimkaaDoor.linS

/-
  Cloths on a line, in plain words: which neighbours share a peg, where each one hangs, how many pegs are needed, how a line sags; no program in it.
-/
namespace Go.Proofs.YtjfimmfnhlimkaaDoor.hang
open Go.RowKit

def Clo.valid (x : Clo) : Bool := decide (4 ≤ x.wide) && (decide (x.wide ≤ 200) && (decide (1 ≤ x.heavy) && decide (x.heavy ≤ 500)))
def Lin.valid (x : Lin) : Bool := decide (4 ≤ x.long) && (decide (x.long ≤ 2000) && (decide (1 ≤ x.most) && decide (x.most ≤ 2000)))
theorem clo_parts {x : Clo} (h : Clo.valid x = true) : 4 ≤ x.wide ∧ x.wide ≤ 200 ∧ 1 ≤ x.heavy ∧ x.heavy ≤ 500 := by
  simpa [Clo.valid, and_assoc] using h
theorem lin_parts {x : Lin} (h : Lin.valid x = true) : 4 ≤ x.long ∧ x.long ≤ 2000 ∧ 1 ≤ x.most ∧ x.most ≤ 2000 := by
  simpa [Lin.valid, and_assoc] using h
/-- do two neighbours share a peg -/
def shares (a b : Clo) : Bool := decide (a.heavy + b.heavy ≤ 120)
def gapOf : Option Clo → Clo → Int
  | none, _ => 0
  | some p, c => if shares p c = true then -2 else 1
def pegOf : Option Clo → Clo → Int
  | none, _ => 2
  | some p, c => if shares p c = true then 1 else 2
/-- what hangs: the last one, where it ends, where each one begins, how many pegs -/
structure Hung where
  last : Option Clo
  fin : Int
  places : List Int
  pegs : Int
def Hung.place (h : Hung) (c : Clo) : Int := h.fin + gapOf h.last c
def Hung.step (h : Hung) (c : Clo) : Hung := ⟨some c, h.place c + c.wide, h.places ++ [h.place c], h.pegs + pegOf h.last c⟩
def Hung.none : Hung := ⟨Option.none, 0, [], 0⟩
def hung (xs : List Clo) : Hung := xs.foldl Hung.step Hung.none
theorem hung_nil : hung [] = Hung.none := rfl
theorem hung_snoc (xs : List Clo) (c : Clo) : hung (xs ++ [c]) = (hung xs).step c := by simp [hung]
theorem hung_take {xs : List Clo} {k : Nat} {x : Clo} (hx : xs[k]? = some x) : hung (xs.take (k + 1)) = (hung (xs.take k)).step x := by rw [take_snoc hx, hung_snoc]
theorem snoc_ind {α : Type} {P : List α → Prop} (h0 : P []) (h1 : ∀ xs x, P xs → P (xs ++ [x])) (xs : List α) : P xs := by
  have : ∀ ys : List α, P ys.reverse := fun ys => by
    induction ys with
    | nil => exact h0
    | cons y r ih => rw [List.reverse_cons]; exact h1 _ _ ih
  rw [← List.reverse_reverse xs]
  exact this _
theorem hung_last (xs : List Clo) : (hung xs).last = xs.getLast? := by
  induction xs using snoc_ind with
  | h0 => rfl
  | h1 xs x _ => rw [hung_snoc]; simp [Hung.step]
theorem hung_len (xs : List Clo) : (hung xs).places.length = xs.length := by
  induction xs using snoc_ind with
  | h0 => rfl
  | h1 xs x ih => rw [hung_snoc]; simp [Hung.step, ih]
theorem gap_bd (p : Option Clo) (c : Clo) : -2 ≤ gapOf p c ∧ gapOf p c ≤ 1 := by
  cases p with
  | none => simp only [gapOf]; omega
  | some p => simp only [gapOf]; split <;> omega
theorem peg_bd (p : Option Clo) (c : Clo) : 1 ≤ pegOf p c ∧ pegOf p c ≤ 2 := by
  cases p with
  | none => simp only [pegOf]; omega
  | some p => simp only [pegOf]; split <;> omega
theorem hung_bd (xs : List Clo) (hv : ∀ x ∈ xs, Clo.valid x = true) : 0 ≤ (hung xs).fin ∧ (hung xs).fin ≤ 201 * xs.length ∧ (xs ≠ [] → 4 ≤ (hung xs).fin) ∧ 0 ≤ (hung xs).pegs ∧ (hung xs).pegs ≤ 2 * xs.length := by
  induction xs using snoc_ind with
  | h0 => exact ⟨by decide, by decide, fun h => absurd rfl h, by decide, by decide⟩
  | h1 xs x ih =>
    obtain ⟨h0, h1, h2, h3, h4⟩ := ih (fun y hy => hv y (List.mem_append_left _ hy))
    obtain ⟨w0, w1, _, _⟩ := clo_parts (hv x (by simp))
    have g := gap_bd (hung xs).last x
    have p := peg_bd (hung xs).last x
    have e : ((xs ++ [x]).length : Int) = xs.length + 1 := by simp
    have e2 : (hung (xs ++ [x])).fin = (hung xs).fin + gapOf (hung xs).last x + x.wide := by rw [hung_snoc]; rfl
    have e3 : (hung (xs ++ [x])).pegs = (hung xs).pegs + pegOf (hung xs).last x := by rw [hung_snoc]; rfl
    rw [e2, e3, e]
    have h4' : 4 ≤ (hung xs).fin + gapOf (hung xs).last x + x.wide := by
      by_cases hx : xs = []
      · subst hx
        have : gapOf (hung []).last x = 0 := rfl
        have f0 : (hung []).fin = 0 := rfl
        rw [this, f0]
        omega
      · have := h2 hx
        omega
    exact ⟨by omega, by omega, fun _ => h4', by omega, by omega⟩
theorem place_bd (xs : List Clo) (hv : ∀ x ∈ xs, Clo.valid x = true) (c : Clo) : 0 ≤ (hung xs).place c ∧ (hung xs).place c ≤ 201 * xs.length + 1 := by
  obtain ⟨h0, h1, h2, _, _⟩ := hung_bd xs hv
  have g := gap_bd (hung xs).last c
  unfold Hung.place
  by_cases hx : xs = []
  · subst hx
    have : gapOf (hung []).last c = 0 := rfl
    rw [this]
    omega
  · have := h2 hx
    omega
def heavyOf (xs : List Clo) : Int := xs.foldl (fun s c => s + c.heavy) 0
theorem heavy_snoc (xs : List Clo) (c : Clo) : heavyOf (xs ++ [c]) = heavyOf xs + c.heavy := by simp [heavyOf]
theorem heavy_take {xs : List Clo} {k : Nat} {x : Clo} (hx : xs[k]? = some x) : heavyOf (xs.take (k + 1)) = heavyOf (xs.take k) + x.heavy := by rw [take_snoc hx, heavy_snoc]
theorem heavy_bd (xs : List Clo) (hv : ∀ x ∈ xs, x.Fits) : -32768 * xs.length ≤ heavyOf xs ∧ heavyOf xs ≤ 32767 * xs.length := by
  induction xs using snoc_ind with
  | h0 => exact ⟨by decide, by decide⟩
  | h1 xs x ih =>
    obtain ⟨h0, h1⟩ := ih (fun y hy => hv y (List.mem_append_left _ hy))
    have hf := hv x (by simp)
    have := hf.heavy0
    have := hf.heavy1
    have e : ((xs ++ [x]).length : Int) = xs.length + 1 := by simp
    rw [heavy_snoc, e]
    omega
/-- do cloths fit on a line -/
def fitsB (l : Lin) (xs : List Clo) : Bool := decide ((hung xs).fin ≤ l.long) && decide (heavyOf xs ≤ l.most)
/-- the code of cloths of which there are at most so many -/
def codeMany (xs : List Clo) (most : Nat) : Nat := if xs.all Clo.valid = true then (if most < xs.length then 3 else 0) else 1
end Go.Proofs.YtjfimmfnhlimkaaDoor.hang

/-
  Contracts of the functions on one cloth, one line, or the validity of a list of cloths.
-/
namespace Go.Proofs.YtjfimmfnhlimkaaDoor.hang
open Go.RowKit sl

/-- is a number between two -/
def inB (n lo hi : Int) : Bool := decide (lo ≤ n) && decide (n ≤ hi)
theorem inB_iff {n lo hi : Int} : inB n lo hi = true ↔ lo ≤ n ∧ n ≤ hi := by simp [inB]
theorem clo_in (x : Clo) : Clo.valid x = (inB x.wide 4 200 && inB x.heavy 1 500) := by simp [Clo.valid, inB, Bool.and_assoc]
theorem lin_in (x : Lin) : Lin.valid x = (inB x.long 4 2000 && inB x.most 1 2000) := by simp [Lin.valid, inB, Bool.and_assoc]

theorem l00In_any (n lo hi : Int) (w : World) :
    Calls Tryd.prog 121 #[.int .i64 n, .int .i64 lo, .int .i64 hi] w fun o w' => o = .returned (.bool (inB n lo hi)) ∧ w = w' := by
  go_enter Tryd.func121, Tryd.ntmps121
  go_wp2_with fail
  all_goals go_ret
  all_goals exact ⟨ret_bool (by first | (simp [inB, *]; done) | (simp [inB]; omega)), rfl⟩
theorem l00In_b (n lo hi : Int) (b : Bool) (hb : inB n lo hi = b) (w : World) :
    Calls Tryd.prog 121 #[.int .i64 n, .int .i64 lo, .int .i64 hi] w fun o w' => o = .returned (.bool b) ∧ w = w' := by
  subst hb
  exact l00In_any n lo hi w

set_option maxHeartbeats 1000000 in
theorem valid_any (x : Clo) (hx : x.Fits) (w : World) :
    Calls Tryd.prog 160 #[x.v] w fun e w' => e = .returned (.bool (Clo.valid x)) ∧ Below w.heap.size w w' := by
  obtain ⟨p, q⟩ := x
  obtain ⟨a0, a1, a2, a3⟩ := hx
  simp only at a0 a1 a2 a3
  go_enter Tryd.func160, Tryd.ntmps160
  go_wp2
  all_goals go_ret
  all_goals refine ⟨ret_bool (by first | (simp [Clo.valid, *]; done) | (simp [Clo.valid]; omega)), ?_⟩
  all_goals repeat (first | exact Below.refl _ _ | assumption | apply Below.drew | (refine Below.alloc ?_ (by first | (simp; done) | (simp; omega) | omega) _) | (refine Below.setCell ?_ (by first | (simp; done) | (simp; omega) | omega) _))
set_option maxHeartbeats 2000000 in
theorem ValidCloths_any (A : Option Addr) (n c : Nat) (xs : List Clo) (en : n = xs.length) (hn : n ≤ 9223372036854775807) (hf : ∀ x ∈ xs, x.Fits) (w : World) (hg : Sl Clo.cells 2 w w.heap.size A xs) :
    Calls Tryd.prog 133 #[.slice A n c] w fun e w' => e = .returned (.bool (xs.all Clo.valid)) ∧ Below w.heap.size w w' := by
  have En := Lib.hid en
  clear en
  go_enter Tryd.func133, Tryd.ntmps133
  go_wp2_with fail
  go_loopw [7, 4] (fun vi _ wr => ∃ k : Nat, k ≤ n ∧ vi = .int .i64 k ∧ (∀ i x, i < k → xs[i]? = some x → Clo.valid x = true) ∧ Below w.heap.size w wr) (fun vi _ _ => n - (intOf vi).toNat)
  case atStart => exact ⟨0, by omega, rfl, fun i x hi => absurd hi (by omega), Below.refl _ _⟩
  case round =>
    obtain ⟨k, hk, rfl, hval, hB⟩ := hrel
    by_cases hlt : k < n
    · obtain ⟨x, hx⟩ : ∃ x, xs[k]? = some x := ⟨xs[k]'(by have := En.out; omega), List.getElem?_eq_getElem _⟩
      obtain ⟨a, rfl, hab, hat⟩ := (hg.below hB).at_ k x hx
      obtain ⟨q0, q1⟩ := cloS.at_ hat
      have hxf : x.Fits := hf x (List.mem_of_getElem? hx)
      have HX := Lib.hid hx
      clear hx hat
      cases hv : Clo.valid x with
      | true =>
        have HV := Lib.hid hv
        clear hv
        go_wp2_with fail
        refine (valid_any x hxf _).mono ?_
        rintro o w2 ⟨rfl, hb2⟩
        rw [HV.out]
        have H2 := (hB.alloc hB.size _).trans (hb2.mono (by have := hB.size; simp; omega))
        clear q0 q1 hb2
        go_wp2_with fail
        go_roundw
        case rel => exact ⟨k + 1, by omega, by go_num, fun i y hi hy => by
          rcases Nat.lt_or_ge i k with h1 | h1
          · exact hval i y h1 hy
          · obtain rfl : i = k := by omega
            have := HX.out
            rw [hy] at this
            rw [Option.some.inj this]
            exact HV.out, H2⟩
        case measure => simp [intOf]; omega
      | false =>
        have HV := Lib.hid hv
        clear hv
        go_wp2_with fail
        refine (valid_any x hxf _).mono ?_
        rintro o w2 ⟨rfl, hb2⟩
        rw [HV.out]
        have H2 := (hB.alloc hB.size _).trans (hb2.mono (by have := hB.size; simp; omega))
        clear q0 q1 hb2
        go_wp2_with fail
        go_ret
        exact ⟨ret_bool (all_not HX.out HV.out).symm, H2⟩
    · go_wp2_with fail
      go_ret
      exact ⟨ret_bool (all_of_idx fun i x hi hx => hval i x (by have := En.out; omega) hx).symm, hB⟩
set_option maxHeartbeats 2000000 in
theorem l02Cloths_any (A : Option Addr) (n c : Nat) (xs : List Clo) (en : n = xs.length) (hn : n ≤ 9223372036854775807) (hf : ∀ x ∈ xs, x.Fits) (w : World) (B : Nat) (hg : Sl Clo.cells 2 w B A xs) :
    Calls Tryd.prog 132 #[.slice A n c] w fun e w' => e = .returned (.bool (xs.all Clo.valid)) ∧ w = w' := by
  have En := Lib.hid en
  clear en
  go_enter Tryd.func132, Tryd.ntmps132
  go_wp2_with fail
  go_loop [3] (fun vi => ∃ k : Nat, k ≤ n ∧ vi = .int .i64 k ∧ (∀ i x, i < k → xs[i]? = some x → Clo.valid x = true)) (fun vi => n - (intOf vi).toNat)
  case atStart => exact ⟨0, by omega, rfl, fun i x hi => absurd hi (by omega)⟩
  case round =>
    obtain ⟨k, hk, rfl, hval⟩ := hrel
    by_cases hlt : k < n
    · obtain ⟨x, hx⟩ : ∃ x, xs[k]? = some x := ⟨xs[k]'(by have := En.out; omega), List.getElem?_eq_getElem _⟩
      obtain ⟨a, rfl, hab, hat⟩ := hg.at_ k x hx
      obtain ⟨q0, q1⟩ := cloS.at_ hat
      obtain ⟨x0, x1, x2, x3⟩ := hf x (List.mem_of_getElem? hx)
      have HX := Lib.hid hx
      clear hx hat
      cases h1 : inB x.wide 4 200 with
      | true =>
        have H1 := Lib.hid h1
        clear h1
        cases h2 : inB x.heavy 1 500 with
        | true =>
          have H2 := Lib.hid h2
          clear h2
          go_wp2_with fail
          refine (l00In_b _ _ _ true H1.out _).mono ?_
          rintro o w2 ⟨rfl, rfl⟩
          go_wp2_with fail
          refine (l00In_b _ _ _ true H2.out _).mono ?_
          rintro o w2 ⟨rfl, rfl⟩
          go_wp2_with fail
          go_round
          case rel => exact ⟨k + 1, by omega, by go_num, fun i y hi hy => by
            rcases Nat.lt_or_ge i k with h1 | h1
            · exact hval i y h1 hy
            · obtain rfl : i = k := by omega
              have := HX.out
              rw [hy] at this
              rw [Option.some.inj this, clo_in, H1.out, H2.out]
              rfl⟩
          case measure => simp [intOf]; omega
        | false =>
          have H2 := Lib.hid h2
          clear h2
          go_wp2_with fail
          refine (l00In_b _ _ _ true H1.out _).mono ?_
          rintro o w2 ⟨rfl, rfl⟩
          go_wp2_with fail
          refine (l00In_b _ _ _ false H2.out _).mono ?_
          rintro o w2 ⟨rfl, rfl⟩
          go_wp2_with fail
          go_ret
          exact ⟨ret_bool (all_not HX.out (by rw [clo_in, H1.out, H2.out]; rfl)).symm, rfl⟩
      | false =>
        have H1 := Lib.hid h1
        clear h1
        go_wp2_with fail
        refine (l00In_b _ _ _ false H1.out _).mono ?_
        rintro o w2 ⟨rfl, rfl⟩
        go_wp2_with fail
        go_ret
        exact ⟨ret_bool (all_not HX.out (by rw [clo_in, H1.out]; rfl)).symm, rfl⟩
    · go_wp2_with fail
      go_ret
      exact ⟨ret_bool (all_of_idx fun i x hi hx => hval i x (by have := En.out; omega) hx).symm, rfl⟩
end Go.Proofs.YtjfimmfnhlimkaaDoor.hang

/-
  Cloth: the program's structs are compared field by field.
-/
namespace Go.Proofs.YtjfimmfnhlimkaaDoor.cloS
open Go.RowKit sl

theorem eqFields_step {P : Program} {d : Nat} {xs ys : Array Value} {f : Field} {fs : List Field} {w : World} {a b : Value} {r : Bool} (hn : f.name ≠ "_") (ha : (part f.type xs f.offset).run P w = .ok a w)
    (hb : (part f.type ys f.offset).run P w = .ok b w) (hr : (Op.equalIn d f.type a b).run P w = .ok r w) :
    (Op.eqFields d xs ys (f :: fs)).run P w = if r = true then (Op.eqFields d xs ys fs).run P w else .ok false w := by
  rw [Op.eqFields, if_pos hn]
  simp only [Sem.run_bind, ha, hb, hr, Result.andThen_ok]
  cases r <;> simp

theorem fieldsI : Tryd.prog.underlying 136 = some (.struct (Tryd.prog.fieldsOf 136)) := by kernel_rfl
theorem stoodI : Tryd.prog.stoodInHeld 136 = false := by kernel_rfl
theorem guardI : Tryd.prog.eqGuardType Tryd.prog.depth 136 = false := by kernel_rfl
abbrev fldI0 : Field := { name := "Wide", type := 67, offset := 0, embedded := false, tag := "", pkgPath := "", byteOffset := 0 }
abbrev fldI1 : Field := { name := "Heavy", type := 67, offset := 1, embedded := false, tag := "", pkgPath := "", byteOffset := 2 }
theorem listI : (Tryd.prog.fieldsOf 136).toList = [fldI0, fldI1] := by kernel_rfl
theorem partI0 (x : Clo) (w : World) : (part 67 #[.int .i16 x.wide, .int .i16 x.heavy] 0).run Tryd.prog w = .ok (.int .i16 x.wide) w := by kernel_rfl
theorem partI1 (x : Clo) (w : World) : (part 67 #[.int .i16 x.wide, .int .i16 x.heavy] 1).run Tryd.prog w = .ok (.int .i16 x.heavy) w := by kernel_rfl
theorem equalIn_any (d : Nat) (x y : Clo) (w : World) : (Op.equalIn (d + 2) 136 x.v y.v).run Tryd.prog w = .ok (Clo.eq x y) w := by
  rw [run_equalIn_agg w (d + 1) 136 _ _ fieldsI stoodI, listI]
  rw [eqFields_step (f := fldI0) (by decide) (partI0 x w) (partI0 y w) (run_equalIn_int w d 67 .i16 .i16 x.wide y.wide Tryd.underlying67)]
  rw [eqFields_step (f := fldI1) (by decide) (partI1 x w) (partI1 y w) (run_equalIn_int w d 67 .i16 .i16 x.heavy y.heavy Tryd.underlying67)]
  unfold Clo.eq
  cases x.wide == y.wide <;> cases x.heavy == y.heavy <;> simp [Op.eqFields]

theorem run_eql (x y : Clo) (w : World) : (binOp .eql 136 x.v y.v).run Tryd.prog w = .ok (.bool (Clo.eq x y)) w := by
  have e : (10000 : Nat) = 9998 + 2 := by decide
  rw [run_eql_struct, e, equalIn_any 9998 x y w, Result.andThen_ok]
theorem run_neq (x y : Clo) (w : World) : (binOp .neq 136 x.v y.v).run Tryd.prog w = .ok (.bool (!Clo.eq x y)) w := by
  have e : (10000 : Nat) = 9998 + 2 := by decide
  rw [run_neq_struct, e, equalIn_any 9998 x y w, Result.andThen_ok]
theorem run_guard (op : BinOp) (x y : Clo) (o p : Operand) (w : World) : (eqGuard op 136 o p x.v y.v).run Tryd.prog w = .ok () w := run_eqGuard_agg w op _ _ _ _ _ guardI
end Go.Proofs.YtjfimmfnhlimkaaDoor.cloS

/-
  Contracts of the closure that hangs one cloth behind the other.
-/
namespace Go.Proofs.YtjfimmfnhlimkaaDoor.hang
open Go.RowKit sl

/-- the last cloth, or none -/
def lastClo (h : Hung) : Clo := h.last.getD ⟨0, 0⟩
/-- a closure's three variables lie at b -/
structure HangAt (w : World) (b : Nat) (h : Hung) : Prop where
  l : w.heap[b]? = some (.cells #[.int .i16 (lastClo h).wide, .int .i16 (lastClo h).heavy] 136 (0, 0))
  n : w.heap[b + 1]? = some (.cells #[.int .i16 0, .int .i16 0] 136 (0, 0))
  e : w.heap[b + 1 + 1]? = some (.cells #[.int .i64 h.fin] 2 (0, 0))
theorem HangAt.lt {w : World} {b : Nat} {h : Hung} (k : HangAt w b h) : b + 1 + 1 < w.heap.size := (Array.getElem?_eq_some_iff.1 k.e).1
/-- what the closure may write -/
abbrev hangS (b : Nat) : Nat → Prop := fun k => k = b ∨ k = b + 1 + 1
theorem HangAt.keep {w w' : World} {b : Nat} {h : Hung} (k : HangAt w b h) {S : Nat → Prop} (hf : Keeps S w w') (hs : ∀ i, S i → i < b ∨ b + 1 + 1 < i) : HangAt w' b h := by
  have hl := k.lt
  exact ⟨(hf.block _ (by omega) (fun hS => by have := hs _ hS; omega)).trans k.l, (hf.block _ (by omega) (fun hS => by have := hs _ hS; omega)).trans k.n, (hf.block _ hl (fun hS => by have := hs _ hS; omega)).trans k.e⟩

theorem hang_stored {w : World} {b : Nat} {h h' : Hung} (k : HangAt w b h) (p q z : Int) (hl : lastClo h' = ⟨p, q⟩) (hz : h'.fin = z) :
    HangAt (((w.setCell ⟨b, 0, none⟩ (.int .i16 p)).setCell ⟨b, 1, none⟩ (.int .i16 q)).setCell ⟨b + 1 + 1, 0, none⟩ (.int .i64 z)) b h' ∧
      Keeps (hangS b) w (((w.setCell ⟨b, 0, none⟩ (.int .i16 p)).setCell ⟨b, 1, none⟩ (.int .i16 q)).setCell ⟨b + 1 + 1, 0, none⟩ (.int .i64 z)) := by
  have hlt := k.lt
  have h1 := heap_setCell_same w b 0 _ 136 (.int .i16 p) k.l
  have h2 := heap_setCell_same _ b 1 _ 136 (.int .i16 q) h1
  have e1 : (w.setCell ⟨b, 0, none⟩ (.int .i16 p)).heap[b + 1 + 1]? = _ := (Below.heap_setCell w ⟨b, 0, none⟩ _ (b + 1 + 1) (by show b + 1 + 1 ≠ b; omega)).trans k.e
  have e2 := (Below.heap_setCell _ ⟨b, 1, none⟩ (.int .i16 q) (b + 1 + 1) (by show b + 1 + 1 ≠ b; omega)).trans e1
  have e3 := heap_setCell_same _ (b + 1 + 1) 0 _ 2 (.int .i64 z) e2
  refine ⟨⟨?_, ?_, ?_⟩, ?_⟩
  · rw [Below.heap_setCell _ ⟨b + 1 + 1, 0, none⟩ _ b (by show b ≠ b + 1 + 1; omega), h2, hl]
    rfl
  · rw [Below.heap_setCell _ ⟨b + 1 + 1, 0, none⟩ _ (b + 1) (by show b + 1 ≠ b + 1 + 1; omega), Below.heap_setCell _ ⟨b, 1, none⟩ _ (b + 1) (by show b + 1 ≠ b; omega), Below.heap_setCell _ ⟨b, 0, none⟩ _ (b + 1) (by show b + 1 ≠ b; omega)]
    exact k.n
  · rw [e3, hz]
    rfl
  · exact (((Keeps.refl _ w).setCell (p := ⟨b, 0, none⟩) (.inl (.inl rfl)) _).setCell (p := ⟨b, 1, none⟩) (.inl (.inl rfl)) _).setCell (p := ⟨b + 1 + 1, 0, none⟩) (.inl (.inr rfl)) _
theorem hang_after {w : World} {b : Nat} {h h' : Hung} (k : HangAt w b h) (p q z : Int) (hl : lastClo h' = ⟨p, q⟩) (hz : h'.fin = z) {w' : World} (hb : Below (((w.setCell ⟨b, 0, none⟩ (.int .i16 p)).setCell ⟨b, 1, none⟩ (.int .i16 q)).setCell ⟨b + 1 + 1, 0, none⟩ (.int .i64 z)).heap.size (((w.setCell ⟨b, 0, none⟩ (.int .i16 p)).setCell ⟨b, 1, none⟩ (.int .i16 q)).setCell ⟨b + 1 + 1, 0, none⟩ (.int .i64 z)) w') :
    HangAt w' b h' ∧ Keeps (hangS b) w w' := by
  obtain ⟨h1, h2⟩ := hang_stored k p q z hl hz
  have hk : Keeps (fun _ => False) _ w' := Keeps.of_below hb
  exact ⟨h1.keep hk (fun i hi => hi.elim), h2.trans (hk.mono fun _ _ hi => hi.elim)⟩

end Go.Proofs.YtjfimmfnhlimkaaDoor.hang

/-
  Weather: its contracts: copied, held against another one, counted.
-/
namespace Go.Proofs.YtjfimmfnhlimkaaDoor
open Go.RowKit

/-- the numbers of a Weather -/
structure Wea where
  sun : Int
  wind : Int
  rain : Int

/-- they are in the range of their kinds -/
structure Wea.Fits (x : Wea) : Prop where
  sun0 : -128 ≤ x.sun
  sun1 : x.sun ≤ 127
  wind0 : -128 ≤ x.wind
  wind1 : x.wind ≤ 127
  rain0 : -128 ≤ x.rain
  rain1 : x.rain ≤ 127
abbrev Wea.cells (x : Wea) : List Value := [.int .i8 x.sun, .int .i8 x.wind, .int .i8 x.rain]
abbrev Wea.v (x : Wea) : Value := .agg #[.int .i8 x.sun, .int .i8 x.wind, .int .i8 x.rain]
theorem Wea.len (xs : List Wea) : ∀ x ∈ xs, (Wea.cells x).length = 3 := fun _ _ => rfl
/-- are two equal -/
def Wea.eq (x y : Wea) : Bool := x.sun == y.sun && (x.wind == y.wind && (x.rain == y.rain))
theorem Wea.eq_iff (x y : Wea) : Wea.eq x y = true ↔ x = y := by
  cases x
  cases y
  simp [Wea.eq]
end Go.Proofs.YtjfimmfnhlimkaaDoor
namespace Go.Proofs.YtjfimmfnhlimkaaDoor.weaS
open Go.RowKit sl

theorem at_ {w : World} {p : Addr} {x : Wea} (h : At w p x.cells) :
    w.cell? p = some (.int .i8 x.sun) ∧ w.cell? ⟨p.block, p.off + 1, none⟩ = some (.int .i8 x.wind) ∧ w.cell? ⟨p.block, p.off + 2, none⟩ = some (.int .i8 x.rain) :=
  ⟨h 0 _ rfl, h 1 _ rfl, h 2 _ rfl⟩

set_option maxHeartbeats 1000000 in
theorem to_any (x : Wea) (w : World) :
    Calls Tryd.prog 75 #[x.v] w fun e w' => e = .returned x.v ∧ Below w.heap.size w w' := by
  go_enter Tryd.func75, Tryd.ntmps75
  go_wp2
  refine bodyPost_ret (v := x.v) (by simp [results, Tryd.results75, go_sem]) rfl ⟨rfl, ?_⟩
  repeat (first | exact Below.refl _ _ | assumption | apply Below.drew | (refine Below.alloc ?_ (by first | (simp; done) | (simp; omega) | omega) _) | (refine Below.setCell ?_ (by first | (simp; done) | (simp; omega) | omega) _))
theorem to_parts (sun wind rain : Int) (w : World) :
    Calls Tryd.prog 75 #[.agg #[.int .i8 sun, .int .i8 wind, .int .i8 rain]] w fun e w' => e = .returned (.agg #[.int .i8 sun, .int .i8 wind, .int .i8 rain]) ∧ Below w.heap.size w w' := to_any ⟨sun, wind, rain⟩ w


set_option maxHeartbeats 1000000 in
theorem eq_any (x y : Wea) (w : World) :
    Calls Tryd.prog 78 #[x.v, y.v] w fun e w' => e = .returned (.bool (Wea.eq x y)) ∧ Below w.heap.size w w' := by
  go_enter Tryd.func78, Tryd.ntmps78
  go_wp2_with fail
  all_goals go_ret
  all_goals exact ⟨ret_bool (by simp only [Wea.eq]; first | (simp [*]; done) | (simp_all; done)), ((Below.refl _ _).alloc (Nat.le_refl _) _).alloc (by simp) _⟩

end Go.Proofs.YtjfimmfnhlimkaaDoor.weaS

/-
  Wash: its contracts: copied, held against another one, counted.
-/
namespace Go.Proofs.YtjfimmfnhlimkaaDoor
open Go.RowKit

/-- the numbers of a Wash -/
structure Was where
  wet : Int
  thick : Int

/-- they are in the range of their kinds -/
structure Was.Fits (x : Was) : Prop where
  wet0 : -32768 ≤ x.wet
  wet1 : x.wet ≤ 32767
  thick0 : -128 ≤ x.thick
  thick1 : x.thick ≤ 127
abbrev Was.cells (x : Was) : List Value := [.int .i16 x.wet, .int .i8 x.thick]
abbrev Was.v (x : Was) : Value := .agg #[.int .i16 x.wet, .int .i8 x.thick]
theorem Was.len (xs : List Was) : ∀ x ∈ xs, (Was.cells x).length = 2 := fun _ _ => rfl
/-- are two equal -/
def Was.eq (x y : Was) : Bool := x.wet == y.wet && (x.thick == y.thick)
theorem Was.eq_iff (x y : Was) : Was.eq x y = true ↔ x = y := by
  cases x
  cases y
  simp [Was.eq]
end Go.Proofs.YtjfimmfnhlimkaaDoor
namespace Go.Proofs.YtjfimmfnhlimkaaDoor.wasS
open Go.RowKit sl

theorem at_ {w : World} {p : Addr} {x : Was} (h : At w p x.cells) :
    w.cell? p = some (.int .i16 x.wet) ∧ w.cell? ⟨p.block, p.off + 1, none⟩ = some (.int .i8 x.thick) :=
  ⟨h 0 _ rfl, h 1 _ rfl⟩




end Go.Proofs.YtjfimmfnhlimkaaDoor.wasS

/-
  Days in plain words: 24 weathers, one behind the other; a day's cells, a day in a block.
-/
namespace Go.Proofs.YtjfimmfnhlimkaaDoor
open Go Go.RowKit sl

/-- is weather valid -/
def Wea.valid (x : Wea) : Bool := decide (0 ≤ x.sun) && (decide (x.sun ≤ 9) && (decide (0 ≤ x.wind) && (decide (x.wind ≤ 9) && (decide (0 ≤ x.rain) && decide (x.rain ≤ 9)))))
theorem Wea.valid_iff (x : Wea) : Wea.valid x = true ↔ (0 ≤ x.sun ∧ x.sun ≤ 9) ∧ (0 ≤ x.wind ∧ x.wind ≤ 9) ∧ 0 ≤ x.rain ∧ x.rain ≤ 9 := by
  simp [Wea.valid, and_assoc]
/-- is a thing valid -/
def Was.valid (x : Was) : Bool := decide (0 ≤ x.wet) && (decide (x.wet ≤ 1000) && (decide (1 ≤ x.thick) && decide (x.thick ≤ 9)))
theorem Was.valid_iff (x : Was) : Was.valid x = true ↔ (0 ≤ x.wet ∧ x.wet ≤ 1000) ∧ 1 ≤ x.thick ∧ x.thick ≤ 9 := by
  simp [Was.valid, and_assoc]

/-- the cells of a day -/
def dayCs (d : List Wea) : Array Value := (d.flatMap Wea.cells).toArray
/-- a day -/
abbrev dayV (d : List Wea) : Value := .agg (dayCs d)
theorem dayCs_size {d : List Wea} (h : d.length = 24) : (dayCs d).size = 72 := by
  unfold dayCs
  rw [List.size_toArray, flat_len (Wea.len d), h]
theorem dayV_cells (d : List Wea) : (dayV d).cells = dayCs d := rfl
theorem dayV_list (d : List Wea) : (Value.agg (d.flatMap Wea.cells).toArray) = dayV d := rfl

/-- a day lies at the head of a block -/
structure DayAt (u : World) (b : Nat) (d : List Wea) : Prop where
  lt : b < u.heap.size
  row : u.rangeAt b 0 (d.flatMap Wea.cells)
theorem DayAt.new (d : List Wea) (T : TypeId) (w : World) : DayAt (w.alloc (.cells (dayCs d) T)) w.heap.size d :=
  ⟨by simp, fun j v hj => by
    rw [Nat.zero_add, cell_of_row _ _ _ _ _ _ (heap_alloc_new w _)]
    simpa [dayCs] using hj⟩
theorem DayAt.below {u u' : World} {b B : Nat} {d : List Wea} (h : DayAt u b d) (hb : Below B u u') (hB : b < B) : DayAt u' b d :=
  ⟨Nat.lt_of_lt_of_le h.lt hb.size, fun j v hj => (hb.cell (p := ⟨b, 0 + j, none⟩) hB).trans (h.row j v hj)⟩
theorem DayAt.next {u u' : World} {b : Nat} {d : List Wea} (h : DayAt u b d) (hb : Below u.heap.size u u') : DayAt u' b d := h.below hb h.lt
theorem DayAt.get {u : World} {b : Nat} {d : List Wea} (h : DayAt u b d) {k : Nat} {x : Wea} (hx : d[k]? = some x) :
    u.cell? ⟨b, k * 3, none⟩ = some (.int .i8 x.sun) ∧ u.cell? ⟨b, k * 3 + 1, none⟩ = some (.int .i8 x.wind) ∧ u.cell? ⟨b, k * 3 + 2, none⟩ = some (.int .i8 x.rain) := by
  have g := fun j v hj => h.row (k * 3 + j) v (flat_get (Wea.len d) (j := j) (v := v) hx hj)
  refine ⟨?_, ?_, ?_⟩
  · simpa using g 0 _ rfl
  · simpa using g 1 _ rfl
  · simpa using g 2 _ rfl
theorem DayAt.sl {u : World} {b : Nat} {d : List Wea} (h : DayAt u b d) : Sl Wea.cells 3 u u.heap.size (some ⟨b, 0, none⟩) d :=
  ⟨fun k x hx => ⟨_, rfl, h.lt, fun j v hj => by
    rw [add_lit, add_at]
    simpa using h.row (k * 3 + j) v (flat_get (Wea.len d) hx hj)⟩⟩
/-- .. and what lies behind one hour -/
theorem DayAt.sl_from {u : World} {b : Nat} {d : List Wea} (h : DayAt u b d) (f : Nat) : Sl Wea.cells 3 u u.heap.size (some ⟨b, f * 3, none⟩) (d.drop f) :=
  ⟨fun k x hx => ⟨_, rfl, h.lt, fun j v hj => by
    rw [add_at, add_at]
    rw [List.getElem?_drop] at hx
    have := h.row ((f + k) * 3 + j) v (flat_get (Wea.len d) hx hj)
    rw [Nat.zero_add, Nat.add_mul] at this
    exact this⟩⟩
end Go.Proofs.YtjfimmfnhlimkaaDoor

/-
  Weather: the program's structs are compared field by field.
-/
namespace Go.Proofs.YtjfimmfnhlimkaaDoor.weaS
open Go.RowKit sl

theorem eqFields_step {P : Program} {d : Nat} {xs ys : Array Value} {f : Field} {fs : List Field} {w : World} {a b : Value} {r : Bool} (hn : f.name ≠ "_") (ha : (part f.type xs f.offset).run P w = .ok a w)
    (hb : (part f.type ys f.offset).run P w = .ok b w) (hr : (Op.equalIn d f.type a b).run P w = .ok r w) :
    (Op.eqFields d xs ys (f :: fs)).run P w = if r = true then (Op.eqFields d xs ys fs).run P w else .ok false w := by
  rw [Op.eqFields, if_pos hn]
  simp only [Sem.run_bind, ha, hb, hr, Result.andThen_ok]
  cases r <;> simp

theorem fieldsI : Tryd.prog.underlying 38 = some (.struct (Tryd.prog.fieldsOf 38)) := by kernel_rfl
theorem stoodI : Tryd.prog.stoodInHeld 38 = false := by kernel_rfl
theorem guardI : Tryd.prog.eqGuardType Tryd.prog.depth 38 = false := by kernel_rfl
abbrev fldI0 : Field := { name := "Sun", type := 33, offset := 0, embedded := false, tag := "", pkgPath := "", byteOffset := 0 }
abbrev fldI1 : Field := { name := "Wind", type := 33, offset := 1, embedded := false, tag := "", pkgPath := "", byteOffset := 1 }
abbrev fldI2 : Field := { name := "Rain", type := 33, offset := 2, embedded := false, tag := "", pkgPath := "", byteOffset := 2 }
theorem listI : (Tryd.prog.fieldsOf 38).toList = [fldI0, fldI1, fldI2] := by kernel_rfl
theorem partI0 (x : Wea) (w : World) : (part 33 #[.int .i8 x.sun, .int .i8 x.wind, .int .i8 x.rain] 0).run Tryd.prog w = .ok (.int .i8 x.sun) w := by kernel_rfl
theorem partI1 (x : Wea) (w : World) : (part 33 #[.int .i8 x.sun, .int .i8 x.wind, .int .i8 x.rain] 1).run Tryd.prog w = .ok (.int .i8 x.wind) w := by kernel_rfl
theorem partI2 (x : Wea) (w : World) : (part 33 #[.int .i8 x.sun, .int .i8 x.wind, .int .i8 x.rain] 2).run Tryd.prog w = .ok (.int .i8 x.rain) w := by kernel_rfl
theorem equalIn_any (d : Nat) (x y : Wea) (w : World) : (Op.equalIn (d + 2) 38 x.v y.v).run Tryd.prog w = .ok (Wea.eq x y) w := by
  rw [run_equalIn_agg w (d + 1) 38 _ _ fieldsI stoodI, listI]
  rw [eqFields_step (f := fldI0) (by decide) (partI0 x w) (partI0 y w) (run_equalIn_int w d 33 .i8 .i8 x.sun y.sun Tryd.underlying33)]
  rw [eqFields_step (f := fldI1) (by decide) (partI1 x w) (partI1 y w) (run_equalIn_int w d 33 .i8 .i8 x.wind y.wind Tryd.underlying33)]
  rw [eqFields_step (f := fldI2) (by decide) (partI2 x w) (partI2 y w) (run_equalIn_int w d 33 .i8 .i8 x.rain y.rain Tryd.underlying33)]
  unfold Wea.eq
  cases x.sun == y.sun <;> cases x.wind == y.wind <;> cases x.rain == y.rain <;> simp [Op.eqFields]

theorem run_eql (x y : Wea) (w : World) : (binOp .eql 38 x.v y.v).run Tryd.prog w = .ok (.bool (Wea.eq x y)) w := by
  have e : (10000 : Nat) = 9998 + 2 := by decide
  rw [run_eql_struct, e, equalIn_any 9998 x y w, Result.andThen_ok]
theorem run_neq (x y : Wea) (w : World) : (binOp .neq 38 x.v y.v).run Tryd.prog w = .ok (.bool (!Wea.eq x y)) w := by
  have e : (10000 : Nat) = 9998 + 2 := by decide
  rw [run_neq_struct, e, equalIn_any 9998 x y w, Result.andThen_ok]
theorem run_guard (op : BinOp) (x y : Wea) (o p : Operand) (w : World) : (eqGuard op 38 o p x.v y.v).run Tryd.prog w = .ok () w := run_eqGuard_agg w op _ _ _ _ _ guardI
end Go.Proofs.YtjfimmfnhlimkaaDoor.weaS
