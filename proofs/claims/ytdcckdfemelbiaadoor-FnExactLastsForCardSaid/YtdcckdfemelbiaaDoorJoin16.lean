/-
  Several texts of this proof, joined.
-/
import Derived.Test.YtdcckdfemelbiaaDoorRows
import Derived.Test.YtdcckdfemelbiaaDoorSl
import Derived.Test.YtdcckdfemelbiaaDoorJoin3
import Derived.WalkKit
import Derived.WalkSpells
import Derived.WalkLawsBesides
import Derived.Lib.Hide
import Derived.Deep.QuietTactic
import Derived.BigQuiet
import Derived.Deep.RegionHeld3
import Derived.Deep.MidRow
import Derived.Maps.AppendAt
/-
  Lists of numbers (int64): copied, held against each other, marked.
-/
namespace Go.Proofs.YtdcckdfemelbiaaDoor.intS
open Go.RowKit sl

abbrev C (x : Int) : List Value := cInt .i64 x
theorem len (xs : List Int) : ∀ x ∈ xs, (C x).length = 1 := fun _ _ => rfl
theorem at_ {w : World} {a : Addr} {k : Nat} {x : Int} (h : At w (a.add (k * 1)) (C x)) : w.cell? (a.add k) = some (.int .i64 x) := by
  have h0 := h 0 _ rfl
  rw [Nat.mul_one] at h0
  exact h0
theorem info : (Tryd.prog.info? 2).map (fun i => (i.zero, i.size, i.bytes)) = some (some (.int .i64 0), 1, 8) := by kernel_rfl

set_option maxHeartbeats 2000000 in
theorem toS_any (A : Option Addr) (n c : Nat) (xs : List Int) (en : n = xs.length) (hn : n ≤ 1048576) (w : World) (hg : Sl C 1 w w.heap.size A xs) :
    Calls Tryd.prog 17 #[.slice A n c] w fun e w' => ∃ g, e = .returned (.slice (some ⟨g, 0, none⟩) n n) ∧
      w'.ownsRow w.heap.size 2 1 (.slice (some ⟨g, 0, none⟩) n n) n (xs.flatMap C) ∧ Below w.heap.size w w' := by
  obtain ⟨i0, hi, hz0, hz1, hz2⟩ := info_parts info
  have En := Lib.hid en
  clear en
  have hmk : ∀ u : World, (Instr.makeSlice 22 (.int .i64 (n : Int)) (.int .i64 (n : Int))).run Tryd.prog u =
      .ok (.slice (some ⟨u.heap.size, 0, none⟩) n n) (u.alloc (.cells (madeCells #[.int .i64 0] n) 2)) := fun u => by
    have h := run_make (P := Tryd.prog) u 22 2 i0 _ Tryd.underlying22 hi hz0 .i64 .i64 (n : Int) (n : Int) (by omega) (Int.le_refl _) (by rw [hz2]; omega) (by omega)
    have e : ((n : Int)).toNat = n := by omega
    rw [e] at h
    simpa [hz1, Value.cells] using h
  go_enter Tryd.func17, Tryd.ntmps17
  have hB0 : Below w.heap.size w (w.alloc (.cells (madeCells #[.int .i64 0] n) 2)) := (Below.refl _ _).alloc (Nat.le_refl _) _
  have hP0 : (w.alloc (.cells (madeCells #[.int .i64 0] n) 2)).ownsRow w.heap.size 2 1 (.slice (some ⟨w.heap.size, 0, none⟩) n n) n _ :=
    World.ownsRow_lit w (madeCells #[.int .i64 0] n) n (Nat.le_refl _) (by unfold maxLen; omega) (by rw [size_madeCells, Nat.mul_one])
  have HP0 := Lib.hid hP0
  clear hP0
  go_wp2_with fail
  go_loopw [4] (fun vi wr => ∃ k L, k ≤ n ∧ vi = .int .i64 (k : Nat) ∧ wr.ownsRow w.heap.size 2 1 (.slice (some ⟨w.heap.size, 0, none⟩) n n) n L ∧ Done C 1 xs k L ∧ Below w.heap.size w wr) (fun vi _ => n - (intOf vi).toNat)
  case atStart => exact ⟨0, _, by omega, rfl, HP0.out, Done.zero _ _ _ _, hB0⟩
  case round =>
    clear hB0 HP0
    obtain ⟨k, L, hk, rfl, hP, hD, hB⟩ := hrel
    by_cases hlt : k < n
    · obtain ⟨x, hx⟩ : ∃ x, xs[k]? = some x := ⟨xs[k]'(by have := En.out; omega), List.getElem?_eq_getElem _⟩
      obtain ⟨a, rfl, hab, hat⟩ := (hg.below hB).at_ k x hx
      have q0 := at_ hat
      have HX := Lib.hid hx
      have HD := Lib.hid hD
      have hLL := hP.1
      obtain ⟨v0, s0⟩ : ∃ v, wr.cell? ⟨w.heap.size, k, none⟩ = some v := ⟨L[k]'(by omega), (hP.cellAt k (by omega)).trans (List.getElem?_eq_getElem _)⟩
      have f0 := hP.frozenAt k
      have HLL := Lib.hid hLL
      have HP := Lib.hid hP
      clear hLL hP hx hat hD
      go_wp2_with fail
      go_roundw
      case rel =>
        have hP3 := (HP.out.stored k (.int .i64 x)).1
        refine ⟨k + 1, _, by omega, by go_num, hP3, ?_, hB.setCell (p := ⟨w.heap.size, k, none⟩) (Nat.le_refl _) _⟩
        have hd := HD.out.step (len xs) HX.out (by rw [HLL.out, En.out])
        rw [Nat.mul_one] at hd
        exact hd
      case measure => simp [intOf]; omega
    · go_wp2_with fail
      obtain rfl : k = n := by omega
      go_ret
      have hl := En.out
      have e : L = xs.flatMap C := Done.full (by rw [← hl]; exact hD) (len xs) (by omega) (by rw [hP.1, hl])
      rw [← e]
      exact ⟨_, rfl, hP, hB⟩

set_option maxHeartbeats 2000000 in
theorem eqS_any (A A' : Option Addr) (n n' c c' : Nat) (xs ys : List Int) (en : n = xs.length) (en' : n' = ys.length) (hn : n ≤ 1048576) (hn' : n' ≤ 9223372036854775807) (w : World) (hg : Sl C 1 w w.heap.size A xs) (hg' : Sl C 1 w w.heap.size A' ys) (b : Bool) (hb : b = true ↔ xs = ys) :
    Calls Tryd.prog 19 #[.slice A n c, .slice A' n' c'] w fun e w' => e = .returned (.bool b) ∧ Below w.heap.size w w' := by
  have En := Lib.hid en
  have En' := Lib.hid en'
  have Hb := Lib.hid hb
  clear en en' hb
  by_cases hlen : n = n'
  · subst hlen
    go_enter Tryd.func19, Tryd.ntmps19
    go_wp2_with fail
    go_loopw [5] (fun vi wr => ∃ k : Nat, k ≤ n ∧ vi = .int .i64 k ∧ (∀ i, i < k → xs[i]? = ys[i]?) ∧ ∃ m, wr = w.drewN m) (fun vi _ => n - (intOf vi).toNat)
    case atStart => exact ⟨0, by omega, rfl, fun i hi => absurd hi (by omega), 0, rfl⟩
    case round =>
      obtain ⟨k, hk, rfl, hsame, m, rfl⟩ := hrel
      by_cases hlt : k < n
      · obtain ⟨x, hx⟩ : ∃ x, xs[k]? = some x := ⟨xs[k]'(by have := En.out; omega), List.getElem?_eq_getElem _⟩
        obtain ⟨y, hy⟩ : ∃ y, ys[k]? = some y := ⟨ys[k]'(by have := En'.out; omega), List.getElem?_eq_getElem _⟩
        obtain ⟨a, rfl, hab, hat⟩ := hg.at_ k x hx
        obtain ⟨a', rfl, hab', hat'⟩ := hg'.at_ k y hy
        have q0 := at_ hat
        have r0 := at_ hat'
        have HX := Lib.hid hx
        have HY := Lib.hid hy
        clear hx hy hat hat'
        by_cases hxy : x = y
        · subst hxy
          go_wp2_with fail
          go_quiet (fail)
          go_wp2_with fail
          go_roundw
          case rel => exact ⟨k + 1, by omega, by go_num, fun i hi => by
            rcases Nat.lt_or_ge i k with h1 | h1
            · exact hsame i h1
            · obtain rfl : i = k := by omega
              rw [HX.out, HY.out], _, rfl⟩
          case measure => simp [intOf]; omega
        · have hne : (x != y) = true := by rw [bne_iff_ne]; exact hxy
          go_wp2_with fail
          go_quiet (fail)
          go_wp2_with fail
          go_ret
          refine ⟨ret_bool ?_, (below_drewN _ _ _).trans (below_drewN _ _ _)⟩
          cases hbb : b with
          | false => rfl
          | true =>
            have he := Hb.out.1 hbb
            have h1 := HX.out
            rw [he, HY.out] at h1
            exact absurd (Option.some.inj h1).symm hxy
      · go_wp2_with fail
        go_ret
        refine ⟨ret_bool ?_, below_drewN _ _ _⟩
        exact (Hb.out.2 (lists_eq En.out En'.out fun i hi => hsame i (by omega))).symm
  · have hno : b = false := by
      cases hbb : b with
      | false => rfl
      | true => exact absurd ((En.out.trans (congrArg List.length (Hb.out.1 hbb))).trans En'.out.symm) hlen
    subst hno
    have hl : ((n : Int) != (n' : Int)) = true := by rw [bne_iff_ne]; omega
    clear hlen
    go_enter Tryd.func19, Tryd.ntmps19
    go_wp2_with fail
    go_ret
    exact ⟨rfl, Below.refl _ _⟩

/-- the numbers from k on -/
def marks (k : Int) (n : Nat) : List Int := (List.range n).map fun i : Nat => k + (i : Int)
theorem marks_len (k : Int) (n : Nat) : (marks k n).length = n := by simp [marks]
theorem marks_at (k : Int) (n i : Nat) (h : i < n) : (marks k n)[i]? = some (k + i) := by simp [marks, h]

set_option maxHeartbeats 2000000 in
theorem markS_row (base g n c : Nat) (k0 : Int) (hk : 0 ≤ k0 ∧ k0 ≤ 1000000000000) (hn : n ≤ 1048576) (L : List Value) (w : World) (hP : w.ownsRow base 2 1 (.slice (some ⟨g, 0, none⟩) n c) n L) :
    Calls Tryd.prog 29 #[.slice (some ⟨g, 0, none⟩) n c, .int .i64 k0] w fun e w' => e = .returned (.int .i64 (k0 + n)) ∧
      w'.ownsRow base 2 1 (.slice (some ⟨g, 0, none⟩) n c) n ((marks k0 n).flatMap C) ∧ w.grownBy w' (some g) := by
  have HP0 := Lib.hid hP
  clear hP
  go_enter Tryd.func29, Tryd.ntmps29
  go_wp2_with fail
  go_loopw [1, 5] (fun vk vi wr => ∃ k L, k ≤ n ∧ vi = .int .i64 (k : Nat) ∧ vk = .int .i64 (k0 + k) ∧ wr.ownsRow base 2 1 (.slice (some ⟨g, 0, none⟩) n c) n L ∧ Done C 1 (marks k0 n) k L ∧ w.grownBy wr (some g)) (fun _ vi _ => n - (intOf vi).toNat)
  case atStart => exact ⟨0, _, by omega, rfl, by simp, HP0.out, Done.zero _ _ _ _, ⟨rfl, rfl, rfl, Nat.le_refl _, fun _ _ _ => rfl⟩⟩
  case round =>
    obtain ⟨k, L, hk', rfl, rfl, hP, hD, hB⟩ := hrel
    by_cases hlt : k < n
    · have HX := Lib.hid (marks_at k0 n k hlt)
      have HD := Lib.hid hD
      have hLL := hP.1
      obtain ⟨v0, s0⟩ : ∃ v, wr.cell? ⟨g, k, none⟩ = some v := ⟨L[k]'(by omega), (hP.cellAt k (by omega)).trans (List.getElem?_eq_getElem _)⟩
      have f0 := hP.frozenAt k
      have HLL := Lib.hid hLL
      have HP := Lib.hid hP
      clear hLL hP hD
      go_wp2_with fail
      go_roundw
      case rel =>
        have hP3 := HP.out.stored k (.int .i64 (k0 + k))
        have g2 := hP3.2
        refine ⟨k + 1, _, by omega, by go_num, by go_num, hP3.1, ?_, ⟨g2.os.trans hB.os, g2.tape.trans hB.tape, g2.output.trans hB.output, Nat.le_trans hB.size g2.size, fun i hi hne => (g2.block i (Nat.lt_of_lt_of_le hi hB.size) hne).trans (hB.block i hi hne)⟩⟩
        have hd := HD.out.step (len _) HX.out (by rw [HLL.out, marks_len])
        rw [Nat.mul_one] at hd
        exact hd
      case measure => simp [intOf]; omega
    · go_wp2_with fail
      obtain rfl : k = n := by omega
      go_ret
      have e : L = (marks k0 k).flatMap C := Done.full (by rw [marks_len]; exact hD) (len _) (by omega) (by rw [hP.1, marks_len])
      rw [← e]
      exact ⟨rfl, hP, hB⟩
set_option maxHeartbeats 1000000 in
theorem markS_nil (k0 : Int) (w : World) :
    Calls Tryd.prog 29 #[.slice none 0 0, .int .i64 k0] w fun e w' => e = .returned (.int .i64 k0) ∧ w = w' := by
  go_enter Tryd.func29, Tryd.ntmps29
  go_wp2_with fail
  refine wp_loop_rounds 1 ?_
  rw [rounds_succ]
  go_wp2_with fail
  go_ret
  exact ⟨rfl, rfl⟩
/-- a row of the call's own is marked -/
theorem markS_any (base : Nat) (v : Value) (n : Nat) (k0 : Int) (hk : 0 ≤ k0 ∧ k0 ≤ 1000000000000) (hn : n ≤ 1048576) (L : List Value) (w : World) (hP : w.ownsRow base 2 1 v n L) :
    Calls Tryd.prog 29 #[v, .int .i64 k0] w fun e w' => e = .returned (.int .i64 (k0 + n)) ∧ w'.ownsRow base 2 1 v n ((marks k0 n).flatMap C) ∧ ∃ g, base ≤ g ∧ w.grownBy w' (some g) ∧ (v.ownBlock = none ∨ v.ownBlock = some g) := by
  obtain ⟨h1, h2⟩ := hP
  rcases h2 with ⟨rfl, rfl⟩ | ⟨g, c, cur, rfl, hg, rest⟩
  · refine (markS_nil k0 w).mono ?_
    rintro e w' ⟨rfl, rfl⟩
    exact ⟨by simp, by simpa [marks] using World.ownsRow_nil w base 2 1, base, Nat.le_refl _, ⟨rfl, rfl, rfl, Nat.le_refl _, fun _ _ _ => rfl⟩, .inl rfl⟩
  · refine (markS_row base g n c k0 hk hn L w ⟨h1, .inr ⟨g, c, cur, rfl, hg, rest⟩⟩).mono ?_
    rintro e w' ⟨rfl, hP', hgr⟩
    exact ⟨rfl, hP', g, hg, hgr, .inr rfl⟩

set_option maxHeartbeats 2000000 in
theorem heldS_any (A : Option Addr) (n c : Nat) (k0 : Int) (hk : 0 ≤ k0 ∧ k0 ≤ 1000000000000) (hn : n ≤ 1048576) (w : World) (B : Nat) (hg : Sl C 1 w B A (marks k0 n)) :
    Calls Tryd.prog 30 #[.slice A n c, .int .i64 k0] w fun e w' => e = .returned (.int .i64 (k0 + n)) ∧ w = w' := by
  go_enter Tryd.func30, Tryd.ntmps30
  go_wp2_with fail
  go_loop [1, 5] (fun vk vi => ∃ k : Nat, k ≤ n ∧ vi = .int .i64 k ∧ vk = .int .i64 (k0 + k)) (fun _ vi => n - (intOf vi).toNat)
  case atStart => exact ⟨0, by omega, rfl, by simp⟩
  case round =>
    obtain ⟨k, hk', rfl, rfl⟩ := hrel
    by_cases hlt : k < n
    · obtain ⟨a, rfl, hab, hat⟩ := hg.at_ k _ (marks_at k0 n k hlt)
      have q0 := at_ hat
      clear hat
      go_wp2_with fail
      go_round
      case rel => exact ⟨k + 1, by omega, by go_num, by go_num⟩
      case measure => simp [intOf]; omega
    · go_wp2_with fail
      obtain rfl : k = n := by omega
      go_ret
      exact ⟨rfl, rfl⟩
end Go.Proofs.YtdcckdfemelbiaaDoor.intS

/-
  A block of one value that has just been made.
-/
namespace Go.Proofs.YtdcckdfemelbiaaDoor.fold
open Go Go.RowKit sl

theorem one_newI (w : World) (v : Value) (T : TypeId) : ∀ (j : Nat) u, [v][j]? = some u → (w.alloc (.cells #[v] T)).cell? ((⟨w.heap.size, 0, none⟩ : Addr).add j) = some u := by
  intro j x hj
  rw [add_lit, cell_of_row _ _ _ _ _ _ (heap_alloc_new w _)]
  simpa using hj
theorem one_newB (w : World) (g : Nat) (v : Value) (T : TypeId) (hg : g = w.heap.size) : ∀ (j : Nat) u, [v][j]? = some u → (w.alloc (.cells #[v] T)).cell? ((⟨g, 0, none⟩ : Addr).add j) = some u := by
  subst hg
  exact one_newI w v T
theorem one_cellI {v : Value} (h : v.oneCell' = true) : ∀ u ∈ [v], u.oneCell' = true := by
  intro u hu
  rw [List.mem_singleton.1 hu]
  exact h
theorem flat_snoc (xs : List Int) (n : Int) : (xs ++ [n]).flatMap intS.C = xs.flatMap intS.C ++ [.int .i64 n] := by simp [intS.C]
end Go.Proofs.YtdcckdfemelbiaaDoor.fold

/-
  Lists of lists of numbers, in memory: read; copied by the laws; held against each other.
-/
namespace Go.Proofs.YtdcckdfemelbiaaDoor
open Go.RowKit sl

/-- a row: where it lies, its capacity, its numbers -/
structure Rw where
  A : Option Addr
  c : Nat
  xs : List Int
abbrev Rw.v (r : Rw) : Value := .slice r.A r.xs.length r.c
abbrev Rw.C (r : Rw) : List Value := [r.v]
theorem Rw.len (rs : List Rw) : ∀ r ∈ rs, (Rw.C r).length = 1 := fun _ _ => rfl
end Go.Proofs.YtdcckdfemelbiaaDoor
namespace Go.Proofs.YtdcckdfemelbiaaDoor.rows
open Go Go.RowKit sl

/-- a slice of slices that reads as rows, all below block B -/
structure SS (w : World) (B : Nat) (A : Option Addr) (rs : List Rw) : Prop where
  heads : Sl Rw.C 1 w B A rs
  each : ∀ r ∈ rs, Sl intS.C 1 w B r.A r.xs
  short : ∀ r ∈ rs, r.xs.length ≤ maxLen
theorem SS.below {w w' : World} {B : Nat} {A : Option Addr} {rs : List Rw} (h : SS w B A rs) (hb : Below B w w') : SS w' B A rs := ⟨h.heads.below hb, fun r hr => (h.each r hr).below hb, h.short⟩
theorem SS.more {w : World} {B B' : Nat} {A : Option Addr} {rs : List Rw} (h : SS w B A rs) (hB : B ≤ B') : SS w B' A rs := ⟨h.heads.more hB, fun r hr => (h.each r hr).more hB, h.short⟩
theorem SS.next {w w' : World} {A : Option Addr} {rs : List Rw} (h : SS w w.heap.size A rs) (hb : Below w.heap.size w w') : SS w' w'.heap.size A rs := (h.below hb).more hb.size
/-- a row's head -/
theorem SS.head {w : World} {B : Nat} {A : Option Addr} {rs : List Rw} (h : SS w B A rs) {k : Nat} {r : Rw} (hr : rs[k]? = some r) : ∃ a, A = some a ∧ a.block < B ∧ w.cell? (a.add k) = some (.slice r.A r.xs.length r.c) := by
  obtain ⟨a, e, hb, hat⟩ := h.heads.at_ k r hr
  refine ⟨a, e, hb, ?_⟩
  have := hat 0 _ rfl
  rwa [Nat.mul_one] at this
abbrev nums (rs : List Rw) : List (List Int) := rs.map Rw.xs
/-- rows of the call's own -/
structure OS (w : World) (base : Nat) (A : Option Addr) (c : Nat) (rs : List Rw) : Prop where
  outer : w.ownsRow base 22 1 (.slice A rs.length c) rs.length (rs.flatMap Rw.C)
  each : ∀ r ∈ rs, w.ownsRow base 2 1 r.v r.xs.length (r.xs.flatMap intS.C)
  dist : rs.Pairwise fun a b => ∀ k, a.v.ownBlock = some k → b.v.ownBlock ≠ some k
  off : ∀ r ∈ rs, ∀ k, r.v.ownBlock = some k → (Value.slice A rs.length c).ownBlock ≠ some k
  short : ∀ r ∈ rs, r.xs.length ≤ maxLen
theorem OS.next {w w' : World} {base : Nat} {A : Option Addr} {c : Nat} {rs : List Rw} (h : OS w base A c rs) (hb : Below w.heap.size w w') : OS w' base A c rs :=
  ⟨owns_next h.outer hb, fun r hr => owns_next (h.each r hr) hb, h.dist, h.off, h.short⟩
theorem OS.lower {w : World} {base base' : Nat} {A : Option Addr} {c : Nat} {rs : List Rw} (h : OS w base A c rs) (hb : base' ≤ base) : OS w base' A c rs :=
  ⟨owns_below h.outer hb, fun r hr => owns_below (h.each r hr) hb, h.dist, h.off, h.short⟩
theorem OS.ss {w : World} {base : Nat} {A : Option Addr} {c : Nat} {rs : List Rw} (h : OS w base A c rs) : SS w w.heap.size A rs :=
  ⟨Sl.of_owns h.outer (Rw.len rs) (by decide), fun r hr => Sl.of_owns (h.each r hr) (intS.len _) (by decide), h.short⟩

set_option maxHeartbeats 1000000 in
/-- how many are left -/
theorem szI_any (A : Option Addr) (n c : Nat) (left : Int) (hn : n ≤ 9223372036854775807) (hl : 0 ≤ left ∧ left ≤ 1048576) (w : World) :
    Calls Tryd.prog 61 #[.slice A n c, .int .i64 left] w fun e w' => e = .returned (.int .i64 (if left - n < 0 then -1 else left - n)) ∧ w = w' := by
  go_enter Tryd.func61, Tryd.ntmps61
  go_wp2_with fail
  all_goals go_ret
  all_goals exact ⟨rfl, rfl⟩
set_option maxRecDepth 100000 in
set_option maxHeartbeats 2000000 in
/-- too many, or what bounds there are -/
theorem szSS_any (A : Option Addr) (n c : Nat) (rs : List Rw) (en : n = rs.length) (hn : n ≤ 9223372036854775807) (left : Int) (hl : 0 ≤ left ∧ left ≤ 1048576) (w : World) (hg : SS w w.heap.size A rs) :
    Calls Tryd.prog 20 #[.slice A n c, .int .i64 left] w fun e w' => ∃ z : Int, e = .returned (.int .i64 z) ∧ w = w' ∧ -1 ≤ z ∧ z ≤ 1048576 ∧ (0 ≤ z → n ≤ 1048576 ∧ ∀ r ∈ rs, r.xs.length ≤ 1048576) := by
  have En := Lib.hid en
  clear en
  by_cases h0 : left - n < 0
  · go_enter Tryd.func20, Tryd.ntmps20
    go_wp2_with fail
    go_ret
    exact ⟨-1, rfl, rfl, by omega, by omega, fun h => by omega⟩
  · have hw : wrap64 (left - n) = left - n := by unfold wrap64; omega
    go_enter Tryd.func20, Tryd.ntmps20
    go_wp2_with fail
    go_loop [1, 5] (fun vl vi => ∃ (k : Nat) (z : Int), k ≤ n ∧ vi = .int .i64 k ∧ vl = .int .i64 z ∧ 0 ≤ z ∧ z ≤ left - n ∧ ∀ i r, i < k → rs[i]? = some r → r.xs.length ≤ 1048576) (fun _ vi => n - (intOf vi).toNat)
    case atStart => exact ⟨0, left - n, by omega, rfl, by first | rfl | rw [hw], by omega, by omega, fun i r hi => absurd hi (by omega)⟩
    case round =>
      obtain ⟨k, z, hk, rfl, rfl, hz0, hz1, hz2⟩ := hrel
      have HZ := Lib.hid hz2
      clear hz2
      by_cases hlt : k < n
      · obtain ⟨r, hr⟩ : ∃ r, rs[k]? = some r := ⟨rs[k]'(by have := En.out; omega), List.getElem?_eq_getElem _⟩
        obtain ⟨a, rfl, hab, q0⟩ := hg.head hr
        have hs := hg.short r (List.mem_of_getElem? hr)
        unfold maxLen at hs
        have HR := Lib.hid hr
        clear hr
        by_cases hz : z - r.xs.length < 0
        · go_wp2_with fail
          refine (szI_any r.A r.xs.length r.c z (by omega) (by omega) _).mono ?_
          rintro o u ⟨rfl, rfl⟩
          rw [if_pos hz]
          go_wp2_with fail
          go_ret
          exact ⟨-1, rfl, rfl, by omega, by omega, fun h => by omega⟩
        · have HNZ := Lib.hid hz
          go_wp2_with fail
          refine (szI_any r.A r.xs.length r.c z (by omega) (by omega) _).mono ?_
          rintro o u ⟨rfl, rfl⟩
          rw [if_neg (show ¬ z - (r.xs.length : Int) < 0 by have := HNZ.out; omega)]
          go_wp2_with fail
          go_round
          case rel => exact ⟨k + 1, z - r.xs.length, by omega, by go_num, rfl, by omega, by omega, fun i r' hi hr' => by
            rcases Nat.lt_or_ge i k with h1 | h1
            · exact HZ.out i r' h1 hr'
            · obtain rfl : i = k := by omega
              have := HR.out
              rw [hr'] at this
              rw [Option.some.inj this]
              omega⟩
          case measure => simp [intOf]; omega
      · obtain rfl : k = n := by omega
        go_wp2_with fail
        go_ret
        refine ⟨z, rfl, rfl, by omega, by omega, fun _ => ⟨by omega, fun r hr => ?_⟩⟩
        obtain ⟨i, hi⟩ := List.mem_iff_getElem?.1 hr
        exact HZ.out i r (by have := (List.getElem?_eq_some_iff.1 hi).1; have := En.out; omega) hi
theorem infoR : (Tryd.prog.info? 22).map (fun i => (i.zero, i.size, i.bytes)) = some (some (.slice none 0 0), 1, 24) := by kernel_rfl
set_option maxRecDepth 100000 in
set_option maxHeartbeats 4000000 in
theorem toSS_any (A : Option Addr) (n c : Nat) (rs : List Rw) (en : n = rs.length) (hn : n ≤ 1048576) (hs : ∀ r ∈ rs, r.xs.length ≤ 1048576) (w : World) (hg : SS w w.heap.size A rs) :
    Calls Tryd.prog 22 #[.slice A n c] w fun e w' => ∃ (g : Nat) (rs' : List Rw), e = .returned (.slice (some ⟨g, 0, none⟩) n n) ∧ rs'.length = n ∧ nums rs' = nums rs ∧ OS w' w.heap.size (some ⟨g, 0, none⟩) n rs' ∧ Below w.heap.size w w' := by
  obtain ⟨i0, hi, hz0, hz1, hz2⟩ := info_parts infoR
  have En := Lib.hid en
  clear en
  have hmk : ∀ u : World, (Instr.makeSlice 27 (.int .i64 (n : Int)) (.int .i64 (n : Int))).run Tryd.prog u =
      .ok (.slice (some ⟨u.heap.size, 0, none⟩) n n) (u.alloc (.cells (madeCells #[.slice none 0 0] n) 22)) := fun u => by
    have h := run_make (P := Tryd.prog) u 27 22 i0 _ Tryd.underlying27 hi hz0 .i64 .i64 (n : Int) (n : Int) (by omega) (Int.le_refl _) (by rw [hz2]; omega) (by omega)
    have e : ((n : Int)).toNat = n := by omega
    rw [e] at h
    simpa [hz1, Value.cells] using h
  go_enter Tryd.func22, Tryd.ntmps22
  have hB0 : Below w.heap.size w (w.alloc (.cells (madeCells #[.slice none 0 0] n) 22)) := (Below.refl _ _).alloc (Nat.le_refl _) _
  have hP0 : (w.alloc (.cells (madeCells #[.slice none 0 0] n) 22)).ownsRow w.heap.size 22 1 (.slice (some ⟨w.heap.size, 0, none⟩) n n) n _ :=
    World.ownsRow_lit w (madeCells #[.slice none 0 0] n) n (Nat.le_refl _) (by unfold maxLen; omega) (by rw [size_madeCells, Nat.mul_one])
  have HP0 := Lib.hid hP0
  clear hP0
  go_wp2_with fail
  go_loopw [4] (fun vi wr => ∃ k L rs', k ≤ n ∧ vi = .int .i64 (k : Nat) ∧ rs'.length = k ∧ nums rs' = (nums rs).take k ∧ wr.ownsRow w.heap.size 22 1 (.slice (some ⟨w.heap.size, 0, none⟩) n n) n L ∧ Done Rw.C 1 rs' k L ∧
    (∀ r ∈ rs', wr.ownsRow (w.heap.size + 1) 2 1 r.v r.xs.length (r.xs.flatMap intS.C)) ∧ (rs'.Pairwise fun a b => ∀ k, a.v.ownBlock = some k → b.v.ownBlock ≠ some k) ∧ w.heap.size < wr.heap.size ∧ Below w.heap.size w wr) (fun vi _ => n - (intOf vi).toNat)
  case atStart => exact ⟨0, _, [], by omega, rfl, rfl, rfl, HP0.out, Done.zero _ _ _ _, fun r hr => by simp at hr, List.Pairwise.nil, by simp, hB0⟩
  case round =>
    clear hB0 HP0
    obtain ⟨k, L, rs', hk, rfl, hl', hn', hP, hD, hE, hW, hz, hB⟩ := hrel
    have HB := Lib.hid hB
    have HL' := Lib.hid hl'
    have HN' := Lib.hid hn'
    have HD := Lib.hid hD
    have HE := Lib.hid hE
    have HW := Lib.hid hW
    have HP := Lib.hid hP
    clear hB hl' hn' hD hE hW hP
    by_cases hlt : k < n
    · obtain ⟨r, hr⟩ : ∃ r, rs[k]? = some r := ⟨rs[k]'(by have := En.out; omega), List.getElem?_eq_getElem _⟩
      obtain ⟨a, rfl, hab, q0⟩ := (hg.below HB.out).head hr
      have hrs := hs r (List.mem_of_getElem? hr)
      have HR := Lib.hid hr
      clear hr
      go_wp2_with fail
      refine (intS.toS_any r.A r.xs.length r.c r.xs rfl hrs _ ((hg.below HB.out).more HB.out.size |>.each r (List.mem_of_getElem? HR.out))).mono ?_
      rintro o u ⟨g, rfl, P, hb⟩
      have P2 := Lib.hid (owns_next HP.out hb)
      have Q2 := Lib.hid P
      have B2 := Lib.hid (below_next HB.out hb (Nat.le_refl _))
      have HE2 : Hid (∀ r ∈ rs', u.ownsRow (w.heap.size + 1) 2 1 r.v r.xs.length (r.xs.flatMap intS.C)) := Lib.hid fun r hr => owns_next (HE.out r hr) hb
      have gLt := (P.lt g rfl)
      have LtE : Hid (∀ r ∈ rs', ∀ k, r.v.ownBlock = some k → k < wr.heap.size ∧ w.heap.size + 1 ≤ k) := Lib.hid fun r hr k hk => ⟨((HE.out r hr).lt k hk).2, ((HE.out r hr).lt k hk).1⟩
      clear P hb q0 HE HP
      have hLL := P2.out.1
      obtain ⟨v0, s0⟩ : ∃ v, u.cell? ⟨w.heap.size, k, none⟩ = some v := ⟨L[k]'(by omega), (P2.out.cellAt k (by omega)).trans (List.getElem?_eq_getElem _)⟩
      have f0 := P2.out.frozenAt k
      have HLL := Lib.hid hLL
      clear hLL
      go_wp2_with fail
      go_roundw
      case rel =>
        have hP3 := P2.out.stored k (.slice (some ⟨g, 0, none⟩) r.xs.length r.xs.length)
        have hx : (rs' ++ [(⟨some ⟨g, 0, none⟩, r.xs.length, r.xs⟩ : Rw)])[k]? = some ⟨some ⟨g, 0, none⟩, r.xs.length, r.xs⟩ := by
          rw [List.getElem?_append_right (by rw [HL'.out]; exact Nat.le_refl _), HL'.out, Nat.sub_self]
          rfl
        have hgl : w.heap.size < g := Nat.lt_of_lt_of_le hz gLt.1
        have keep : ∀ {T : TypeId} {s m : Nat} {v : Value} {LL : List Value} {b : Nat}, u.ownsRow b T s v m LL → (∀ k, v.ownBlock = some k → k ≠ w.heap.size) → (u.setCell ⟨w.heap.size, k, none⟩ (.slice (some ⟨g, 0, none⟩) r.xs.length r.xs.length)).ownsRow b T s v m LL := fun h hne => owns_other h hP3.2 hne
        refine ⟨k + 1, _, rs' ++ [⟨some ⟨g, 0, none⟩, r.xs.length, r.xs⟩], by omega, by go_num, by rw [List.length_append, HL'.out]; rfl, ?_, hP3.1, ?_, ?_, ?_, ?_, ?_⟩
        · have e := take_snoc (xs := nums rs) (k := k) (x := r.xs) (by simp [nums, HR.out])
          rw [e, nums, List.map_append, ← HN'.out]
          rfl
        · have hmono : Done Rw.C 1 (rs' ++ [(⟨some ⟨g, 0, none⟩, r.xs.length, r.xs⟩ : Rw)]) k L := fun i x hi hxi j v hv => by
            rw [List.getElem?_append_left (by rw [HL'.out]; exact hi)] at hxi
            exact HD.out i x hi hxi j v hv
          intro i x hi hxi j v hv
          have hj : j = 0 := by
            have := (List.getElem?_eq_some_iff.1 hv).1
            simp [Rw.C] at this
            exact this
          subst hj
          simp only [Rw.C, List.getElem?_cons_zero, Option.some.injEq] at hv
          subst hv
          rcases Nat.lt_or_ge i k with h1 | h1
          · have := hmono i x h1 hxi 0 _ rfl
            rw [Nat.mul_one, Nat.add_zero] at this ⊢
            rw [List.getElem?_set_ne (by omega)]
            exact this
          · obtain rfl : i = k := by omega
            rw [hx] at hxi
            obtain rfl := Option.some.inj hxi
            rw [Nat.mul_one, Nat.add_zero, List.getElem?_set_self (by rw [HLL.out]; omega)]
        · intro x hx
          rcases List.mem_append.1 hx with h1 | h1
          · exact keep (HE2.out x h1) (fun k hk => by have := (LtE.out x h1 k hk).2; omega)
          · obtain rfl := List.mem_singleton.1 h1
            exact keep (owns_below Q2.out (by omega)) (fun k hk => by obtain rfl : g = k := Option.some.inj hk; omega)
        · refine List.pairwise_append.2 ⟨HW.out, List.pairwise_singleton _ _, fun x hx y hy k hk => ?_⟩
          obtain rfl := List.mem_singleton.1 hy
          intro e
          obtain rfl : g = k := Option.some.inj e
          have := (LtE.out x hx g hk).1
          omega
        · have := B2.out.size
          simp [World.setCell]
          omega
        · exact B2.out.setCell (p := ⟨w.heap.size, k, none⟩) (Nat.le_refl _) _
      case measure => simp [intOf]; omega
    · go_wp2_with fail
      obtain rfl : k = n := by omega
      go_ret
      have hl := HL'.out
      have e : L = rs'.flatMap Rw.C := Done.full (by rw [hl]; exact HD.out) (Rw.len rs') (by omega) (by rw [HP.out.1, hl])
      have hP := HP.out
      rw [e] at hP
      refine ⟨_, rs', rfl, hl, ?_, ⟨by rw [hl]; exact hP, fun r hr => owns_below (HE.out r hr) (by omega), HW.out, fun r hr k hk e => ?_, fun r hr => ?_⟩, HB.out⟩
      · rw [HN'.out, List.take_of_length_le (by simp [nums, ← En.out])]
      · have h1 := ((HE.out r hr).lt k hk).1
        obtain rfl : w.heap.size = k := Option.some.inj e
        omega
      · have hx : r.xs ∈ nums rs' := List.mem_map_of_mem hr
        rw [HN'.out] at hx
        obtain ⟨r0, h0, e0⟩ := List.mem_map.1 (List.mem_of_mem_take hx)
        have := hs r0 h0
        rw [e0] at this
        unfold maxLen
        omega
/-- two heads that are read -/
abbrev RB (p p' : Addr) (v v' : Value) (W u : World) : Prop := u.cell? p = some v ∧ u.cell? p' = some v' ∧ Below W.heap.size W u
theorem RB.next {p p' : Addr} {v v' : Value} {W u t : World} (h : RB p p' v v' W u) (hp : p.block < W.heap.size) (hp' : p'.block < W.heap.size) (hb : Below u.heap.size u t) : RB p p' v v' W t := by
  obtain ⟨h0, h1, hB⟩ := h
  have k := hb.mono hB.size
  exact ⟨(k.cell hp).trans h0, (k.cell hp').trans h1, hB.trans k⟩
theorem RB.below {p p' : Addr} {v v' : Value} {W u : World} (h : RB p p' v v' W u) : Below W.heap.size W u := h.2.2
set_option maxRecDepth 100000 in
set_option maxHeartbeats 4000000 in
theorem eqSS_any (A A' : Option Addr) (n n' c c' : Nat) (rs rs' : List Rw) (en : n = rs.length) (en' : n' = rs'.length) (hn : n ≤ 1048576) (hn' : n' ≤ 9223372036854775807) (hs : ∀ r ∈ rs, r.xs.length ≤ 1048576) (w : World) (hg : SS w w.heap.size A rs) (hg' : SS w w.heap.size A' rs') (b : Bool) (hb : b = true ↔ nums rs = nums rs') :
    Calls Tryd.prog 24 #[.slice A n c, .slice A' n' c'] w fun e w' => e = .returned (.bool b) ∧ Below w.heap.size w w' := by
  have En := Lib.hid en
  have En' := Lib.hid en'
  have Hb := Lib.hid hb
  clear en en' hb
  by_cases hlen : n = n'
  · subst hlen
    go_enter Tryd.func24, Tryd.ntmps24
    go_wp2_with fail
    go_loopw [5] (fun vi wr => ∃ k : Nat, k ≤ n ∧ vi = .int .i64 k ∧ (∀ i, i < k → (nums rs)[i]? = (nums rs')[i]?) ∧ Below w.heap.size w wr) (fun vi _ => n - (intOf vi).toNat)
    case atStart => exact ⟨0, by omega, rfl, fun i hi => absurd hi (by omega), Below.refl _ _⟩
    case round =>
      obtain ⟨k, hk, rfl, hsame, hB⟩ := hrel
      have HB := Lib.hid hB
      have HSA := Lib.hid hsame
      clear hB hsame
      by_cases hlt : k < n
      · obtain ⟨r, hr⟩ : ∃ r, rs[k]? = some r := ⟨rs[k]'(by have := En.out; omega), List.getElem?_eq_getElem _⟩
        obtain ⟨r', hr'⟩ : ∃ r, rs'[k]? = some r := ⟨rs'[k]'(by have := En'.out; omega), List.getElem?_eq_getElem _⟩
        obtain ⟨a, rfl, hab, q0⟩ := (hg.below HB.out).head hr
        obtain ⟨a', rfl, hab', q0'⟩ := (hg'.below HB.out).head hr'
        have hm := List.mem_of_getElem? hr
        have hm' := List.mem_of_getElem? hr'
        have h1 := hs r hm
        have h2 := hg'.short r' hm'
        unfold maxLen at h2
        have hp : (a.add k).block < w.heap.size := by rw [block_add]; exact hab
        have hp' : (a'.add k).block < w.heap.size := by rw [block_add]; exact hab'
        have R0 : Hid (RB (a.add k) (a'.add k) r.v r'.v w wr) := Lib.hid ⟨q0, q0', HB.out⟩
        have HR : Hid ((nums rs)[k]? = some r.xs) := Lib.hid (by simp [nums, hr])
        have HR' : Hid ((nums rs')[k]? = some r'.xs) := Lib.hid (by simp [nums, hr'])
        obtain ⟨t, ht⟩ := some_bool (r.xs = r'.xs)
        have hc := fun (u : World) (hu : Below w.heap.size w u) => intS.eqS_any r.A r'.A r.xs.length r'.xs.length r.c r'.c r.xs r'.xs rfl rfl h1 (by omega) u (((hg.below hu).more hu.size).each r hm) (((hg'.below hu).more hu.size).each r' hm') t ht
        have HC := Lib.hid hc
        have HT := Lib.hid ht
        clear hc ht hr hr' q0 q0' hm hm'
        go_wp2_with fail
        go_region_held3 (RB (a.add k) (a'.add k) r.v r'.v w)
          (first | assumption | exact R0.out.next hp hp' (below_drewN _ wr 1) | exact RB.next (by assumption) hp hp' hb2 | fail)
          (first | (go_at_call 19; refine (HC.out _ ?_).mono ?_; (exact RB.below (p := a.add k) (p' := a'.add k) (by assumption)); rintro e w2 ⟨rfl, hb2⟩) | fail)
        rename_i hS
        have B2 := Lib.hid (RB.below hS)
        clear hS
        cases t with
        | false =>
          go_wp2_with fail
          go_ret
          refine ⟨ret_bool ?_, B2.out⟩
          cases hbb : b with
          | false => rfl
          | true =>
            have he := Hb.out.1 hbb
            have h1 := HR.out
            rw [he, HR'.out] at h1
            have := HT.out.2 (Option.some.inj h1).symm
            cases this
        | true =>
          go_wp2_with fail
          go_roundw
          case rel => exact ⟨k + 1, by omega, by go_num, fun i hi => by
            rcases Nat.lt_or_ge i k with h1 | h1
            · exact HSA.out i h1
            · obtain rfl : i = k := by omega
              rw [HR.out, HR'.out, HT.out.1 rfl], B2.out⟩
          case measure => simp [intOf]; omega
      · go_wp2_with fail
        go_ret
        refine ⟨ret_bool ?_, HB.out⟩
        exact (Hb.out.2 (lists_eq (n := n) (by simp [nums, En.out]) (by simp [nums, En'.out]) fun i hi => HSA.out i (by omega))).symm
  · have hno : b = false := by
      cases hbb : b with
      | false => rfl
      | true =>
        have := congrArg List.length (Hb.out.1 hbb)
        simp only [nums, List.length_map] at this
        exact absurd (En.out.trans (this.trans En'.out.symm)) hlen
    subst hno
    have hl : ((n : Int) != (n' : Int)) = true := by rw [bne_iff_ne]; omega
    clear hlen
    go_enter Tryd.func24, Tryd.ntmps24
    go_wp2_with fail
    go_ret
    exact ⟨rfl, Below.refl _ _⟩
end Go.Proofs.YtdcckdfemelbiaaDoor.rows

/-
  Rows of numbers of the call's own, wherever in their blocks they lie: marked, and still held.
-/
namespace Go.Proofs.YtdcckdfemelbiaaDoor.rows
open Go Go.RowKit sl

/-- a row of the call's own: nothing, or a part of a block of numbers -/
def Own1 (w : World) (base : Nat) (r : Rw) : Prop :=
  (r.A = none ∧ r.c = 0 ∧ r.xs = []) ∨ ∃ g o cur, r.A = some ⟨g, o, none⟩ ∧ base ≤ g ∧ w.heap[g]? = some (.cells cur 2 (0, 0)) ∧ r.xs.length ≤ r.c ∧ r.c ≤ maxLen ∧ o + r.c ≤ cur.size ∧ ∀ j x, r.xs[j]? = some x → cur[o + j]? = some (.int .i64 x)
/-- what changed lies in the blocks S -/
structure But (S : Nat → Prop) (w w' : World) : Prop where
  os : w'.os = w.os
  tape : w'.tape = w.tape
  output : w'.output = w.output
  size : w.heap.size ≤ w'.heap.size
  block : ∀ k, k < w.heap.size → ¬ S k → w'.heap[k]? = w.heap[k]?
theorem But.refl (S : Nat → Prop) (w : World) : But S w w := ⟨rfl, rfl, rfl, Nat.le_refl _, fun _ _ _ => rfl⟩
theorem But.trans {S : Nat → Prop} {u v w : World} (h : But S u v) (h' : But S v w) : But S u w :=
  ⟨h'.os.trans h.os, h'.tape.trans h.tape, h'.output.trans h.output, Nat.le_trans h.size h'.size, fun k hk hS => (h'.block k (Nat.lt_of_lt_of_le hk h.size) hS).trans (h.block k hk hS)⟩
theorem But.mono {S S' : Nat → Prop} {u v : World} (h : But S u v) (hS : ∀ k, S k → S' k) : But S' u v := ⟨h.os, h.tape, h.output, h.size, fun k hk hn => h.block k hk fun h' => hn (hS k h')⟩
theorem But.of_grown {u v : World} {g : Nat} (h : u.grownBy v (some g)) : But (fun k => k = g) u v := ⟨h.os, h.tape, h.output, h.size, fun k hk hn => h.block k hk fun e => hn (Option.some.inj e)⟩
theorem But.below {S : Nat → Prop} {u v : World} {B : Nat} (h : But S u v) (hB : B ≤ u.heap.size) (hS : ∀ k, S k → B ≤ k) : Below B u v :=
  ⟨h.os, h.tape, h.output, h.size, fun k hk => h.block k (by omega) (fun hk' => by have := hS k hk'; omega)⟩
theorem Own1.at_lt {w : World} {base : Nat} {r : Rw} (h : Own1 w base r) : ∀ k, r.v.ownBlock = some k → base ≤ k ∧ k < w.heap.size := by
  intro k hk
  rcases h with ⟨hA, _, _⟩ | ⟨g, o, cur, hA, hb, hg, _⟩
  · rw [Rw.v, hA] at hk
    simp [Value.ownBlock] at hk
  · rw [Rw.v, hA] at hk
    simp only [Value.ownBlock, Option.some.injEq] at hk
    subst hk
    exact ⟨hb, (Array.getElem?_eq_some_iff.1 hg).1⟩
theorem Own1.keep {w w' : World} {base : Nat} {r : Rw} (h : Own1 w base r) (hk : ∀ g, r.v.ownBlock = some g → w'.heap[g]? = w.heap[g]?) : Own1 w' base r := by
  rcases h with h | ⟨g, o, cur, hA, hb, hg, rest⟩
  · exact .inl h
  · exact .inr ⟨g, o, cur, hA, hb, (hk g (by rw [Rw.v, hA]; rfl)).trans hg, rest⟩
theorem Own1.next {w w' : World} {base : Nat} {r : Rw} (h : Own1 w base r) (hb : Below w.heap.size w w') : Own1 w' base r := h.keep fun g hg => hb.block g (h.at_lt g hg).2
theorem Own1.but {w w' : World} {base : Nat} {r : Rw} {S : Nat → Prop} (h : Own1 w base r) (hb : But S w w') (hS : ∀ g, r.v.ownBlock = some g → ¬ S g) : Own1 w' base r := h.keep fun g hg => hb.block g (h.at_lt g hg).2 (hS g hg)
theorem Own1.lower {w : World} {base base' : Nat} {r : Rw} (h : Own1 w base r) (hb : base' ≤ base) : Own1 w base' r := by
  rcases h with h | ⟨g, o, cur, hA, hg, rest⟩
  · exact .inl h
  · exact .inr ⟨g, o, cur, hA, Nat.le_trans hb hg, rest⟩
theorem Own1.short {w : World} {base : Nat} {r : Rw} (h : Own1 w base r) : r.xs.length ≤ maxLen := by
  rcases h with ⟨_, _, e⟩ | ⟨g, o, cur, hA, hg, _, h1, h2, _⟩
  · rw [e]; exact Nat.zero_le _
  · omega
theorem Own1.sl {w : World} {base : Nat} {r : Rw} (h : Own1 w base r) : Sl intS.C 1 w w.heap.size r.A r.xs := by
  refine ⟨fun k x hx => ?_⟩
  rcases h with ⟨_, _, e⟩ | ⟨g, o, cur, hA, hb, hg, h1, h2, h3, h4⟩
  · rw [e] at hx
    simp at hx
  · refine ⟨_, hA, (Array.getElem?_eq_some_iff.1 hg).1, fun j v hj => ?_⟩
    have hj0 : j = 0 := by
      have := (List.getElem?_eq_some_iff.1 hj).1
      simp [] at this
      exact this
    subst hj0
    simp only [List.getElem?_cons_zero, Option.some.injEq] at hj
    subst hj
    have := h4 k x hx
    have e := cell_of_row w g (o + k) cur 2 (0, 0) hg
    rw [Nat.mul_one]
    rw [add_at, add_at, Nat.add_zero, e]
    exact this
theorem Own1.of_owns {w : World} {base : Nat} {r : Rw} (h : w.ownsRow base 2 1 r.v r.xs.length (r.xs.flatMap intS.C)) : Own1 w base r := by
  obtain ⟨h1, h2⟩ := h
  rcases h2 with ⟨hv, h0⟩ | ⟨g, cap, cur, hv, hg, hh, hnc, hcm, hcs, ht⟩
  · simp only [Rw.v, Value.slice.injEq] at hv
    exact .inl ⟨hv.1, hv.2.2, List.length_eq_zero_iff.1 h0⟩
  · simp only [Rw.v, Value.slice.injEq] at hv
    refine .inr ⟨g, 0, cur, hv.1, hg, hh, by omega, by omega, by omega, fun j x hx => ?_⟩
    have hf := flat_get (fun y _ => rfl : ∀ y ∈ r.xs, (intS.C y).length = 1) hx (j := 0) (v := .int .i64 x) rfl
    rw [← ht, Nat.mul_one, Nat.add_zero, Nat.mul_one, List.getElem?_take] at hf
    split at hf
    · rw [Nat.zero_add]
      simpa using hf
    · cases hf
/-- the lowest number goes -/
theorem Own1.tail {w : World} {base : Nat} {g o c : Nat} {x : Int} {xs : List Int} (h : Own1 w base ⟨some ⟨g, o, none⟩, c, x :: xs⟩) : Own1 w base ⟨some ⟨g, o + 1, none⟩, c - 1, xs⟩ := by
  rcases h with ⟨h, _⟩ | ⟨g', o', cur, hA, hb, hg, h1, h2, h3, h4⟩
  · cases h
  · simp only [Option.some.injEq, Addr.mk.injEq, and_true] at hA
    obtain ⟨rfl, rfl⟩ := hA
    simp only [List.length_cons] at h1 h2 h3
    refine .inr ⟨g, o + 1, cur, rfl, hb, hg, by show xs.length ≤ c - 1; omega, by show c - 1 ≤ maxLen; omega, by show o + 1 + (c - 1) ≤ cur.size; omega, fun j y hy => ?_⟩
    have := h4 (j + 1) y (by simpa using hy)
    rw [← this]
    congr 1
    omega
set_option maxHeartbeats 2000000 in
theorem mark1_any (w : World) (base : Nat) (r : Rw) (h : Own1 w base r) (k0 : Int) (hk : 0 ≤ k0 ∧ k0 ≤ 1000000000000) (hn : r.xs.length ≤ 1048576) :
    Calls Tryd.prog 29 #[r.v, .int .i64 k0] w fun e w' => e = .returned (.int .i64 (k0 + r.xs.length)) ∧ Own1 w' base ⟨r.A, r.c, intS.marks k0 r.xs.length⟩ ∧ But (fun k => r.v.ownBlock = some k) w w' := by
  obtain ⟨A, c, xs⟩ := r
  rcases h with ⟨hA, hc, hx⟩ | ⟨g, o, cur, hA, hb, hg, h1, h2, h3, h4⟩
  · simp only at hA hc hx
    subst hA hc hx
    refine (intS.markS_nil k0 w).mono ?_
    rintro e w' ⟨rfl, rfl⟩
    exact ⟨by simp, .inl ⟨rfl, rfl, rfl⟩, But.refl _ _⟩
  · simp only at hA h1 h2 h3 h4 hn
    subst hA
    obtain ⟨n, hN⟩ : ∃ n, xs.length = n := ⟨_, rfl⟩
    simp only [Rw.v]
    rw [hN] at h1 hn ⊢
    have HG := Lib.hid hg
    have H4 := Lib.hid h4
    clear hg h4
    go_enter Tryd.func29, Tryd.ntmps29
    go_wp2_with fail
    go_loopw [1, 5] (fun vk vi wr => ∃ k cu, k ≤ n ∧ vi = .int .i64 (k : Nat) ∧ vk = .int .i64 (k0 + k) ∧ wr.heap[g]? = some (.cells cu 2 (0, 0)) ∧ cu.size = cur.size ∧ (∀ j, j < k → cu[o + j]? = some (.int .i64 (k0 + j))) ∧ But (fun k => k = g) w wr) (fun _ vi _ => n - (intOf vi).toNat)
    case atStart => exact ⟨0, cur, by omega, rfl, by simp, HG.out, rfl, fun j hj => absurd hj (by omega), But.refl _ _⟩
    case round =>
      obtain ⟨k, cu, hk', rfl, rfl, hg, hs, hd, hB⟩ := hrel
      have HG1 := Lib.hid hg
      have HS := Lib.hid hs
      have HD := Lib.hid hd
      have HB := Lib.hid hB
      clear hg hs hd hB
      by_cases hlt : k < n
      · have hb1 : o + k < cu.size := by have := HS.out; omega
        obtain ⟨v0, s0⟩ : ∃ v, wr.cell? ⟨g, o + k, none⟩ = some v := ⟨cu[o + k], by rw [cell_of_row wr g (o + k) cu 2 (0, 0) HG1.out]; exact Array.getElem?_eq_getElem hb1⟩
        have f0 := frozen_of_row wr g (o + k) cu 2 HG1.out
        go_wp2_with fail
        go_roundw
        case rel =>
          refine ⟨k + 1, cu.setIfInBounds (o + k) (.int .i64 (k0 + k)), by omega, by go_num, by go_num, heap_setCell_same wr g (o + k) cu 2 (.int .i64 (k0 + k)) HG1.out, by simpa using HS.out, fun j hj => ?_, HB.out.trans ⟨rfl, rfl, rfl, by simp, fun i _ hne => heap_setCell_other wr ⟨g, o + k, none⟩ i _ (fun e => hne (by simp [e]))⟩⟩
          rcases Nat.lt_or_ge j k with h5 | h5
          · rw [Array.getElem?_setIfInBounds_ne (by omega)]
            exact HD.out j h5
          · obtain rfl : j = k := by omega
            rw [Array.getElem?_setIfInBounds_self, if_pos hb1]
        case measure => simp [intOf]; omega
      · go_wp2_with fail
        obtain rfl : k = n := by omega
        go_ret
        refine ⟨rfl, .inr ⟨g, o, cu, rfl, hb, HG1.out, by simpa [intS.marks_len] using h1, h2, by have := HS.out; simp only; omega, fun j x hx => ?_⟩, HB.out.mono fun i hi => by subst hi; rfl⟩
        have hj : j < k := by
          have := (List.getElem?_eq_some_iff.1 hx).1
          simpa [intS.marks_len] using this
        rw [HD.out j hj]
        have := intS.marks_at k0 k j hj
        simp only at hx
        rw [this] at hx
        rw [Option.some.inj hx]
end Go.Proofs.YtdcckdfemelbiaaDoor.rows

/-
  Lists of rows of the call's own: counted, marked, still held.
-/
namespace Go.Proofs.YtdcckdfemelbiaaDoor.rows
open Go Go.RowKit sl

/-- how many numbers there are -/
def tot : List Rw → Nat
  | [] => 0
  | r :: rs => r.xs.length + tot rs
theorem tot_snoc (rs : List Rw) (r : Rw) : tot (rs ++ [r]) = tot rs + r.xs.length := by
  induction rs with
  | nil => simp [tot]
  | cons x t ih => simp only [List.cons_append, tot, ih]; omega
theorem tot_append (a b : List Rw) : tot (a ++ b) = tot a + tot b := by
  induction a with
  | nil => simp [tot]
  | cons x t ih => simp only [List.cons_append, tot, ih]; omega
theorem tot_mem {rs : List Rw} {r : Rw} (h : r ∈ rs) : r.xs.length ≤ tot rs := by
  induction rs with
  | nil => cases h
  | cons x t ih =>
    rcases List.mem_cons.1 h with rfl | h
    · simp only [tot]; omega
    · have := ih h; simp only [tot]; omega
theorem tot_nums {a b : List Rw} (h : nums a = nums b) : tot a = tot b := by
  induction a generalizing b with
  | nil =>
    cases b with
    | nil => rfl
    | cons x t => cases h
  | cons x t ih =>
    cases b with
    | nil => cases h
    | cons y s =>
      simp only [nums, List.map_cons, List.cons.injEq] at h
      simp only [tot, h.1, ih h.2]
/-- the rows, marked from k on -/
def markR : Int → List Rw → List Rw
  | _, [] => []
  | k, r :: rs => ⟨r.A, r.c, intS.marks k r.xs.length⟩ :: markR (k + r.xs.length) rs
theorem markR_snoc (k : Int) (rs : List Rw) (r : Rw) : markR k (rs ++ [r]) = markR k rs ++ [⟨r.A, r.c, intS.marks (k + tot rs) r.xs.length⟩] := by
  induction rs generalizing k with
  | nil => simp [markR, tot]
  | cons x t ih =>
    simp only [List.cons_append, markR, ih, tot, List.cons.injEq, true_and]
    have e : k + (x.xs.length : Int) + (tot t : Int) = k + ((x.xs.length + tot t : Nat) : Int) := by push_cast; omega
    rw [e]
theorem markR_len (k : Int) (rs : List Rw) : (markR k rs).length = rs.length := by
  induction rs generalizing k with
  | nil => rfl
  | cons x t ih => simp [markR, ih]
theorem markR_v (k : Int) (rs : List Rw) : (markR k rs).map Rw.v = rs.map Rw.v := by
  induction rs generalizing k with
  | nil => rfl
  | cons x t ih => simp only [markR, List.map_cons, ih]; simp [Rw.v, intS.marks_len]
theorem flat_v (rs : List Rw) : rs.flatMap Rw.C = rs.map Rw.v := by
  induction rs with
  | nil => rfl
  | cons x t ih => rw [List.flatMap_cons, ih]; rfl
/-- a list of rows, all of the call's own -/
structure OT (w : World) (base : Nat) (A : Option Addr) (c : Nat) (rs : List Rw) : Prop where
  outer : w.ownsRow base 22 1 (.slice A rs.length c) rs.length (rs.map Rw.v)
  each : ∀ r ∈ rs, Own1 w base r
  dist : (rs.map Rw.v).Pairwise fun a b => ∀ k, a.ownBlock = some k → b.ownBlock ≠ some k
  off : ∀ v ∈ rs.map Rw.v, ∀ k, v.ownBlock = some k → (Value.slice A rs.length c).ownBlock ≠ some k
theorem OT.of {w : World} {base : Nat} {A : Option Addr} {c : Nat} {rs : List Rw} (h : OS w base A c rs) : OT w base A c rs :=
  ⟨by rw [← flat_v]; exact h.outer, fun r hr => Own1.of_owns (h.each r hr), List.pairwise_map.2 h.dist, fun v hv => by
    obtain ⟨r, hr, rfl⟩ := List.mem_map.1 hv
    exact h.off r hr⟩
theorem OT.next {w w' : World} {base : Nat} {A : Option Addr} {c : Nat} {rs : List Rw} (h : OT w base A c rs) (hb : Below w.heap.size w w') : OT w' base A c rs :=
  ⟨owns_next h.outer hb, fun r hr => (h.each r hr).next hb, h.dist, h.off⟩
theorem OT.lower {w : World} {base base' : Nat} {A : Option Addr} {c : Nat} {rs : List Rw} (h : OT w base A c rs) (hb : base' ≤ base) : OT w base' A c rs :=
  ⟨owns_below h.outer hb, fun r hr => (h.each r hr).lower hb, h.dist, h.off⟩
theorem OT.ss {w : World} {base : Nat} {A : Option Addr} {c : Nat} {rs : List Rw} (h : OT w base A c rs) : SS w w.heap.size A rs :=
  ⟨Sl.of_owns (by rw [flat_v]; exact h.outer) (Rw.len rs) (by decide), fun r hr => (h.each r hr).sl, fun r hr => (h.each r hr).short⟩
theorem owns_but {w w' : World} {base : Nat} {e : TypeId} {sz : Nat} {v : Value} {n : Nat} {L : List Value} {S : Nat → Prop} (h : w.ownsRow base e sz v n L) (hb : But S w w') (hS : ∀ g, v.ownBlock = some g → ¬ S g) : w'.ownsRow base e sz v n L := by
  refine ⟨h.1, ?_⟩
  rcases h.2 with hn | ⟨g, cap, cur, rfl, hg, hh, rest⟩
  · exact .inl hn
  · exact .inr ⟨g, cap, cur, rfl, hg, (hb.block g (Array.getElem?_eq_some_iff.1 hh).1 (hS g rfl)).trans hh, rest⟩
/-- what the rows and their list lie in -/
def Blocks (A : Option Addr) (rs : List Rw) (k : Nat) : Prop := (∃ a, A = some a ∧ a.block = k) ∨ ∃ r ∈ rs, r.v.ownBlock = some k
theorem OT.but {w w' : World} {base : Nat} {A : Option Addr} {c : Nat} {rs : List Rw} {S : Nat → Prop} (h : OT w base A c rs) (hb : But S w w') (hS : ∀ k, base ≤ k → k < w.heap.size → ¬ S k) : OT w' base A c rs :=
  ⟨owns_but h.outer hb (fun g hg => hS g (h.outer.lt g hg).1 (h.outer.lt g hg).2), fun r hr => (h.each r hr).but hb (fun g hg => hS g ((h.each r hr).at_lt g hg).1 ((h.each r hr).at_lt g hg).2), h.dist, h.off⟩
/-- one row's numbers are others now -/
theorem OT.mark {w w' : World} {base : Nat} {A : Option Addr} {c : Nat} {pre post : List Rw} {r r' : Rw} (h : OT w base A c (pre ++ r :: post)) (hv : r'.v = r.v) (h' : Own1 w' base r') (hb : But (fun k => r.v.ownBlock = some k) w w') : OT w' base A c (pre ++ r' :: post) := by
  have hl : (pre ++ r' :: post).length = (pre ++ r :: post).length := by simp
  have hm : (pre ++ r' :: post).map Rw.v = (pre ++ r :: post).map Rw.v := by simp only [List.map_append, List.map_cons, hv]
  refine ⟨?_, ?_, by rw [hm]; exact h.dist, by rw [hm, hl]; exact h.off⟩
  · rw [hm, hl]
    exact owns_but h.outer hb fun g hg hr => h.off r.v (by simp) g hr hg
  · have hd := h.dist
    rw [List.map_append, List.map_cons, List.pairwise_append, List.pairwise_cons] at hd
    obtain ⟨_, ⟨hd1, _⟩, hd2⟩ := hd
    intro x hx
    rcases List.mem_append.1 hx with h1 | h1
    · exact (h.each x (List.mem_append_left _ h1)).but hb fun g hg hr => hd2 x.v (List.mem_map_of_mem h1) r.v (List.mem_cons_self ..) g hg hr
    · rcases List.mem_cons.1 h1 with rfl | h1
      · exact h'
      · exact (h.each x (List.mem_append_right _ (List.mem_cons_of_mem _ h1))).but hb fun g hg hr => hd1 x.v (List.mem_map_of_mem h1) g hr hg
set_option maxRecDepth 100000 in
set_option maxHeartbeats 2000000 in
/-- too many, or what bounds there are -/
theorem szSS_tot (A : Option Addr) (n c : Nat) (rs : List Rw) (en : n = rs.length) (hn : n ≤ 9223372036854775807) (left : Int) (hl : 0 ≤ left ∧ left ≤ 1048576) (w : World) (hg : SS w w.heap.size A rs) :
    Calls Tryd.prog 20 #[.slice A n c, .int .i64 left] w fun e w' => ∃ z : Int, e = .returned (.int .i64 z) ∧ w = w' ∧ -1 ≤ z ∧ z ≤ 1048576 ∧ (0 ≤ z → n + tot rs ≤ 1048576) := by
  have En := Lib.hid en
  clear en
  by_cases h0 : left - n < 0
  · go_enter Tryd.func20, Tryd.ntmps20
    go_wp2_with fail
    go_ret
    exact ⟨-1, rfl, rfl, by omega, by omega, fun h => by omega⟩
  · have hw : wrap64 (left - n) = left - n := by unfold wrap64; omega
    go_enter Tryd.func20, Tryd.ntmps20
    go_wp2_with fail
    go_loop [1, 5] (fun vl vi => ∃ (k : Nat) (z : Int) (pre post : List Rw), k ≤ n ∧ vi = .int .i64 k ∧ vl = .int .i64 z ∧ 0 ≤ z ∧ z + tot pre = left - n ∧ rs = pre ++ post ∧ pre.length = k) (fun _ vi => n - (intOf vi).toNat)
    case atStart => exact ⟨0, left - n, [], rs, by omega, rfl, by first | rfl | rw [hw], by omega, by simp [tot], rfl, rfl⟩
    case round =>
      obtain ⟨k, z, pre, post, hk, rfl, rfl, hz0, hz1, hz2, hz3⟩ := hrel
      have HZ := Lib.hid hz2
      have HP := Lib.hid hz3
      have HZ1 := Lib.hid hz1
      have hz4 : z ≤ 1048576 := by omega
      clear hz2 hz3 hz1
      by_cases hlt : k < n
      · obtain ⟨r, t, ht⟩ : ∃ r t, post = r :: t := by
          cases post with
          | nil =>
            exfalso
            have h1 := congrArg List.length HZ.out
            have h2 := HP.out
            have h3 := En.out
            simp only [List.length_append, List.length_nil] at h1
            omega
          | cons r t => exact ⟨r, t, rfl⟩
        subst ht
        have hr : rs[k]? = some r := by rw [HZ.out, List.getElem?_append_right (by rw [HP.out]; exact Nat.le_refl _), HP.out, Nat.sub_self]; rfl
        obtain ⟨a, rfl, hab, q0⟩ := hg.head hr
        have hs := hg.short r (List.mem_of_getElem? hr)
        unfold maxLen at hs
        clear hr
        by_cases hz : z - r.xs.length < 0
        · go_wp2_with fail
          refine (szI_any r.A r.xs.length r.c z (by omega) (by omega) _).mono ?_
          rintro o u ⟨rfl, rfl⟩
          rw [if_pos hz]
          go_wp2_with fail
          go_ret
          exact ⟨-1, rfl, rfl, by omega, by omega, fun h => by omega⟩
        · have HNZ := Lib.hid hz
          go_wp2_with fail
          refine (szI_any r.A r.xs.length r.c z (by omega) (by omega) _).mono ?_
          rintro o u ⟨rfl, rfl⟩
          rw [if_neg (show ¬ z - (r.xs.length : Int) < 0 by have := HNZ.out; omega)]
          go_wp2_with fail
          go_round
          case rel => exact ⟨k + 1, z - r.xs.length, pre ++ [r], t, by omega, by go_num, rfl, by omega, by rw [tot_snoc]; have := HZ1.out; omega, by rw [HZ.out]; simp, by rw [List.length_append, HP.out]; rfl⟩
          case measure => simp [intOf]; omega
      · obtain rfl : k = n := by omega
        have hpost : post = [] := by
          have h1 := congrArg List.length HZ.out
          have h2 := HP.out
          have h3 := En.out
          rw [List.length_append] at h1
          exact List.length_eq_zero_iff.1 (by omega)
        have ht : tot rs = tot pre := by rw [HZ.out, hpost, List.append_nil]
        have HT := Lib.hid ht
        clear ht hpost
        go_wp2_with fail
        go_ret
        exact ⟨z, rfl, rfl, by omega, by omega, fun _ => by have := HT.out; have := HZ1.out; omega⟩
set_option maxRecDepth 100000 in
set_option maxHeartbeats 2000000 in
theorem markSS_any (w : World) (base : Nat) (A : Option Addr) (c n : Nat) (rs : List Rw) (en : n = rs.length) (h : OT w base A c rs) (k0 : Int) (hk : 0 ≤ k0 ∧ k0 ≤ 1000000000) (hn : n + tot rs ≤ 1048576) :
    Calls Tryd.prog 25 #[.slice A n c, .int .i64 k0] w fun e w' => e = .returned (.int .i64 (k0 + tot rs)) ∧ OT w' base A c (markR k0 rs) ∧ But (Blocks A rs) w w' := by
  have En := Lib.hid en
  have H0 := Lib.hid h
  clear en h
  go_enter Tryd.func25, Tryd.ntmps25
  go_wp2_with fail
  go_loopw [1, 5] (fun vk vi wr => ∃ (k : Nat) (pre post : List Rw), k ≤ n ∧ vi = .int .i64 k ∧ vk = .int .i64 (k0 + tot pre) ∧ rs = pre ++ post ∧ pre.length = k ∧ OT wr base A c (markR k0 pre ++ post) ∧ But (Blocks A rs) w wr) (fun _ vi _ => n - (intOf vi).toNat)
  case atStart => exact ⟨0, [], rs, by omega, rfl, by simp [tot], rfl, rfl, H0.out, But.refl _ _⟩
  case round =>
    obtain ⟨k, pre, post, hk', rfl, rfl, hz2, hz3, hO, hB⟩ := hrel
    have HZ := Lib.hid hz2
    have HP := Lib.hid hz3
    have HO := Lib.hid hO
    have HB := Lib.hid hB
    have htot : tot pre + tot post ≤ 1048576 := by rw [← tot_append, ← hz2]; omega
    have HTT := Lib.hid htot
    clear hz2 hz3 hO hB htot
    by_cases hlt : k < n
    · obtain ⟨r, t, ht⟩ : ∃ r t, post = r :: t := by
        cases post with
        | nil =>
          exfalso
          have h1 := congrArg List.length HZ.out
          have h2 := HP.out
          have h3 := En.out
          simp only [List.length_append, List.length_nil] at h1
          omega
        | cons r t => exact ⟨r, t, rfl⟩
      subst ht
      have hr : (markR k0 pre ++ r :: t)[k]? = some r := by rw [List.getElem?_append_right (by rw [markR_len, HP.out]; exact Nat.le_refl _), markR_len, HP.out, Nat.sub_self]; rfl
      obtain ⟨a, rfl, hab, q0⟩ := HO.out.ss.head hr
      have hO1 := HO.out.each r (List.mem_of_getElem? hr)
      have hp1 : tot pre ≤ 1048576 := by have := HTT.out; omega
      have hp2 : r.xs.length ≤ 1048576 := by have := HTT.out; simp only [tot] at this; omega
      have HM := Lib.hid (mark1_any wr base r hO1 (k0 + tot pre) (by omega) hp2)
      clear hr hO1
      go_wp2_with fail
      refine HM.out.mono ?_
      rintro o u ⟨rfl, P, hb⟩
      have HP1 := Lib.hid P
      have HB1 := Lib.hid hb
      clear P hb
      go_wp2_with fail
      go_roundw
      case rel => exact ⟨k + 1, pre ++ [r], t, by omega, by go_num, by rw [tot_snoc]; push_cast; rw [Int.add_assoc], by rw [HZ.out]; simp, by rw [List.length_append, HP.out]; rfl, by
        rw [markR_snoc, List.append_assoc]
        exact HO.out.mark (by simp [Rw.v, intS.marks_len]) HP1.out HB1.out, HB.out.trans (HB1.out.mono fun g hg => .inr ⟨r, by rw [HZ.out]; simp, hg⟩)⟩
      case measure => simp [intOf]; omega
    · obtain rfl : k = n := by omega
      have hpost : post = [] := by
        have h1 := congrArg List.length HZ.out
        have h2 := HP.out
        have h3 := En.out
        rw [List.length_append] at h1
        exact List.length_eq_zero_iff.1 (by omega)
      have ht : rs = pre := by rw [HZ.out, hpost, List.append_nil]
      have hO := HO.out
      rw [hpost, List.append_nil, ← ht] at hO
      have HOE := Lib.hid hO
      clear hO
      rw [← ht]
      go_wp2_with fail
      go_ret
      exact ⟨rfl, HOE.out, HB.out⟩
end Go.Proofs.YtdcckdfemelbiaaDoor.rows

/-
  A row of a list that is the call's own grows; such a list beside a list of numbers.
-/
namespace Go.Proofs.YtdcckdfemelbiaaDoor.rows
open Go Go.RowKit sl

abbrev Own0 (w : World) (base : Nat) (r : Rw) : Prop := w.ownsRow base 2 1 r.v r.xs.length (r.xs.flatMap intS.C)
/-- one row is another one now, in its old block or in a new one -/
theorem OS.grow {u u1 : World} {base g c : Nat} {pre post : List Rw} {r r' : Rw} (h : OS u base (some ⟨g, 0, none⟩) c (pre ++ r :: post)) (hg : u.grownBy u1 r.v.ownBlock) (h' : Own0 u1 base r')
    (hat : r'.v.ownBlock = r.v.ownBlock ∨ r'.v.ownBlock = some u.heap.size) :
    OS (u1.setCell ⟨g, pre.length, none⟩ r'.v) base (some ⟨g, 0, none⟩) c (pre ++ r' :: post) ∧ u1.grownBy (u1.setCell ⟨g, pre.length, none⟩ r'.v) (some g) := by
  have hl : (pre ++ r' :: post).length = (pre ++ r :: post).length := by simp
  have hgl := (h.outer.lt g rfl).2
  have hrg : ∀ x ∈ pre ++ r :: post, ∀ k, x.v.ownBlock = some k → k ≠ g := fun x hx k hk e => h.off x hx k hk (by subst e; rfl)
  have hr'g : ∀ k, r'.v.ownBlock = some k → k ≠ g := fun k hk e => by
    rcases hat with h1 | h1
    · exact hrg r (by simp) k (h1 ▸ hk) e
    · rw [h1] at hk
      have := Option.some.inj hk
      omega
  have ho1 : u1.ownsRow base 22 1 (.slice (some ⟨g, 0, none⟩) (pre ++ r :: post).length c) (pre ++ r :: post).length ((pre ++ r :: post).flatMap Rw.C) := by
    refine h.outer.kept hg (.inr (fun e => hrg r (by simp) g e.symm rfl))
  have hst := ho1.stored pre.length r'.v
  have hset : ((pre ++ r :: post).flatMap Rw.C).set pre.length r'.v = (pre ++ r' :: post).flatMap Rw.C := by
    rw [flat_v, flat_v, List.map_append, List.map_cons, List.set_append_right _ _ (by simp)]
    simp
  rw [hset] at hst
  have keep : ∀ x : Rw, Own0 u1 base x → (∀ k, x.v.ownBlock = some k → k ≠ g) → Own0 (u1.setCell ⟨g, pre.length, none⟩ r'.v) base x := fun x hx hne => owns_other hx hst.2 hne
  have hd := h.dist
  rw [List.pairwise_append, List.pairwise_cons] at hd
  obtain ⟨d0, ⟨d1, d2⟩, d3⟩ := hd
  have pass : ∀ x : Rw, Own0 u base x → (∀ k, x.v.ownBlock = some k → r.v.ownBlock ≠ some k) → Own0 u1 base x := fun x hx hne => hx.kept hg (by
    cases hv : x.v.ownBlock with
    | none => exact .inl rfl
    | some k => exact .inr (fun e => hne k hv e.symm))
  have hpre : ∀ x ∈ pre, Own0 (u1.setCell ⟨g, pre.length, none⟩ r'.v) base x := fun x hx =>
    keep x (pass x (h.each x (List.mem_append_left _ hx)) (fun k hk => d3 x hx r (List.mem_cons_self ..) k hk)) (hrg x (List.mem_append_left _ hx))
  have hpost : ∀ x ∈ post, Own0 (u1.setCell ⟨g, pre.length, none⟩ r'.v) base x := fun x hx =>
    keep x (pass x (h.each x (List.mem_append_right _ (List.mem_cons_of_mem _ hx))) (fun k hk e => d1 x hx k e hk)) (hrg x (List.mem_append_right _ (List.mem_cons_of_mem _ hx)))
  have lt : ∀ x ∈ pre ++ r :: post, ∀ k, x.v.ownBlock = some k → k < u.heap.size := fun x hx k hk => ((h.each x hx).lt k hk).2
  refine ⟨⟨by rw [hl]; exact hst.1, fun x hx => ?_, ?_, fun x hx k hk => ?_, fun x hx => ?_⟩, hst.2⟩
  · rcases List.mem_append.1 hx with h1 | h1
    · exact hpre x h1
    · rcases List.mem_cons.1 h1 with rfl | h1
      · exact keep _ h' hr'g
      · exact hpost x h1
  · rw [List.pairwise_append, List.pairwise_cons]
    refine ⟨d0, ⟨fun b hb k hk e => ?_, d2⟩, fun a ha b hb k hk e => ?_⟩
    · rcases hat with h1 | h1
      · exact d1 b hb k (h1 ▸ hk) e
      · rw [h1] at hk
        have h2 := Option.some.inj hk
        have h3 := lt b (List.mem_append_right _ (List.mem_cons_of_mem _ hb)) k e
        omega
    · rcases List.mem_cons.1 hb with rfl | hb
      · rcases hat with h1 | h1
        · exact d3 a ha r (List.mem_cons_self ..) k hk (h1 ▸ e)
        · rw [h1] at e
          have h2 := Option.some.inj e
          have h3 := lt a (List.mem_append_left _ ha) k hk
          omega
      · exact d3 a ha b (List.mem_cons_of_mem _ hb) k hk e
  · rw [hl]
    rcases List.mem_append.1 hx with h1 | h1
    · exact h.off x (List.mem_append_left _ h1) k hk
    · rcases List.mem_cons.1 h1 with rfl | h1
      · exact fun e => hr'g k hk (Option.some.inj e).symm
      · exact h.off x (List.mem_append_right _ (List.mem_cons_of_mem _ h1)) k hk
  · rcases List.mem_append.1 hx with h1 | h1
    · exact h.short x (List.mem_append_left _ h1)
    · rcases List.mem_cons.1 h1 with rfl | h1
      · exact (Own1.of_owns h').short
      · exact h.short x (List.mem_append_right _ (List.mem_cons_of_mem _ h1))
/-- what OS.grow asks of the list's own block, ahead of the store -/
theorem OS.outer1 {u u1 : World} {base g c : Nat} {pre post : List Rw} {r : Rw} (h : OS u base (some ⟨g, 0, none⟩) c (pre ++ r :: post)) (hg : u.grownBy u1 r.v.ownBlock) :
    u1.ownsRow base 22 1 (.slice (some ⟨g, 0, none⟩) (pre ++ r :: post).length c) (pre ++ r :: post).length ((pre ++ r :: post).flatMap Rw.C) :=
  h.outer.kept hg (.inr (fun e => h.off r (by simp) g e.symm rfl))
/-- rows of the call's own where another block grows -/
theorem OS.kept {u u1 : World} {base c : Nat} {A : Option Addr} {rs : List Rw} {b : Option Nat} (h : OS u base A c rs) (hg : u.grownBy u1 b) (hA : ∀ k, b = some k → (Value.slice A rs.length c).ownBlock ≠ some k) (hR : ∀ k, b = some k → ∀ r ∈ rs, r.v.ownBlock ≠ some k) : OS u1 base A c rs :=
  ⟨h.outer.kept hg (by
    cases hv : (Value.slice A rs.length c).ownBlock with
    | none => exact .inl rfl
    | some k => exact .inr (fun e => hA k e.symm hv)),
   fun r hr => (h.each r hr).kept hg (by
    cases hv : r.v.ownBlock with
    | none => exact .inl rfl
    | some k => exact .inr (fun e => hR k e.symm r hr hv)), h.dist, h.off, h.short⟩
/-- rows of the call's own, and a list of numbers beside them -/
structure SR (w : World) (base : Nat) (A : Option Addr) (c : Nat) (rs : List Rw) (v : Value) (ys : List Int) : Prop where
  os : OS w base A c rs
  own : w.ownsRow base 2 1 v ys.length (ys.flatMap intS.C)
  sepO : ∀ k, v.ownBlock = some k → (Value.slice A rs.length c).ownBlock ≠ some k
  sepR : ∀ k, v.ownBlock = some k → ∀ r ∈ rs, r.v.ownBlock ≠ some k
theorem SR.next {w w' : World} {base : Nat} {A : Option Addr} {c : Nat} {rs : List Rw} {v : Value} {ys : List Int} (h : SR w base A c rs v ys) (hb : Below w.heap.size w w') : SR w' base A c rs v ys :=
  ⟨h.os.next hb, owns_next h.own hb, h.sepO, h.sepR⟩
theorem SR.lower {w : World} {base base' : Nat} {A : Option Addr} {c : Nat} {rs : List Rw} {v : Value} {ys : List Int} (h : SR w base A c rs v ys) (hb : base' ≤ base) : SR w base' A c rs v ys :=
  ⟨h.os.lower hb, owns_below h.own hb, h.sepO, h.sepR⟩
/-- the list of numbers is another one now, in its old block or in a new one -/
theorem SR.rest {u u1 : World} {base c : Nat} {A : Option Addr} {rs : List Rw} {v v' : Value} {ys ys' : List Int} (h : SR u base A c rs v ys) (hg : u.grownBy u1 v.ownBlock) (h' : u1.ownsRow base 2 1 v' ys'.length (ys'.flatMap intS.C))
    (hat : v'.ownBlock = v.ownBlock ∨ v'.ownBlock = some u.heap.size) : SR u1 base A c rs v' ys' := by
  refine ⟨h.os.kept hg (fun k hk => h.sepO k hk) (fun k hk => h.sepR k hk), h', fun k hk e => ?_, fun k hk r hr e => ?_⟩
  · rcases hat with h1 | h1
    · exact h.sepO k (h1 ▸ hk) e
    · rw [h1] at hk
      have h2 := Option.some.inj hk
      have h3 := (h.os.outer.lt k e).2
      omega
  · rcases hat with h1 | h1
    · exact h.sepR k (h1 ▸ hk) r hr e
    · rw [h1] at hk
      have h2 := Option.some.inj hk
      have h3 := ((h.os.each r hr).lt k e).2
      omega
/-- one row is another one now -/
theorem SR.row {u u1 : World} {base g c : Nat} {pre post : List Rw} {r r' : Rw} {v : Value} {ys : List Int} (h : SR u base (some ⟨g, 0, none⟩) c (pre ++ r :: post) v ys) (hg : u.grownBy u1 r.v.ownBlock) (h' : Own0 u1 base r')
    (hat : r'.v.ownBlock = r.v.ownBlock ∨ r'.v.ownBlock = some u.heap.size) : SR (u1.setCell ⟨g, pre.length, none⟩ r'.v) base (some ⟨g, 0, none⟩) c (pre ++ r' :: post) v ys := by
  obtain ⟨h1, h2⟩ := h.os.grow hg h' hat
  have hl : (pre ++ r' :: post).length = (pre ++ r :: post).length := by simp
  have hv1 : u1.ownsRow base 2 1 v ys.length (ys.flatMap intS.C) := h.own.kept hg (by
    cases hv : v.ownBlock with
    | none => exact .inl rfl
    | some k => exact .inr (fun e => h.sepR k hv r (by simp) e.symm))
  refine ⟨h1, owns_other hv1 h2 (fun k hk e => h.sepO k hk (by rw [← e]; rfl)), fun k hk => by rw [hl]; exact h.sepO k hk, fun k hk x hx e => ?_⟩
  rcases List.mem_append.1 hx with hx | hx
  · exact h.sepR k hk x (List.mem_append_left _ hx) e
  · rcases List.mem_cons.1 hx with rfl | hx
    · rcases hat with h3 | h3
      · exact h.sepR k hk r (by simp) (h3 ▸ e)
      · rw [h3] at e
        have h4 := Option.some.inj e
        have h5 := (h.own.lt k hk).2
        omega
    · exact h.sepR k hk x (List.mem_append_right _ (List.mem_cons_of_mem _ hx)) e
end Go.Proofs.YtdcckdfemelbiaaDoor.rows

/-
  Lists of rows: what was marked is still held.
-/
namespace Go.Proofs.YtdcckdfemelbiaaDoor.rows
open Go Go.RowKit sl

theorem markR_split (k : Int) (a b : List Rw) : markR k (a ++ b) = markR k a ++ markR (k + tot a) b := by
  induction a generalizing k with
  | nil => simp [markR, tot]
  | cons x t ih =>
    simp only [List.cons_append, markR, ih, tot, List.cons.injEq, true_and]
    have e : k + (x.xs.length : Int) + (tot t : Int) = k + ((x.xs.length + tot t : Nat) : Int) := by push_cast; omega
    rw [e]
set_option maxRecDepth 100000 in
set_option maxHeartbeats 2000000 in
theorem heldSS_any (w : World) (A : Option Addr) (c n : Nat) (rs : List Rw) (en : n = rs.length) (k0 : Int) (h : SS w w.heap.size A (markR k0 rs)) (hk : 0 ≤ k0 ∧ k0 ≤ 1000000000) (hn : n + tot rs ≤ 1048576) :
    Calls Tryd.prog 26 #[.slice A n c, .int .i64 k0] w fun e w' => e = .returned (.int .i64 (k0 + tot rs)) ∧ w = w' := by
  have En := Lib.hid en
  have H0 := Lib.hid h
  clear en h
  go_enter Tryd.func26, Tryd.ntmps26
  go_wp2_with fail
  go_loop [1, 5] (fun vk vi => ∃ (k : Nat) (pre post : List Rw), k ≤ n ∧ vi = .int .i64 k ∧ vk = .int .i64 (k0 + tot pre) ∧ rs = pre ++ post ∧ pre.length = k) (fun _ vi => n - (intOf vi).toNat)
  case atStart => exact ⟨0, [], rs, by omega, rfl, by simp [tot], rfl, rfl⟩
  case round =>
    obtain ⟨k, pre, post, hk', rfl, rfl, hz2, hz3⟩ := hrel
    have HZ := Lib.hid hz2
    have HP := Lib.hid hz3
    have htot : tot pre + tot post ≤ 1048576 := by rw [← tot_append, ← hz2]; omega
    have HTT := Lib.hid htot
    clear hz2 hz3 htot
    by_cases hlt : k < n
    · obtain ⟨r, t, ht⟩ : ∃ r t, post = r :: t := by
        cases post with
        | nil =>
          exfalso
          have h1 := congrArg List.length HZ.out
          have h2 := HP.out
          have h3 := En.out
          simp only [List.length_append, List.length_nil] at h1
          omega
        | cons r t => exact ⟨r, t, rfl⟩
      subst ht
      have hr : (markR k0 rs)[k]? = some ⟨r.A, r.c, intS.marks (k0 + tot pre) r.xs.length⟩ := by
        rw [HZ.out, markR_split, List.getElem?_append_right (by rw [markR_len, HP.out]; exact Nat.le_refl _), markR_len, HP.out, Nat.sub_self]; rfl
      obtain ⟨a, rfl, hab, q0⟩ := H0.out.head hr
      have hO1 := H0.out.each _ (List.mem_of_getElem? hr)
      simp only [intS.marks_len] at q0 hO1
      have hp1 : tot pre ≤ 1048576 := by have := HTT.out; omega
      have hp2 : r.xs.length ≤ 1048576 := by have := HTT.out; simp only [tot] at this; omega
      have HM := Lib.hid (intS.heldS_any r.A r.xs.length r.c (k0 + tot pre) (by omega) hp2 _ _ hO1)
      have hno : decide (k0 + (tot pre : Int) + (r.xs.length : Int) < 0) = false := by simp; omega
      clear hr hO1
      go_wp2_with fail
      refine HM.out.mono ?_
      rintro o u ⟨rfl, rfl⟩
      go_wp2_with fail
      go_round
      case rel => exact ⟨k + 1, pre ++ [r], t, by omega, by go_num, by rw [tot_snoc]; push_cast; rw [Int.add_assoc], by rw [HZ.out]; simp, by rw [List.length_append, HP.out]; rfl⟩
      case measure => simp [intOf]; omega
    · obtain rfl : k = n := by omega
      have hpost : post = [] := by
        have h1 := congrArg List.length HZ.out
        have h2 := HP.out
        have h3 := En.out
        rw [List.length_append] at h1
        exact List.length_eq_zero_iff.1 (by omega)
      have ht : rs = pre := by rw [HZ.out, hpost, List.append_nil]
      rw [← ht]
      go_wp2_with fail
      go_ret
      exact ⟨rfl, rfl⟩
end Go.Proofs.YtdcckdfemelbiaaDoor.rows

/-
  Sheet: its contracts: copied, held against another one, counted.
-/
namespace Go.Proofs.YtdcckdfemelbiaaDoor
open Go.RowKit

/-- the numbers of a Sheet -/
structure She where
  wide : Int
  high : Int
  lay : Int

/-- they are in the range of their kinds -/
structure She.Fits (x : She) : Prop where
  wide0 : -32768 ≤ x.wide
  wide1 : x.wide ≤ 32767
  high0 : -32768 ≤ x.high
  high1 : x.high ≤ 32767
  lay0 : -32768 ≤ x.lay
  lay1 : x.lay ≤ 32767
abbrev She.cells (x : She) : List Value := [.int .i16 x.wide, .int .i16 x.high, .int .i16 x.lay]
abbrev She.v (x : She) : Value := .agg #[.int .i16 x.wide, .int .i16 x.high, .int .i16 x.lay]
theorem She.len (xs : List She) : ∀ x ∈ xs, (She.cells x).length = 3 := fun _ _ => rfl
/-- are two equal -/
def She.eq (x y : She) : Bool := x.wide == y.wide && (x.high == y.high && (x.lay == y.lay))
theorem She.eq_iff (x y : She) : She.eq x y = true ↔ x = y := by
  cases x
  cases y
  simp [She.eq]
end Go.Proofs.YtdcckdfemelbiaaDoor
namespace Go.Proofs.YtdcckdfemelbiaaDoor.sheS
open Go.RowKit sl

theorem at_ {w : World} {p : Addr} {x : She} (h : At w p x.cells) :
    w.cell? p = some (.int .i16 x.wide) ∧ w.cell? ⟨p.block, p.off + 1, none⟩ = some (.int .i16 x.high) ∧ w.cell? ⟨p.block, p.off + 2, none⟩ = some (.int .i16 x.lay) :=
  ⟨h 0 _ rfl, h 1 _ rfl, h 2 _ rfl⟩

set_option maxHeartbeats 1000000 in
theorem to_any (x : She) (w : World) :
    Calls Tryd.prog 34 #[x.v] w fun e w' => e = .returned x.v ∧ Below w.heap.size w w' := by
  go_enter Tryd.func34, Tryd.ntmps34
  go_wp2
  refine bodyPost_ret (v := x.v) (by simp [results, Tryd.results34, go_sem]) rfl ⟨rfl, ?_⟩
  repeat (first | exact Below.refl _ _ | assumption | apply Below.drew | (refine Below.alloc ?_ (by first | (simp; done) | (simp; omega) | omega) _) | (refine Below.setCell ?_ (by first | (simp; done) | (simp; omega) | omega) _))
theorem to_parts (wide high lay : Int) (w : World) :
    Calls Tryd.prog 34 #[.agg #[.int .i16 wide, .int .i16 high, .int .i16 lay]] w fun e w' => e = .returned (.agg #[.int .i16 wide, .int .i16 high, .int .i16 lay]) ∧ Below w.heap.size w w' := to_any ⟨wide, high, lay⟩ w


set_option maxHeartbeats 1000000 in
theorem eq_any (x y : She) (w : World) :
    Calls Tryd.prog 38 #[x.v, y.v] w fun e w' => e = .returned (.bool (She.eq x y)) ∧ Below w.heap.size w w' := by
  go_enter Tryd.func38, Tryd.ntmps38
  go_wp2_with fail
  all_goals go_ret
  all_goals exact ⟨ret_bool (by simp only [She.eq]; first | (simp [*]; done) | (simp_all; done)), ((Below.refl _ _).alloc (Nat.le_refl _) _).alloc (by simp) _⟩

end Go.Proofs.YtdcckdfemelbiaaDoor.sheS

/-
  Results that are lists of the call's own: what a contract says of them.
-/
namespace Go.Proofs.YtdcckdfemelbiaaDoor.hang
open Go.RowKit sl

/-- a list of the call's own, and a number -/
def Own2 (w : World) (ys : List Int) (z : Int) (o : Ending) (w' : World) : Prop :=
  ∃ v, o = .returned (.tuple #[v, .int .i64 z]) ∧ w'.ownsRow w.heap.size 2 1 v ys.length (ys.flatMap intS.C) ∧ Below w.heap.size w w'
/-- a list of the call's own, and two numbers -/
def Own3 (w : World) (ys : List Int) (y z : Int) (o : Ending) (w' : World) : Prop :=
  ∃ v, o = .returned (.tuple #[v, .int .i64 y, .int .i64 z]) ∧ w'.ownsRow w.heap.size 2 1 v ys.length (ys.flatMap intS.C) ∧ Below w.heap.size w w'
/-- one list of the call's own -/
def Own1 (w : World) (ys : List Int) (o : Ending) (w' : World) : Prop :=
  ∃ v, o = .returned v ∧ w'.ownsRow w.heap.size 2 1 v ys.length (ys.flatMap intS.C) ∧ Below w.heap.size w w'
theorem owns_none (w : World) (b : Nat) : w.ownsRow b 2 1 (.slice none 0 0) ([] : List Int).length (([] : List Int).flatMap intS.C) := World.ownsRow_nil w b 2 1
theorem owns_void (w : World) {b : Nat} (hb : b ≤ w.heap.size) : (w.alloc (.cells #[] 2)).ownsRow b 2 1 (.slice (some ⟨w.heap.size, 0, none⟩) 0 0) ([] : List Int).length (([] : List Int).flatMap intS.C) :=
  World.ownsRow_lit w #[] 0 hb (by unfold maxLen; simp) rfl
end Go.Proofs.YtdcckdfemelbiaaDoor.hang

/-
  Rows that are not too long: small facts.
-/
namespace Go.Proofs.YtdcckdfemelbiaaDoor.rows
open Go Go.RowKit sl
theorem tot_leH {rs : List Rw} {n : Nat} (h : n + tot rs ≤ 1048576) : ∀ r ∈ rs, r.xs.length ≤ 1048576 := fun r hr => by
  have := tot_mem hr
  omega
theorem nums_short {rs rs' : List Rw} (h : nums rs' = nums rs) (hs : ∀ r ∈ rs, r.xs.length ≤ 1048576) : ∀ r ∈ rs', r.xs.length ≤ 1048576 := fun r hr => by
  have h1 : r.xs ∈ nums rs' := List.mem_map.2 ⟨r, hr, rfl⟩
  rw [h] at h1
  obtain ⟨q, hq, e⟩ := List.mem_map.1 h1
  rw [← e]
  exact hs q hq
end Go.Proofs.YtdcckdfemelbiaaDoor.rows
