/-
  Several texts of this proof, joined.
-/
import Derived.Test.YtjfimmfnhlimkaaDoorRows
import Derived.Test.YtjfimmfnhlimkaaDoorSl
import Derived.Test.YtjfimmfnhlimkaaDoorWords
import Derived.WalkKit
import Derived.WalkSpells
import Derived.WalkLawsBesides
import Derived.Lib.Hide
import Derived.Deep.QuietTactic
import Derived.BigQuiet
import Derived.Deep.RegionHeld3
import Derived.Deep.MidRow
import Derived.Test.YtjfimmfnhlimkaaDoorGarm
import Derived.Test.YtjfimmfnhlimkaaDoorJoin6
import Derived.IntWalk
/-
  Lists of numbers (int64): copied, held against each other, marked.
-/
namespace Go.Proofs.YtjfimmfnhlimkaaDoor.intS
open Go.RowKit sl

abbrev C (x : Int) : List Value := cInt .i64 x
theorem len (xs : List Int) : ∀ x ∈ xs, (C x).length = 1 := fun _ _ => rfl
theorem at_ {w : World} {a : Addr} {k : Nat} {x : Int} (h : At w (a.add (k * 1)) (C x)) : w.cell? (a.add k) = some (.int .i64 x) := by
  have h0 := h 0 _ rfl
  rw [Nat.mul_one] at h0
  exact h0
theorem info : (Tryd.prog.info? 2).map (fun i => (i.zero, i.size, i.bytes)) = some (some (.int .i64 0), 1, 8) := by kernel_rfl

set_option maxHeartbeats 2000000 in
theorem toS_any (A : Option Addr) (n c : Nat) (xs : List Int) (en : n = xs.length) (hn : n ≤ 1048576) (w : World) (hg : Sl C 1 w w.heap.size A xs) :
    Calls Tryd.prog 108 #[.slice A n c] w fun e w' => ∃ g, e = .returned (.slice (some ⟨g, 0, none⟩) n n) ∧
      w'.ownsRow w.heap.size 2 1 (.slice (some ⟨g, 0, none⟩) n n) n (xs.flatMap C) ∧ Below w.heap.size w w' := by
  obtain ⟨i0, hi, hz0, hz1, hz2⟩ := info_parts info
  have En := Lib.hid en
  clear en
  have hmk : ∀ u : World, (Instr.makeSlice 101 (.int .i64 (n : Int)) (.int .i64 (n : Int))).run Tryd.prog u =
      .ok (.slice (some ⟨u.heap.size, 0, none⟩) n n) (u.alloc (.cells (madeCells #[.int .i64 0] n) 2)) := fun u => by
    have h := run_make (P := Tryd.prog) u 101 2 i0 _ Tryd.underlying101 hi hz0 .i64 .i64 (n : Int) (n : Int) (by omega) (Int.le_refl _) (by rw [hz2]; omega) (by omega)
    have e : ((n : Int)).toNat = n := by omega
    rw [e] at h
    simpa [hz1, Value.cells] using h
  go_enter Tryd.func108, Tryd.ntmps108
  have hB0 : Below w.heap.size w (w.alloc (.cells (madeCells #[.int .i64 0] n) 2)) := (Below.refl _ _).alloc (Nat.le_refl _) _
  have hP0 : (w.alloc (.cells (madeCells #[.int .i64 0] n) 2)).ownsRow w.heap.size 2 1 (.slice (some ⟨w.heap.size, 0, none⟩) n n) n _ :=
    World.ownsRow_lit w (madeCells #[.int .i64 0] n) n (Nat.le_refl _) (by unfold maxLen; omega) (by rw [size_madeCells, Nat.mul_one])
  have HP0 := Lib.hid hP0
  clear hP0
  go_wp2_with fail
  go_loopw [4] (fun vi wr => ∃ k L, k ≤ n ∧ vi = .int .i64 (k : Nat) ∧ wr.ownsRow w.heap.size 2 1 (.slice (some ⟨w.heap.size, 0, none⟩) n n) n L ∧ Done C 1 xs k L ∧ Below w.heap.size w wr) (fun vi _ => n - (intOf vi).toNat)
  case atStart => exact ⟨0, _, by omega, rfl, HP0.out, Done.zero _ _ _ _, hB0⟩
  case round =>
    clear hB0 HP0
    obtain ⟨k, L, hk, rfl, hP, hD, hB⟩ := hrel
    by_cases hlt : k < n
    · obtain ⟨x, hx⟩ : ∃ x, xs[k]? = some x := ⟨xs[k]'(by have := En.out; omega), List.getElem?_eq_getElem _⟩
      obtain ⟨a, rfl, hab, hat⟩ := (hg.below hB).at_ k x hx
      have q0 := at_ hat
      have HX := Lib.hid hx
      have HD := Lib.hid hD
      have hLL := hP.1
      obtain ⟨v0, s0⟩ : ∃ v, wr.cell? ⟨w.heap.size, k, none⟩ = some v := ⟨L[k]'(by omega), (hP.cellAt k (by omega)).trans (List.getElem?_eq_getElem _)⟩
      have f0 := hP.frozenAt k
      have HLL := Lib.hid hLL
      have HP := Lib.hid hP
      clear hLL hP hx hat hD
      go_wp2_with fail
      go_roundw
      case rel =>
        have hP3 := (HP.out.stored k (.int .i64 x)).1
        refine ⟨k + 1, _, by omega, by go_num, hP3, ?_, hB.setCell (p := ⟨w.heap.size, k, none⟩) (Nat.le_refl _) _⟩
        have hd := HD.out.step (len xs) HX.out (by rw [HLL.out, En.out])
        rw [Nat.mul_one] at hd
        exact hd
      case measure => simp [intOf]; omega
    · go_wp2_with fail
      obtain rfl : k = n := by omega
      go_ret
      have hl := En.out
      have e : L = xs.flatMap C := Done.full (by rw [← hl]; exact hD) (len xs) (by omega) (by rw [hP.1, hl])
      rw [← e]
      exact ⟨_, rfl, hP, hB⟩

set_option maxHeartbeats 2000000 in
theorem eqS_any (A A' : Option Addr) (n n' c c' : Nat) (xs ys : List Int) (en : n = xs.length) (en' : n' = ys.length) (hn : n ≤ 1048576) (hn' : n' ≤ 9223372036854775807) (w : World) (hg : Sl C 1 w w.heap.size A xs) (hg' : Sl C 1 w w.heap.size A' ys) (b : Bool) (hb : b = true ↔ xs = ys) :
    Calls Tryd.prog 111 #[.slice A n c, .slice A' n' c'] w fun e w' => e = .returned (.bool b) ∧ Below w.heap.size w w' := by
  have En := Lib.hid en
  have En' := Lib.hid en'
  have Hb := Lib.hid hb
  clear en en' hb
  by_cases hlen : n = n'
  · subst hlen
    go_enter Tryd.func111, Tryd.ntmps111
    go_wp2_with fail
    go_loopw [5] (fun vi wr => ∃ k : Nat, k ≤ n ∧ vi = .int .i64 k ∧ (∀ i, i < k → xs[i]? = ys[i]?) ∧ ∃ m, wr = w.drewN m) (fun vi _ => n - (intOf vi).toNat)
    case atStart => exact ⟨0, by omega, rfl, fun i hi => absurd hi (by omega), 0, rfl⟩
    case round =>
      obtain ⟨k, hk, rfl, hsame, m, rfl⟩ := hrel
      by_cases hlt : k < n
      · obtain ⟨x, hx⟩ : ∃ x, xs[k]? = some x := ⟨xs[k]'(by have := En.out; omega), List.getElem?_eq_getElem _⟩
        obtain ⟨y, hy⟩ : ∃ y, ys[k]? = some y := ⟨ys[k]'(by have := En'.out; omega), List.getElem?_eq_getElem _⟩
        obtain ⟨a, rfl, hab, hat⟩ := hg.at_ k x hx
        obtain ⟨a', rfl, hab', hat'⟩ := hg'.at_ k y hy
        have q0 := at_ hat
        have r0 := at_ hat'
        have HX := Lib.hid hx
        have HY := Lib.hid hy
        clear hx hy hat hat'
        by_cases hxy : x = y
        · subst hxy
          go_wp2_with fail
          go_quiet (fail)
          go_wp2_with fail
          go_roundw
          case rel => exact ⟨k + 1, by omega, by go_num, fun i hi => by
            rcases Nat.lt_or_ge i k with h1 | h1
            · exact hsame i h1
            · obtain rfl : i = k := by omega
              rw [HX.out, HY.out], _, rfl⟩
          case measure => simp [intOf]; omega
        · have hne : (x != y) = true := by rw [bne_iff_ne]; exact hxy
          go_wp2_with fail
          go_quiet (fail)
          go_wp2_with fail
          go_ret
          refine ⟨ret_bool ?_, (below_drewN _ _ _).trans (below_drewN _ _ _)⟩
          cases hbb : b with
          | false => rfl
          | true =>
            have he := Hb.out.1 hbb
            have h1 := HX.out
            rw [he, HY.out] at h1
            exact absurd (Option.some.inj h1).symm hxy
      · go_wp2_with fail
        go_ret
        refine ⟨ret_bool ?_, below_drewN _ _ _⟩
        exact (Hb.out.2 (lists_eq En.out En'.out fun i hi => hsame i (by omega))).symm
  · have hno : b = false := by
      cases hbb : b with
      | false => rfl
      | true => exact absurd ((En.out.trans (congrArg List.length (Hb.out.1 hbb))).trans En'.out.symm) hlen
    subst hno
    have hl : ((n : Int) != (n' : Int)) = true := by rw [bne_iff_ne]; omega
    clear hlen
    go_enter Tryd.func111, Tryd.ntmps111
    go_wp2_with fail
    go_ret
    exact ⟨rfl, Below.refl _ _⟩

/-- the numbers from k on -/
def marks (k : Int) (n : Nat) : List Int := (List.range n).map fun i : Nat => k + (i : Int)
theorem marks_len (k : Int) (n : Nat) : (marks k n).length = n := by simp [marks]
theorem marks_at (k : Int) (n i : Nat) (h : i < n) : (marks k n)[i]? = some (k + i) := by simp [marks, h]

set_option maxHeartbeats 2000000 in
theorem markS_row (base g n c : Nat) (k0 : Int) (hk : 0 ≤ k0 ∧ k0 ≤ 1000000000000) (hn : n ≤ 1048576) (L : List Value) (w : World) (hP : w.ownsRow base 2 1 (.slice (some ⟨g, 0, none⟩) n c) n L) :
    Calls Tryd.prog 114 #[.slice (some ⟨g, 0, none⟩) n c, .int .i64 k0] w fun e w' => e = .returned (.int .i64 (k0 + n)) ∧
      w'.ownsRow base 2 1 (.slice (some ⟨g, 0, none⟩) n c) n ((marks k0 n).flatMap C) ∧ w.grownBy w' (some g) := by
  have HP0 := Lib.hid hP
  clear hP
  go_enter Tryd.func114, Tryd.ntmps114
  go_wp2_with fail
  go_loopw [1, 5] (fun vk vi wr => ∃ k L, k ≤ n ∧ vi = .int .i64 (k : Nat) ∧ vk = .int .i64 (k0 + k) ∧ wr.ownsRow base 2 1 (.slice (some ⟨g, 0, none⟩) n c) n L ∧ Done C 1 (marks k0 n) k L ∧ w.grownBy wr (some g)) (fun _ vi _ => n - (intOf vi).toNat)
  case atStart => exact ⟨0, _, by omega, rfl, by simp, HP0.out, Done.zero _ _ _ _, ⟨rfl, rfl, rfl, Nat.le_refl _, fun _ _ _ => rfl⟩⟩
  case round =>
    obtain ⟨k, L, hk', rfl, rfl, hP, hD, hB⟩ := hrel
    by_cases hlt : k < n
    · have HX := Lib.hid (marks_at k0 n k hlt)
      have HD := Lib.hid hD
      have hLL := hP.1
      obtain ⟨v0, s0⟩ : ∃ v, wr.cell? ⟨g, k, none⟩ = some v := ⟨L[k]'(by omega), (hP.cellAt k (by omega)).trans (List.getElem?_eq_getElem _)⟩
      have f0 := hP.frozenAt k
      have HLL := Lib.hid hLL
      have HP := Lib.hid hP
      clear hLL hP hD
      go_wp2_with fail
      go_roundw
      case rel =>
        have hP3 := HP.out.stored k (.int .i64 (k0 + k))
        have g2 := hP3.2
        refine ⟨k + 1, _, by omega, by go_num, by go_num, hP3.1, ?_, ⟨g2.os.trans hB.os, g2.tape.trans hB.tape, g2.output.trans hB.output, Nat.le_trans hB.size g2.size, fun i hi hne => (g2.block i (Nat.lt_of_lt_of_le hi hB.size) hne).trans (hB.block i hi hne)⟩⟩
        have hd := HD.out.step (len _) HX.out (by rw [HLL.out, marks_len])
        rw [Nat.mul_one] at hd
        exact hd
      case measure => simp [intOf]; omega
    · go_wp2_with fail
      obtain rfl : k = n := by omega
      go_ret
      have e : L = (marks k0 k).flatMap C := Done.full (by rw [marks_len]; exact hD) (len _) (by omega) (by rw [hP.1, marks_len])
      rw [← e]
      exact ⟨rfl, hP, hB⟩
set_option maxHeartbeats 1000000 in
theorem markS_nil (k0 : Int) (w : World) :
    Calls Tryd.prog 114 #[.slice none 0 0, .int .i64 k0] w fun e w' => e = .returned (.int .i64 k0) ∧ w = w' := by
  go_enter Tryd.func114, Tryd.ntmps114
  go_wp2_with fail
  refine wp_loop_rounds 1 ?_
  rw [rounds_succ]
  go_wp2_with fail
  go_ret
  exact ⟨rfl, rfl⟩
/-- a row of the call's own is marked -/
theorem markS_any (base : Nat) (v : Value) (n : Nat) (k0 : Int) (hk : 0 ≤ k0 ∧ k0 ≤ 1000000000000) (hn : n ≤ 1048576) (L : List Value) (w : World) (hP : w.ownsRow base 2 1 v n L) :
    Calls Tryd.prog 114 #[v, .int .i64 k0] w fun e w' => e = .returned (.int .i64 (k0 + n)) ∧ w'.ownsRow base 2 1 v n ((marks k0 n).flatMap C) ∧ ∃ g, base ≤ g ∧ w.grownBy w' (some g) ∧ (v.ownBlock = none ∨ v.ownBlock = some g) := by
  obtain ⟨h1, h2⟩ := hP
  rcases h2 with ⟨rfl, rfl⟩ | ⟨g, c, cur, rfl, hg, rest⟩
  · refine (markS_nil k0 w).mono ?_
    rintro e w' ⟨rfl, rfl⟩
    exact ⟨by simp, by simpa [marks] using World.ownsRow_nil w base 2 1, base, Nat.le_refl _, ⟨rfl, rfl, rfl, Nat.le_refl _, fun _ _ _ => rfl⟩, .inl rfl⟩
  · refine (markS_row base g n c k0 hk hn L w ⟨h1, .inr ⟨g, c, cur, rfl, hg, rest⟩⟩).mono ?_
    rintro e w' ⟨rfl, hP', hgr⟩
    exact ⟨rfl, hP', g, hg, hgr, .inr rfl⟩

set_option maxHeartbeats 2000000 in
theorem heldS_any (A : Option Addr) (n c : Nat) (k0 : Int) (hk : 0 ≤ k0 ∧ k0 ≤ 1000000000000) (hn : n ≤ 1048576) (w : World) (B : Nat) (hg : Sl C 1 w B A (marks k0 n)) :
    Calls Tryd.prog 115 #[.slice A n c, .int .i64 k0] w fun e w' => e = .returned (.int .i64 (k0 + n)) ∧ w = w' := by
  go_enter Tryd.func115, Tryd.ntmps115
  go_wp2_with fail
  go_loop [1, 5] (fun vk vi => ∃ k : Nat, k ≤ n ∧ vi = .int .i64 k ∧ vk = .int .i64 (k0 + k)) (fun _ vi => n - (intOf vi).toNat)
  case atStart => exact ⟨0, by omega, rfl, by simp⟩
  case round =>
    obtain ⟨k, hk', rfl, rfl⟩ := hrel
    by_cases hlt : k < n
    · obtain ⟨a, rfl, hab, hat⟩ := hg.at_ k _ (marks_at k0 n k hlt)
      have q0 := at_ hat
      clear hat
      go_wp2_with fail
      go_round
      case rel => exact ⟨k + 1, by omega, by go_num, by go_num⟩
      case measure => simp [intOf]; omega
    · go_wp2_with fail
      obtain rfl : k = n := by omega
      go_ret
      exact ⟨rfl, rfl⟩
end Go.Proofs.YtjfimmfnhlimkaaDoor.intS

/-
  A block of one value that has just been made.
-/
namespace Go.Proofs.YtjfimmfnhlimkaaDoor.fold
open Go Go.RowKit sl

theorem one_newI (w : World) (v : Value) (T : TypeId) : ∀ (j : Nat) u, [v][j]? = some u → (w.alloc (.cells #[v] T)).cell? ((⟨w.heap.size, 0, none⟩ : Addr).add j) = some u := by
  intro j x hj
  rw [add_lit, cell_of_row _ _ _ _ _ _ (heap_alloc_new w _)]
  simpa using hj
theorem one_newB (w : World) (g : Nat) (v : Value) (T : TypeId) (hg : g = w.heap.size) : ∀ (j : Nat) u, [v][j]? = some u → (w.alloc (.cells #[v] T)).cell? ((⟨g, 0, none⟩ : Addr).add j) = some u := by
  subst hg
  exact one_newI w v T
theorem one_cellI {v : Value} (h : v.oneCell' = true) : ∀ u ∈ [v], u.oneCell' = true := by
  intro u hu
  rw [List.mem_singleton.1 hu]
  exact h
theorem flat_snoc (xs : List Int) (n : Int) : (xs ++ [n]).flatMap intS.C = xs.flatMap intS.C ++ [.int .i64 n] := by simp [intS.C]
end Go.Proofs.YtjfimmfnhlimkaaDoor.fold

/-
  Contracts of the functions on lists of garments: lists are copied, and held against each other.
-/
namespace Go.Proofs.YtjfimmfnhlimkaaDoor.garS
open Go.RowKit

/-- a garment's four cells lie at p -/
structure GarAt (w : World) (p : Addr) (x : Gar) : Prop where
  c0 : w.cell? p = some (.int .u8 x.c)
  c1 : w.cell? ⟨p.block, p.off + 1, none⟩ = some (.int .i8 x.n)
  c2 : w.cell? ⟨p.block, p.off + 2, none⟩ = some (.int .i8 x.m)
  c3 : w.cell? ⟨p.block, p.off + 3, none⟩ = some (.int .i16 x.g)

/-- a slice that reads as a list of garments, all below block B -/
structure GS (w : World) (B : Nat) (A : Option Addr) (gs : List Gar) : Prop where
  at_ : ∀ k x, gs[k]? = some x → ∃ a, A = some a ∧ a.block < B ∧ GarAt w (a.add (k * 4)) x
  fits : ∀ x ∈ gs, x.Fits

theorem block_add (a : Addr) (n : Nat) : (a.add n).block = a.block := by unfold Addr.add; split <;> rfl

theorem GarAt.keep {w w' : World} {p : Addr} {x : Gar} (h : GarAt w p x) (hk : ∀ q : Addr, q.block = p.block → w'.cell? q = w.cell? q) : GarAt w' p x :=
  ⟨(hk p rfl).trans h.c0, (hk ⟨p.block, p.off + 1, none⟩ rfl).trans h.c1, (hk ⟨p.block, p.off + 2, none⟩ rfl).trans h.c2, (hk ⟨p.block, p.off + 3, none⟩ rfl).trans h.c3⟩
theorem GS.keep {w w' : World} {B : Nat} {A : Option Addr} {gs : List Gar} (h : GS w B A gs) (hk : ∀ q : Addr, q.block < B → w'.cell? q = w.cell? q) : GS w' B A gs :=
  ⟨fun k x hx => by
    obtain ⟨a, e, hb, hg⟩ := h.at_ k x hx
    exact ⟨a, e, hb, hg.keep fun q hq => hk q (by rw [hq, block_add]; exact hb)⟩, h.fits⟩
theorem GS.below {w w' : World} {B : Nat} {A : Option Addr} {gs : List Gar} (h : GS w B A gs) (hb : Below B w w') : GS w' B A gs := h.keep fun _ hq => hb.cell hq
theorem GS.more {w : World} {B B' : Nat} {A : Option Addr} {gs : List Gar} (h : GS w B A gs) (hB : B ≤ B') : GS w B' A gs :=
  ⟨fun k x hx => by
    obtain ⟨a, e, hb, hg⟩ := h.at_ k x hx
    exact ⟨a, e, Nat.lt_of_lt_of_le hb hB, hg⟩, h.fits⟩

/-- block g holds the first k of some garments -/
structure Part (w : World) (g n : Nat) (gs : List Gar) (k : Nat) (cs : Array Value) : Prop where
  heap : w.heap[g]? = some (.cells cs 118 (0, 0))
  size : cs.size = n * 4
  at_ : ∀ i x, i < k → gs[i]? = some x → cs[i * 4]? = some (.int .u8 x.c) ∧ cs[i * 4 + 1]? = some (.int .i8 x.n) ∧ cs[i * 4 + 2]? = some (.int .i8 x.m) ∧ cs[i * 4 + 3]? = some (.int .i16 x.g)

theorem Part.step {w : World} {g n : Nat} {gs : List Gar} {k : Nat} {cs : Array Value} (h : Part w g n gs k cs) {x : Gar} (hx : gs[k]? = some x) (hk : k < n) :
    ∃ cs', Part (w.setCells g (k * 4) [.int .u8 x.c, .int .i8 x.n, .int .i8 x.m, .int .i16 x.g]) g n gs (k + 1) cs' := by
  have h0 := heap_setCell_same w g (k * 4) cs 118 (.int .u8 x.c) h.heap
  have h1 := heap_setCell_same _ g (k * 4 + 1) _ 118 (.int .i8 x.n) h0
  have h2 := heap_setCell_same _ g (k * 4 + 1 + 1) _ 118 (.int .i8 x.m) h1
  have h3 := heap_setCell_same _ g (k * 4 + 1 + 1 + 1) _ 118 (.int .i16 x.g) h2
  have hs := h.size
  refine ⟨_, h3, by simp [h.size], fun i y hi hy => ?_⟩
  rcases Nat.lt_or_ge i k with hik | hik
  · obtain ⟨e0, e1, e2, e3⟩ := h.at_ i y hik hy
    refine ⟨?_, ?_, ?_, ?_⟩
    all_goals
      rw [Array.getElem?_setIfInBounds_ne (by omega), Array.getElem?_setIfInBounds_ne (by omega), Array.getElem?_setIfInBounds_ne (by omega), Array.getElem?_setIfInBounds_ne (by omega)]
      assumption
  · obtain rfl : i = k := by omega
    obtain rfl : x = y := by rw [hx] at hy; exact Option.some.inj hy
    refine ⟨?_, ?_, ?_, ?_⟩
    · rw [Array.getElem?_setIfInBounds_ne (by omega), Array.getElem?_setIfInBounds_ne (by omega), Array.getElem?_setIfInBounds_ne (by omega), Array.getElem?_setIfInBounds_self_of_lt (by omega)]
    · rw [Array.getElem?_setIfInBounds_ne (by omega), Array.getElem?_setIfInBounds_ne (by omega), Array.getElem?_setIfInBounds_self_of_lt (by simp; omega)]
    · rw [Array.getElem?_setIfInBounds_ne (by omega), Array.getElem?_setIfInBounds_self_of_lt (by simp; omega)]
    · rw [Array.getElem?_setIfInBounds_self_of_lt (by simp; omega)]

theorem Part.there {w : World} {g n : Nat} {gs : List Gar} {k : Nat} {cs : Array Value} (h : Part w g n gs k cs) (hk : k < n) : w.there g (k * 4) 4 := by
  have hs := h.size
  intro j hj
  refine ⟨?_, ?_⟩
  · rw [cell_of_row _ _ _ _ _ _ h.heap]
    simp
    omega
  · simp [World.frozen?, h.heap]
theorem Part.frozen {w : World} {g n : Nat} {gs : List Gar} {k : Nat} {cs : Array Value} (h : Part w g n gs k cs) (j : Nat) : w.frozen? ⟨g, j, none⟩ = false := by
  simp [World.frozen?, h.heap]
theorem Part.cells {w : World} {g n : Nat} {gs : List Gar} {k : Nat} {cs : Array Value} (h : Part w g n gs k cs) (hk : k < n) :
    ∃ v0 v1 v2 v3, w.cell? ⟨g, k * 4, none⟩ = some v0 ∧ w.cell? ⟨g, k * 4 + 1, none⟩ = some v1 ∧ w.cell? ⟨g, k * 4 + 2, none⟩ = some v2 ∧ w.cell? ⟨g, k * 4 + 3, none⟩ = some v3 := by
  have hs := h.size
  have e : ∀ j, j < n * 4 → ∃ v, w.cell? ⟨g, j, none⟩ = some v := fun j hj => ⟨cs[j], (cell_of_row _ _ _ _ _ _ h.heap).trans (Array.getElem?_eq_getElem (by omega))⟩
  obtain ⟨v0, e0⟩ := e (k * 4) (by omega)
  obtain ⟨v1, e1⟩ := e (k * 4 + 1) (by omega)
  obtain ⟨v2, e2⟩ := e (k * 4 + 2) (by omega)
  obtain ⟨v3, e3⟩ := e (k * 4 + 3) (by omega)
  exact ⟨v0, v1, v2, v3, e0, e1, e2, e3⟩
theorem Part.lt {w : World} {g n : Nat} {gs : List Gar} {k : Nat} {cs : Array Value} (h : Part w g n gs k cs) : g < w.heap.size := by
  rcases Nat.lt_or_ge g w.heap.size with hlt | hge
  · exact hlt
  · have := h.heap
    rw [Array.getElem?_eq_none hge] at this
    cases this
theorem Part.next {w w' : World} {g n : Nat} {gs : List Gar} {k : Nat} {cs : Array Value} (h : Part w g n gs k cs) (hb : Below w.heap.size w w') : Part w' g n gs k cs :=
  ⟨(hb.block g h.lt).trans h.heap, h.size, h.at_⟩
/-- a whole block reads as the list -/
theorem Part.gs {w : World} {g : Nat} {gs : List Gar} {cs : Array Value} {B : Nat} (h : Part w g gs.length gs gs.length cs) (hB : g < B) (hf : ∀ x ∈ gs, x.Fits) : GS w B (some ⟨g, 0, none⟩) gs :=
  ⟨fun k x hx => by
    have hk : k < gs.length := (List.getElem?_eq_some_iff.1 hx).1
    obtain ⟨e0, e1, e2, e3⟩ := h.at_ k x hk hx
    have ea : (⟨g, 0, none⟩ : Addr).add (k * 4) = ⟨g, k * 4, none⟩ := by unfold Addr.add; split <;> simp_all
    refine ⟨_, rfl, hB, ?_⟩
    rw [ea]
    exact ⟨(cell_of_row _ _ _ _ _ _ h.heap).trans e0, (cell_of_row _ _ _ _ _ _ h.heap).trans e1, (cell_of_row _ _ _ _ _ _ h.heap).trans e2, (cell_of_row _ _ _ _ _ _ h.heap).trans e3⟩, hf⟩

theorem below_setCells {B : Nat} {a w : World} (h : Below B a w) {g : Nat} (hg : B ≤ g) : ∀ (vs : List Value) (o : Nat), Below B a (w.setCells g o vs) := by
  intro vs
  induction vs generalizing w with
  | nil => intro o; exact h
  | cons v r ih => intro o; exact ih (h.setCell (p := ⟨g, o, none⟩) hg v) (o + 1)

theorem infoG : (Tryd.prog.info? 118).map (fun i => (i.zero, i.size, i.bytes)) = some (some (.agg #[.int .u8 0, .int .i8 0, .int .i8 0, .int .i16 0]), 4, 6) := by kernel_rfl

set_option maxHeartbeats 2000000 in
theorem toGarmentS_any (A : Option Addr) (c : Nat) (gs : List Gar) (hn : gs.length ≤ 1048576) (w : World) (hg : GS w w.heap.size A gs) :
    Calls Tryd.prog 31 #[.slice A gs.length c] w fun e w' => ∃ g cs, e = .returned (.slice (some ⟨g, 0, none⟩) gs.length gs.length) ∧ w.heap.size ≤ g ∧ Part w' g gs.length gs gs.length cs ∧ Below w.heap.size w w' := by
  obtain ⟨i0, hi, hz0, hz1, hz2⟩ := info_parts infoG
  obtain ⟨n, en⟩ : ∃ n, n = gs.length := ⟨_, rfl⟩
  rw [← en] at hn ⊢
  have En := Lib.hid en
  clear en
  have hmk : ∀ u : World, (Instr.makeSlice 49 (.int .i64 (n : Int)) (.int .i64 (n : Int))).run Tryd.prog u =
      .ok (.slice (some ⟨u.heap.size, 0, none⟩) n n) (u.alloc (.cells (madeCells #[.int .u8 0, .int .i8 0, .int .i8 0, .int .i16 0] (n * 4)) 118)) := fun u => by
    have h := run_make (P := Tryd.prog) u 49 118 i0 _ Tryd.underlying49 hi hz0 .i64 .i64 (n : Int) (n : Int) (by omega) (Int.le_refl _) (by rw [hz2]; omega) (by omega)
    have e : ((n : Int)).toNat = n := by omega
    rw [e] at h
    simpa [hz1, Value.cells] using h
  go_enter Tryd.func31, Tryd.ntmps31
  have hB0 : Below w.heap.size w (w.alloc (.cells (madeCells #[.int .u8 0, .int .i8 0, .int .i8 0, .int .i16 0] (n * 4)) 118)) := (Below.refl _ _).alloc (Nat.le_refl _) _
  have hP0 : Part (w.alloc (.cells (madeCells #[.int .u8 0, .int .i8 0, .int .i8 0, .int .i16 0] (n * 4)) 118)) w.heap.size n gs 0 (madeCells #[.int .u8 0, .int .i8 0, .int .i8 0, .int .i16 0] (n * 4)) :=
    ⟨heap_alloc_new w _, size_madeCells _ _, fun i x hi => absurd hi (by omega)⟩
  have HP0 := Lib.hid hP0
  clear hP0
  go_wp2_with fail
  go_loopw [4] (fun vi wr => ∃ k cs, k ≤ n ∧ vi = .int .i64 (k : Nat) ∧ Part wr w.heap.size n gs k cs ∧ Below w.heap.size w wr) (fun vi _ => n - (intOf vi).toNat)
  case atStart => exact ⟨0, _, by omega, rfl, HP0.out, hB0⟩
  case round =>
    clear hB0 HP0
    obtain ⟨k, cs, hk, rfl, hP, hB⟩ := hrel
    by_cases hlt : k < n
    · have hl := En.out
      obtain ⟨x, hx⟩ : ∃ x, gs[k]? = some x := ⟨gs[k], List.getElem?_eq_getElem (by omega)⟩
      clear hl
      obtain ⟨a, rfl, hab, hg0, hg1, hg2, hg3⟩ := (hg.below hB).at_ k x hx
      have HX := Lib.hid hx
      clear hx
      go_wp2_with fail
      refine (garm.toGarment_any x _).mono ?_
      rintro e w2 ⟨rfl, hb2⟩
      have hP2 := hP.next hb2
      have hB2 := hB.trans (hb2.mono hB.size)
      clear hg0 hg1 hg2 hg3 hb2
      obtain ⟨v0, v1, v2, v3, s0, s1, s2, s3⟩ := hP2.cells hlt
      have f0 := hP2.frozen (k * 4)
      have f1 := hP2.frozen (k * 4 + 1)
      have f2 := hP2.frozen (k * 4 + 2)
      have f3 := hP2.frozen (k * 4 + 3)
      go_wp2_with fail
      go_roundw
      case rel =>
        obtain ⟨cs', hP3⟩ := hP2.step HX.out hlt
        exact ⟨k + 1, cs', by omega, by go_num, hP3, below_setCells hB2 (Nat.le_refl _) [.int .u8 x.c, .int .i8 x.n, .int .i8 x.m, .int .i16 x.g] (k * 4)⟩
      case measure => simp [intOf]; omega
    · go_wp2_with fail
      obtain rfl : k = n := by omega
      go_ret
      exact ⟨_, cs, rfl, Nat.le_refl _, hP, hB⟩

set_option maxHeartbeats 1000000 in
theorem eqGarment_any (x y : Gar) (w : World) :
    Calls Tryd.prog 87 #[x.v, y.v] w fun e w' => e = .returned (.bool (gEq x y)) ∧ Below w.heap.size w w' := by
  go_enter Tryd.func87, Tryd.ntmps87
  go_wp2_with fail
  all_goals go_ret
  all_goals exact ⟨ret_bool (by simp only [gEq]; first | (simp [*]; done) | (simp_all; done)), ((Below.refl _ _).alloc (Nat.le_refl _) _).alloc (by simp) _⟩


abbrev Eight (p p' : Addr) (x y : Gar) (W u : World) : Prop :=
  u.cell? p = some (.int .u8 x.c) ∧ u.cell? ⟨p.block, p.off + 1, none⟩ = some (.int .i8 x.n) ∧ u.cell? ⟨p.block, p.off + 2, none⟩ = some (.int .i8 x.m) ∧ u.cell? ⟨p.block, p.off + 3, none⟩ = some (.int .i16 x.g) ∧
  u.cell? p' = some (.int .u8 y.c) ∧ u.cell? ⟨p'.block, p'.off + 1, none⟩ = some (.int .i8 y.n) ∧ u.cell? ⟨p'.block, p'.off + 2, none⟩ = some (.int .i8 y.m) ∧ u.cell? ⟨p'.block, p'.off + 3, none⟩ = some (.int .i16 y.g) ∧ Below W.heap.size W u
theorem Eight.next {p p' : Addr} {x y : Gar} {W u v : World} (h : Eight p p' x y W u) (hp : p.block < W.heap.size) (hp' : p'.block < W.heap.size) (hb : Below u.heap.size u v) : Eight p p' x y W v := by
  obtain ⟨h0, h1, h2, h3, h4, h5, h6, h7, hB⟩ := h
  have hs := hB.size
  have k := hb.mono hs
  exact ⟨(k.cell (p := p) hp).trans h0, (k.cell (p := ⟨p.block, p.off + 1, none⟩) hp).trans h1, (k.cell (p := ⟨p.block, p.off + 2, none⟩) hp).trans h2, (k.cell (p := ⟨p.block, p.off + 3, none⟩) hp).trans h3,
    (k.cell (p := p') hp').trans h4, (k.cell (p := ⟨p'.block, p'.off + 1, none⟩) hp').trans h5, (k.cell (p := ⟨p'.block, p'.off + 2, none⟩) hp').trans h6, (k.cell (p := ⟨p'.block, p'.off + 3, none⟩) hp').trans h7, hB.trans k⟩

theorem Eight.below {p p' : Addr} {x y : Gar} {W u : World} (h : Eight p p' x y W u) : Below W.heap.size W u := h.2.2.2.2.2.2.2.2

set_option maxHeartbeats 4000000 in
theorem eqGarmentS_any (A A' : Option Addr) (c c' : Nat) (gs gs' : List Gar) (hn : gs.length ≤ 1048576) (w : World) (hg : GS w w.heap.size A gs) (hg' : GS w w.heap.size A' gs') (b : Bool) (hb : b = true ↔ gs = gs') :
    Calls Tryd.prog 33 #[.slice A gs.length c, .slice A' gs'.length c'] w fun e w' => e = .returned (.bool b) ∧ Below w.heap.size w w' := by
  by_cases hlen : gs.length = gs'.length
  · obtain ⟨n, en⟩ : ∃ n, n = gs.length := ⟨_, rfl⟩
    have en' : n = gs'.length := en.trans hlen
    rw [← en] at hn ⊢
    rw [← en']
    have En := Lib.hid en
    have En' := Lib.hid en'
    have Hb := Lib.hid hb
    clear en en' hb hlen
    go_enter Tryd.func33, Tryd.ntmps33
    go_wp2_with fail
    go_loopw [5] (fun vi wr => ∃ k : Nat, k ≤ n ∧ vi = .int .i64 k ∧ (∀ i, i < k → gs[i]? = gs'[i]?) ∧ Below w.heap.size w wr) (fun vi _ => n - (intOf vi).toNat)
    case atStart => exact ⟨0, by omega, rfl, fun i hi => absurd hi (by omega), Below.refl _ _⟩
    case round =>
      obtain ⟨k, hk, rfl, hsame, hB⟩ := hrel
      by_cases hlt : k < n
      · obtain ⟨x, hx⟩ : ∃ x, gs[k]? = some x := ⟨gs[k]'(by have := En.out; omega), List.getElem?_eq_getElem _⟩
        obtain ⟨y, hy⟩ : ∃ y, gs'[k]? = some y := ⟨gs'[k]'(by have := En'.out; omega), List.getElem?_eq_getElem _⟩
        obtain ⟨a, rfl, hab, hg0, hg1, hg2, hg3⟩ := (hg.below hB).at_ k x hx
        obtain ⟨a', rfl, hab', hg0', hg1', hg2', hg3'⟩ := (hg'.below hB).at_ k y hy
        have HX := Lib.hid hx
        have HY := Lib.hid hy
        clear hx hy
        have hp : (a.add (k * 4)).block < w.heap.size := by rw [block_add]; exact hab
        have hp' : (a'.add (k * 4)).block < w.heap.size := by rw [block_add]; exact hab'
        have h8 : Eight (a.add (k * 4)) (a'.add (k * 4)) x y w wr := ⟨hg0, hg1, hg2, hg3, hg0', hg1', hg2', hg3', hB⟩
        have H8 := Lib.hid h8
        clear h8
        go_wp2_with fail
        go_region_held3 (fun u => u.cell? (a.add (k * 4)) = some (.int .u8 x.c) ∧ u.cell? ⟨(a.add (k * 4)).block, (a.add (k * 4)).off + 1, none⟩ = some (.int .i8 x.n) ∧ u.cell? ⟨(a.add (k * 4)).block, (a.add (k * 4)).off + 2, none⟩ = some (.int .i8 x.m) ∧ u.cell? ⟨(a.add (k * 4)).block, (a.add (k * 4)).off + 3, none⟩ = some (.int .i16 x.g) ∧ u.cell? (a'.add (k * 4)) = some (.int .u8 y.c) ∧ u.cell? ⟨(a'.add (k * 4)).block, (a'.add (k * 4)).off + 1, none⟩ = some (.int .i8 y.n) ∧ u.cell? ⟨(a'.add (k * 4)).block, (a'.add (k * 4)).off + 2, none⟩ = some (.int .i8 y.m) ∧ u.cell? ⟨(a'.add (k * 4)).block, (a'.add (k * 4)).off + 3, none⟩ = some (.int .i16 y.g) ∧ Below w.heap.size w u)
          (first | exact H8.out.next hp hp' (below_drewN _ wr 1) | exact Eight.next (by assumption) hp hp' hb2)
          (first | (go_at_call 87; refine (eqGarment_any x y _).mono ?_; rintro e w2 ⟨rfl, hb2⟩))
        go_wp2_with fail
        · have hno : (!gEq x y) = true := by assumption
          go_ret
          refine ⟨ret_bool ?_, Eight.below (p := a.add (k * 4)) (p' := a'.add (k * 4)) (x := x) (y := y) (by assumption)⟩
          cases hbb : b with
          | false => rfl
          | true =>
            have he := Hb.out.1 hbb
            have h1 := HX.out
            rw [he, HY.out] at h1
            have h2 : gEq x y = true := (gEq_iff x y).2 (Option.some.inj h1).symm
            rw [h2] at hno
            cases hno
        · have hno : (!gEq x y) = false := by assumption
          have he : x = y := (gEq_iff x y).1 (by simpa using hno)
          clear hno
          go_roundw
          case rel => exact ⟨k + 1, by omega, by go_num, fun i hi => by
            rcases Nat.lt_or_ge i k with h1 | h1
            · exact hsame i h1
            · obtain rfl : i = k := by omega
              rw [HX.out, HY.out, he], Eight.below (p := a.add (k * 4)) (p' := a'.add (k * 4)) (x := x) (y := y) (by assumption)⟩
          case measure => simp [intOf]; omega
      · go_wp2_with fail
        go_ret
        refine ⟨ret_bool ?_, hB⟩
        exact (Hb.out.2 (lists_eq En.out En'.out fun i hi => hsame i (by omega))).symm
  · have hno : b = false := by
      cases hbb : b with
      | false => rfl
      | true => exact absurd (congrArg List.length (hb.1 hbb)) hlen
    subst hno
    have hl : ((gs.length : Int) != (gs'.length : Int)) = true := by rw [bne_iff_ne]; omega
    clear hlen hb
    go_enter Tryd.func33, Tryd.ntmps33
    go_wp2_with fail
    go_ret
    exact ⟨rfl, Below.refl _ _⟩

set_option maxHeartbeats 1000000 in
/-- how many are left -/
theorem szGarmentS_any (A : Option Addr) (n c : Nat) (left : Int) (hn : n ≤ 9223372036854775807) (hl : 0 ≤ left ∧ left ≤ 1048576) (w : World) :
    Calls Tryd.prog 29 #[.slice A n c, .int .i64 left] w fun e w' => e = .returned (.int .i64 (if left - n < 0 then -1 else left - n)) ∧ w = w' := by
  go_enter Tryd.func29, Tryd.ntmps29
  go_wp2_with fail
  all_goals go_ret
  all_goals exact ⟨rfl, rfl⟩
end Go.Proofs.YtjfimmfnhlimkaaDoor.garS

/-
  Lists of Garment, marked with rising numbers, and held against them.
-/
namespace Go.Proofs.YtjfimmfnhlimkaaDoor.garL
open Go Go.RowKit sl

theorem _root_.Go.Proofs.YtjfimmfnhlimkaaDoor.Gar.lenL (xs : List Gar) : ∀ x ∈ xs, (Gar.cells x).length = 4 := fun _ _ => rfl
theorem at_ {w : World} {p : Addr} {x : Gar} (h : At w p (Gar.cells x)) : w.cell? p = some (.int .u8 x.c) ∧ w.cell? ⟨p.block, p.off + 1, none⟩ = some (.int .i8 x.n) ∧ w.cell? ⟨p.block, p.off + 2, none⟩ = some (.int .i8 x.m) ∧ w.cell? ⟨p.block, p.off + 3, none⟩ = some (.int .i16 x.g) := ⟨h 0 _ rfl, h 1 _ rfl, h 2 _ rfl, h 3 _ rfl⟩

/-- the things with the numbers from k on -/
def cmark (k : Int) (i : Nat) : Gar := ⟨IntKind.u8.wrap (k + 4 * (i : Int)), IntKind.i8.wrap (k + 4 * (i : Int) + 1), IntKind.i8.wrap (k + 4 * (i : Int) + 1 + 1), IntKind.i16.wrap (k + 4 * (i : Int) + 1 + 1 + 1)⟩
def cmarks (k : Int) (n : Nat) : List Gar := (List.range n).map (cmark k)
theorem cmarks_len (k : Int) (n : Nat) : (cmarks k n).length = n := by simp [cmarks]
theorem cmarks_at (k : Int) (n i : Nat) (h : i < n) : (cmarks k n)[i]? = some (cmark k i) := by simp [cmarks, h]

set_option maxRecDepth 100000 in
set_option maxHeartbeats 2000000 in
theorem markS_row (base g n c : Nat) (k0 : Int) (hk : 0 ≤ k0 ∧ k0 ≤ 1000000000000) (hn : n ≤ 1048576) (L : List Value) (w : World) (hP : w.ownsRow base 118 4 (.slice (some ⟨g, 0, none⟩) n c) n L) :
    Calls Tryd.prog 36 #[.slice (some ⟨g, 0, none⟩) n c, .int .i64 k0] w fun e w' => e = .returned (.int .i64 (k0 + 4 * n)) ∧
      w'.ownsRow base 118 4 (.slice (some ⟨g, 0, none⟩) n c) n ((cmarks k0 n).flatMap Gar.cells) ∧ w.grownBy w' (some g) := by
  have HP0 := Lib.hid hP
  clear hP
  go_enter Tryd.func36, Tryd.ntmps36
  go_wp2_with fail
  go_loopw [1, 5] (fun vk vi wr => ∃ k L, k ≤ n ∧ vi = .int .i64 (k : Nat) ∧ vk = .int .i64 (k0 + 4 * k) ∧ wr.ownsRow base 118 4 (.slice (some ⟨g, 0, none⟩) n c) n L ∧ Done Gar.cells 4 (cmarks k0 n) k L ∧ w.grownBy wr (some g)) (fun _ vi _ => n - (intOf vi).toNat)
  case atStart => exact ⟨0, _, by omega, rfl, by simp, HP0.out, Done.zero _ _ _ _, ⟨rfl, rfl, rfl, Nat.le_refl _, fun _ _ _ => rfl⟩⟩
  case round =>
    obtain ⟨k, L, hk', rfl, rfl, hP, hD, hB⟩ := hrel
    by_cases hlt : k < n
    · have HX := Lib.hid (cmarks_at k0 n k hlt)
      have HD := Lib.hid hD
      have hLL := hP.1
      obtain ⟨v0, s0⟩ : ∃ v, wr.cell? ⟨g, k * 4, none⟩ = some v := ⟨L[k * 4]'(by omega), (hP.cellAt (k * 4) (by omega)).trans (List.getElem?_eq_getElem _)⟩
      obtain ⟨v1, s1⟩ : ∃ v, wr.cell? ⟨g, k * 4 + 1, none⟩ = some v := ⟨L[k * 4 + 1]'(by omega), (hP.cellAt (k * 4 + 1) (by omega)).trans (List.getElem?_eq_getElem _)⟩
      obtain ⟨v2, s2⟩ : ∃ v, wr.cell? ⟨g, k * 4 + 2, none⟩ = some v := ⟨L[k * 4 + 2]'(by omega), (hP.cellAt (k * 4 + 2) (by omega)).trans (List.getElem?_eq_getElem _)⟩
      obtain ⟨v3, s3⟩ : ∃ v, wr.cell? ⟨g, k * 4 + 3, none⟩ = some v := ⟨L[k * 4 + 3]'(by omega), (hP.cellAt (k * 4 + 3) (by omega)).trans (List.getElem?_eq_getElem _)⟩
      have f0 := hP.frozenAt (k * 4)
      have f1 := hP.frozenAt (k * 4 + 1)
      have f2 := hP.frozenAt (k * 4 + 2)
      have f3 := hP.frozenAt (k * 4 + 3)
      have HLL := Lib.hid hLL
      have HP := Lib.hid hP
      have HB := Lib.hid hB
      clear hLL hP hD hB
      go_wp2_with fail
      go_roundw
      case rel =>
        have hP3 := owns_cells (o := k * 4) (vs := (cmark k0 k).cells) HP.out
        have g2 := hP3.2
        have hB := HB.out
        have e1 : k0 + 4 * (k : Int) + 1 + 1 + 1 + 1 = k0 + 4 * ((k + 1 : Nat) : Int) := by omega
        have h5 := hP3.1
        exact ⟨k + 1, _, by omega, by go_num, by rw [e1], h5, HD.out.step (Gar.lenL _) HX.out (by rw [HLL.out, cmarks_len]), ⟨g2.os.trans hB.os, g2.tape.trans hB.tape, g2.output.trans hB.output, Nat.le_trans hB.size g2.size, fun i hi hne => (g2.block i (Nat.lt_of_lt_of_le hi hB.size) hne).trans (hB.block i hi hne)⟩⟩
      case measure => simp [intOf]; omega
    · go_wp2_with fail
      obtain rfl : k = n := by omega
      go_ret
      have e : L = (cmarks k0 k).flatMap Gar.cells := Done.full (by rw [cmarks_len]; exact hD) (Gar.lenL _) (by omega) (by rw [hP.1, cmarks_len])
      rw [← e]
      exact ⟨rfl, hP, hB⟩
set_option maxHeartbeats 1000000 in
theorem markS_nil (k0 : Int) (w : World) :
    Calls Tryd.prog 36 #[.slice none 0 0, .int .i64 k0] w fun e w' => e = .returned (.int .i64 k0) ∧ w = w' := by
  go_enter Tryd.func36, Tryd.ntmps36
  go_wp2_with fail
  refine wp_loop_rounds 1 ?_
  rw [rounds_succ]
  go_wp2_with fail
  go_ret
  exact ⟨rfl, rfl⟩
/-- a row of the call's own is marked -/
theorem markS_any (base : Nat) (v : Value) (n : Nat) (k0 : Int) (hk : 0 ≤ k0 ∧ k0 ≤ 1000000000000) (hn : n ≤ 1048576) (L : List Value) (w : World) (hP : w.ownsRow base 118 4 v n L) :
    Calls Tryd.prog 36 #[v, .int .i64 k0] w fun e w' => e = .returned (.int .i64 (k0 + 4 * n)) ∧ w'.ownsRow base 118 4 v n ((cmarks k0 n).flatMap Gar.cells) ∧ ∃ g, base ≤ g ∧ w.grownBy w' (some g) ∧ (v.ownBlock = none ∨ v.ownBlock = some g) := by
  obtain ⟨h1, h2⟩ := hP
  rcases h2 with ⟨rfl, rfl⟩ | ⟨g, c, cur, rfl, hg, rest⟩
  · refine (markS_nil k0 w).mono ?_
    rintro e w' ⟨rfl, rfl⟩
    exact ⟨by simp, by simpa [cmarks] using World.ownsRow_nil w base 118 4, base, Nat.le_refl _, ⟨rfl, rfl, rfl, Nat.le_refl _, fun _ _ _ => rfl⟩, .inl rfl⟩
  · refine (markS_row base g n c k0 hk hn L w ⟨h1, .inr ⟨g, c, cur, rfl, hg, rest⟩⟩).mono ?_
    rintro e w' ⟨rfl, hP', hgr⟩
    exact ⟨rfl, hP', g, hg, hgr, .inr rfl⟩

set_option maxHeartbeats 2000000 in
theorem heldS_any (A : Option Addr) (n c : Nat) (k0 : Int) (hk : 0 ≤ k0 ∧ k0 ≤ 1000000000000) (hn : n ≤ 1048576) (w : World) (B : Nat) (hg : Sl Gar.cells 4 w B A (cmarks k0 n)) :
    Calls Tryd.prog 37 #[.slice A n c, .int .i64 k0] w fun e w' => e = .returned (.int .i64 (k0 + 4 * n)) ∧ w = w' := by
  go_enter Tryd.func37, Tryd.ntmps37
  go_wp2_with fail
  go_loop [1, 5] (fun vk vi => ∃ k : Nat, k ≤ n ∧ vi = .int .i64 k ∧ vk = .int .i64 (k0 + 4 * k)) (fun _ vi => n - (intOf vi).toNat)
  case atStart => exact ⟨0, by omega, rfl, by simp⟩
  case round =>
    obtain ⟨k, hk', rfl, rfl⟩ := hrel
    by_cases hlt : k < n
    · obtain ⟨a, rfl, hab, hat⟩ := hg.at_ k _ (cmarks_at k0 n k hlt)
      obtain ⟨q0, q1, q2, q3⟩ := at_ hat
      simp only [cmark] at q0 q1 q2 q3
      clear hat
      go_wp2_with fail
      go_round
      case rel =>
        have e1 : k0 + 4 * (k : Int) + 1 + 1 + 1 + 1 = k0 + 4 * ((k + 1 : Nat) : Int) := by omega
        exact ⟨k + 1, by omega, by go_num, by rw [e1]⟩
      case measure => simp [intOf]; omega
    · go_wp2_with fail
      obtain rfl : k = n := by omega
      go_ret
      exact ⟨rfl, rfl⟩
end Go.Proofs.YtjfimmfnhlimkaaDoor.garL
