/-
  Several texts of this proof, joined.
-/
import Derived.Test.YtjfimmfnhlimkaaDoorRows
import Derived.Test.YtjfimmfnhlimkaaDoorSl
import Derived.Test.YtjfimmfnhlimkaaDoorWords
import Derived.WalkKit
import Derived.WalkSpells
import Derived.WalkLawsBesides
import Derived.Lib.Hide
import Derived.Deep.QuietTactic
import Derived.BigQuiet
import Derived.Deep.RegionHeld3
import Derived.Deep.MidRow
import Derived.Test.YtjfimmfnhlimkaaDoorInB
import Derived.IntWalk
/-
  Piece: its contracts: copied, held against another one, counted.
-/
namespace Go.Proofs.YtjfimmfnhlimkaaDoor
open Go.RowKit

/-- the numbers of a Piece -/
structure Pie where
  lev : Int
  mins : Int
  due : Int

/-- they are in the range of their kinds -/
structure Pie.Fits (x : Pie) : Prop where
  lev0 : -128 ≤ x.lev
  lev1 : x.lev ≤ 127
  mins0 : -128 ≤ x.mins
  mins1 : x.mins ≤ 127
  due0 : -32768 ≤ x.due
  due1 : x.due ≤ 32767
abbrev Pie.cells (x : Pie) : List Value := [.int .i8 x.lev, .int .i8 x.mins, .int .i16 x.due]
abbrev Pie.v (x : Pie) : Value := .agg #[.int .i8 x.lev, .int .i8 x.mins, .int .i16 x.due]
theorem Pie.len (xs : List Pie) : ∀ x ∈ xs, (Pie.cells x).length = 3 := fun _ _ => rfl
/-- are two equal -/
def Pie.eq (x y : Pie) : Bool := x.lev == y.lev && (x.mins == y.mins && (x.due == y.due))
theorem Pie.eq_iff (x y : Pie) : Pie.eq x y = true ↔ x = y := by
  cases x
  cases y
  simp [Pie.eq]
end Go.Proofs.YtjfimmfnhlimkaaDoor
namespace Go.Proofs.YtjfimmfnhlimkaaDoor.pieS
open Go.RowKit sl

theorem at_ {w : World} {p : Addr} {x : Pie} (h : At w p x.cells) :
    w.cell? p = some (.int .i8 x.lev) ∧ w.cell? ⟨p.block, p.off + 1, none⟩ = some (.int .i8 x.mins) ∧ w.cell? ⟨p.block, p.off + 2, none⟩ = some (.int .i16 x.due) :=
  ⟨h 0 _ rfl, h 1 _ rfl, h 2 _ rfl⟩

set_option maxHeartbeats 1000000 in
theorem to_any (x : Pie) (w : World) :
    Calls Tryd.prog 63 #[x.v] w fun e w' => e = .returned x.v ∧ Below w.heap.size w w' := by
  go_enter Tryd.func63, Tryd.ntmps63
  go_wp2
  refine bodyPost_ret (v := x.v) (by simp [results, Tryd.results63, go_sem]) rfl ⟨rfl, ?_⟩
  repeat (first | exact Below.refl _ _ | assumption | apply Below.drew | (refine Below.alloc ?_ (by first | (simp; done) | (simp; omega) | omega) _) | (refine Below.setCell ?_ (by first | (simp; done) | (simp; omega) | omega) _))
theorem to_parts (lev mins due : Int) (w : World) :
    Calls Tryd.prog 63 #[.agg #[.int .i8 lev, .int .i8 mins, .int .i16 due]] w fun e w' => e = .returned (.agg #[.int .i8 lev, .int .i8 mins, .int .i16 due]) ∧ Below w.heap.size w w' := to_any ⟨lev, mins, due⟩ w

theorem info : (Tryd.prog.info? 90).map (fun i => (i.zero, i.size, i.bytes)) = some (some (.agg #[.int .i8 0, .int .i8 0, .int .i16 0]), 3, 4) := by kernel_rfl

set_option maxHeartbeats 2000000 in
theorem toS_any (A : Option Addr) (c : Nat) (xs : List Pie) (hn : xs.length ≤ 1048576) (w : World) (hg : Sl Pie.cells 3 w w.heap.size A xs) :
    Calls Tryd.prog 16 #[.slice A xs.length c] w fun e w' => ∃ g, e = .returned (.slice (some ⟨g, 0, none⟩) xs.length xs.length) ∧
      w'.ownsRow w.heap.size 90 3 (.slice (some ⟨g, 0, none⟩) xs.length xs.length) xs.length (xs.flatMap Pie.cells) ∧ Below w.heap.size w w' := by
  obtain ⟨i0, hi, hz0, hz1, hz2⟩ := info_parts info
  obtain ⟨n, en⟩ : ∃ n, n = xs.length := ⟨_, rfl⟩
  rw [← en] at hn ⊢
  have En := Lib.hid en
  clear en
  have hmk : ∀ u : World, (Instr.makeSlice 25 (.int .i64 (n : Int)) (.int .i64 (n : Int))).run Tryd.prog u =
      .ok (.slice (some ⟨u.heap.size, 0, none⟩) n n) (u.alloc (.cells (madeCells #[.int .i8 0, .int .i8 0, .int .i16 0] (n * 3)) 90)) := fun u => by
    have h := run_make (P := Tryd.prog) u 25 90 i0 _ Tryd.underlying25 hi hz0 .i64 .i64 (n : Int) (n : Int) (by omega) (Int.le_refl _) (by rw [hz2]; omega) (by omega)
    have e : ((n : Int)).toNat = n := by omega
    rw [e] at h
    simpa [hz1, Value.cells] using h
  go_enter Tryd.func16, Tryd.ntmps16
  have hB0 : Below w.heap.size w (w.alloc (.cells (madeCells #[.int .i8 0, .int .i8 0, .int .i16 0] (n * 3)) 90)) := (Below.refl _ _).alloc (Nat.le_refl _) _
  have hP0 : (w.alloc (.cells (madeCells #[.int .i8 0, .int .i8 0, .int .i16 0] (n * 3)) 90)).ownsRow w.heap.size 90 3 (.slice (some ⟨w.heap.size, 0, none⟩) n n) n _ :=
    World.ownsRow_lit w (madeCells #[.int .i8 0, .int .i8 0, .int .i16 0] (n * 3)) n (Nat.le_refl _) (by unfold maxLen; omega) (size_madeCells _ _)
  have HP0 := Lib.hid hP0
  clear hP0
  go_wp2_with fail
  go_loopw [4] (fun vi wr => ∃ k L, k ≤ n ∧ vi = .int .i64 (k : Nat) ∧ wr.ownsRow w.heap.size 90 3 (.slice (some ⟨w.heap.size, 0, none⟩) n n) n L ∧ Done Pie.cells 3 xs k L ∧ Below w.heap.size w wr) (fun vi _ => n - (intOf vi).toNat)
  case atStart => exact ⟨0, _, by omega, rfl, HP0.out, Done.zero _ _ _ _, hB0⟩
  case round =>
    clear hB0 HP0
    obtain ⟨k, L, hk, rfl, hP, hD, hB⟩ := hrel
    by_cases hlt : k < n
    · have hl := En.out
      obtain ⟨x, hx⟩ : ∃ x, xs[k]? = some x := ⟨xs[k], List.getElem?_eq_getElem (by omega)⟩
      clear hl
      obtain ⟨a, rfl, hab, hat⟩ := (hg.below hB).at_ k x hx
      obtain ⟨hg0, hg1, hg2⟩ := at_ hat
      have HX := Lib.hid hx
      have HA := Lib.hid hat
      have HD := Lib.hid hD
      clear hx hat hD
      go_wp2_with fail
      refine (to_any x _).mono ?_
      rintro e w2 ⟨rfl, hb2⟩
      have hP2 := owns_next hP hb2
      have hB2 := hB.trans (hb2.mono hB.size)
      clear hg0 hg1 hg2 hb2
      have hLL := hP2.1

      obtain ⟨v0, s0⟩ : ∃ v, w2.cell? ⟨w.heap.size, k * 3, none⟩ = some v := ⟨L[k * 3]'(by omega), (hP2.cellAt (k * 3) (by omega)).trans (List.getElem?_eq_getElem _)⟩
      have f0 := hP2.frozenAt (k * 3)
      obtain ⟨v1, s1⟩ : ∃ v, w2.cell? ⟨w.heap.size, k * 3 + 1, none⟩ = some v := ⟨L[k * 3 + 1]'(by omega), (hP2.cellAt (k * 3 + 1) (by omega)).trans (List.getElem?_eq_getElem _)⟩
      have f1 := hP2.frozenAt (k * 3 + 1)
      obtain ⟨v2, s2⟩ : ∃ v, w2.cell? ⟨w.heap.size, k * 3 + 2, none⟩ = some v := ⟨L[k * 3 + 2]'(by omega), (hP2.cellAt (k * 3 + 2) (by omega)).trans (List.getElem?_eq_getElem _)⟩
      have f2 := hP2.frozenAt (k * 3 + 2)
      have HLL := Lib.hid hLL
      clear hLL
      have HP2 := Lib.hid hP2
      clear hP2 hP
      go_wp2_with fail
      go_roundw
      case rel =>
        have hP3 := (owns_cells (o := k * 3) (vs := x.cells) HP2.out).1
        exact ⟨k + 1, _, by omega, by go_num, hP3, HD.out.step (Pie.len xs) HX.out (by rw [HLL.out, En.out]), below_cells hB2 (Nat.le_refl _) x.cells (k * 3)⟩
      case measure => simp [intOf]; omega
    · go_wp2_with fail
      obtain rfl : k = n := by omega
      go_ret
      have hl := En.out
      have e : L = xs.flatMap Pie.cells := Done.full (by rw [← hl]; exact hD) (Pie.len xs) (by omega) (by rw [hP.1, hl])
      rw [← e]
      exact ⟨_, rfl, hP, hB⟩

set_option maxHeartbeats 1000000 in
theorem eq_any (x y : Pie) (w : World) :
    Calls Tryd.prog 67 #[x.v, y.v] w fun e w' => e = .returned (.bool (Pie.eq x y)) ∧ Below w.heap.size w w' := by
  go_enter Tryd.func67, Tryd.ntmps67
  go_wp2_with fail
  all_goals go_ret
  all_goals exact ⟨ret_bool (by simp only [Pie.eq]; first | (simp [*]; done) | (simp_all; done)), ((Below.refl _ _).alloc (Nat.le_refl _) _).alloc (by simp) _⟩

abbrev Both (p p' : Addr) (x y : Pie) (W u : World) : Prop :=
  u.cell? p = some (.int .i8 x.lev) ∧ u.cell? ⟨p.block, p.off + 1, none⟩ = some (.int .i8 x.mins) ∧ u.cell? ⟨p.block, p.off + 2, none⟩ = some (.int .i16 x.due) ∧ u.cell? p' = some (.int .i8 y.lev) ∧ u.cell? ⟨p'.block, p'.off + 1, none⟩ = some (.int .i8 y.mins) ∧ u.cell? ⟨p'.block, p'.off + 2, none⟩ = some (.int .i16 y.due) ∧ Below W.heap.size W u
theorem Both.next {p p' : Addr} {x y : Pie} {W u v : World} (h : Both p p' x y W u) (hp : p.block < W.heap.size) (hp' : p'.block < W.heap.size) (hb : Below u.heap.size u v) : Both p p' x y W v := by
  obtain ⟨h0, h1, h2, h3, h4, h5, hB⟩ := h
  have hs := hB.size
  have k := hb.mono hs
  exact ⟨(k.cell (p := p) hp).trans h0, (k.cell (p := ⟨p.block, p.off + 1, none⟩) hp).trans h1, (k.cell (p := ⟨p.block, p.off + 2, none⟩) hp).trans h2, (k.cell (p := p') hp').trans h3, (k.cell (p := ⟨p'.block, p'.off + 1, none⟩) hp').trans h4, (k.cell (p := ⟨p'.block, p'.off + 2, none⟩) hp').trans h5, hB.trans k⟩
theorem Both.below {p p' : Addr} {x y : Pie} {W u : World} (h : Both p p' x y W u) : Below W.heap.size W u := h.2.2.2.2.2.2

set_option maxHeartbeats 4000000 in
theorem eqS_any (A A' : Option Addr) (n n' c c' : Nat) (xs ys : List Pie) (en : n = xs.length) (en' : n' = ys.length) (hn : n ≤ 1048576) (hn' : n' ≤ 9223372036854775807) (w : World) (hg : Sl Pie.cells 3 w w.heap.size A xs) (hg' : Sl Pie.cells 3 w w.heap.size A' ys) (b : Bool) (hb : b = true ↔ xs = ys) :
    Calls Tryd.prog 18 #[.slice A n c, .slice A' n' c'] w fun e w' => e = .returned (.bool b) ∧ Below w.heap.size w w' := by
  have En := Lib.hid en
  have En' := Lib.hid en'
  have Hb := Lib.hid hb
  clear en en' hb
  by_cases hlen : n = n'
  · subst hlen
    go_enter Tryd.func18, Tryd.ntmps18
    go_wp2_with fail
    go_loopw [5] (fun vi wr => ∃ k : Nat, k ≤ n ∧ vi = .int .i64 k ∧ (∀ i, i < k → xs[i]? = ys[i]?) ∧ Below w.heap.size w wr) (fun vi _ => n - (intOf vi).toNat)
    case atStart => exact ⟨0, by omega, rfl, fun i hi => absurd hi (by omega), Below.refl _ _⟩
    case round =>
      obtain ⟨k, hk, rfl, hsame, hB⟩ := hrel
      by_cases hlt : k < n
      · obtain ⟨x, hx⟩ : ∃ x, xs[k]? = some x := ⟨xs[k]'(by have := En.out; omega), List.getElem?_eq_getElem _⟩
        obtain ⟨y, hy⟩ : ∃ y, ys[k]? = some y := ⟨ys[k]'(by have := En'.out; omega), List.getElem?_eq_getElem _⟩
        obtain ⟨a, rfl, hab, hat⟩ := (hg.below hB).at_ k x hx
        obtain ⟨a', rfl, hab', hat'⟩ := (hg'.below hB).at_ k y hy
        obtain ⟨q0, q1, q2⟩ := at_ hat
        obtain ⟨r0, r1, r2⟩ := at_ hat'
        have HX := Lib.hid hx
        have HY := Lib.hid hy
        have hp : (a.add (k * 3)).block < w.heap.size := by rw [block_add]; exact hab
        have hp' : (a'.add (k * 3)).block < w.heap.size := by rw [block_add]; exact hab'
        have h8 : Both (a.add (k * 3)) (a'.add (k * 3)) x y w wr := ⟨q0, q1, q2, r0, r1, r2, hB⟩
        have H8 := Lib.hid h8
        clear h8 hx hy hat hat'
        go_wp2_with fail
        go_region_held3 (fun u => u.cell? (a.add (k * 3)) = some (.int .i8 x.lev) ∧ u.cell? ⟨(a.add (k * 3)).block, (a.add (k * 3)).off + 1, none⟩ = some (.int .i8 x.mins) ∧ u.cell? ⟨(a.add (k * 3)).block, (a.add (k * 3)).off + 2, none⟩ = some (.int .i16 x.due) ∧ u.cell? (a'.add (k * 3)) = some (.int .i8 y.lev) ∧ u.cell? ⟨(a'.add (k * 3)).block, (a'.add (k * 3)).off + 1, none⟩ = some (.int .i8 y.mins) ∧ u.cell? ⟨(a'.add (k * 3)).block, (a'.add (k * 3)).off + 2, none⟩ = some (.int .i16 y.due) ∧ Below w.heap.size w u)
          (first | exact H8.out.next hp hp' (below_drewN _ wr 1) | exact Both.next (by assumption) hp hp' hb2)
          (first | (go_at_call 67; refine (eq_any x y _).mono ?_; rintro e w2 ⟨rfl, hb2⟩) | fail)
        go_wp2_with fail
        · have hno : (!Pie.eq x y) = true := by assumption
          go_ret
          refine ⟨ret_bool ?_, Both.below (p := a.add (k * 3)) (p' := a'.add (k * 3)) (x := x) (y := y) (by assumption)⟩
          cases hbb : b with
          | false => rfl
          | true =>
            have he := Hb.out.1 hbb
            have h1 := HX.out
            rw [he, HY.out] at h1
            have h2 : Pie.eq x y = true := (Pie.eq_iff x y).2 (Option.some.inj h1).symm
            rw [h2] at hno
            cases hno
        · have hno : (!Pie.eq x y) = false := by assumption
          have he : x = y := (Pie.eq_iff x y).1 (by simpa using hno)
          clear hno
          go_roundw
          case rel => exact ⟨k + 1, by omega, by go_num, fun i hi => by
            rcases Nat.lt_or_ge i k with h1 | h1
            · exact hsame i h1
            · obtain rfl : i = k := by omega
              rw [HX.out, HY.out, he], Both.below (p := a.add (k * 3)) (p' := a'.add (k * 3)) (x := x) (y := y) (by assumption)⟩
          case measure => simp [intOf]; omega
      · go_wp2_with fail
        go_ret
        refine ⟨ret_bool ?_, hB⟩
        exact (Hb.out.2 (lists_eq En.out En'.out fun i hi => hsame i (by omega))).symm
  · have hno : b = false := by
      cases hbb : b with
      | false => rfl
      | true => exact absurd ((En.out.trans (congrArg List.length (Hb.out.1 hbb))).trans En'.out.symm) hlen
    subst hno
    have hl : ((n : Int) != (n' : Int)) = true := by rw [bne_iff_ne]; omega
    clear hlen
    go_enter Tryd.func18, Tryd.ntmps18
    go_wp2_with fail
    go_ret
    exact ⟨rfl, Below.refl _ _⟩
set_option maxHeartbeats 1000000 in
/-- how many are left -/
theorem szS_any (A : Option Addr) (n c : Nat) (left : Int) (hn : n ≤ 9223372036854775807) (hl : 0 ≤ left ∧ left ≤ 1048576) (w : World) :
    Calls Tryd.prog 14 #[.slice A n c, .int .i64 left] w fun e w' => e = .returned (.int .i64 (if left - n < 0 then -1 else left - n)) ∧ w = w' := by
  go_enter Tryd.func14, Tryd.ntmps14
  go_wp2_with fail
  all_goals go_ret
  all_goals exact ⟨rfl, rfl⟩
end Go.Proofs.YtjfimmfnhlimkaaDoor.pieS

/-
  Iron: its contracts: copied, held against another one, counted.
-/
namespace Go.Proofs.YtjfimmfnhlimkaaDoor
open Go.RowKit

/-- the numbers of a Iron -/
structure Iro where
  up : Int
  down : Int

/-- they are in the range of their kinds -/
structure Iro.Fits (x : Iro) : Prop where
  up0 : -128 ≤ x.up
  up1 : x.up ≤ 127
  down0 : -128 ≤ x.down
  down1 : x.down ≤ 127
abbrev Iro.cells (x : Iro) : List Value := [.int .i8 x.up, .int .i8 x.down]
abbrev Iro.v (x : Iro) : Value := .agg #[.int .i8 x.up, .int .i8 x.down]
theorem Iro.len (xs : List Iro) : ∀ x ∈ xs, (Iro.cells x).length = 2 := fun _ _ => rfl
/-- are two equal -/
def Iro.eq (x y : Iro) : Bool := x.up == y.up && (x.down == y.down)
theorem Iro.eq_iff (x y : Iro) : Iro.eq x y = true ↔ x = y := by
  cases x
  cases y
  simp [Iro.eq]
end Go.Proofs.YtjfimmfnhlimkaaDoor
namespace Go.Proofs.YtjfimmfnhlimkaaDoor.iroS
open Go.RowKit sl

theorem at_ {w : World} {p : Addr} {x : Iro} (h : At w p x.cells) :
    w.cell? p = some (.int .i8 x.up) ∧ w.cell? ⟨p.block, p.off + 1, none⟩ = some (.int .i8 x.down) :=
  ⟨h 0 _ rfl, h 1 _ rfl⟩




end Go.Proofs.YtjfimmfnhlimkaaDoor.iroS

/-
  Pieces to be ironed and an iron in plain numbers: what is valid, how long an iron takes to another level, when pieces are finished in an order, and what is measured of it.
-/
namespace Go.Proofs.YtjfimmfnhlimkaaDoor.iron
open Go.RowKit sl stk

def pieB (p : Pie) : Bool := inB p.lev 1 3 && (inB p.mins 1 60 && inB p.due 0 1000)
def iroB (x : Iro) : Bool := inB x.up 0 60 && inB x.down 0 60
theorem pieB_iff {p : Pie} : pieB p = true ↔ (1 ≤ p.lev ∧ p.lev ≤ 3) ∧ (1 ≤ p.mins ∧ p.mins ≤ 60) ∧ (0 ≤ p.due ∧ p.due ≤ 1000) := by
  unfold pieB
  rw [Bool.and_eq_true, Bool.and_eq_true, inB_iff, inB_iff, inB_iff]
theorem iroB_iff {x : Iro} : iroB x = true ↔ (0 ≤ x.up ∧ x.up ≤ 60) ∧ (0 ≤ x.down ∧ x.down ≤ 60) := by
  unfold iroB
  rw [Bool.and_eq_true, inB_iff, inB_iff]
/-- how long an iron takes from a level to another one -/
def chg (x : Iro) (a b : Int) : Int := if a < b then x.up * (b - a) else x.down * (a - b)
theorem chg_bd {x : Iro} {a b : Int} (hx : iroB x = true) (ha : 0 ≤ a) (ha' : a ≤ 3) (hb : 0 ≤ b) (hb' : b ≤ 3) : 0 ≤ chg x a b ∧ chg x a b ≤ 180 := by
  obtain ⟨⟨h0, h1⟩, h2, h3⟩ := iroB_iff.1 hx
  unfold chg
  split
  · exact ⟨Int.mul_nonneg h0 (by omega), Int.le_trans (Int.mul_le_mul h1 (show b - a ≤ 3 by omega) (by omega) (by omega)) (by omega)⟩
  · exact ⟨Int.mul_nonneg h2 (by omega), Int.le_trans (Int.mul_le_mul h3 (show a - b ≤ 3 by omega) (by omega) (by omega)) (by omega)⟩
/-- by how much a piece is late -/
def late (p : Pie) (t : Int) : Int := if t - p.due < 0 then 0 else t - p.due
/-- what a sum becomes by a piece that is finished at t -/
def mea (a : Nat) (sum : Int) (p : Pie) (t : Int) : Int :=
  match a with
  | 0 => t
  | 1 => sum + (if late p t < 1 then late p t else 1)
  | 2 => sum + late p t
  | _ => sum + t
structure Sta where
  lev : Int
  at_ : Int
  sum : Int
def Sta.step (x : Iro) (a : Nat) (s : Sta) (p : Pie) : Sta :=
  ⟨p.lev, s.at_ + chg x s.lev p.lev + p.mins, mea a s.sum p (s.at_ + chg x s.lev p.lev + p.mins)⟩
def ptv (ps : List Pie) (i : Int) : Pie := ps.getD i.toNat ⟨1, 1, 0⟩
def sta0 : Sta := ⟨0, 0, 0⟩
def runs (x : Iro) (a : Nat) (ps : List Pie) (os : List Int) : Sta := os.foldl (fun s i => s.step x a (ptv ps i)) sta0
theorem runs_snoc (x : Iro) (a : Nat) (ps : List Pie) (os : List Int) (i : Int) : runs x a ps (os ++ [i]) = (runs x a ps os).step x a (ptv ps i) := by simp [runs]
theorem runs_take {x : Iro} {a : Nat} {ps : List Pie} {os : List Int} {k : Nat} {i : Int} (h : os[k]? = some i) : runs x a ps (os.take (k + 1)) = (runs x a ps (os.take k)).step x a (ptv ps i) := by rw [take_snoc h, runs_snoc]
theorem ptv_valid {ps : List Pie} (h : ps.all pieB = true) (i : Int) : pieB (ptv ps i) = true := by
  unfold ptv
  rw [List.getD_eq_getElem?_getD]
  cases hx : ps[i.toNat]? with
  | none => rfl
  | some p => exact List.all_eq_true.1 h p (List.mem_of_getElem? hx)
theorem late_bd {p : Pie} {t : Int} (hp : pieB p = true) (h : 0 ≤ t) : 0 ≤ late p t ∧ late p t ≤ t := by
  obtain ⟨_, _, h0, h1⟩ := pieB_iff.1 hp
  unfold late
  split <;> omega
structure Sta.Ok (s : Sta) (n : Nat) : Prop where
  l0 : 0 ≤ s.lev
  l3 : s.lev ≤ 3
  a0 : 0 ≤ s.at_
  a1 : s.at_ ≤ 240 * n
  s0 : 0 ≤ s.sum
  s1 : s.sum ≤ 1920 * n
theorem Sta.Ok.step {s : Sta} {n : Nat} (h : s.Ok n) (hn : n < 8) {x : Iro} {p : Pie} (a : Nat) (hx : iroB x = true) (hp : pieB p = true) : (s.step x a p).Ok (n + 1) := by
  obtain ⟨⟨p0, p1⟩, ⟨p2, p3⟩, p4, p5⟩ := pieB_iff.1 hp
  obtain ⟨h0, h1, h2, h3, h4, h5⟩ := h
  have hc := chg_bd (x := x) (a := s.lev) (b := p.lev) hx h0 h1 (by omega) p1
  obtain ⟨t, ht⟩ : ∃ t, t = s.at_ + chg x s.lev p.lev + p.mins := ⟨_, rfl⟩
  have hl := late_bd (p := p) (t := t) hp (by omega)
  have hs : 0 ≤ mea a s.sum p t ∧ mea a s.sum p t ≤ 1920 * (n + 1 : Nat) := by
    unfold mea
    split
    · omega
    · split <;> omega
    · omega
    · omega
  unfold Sta.step
  rw [← ht]
  exact ⟨by show 0 ≤ p.lev; omega, p1, by show 0 ≤ t; omega, by show t ≤ _; omega, hs.1, hs.2⟩
theorem runs_ok {x : Iro} (a : Nat) {ps : List Pie} (hx : iroB x = true) (hp : ps.all pieB = true) {os : List Int} : ∀ (k : Nat), k ≤ os.length → k ≤ 8 → (runs x a ps (os.take k)).Ok k
  | 0, _, _ => by simp [runs, sta0]; exact ⟨by decide, by decide, by decide, by simp, by decide, by simp⟩
  | k + 1, hk, h8 => by
    rw [runs_take (List.getElem?_eq_getElem (show k < os.length by omega))]
    exact (runs_ok a hx hp k (by omega) (by omega)).step (by omega) a hx (ptv_valid hp _)
/-- level and minute do not hang on what is measured -/
theorem runs_same (x : Iro) (a b : Nat) (ps : List Pie) (os : List Int) : (runs x a ps os).lev = (runs x b ps os).lev ∧ (runs x a ps os).at_ = (runs x b ps os).at_ := by
  have key : ∀ (os : List Int) (s t : Sta), s.lev = t.lev → s.at_ = t.at_ → (os.foldl (fun s i => s.step x a (ptv ps i)) s).lev = (os.foldl (fun s i => s.step x b (ptv ps i)) t).lev ∧ (os.foldl (fun s i => s.step x a (ptv ps i)) s).at_ = (os.foldl (fun s i => s.step x b (ptv ps i)) t).at_ := by
    intro os
    induction os with
    | nil => intro s t h1 h2; exact ⟨h1, h2⟩
    | cons i r ih =>
      intro s t h1 h2
      exact ih _ _ (by simp [Sta.step]) (by simp [Sta.step, h1, h2])
  exact key os _ _ rfl rfl

/-- the code of an iron and pieces -/
def codeIr (x : Iro) (ps : List Pie) : Nat := if iroB x = true then (if ps.all pieB = true then (if 8 < ps.length then 3 else 0) else 1) else 1
/-- .. of pieces alone -/
def codePs (ps : List Pie) : Nat := if ps.all pieB = true then (if 8 < ps.length then 3 else 0) else 1
theorem codeIr_le (x : Iro) (ps : List Pie) : codeIr x ps ≤ 3 := by
  unfold codeIr
  split
  · split
    · split <;> omega
    · omega
  · omega
theorem codePs_le (ps : List Pie) : codePs ps ≤ 3 := by
  unfold codePs
  split
  · split <;> omega
  · omega
theorem codeIr_zero {x : Iro} {ps : List Pie} (h : codeIr x ps = 0) : iroB x = true ∧ ps.all pieB = true ∧ ps.length ≤ 8 := by
  unfold codeIr at h
  split at h
  · split at h
    · split at h
      · omega
      · exact ⟨by assumption, by assumption, by omega⟩
    · omega
  · omega
theorem codePs_zero {ps : List Pie} (h : codePs ps = 0) : ps.all pieB = true ∧ ps.length ≤ 8 := by
  unfold codePs at h
  split at h
  · split at h
    · omega
    · exact ⟨by assumption, by omega⟩
  · omega
theorem codeIr_eq (x : Iro) (ps : List Pie) : codeIr x ps = if iroB x = true then codePs ps else 1 := rfl
end Go.Proofs.YtjfimmfnhlimkaaDoor.iron

/-
  A piece, an iron: are they valid; the program's and the model's.
-/
namespace Go.Proofs.YtjfimmfnhlimkaaDoor.iron
open Go Go.RowKit sl stk

set_option maxHeartbeats 1000000 in
theorem ValidPiece_any (p : Pie) (hp : p.Fits) (w : World) :
    Calls Tryd.prog 118 #[p.v] w fun e w' => e = .returned (.bool (pieB p)) ∧ Below w.heap.size w w' := by
  obtain ⟨a, b, c⟩ := p
  obtain ⟨a0, a1, b0, b1, c0, c1⟩ := hp
  simp only at a0 a1 b0 b1 c0 c1
  go_enter Tryd.func118, Tryd.ntmps118
  go_wp2
  all_goals go_ret
  all_goals refine ⟨ret_bool (by first | (simp [pieB, inB, *]; done) | (simp [pieB, inB]; omega) | (rw [Bool.eq_iff_iff]; simp [pieB, inB]; omega) | (simp [pieB, inB, *]; omega)), ?_⟩
  all_goals repeat (first | exact Below.refl _ _ | assumption | apply Below.drew | (refine Below.alloc ?_ (by first | (simp; done) | (simp; omega) | omega) _) | (refine Below.setCell ?_ (by first | (simp; done) | (simp; omega) | omega) _))
set_option maxHeartbeats 2000000 in
theorem l07Piece_any (p : Pie) (hp : p.Fits) (b : Bool) (hb : pieB p = b) (w : World) :
    Calls Tryd.prog 70 #[p.v] w fun o w' => o = .returned (.bool b) ∧ Below w.heap.size w w' := by
  subst hb
  unfold pieB
  obtain ⟨p, q, r⟩ := p
  obtain ⟨a0, a1, a2, a3, a4, a5⟩ := hp
  simp only at a0 a1 a2 a3 a4 a5
  have HB := Lib.hid ((Below.refl w.heap.size w).alloc (Nat.le_refl _) (.cells #[.int .i8 p, .int .i8 q, .int .i16 r] 90))
  cases h0 : inB p 1 3 with
  | true =>
    have H0 := Lib.hid h0
    clear h0
    cases h1 : inB q 1 60 with
    | true =>
      have H1 := Lib.hid h1
      clear h1
      cases h2 : inB r 0 1000 with
      | true =>
        have H2 := Lib.hid h2
        clear h2
        go_enter Tryd.func70, Tryd.ntmps70
        go_wp2_with fail
        refine (l00In_b _ _ _ true H0.out _).mono ?_
        rintro o w1 ⟨rfl, rfl⟩
        go_wp2_with fail
        refine (l00In_b _ _ _ true H1.out _).mono ?_
        rintro o w1 ⟨rfl, rfl⟩
        go_wp2_with fail
        refine (l00In_b _ _ _ true H2.out _).mono ?_
        rintro o w1 ⟨rfl, rfl⟩
        go_wp2_with fail
        go_ret
        exact ⟨rfl, HB.out⟩
      | false =>
        have H2 := Lib.hid h2
        clear h2
        go_enter Tryd.func70, Tryd.ntmps70
        go_wp2_with fail
        refine (l00In_b _ _ _ true H0.out _).mono ?_
        rintro o w1 ⟨rfl, rfl⟩
        go_wp2_with fail
        refine (l00In_b _ _ _ true H1.out _).mono ?_
        rintro o w1 ⟨rfl, rfl⟩
        go_wp2_with fail
        refine (l00In_b _ _ _ false H2.out _).mono ?_
        rintro o w1 ⟨rfl, rfl⟩
        go_wp2_with fail
        go_ret
        exact ⟨rfl, HB.out⟩
    | false =>
      have H1 := Lib.hid h1
      clear h1
      go_enter Tryd.func70, Tryd.ntmps70
      go_wp2_with fail
      refine (l00In_b _ _ _ true H0.out _).mono ?_
      rintro o w1 ⟨rfl, rfl⟩
      go_wp2_with fail
      refine (l00In_b _ _ _ false H1.out _).mono ?_
      rintro o w1 ⟨rfl, rfl⟩
      go_wp2_with fail
      go_ret
      exact ⟨rfl, HB.out⟩
  | false =>
    have H0 := Lib.hid h0
    clear h0
    go_enter Tryd.func70, Tryd.ntmps70
    go_wp2_with fail
    refine (l00In_b _ _ _ false H0.out _).mono ?_
    rintro o w1 ⟨rfl, rfl⟩
    go_wp2_with fail
    go_ret
    exact ⟨rfl, HB.out⟩
set_option maxHeartbeats 2000000 in
theorem l07Iron_any (x : Iro) (hx : x.Fits) (b : Bool) (hb : iroB x = b) (w : World) :
    Calls Tryd.prog 116 #[x.v] w fun o w' => o = .returned (.bool b) ∧ Below w.heap.size w w' := by
  subst hb
  unfold iroB
  obtain ⟨p, q⟩ := x
  obtain ⟨a0, a1, a2, a3⟩ := hx
  simp only at a0 a1 a2 a3
  have HB := Lib.hid ((Below.refl w.heap.size w).alloc (Nat.le_refl _) (.cells #[.int .i8 p, .int .i8 q] 88))
  cases h0 : inB p 0 60 with
  | true =>
    have H0 := Lib.hid h0
    clear h0
    cases h1 : inB q 0 60 with
    | true =>
      have H1 := Lib.hid h1
      clear h1
      go_enter Tryd.func116, Tryd.ntmps116
      go_wp2_with fail
      refine (l00In_b _ _ _ true H0.out _).mono ?_
      rintro o w1 ⟨rfl, rfl⟩
      go_wp2_with fail
      refine (l00In_b _ _ _ true H1.out _).mono ?_
      rintro o w1 ⟨rfl, rfl⟩
      go_wp2_with fail
      go_ret
      exact ⟨rfl, HB.out⟩
    | false =>
      have H1 := Lib.hid h1
      clear h1
      go_enter Tryd.func116, Tryd.ntmps116
      go_wp2_with fail
      refine (l00In_b _ _ _ true H0.out _).mono ?_
      rintro o w1 ⟨rfl, rfl⟩
      go_wp2_with fail
      refine (l00In_b _ _ _ false H1.out _).mono ?_
      rintro o w1 ⟨rfl, rfl⟩
      go_wp2_with fail
      go_ret
      exact ⟨rfl, HB.out⟩
  | false =>
    have H0 := Lib.hid h0
    clear h0
    go_enter Tryd.func116, Tryd.ntmps116
    go_wp2_with fail
    refine (l00In_b _ _ _ false H0.out _).mono ?_
    rintro o w1 ⟨rfl, rfl⟩
    go_wp2_with fail
    go_ret
    exact ⟨rfl, HB.out⟩
end Go.Proofs.YtjfimmfnhlimkaaDoor.iron

/-
  An iron's box: it lies as it was made, whatever is made or written behind it.
-/
namespace Go.Proofs.YtjfimmfnhlimkaaDoor.iron
open Go Go.RowKit sl

/-- an iron's box, the first block behind the world w, lies in u as it was made -/
structure HotS (x : Iro) (w u : World) : Prop where
  c0 : u.cell? ⟨w.heap.size, 0, none⟩ = some (.int .i8 x.up)
  c1 : u.cell? ⟨w.heap.size, 1, none⟩ = some (.int .i8 x.down)
  b : Below w.heap.size w u
  z : w.heap.size < u.heap.size
theorem HotS.new (x : Iro) (w : World) (t : TypeId) : HotS x w (w.alloc (.cells #[.int .i8 x.up, .int .i8 x.down] t)) :=
  ⟨cell_of_row _ _ _ _ _ _ (heap_alloc_new w _), cell_of_row _ _ _ _ _ _ (heap_alloc_new w _), (Below.refl _ _).alloc (Nat.le_refl _) _, by simp⟩
theorem HotS.next {x : Iro} {w u v : World} (h : HotS x w u) (hb : Below u.heap.size u v) : HotS x w v :=
  ⟨(hb.cell (p := ⟨w.heap.size, 0, none⟩) h.z).trans h.c0, (hb.cell (p := ⟨w.heap.size, 1, none⟩) h.z).trans h.c1, h.b.trans (hb.mono (Nat.le_of_lt h.z)), Nat.lt_of_lt_of_le h.z hb.size⟩
theorem HotS.drewN {x : Iro} {w u : World} (h : HotS x w u) (m : Nat) : HotS x w (u.drewN m) := h.next (below_drewN _ _ _)
theorem HotS.mark {x : Iro} {w u u' : World} {g : Nat} (h : HotS x w u) (hg : u.grownBy u' (some g)) (hl : w.heap.size < g) : HotS x w u' := by
  have hz := h.z
  have c : ∀ p : Addr, p.block = w.heap.size → u'.cell? p = u.cell? p := fun p hp => (grownBy_below (B := w.heap.size + 1) hg (by omega) (by omega)).cell (by omega)
  exact ⟨(c ⟨w.heap.size, 0, none⟩ rfl).trans h.c0, (c ⟨w.heap.size, 1, none⟩ rfl).trans h.c1, h.b.trans (grownBy_below hg (Nat.le_of_lt hz) (Nat.le_of_lt hl)), Nat.lt_of_lt_of_le hz hg.size⟩
theorem HotS.grow {x : Iro} {w u v : World} {row : Option Nat} (h : HotS x w u) (hg : u.grownBy v row) (hr : ∀ k, row = some k → w.heap.size + 1 ≤ k) : HotS x w v := by
  have hz := h.z
  have hb : Below (w.heap.size + 1) u v := (Below.refl _ _).grown hg (by omega) hr
  exact ⟨(hb.cell (p := ⟨w.heap.size, 0, none⟩) (Nat.lt_succ_self _)).trans h.c0, (hb.cell (p := ⟨w.heap.size, 1, none⟩) (Nat.lt_succ_self _)).trans h.c1, h.b.trans (hb.mono (Nat.le_succ _)), Nat.lt_of_lt_of_le hz hb.size⟩
abbrev HotP (x : Iro) (w u : World) : Prop := u.cell? ⟨w.heap.size, 0, none⟩ = some (.int .i8 x.up) ∧ u.cell? ⟨w.heap.size, 1, none⟩ = some (.int .i8 x.down) ∧ Below w.heap.size w u ∧ w.heap.size < u.heap.size
theorem HotP.s {x : Iro} {w u : World} (h : HotP x w u) : HotS x w u := ⟨h.1, h.2.1, h.2.2.1, h.2.2.2⟩
theorem HotS.p {x : Iro} {w u : World} (h : HotS x w u) : HotP x w u := ⟨h.c0, h.c1, h.b, h.z⟩
end Go.Proofs.YtjfimmfnhlimkaaDoor.iron

/-
  The model's check of pieces alone.
-/
namespace Go.Proofs.YtjfimmfnhlimkaaDoor.iron
open Go Go.RowKit sl stk

set_option maxHeartbeats 4000000 in
theorem l07AskedA_any (x : Iro) (hx : x.Fits) (A : Option Addr) (n c : Nat) (xs : List Pie) (en : n = xs.length) (hn : n ≤ 1048576) (hf : ∀ x ∈ xs, x.Fits) (w : World) (hg : Sl Pie.cells 3 w w.heap.size A xs) (k0 : Nat) (hk0 : k0 = codeIr x xs) :
    Calls Tryd.prog 61 #[x.v, .slice A n c] w fun o w' => o = .returned (.int .i64 k0) ∧ Below w.heap.size w w' := by
  have En := Lib.hid en
  have HK := Lib.hid hk0
  clear en hk0
  have S0 := Lib.hid (HotS.new x w 88)
  have c0 := S0.out.c0
  have c1 := S0.out.c1
  cases hv : iroB x with
  | false =>
    have HV := Lib.hid hv
    clear hv
    go_enter Tryd.func61, Tryd.ntmps61
    go_wp2_with fail
    refine (l07Iron_any x hx false HV.out _).mono ?_
    rintro o w1 ⟨rfl, hb⟩
    have S1 := Lib.hid (S0.out.next hb)
    clear c0 c1 hb
    go_wp2_with fail
    go_ret
    have e1 : k0 = 1 := by rw [HK.out, codeIr, if_neg (by rw [HV.out]; decide)]
    rw [e1]
    exact ⟨rfl, S1.out.b⟩
  | true =>
    have HV := Lib.hid hv
    clear hv
    have HC : Hid (codeIr x xs = codePs xs) := Lib.hid (by rw [codeIr_eq, if_pos HV.out])
    go_enter Tryd.func61, Tryd.ntmps61
    go_wp2_with fail
    refine (l07Iron_any x hx true HV.out _).mono ?_
    rintro o w1 ⟨rfl, hb⟩
    have H1 := Lib.hid (S0.out.next hb).b
    clear c0 c1 hb S0
    go_wp2_with fail
    go_loopw [5] (fun vi wr => ∃ k : Nat, k ≤ n ∧ vi = .int .i64 k ∧ (∀ i x, i < k → xs[i]? = some x → pieB x = true) ∧ Below w.heap.size w wr) (fun vi _ => n - (intOf vi).toNat)
    case atStart => exact ⟨0, by omega, rfl, fun i x hi => absurd hi (by omega), H1.out⟩
    case round =>
      obtain ⟨k, hk, rfl, hval, hb⟩ := hrel
      by_cases hlt : k < n
      · obtain ⟨y, hy⟩ : ∃ y, xs[k]? = some y := ⟨xs[k]'(by have := En.out; omega), List.getElem?_eq_getElem _⟩
        obtain ⟨a, rfl, hab, hat⟩ := (hg.below hb).at_ k y hy
        obtain ⟨q0, q1, q2⟩ := pieS.at_ hat
        have hyf : y.Fits := hf y (List.mem_of_getElem? hy)
        have HY := Lib.hid hy
        clear hy hat
        cases hv : pieB y with
        | true =>
          have HV := Lib.hid hv
          clear hv
          go_wp2_with fail
          refine (l07Piece_any y hyf true HV.out _).mono ?_
          rintro o w2 ⟨rfl, hb2⟩
          have H2 := hb.trans (hb2.mono hb.size)
          clear q0 q1 q2 hb2
          go_wp2_with fail
          go_roundw
          case rel => exact ⟨k + 1, by omega, by go_num, fun i z hi hz => by
            rcases Nat.lt_or_ge i k with h1 | h1
            · exact hval i z h1 hz
            · obtain rfl : i = k := by omega
              have := HY.out
              rw [hz] at this
              rw [Option.some.inj this]
              exact HV.out, H2⟩
          case measure => simp [intOf]; omega
        | false =>
          have HV := Lib.hid hv
          clear hv
          go_wp2_with fail
          refine (l07Piece_any y hyf false HV.out _).mono ?_
          rintro o w2 ⟨rfl, hb2⟩
          have H2 := hb.trans (hb2.mono hb.size)
          clear q0 q1 q2 hb2
          go_wp2_with fail
          go_ret
          have e1 : k0 = 1 := by rw [HK.out, HC.out, codePs, if_neg (by rw [all_not HY.out HV.out]; decide)]
          rw [e1]
          exact ⟨rfl, H2⟩
      · have hall : xs.all pieB = true := all_of_idx fun i x hi hx => hval i x (by have := En.out; omega) hx
        have HA := Lib.hid hall
        clear hall
        by_cases h8 : 8 < n
        · have E1 : Hid (k0 = 3) := Lib.hid (by rw [HK.out, HC.out, codePs, if_pos HA.out, if_pos (by rw [← En.out]; exact h8)])
          go_wp2_with fail
          go_ret
          rw [E1.out]
          exact ⟨rfl, hb⟩
        · have E1 : Hid (k0 = 0) := Lib.hid (by rw [HK.out, HC.out, codePs, if_pos HA.out, if_neg (by rw [← En.out]; exact h8)])
          go_wp2_with fail
          go_ret
          rw [E1.out]
          exact ⟨rfl, hb⟩

end Go.Proofs.YtjfimmfnhlimkaaDoor.iron
