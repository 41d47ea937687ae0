/-
  Several texts of this proof, joined.
-/
import Derived.Test.YtjhkjbdpmianfaaDoorRows
import Derived.Test.YtjhkjbdpmianfaaDoorSl
import Derived.Test.YtjhkjbdpmianfaaDoorJoin4
import Derived.WalkKit
import Derived.WalkSpells
import Derived.WalkLawsBesides
import Derived.Lib.Hide
import Derived.Deep.QuietTactic
import Derived.BigQuiet
import Derived.Deep.RegionHeld3
import Derived.Deep.MidRow
import Derived.Test.YtjhkjbdpmianfaaDoorInB
import Derived.IntWalk
import Derived.RegionTactic
import Derived.ChangeAlike
/-
  Piece: its contracts: copied, held against another one, counted.
-/
namespace Go.Proofs.YtjhkjbdpmianfaaDoor
open Go.RowKit

/-- the numbers of a Piece -/
structure Pie where
  lev : Int
  mins : Int
  due : Int

/-- they are in the range of their kinds -/
structure Pie.Fits (x : Pie) : Prop where
  lev0 : -128 ≤ x.lev
  lev1 : x.lev ≤ 127
  mins0 : -128 ≤ x.mins
  mins1 : x.mins ≤ 127
  due0 : -32768 ≤ x.due
  due1 : x.due ≤ 32767
abbrev Pie.cells (x : Pie) : List Value := [.int .i8 x.lev, .int .i8 x.mins, .int .i16 x.due]
abbrev Pie.v (x : Pie) : Value := .agg #[.int .i8 x.lev, .int .i8 x.mins, .int .i16 x.due]
theorem Pie.len (xs : List Pie) : ∀ x ∈ xs, (Pie.cells x).length = 3 := fun _ _ => rfl
/-- are two equal -/
def Pie.eq (x y : Pie) : Bool := x.lev == y.lev && (x.mins == y.mins && (x.due == y.due))
theorem Pie.eq_iff (x y : Pie) : Pie.eq x y = true ↔ x = y := by
  cases x
  cases y
  simp [Pie.eq]
end Go.Proofs.YtjhkjbdpmianfaaDoor
namespace Go.Proofs.YtjhkjbdpmianfaaDoor.pieS
open Go.RowKit sl

theorem at_ {w : World} {p : Addr} {x : Pie} (h : At w p x.cells) :
    w.cell? p = some (.int .i8 x.lev) ∧ w.cell? ⟨p.block, p.off + 1, none⟩ = some (.int .i8 x.mins) ∧ w.cell? ⟨p.block, p.off + 2, none⟩ = some (.int .i16 x.due) :=
  ⟨h 0 _ rfl, h 1 _ rfl, h 2 _ rfl⟩

set_option maxHeartbeats 1000000 in
theorem to_any (x : Pie) (w : World) :
    Calls Tryd.prog 24 #[x.v] w fun e w' => e = .returned x.v ∧ Below w.heap.size w w' := by
  go_enter Tryd.func24, Tryd.ntmps24
  go_wp2
  refine bodyPost_ret (v := x.v) (by simp [results, Tryd.results24, go_sem]) rfl ⟨rfl, ?_⟩
  repeat (first | exact Below.refl _ _ | assumption | apply Below.drew | (refine Below.alloc ?_ (by first | (simp; done) | (simp; omega) | omega) _) | (refine Below.setCell ?_ (by first | (simp; done) | (simp; omega) | omega) _))
theorem to_parts (lev mins due : Int) (w : World) :
    Calls Tryd.prog 24 #[.agg #[.int .i8 lev, .int .i8 mins, .int .i16 due]] w fun e w' => e = .returned (.agg #[.int .i8 lev, .int .i8 mins, .int .i16 due]) ∧ Below w.heap.size w w' := to_any ⟨lev, mins, due⟩ w

theorem info : (Tryd.prog.info? 42).map (fun i => (i.zero, i.size, i.bytes)) = some (some (.agg #[.int .i8 0, .int .i8 0, .int .i16 0]), 3, 4) := by kernel_rfl

set_option maxHeartbeats 2000000 in
theorem toS_any (A : Option Addr) (c : Nat) (xs : List Pie) (hn : xs.length ≤ 1048576) (w : World) (hg : Sl Pie.cells 3 w w.heap.size A xs) :
    Calls Tryd.prog 10 #[.slice A xs.length c] w fun e w' => ∃ g, e = .returned (.slice (some ⟨g, 0, none⟩) xs.length xs.length) ∧
      w'.ownsRow w.heap.size 42 3 (.slice (some ⟨g, 0, none⟩) xs.length xs.length) xs.length (xs.flatMap Pie.cells) ∧ Below w.heap.size w w' := by
  obtain ⟨i0, hi, hz0, hz1, hz2⟩ := info_parts info
  obtain ⟨n, en⟩ : ∃ n, n = xs.length := ⟨_, rfl⟩
  rw [← en] at hn ⊢
  have En := Lib.hid en
  clear en
  have hmk : ∀ u : World, (Instr.makeSlice 32 (.int .i64 (n : Int)) (.int .i64 (n : Int))).run Tryd.prog u =
      .ok (.slice (some ⟨u.heap.size, 0, none⟩) n n) (u.alloc (.cells (madeCells #[.int .i8 0, .int .i8 0, .int .i16 0] (n * 3)) 42)) := fun u => by
    have h := run_make (P := Tryd.prog) u 32 42 i0 _ Tryd.underlying32 hi hz0 .i64 .i64 (n : Int) (n : Int) (by omega) (Int.le_refl _) (by rw [hz2]; omega) (by omega)
    have e : ((n : Int)).toNat = n := by omega
    rw [e] at h
    simpa [hz1, Value.cells] using h
  go_enter Tryd.func10, Tryd.ntmps10
  have hB0 : Below w.heap.size w (w.alloc (.cells (madeCells #[.int .i8 0, .int .i8 0, .int .i16 0] (n * 3)) 42)) := (Below.refl _ _).alloc (Nat.le_refl _) _
  have hP0 : (w.alloc (.cells (madeCells #[.int .i8 0, .int .i8 0, .int .i16 0] (n * 3)) 42)).ownsRow w.heap.size 42 3 (.slice (some ⟨w.heap.size, 0, none⟩) n n) n _ :=
    World.ownsRow_lit w (madeCells #[.int .i8 0, .int .i8 0, .int .i16 0] (n * 3)) n (Nat.le_refl _) (by unfold maxLen; omega) (size_madeCells _ _)
  have HP0 := Lib.hid hP0
  clear hP0
  go_wp2_with fail
  go_loopw [4] (fun vi wr => ∃ k L, k ≤ n ∧ vi = .int .i64 (k : Nat) ∧ wr.ownsRow w.heap.size 42 3 (.slice (some ⟨w.heap.size, 0, none⟩) n n) n L ∧ Done Pie.cells 3 xs k L ∧ Below w.heap.size w wr) (fun vi _ => n - (intOf vi).toNat)
  case atStart => exact ⟨0, _, by omega, rfl, HP0.out, Done.zero _ _ _ _, hB0⟩
  case round =>
    clear hB0 HP0
    obtain ⟨k, L, hk, rfl, hP, hD, hB⟩ := hrel
    by_cases hlt : k < n
    · have hl := En.out
      obtain ⟨x, hx⟩ : ∃ x, xs[k]? = some x := ⟨xs[k], List.getElem?_eq_getElem (by omega)⟩
      clear hl
      obtain ⟨a, rfl, hab, hat⟩ := (hg.below hB).at_ k x hx
      obtain ⟨hg0, hg1, hg2⟩ := at_ hat
      have HX := Lib.hid hx
      have HA := Lib.hid hat
      have HD := Lib.hid hD
      clear hx hat hD
      go_wp2_with fail
      refine (to_any x _).mono ?_
      rintro e w2 ⟨rfl, hb2⟩
      have hP2 := owns_next hP hb2
      have hB2 := hB.trans (hb2.mono hB.size)
      clear hg0 hg1 hg2 hb2
      have hLL := hP2.1

      obtain ⟨v0, s0⟩ : ∃ v, w2.cell? ⟨w.heap.size, k * 3, none⟩ = some v := ⟨L[k * 3]'(by omega), (hP2.cellAt (k * 3) (by omega)).trans (List.getElem?_eq_getElem _)⟩
      have f0 := hP2.frozenAt (k * 3)
      obtain ⟨v1, s1⟩ : ∃ v, w2.cell? ⟨w.heap.size, k * 3 + 1, none⟩ = some v := ⟨L[k * 3 + 1]'(by omega), (hP2.cellAt (k * 3 + 1) (by omega)).trans (List.getElem?_eq_getElem _)⟩
      have f1 := hP2.frozenAt (k * 3 + 1)
      obtain ⟨v2, s2⟩ : ∃ v, w2.cell? ⟨w.heap.size, k * 3 + 2, none⟩ = some v := ⟨L[k * 3 + 2]'(by omega), (hP2.cellAt (k * 3 + 2) (by omega)).trans (List.getElem?_eq_getElem _)⟩
      have f2 := hP2.frozenAt (k * 3 + 2)
      have HLL := Lib.hid hLL
      clear hLL
      have HP2 := Lib.hid hP2
      clear hP2 hP
      go_wp2_with fail
      go_roundw
      case rel =>
        have hP3 := (owns_cells (o := k * 3) (vs := x.cells) HP2.out).1
        exact ⟨k + 1, _, by omega, by go_num, hP3, HD.out.step (Pie.len xs) HX.out (by rw [HLL.out, En.out]), below_cells hB2 (Nat.le_refl _) x.cells (k * 3)⟩
      case measure => simp [intOf]; omega
    · go_wp2_with fail
      obtain rfl : k = n := by omega
      go_ret
      have hl := En.out
      have e : L = xs.flatMap Pie.cells := Done.full (by rw [← hl]; exact hD) (Pie.len xs) (by omega) (by rw [hP.1, hl])
      rw [← e]
      exact ⟨_, rfl, hP, hB⟩

set_option maxHeartbeats 1000000 in
theorem eq_any (x y : Pie) (w : World) :
    Calls Tryd.prog 26 #[x.v, y.v] w fun e w' => e = .returned (.bool (Pie.eq x y)) ∧ Below w.heap.size w w' := by
  go_enter Tryd.func26, Tryd.ntmps26
  go_wp2_with fail
  all_goals go_ret
  all_goals exact ⟨ret_bool (by simp only [Pie.eq]; first | (simp [*]; done) | (simp_all; done)), ((Below.refl _ _).alloc (Nat.le_refl _) _).alloc (by simp) _⟩

abbrev Both (p p' : Addr) (x y : Pie) (W u : World) : Prop :=
  u.cell? p = some (.int .i8 x.lev) ∧ u.cell? ⟨p.block, p.off + 1, none⟩ = some (.int .i8 x.mins) ∧ u.cell? ⟨p.block, p.off + 2, none⟩ = some (.int .i16 x.due) ∧ u.cell? p' = some (.int .i8 y.lev) ∧ u.cell? ⟨p'.block, p'.off + 1, none⟩ = some (.int .i8 y.mins) ∧ u.cell? ⟨p'.block, p'.off + 2, none⟩ = some (.int .i16 y.due) ∧ Below W.heap.size W u
theorem Both.next {p p' : Addr} {x y : Pie} {W u v : World} (h : Both p p' x y W u) (hp : p.block < W.heap.size) (hp' : p'.block < W.heap.size) (hb : Below u.heap.size u v) : Both p p' x y W v := by
  obtain ⟨h0, h1, h2, h3, h4, h5, hB⟩ := h
  have hs := hB.size
  have k := hb.mono hs
  exact ⟨(k.cell (p := p) hp).trans h0, (k.cell (p := ⟨p.block, p.off + 1, none⟩) hp).trans h1, (k.cell (p := ⟨p.block, p.off + 2, none⟩) hp).trans h2, (k.cell (p := p') hp').trans h3, (k.cell (p := ⟨p'.block, p'.off + 1, none⟩) hp').trans h4, (k.cell (p := ⟨p'.block, p'.off + 2, none⟩) hp').trans h5, hB.trans k⟩
theorem Both.below {p p' : Addr} {x y : Pie} {W u : World} (h : Both p p' x y W u) : Below W.heap.size W u := h.2.2.2.2.2.2

set_option maxHeartbeats 4000000 in
theorem eqS_any (A A' : Option Addr) (n n' c c' : Nat) (xs ys : List Pie) (en : n = xs.length) (en' : n' = ys.length) (hn : n ≤ 1048576) (hn' : n' ≤ 9223372036854775807) (w : World) (hg : Sl Pie.cells 3 w w.heap.size A xs) (hg' : Sl Pie.cells 3 w w.heap.size A' ys) (b : Bool) (hb : b = true ↔ xs = ys) :
    Calls Tryd.prog 13 #[.slice A n c, .slice A' n' c'] w fun e w' => e = .returned (.bool b) ∧ Below w.heap.size w w' := by
  have En := Lib.hid en
  have En' := Lib.hid en'
  have Hb := Lib.hid hb
  clear en en' hb
  by_cases hlen : n = n'
  · subst hlen
    go_enter Tryd.func13, Tryd.ntmps13
    go_wp2_with fail
    go_loopw [5] (fun vi wr => ∃ k : Nat, k ≤ n ∧ vi = .int .i64 k ∧ (∀ i, i < k → xs[i]? = ys[i]?) ∧ Below w.heap.size w wr) (fun vi _ => n - (intOf vi).toNat)
    case atStart => exact ⟨0, by omega, rfl, fun i hi => absurd hi (by omega), Below.refl _ _⟩
    case round =>
      obtain ⟨k, hk, rfl, hsame, hB⟩ := hrel
      by_cases hlt : k < n
      · obtain ⟨x, hx⟩ : ∃ x, xs[k]? = some x := ⟨xs[k]'(by have := En.out; omega), List.getElem?_eq_getElem _⟩
        obtain ⟨y, hy⟩ : ∃ y, ys[k]? = some y := ⟨ys[k]'(by have := En'.out; omega), List.getElem?_eq_getElem _⟩
        obtain ⟨a, rfl, hab, hat⟩ := (hg.below hB).at_ k x hx
        obtain ⟨a', rfl, hab', hat'⟩ := (hg'.below hB).at_ k y hy
        obtain ⟨q0, q1, q2⟩ := at_ hat
        obtain ⟨r0, r1, r2⟩ := at_ hat'
        have HX := Lib.hid hx
        have HY := Lib.hid hy
        have hp : (a.add (k * 3)).block < w.heap.size := by rw [block_add]; exact hab
        have hp' : (a'.add (k * 3)).block < w.heap.size := by rw [block_add]; exact hab'
        have h8 : Both (a.add (k * 3)) (a'.add (k * 3)) x y w wr := ⟨q0, q1, q2, r0, r1, r2, hB⟩
        have H8 := Lib.hid h8
        clear h8 hx hy hat hat'
        go_wp2_with fail
        go_region_held3 (fun u => u.cell? (a.add (k * 3)) = some (.int .i8 x.lev) ∧ u.cell? ⟨(a.add (k * 3)).block, (a.add (k * 3)).off + 1, none⟩ = some (.int .i8 x.mins) ∧ u.cell? ⟨(a.add (k * 3)).block, (a.add (k * 3)).off + 2, none⟩ = some (.int .i16 x.due) ∧ u.cell? (a'.add (k * 3)) = some (.int .i8 y.lev) ∧ u.cell? ⟨(a'.add (k * 3)).block, (a'.add (k * 3)).off + 1, none⟩ = some (.int .i8 y.mins) ∧ u.cell? ⟨(a'.add (k * 3)).block, (a'.add (k * 3)).off + 2, none⟩ = some (.int .i16 y.due) ∧ Below w.heap.size w u)
          (first | exact H8.out.next hp hp' (below_drewN _ wr 1) | exact Both.next (by assumption) hp hp' hb2)
          (first | (go_at_call 26; refine (eq_any x y _).mono ?_; rintro e w2 ⟨rfl, hb2⟩) | fail)
        go_wp2_with fail
        · have hno : (!Pie.eq x y) = true := by assumption
          go_ret
          refine ⟨ret_bool ?_, Both.below (p := a.add (k * 3)) (p' := a'.add (k * 3)) (x := x) (y := y) (by assumption)⟩
          cases hbb : b with
          | false => rfl
          | true =>
            have he := Hb.out.1 hbb
            have h1 := HX.out
            rw [he, HY.out] at h1
            have h2 : Pie.eq x y = true := (Pie.eq_iff x y).2 (Option.some.inj h1).symm
            rw [h2] at hno
            cases hno
        · have hno : (!Pie.eq x y) = false := by assumption
          have he : x = y := (Pie.eq_iff x y).1 (by simpa using hno)
          clear hno
          go_roundw
          case rel => exact ⟨k + 1, by omega, by go_num, fun i hi => by
            rcases Nat.lt_or_ge i k with h1 | h1
            · exact hsame i h1
            · obtain rfl : i = k := by omega
              rw [HX.out, HY.out, he], Both.below (p := a.add (k * 3)) (p' := a'.add (k * 3)) (x := x) (y := y) (by assumption)⟩
          case measure => simp [intOf]; omega
      · go_wp2_with fail
        go_ret
        refine ⟨ret_bool ?_, hB⟩
        exact (Hb.out.2 (lists_eq En.out En'.out fun i hi => hsame i (by omega))).symm
  · have hno : b = false := by
      cases hbb : b with
      | false => rfl
      | true => exact absurd ((En.out.trans (congrArg List.length (Hb.out.1 hbb))).trans En'.out.symm) hlen
    subst hno
    have hl : ((n : Int) != (n' : Int)) = true := by rw [bne_iff_ne]; omega
    clear hlen
    go_enter Tryd.func13, Tryd.ntmps13
    go_wp2_with fail
    go_ret
    exact ⟨rfl, Below.refl _ _⟩
set_option maxHeartbeats 1000000 in
/-- how many are left -/
theorem szS_any (A : Option Addr) (n c : Nat) (left : Int) (hn : n ≤ 9223372036854775807) (hl : 0 ≤ left ∧ left ≤ 1048576) (w : World) :
    Calls Tryd.prog 7 #[.slice A n c, .int .i64 left] w fun e w' => e = .returned (.int .i64 (if left - n < 0 then -1 else left - n)) ∧ w = w' := by
  go_enter Tryd.func7, Tryd.ntmps7
  go_wp2_with fail
  all_goals go_ret
  all_goals exact ⟨rfl, rfl⟩
end Go.Proofs.YtjhkjbdpmianfaaDoor.pieS

/-
  Iron: its contracts: copied, held against another one, counted.
-/
namespace Go.Proofs.YtjhkjbdpmianfaaDoor
open Go.RowKit

/-- the numbers of a Iron -/
structure Iro where
  up : Int
  down : Int

/-- they are in the range of their kinds -/
structure Iro.Fits (x : Iro) : Prop where
  up0 : -128 ≤ x.up
  up1 : x.up ≤ 127
  down0 : -128 ≤ x.down
  down1 : x.down ≤ 127
abbrev Iro.cells (x : Iro) : List Value := [.int .i8 x.up, .int .i8 x.down]
abbrev Iro.v (x : Iro) : Value := .agg #[.int .i8 x.up, .int .i8 x.down]
theorem Iro.len (xs : List Iro) : ∀ x ∈ xs, (Iro.cells x).length = 2 := fun _ _ => rfl
/-- are two equal -/
def Iro.eq (x y : Iro) : Bool := x.up == y.up && (x.down == y.down)
theorem Iro.eq_iff (x y : Iro) : Iro.eq x y = true ↔ x = y := by
  cases x
  cases y
  simp [Iro.eq]
end Go.Proofs.YtjhkjbdpmianfaaDoor
namespace Go.Proofs.YtjhkjbdpmianfaaDoor.iroS
open Go.RowKit sl

theorem at_ {w : World} {p : Addr} {x : Iro} (h : At w p x.cells) :
    w.cell? p = some (.int .i8 x.up) ∧ w.cell? ⟨p.block, p.off + 1, none⟩ = some (.int .i8 x.down) :=
  ⟨h 0 _ rfl, h 1 _ rfl⟩

set_option maxHeartbeats 1000000 in
theorem to_any (x : Iro) (w : World) :
    Calls Tryd.prog 9 #[x.v] w fun e w' => e = .returned x.v ∧ Below w.heap.size w w' := by
  go_enter Tryd.func9, Tryd.ntmps9
  go_wp2
  refine bodyPost_ret (v := x.v) (by simp [results, Tryd.results9, go_sem]) rfl ⟨rfl, ?_⟩
  repeat (first | exact Below.refl _ _ | assumption | apply Below.drew | (refine Below.alloc ?_ (by first | (simp; done) | (simp; omega) | omega) _) | (refine Below.setCell ?_ (by first | (simp; done) | (simp; omega) | omega) _))
theorem to_parts (up down : Int) (w : World) :
    Calls Tryd.prog 9 #[.agg #[.int .i8 up, .int .i8 down]] w fun e w' => e = .returned (.agg #[.int .i8 up, .int .i8 down]) ∧ Below w.heap.size w w' := to_any ⟨up, down⟩ w



end Go.Proofs.YtjhkjbdpmianfaaDoor.iroS

/-
  Pieces to be ironed and an iron in plain numbers: what is valid, how long an iron takes to another level, when pieces are finished in an order, and what is measured of it.
-/
namespace Go.Proofs.YtjhkjbdpmianfaaDoor.iron
open Go.RowKit sl stk

def pieB (p : Pie) : Bool := inB p.lev 1 3 && (inB p.mins 1 60 && inB p.due 0 1000)
def iroB (x : Iro) : Bool := inB x.up 0 60 && inB x.down 0 60
theorem pieB_iff {p : Pie} : pieB p = true ↔ (1 ≤ p.lev ∧ p.lev ≤ 3) ∧ (1 ≤ p.mins ∧ p.mins ≤ 60) ∧ (0 ≤ p.due ∧ p.due ≤ 1000) := by
  unfold pieB
  rw [Bool.and_eq_true, Bool.and_eq_true, inB_iff, inB_iff, inB_iff]
theorem iroB_iff {x : Iro} : iroB x = true ↔ (0 ≤ x.up ∧ x.up ≤ 60) ∧ (0 ≤ x.down ∧ x.down ≤ 60) := by
  unfold iroB
  rw [Bool.and_eq_true, inB_iff, inB_iff]
/-- how long an iron takes from a level to another one -/
def chg (x : Iro) (a b : Int) : Int := if a < b then x.up * (b - a) else x.down * (a - b)
theorem chg_bd {x : Iro} {a b : Int} (hx : iroB x = true) (ha : 0 ≤ a) (ha' : a ≤ 3) (hb : 0 ≤ b) (hb' : b ≤ 3) : 0 ≤ chg x a b ∧ chg x a b ≤ 180 := by
  obtain ⟨⟨h0, h1⟩, h2, h3⟩ := iroB_iff.1 hx
  unfold chg
  split
  · exact ⟨Int.mul_nonneg h0 (by omega), Int.le_trans (Int.mul_le_mul h1 (show b - a ≤ 3 by omega) (by omega) (by omega)) (by omega)⟩
  · exact ⟨Int.mul_nonneg h2 (by omega), Int.le_trans (Int.mul_le_mul h3 (show a - b ≤ 3 by omega) (by omega) (by omega)) (by omega)⟩
/-- by how much a piece is late -/
def late (p : Pie) (t : Int) : Int := if t - p.due < 0 then 0 else t - p.due
/-- what a sum becomes by a piece that is finished at t -/
def mea (a : Nat) (sum : Int) (p : Pie) (t : Int) : Int :=
  match a with
  | 0 => t
  | 1 => sum + (if late p t < 1 then late p t else 1)
  | 2 => sum + late p t
  | _ => sum + t
structure Sta where
  lev : Int
  at_ : Int
  sum : Int
def Sta.step (x : Iro) (a : Nat) (s : Sta) (p : Pie) : Sta :=
  ⟨p.lev, s.at_ + chg x s.lev p.lev + p.mins, mea a s.sum p (s.at_ + chg x s.lev p.lev + p.mins)⟩
def ptv (ps : List Pie) (i : Int) : Pie := ps.getD i.toNat ⟨1, 1, 0⟩
def sta0 : Sta := ⟨0, 0, 0⟩
def runs (x : Iro) (a : Nat) (ps : List Pie) (os : List Int) : Sta := os.foldl (fun s i => s.step x a (ptv ps i)) sta0
theorem runs_snoc (x : Iro) (a : Nat) (ps : List Pie) (os : List Int) (i : Int) : runs x a ps (os ++ [i]) = (runs x a ps os).step x a (ptv ps i) := by simp [runs]
theorem runs_take {x : Iro} {a : Nat} {ps : List Pie} {os : List Int} {k : Nat} {i : Int} (h : os[k]? = some i) : runs x a ps (os.take (k + 1)) = (runs x a ps (os.take k)).step x a (ptv ps i) := by rw [take_snoc h, runs_snoc]
theorem ptv_valid {ps : List Pie} (h : ps.all pieB = true) (i : Int) : pieB (ptv ps i) = true := by
  unfold ptv
  rw [List.getD_eq_getElem?_getD]
  cases hx : ps[i.toNat]? with
  | none => rfl
  | some p => exact List.all_eq_true.1 h p (List.mem_of_getElem? hx)
theorem late_bd {p : Pie} {t : Int} (hp : pieB p = true) (h : 0 ≤ t) : 0 ≤ late p t ∧ late p t ≤ t := by
  obtain ⟨_, _, h0, h1⟩ := pieB_iff.1 hp
  unfold late
  split <;> omega
structure Sta.Ok (s : Sta) (n : Nat) : Prop where
  l0 : 0 ≤ s.lev
  l3 : s.lev ≤ 3
  a0 : 0 ≤ s.at_
  a1 : s.at_ ≤ 240 * n
  s0 : 0 ≤ s.sum
  s1 : s.sum ≤ 1920 * n
theorem Sta.Ok.step {s : Sta} {n : Nat} (h : s.Ok n) (hn : n < 8) {x : Iro} {p : Pie} (a : Nat) (hx : iroB x = true) (hp : pieB p = true) : (s.step x a p).Ok (n + 1) := by
  obtain ⟨⟨p0, p1⟩, ⟨p2, p3⟩, p4, p5⟩ := pieB_iff.1 hp
  obtain ⟨h0, h1, h2, h3, h4, h5⟩ := h
  have hc := chg_bd (x := x) (a := s.lev) (b := p.lev) hx h0 h1 (by omega) p1
  obtain ⟨t, ht⟩ : ∃ t, t = s.at_ + chg x s.lev p.lev + p.mins := ⟨_, rfl⟩
  have hl := late_bd (p := p) (t := t) hp (by omega)
  have hs : 0 ≤ mea a s.sum p t ∧ mea a s.sum p t ≤ 1920 * (n + 1 : Nat) := by
    unfold mea
    split
    · omega
    · split <;> omega
    · omega
    · omega
  unfold Sta.step
  rw [← ht]
  exact ⟨by show 0 ≤ p.lev; omega, p1, by show 0 ≤ t; omega, by show t ≤ _; omega, hs.1, hs.2⟩
theorem runs_ok {x : Iro} (a : Nat) {ps : List Pie} (hx : iroB x = true) (hp : ps.all pieB = true) {os : List Int} : ∀ (k : Nat), k ≤ os.length → k ≤ 8 → (runs x a ps (os.take k)).Ok k
  | 0, _, _ => by simp [runs, sta0]; exact ⟨by decide, by decide, by decide, by simp, by decide, by simp⟩
  | k + 1, hk, h8 => by
    rw [runs_take (List.getElem?_eq_getElem (show k < os.length by omega))]
    exact (runs_ok a hx hp k (by omega) (by omega)).step (by omega) a hx (ptv_valid hp _)
/-- level and minute do not hang on what is measured -/
theorem runs_same (x : Iro) (a b : Nat) (ps : List Pie) (os : List Int) : (runs x a ps os).lev = (runs x b ps os).lev ∧ (runs x a ps os).at_ = (runs x b ps os).at_ := by
  have key : ∀ (os : List Int) (s t : Sta), s.lev = t.lev → s.at_ = t.at_ → (os.foldl (fun s i => s.step x a (ptv ps i)) s).lev = (os.foldl (fun s i => s.step x b (ptv ps i)) t).lev ∧ (os.foldl (fun s i => s.step x a (ptv ps i)) s).at_ = (os.foldl (fun s i => s.step x b (ptv ps i)) t).at_ := by
    intro os
    induction os with
    | nil => intro s t h1 h2; exact ⟨h1, h2⟩
    | cons i r ih =>
      intro s t h1 h2
      exact ih _ _ (by simp [Sta.step]) (by simp [Sta.step, h1, h2])
  exact key os _ _ rfl rfl

/-- the code of an iron and pieces -/
def codeIr (x : Iro) (ps : List Pie) : Nat := if iroB x = true then (if ps.all pieB = true then (if 8 < ps.length then 3 else 0) else 1) else 1
/-- .. of pieces alone -/
def codePs (ps : List Pie) : Nat := if ps.all pieB = true then (if 8 < ps.length then 3 else 0) else 1
theorem codeIr_le (x : Iro) (ps : List Pie) : codeIr x ps ≤ 3 := by
  unfold codeIr
  split
  · split
    · split <;> omega
    · omega
  · omega
theorem codePs_le (ps : List Pie) : codePs ps ≤ 3 := by
  unfold codePs
  split
  · split <;> omega
  · omega
theorem codeIr_zero {x : Iro} {ps : List Pie} (h : codeIr x ps = 0) : iroB x = true ∧ ps.all pieB = true ∧ ps.length ≤ 8 := by
  unfold codeIr at h
  split at h
  · split at h
    · split at h
      · omega
      · exact ⟨by assumption, by assumption, by omega⟩
    · omega
  · omega
theorem codePs_zero {ps : List Pie} (h : codePs ps = 0) : ps.all pieB = true ∧ ps.length ≤ 8 := by
  unfold codePs at h
  split at h
  · split at h
    · omega
    · exact ⟨by assumption, by omega⟩
  · omega
theorem codeIr_eq (x : Iro) (ps : List Pie) : codeIr x ps = if iroB x = true then codePs ps else 1 := rfl
end Go.Proofs.YtjhkjbdpmianfaaDoor.iron

/-
  A piece, an iron: are they valid; the program's and the model's.
-/
namespace Go.Proofs.YtjhkjbdpmianfaaDoor.iron
open Go Go.RowKit sl stk

set_option maxHeartbeats 1000000 in
theorem ValidPiece_any (p : Pie) (hp : p.Fits) (w : World) :
    Calls Tryd.prog 40 #[p.v] w fun e w' => e = .returned (.bool (pieB p)) ∧ Below w.heap.size w w' := by
  obtain ⟨a, b, c⟩ := p
  obtain ⟨a0, a1, b0, b1, c0, c1⟩ := hp
  simp only at a0 a1 b0 b1 c0 c1
  go_enter Tryd.func40, Tryd.ntmps40
  go_wp2
  all_goals go_ret
  all_goals refine ⟨ret_bool (by first | (simp [pieB, inB, *]; done) | (simp [pieB, inB]; omega) | (rw [Bool.eq_iff_iff]; simp [pieB, inB]; omega) | (simp [pieB, inB, *]; omega)), ?_⟩
  all_goals repeat (first | exact Below.refl _ _ | assumption | apply Below.drew | (refine Below.alloc ?_ (by first | (simp; done) | (simp; omega) | omega) _) | (refine Below.setCell ?_ (by first | (simp; done) | (simp; omega) | omega) _))
set_option maxHeartbeats 1000000 in
theorem ValidIron_any (x : Iro) (hx : x.Fits) (w : World) :
    Calls Tryd.prog 39 #[x.v] w fun e w' => e = .returned (.bool (iroB x)) ∧ Below w.heap.size w w' := by
  obtain ⟨a, b⟩ := x
  obtain ⟨a0, a1, b0, b1⟩ := hx
  simp only at a0 a1 b0 b1
  go_enter Tryd.func39, Tryd.ntmps39
  go_wp2
  all_goals go_ret
  all_goals refine ⟨ret_bool (by first | (simp [iroB, inB, *]; done) | (simp [iroB, inB]; omega)), ?_⟩
  all_goals repeat (first | exact Below.refl _ _ | assumption | apply Below.drew | (refine Below.alloc ?_ (by first | (simp; done) | (simp; omega) | omega) _) | (refine Below.setCell ?_ (by first | (simp; done) | (simp; omega) | omega) _))
set_option maxHeartbeats 2000000 in
theorem l07Piece_any (p : Pie) (hp : p.Fits) (b : Bool) (hb : pieB p = b) (w : World) :
    Calls Tryd.prog 37 #[p.v] w fun o w' => o = .returned (.bool b) ∧ Below w.heap.size w w' := by
  subst hb
  unfold pieB
  obtain ⟨p, q, r⟩ := p
  obtain ⟨a0, a1, a2, a3, a4, a5⟩ := hp
  simp only at a0 a1 a2 a3 a4 a5
  have HB := Lib.hid ((Below.refl w.heap.size w).alloc (Nat.le_refl _) (.cells #[.int .i8 p, .int .i8 q, .int .i16 r] 42))
  cases h0 : inB p 1 3 with
  | true =>
    have H0 := Lib.hid h0
    clear h0
    cases h1 : inB q 1 60 with
    | true =>
      have H1 := Lib.hid h1
      clear h1
      cases h2 : inB r 0 1000 with
      | true =>
        have H2 := Lib.hid h2
        clear h2
        go_enter Tryd.func37, Tryd.ntmps37
        go_wp2_with fail
        refine (l00In_b _ _ _ true H0.out _).mono ?_
        rintro o w1 ⟨rfl, rfl⟩
        go_wp2_with fail
        refine (l00In_b _ _ _ true H1.out _).mono ?_
        rintro o w1 ⟨rfl, rfl⟩
        go_wp2_with fail
        refine (l00In_b _ _ _ true H2.out _).mono ?_
        rintro o w1 ⟨rfl, rfl⟩
        go_wp2_with fail
        go_ret
        exact ⟨rfl, HB.out⟩
      | false =>
        have H2 := Lib.hid h2
        clear h2
        go_enter Tryd.func37, Tryd.ntmps37
        go_wp2_with fail
        refine (l00In_b _ _ _ true H0.out _).mono ?_
        rintro o w1 ⟨rfl, rfl⟩
        go_wp2_with fail
        refine (l00In_b _ _ _ true H1.out _).mono ?_
        rintro o w1 ⟨rfl, rfl⟩
        go_wp2_with fail
        refine (l00In_b _ _ _ false H2.out _).mono ?_
        rintro o w1 ⟨rfl, rfl⟩
        go_wp2_with fail
        go_ret
        exact ⟨rfl, HB.out⟩
    | false =>
      have H1 := Lib.hid h1
      clear h1
      go_enter Tryd.func37, Tryd.ntmps37
      go_wp2_with fail
      refine (l00In_b _ _ _ true H0.out _).mono ?_
      rintro o w1 ⟨rfl, rfl⟩
      go_wp2_with fail
      refine (l00In_b _ _ _ false H1.out _).mono ?_
      rintro o w1 ⟨rfl, rfl⟩
      go_wp2_with fail
      go_ret
      exact ⟨rfl, HB.out⟩
  | false =>
    have H0 := Lib.hid h0
    clear h0
    go_enter Tryd.func37, Tryd.ntmps37
    go_wp2_with fail
    refine (l00In_b _ _ _ false H0.out _).mono ?_
    rintro o w1 ⟨rfl, rfl⟩
    go_wp2_with fail
    go_ret
    exact ⟨rfl, HB.out⟩
set_option maxHeartbeats 2000000 in
theorem l07Iron_any (x : Iro) (hx : x.Fits) (b : Bool) (hb : iroB x = b) (w : World) :
    Calls Tryd.prog 36 #[x.v] w fun o w' => o = .returned (.bool b) ∧ Below w.heap.size w w' := by
  subst hb
  unfold iroB
  obtain ⟨p, q⟩ := x
  obtain ⟨a0, a1, a2, a3⟩ := hx
  simp only at a0 a1 a2 a3
  have HB := Lib.hid ((Below.refl w.heap.size w).alloc (Nat.le_refl _) (.cells #[.int .i8 p, .int .i8 q] 30))
  cases h0 : inB p 0 60 with
  | true =>
    have H0 := Lib.hid h0
    clear h0
    cases h1 : inB q 0 60 with
    | true =>
      have H1 := Lib.hid h1
      clear h1
      go_enter Tryd.func36, Tryd.ntmps36
      go_wp2_with fail
      refine (l00In_b _ _ _ true H0.out _).mono ?_
      rintro o w1 ⟨rfl, rfl⟩
      go_wp2_with fail
      refine (l00In_b _ _ _ true H1.out _).mono ?_
      rintro o w1 ⟨rfl, rfl⟩
      go_wp2_with fail
      go_ret
      exact ⟨rfl, HB.out⟩
    | false =>
      have H1 := Lib.hid h1
      clear h1
      go_enter Tryd.func36, Tryd.ntmps36
      go_wp2_with fail
      refine (l00In_b _ _ _ true H0.out _).mono ?_
      rintro o w1 ⟨rfl, rfl⟩
      go_wp2_with fail
      refine (l00In_b _ _ _ false H1.out _).mono ?_
      rintro o w1 ⟨rfl, rfl⟩
      go_wp2_with fail
      go_ret
      exact ⟨rfl, HB.out⟩
  | false =>
    have H0 := Lib.hid h0
    clear h0
    go_enter Tryd.func36, Tryd.ntmps36
    go_wp2_with fail
    refine (l00In_b _ _ _ false H0.out _).mono ?_
    rintro o w1 ⟨rfl, rfl⟩
    go_wp2_with fail
    go_ret
    exact ⟨rfl, HB.out⟩
end Go.Proofs.YtjhkjbdpmianfaaDoor.iron

/-
  An iron's box: it lies as it was made, whatever is made or written behind it.
-/
namespace Go.Proofs.YtjhkjbdpmianfaaDoor.iron
open Go Go.RowKit sl

/-- an iron's box, the first block behind the world w, lies in u as it was made -/
structure HotS (x : Iro) (w u : World) : Prop where
  c0 : u.cell? ⟨w.heap.size, 0, none⟩ = some (.int .i8 x.up)
  c1 : u.cell? ⟨w.heap.size, 1, none⟩ = some (.int .i8 x.down)
  b : Below w.heap.size w u
  z : w.heap.size < u.heap.size
theorem HotS.new (x : Iro) (w : World) (t : TypeId) : HotS x w (w.alloc (.cells #[.int .i8 x.up, .int .i8 x.down] t)) :=
  ⟨cell_of_row _ _ _ _ _ _ (heap_alloc_new w _), cell_of_row _ _ _ _ _ _ (heap_alloc_new w _), (Below.refl _ _).alloc (Nat.le_refl _) _, by simp⟩
theorem HotS.next {x : Iro} {w u v : World} (h : HotS x w u) (hb : Below u.heap.size u v) : HotS x w v :=
  ⟨(hb.cell (p := ⟨w.heap.size, 0, none⟩) h.z).trans h.c0, (hb.cell (p := ⟨w.heap.size, 1, none⟩) h.z).trans h.c1, h.b.trans (hb.mono (Nat.le_of_lt h.z)), Nat.lt_of_lt_of_le h.z hb.size⟩
theorem HotS.drewN {x : Iro} {w u : World} (h : HotS x w u) (m : Nat) : HotS x w (u.drewN m) := h.next (below_drewN _ _ _)
theorem HotS.mark {x : Iro} {w u u' : World} {g : Nat} (h : HotS x w u) (hg : u.grownBy u' (some g)) (hl : w.heap.size < g) : HotS x w u' := by
  have hz := h.z
  have c : ∀ p : Addr, p.block = w.heap.size → u'.cell? p = u.cell? p := fun p hp => (grownBy_below (B := w.heap.size + 1) hg (by omega) (by omega)).cell (by omega)
  exact ⟨(c ⟨w.heap.size, 0, none⟩ rfl).trans h.c0, (c ⟨w.heap.size, 1, none⟩ rfl).trans h.c1, h.b.trans (grownBy_below hg (Nat.le_of_lt hz) (Nat.le_of_lt hl)), Nat.lt_of_lt_of_le hz hg.size⟩
theorem HotS.grow {x : Iro} {w u v : World} {row : Option Nat} (h : HotS x w u) (hg : u.grownBy v row) (hr : ∀ k, row = some k → w.heap.size + 1 ≤ k) : HotS x w v := by
  have hz := h.z
  have hb : Below (w.heap.size + 1) u v := (Below.refl _ _).grown hg (by omega) hr
  exact ⟨(hb.cell (p := ⟨w.heap.size, 0, none⟩) (Nat.lt_succ_self _)).trans h.c0, (hb.cell (p := ⟨w.heap.size, 1, none⟩) (Nat.lt_succ_self _)).trans h.c1, h.b.trans (hb.mono (Nat.le_succ _)), Nat.lt_of_lt_of_le hz hb.size⟩
abbrev HotP (x : Iro) (w u : World) : Prop := u.cell? ⟨w.heap.size, 0, none⟩ = some (.int .i8 x.up) ∧ u.cell? ⟨w.heap.size, 1, none⟩ = some (.int .i8 x.down) ∧ Below w.heap.size w u ∧ w.heap.size < u.heap.size
theorem HotP.s {x : Iro} {w u : World} (h : HotP x w u) : HotS x w u := ⟨h.1, h.2.1, h.2.2.1, h.2.2.2⟩
theorem HotS.p {x : Iro} {w u : World} (h : HotS x w u) : HotP x w u := ⟨h.c0, h.c1, h.b, h.z⟩
end Go.Proofs.YtjhkjbdpmianfaaDoor.iron

/-
  Lists of numbers (int64): copied, held against each other, marked.
-/
namespace Go.Proofs.YtjhkjbdpmianfaaDoor.intS
open Go.RowKit sl

abbrev C (x : Int) : List Value := cInt .i64 x
theorem len (xs : List Int) : ∀ x ∈ xs, (C x).length = 1 := fun _ _ => rfl
theorem at_ {w : World} {a : Addr} {k : Nat} {x : Int} (h : At w (a.add (k * 1)) (C x)) : w.cell? (a.add k) = some (.int .i64 x) := by
  have h0 := h 0 _ rfl
  rw [Nat.mul_one] at h0
  exact h0
theorem info : (Tryd.prog.info? 2).map (fun i => (i.zero, i.size, i.bytes)) = some (some (.int .i64 0), 1, 8) := by kernel_rfl


set_option maxHeartbeats 2000000 in
theorem eqS_any (A A' : Option Addr) (n n' c c' : Nat) (xs ys : List Int) (en : n = xs.length) (en' : n' = ys.length) (hn : n ≤ 1048576) (hn' : n' ≤ 9223372036854775807) (w : World) (hg : Sl C 1 w w.heap.size A xs) (hg' : Sl C 1 w w.heap.size A' ys) (b : Bool) (hb : b = true ↔ xs = ys) :
    Calls Tryd.prog 12 #[.slice A n c, .slice A' n' c'] w fun e w' => e = .returned (.bool b) ∧ Below w.heap.size w w' := by
  have En := Lib.hid en
  have En' := Lib.hid en'
  have Hb := Lib.hid hb
  clear en en' hb
  by_cases hlen : n = n'
  · subst hlen
    go_enter Tryd.func12, Tryd.ntmps12
    go_wp2_with fail
    go_loopw [5] (fun vi wr => ∃ k : Nat, k ≤ n ∧ vi = .int .i64 k ∧ (∀ i, i < k → xs[i]? = ys[i]?) ∧ ∃ m, wr = w.drewN m) (fun vi _ => n - (intOf vi).toNat)
    case atStart => exact ⟨0, by omega, rfl, fun i hi => absurd hi (by omega), 0, rfl⟩
    case round =>
      obtain ⟨k, hk, rfl, hsame, m, rfl⟩ := hrel
      by_cases hlt : k < n
      · obtain ⟨x, hx⟩ : ∃ x, xs[k]? = some x := ⟨xs[k]'(by have := En.out; omega), List.getElem?_eq_getElem _⟩
        obtain ⟨y, hy⟩ : ∃ y, ys[k]? = some y := ⟨ys[k]'(by have := En'.out; omega), List.getElem?_eq_getElem _⟩
        obtain ⟨a, rfl, hab, hat⟩ := hg.at_ k x hx
        obtain ⟨a', rfl, hab', hat'⟩ := hg'.at_ k y hy
        have q0 := at_ hat
        have r0 := at_ hat'
        have HX := Lib.hid hx
        have HY := Lib.hid hy
        clear hx hy hat hat'
        by_cases hxy : x = y
        · subst hxy
          go_wp2_with fail
          go_quiet (fail)
          go_wp2_with fail
          go_roundw
          case rel => exact ⟨k + 1, by omega, by go_num, fun i hi => by
            rcases Nat.lt_or_ge i k with h1 | h1
            · exact hsame i h1
            · obtain rfl : i = k := by omega
              rw [HX.out, HY.out], _, rfl⟩
          case measure => simp [intOf]; omega
        · have hne : (x != y) = true := by rw [bne_iff_ne]; exact hxy
          go_wp2_with fail
          go_quiet (fail)
          go_wp2_with fail
          go_ret
          refine ⟨ret_bool ?_, (below_drewN _ _ _).trans (below_drewN _ _ _)⟩
          cases hbb : b with
          | false => rfl
          | true =>
            have he := Hb.out.1 hbb
            have h1 := HX.out
            rw [he, HY.out] at h1
            exact absurd (Option.some.inj h1).symm hxy
      · go_wp2_with fail
        go_ret
        refine ⟨ret_bool ?_, below_drewN _ _ _⟩
        exact (Hb.out.2 (lists_eq En.out En'.out fun i hi => hsame i (by omega))).symm
  · have hno : b = false := by
      cases hbb : b with
      | false => rfl
      | true => exact absurd ((En.out.trans (congrArg List.length (Hb.out.1 hbb))).trans En'.out.symm) hlen
    subst hno
    have hl : ((n : Int) != (n' : Int)) = true := by rw [bne_iff_ne]; omega
    clear hlen
    go_enter Tryd.func12, Tryd.ntmps12
    go_wp2_with fail
    go_ret
    exact ⟨rfl, Below.refl _ _⟩

/-- the numbers from k on -/
def marks (k : Int) (n : Nat) : List Int := (List.range n).map fun i : Nat => k + (i : Int)
theorem marks_len (k : Int) (n : Nat) : (marks k n).length = n := by simp [marks]
theorem marks_at (k : Int) (n i : Nat) (h : i < n) : (marks k n)[i]? = some (k + i) := by simp [marks, h]

set_option maxHeartbeats 2000000 in
theorem markS_row (base g n c : Nat) (k0 : Int) (hk : 0 ≤ k0 ∧ k0 ≤ 1000000000000) (hn : n ≤ 1048576) (L : List Value) (w : World) (hP : w.ownsRow base 2 1 (.slice (some ⟨g, 0, none⟩) n c) n L) :
    Calls Tryd.prog 15 #[.slice (some ⟨g, 0, none⟩) n c, .int .i64 k0] w fun e w' => e = .returned (.int .i64 (k0 + n)) ∧
      w'.ownsRow base 2 1 (.slice (some ⟨g, 0, none⟩) n c) n ((marks k0 n).flatMap C) ∧ w.grownBy w' (some g) := by
  have HP0 := Lib.hid hP
  clear hP
  go_enter Tryd.func15, Tryd.ntmps15
  go_wp2_with fail
  go_loopw [1, 5] (fun vk vi wr => ∃ k L, k ≤ n ∧ vi = .int .i64 (k : Nat) ∧ vk = .int .i64 (k0 + k) ∧ wr.ownsRow base 2 1 (.slice (some ⟨g, 0, none⟩) n c) n L ∧ Done C 1 (marks k0 n) k L ∧ w.grownBy wr (some g)) (fun _ vi _ => n - (intOf vi).toNat)
  case atStart => exact ⟨0, _, by omega, rfl, by simp, HP0.out, Done.zero _ _ _ _, ⟨rfl, rfl, rfl, Nat.le_refl _, fun _ _ _ => rfl⟩⟩
  case round =>
    obtain ⟨k, L, hk', rfl, rfl, hP, hD, hB⟩ := hrel
    by_cases hlt : k < n
    · have HX := Lib.hid (marks_at k0 n k hlt)
      have HD := Lib.hid hD
      have hLL := hP.1
      obtain ⟨v0, s0⟩ : ∃ v, wr.cell? ⟨g, k, none⟩ = some v := ⟨L[k]'(by omega), (hP.cellAt k (by omega)).trans (List.getElem?_eq_getElem _)⟩
      have f0 := hP.frozenAt k
      have HLL := Lib.hid hLL
      have HP := Lib.hid hP
      clear hLL hP hD
      go_wp2_with fail
      go_roundw
      case rel =>
        have hP3 := HP.out.stored k (.int .i64 (k0 + k))
        have g2 := hP3.2
        refine ⟨k + 1, _, by omega, by go_num, by go_num, hP3.1, ?_, ⟨g2.os.trans hB.os, g2.tape.trans hB.tape, g2.output.trans hB.output, Nat.le_trans hB.size g2.size, fun i hi hne => (g2.block i (Nat.lt_of_lt_of_le hi hB.size) hne).trans (hB.block i hi hne)⟩⟩
        have hd := HD.out.step (len _) HX.out (by rw [HLL.out, marks_len])
        rw [Nat.mul_one] at hd
        exact hd
      case measure => simp [intOf]; omega
    · go_wp2_with fail
      obtain rfl : k = n := by omega
      go_ret
      have e : L = (marks k0 k).flatMap C := Done.full (by rw [marks_len]; exact hD) (len _) (by omega) (by rw [hP.1, marks_len])
      rw [← e]
      exact ⟨rfl, hP, hB⟩
set_option maxHeartbeats 1000000 in
theorem markS_nil (k0 : Int) (w : World) :
    Calls Tryd.prog 15 #[.slice none 0 0, .int .i64 k0] w fun e w' => e = .returned (.int .i64 k0) ∧ w = w' := by
  go_enter Tryd.func15, Tryd.ntmps15
  go_wp2_with fail
  refine wp_loop_rounds 1 ?_
  rw [rounds_succ]
  go_wp2_with fail
  go_ret
  exact ⟨rfl, rfl⟩
/-- a row of the call's own is marked -/
theorem markS_any (base : Nat) (v : Value) (n : Nat) (k0 : Int) (hk : 0 ≤ k0 ∧ k0 ≤ 1000000000000) (hn : n ≤ 1048576) (L : List Value) (w : World) (hP : w.ownsRow base 2 1 v n L) :
    Calls Tryd.prog 15 #[v, .int .i64 k0] w fun e w' => e = .returned (.int .i64 (k0 + n)) ∧ w'.ownsRow base 2 1 v n ((marks k0 n).flatMap C) ∧ ∃ g, base ≤ g ∧ w.grownBy w' (some g) ∧ (v.ownBlock = none ∨ v.ownBlock = some g) := by
  obtain ⟨h1, h2⟩ := hP
  rcases h2 with ⟨rfl, rfl⟩ | ⟨g, c, cur, rfl, hg, rest⟩
  · refine (markS_nil k0 w).mono ?_
    rintro e w' ⟨rfl, rfl⟩
    exact ⟨by simp, by simpa [marks] using World.ownsRow_nil w base 2 1, base, Nat.le_refl _, ⟨rfl, rfl, rfl, Nat.le_refl _, fun _ _ _ => rfl⟩, .inl rfl⟩
  · refine (markS_row base g n c k0 hk hn L w ⟨h1, .inr ⟨g, c, cur, rfl, hg, rest⟩⟩).mono ?_
    rintro e w' ⟨rfl, hP', hgr⟩
    exact ⟨rfl, hP', g, hg, hgr, .inr rfl⟩

set_option maxHeartbeats 2000000 in
theorem heldS_any (A : Option Addr) (n c : Nat) (k0 : Int) (hk : 0 ≤ k0 ∧ k0 ≤ 1000000000000) (hn : n ≤ 1048576) (w : World) (B : Nat) (hg : Sl C 1 w B A (marks k0 n)) :
    Calls Tryd.prog 16 #[.slice A n c, .int .i64 k0] w fun e w' => e = .returned (.int .i64 (k0 + n)) ∧ w = w' := by
  go_enter Tryd.func16, Tryd.ntmps16
  go_wp2_with fail
  go_loop [1, 5] (fun vk vi => ∃ k : Nat, k ≤ n ∧ vi = .int .i64 k ∧ vk = .int .i64 (k0 + k)) (fun _ vi => n - (intOf vi).toNat)
  case atStart => exact ⟨0, by omega, rfl, by simp⟩
  case round =>
    obtain ⟨k, hk', rfl, rfl⟩ := hrel
    by_cases hlt : k < n
    · obtain ⟨a, rfl, hab, hat⟩ := hg.at_ k _ (marks_at k0 n k hlt)
      have q0 := at_ hat
      clear hat
      go_wp2_with fail
      go_round
      case rel => exact ⟨k + 1, by omega, by go_num, by go_num⟩
      case measure => simp [intOf]; omega
    · go_wp2_with fail
      obtain rfl : k = n := by omega
      go_ret
      exact ⟨rfl, rfl⟩
end Go.Proofs.YtjhkjbdpmianfaaDoor.intS

/-
  A block of one value that has just been made.
-/
namespace Go.Proofs.YtjhkjbdpmianfaaDoor.fold
open Go Go.RowKit sl

theorem one_newI (w : World) (v : Value) (T : TypeId) : ∀ (j : Nat) u, [v][j]? = some u → (w.alloc (.cells #[v] T)).cell? ((⟨w.heap.size, 0, none⟩ : Addr).add j) = some u := by
  intro j x hj
  rw [add_lit, cell_of_row _ _ _ _ _ _ (heap_alloc_new w _)]
  simpa using hj
theorem one_newB (w : World) (g : Nat) (v : Value) (T : TypeId) (hg : g = w.heap.size) : ∀ (j : Nat) u, [v][j]? = some u → (w.alloc (.cells #[v] T)).cell? ((⟨g, 0, none⟩ : Addr).add j) = some u := by
  subst hg
  exact one_newI w v T
theorem one_cellI {v : Value} (h : v.oneCell' = true) : ∀ u ∈ [v], u.oneCell' = true := by
  intro u hu
  rw [List.mem_singleton.1 hu]
  exact h
theorem flat_snoc (xs : List Int) (n : Int) : (xs ++ [n]).flatMap intS.C = xs.flatMap intS.C ++ [.int .i64 n] := by simp [intS.C]
end Go.Proofs.YtjhkjbdpmianfaaDoor.fold

/-
  Numbers sorted by insertion, in plain words: by a key, equal keys in their order.
-/
namespace Go.Proofs.YtjhkjbdpmianfaaDoor.ins
open Go Go.RowKit sl

/-- where a number is put among sorted ones: behind the last one whose key is no more -/
def scanP (key : Int → Int) (xs : List Int) (x : Int) : Nat → Nat
  | 0 => 0
  | j + 1 => if key x < key (xs.getD j 0) then scanP key xs x j else j + 1
def insP (key : Int → Int) (xs : List Int) (x : Int) : List Int := xs.take (scanP key xs x xs.length) ++ x :: xs.drop (scanP key xs x xs.length)
def srt (key : Int → Int) (ys : List Int) : List Int := ys.foldl (insP key) []
theorem scanP_le (key : Int → Int) (xs : List Int) (x : Int) : ∀ j, scanP key xs x j ≤ j
  | 0 => Nat.le_refl _
  | j + 1 => by
    rw [scanP]
    split
    · exact Nat.le_succ_of_le (scanP_le key xs x j)
    · exact Nat.le_refl _
theorem insP_len (key : Int → Int) (xs : List Int) (x : Int) : (insP key xs x).length = xs.length + 1 := by
  have := scanP_le key xs x xs.length
  simp [insP]
  omega
theorem srt_snoc (key : Int → Int) (ys : List Int) (x : Int) : srt key (ys ++ [x]) = insP key (srt key ys) x := by simp [srt]
theorem srt_take {key : Int → Int} {ys : List Int} {k : Nat} {x : Int} (h : ys[k]? = some x) : srt key (ys.take (k + 1)) = insP key (srt key (ys.take k)) x := by rw [take_snoc h, srt_snoc]
theorem srt_len (key : Int → Int) (ys : List Int) : (srt key ys).length = ys.length := by
  have : ∀ (ys xs : List Int), (ys.foldl (insP key) xs).length = xs.length + ys.length := by
    intro ys
    induction ys with
    | nil => intro xs; simp
    | cons y r ih => intro xs; rw [List.foldl_cons, ih, insP_len, List.length_cons]; omega
  simpa [srt] using this ys []
theorem insP_mem {key : Int → Int} {xs : List Int} {x z : Int} : z ∈ insP key xs x ↔ z = x ∨ z ∈ xs := by
  unfold insP
  have h := List.take_append_drop (scanP key xs x xs.length) xs
  constructor
  · intro hz
    rcases List.mem_append.1 hz with h1 | h1
    · exact .inr (List.mem_of_mem_take h1)
    · rcases List.mem_cons.1 h1 with h2 | h2
      · exact .inl h2
      · exact .inr (List.mem_of_mem_drop h2)
  · intro hz
    rcases hz with rfl | hz
    · simp
    · rw [← h] at hz
      rcases List.mem_append.1 hz with h1 | h1
      · exact List.mem_append_left _ h1
      · exact List.mem_append_right _ (List.mem_cons_of_mem _ h1)
theorem srt_mem {key : Int → Int} {ys : List Int} {z : Int} : z ∈ srt key ys ↔ z ∈ ys := by
  have : ∀ (ys xs : List Int), z ∈ ys.foldl (insP key) xs ↔ z ∈ xs ∨ z ∈ ys := by
    intro ys
    induction ys with
    | nil => intro xs; simp
    | cons y r ih =>
      intro xs
      rw [List.foldl_cons, ih, insP_mem, List.mem_cons]
      constructor
      · rintro ((h | h) | h)
        · exact .inr (.inl h)
        · exact .inl h
        · exact .inr (.inr h)
      · rintro (h | h | h)
        · exact .inl (.inr h)
        · exact .inl (.inl h)
        · exact .inr h
  simpa [srt] using this ys []
/-- a number on its way down: it stands at j -/
def arr (xs : List Int) (x : Int) (rest : List Int) (j : Nat) : List Int := xs.take j ++ x :: (xs.drop j ++ rest)
theorem arr_len {xs : List Int} {x : Int} {rest : List Int} {j : Nat} (h : j ≤ xs.length) : (arr xs x rest j).length = xs.length + 1 + rest.length := by
  simp [arr]
  omega
theorem arr_at {xs : List Int} {x : Int} {rest : List Int} {j : Nat} (h : j ≤ xs.length) : (arr xs x rest j)[j]? = some x := by
  unfold arr
  rw [List.getElem?_append_right (by simp; omega)]
  simp [Nat.min_eq_left h]
theorem arr_prev {xs : List Int} {x : Int} {rest : List Int} {j : Nat} (h : j + 1 ≤ xs.length) : (arr xs x rest (j + 1))[j]? = some (xs.getD j 0) := by
  unfold arr
  rw [List.getElem?_append_left (by simp; omega), List.getElem?_take_of_lt (by omega), List.getD_eq_getElem?_getD, List.getElem?_eq_getElem (by omega)]
  rfl
theorem arr_swap {xs : List Int} {x : Int} {rest : List Int} {j : Nat} (h : j + 1 ≤ xs.length) : ((arr xs x rest (j + 1)).set (j + 1) (xs.getD j 0)).set j x = arr xs x rest j := by
  have hj : xs.getD j 0 = xs[j]'(by omega) := by rw [List.getD_eq_getElem?_getD, List.getElem?_eq_getElem (by omega)]; rfl
  have e1 : xs.take (j + 1) = xs.take j ++ [xs[j]'(by omega)] := List.take_succ_eq_append_getElem (by omega)
  have e2 : xs.drop j = xs[j]'(by omega) :: xs.drop (j + 1) := List.drop_eq_getElem_cons (by omega)
  unfold arr
  rw [hj, e1, e2]
  have hl : (xs.take j).length = j := by simp; omega
  rw [List.append_assoc]
  rw [List.set_append, if_neg (by omega), List.set_append, if_neg (by omega), hl]
  have e3 : j + 1 - j = 1 := by omega
  rw [e3, Nat.sub_self]
  rfl
theorem arr_swap' {xs : List Int} {x : Int} {rest : List Int} {j : Nat} (h : j + 1 ≤ xs.length) : ((arr xs x rest (j + 1)).set j x).set (j + 1) (xs.getD j 0) = arr xs x rest j := by
  rw [← arr_swap h, List.set_comm _ _ (by omega)]
theorem arr_full (xs : List Int) (x : Int) (rest : List Int) : arr xs x rest xs.length = xs ++ x :: rest := by simp [arr]
theorem arr_ins (key : Int → Int) (xs : List Int) (x : Int) (rest : List Int) : arr xs x rest (scanP key xs x xs.length) = insP key xs x ++ rest := by simp [arr, insP]
theorem flat_set (L : List Int) (j : Nat) (v : Int) : (L.flatMap intS.C).set j (.int .i64 v) = (L.set j v).flatMap intS.C := by
  have e : ∀ (M : List Int), M.flatMap intS.C = M.map (fun z => Value.int .i64 z) := fun M => by
    induction M with
    | nil => rfl
    | cons a r ih => simp [intS.C, ih]
  rw [e, e, List.map_set]
/-- how two keys compare -/
def cmpI (x y : Int) : Int := if x < y then -1 else if y < x then 1 else 0
theorem cmpI_neg (x y : Int) : cmpI x y < 0 ↔ x < y := by
  unfold cmpI
  split
  · omega
  · split <;> omega
theorem cmpI_bd (x y : Int) : -1 ≤ cmpI x y ∧ cmpI x y ≤ 1 := by
  unfold cmpI
  split
  · omega
  · split <;> omega
end Go.Proofs.YtjhkjbdpmianfaaDoor.ins

/-
  Pieces compared by a number of each: the program's closure, by level and by due minute.
-/
namespace Go.Proofs.YtjhkjbdpmianfaaDoor.iron
open Go Go.RowKit sl stk ins

theorem ptv_at {ps : List Pie} {j : Nat} {y : Pie} (hy : ps[j]? = some y) : ptv ps (j : Int) = y := by unfold ptv; rw [List.getD_eq_getElem?_getD, Int.toNat_natCast, hy]; rfl
abbrev CS (p2 p3 : Nat) (A : Option Addr) (n c : Nat) (fv : Value) (q r : Addr) (y z : Pie) (u : World) : Prop :=
  u.cell? ⟨p2, 0, none⟩ = some (.slice A n c) ∧ u.cell? ⟨p3, 0, none⟩ = some fv ∧
  (u.cell? q = some (.int .i8 y.lev) ∧ u.cell? ⟨q.block, q.off + 1, none⟩ = some (.int .i8 y.mins) ∧ u.cell? ⟨q.block, q.off + 2, none⟩ = some (.int .i16 y.due)) ∧
  (u.cell? r = some (.int .i8 z.lev) ∧ u.cell? ⟨r.block, r.off + 1, none⟩ = some (.int .i8 z.mins) ∧ u.cell? ⟨r.block, r.off + 2, none⟩ = some (.int .i16 z.due))
theorem CS.next {p2 p3 : Nat} {A : Option Addr} {n c : Nat} {fv : Value} {q r : Addr} {y z : Pie} {u v : World} (h : CS p2 p3 A n c fv q r y z u) {B : Nat} (h2 : p2 < B) (h3 : p3 < B) (hq : q.block < B) (hr : r.block < B) (hb : Below B u v) : CS p2 p3 A n c fv q r y z v :=
  ⟨(hb.cell (p := ⟨_, 0, none⟩) h2).trans h.1, (hb.cell (p := ⟨_, 0, none⟩) h3).trans h.2.1,
   ⟨(hb.cell hq).trans h.2.2.1.1, (hb.cell (p := ⟨_, _, none⟩) hq).trans h.2.2.1.2.1, (hb.cell (p := ⟨_, _, none⟩) hq).trans h.2.2.1.2.2⟩,
   ⟨(hb.cell hr).trans h.2.2.2.1, (hb.cell (p := ⟨_, _, none⟩) hr).trans h.2.2.2.2.1, (hb.cell (p := ⟨_, _, none⟩) hr).trans h.2.2.2.2.2⟩⟩
end Go.Proofs.YtjhkjbdpmianfaaDoor.iron

/-
  The library's insertion sort, over numbers of a row of the call's own and a function that compares: slices.insertionSortCmpFunc.
-/
namespace Go.Proofs.YtjhkjbdpmianfaaDoor.iron
open Go Go.RowKit sl stk ins

end Go.Proofs.YtjhkjbdpmianfaaDoor.iron

/-
  The library's sort of numbers where there are no more than twelve: slices.Sort, by insertion. F: what the row is kept in.
-/
namespace Go.Proofs.YtjhkjbdpmianfaaDoor.ins
open Go Go.RowKit sl

/-- a row of numbers in block D, whatever keeps it -/
structure Kept (F : World → List Int → Prop) (D n : Nat) (k : IntKind) : Prop where
  at_ : ∀ u L j x, F u L → L[j]? = some x → u.cell? ⟨D, j, none⟩ = some (.int k x)
  fz : ∀ u L j, F u L → j < n → u.frozen? ⟨D, j, none⟩ = false
  set : ∀ u L j x, F u L → j < n → F (u.setCell ⟨D, j, none⟩ (.int k x)) (L.set j x)
  drew : ∀ u L, F u L → F u.drew L
theorem drewN_kept {F : World → List Int → Prop} {D n : Nat} {k : IntKind} (hF : Kept F D n k) {u : World} {L : List Int} (h : F u L) : ∀ q, F (u.drewN q) L
  | 0 => h
  | q + 1 => by
    have := hF.drew _ _ (drewN_kept hF h q)
    exact this
set_option maxHeartbeats 1000000 in
theorem isNaN_i8 (x : Int) (w : World) : Calls Tryd.prog 83 #[.int .i8 x] w fun o w' => o = .returned (.bool false) ∧ w = w' := by
  go_enter Tryd.func83, Tryd.ntmps83
  go_wp2_with fail
  go_ret
  exact ⟨ret_bool (by simp), rfl⟩
set_option maxHeartbeats 1000000 in
theorem less_i8 (x y : Int) (b : Bool) (hb : decide (x < y) = b) (w : World) : Calls Tryd.prog 72 #[.int .i8 x, .int .i8 y] w fun o w' => o = .returned (.bool b) ∧ w' = w := by
  subst hb
  go_enter Tryd.func72, Tryd.ntmps72
  go_wp2_with (first | (go_at_call 83; refine (isNaN_i8 _ _).mono ?_; rintro o w1 ⟨rfl, rfl⟩) | fail)
  go_ret
  exact ⟨rfl, rfl⟩
set_option maxRecDepth 100000 in
set_option maxHeartbeats 4000000 in
theorem insertO_i8 (F : World → List Int → Prop) (D n c : Nat) (hF : Kept F D n .i8) (hn : n ≤ 12) (ys : List Int) (hys : ys.length = n) (W0 w : World) (hB : Below D W0 w) (hP : F w ys) :
    Calls Tryd.prog 66 #[.slice (some ⟨D, 0, none⟩) n c, .int .i64 0, .int .i64 n] w fun o w' => o = .returned (.tuple #[]) ∧ F w' (srt id ys) ∧ Below D W0 w' := by
  have HY := Lib.hid hys
  have HF := Lib.hid hF
  have HP0 : Hid (F w (srt id (ys.take 1) ++ ys.drop 1)) := Lib.hid (by
    have e : srt id (ys.take 1) ++ ys.drop 1 = ys := by
      cases ys with
      | nil => rfl
      | cons y r => rfl
    rw [e]
    exact hP)
  have HB0 := Lib.hid hB
  clear hys hB hP hF
  go_enter Tryd.func66, Tryd.ntmps66
  go_wp2_with fail
  go_loopw [6, 7] (fun vi _ wr => ∃ i : Nat, 1 ≤ i ∧ (i ≤ n ∨ i = 1) ∧ vi = .int .i64 i ∧ F wr (srt id (ys.take i) ++ ys.drop i) ∧ Below D W0 wr) (fun vi _ _ => n + 1 - (intOf vi).toNat)
  case atStart => exact ⟨1, by omega, .inr rfl, rfl, HP0.out, HB0.out⟩
  case round =>
    clear HP0 HB0
    obtain ⟨i, h1, h2, rfl, hP, hB⟩ := hrel
    have HPi := Lib.hid hP
    have HBi := Lib.hid hB
    obtain ⟨wo, rfl⟩ : ∃ wo, wo = wr := ⟨wr, rfl⟩
    clear hP hB
    by_cases hlt : i < n
    · obtain ⟨x, hx⟩ : ∃ x, ys[i]? = some x := ⟨ys[i]'(by have := HY.out; omega), List.getElem?_eq_getElem _⟩
      obtain ⟨xs, hxs⟩ : ∃ xs, xs = srt id (ys.take i) := ⟨_, rfl⟩
      have hxl : xs.length = i := by rw [hxs, srt_len, List.length_take]; have := HY.out; omega
      have hsn : srt id (ys.take (i + 1)) = insP id xs x := by rw [srt_take hx, hxs]
      have hdr : ys.drop i = x :: ys.drop (i + 1) := by
        rw [List.drop_eq_getElem_cons (by have := HY.out; omega)]
        congr 1
        exact (List.getElem?_eq_some_iff.1 hx).2
      obtain ⟨rest, hrest⟩ : ∃ rest, rest = ys.drop (i + 1) := ⟨_, rfl⟩
      have HP1 : Hid (F wo (arr xs x rest i)) := Lib.hid (by
        have := HPi.out
        rw [← hxs, hdr, ← hrest, ← arr_full, hxl] at this
        exact this)
      have HXL := Lib.hid hxl
      have HSN := Lib.hid hsn
      have HRE := Lib.hid hrest
      clear hx hxs hxl hsn hdr hrest HPi
      go_wp2_with fail
      go_loopw [7] (fun vj wr => ∃ j : Nat, j ≤ i ∧ vj = .int .i64 j ∧ F wr (arr xs x rest j) ∧ scanP id xs x j = scanP id xs x xs.length ∧ Below D W0 wr) (fun vj _ => (intOf vj).toNat)
      case atStart => exact ⟨i, Nat.le_refl _, rfl, HP1.out, by rw [HXL.out], HBi.out⟩
      case round =>
        clear HP1 HBi
        obtain ⟨j, hj, rfl, hP, hs, hB⟩ := hrel
        have HPj := Lib.hid hP
        have HS := Lib.hid hs
        have HBj := Lib.hid hB
        clear hP hs hB
        cases j with
        | zero =>
          have hfin : Hid (F wr (srt id (ys.take (i + 1)) ++ ys.drop (i + 1))) := Lib.hid (by
            rw [HSN.out, ← HRE.out, ← arr_ins, ← HS.out]
            exact HPj.out)
          have hdn : ∀ q, Hid (F (wr.drewN q) (srt id (ys.take (i + 1)) ++ ys.drop (i + 1))) := fun q => Lib.hid (drewN_kept HF.out hfin.out q)
          rw [show (((0 : Nat) : Int)) = 0 from rfl]
          go_wp2_with fail
          go_quiet (fail)
          go_wp2_with fail
          go_roundw
          case rel => exact ⟨i + 1, by omega, .inl (by omega), by go_num, (hdn _).out, HBj.out.trans (below_drewN _ _ _)⟩
          case measure => simp [intOf]; omega
        | succ q =>
          have hql : q + 1 ≤ xs.length := by have := HXL.out; omega
          obtain ⟨y, hyq0⟩ : ∃ y, xs.getD q 0 = y := ⟨_, rfl⟩
          have hyq : (arr xs x rest (q + 1))[q]? = some y := by rw [arr_prev hql, hyq0]
          have c1 := HF.out.at_ _ _ _ _ HPj.out (arr_at hql)
          have c2 := HF.out.at_ _ _ _ _ HPj.out hyq
          have f1 := HF.out.fz _ _ (q + 1) HPj.out (by omega)
          have f2 := HF.out.fz _ _ q HPj.out (by omega)
          have HE1 : Hid (((arr xs x rest (q + 1)).set (q + 1) y).set q x = arr xs x rest q) := Lib.hid (by have := arr_swap (x := x) (rest := rest) hql; rwa [hyq0] at this)
          have HE2 : Hid (((arr xs x rest (q + 1)).set q x).set (q + 1) y = arr xs x rest q) := Lib.hid (by have := arr_swap' (x := x) (rest := rest) hql; rwa [hyq0] at this)
          have hsc : scanP id xs x (q + 1) = if x < y then scanP id xs x q else q + 1 := by rw [scanP, hyq0]; rfl
          have HSC := Lib.hid hsc
          obtain ⟨b, hb⟩ : ∃ b, decide (x < y) = b := ⟨_, rfl⟩
          have HB1 := Lib.hid hb
          have x1 : ((q : Int) + 1).toNat = q + 1 := by omega
          have x2 : (0 : Int) ≤ (q : Int) + 1 := by omega
          have x3 : (q : Int) + 1 < (n : Int) := by omega
          have x4 : IntKind.i64.wrap (q : Int) = (q : Int) := IntWalk.i64_in _ (by omega)
          have x5 : (0 : Int) ≤ (q : Int) := by omega
          have x6 : (q : Int) < (n : Int) := by omega
          have x7 : decide ((0 : Int) < (q : Int) + 1) = true := decide_eq_true (by omega)
          have x8 : (((q + 1 : Nat) : Int)) = (q : Int) + 1 := by omega
          rw [x8]
          clear x8 hql hyq hyq0 hsc hb
          cases b with
          | true =>
            have hlk : x < y := of_decide_eq_true HB1.out
            have HS2 : Hid (scanP id xs x q = scanP id xs x xs.length) := Lib.hid (by rw [← HS.out, HSC.out, if_pos hlk])
            have HPD : ∀ r, Hid (F (wr.drewN r) (arr xs x rest (q + 1))) := fun r => Lib.hid (drewN_kept HF.out HPj.out r)
            clear hlk HS HSC
            go_wp2_with fail
            go_quiet ((go_at_call 72; exact Calls.quiet_of_same (less_i8 _ _ _ HB1.out _)))
            have x9 : q ≠ q + 1 := by omega
            have HPV := Lib.hid (HPD nq).out
            have HBV := Lib.hid (HBj.out.trans (below_drewN D wr nq))
            have c1 : (wr.drewN nq).cell? ⟨D, q + 1, none⟩ = some (.int .i8 x) := c1
            have c2 : (wr.drewN nq).cell? ⟨D, q, none⟩ = some (.int .i8 y) := c2
            have f1 : (wr.drewN nq).frozen? ⟨D, q + 1, none⟩ = false := f1
            have f2 : (wr.drewN nq).frozen? ⟨D, q, none⟩ = false := f2
            generalize wr.drewN nq = v1 at HPV HBV c1 c2 f1 f2 ⊢
            clear HPD
            go_wp2_with fail
            go_region
            all_goals
              clear x1 x2 x3 x4 x5 x6 x7 x9 c1 c2 f1 f2
              go_wp2_with fail
              go_roundw
              case rel =>
                refine ⟨q, by omega, by first | rfl | go_num, ?_, HS2.out, ?_⟩
                · first
                  | (have := HF.out.drew _ _ (HF.out.set _ _ q x (HF.out.set _ _ (q + 1) y HPV.out (by omega)) (by omega)); rw [HE1.out] at this; exact this)
                  | (have := HF.out.drew _ _ (HF.out.set _ _ (q + 1) y (HF.out.set _ _ q x HPV.out (by omega)) (by omega)); rw [HE2.out] at this; exact this)
                · first
                  | exact ((HBV.out.setCell (p := ⟨D, q + 1, none⟩) (Nat.le_refl _) (.int .i8 y)).setCell (p := ⟨D, q, none⟩) (Nat.le_refl _) (.int .i8 x)).drew
                  | exact ((HBV.out.setCell (p := ⟨D, q, none⟩) (Nat.le_refl _) (.int .i8 x)).setCell (p := ⟨D, q + 1, none⟩) (Nat.le_refl _) (.int .i8 y)).drew
              case measure => first | (simp [intOf]; done) | (simp [intOf]; omega)
          | false =>
            have hlk : ¬ x < y := of_decide_eq_false HB1.out
            have hfin : Hid (F wr (srt id (ys.take (i + 1)) ++ ys.drop (i + 1))) := Lib.hid (by
              rw [HSN.out, ← HRE.out, ← arr_ins, ← HS.out, HSC.out, if_neg hlk]
              exact HPj.out)
            have hdn : ∀ r, Hid (F (wr.drewN r) (srt id (ys.take (i + 1)) ++ ys.drop (i + 1))) := fun r => Lib.hid (drewN_kept HF.out hfin.out r)
            clear hlk HS HSC
            go_wp2_with fail
            go_quiet ((go_at_call 72; exact Calls.quiet_of_same (less_i8 _ _ _ HB1.out _)))
            clear x1 x2 x3 x4 x5 x6 x7 c1 c2 f1 f2
            go_wp2_with fail
            go_roundw
            case rel => exact ⟨i + 1, by omega, .inl (by omega), by go_num, (hdn _).out, HBj.out.trans (below_drewN _ _ _)⟩
            case measure => simp [intOf]; omega
    · have hfin : Hid (F wo (srt id ys)) := Lib.hid (by
        have hyn := HY.out
        have h := HPi.out
        rw [List.take_of_length_le (by omega), List.drop_of_length_le (by omega), List.append_nil] at h
        exact h)
      go_wp2_with fail
      go_end0
      exact ⟨rfl, hfin.out, HBi.out⟩

end Go.Proofs.YtjhkjbdpmianfaaDoor.ins

/-
  slices.Sort, where there are no more than twelve numbers.
-/
namespace Go.Proofs.YtjhkjbdpmianfaaDoor.ins
open Go Go.RowKit sl

set_option maxRecDepth 100000 in
set_option maxHeartbeats 1000000 in
theorem len64_0 (w : World) : Calls Tryd.prog 76 #[.int .u64 0] w fun o w' => (∃ z, o = .returned (.int .i64 z)) ∧ w = w' := by
  go_enter Tryd.func76, Tryd.ntmps76
  go_wp2_with fail
  go_ret
  exact ⟨⟨_, rfl⟩, rfl⟩
set_option maxRecDepth 100000 in
set_option maxHeartbeats 1000000 in
theorem len_0 (w : World) : Calls Tryd.prog 63 #[.int .u64 0] w fun o w' => (∃ z, o = .returned (.int .i64 z)) ∧ w = w' := by
  go_enter Tryd.func63, Tryd.ntmps63
  go_wp2_with fail
  refine (len64_0 _).mono ?_
  rintro o w1 ⟨⟨z, rfl⟩, rfl⟩
  go_wp2_with fail
  go_ret
  exact ⟨⟨_, rfl⟩, rfl⟩
set_option maxRecDepth 100000 in
set_option maxHeartbeats 1000000 in
theorem len64_1 (w : World) : Calls Tryd.prog 76 #[.int .u64 1] w fun o w' => (∃ z, o = .returned (.int .i64 z)) ∧ w = w' := by
  go_enter Tryd.func76, Tryd.ntmps76
  go_wp2_with fail
  go_ret
  exact ⟨⟨_, rfl⟩, rfl⟩
set_option maxRecDepth 100000 in
set_option maxHeartbeats 1000000 in
theorem len_1 (w : World) : Calls Tryd.prog 63 #[.int .u64 1] w fun o w' => (∃ z, o = .returned (.int .i64 z)) ∧ w = w' := by
  go_enter Tryd.func63, Tryd.ntmps63
  go_wp2_with fail
  refine (len64_1 _).mono ?_
  rintro o w1 ⟨⟨z, rfl⟩, rfl⟩
  go_wp2_with fail
  go_ret
  exact ⟨⟨_, rfl⟩, rfl⟩
set_option maxRecDepth 100000 in
set_option maxHeartbeats 1000000 in
theorem len64_2 (w : World) : Calls Tryd.prog 76 #[.int .u64 2] w fun o w' => (∃ z, o = .returned (.int .i64 z)) ∧ w = w' := by
  go_enter Tryd.func76, Tryd.ntmps76
  go_wp2_with fail
  go_ret
  exact ⟨⟨_, rfl⟩, rfl⟩
set_option maxRecDepth 100000 in
set_option maxHeartbeats 1000000 in
theorem len_2 (w : World) : Calls Tryd.prog 63 #[.int .u64 2] w fun o w' => (∃ z, o = .returned (.int .i64 z)) ∧ w = w' := by
  go_enter Tryd.func63, Tryd.ntmps63
  go_wp2_with fail
  refine (len64_2 _).mono ?_
  rintro o w1 ⟨⟨z, rfl⟩, rfl⟩
  go_wp2_with fail
  go_ret
  exact ⟨⟨_, rfl⟩, rfl⟩
set_option maxRecDepth 100000 in
set_option maxHeartbeats 1000000 in
theorem len64_3 (w : World) : Calls Tryd.prog 76 #[.int .u64 3] w fun o w' => (∃ z, o = .returned (.int .i64 z)) ∧ w = w' := by
  go_enter Tryd.func76, Tryd.ntmps76
  go_wp2_with fail
  go_ret
  exact ⟨⟨_, rfl⟩, rfl⟩
set_option maxRecDepth 100000 in
set_option maxHeartbeats 1000000 in
theorem len_3 (w : World) : Calls Tryd.prog 63 #[.int .u64 3] w fun o w' => (∃ z, o = .returned (.int .i64 z)) ∧ w = w' := by
  go_enter Tryd.func63, Tryd.ntmps63
  go_wp2_with fail
  refine (len64_3 _).mono ?_
  rintro o w1 ⟨⟨z, rfl⟩, rfl⟩
  go_wp2_with fail
  go_ret
  exact ⟨⟨_, rfl⟩, rfl⟩
set_option maxRecDepth 100000 in
set_option maxHeartbeats 1000000 in
theorem len64_4 (w : World) : Calls Tryd.prog 76 #[.int .u64 4] w fun o w' => (∃ z, o = .returned (.int .i64 z)) ∧ w = w' := by
  go_enter Tryd.func76, Tryd.ntmps76
  go_wp2_with fail
  go_ret
  exact ⟨⟨_, rfl⟩, rfl⟩
set_option maxRecDepth 100000 in
set_option maxHeartbeats 1000000 in
theorem len_4 (w : World) : Calls Tryd.prog 63 #[.int .u64 4] w fun o w' => (∃ z, o = .returned (.int .i64 z)) ∧ w = w' := by
  go_enter Tryd.func63, Tryd.ntmps63
  go_wp2_with fail
  refine (len64_4 _).mono ?_
  rintro o w1 ⟨⟨z, rfl⟩, rfl⟩
  go_wp2_with fail
  go_ret
  exact ⟨⟨_, rfl⟩, rfl⟩
set_option maxRecDepth 100000 in
set_option maxHeartbeats 1000000 in
theorem len64_5 (w : World) : Calls Tryd.prog 76 #[.int .u64 5] w fun o w' => (∃ z, o = .returned (.int .i64 z)) ∧ w = w' := by
  go_enter Tryd.func76, Tryd.ntmps76
  go_wp2_with fail
  go_ret
  exact ⟨⟨_, rfl⟩, rfl⟩
set_option maxRecDepth 100000 in
set_option maxHeartbeats 1000000 in
theorem len_5 (w : World) : Calls Tryd.prog 63 #[.int .u64 5] w fun o w' => (∃ z, o = .returned (.int .i64 z)) ∧ w = w' := by
  go_enter Tryd.func63, Tryd.ntmps63
  go_wp2_with fail
  refine (len64_5 _).mono ?_
  rintro o w1 ⟨⟨z, rfl⟩, rfl⟩
  go_wp2_with fail
  go_ret
  exact ⟨⟨_, rfl⟩, rfl⟩
set_option maxRecDepth 100000 in
set_option maxHeartbeats 1000000 in
theorem len64_6 (w : World) : Calls Tryd.prog 76 #[.int .u64 6] w fun o w' => (∃ z, o = .returned (.int .i64 z)) ∧ w = w' := by
  go_enter Tryd.func76, Tryd.ntmps76
  go_wp2_with fail
  go_ret
  exact ⟨⟨_, rfl⟩, rfl⟩
set_option maxRecDepth 100000 in
set_option maxHeartbeats 1000000 in
theorem len_6 (w : World) : Calls Tryd.prog 63 #[.int .u64 6] w fun o w' => (∃ z, o = .returned (.int .i64 z)) ∧ w = w' := by
  go_enter Tryd.func63, Tryd.ntmps63
  go_wp2_with fail
  refine (len64_6 _).mono ?_
  rintro o w1 ⟨⟨z, rfl⟩, rfl⟩
  go_wp2_with fail
  go_ret
  exact ⟨⟨_, rfl⟩, rfl⟩
set_option maxRecDepth 100000 in
set_option maxHeartbeats 1000000 in
theorem len64_7 (w : World) : Calls Tryd.prog 76 #[.int .u64 7] w fun o w' => (∃ z, o = .returned (.int .i64 z)) ∧ w = w' := by
  go_enter Tryd.func76, Tryd.ntmps76
  go_wp2_with fail
  go_ret
  exact ⟨⟨_, rfl⟩, rfl⟩
set_option maxRecDepth 100000 in
set_option maxHeartbeats 1000000 in
theorem len_7 (w : World) : Calls Tryd.prog 63 #[.int .u64 7] w fun o w' => (∃ z, o = .returned (.int .i64 z)) ∧ w = w' := by
  go_enter Tryd.func63, Tryd.ntmps63
  go_wp2_with fail
  refine (len64_7 _).mono ?_
  rintro o w1 ⟨⟨z, rfl⟩, rfl⟩
  go_wp2_with fail
  go_ret
  exact ⟨⟨_, rfl⟩, rfl⟩
set_option maxRecDepth 100000 in
set_option maxHeartbeats 1000000 in
theorem len64_8 (w : World) : Calls Tryd.prog 76 #[.int .u64 8] w fun o w' => (∃ z, o = .returned (.int .i64 z)) ∧ w = w' := by
  go_enter Tryd.func76, Tryd.ntmps76
  go_wp2_with fail
  go_ret
  exact ⟨⟨_, rfl⟩, rfl⟩
set_option maxRecDepth 100000 in
set_option maxHeartbeats 1000000 in
theorem len_8 (w : World) : Calls Tryd.prog 63 #[.int .u64 8] w fun o w' => (∃ z, o = .returned (.int .i64 z)) ∧ w = w' := by
  go_enter Tryd.func63, Tryd.ntmps63
  go_wp2_with fail
  refine (len64_8 _).mono ?_
  rintro o w1 ⟨⟨z, rfl⟩, rfl⟩
  go_wp2_with fail
  go_ret
  exact ⟨⟨_, rfl⟩, rfl⟩
set_option maxRecDepth 100000 in
set_option maxHeartbeats 1000000 in
theorem len64_9 (w : World) : Calls Tryd.prog 76 #[.int .u64 9] w fun o w' => (∃ z, o = .returned (.int .i64 z)) ∧ w = w' := by
  go_enter Tryd.func76, Tryd.ntmps76
  go_wp2_with fail
  go_ret
  exact ⟨⟨_, rfl⟩, rfl⟩
set_option maxRecDepth 100000 in
set_option maxHeartbeats 1000000 in
theorem len_9 (w : World) : Calls Tryd.prog 63 #[.int .u64 9] w fun o w' => (∃ z, o = .returned (.int .i64 z)) ∧ w = w' := by
  go_enter Tryd.func63, Tryd.ntmps63
  go_wp2_with fail
  refine (len64_9 _).mono ?_
  rintro o w1 ⟨⟨z, rfl⟩, rfl⟩
  go_wp2_with fail
  go_ret
  exact ⟨⟨_, rfl⟩, rfl⟩
set_option maxRecDepth 100000 in
set_option maxHeartbeats 1000000 in
theorem len64_10 (w : World) : Calls Tryd.prog 76 #[.int .u64 10] w fun o w' => (∃ z, o = .returned (.int .i64 z)) ∧ w = w' := by
  go_enter Tryd.func76, Tryd.ntmps76
  go_wp2_with fail
  go_ret
  exact ⟨⟨_, rfl⟩, rfl⟩
set_option maxRecDepth 100000 in
set_option maxHeartbeats 1000000 in
theorem len_10 (w : World) : Calls Tryd.prog 63 #[.int .u64 10] w fun o w' => (∃ z, o = .returned (.int .i64 z)) ∧ w = w' := by
  go_enter Tryd.func63, Tryd.ntmps63
  go_wp2_with fail
  refine (len64_10 _).mono ?_
  rintro o w1 ⟨⟨z, rfl⟩, rfl⟩
  go_wp2_with fail
  go_ret
  exact ⟨⟨_, rfl⟩, rfl⟩
set_option maxRecDepth 100000 in
set_option maxHeartbeats 1000000 in
theorem len64_11 (w : World) : Calls Tryd.prog 76 #[.int .u64 11] w fun o w' => (∃ z, o = .returned (.int .i64 z)) ∧ w = w' := by
  go_enter Tryd.func76, Tryd.ntmps76
  go_wp2_with fail
  go_ret
  exact ⟨⟨_, rfl⟩, rfl⟩
set_option maxRecDepth 100000 in
set_option maxHeartbeats 1000000 in
theorem len_11 (w : World) : Calls Tryd.prog 63 #[.int .u64 11] w fun o w' => (∃ z, o = .returned (.int .i64 z)) ∧ w = w' := by
  go_enter Tryd.func63, Tryd.ntmps63
  go_wp2_with fail
  refine (len64_11 _).mono ?_
  rintro o w1 ⟨⟨z, rfl⟩, rfl⟩
  go_wp2_with fail
  go_ret
  exact ⟨⟨_, rfl⟩, rfl⟩
set_option maxRecDepth 100000 in
set_option maxHeartbeats 1000000 in
theorem len64_12 (w : World) : Calls Tryd.prog 76 #[.int .u64 12] w fun o w' => (∃ z, o = .returned (.int .i64 z)) ∧ w = w' := by
  go_enter Tryd.func76, Tryd.ntmps76
  go_wp2_with fail
  go_ret
  exact ⟨⟨_, rfl⟩, rfl⟩
set_option maxRecDepth 100000 in
set_option maxHeartbeats 1000000 in
theorem len_12 (w : World) : Calls Tryd.prog 63 #[.int .u64 12] w fun o w' => (∃ z, o = .returned (.int .i64 z)) ∧ w = w' := by
  go_enter Tryd.func63, Tryd.ntmps63
  go_wp2_with fail
  refine (len64_12 _).mono ?_
  rintro o w1 ⟨⟨z, rfl⟩, rfl⟩
  go_wp2_with fail
  go_ret
  exact ⟨⟨_, rfl⟩, rfl⟩
theorem len_any (n : Nat) (h : n ≤ 12) (w : World) : Calls Tryd.prog 63 #[.int .u64 n] w fun o w' => (∃ z, o = .returned (.int .i64 z)) ∧ w = w' := by
  match n, h with
  | 0, _ => exact len_0 w
  | 1, _ => exact len_1 w
  | 2, _ => exact len_2 w
  | 3, _ => exact len_3 w
  | 4, _ => exact len_4 w
  | 5, _ => exact len_5 w
  | 6, _ => exact len_6 w
  | 7, _ => exact len_7 w
  | 8, _ => exact len_8 w
  | 9, _ => exact len_9 w
  | 10, _ => exact len_10 w
  | 11, _ => exact len_11 w
  | 12, _ => exact len_12 w
set_option maxRecDepth 100000 in
set_option maxHeartbeats 4000000 in
theorem pdq_i8 (F : World → List Int → Prop) (D n c : Nat) (hF : Kept F D n .i8) (hn : n ≤ 12) (ys : List Int) (hys : ys.length = n) (z : Int) (W0 w : World) (hB : Below D W0 w) (hP : F w ys) :
    Calls Tryd.prog 62 #[.slice (some ⟨D, 0, none⟩) n c, .int .i64 0, .int .i64 n, .int .i64 z] w fun o w' => o = .returned (.tuple #[]) ∧ F w' (srt id ys) ∧ Below D W0 w' := by
  have HI := Lib.hid (insertO_i8 F D n c hF hn ys hys W0 w hB hP)
  clear hF hys hB hP
  go_enter Tryd.func62, Tryd.ntmps62
  go_wp2_with fail
  refine wp_loop_rounds 1 ?_
  rw [rounds_succ]
  go_wp2_with fail
  refine HI.out.mono ?_
  rintro o w1 ⟨rfl, hP1, hB1⟩
  have H1 := Lib.hid hP1
  have H2 := Lib.hid hB1
  clear hP1 hB1
  go_wp2_with fail
  refine bodyPost_ret (v := .tuple #[]) (by simp [results, Tryd.results62, go_sem]) rfl ⟨rfl, H1.out, H2.out⟩
set_option maxRecDepth 100000 in
set_option maxHeartbeats 4000000 in
theorem sort_i8 (F : World → List Int → Prop) (D n c : Nat) (hF : Kept F D n .i8) (hn : n ≤ 12) (ys : List Int) (hys : ys.length = n) (W0 w : World) (hB : Below D W0 w) (hP : F w ys) :
    Calls Tryd.prog 58 #[.slice (some ⟨D, 0, none⟩) n c] w fun o w' => o = .returned (.tuple #[]) ∧ F w' (srt id ys) ∧ Below D W0 w' := by
  have HI := Lib.hid (fun z => pdq_i8 F D n c hF hn ys hys z W0 w hB hP)
  clear hF hys hB hP
  go_enter Tryd.func58, Tryd.ntmps58
  go_wp2_with fail
  refine (len_any n hn _).mono ?_
  rintro o w1 ⟨⟨z, rfl⟩, rfl⟩
  go_wp2_with fail
  refine (HI.out z).mono ?_
  rintro o w1 ⟨rfl, hP1, hB1⟩
  have H1 := Lib.hid hP1
  have H2 := Lib.hid hB1
  clear hP1 hB1
  go_wp2_with fail
  go_end0
  exact ⟨rfl, H1.out, H2.out⟩

end Go.Proofs.YtjhkjbdpmianfaaDoor.ins

/-
  Lists of Piece, marked with rising numbers, and held against them.
-/
namespace Go.Proofs.YtjhkjbdpmianfaaDoor.pieS
open Go.RowKit sl

/-- the things with the numbers from k on -/
def cmark (k : Int) (i : Nat) : Pie := ⟨IntKind.i8.wrap (k + 3 * (i : Int)), IntKind.i8.wrap (k + 3 * (i : Int) + 1), IntKind.i16.wrap (k + 3 * (i : Int) + 1 + 1)⟩
def cmarks (k : Int) (n : Nat) : List Pie := (List.range n).map (cmark k)
theorem cmarks_len (k : Int) (n : Nat) : (cmarks k n).length = n := by simp [cmarks]
theorem cmarks_at (k : Int) (n i : Nat) (h : i < n) : (cmarks k n)[i]? = some (cmark k i) := by simp [cmarks, h]

set_option maxRecDepth 100000 in
set_option maxHeartbeats 2000000 in
theorem markS_row (base g n c : Nat) (k0 : Int) (hk : 0 ≤ k0 ∧ k0 ≤ 1000000000000) (hn : n ≤ 1048576) (L : List Value) (w : World) (hP : w.ownsRow base 42 3 (.slice (some ⟨g, 0, none⟩) n c) n L) :
    Calls Tryd.prog 14 #[.slice (some ⟨g, 0, none⟩) n c, .int .i64 k0] w fun e w' => e = .returned (.int .i64 (k0 + 3 * n)) ∧
      w'.ownsRow base 42 3 (.slice (some ⟨g, 0, none⟩) n c) n ((cmarks k0 n).flatMap Pie.cells) ∧ w.grownBy w' (some g) := by
  have HP0 := Lib.hid hP
  clear hP
  go_enter Tryd.func14, Tryd.ntmps14
  go_wp2_with fail
  go_loopw [1, 5] (fun vk vi wr => ∃ k L, k ≤ n ∧ vi = .int .i64 (k : Nat) ∧ vk = .int .i64 (k0 + 3 * k) ∧ wr.ownsRow base 42 3 (.slice (some ⟨g, 0, none⟩) n c) n L ∧ Done Pie.cells 3 (cmarks k0 n) k L ∧ w.grownBy wr (some g)) (fun _ vi _ => n - (intOf vi).toNat)
  case atStart => exact ⟨0, _, by omega, rfl, by simp, HP0.out, Done.zero _ _ _ _, ⟨rfl, rfl, rfl, Nat.le_refl _, fun _ _ _ => rfl⟩⟩
  case round =>
    obtain ⟨k, L, hk', rfl, rfl, hP, hD, hB⟩ := hrel
    by_cases hlt : k < n
    · have HX := Lib.hid (cmarks_at k0 n k hlt)
      have HD := Lib.hid hD
      have hLL := hP.1
      obtain ⟨v0, s0⟩ : ∃ v, wr.cell? ⟨g, k * 3, none⟩ = some v := ⟨L[k * 3]'(by omega), (hP.cellAt (k * 3) (by omega)).trans (List.getElem?_eq_getElem _)⟩
      obtain ⟨v1, s1⟩ : ∃ v, wr.cell? ⟨g, k * 3 + 1, none⟩ = some v := ⟨L[k * 3 + 1]'(by omega), (hP.cellAt (k * 3 + 1) (by omega)).trans (List.getElem?_eq_getElem _)⟩
      obtain ⟨v2, s2⟩ : ∃ v, wr.cell? ⟨g, k * 3 + 2, none⟩ = some v := ⟨L[k * 3 + 2]'(by omega), (hP.cellAt (k * 3 + 2) (by omega)).trans (List.getElem?_eq_getElem _)⟩
      have f0 := hP.frozenAt (k * 3)
      have f1 := hP.frozenAt (k * 3 + 1)
      have f2 := hP.frozenAt (k * 3 + 2)
      have HLL := Lib.hid hLL
      have HP := Lib.hid hP
      have HB := Lib.hid hB
      clear hLL hP hD hB
      go_wp2_with fail
      go_roundw
      case rel =>
        have hP3 := owns_cells (o := k * 3) (vs := (cmark k0 k).cells) HP.out
        have g2 := hP3.2
        have hB := HB.out
        have e1 : k0 + 3 * (k : Int) + 1 + 1 + 1 = k0 + 3 * ((k + 1 : Nat) : Int) := by omega
        have h5 := hP3.1
        exact ⟨k + 1, _, by omega, by go_num, by rw [e1], h5, HD.out.step (Pie.len _) HX.out (by rw [HLL.out, cmarks_len]), ⟨g2.os.trans hB.os, g2.tape.trans hB.tape, g2.output.trans hB.output, Nat.le_trans hB.size g2.size, fun i hi hne => (g2.block i (Nat.lt_of_lt_of_le hi hB.size) hne).trans (hB.block i hi hne)⟩⟩
      case measure => simp [intOf]; omega
    · go_wp2_with fail
      obtain rfl : k = n := by omega
      go_ret
      have e : L = (cmarks k0 k).flatMap Pie.cells := Done.full (by rw [cmarks_len]; exact hD) (Pie.len _) (by omega) (by rw [hP.1, cmarks_len])
      rw [← e]
      exact ⟨rfl, hP, hB⟩
set_option maxHeartbeats 1000000 in
theorem markS_nil (k0 : Int) (w : World) :
    Calls Tryd.prog 14 #[.slice none 0 0, .int .i64 k0] w fun e w' => e = .returned (.int .i64 k0) ∧ w = w' := by
  go_enter Tryd.func14, Tryd.ntmps14
  go_wp2_with fail
  refine wp_loop_rounds 1 ?_
  rw [rounds_succ]
  go_wp2_with fail
  go_ret
  exact ⟨rfl, rfl⟩
/-- a row of the call's own is marked -/
theorem markS_any (base : Nat) (v : Value) (n : Nat) (k0 : Int) (hk : 0 ≤ k0 ∧ k0 ≤ 1000000000000) (hn : n ≤ 1048576) (L : List Value) (w : World) (hP : w.ownsRow base 42 3 v n L) :
    Calls Tryd.prog 14 #[v, .int .i64 k0] w fun e w' => e = .returned (.int .i64 (k0 + 3 * n)) ∧ w'.ownsRow base 42 3 v n ((cmarks k0 n).flatMap Pie.cells) ∧ ∃ g, base ≤ g ∧ w.grownBy w' (some g) ∧ (v.ownBlock = none ∨ v.ownBlock = some g) := by
  obtain ⟨h1, h2⟩ := hP
  rcases h2 with ⟨rfl, rfl⟩ | ⟨g, c, cur, rfl, hg, rest⟩
  · refine (markS_nil k0 w).mono ?_
    rintro e w' ⟨rfl, rfl⟩
    exact ⟨by simp, by simpa [cmarks] using World.ownsRow_nil w base 42 3, base, Nat.le_refl _, ⟨rfl, rfl, rfl, Nat.le_refl _, fun _ _ _ => rfl⟩, .inl rfl⟩
  · refine (markS_row base g n c k0 hk hn L w ⟨h1, .inr ⟨g, c, cur, rfl, hg, rest⟩⟩).mono ?_
    rintro e w' ⟨rfl, hP', hgr⟩
    exact ⟨rfl, hP', g, hg, hgr, .inr rfl⟩

end Go.Proofs.YtjhkjbdpmianfaaDoor.pieS
