/-
  Line: its contracts: copied, held against another one, counted.
-/
import Derived.Test.YtbpipcfijbgnhaaDoorRows
import Derived.Test.YtbpipcfijbgnhaaDoorSl
import Derived.Test.YtbpipcfijbgnhaaDoorWords
import Derived.WalkKit
import Derived.WalkSpells
import Derived.WalkLawsBesides
import Derived.Lib.Hide
import Derived.Deep.QuietTactic
import Derived.BigQuiet
import Derived.Deep.RegionHeld3
import Derived.Deep.MidRow
namespace Go.Proofs.YtbpipcfijbgnhaaDoor
open Go.RowKit

/-- the numbers of a Line -/
structure Lin where
  long : Int
  most : Int

/-- they are in the range of their kinds -/
structure Lin.Fits (x : Lin) : Prop where
  long0 : -32768 ≤ x.long
  long1 : x.long ≤ 32767
  most0 : -32768 ≤ x.most
  most1 : x.most ≤ 32767
abbrev Lin.cells (x : Lin) : List Value := [.int .i16 x.long, .int .i16 x.most]
abbrev Lin.v (x : Lin) : Value := .agg #[.int .i16 x.long, .int .i16 x.most]
theorem Lin.len (xs : List Lin) : ∀ x ∈ xs, (Lin.cells x).length = 2 := fun _ _ => rfl
/-- are two equal -/
def Lin.eq (x y : Lin) : Bool := x.long == y.long && (x.most == y.most)
theorem Lin.eq_iff (x y : Lin) : Lin.eq x y = true ↔ x = y := by
  cases x
  cases y
  simp [Lin.eq]
end Go.Proofs.YtbpipcfijbgnhaaDoor
namespace Go.Proofs.YtbpipcfijbgnhaaDoor.linS
open Go.RowKit sl

theorem at_ {w : World} {p : Addr} {x : Lin} (h : At w p x.cells) :
    w.cell? p = some (.int .i16 x.long) ∧ w.cell? ⟨p.block, p.off + 1, none⟩ = some (.int .i16 x.most) :=
  ⟨h 0 _ rfl, h 1 _ rfl⟩

set_option maxHeartbeats 1000000 in
theorem to_any (x : Lin) (w : World) :
    Calls Tryd.prog 30 #[x.v] w fun e w' => e = .returned x.v ∧ Below w.heap.size w w' := by
  go_enter Tryd.func30, Tryd.ntmps30
  go_wp2
  refine bodyPost_ret (v := x.v) (by simp [results, Tryd.results30, go_sem]) rfl ⟨rfl, ?_⟩
  repeat (first | exact Below.refl _ _ | assumption | apply Below.drew | (refine Below.alloc ?_ (by first | (simp; done) | (simp; omega) | omega) _) | (refine Below.setCell ?_ (by first | (simp; done) | (simp; omega) | omega) _))
theorem to_parts (long most : Int) (w : World) :
    Calls Tryd.prog 30 #[.agg #[.int .i16 long, .int .i16 most]] w fun e w' => e = .returned (.agg #[.int .i16 long, .int .i16 most]) ∧ Below w.heap.size w w' := to_any ⟨long, most⟩ w

theorem info : (Tryd.prog.info? 47).map (fun i => (i.zero, i.size, i.bytes)) = some (some (.agg #[.int .i16 0, .int .i16 0]), 2, 4) := by kernel_rfl

set_option maxHeartbeats 2000000 in
theorem toS_any (A : Option Addr) (c : Nat) (xs : List Lin) (hn : xs.length ≤ 1048576) (w : World) (hg : Sl Lin.cells 2 w w.heap.size A xs) :
    Calls Tryd.prog 44 #[.slice A xs.length c] w fun e w' => ∃ g, e = .returned (.slice (some ⟨g, 0, none⟩) xs.length xs.length) ∧
      w'.ownsRow w.heap.size 47 2 (.slice (some ⟨g, 0, none⟩) xs.length xs.length) xs.length (xs.flatMap Lin.cells) ∧ Below w.heap.size w w' := by
  obtain ⟨i0, hi, hz0, hz1, hz2⟩ := info_parts info
  obtain ⟨n, en⟩ : ∃ n, n = xs.length := ⟨_, rfl⟩
  rw [← en] at hn ⊢
  have En := Lib.hid en
  clear en
  have hmk : ∀ u : World, (Instr.makeSlice 62 (.int .i64 (n : Int)) (.int .i64 (n : Int))).run Tryd.prog u =
      .ok (.slice (some ⟨u.heap.size, 0, none⟩) n n) (u.alloc (.cells (madeCells #[.int .i16 0, .int .i16 0] (n * 2)) 47)) := fun u => by
    have h := run_make (P := Tryd.prog) u 62 47 i0 _ Tryd.underlying62 hi hz0 .i64 .i64 (n : Int) (n : Int) (by omega) (Int.le_refl _) (by rw [hz2]; omega) (by omega)
    have e : ((n : Int)).toNat = n := by omega
    rw [e] at h
    simpa [hz1, Value.cells] using h
  go_enter Tryd.func44, Tryd.ntmps44
  have hB0 : Below w.heap.size w (w.alloc (.cells (madeCells #[.int .i16 0, .int .i16 0] (n * 2)) 47)) := (Below.refl _ _).alloc (Nat.le_refl _) _
  have hP0 : (w.alloc (.cells (madeCells #[.int .i16 0, .int .i16 0] (n * 2)) 47)).ownsRow w.heap.size 47 2 (.slice (some ⟨w.heap.size, 0, none⟩) n n) n _ :=
    World.ownsRow_lit w (madeCells #[.int .i16 0, .int .i16 0] (n * 2)) n (Nat.le_refl _) (by unfold maxLen; omega) (size_madeCells _ _)
  have HP0 := Lib.hid hP0
  clear hP0
  go_wp2_with fail
  go_loopw [4] (fun vi wr => ∃ k L, k ≤ n ∧ vi = .int .i64 (k : Nat) ∧ wr.ownsRow w.heap.size 47 2 (.slice (some ⟨w.heap.size, 0, none⟩) n n) n L ∧ Done Lin.cells 2 xs k L ∧ Below w.heap.size w wr) (fun vi _ => n - (intOf vi).toNat)
  case atStart => exact ⟨0, _, by omega, rfl, HP0.out, Done.zero _ _ _ _, hB0⟩
  case round =>
    clear hB0 HP0
    obtain ⟨k, L, hk, rfl, hP, hD, hB⟩ := hrel
    by_cases hlt : k < n
    · have hl := En.out
      obtain ⟨x, hx⟩ : ∃ x, xs[k]? = some x := ⟨xs[k], List.getElem?_eq_getElem (by omega)⟩
      clear hl
      obtain ⟨a, rfl, hab, hat⟩ := (hg.below hB).at_ k x hx
      obtain ⟨hg0, hg1⟩ := at_ hat
      have HX := Lib.hid hx
      have HA := Lib.hid hat
      have HD := Lib.hid hD
      clear hx hat hD
      go_wp2_with fail
      refine (to_any x _).mono ?_
      rintro e w2 ⟨rfl, hb2⟩
      have hP2 := owns_next hP hb2
      have hB2 := hB.trans (hb2.mono hB.size)
      clear hg0 hg1 hb2
      have hLL := hP2.1

      obtain ⟨v0, s0⟩ : ∃ v, w2.cell? ⟨w.heap.size, k * 2, none⟩ = some v := ⟨L[k * 2]'(by omega), (hP2.cellAt (k * 2) (by omega)).trans (List.getElem?_eq_getElem _)⟩
      have f0 := hP2.frozenAt (k * 2)
      obtain ⟨v1, s1⟩ : ∃ v, w2.cell? ⟨w.heap.size, k * 2 + 1, none⟩ = some v := ⟨L[k * 2 + 1]'(by omega), (hP2.cellAt (k * 2 + 1) (by omega)).trans (List.getElem?_eq_getElem _)⟩
      have f1 := hP2.frozenAt (k * 2 + 1)
      have HLL := Lib.hid hLL
      clear hLL
      have HP2 := Lib.hid hP2
      clear hP2 hP
      go_wp2_with fail
      go_roundw
      case rel =>
        have hP3 := (owns_cells (o := k * 2) (vs := x.cells) HP2.out).1
        exact ⟨k + 1, _, by omega, by go_num, hP3, HD.out.step (Lin.len xs) HX.out (by rw [HLL.out, En.out]), below_cells hB2 (Nat.le_refl _) x.cells (k * 2)⟩
      case measure => simp [intOf]; omega
    · go_wp2_with fail
      obtain rfl : k = n := by omega
      go_ret
      have hl := En.out
      have e : L = xs.flatMap Lin.cells := Done.full (by rw [← hl]; exact hD) (Lin.len xs) (by omega) (by rw [hP.1, hl])
      rw [← e]
      exact ⟨_, rfl, hP, hB⟩

set_option maxHeartbeats 1000000 in
theorem eq_any (x y : Lin) (w : World) :
    Calls Tryd.prog 80 #[x.v, y.v] w fun e w' => e = .returned (.bool (Lin.eq x y)) ∧ Below w.heap.size w w' := by
  go_enter Tryd.func80, Tryd.ntmps80
  go_wp2_with fail
  all_goals go_ret
  all_goals exact ⟨ret_bool (by simp only [Lin.eq]; first | (simp [*]; done) | (simp_all; done)), ((Below.refl _ _).alloc (Nat.le_refl _) _).alloc (by simp) _⟩

abbrev Both (p p' : Addr) (x y : Lin) (W u : World) : Prop :=
  u.cell? p = some (.int .i16 x.long) ∧ u.cell? ⟨p.block, p.off + 1, none⟩ = some (.int .i16 x.most) ∧ u.cell? p' = some (.int .i16 y.long) ∧ u.cell? ⟨p'.block, p'.off + 1, none⟩ = some (.int .i16 y.most) ∧ Below W.heap.size W u
theorem Both.next {p p' : Addr} {x y : Lin} {W u v : World} (h : Both p p' x y W u) (hp : p.block < W.heap.size) (hp' : p'.block < W.heap.size) (hb : Below u.heap.size u v) : Both p p' x y W v := by
  obtain ⟨h0, h1, h2, h3, hB⟩ := h
  have hs := hB.size
  have k := hb.mono hs
  exact ⟨(k.cell (p := p) hp).trans h0, (k.cell (p := ⟨p.block, p.off + 1, none⟩) hp).trans h1, (k.cell (p := p') hp').trans h2, (k.cell (p := ⟨p'.block, p'.off + 1, none⟩) hp').trans h3, hB.trans k⟩
theorem Both.below {p p' : Addr} {x y : Lin} {W u : World} (h : Both p p' x y W u) : Below W.heap.size W u := h.2.2.2.2

set_option maxHeartbeats 4000000 in
theorem eqS_any (A A' : Option Addr) (n n' c c' : Nat) (xs ys : List Lin) (en : n = xs.length) (en' : n' = ys.length) (hn : n ≤ 1048576) (hn' : n' ≤ 9223372036854775807) (w : World) (hg : Sl Lin.cells 2 w w.heap.size A xs) (hg' : Sl Lin.cells 2 w w.heap.size A' ys) (b : Bool) (hb : b = true ↔ xs = ys) :
    Calls Tryd.prog 46 #[.slice A n c, .slice A' n' c'] w fun e w' => e = .returned (.bool b) ∧ Below w.heap.size w w' := by
  have En := Lib.hid en
  have En' := Lib.hid en'
  have Hb := Lib.hid hb
  clear en en' hb
  by_cases hlen : n = n'
  · subst hlen
    go_enter Tryd.func46, Tryd.ntmps46
    go_wp2_with fail
    go_loopw [5] (fun vi wr => ∃ k : Nat, k ≤ n ∧ vi = .int .i64 k ∧ (∀ i, i < k → xs[i]? = ys[i]?) ∧ Below w.heap.size w wr) (fun vi _ => n - (intOf vi).toNat)
    case atStart => exact ⟨0, by omega, rfl, fun i hi => absurd hi (by omega), Below.refl _ _⟩
    case round =>
      obtain ⟨k, hk, rfl, hsame, hB⟩ := hrel
      by_cases hlt : k < n
      · obtain ⟨x, hx⟩ : ∃ x, xs[k]? = some x := ⟨xs[k]'(by have := En.out; omega), List.getElem?_eq_getElem _⟩
        obtain ⟨y, hy⟩ : ∃ y, ys[k]? = some y := ⟨ys[k]'(by have := En'.out; omega), List.getElem?_eq_getElem _⟩
        obtain ⟨a, rfl, hab, hat⟩ := (hg.below hB).at_ k x hx
        obtain ⟨a', rfl, hab', hat'⟩ := (hg'.below hB).at_ k y hy
        obtain ⟨q0, q1⟩ := at_ hat
        obtain ⟨r0, r1⟩ := at_ hat'
        have HX := Lib.hid hx
        have HY := Lib.hid hy
        have hp : (a.add (k * 2)).block < w.heap.size := by rw [block_add]; exact hab
        have hp' : (a'.add (k * 2)).block < w.heap.size := by rw [block_add]; exact hab'
        have h8 : Both (a.add (k * 2)) (a'.add (k * 2)) x y w wr := ⟨q0, q1, r0, r1, hB⟩
        have H8 := Lib.hid h8
        clear h8 hx hy hat hat'
        go_wp2_with fail
        go_region_held3 (fun u => u.cell? (a.add (k * 2)) = some (.int .i16 x.long) ∧ u.cell? ⟨(a.add (k * 2)).block, (a.add (k * 2)).off + 1, none⟩ = some (.int .i16 x.most) ∧ u.cell? (a'.add (k * 2)) = some (.int .i16 y.long) ∧ u.cell? ⟨(a'.add (k * 2)).block, (a'.add (k * 2)).off + 1, none⟩ = some (.int .i16 y.most) ∧ Below w.heap.size w u)
          (first | exact H8.out.next hp hp' (below_drewN _ wr 1) | exact Both.next (by assumption) hp hp' hb2)
          (first | (go_at_call 80; refine (eq_any x y _).mono ?_; rintro e w2 ⟨rfl, hb2⟩) | fail)
        go_wp2_with fail
        · have hno : (!Lin.eq x y) = true := by assumption
          go_ret
          refine ⟨ret_bool ?_, Both.below (p := a.add (k * 2)) (p' := a'.add (k * 2)) (x := x) (y := y) (by assumption)⟩
          cases hbb : b with
          | false => rfl
          | true =>
            have he := Hb.out.1 hbb
            have h1 := HX.out
            rw [he, HY.out] at h1
            have h2 : Lin.eq x y = true := (Lin.eq_iff x y).2 (Option.some.inj h1).symm
            rw [h2] at hno
            cases hno
        · have hno : (!Lin.eq x y) = false := by assumption
          have he : x = y := (Lin.eq_iff x y).1 (by simpa using hno)
          clear hno
          go_roundw
          case rel => exact ⟨k + 1, by omega, by go_num, fun i hi => by
            rcases Nat.lt_or_ge i k with h1 | h1
            · exact hsame i h1
            · obtain rfl : i = k := by omega
              rw [HX.out, HY.out, he], Both.below (p := a.add (k * 2)) (p' := a'.add (k * 2)) (x := x) (y := y) (by assumption)⟩
          case measure => simp [intOf]; omega
      · go_wp2_with fail
        go_ret
        refine ⟨ret_bool ?_, hB⟩
        exact (Hb.out.2 (lists_eq En.out En'.out fun i hi => hsame i (by omega))).symm
  · have hno : b = false := by
      cases hbb : b with
      | false => rfl
      | true => exact absurd ((En.out.trans (congrArg List.length (Hb.out.1 hbb))).trans En'.out.symm) hlen
    subst hno
    have hl : ((n : Int) != (n' : Int)) = true := by rw [bne_iff_ne]; omega
    clear hlen
    go_enter Tryd.func46, Tryd.ntmps46
    go_wp2_with fail
    go_ret
    exact ⟨rfl, Below.refl _ _⟩
set_option maxHeartbeats 1000000 in
/-- how many are left -/
theorem szS_any (A : Option Addr) (n c : Nat) (left : Int) (hn : n ≤ 9223372036854775807) (hl : 0 ≤ left ∧ left ≤ 1048576) (w : World) :
    Calls Tryd.prog 42 #[.slice A n c, .int .i64 left] w fun e w' => e = .returned (.int .i64 (if left - n < 0 then -1 else left - n)) ∧ w = w' := by
  go_enter Tryd.func42, Tryd.ntmps42
  go_wp2_with fail
  all_goals go_ret
  all_goals exact ⟨rfl, rfl⟩
end Go.Proofs.YtbpipcfijbgnhaaDoor.linS
