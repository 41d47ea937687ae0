/-
  Several texts of this proof, joined.
-/
import Derived.Test.YtjhkjbdpmianfaaDoorJoin15
import Derived.Test.YtjhkjbdpmianfaaDoorJoin14
import Derived.Test.YtjhkjbdpmianfaaDoorJoin4
import Derived.IntWalk
import Derived.Test.YtjhkjbdpmianfaaDoorInB
import Derived.Lib.Hide
/-
  How long an iron takes to another level, the checks of a level, an iron and pieces, and ChangeTime: the program's and the model's.
-/
namespace Go.Proofs.YtjhkjbdpmianfaaDoor.iron
open Go Go.RowKit sl stk errs

theorem lev4 {a : Int} (h0 : 0 ≤ a) (h1 : a ≤ 3) : a = 0 ∨ a = 1 ∨ a = 2 ∨ a = 3 := by omega
set_option maxHeartbeats 4000000 in
theorem timeTo_any (x : Iro) (hx : iroB x = true) (a b : Int) (ha : 0 ≤ a) (ha' : a ≤ 3) (hb : 0 ≤ b) (hb' : b ≤ 3) (z : Int) (hz : chg x a b = z) (w : World) :
    Calls Tryd.prog 65 #[.int .i8 a, .int .i8 b, x.v] w fun o w' => o = .returned (.int .i64 z) ∧ Below w.heap.size w w' := by
  subst hz
  obtain ⟨⟨h0, h1⟩, h2, h3⟩ := iroB_iff.1 hx
  obtain ⟨p, q⟩ := x
  simp only at h0 h1 h2 h3
  clear hx
  rcases lev4 ha ha' with rfl | rfl | rfl | rfl <;> rcases lev4 hb hb' with rfl | rfl | rfl | rfl
  all_goals
    clear ha ha' hb hb'
    go_enter Tryd.func65, Tryd.ntmps65
    go_wp2_with fail
    go_ret
    exact ⟨ret_int (by simp [chg]), by repeat (first | exact Below.refl _ _ | assumption | apply Below.drew | (refine Below.alloc ?_ (by first | (simp; done) | (simp; omega) | omega) _) | (refine Below.setCell ?_ (by first | (simp; done) | (simp; omega) | omega) _))⟩
set_option maxHeartbeats 4000000 in
theorem l07Change_any (x : Iro) (hx : iroB x = true) (a b : Int) (ha : 0 ≤ a) (ha' : a ≤ 3) (hb : 0 ≤ b) (hb' : b ≤ 3) (z : Int) (hz : chg x a b = z) (w : World) :
    Calls Tryd.prog 49 #[x.v, .int .i64 a, .int .i64 b] w fun o w' => o = .returned (.int .i64 z) ∧ Below w.heap.size w w' := by
  subst hz
  obtain ⟨⟨h0, h1⟩, h2, h3⟩ := iroB_iff.1 hx
  obtain ⟨p, q⟩ := x
  simp only at h0 h1 h2 h3
  clear hx
  rcases lev4 ha ha' with rfl | rfl | rfl | rfl <;> rcases lev4 hb hb' with rfl | rfl | rfl | rfl
  all_goals
    clear ha ha' hb hb'
    go_enter Tryd.func49, Tryd.ntmps49
    go_wp2_with fail
    go_ret
    exact ⟨ret_int (by simp [chg]), by repeat (first | exact Below.refl _ _ | assumption | apply Below.drew | (refine Below.alloc ?_ (by first | (simp; done) | (simp; omega) | omega) _) | (refine Below.setCell ?_ (by first | (simp; done) | (simp; omega) | omega) _))⟩
set_option maxHeartbeats 1000000 in
theorem checkIron_any (x : Iro) (hx : x.Fits) {w : World} {B : Nat} {e : Nat → Addr} (h : Errs w B e) (hB : B ≤ w.heap.size) (k : Nat) (hk : k = if iroB x = true then 0 else 1) :
    Calls Tryd.prog 30 #[x.v] w fun o w' => o = .returned (errOf e k) ∧ Below w.heap.size w w' := by
  have S0 := Lib.hid (HotS.new x w 30)
  have c0 := S0.out.c0
  have c1 := S0.out.c1
  cases hv : iroB x with
  | true =>
    rw [hv, if_pos rfl] at hk
    subst hk
    have HV := Lib.hid hv
    clear hv
    go_enter Tryd.func30, Tryd.ntmps30
    go_wp2_with fail
    refine (ValidIron_any x hx _).mono ?_
    rintro o w1 ⟨rfl, hb⟩
    rw [HV.out]
    have S1 := Lib.hid (S0.out.next hb)
    clear c0 c1 hb
    go_wp2_with fail
    go_ret
    exact ⟨rfl, S1.out.b⟩
  | false =>
    rw [hv, if_neg (by decide)] at hk
    subst hk
    have HV := Lib.hid hv
    clear hv
    go_enter Tryd.func30, Tryd.ntmps30
    go_wp2_with fail
    refine (ValidIron_any x hx _).mono ?_
    rintro o w1 ⟨rfl, hb⟩
    rw [HV.out]
    have S1 := Lib.hid (S0.out.next hb)
    have g0 := (h.below (S1.out.b.mono hB)).c0
    clear c0 c1 hb
    go_wp2_with fail
    go_ret
    exact ⟨rfl, S1.out.b⟩
set_option maxHeartbeats 2000000 in
theorem checkIroned_any (A : Option Addr) (n c : Nat) (xs : List Pie) (en : n = xs.length) (hn : n ≤ 1048576) (hf : ∀ x ∈ xs, x.Fits) {w : World} {B : Nat} {e : Nat → Addr} (h : Errs w B e) (hB : B ≤ w.heap.size) (hg : Sl Pie.cells 3 w w.heap.size A xs)
    (k0 : Nat) (hk0 : k0 = codePs xs) :
    Calls Tryd.prog 31 #[.slice A n c] w fun o w' => o = .returned (errOf e k0) ∧ Below w.heap.size w w' := by
  have En := Lib.hid en
  have HK := Lib.hid hk0
  clear en hk0
  go_enter Tryd.func31, Tryd.ntmps31
  go_wp2_with fail
  go_loopw [7, 4] (fun vi _ wr => ∃ k : Nat, k ≤ n ∧ vi = .int .i64 k ∧ (∀ i x, i < k → xs[i]? = some x → pieB x = true) ∧ Below w.heap.size w wr) (fun vi _ _ => n - (intOf vi).toNat)
  case atStart => exact ⟨0, by omega, rfl, fun i x hi => absurd hi (by omega), Below.refl _ _⟩
  case round =>
    obtain ⟨k, hk, rfl, hval, hb⟩ := hrel
    by_cases hlt : k < n
    · obtain ⟨x, hx⟩ : ∃ x, xs[k]? = some x := ⟨xs[k]'(by have := En.out; omega), List.getElem?_eq_getElem _⟩
      obtain ⟨a, rfl, hab, hat⟩ := (hg.below hb).at_ k x hx
      obtain ⟨q0, q1, q2⟩ := pieS.at_ hat
      have hxf : x.Fits := hf x (List.mem_of_getElem? hx)
      have HX := Lib.hid hx
      clear hx hat
      cases hv : pieB x with
      | true =>
        have HV := Lib.hid hv
        clear hv
        go_wp2_with fail
        refine (ValidPiece_any x hxf _).mono ?_
        rintro o w2 ⟨rfl, hb2⟩
        rw [HV.out]
        have H2 := (hb.alloc hb.size _).trans (hb2.mono (by have := hb.size; simp; omega))
        clear q0 q1 q2 hb2
        go_wp2_with fail
        go_roundw
        case rel => exact ⟨k + 1, by omega, by go_num, fun i y hi hy => by
          rcases Nat.lt_or_ge i k with h1 | h1
          · exact hval i y h1 hy
          · obtain rfl : i = k := by omega
            have := HX.out
            rw [hy] at this
            rw [Option.some.inj this]
            exact HV.out, H2⟩
        case measure => simp [intOf]; omega
      | false =>
        have HV := Lib.hid hv
        clear hv
        go_wp2_with fail
        refine (ValidPiece_any x hxf _).mono ?_
        rintro o w2 ⟨rfl, hb2⟩
        rw [HV.out]
        have H2 := (hb.alloc hb.size _).trans (hb2.mono (by have := hb.size; simp; omega))
        have g0 := (h.below (H2.mono hB)).c0
        clear q0 q1 q2 hb2
        go_wp2_with fail
        go_ret
        have e1 : k0 = 1 := by rw [HK.out, codePs, if_neg (by rw [all_not HX.out HV.out]; decide)]
        rw [e1]
        exact ⟨rfl, H2⟩
    · have hall : xs.all pieB = true := all_of_idx fun i x hi hx => hval i x (by have := En.out; omega) hx
      have HA := Lib.hid hall
      have g2 := (h.below (hb.mono hB)).c2
      clear hall
      by_cases h8 : 8 < n
      · have E1 : Hid (k0 = 3) := Lib.hid (by rw [HK.out, codePs, if_pos HA.out, if_pos (by rw [← En.out]; exact h8)])
        go_wp2_with fail
        go_ret
        rw [E1.out]
        exact ⟨rfl, hb⟩
      · have E1 : Hid (k0 = 0) := Lib.hid (by rw [HK.out, codePs, if_pos HA.out, if_neg (by rw [← En.out]; exact h8)])
        go_wp2_with fail
        go_ret
        rw [E1.out]
        exact ⟨rfl, hb⟩
set_option maxHeartbeats 4000000 in
theorem l07Asked_any (x : Iro) (hx : x.Fits) (A : Option Addr) (n c : Nat) (xs : List Pie) (en : n = xs.length) (hn : n ≤ 1048576) (hf : ∀ x ∈ xs, x.Fits) (w : World) (hg : Sl Pie.cells 3 w w.heap.size A xs) (k0 : Nat) (hk0 : k0 = codeIr x xs) :
    Calls Tryd.prog 27 #[x.v, .slice A n c] w fun o w' => o = .returned (.int .i64 k0) ∧ Below w.heap.size w w' := by
  have En := Lib.hid en
  have HK := Lib.hid hk0
  clear en hk0
  have S0 := Lib.hid (HotS.new x w 30)
  have c0 := S0.out.c0
  have c1 := S0.out.c1
  cases hv : iroB x with
  | false =>
    have HV := Lib.hid hv
    clear hv
    go_enter Tryd.func27, Tryd.ntmps27
    go_wp2_with fail
    refine (l07Iron_any x hx false HV.out _).mono ?_
    rintro o w1 ⟨rfl, hb⟩
    have S1 := Lib.hid (S0.out.next hb)
    clear c0 c1 hb
    go_wp2_with fail
    go_ret
    have e1 : k0 = 1 := by rw [HK.out, codeIr, if_neg (by rw [HV.out]; decide)]
    rw [e1]
    exact ⟨rfl, S1.out.b⟩
  | true =>
    have HV := Lib.hid hv
    clear hv
    have HC : Hid (codeIr x xs = codePs xs) := Lib.hid (by rw [codeIr_eq, if_pos HV.out])
    go_enter Tryd.func27, Tryd.ntmps27
    go_wp2_with fail
    refine (l07Iron_any x hx true HV.out _).mono ?_
    rintro o w1 ⟨rfl, hb⟩
    have H1 := Lib.hid (S0.out.next hb).b
    clear c0 c1 hb S0
    go_wp2_with fail
    go_loopw [5] (fun vi wr => ∃ k : Nat, k ≤ n ∧ vi = .int .i64 k ∧ (∀ i x, i < k → xs[i]? = some x → pieB x = true) ∧ Below w.heap.size w wr) (fun vi _ => n - (intOf vi).toNat)
    case atStart => exact ⟨0, by omega, rfl, fun i x hi => absurd hi (by omega), H1.out⟩
    case round =>
      obtain ⟨k, hk, rfl, hval, hb⟩ := hrel
      by_cases hlt : k < n
      · obtain ⟨y, hy⟩ : ∃ y, xs[k]? = some y := ⟨xs[k]'(by have := En.out; omega), List.getElem?_eq_getElem _⟩
        obtain ⟨a, rfl, hab, hat⟩ := (hg.below hb).at_ k y hy
        obtain ⟨q0, q1, q2⟩ := pieS.at_ hat
        have hyf : y.Fits := hf y (List.mem_of_getElem? hy)
        have HY := Lib.hid hy
        clear hy hat
        cases hv : pieB y with
        | true =>
          have HV := Lib.hid hv
          clear hv
          go_wp2_with fail
          refine (l07Piece_any y hyf true HV.out _).mono ?_
          rintro o w2 ⟨rfl, hb2⟩
          have H2 := hb.trans (hb2.mono hb.size)
          clear q0 q1 q2 hb2
          go_wp2_with fail
          go_roundw
          case rel => exact ⟨k + 1, by omega, by go_num, fun i z hi hz => by
            rcases Nat.lt_or_ge i k with h1 | h1
            · exact hval i z h1 hz
            · obtain rfl : i = k := by omega
              have := HY.out
              rw [hz] at this
              rw [Option.some.inj this]
              exact HV.out, H2⟩
          case measure => simp [intOf]; omega
        | false =>
          have HV := Lib.hid hv
          clear hv
          go_wp2_with fail
          refine (l07Piece_any y hyf false HV.out _).mono ?_
          rintro o w2 ⟨rfl, hb2⟩
          have H2 := hb.trans (hb2.mono hb.size)
          clear q0 q1 q2 hb2
          go_wp2_with fail
          go_ret
          have e1 : k0 = 1 := by rw [HK.out, HC.out, codePs, if_neg (by rw [all_not HY.out HV.out]; decide)]
          rw [e1]
          exact ⟨rfl, H2⟩
      · have hall : xs.all pieB = true := all_of_idx fun i x hi hx => hval i x (by have := En.out; omega) hx
        have HA := Lib.hid hall
        clear hall
        by_cases h8 : 8 < n
        · have E1 : Hid (k0 = 3) := Lib.hid (by rw [HK.out, HC.out, codePs, if_pos HA.out, if_pos (by rw [← En.out]; exact h8)])
          go_wp2_with fail
          go_ret
          rw [E1.out]
          exact ⟨rfl, hb⟩
        · have E1 : Hid (k0 = 0) := Lib.hid (by rw [HK.out, HC.out, codePs, if_pos HA.out, if_neg (by rw [← En.out]; exact h8)])
          go_wp2_with fail
          go_ret
          rw [E1.out]
          exact ⟨rfl, hb⟩
end Go.Proofs.YtjhkjbdpmianfaaDoor.iron

/-
  ChangeTime and TimeBound: the program's and the model's.
-/
namespace Go.Proofs.YtjhkjbdpmianfaaDoor.iron
open Go Go.RowKit sl stk errs

def codeChg (x : Iro) (a b : Int) : Nat := if iroB x = true then (if 0 ≤ a ∧ a ≤ 3 then (if 0 ≤ b ∧ b ≤ 3 then 0 else 2) else 2) else 1
def chgR (x : Iro) (a b : Int) : Int × Nat := if codeChg x a b = 0 then (chg x a b, 0) else (0, codeChg x a b)
theorem codeChg_le (x : Iro) (a b : Int) : codeChg x a b ≤ 2 := by
  unfold codeChg
  split
  · split
    · split <;> omega
    · omega
  · omega
theorem codeChg_zero {x : Iro} {a b : Int} (h : codeChg x a b = 0) : iroB x = true ∧ (0 ≤ a ∧ a ≤ 3) ∧ (0 ≤ b ∧ b ≤ 3) := by
  unfold codeChg at h
  split at h
  · split at h
    · split at h
      · exact ⟨by assumption, by assumption, by assumption⟩
      · omega
    · omega
  · omega
theorem code3c (x : Iro) (a b : Int) (k0 k1 k2 : Nat) (h0 : k0 = if iroB x = true then 0 else 1) (h1 : k1 = if 0 ≤ a ∧ a ≤ 3 then 0 else 2) (h2 : k2 = if 0 ≤ b ∧ b ≤ 3 then 0 else 2) :
    firstCode [k0, k1, k2] = codeChg x a b := by
  subst h0 h1 h2
  unfold codeChg
  split
  · split
    · split <;> rfl
    · rfl
  · rfl
theorem cells_errs3 (e : Nat → Addr) (k0 k1 k2 : Nat) (u : World) (T : TypeId) : ∀ k x, [k0, k1, k2][k]? = some x → (u.alloc (.cells #[errOf e k0, errOf e k1, errOf e k2] T)).cell? ⟨u.heap.size, k, none⟩ = some (errOf e x) := by
  intro k x hx
  rw [cell_of_row _ _ k _ _ _ (heap_alloc_new u _)]
  match k, hx with
  | 0, h => rw [← (Option.some.inj h : k0 = x)]; rfl
  | 1, h => rw [← (Option.some.inj h : k1 = x)]; rfl
  | 2, h => rw [← (Option.some.inj h : k2 = x)]; rfl
  | _ + 3, h => simp at h
theorem cells_errs2 (e : Nat → Addr) (k0 k1 : Nat) (u : World) (T : TypeId) : ∀ k x, [k0, k1][k]? = some x → (u.alloc (.cells #[errOf e k0, errOf e k1] T)).cell? ⟨u.heap.size, k, none⟩ = some (errOf e x) := by
  intro k x hx
  rw [cell_of_row _ _ k _ _ _ (heap_alloc_new u _)]
  match k, hx with
  | 0, h => rw [← (Option.some.inj h : k0 = x)]; rfl
  | 1, h => rw [← (Option.some.inj h : k1 = x)]; rfl
  | _ + 2, h => simp at h
end Go.Proofs.YtjhkjbdpmianfaaDoor.iron

/-
  TimeBound: the program's and the model's.
-/
namespace Go.Proofs.YtjhkjbdpmianfaaDoor.iron
open Go Go.RowKit sl stk errs

def minsOf (ps : List Pie) : Int := ps.foldl (fun s p => s + p.mins) 0
def topOf (ps : List Pie) : Int := ps.foldl (fun t p => if t < p.lev then p.lev else t) 0
theorem minsOf_take {ps : List Pie} {k : Nat} {p : Pie} (h : ps[k]? = some p) : minsOf (ps.take (k + 1)) = minsOf (ps.take k) + p.mins := by rw [take_snoc h]; simp [minsOf]
theorem topOf_take {ps : List Pie} {k : Nat} {p : Pie} (h : ps[k]? = some p) : topOf (ps.take (k + 1)) = if topOf (ps.take k) < p.lev then p.lev else topOf (ps.take k) := by rw [take_snoc h]; unfold topOf; rw [List.foldl_append]; rfl
theorem minsOf_bd {ps : List Pie} (h : ps.all pieB = true) : ∀ k, k ≤ ps.length → 0 ≤ minsOf (ps.take k) ∧ minsOf (ps.take k) ≤ 60 * k
  | 0, _ => by simp [minsOf]
  | k + 1, hk => by
    have hx := List.getElem?_eq_getElem (show k < ps.length by omega)
    have h1 := minsOf_bd h k (by omega)
    have h2 := pieB_iff.1 (List.all_eq_true.1 h _ (List.mem_of_getElem? hx))
    rw [minsOf_take hx]
    omega
theorem topOf_bd {ps : List Pie} (h : ps.all pieB = true) : ∀ k, k ≤ ps.length → 0 ≤ topOf (ps.take k) ∧ topOf (ps.take k) ≤ 3
  | 0, _ => by simp [topOf]
  | k + 1, hk => by
    have hx := List.getElem?_eq_getElem (show k < ps.length by omega)
    have h1 := topOf_bd h k (by omega)
    have h2 := pieB_iff.1 (List.all_eq_true.1 h _ (List.mem_of_getElem? hx))
    rw [topOf_take hx]
    split <;> omega
/-- the bound of all times -/
def bound (x : Iro) (ps : List Pie) : Int := minsOf ps + chg x 0 (topOf ps)
def bndR (x : Iro) (ps : List Pie) : Int × Nat := if codeIr x ps = 0 then (bound x ps, 0) else (0, codeIr x ps)
theorem chg_up {x : Iro} {b : Int} (h : 0 ≤ b) : chg x 0 b = x.up * b := by
  unfold chg
  split
  · rw [Int.sub_zero]
  · obtain rfl : b = 0 := by omega
    simp
theorem code2i (x : Iro) (ps : List Pie) (k0 k1 : Nat) (h0 : k0 = if iroB x = true then 0 else 1) (h1 : k1 = codePs ps) : firstCode [k0, k1] = codeIr x ps := by
  subst h0 h1
  rw [codeIr_eq]
  split
  · cases codePs ps <;> rfl
  · rfl
theorem bnd_ok {x : Iro} {ps : List Pie} {r0 : Int} {r1 : Nat} (h : bndR x ps = (r0, r1)) (hc : codeIr x ps = 0) : bound x ps = r0 ∧ r1 = 0 := by
  rw [bndR, if_pos hc] at h
  simp at h
  omega
theorem bnd_no {x : Iro} {ps : List Pie} {r0 : Int} {r1 i : Nat} (h : bndR x ps = (r0, r1)) (hc : codeIr x ps = i + 1) : r0 = 0 ∧ r1 = i + 1 := by
  rw [bndR, if_neg (by omega), hc] at h
  simp at h
  omega
theorem l00Max_any (a b : Int) (w : World) :
    Calls Tryd.prog 61 #[.int .i64 a, .int .i64 b] w fun e w' => e = .returned (.int .i64 (if b < a then a else b)) ∧ w = w' := by
  by_cases h : b < a
  · rw [if_pos h]
    go_enter Tryd.func61, Tryd.ntmps61
    go_wp2_with fail
    go_ret
    exact ⟨rfl, rfl⟩
  · rw [if_neg h]
    go_enter Tryd.func61, Tryd.ntmps61
    go_wp2_with fail
    go_ret
    exact ⟨rfl, rfl⟩
end Go.Proofs.YtjhkjbdpmianfaaDoor.iron

/-
  Orders: each index just once; contracts of the program's and the model's functions that look for this (after XOrder, without cloths).
-/
namespace Go.Proofs.YtjhkjbdpmianfaaDoor.iron
open Go.RowKit sl errs stk

/-- the first k numbers are indices, each one just once -/
def goodP (n : Nat) (os : List Int) (k : Nat) : Prop := ∀ i x, i < k → os[i]? = some x → 0 ≤ x ∧ x < n ∧ x ∉ os.take i
open Classical in
noncomputable def ordB (n : Nat) (os : List Int) : Bool := decide (os.length = n ∧ goodP n os os.length)
theorem ordB_yes {n : Nat} {os : List Int} (hl : os.length = n) (h : goodP n os os.length) : ordB n os = true := by
  unfold ordB
  simp only [decide_eq_true_eq]
  exact ⟨hl, h⟩
theorem ordB_len {n : Nat} {os : List Int} (hl : os.length ≠ n) : ordB n os = false := by simp [ordB, hl]
theorem ordB_no {n : Nat} {os : List Int} {k : Nat} {x : Int} (hx : os[k]? = some x) (h : ¬ (0 ≤ x ∧ x < n ∧ x ∉ os.take k)) : ordB n os = false := by
  have : ¬ goodP n os os.length := fun hg => h (hg k x (List.getElem?_eq_some_iff.1 hx).1 hx)
  simp [ordB, this]
theorem ordB_parts {n : Nat} {os : List Int} (h : ordB n os = true) : os.length = n ∧ goodP n os os.length := by simpa [ordB] using h
theorem goodP_step {n : Nat} {os : List Int} {k : Nat} {x : Int} (h : goodP n os k) (hx : os[k]? = some x) (h0 : 0 ≤ x) (h1 : x < n) (h2 : x ∉ os.take k) : goodP n os (k + 1) := by
  intro i y hi hy
  rcases Nat.lt_or_ge i k with h3 | h3
  · exact h i y h3 hy
  · obtain rfl : i = k := by omega
    rw [hx] at hy
    obtain rfl := Option.some.inj hy
    exact ⟨h0, h1, h2⟩
theorem sl_take {α : Type} {C : α → List Value} {sz : Nat} {w : World} {B : Nat} {A : Option Addr} {xs : List α} (h : Sl C sz w B A xs) (k : Nat) : Sl C sz w B A (xs.take k) :=
  ⟨fun i x hx => h.at_ i x (by
    rw [List.getElem?_take] at hx
    split at hx
    · exact hx
    · cases hx)⟩

set_option maxHeartbeats 2000000 in
theorem l00Has_v (A : Option Addr) (n c : Nat) (xs : List Int) (en : n = xs.length) (hn : n ≤ 1048576) (v : Int) (b : Bool) (hb : b = true ↔ v ∈ xs) (w : World) (B : Nat) (hg : Sl intS.C 1 w B A xs) :
    Calls Tryd.prog 48 #[.slice A n c, .int .i64 v] w fun e w' => e = .returned (.bool b) ∧ w' = w := by
  have En := Lib.hid en
  have HB := Lib.hid hb
  clear en hb
  go_enter Tryd.func48, Tryd.ntmps48
  go_wp2_with fail
  go_loop [5] (fun vi => ∃ k : Nat, k ≤ n ∧ vi = .int .i64 k ∧ (∀ i x, i < k → xs[i]? = some x → x ≠ v)) (fun vi => n - (intOf vi).toNat)
  case atStart => exact ⟨0, by omega, rfl, fun i x hi => absurd hi (by omega)⟩
  case round =>
    obtain ⟨k, hk, rfl, hno⟩ := hrel
    have HN := Lib.hid hno
    clear hno
    by_cases hlt : k < n
    · obtain ⟨x, hx⟩ : ∃ x, xs[k]? = some x := ⟨xs[k]'(by have := En.out; omega), List.getElem?_eq_getElem _⟩
      obtain ⟨a, rfl, hab, hat⟩ := hg.at_ k x hx
      have q0 := intS.at_ hat
      have HX := Lib.hid hx
      clear hx hat
      by_cases hxv : x = v
      · have HE := Lib.hid hxv
        have d1 : (x == v) = true := by rw [beq_iff_eq]; exact hxv
        clear hxv
        go_wp2_with fail
        go_ret
        exact ⟨ret_bool (HB.out.2 (by rw [← HE.out]; exact List.mem_of_getElem? HX.out)).symm, rfl⟩
      · have HE := Lib.hid hxv
        have d1 : (x == v) = false := by rw [beq_eq_false_iff_ne]; exact hxv
        clear hxv
        go_wp2_with fail
        go_round
        case rel => exact ⟨k + 1, by omega, by go_num, fun i y hi hy => by
          rcases Nat.lt_or_ge i k with h1 | h1
          · exact HN.out i y h1 hy
          · obtain rfl : i = k := by omega
            have := HX.out
            rw [hy] at this
            rw [Option.some.inj this]
            exact HE.out⟩
        case measure => simp [intOf]; omega
    · go_wp2_with fail
      go_ret
      refine ⟨ret_bool ?_, rfl⟩
      cases hbb : b with
      | false => rfl
      | true =>
        obtain ⟨i, hi⟩ := List.mem_iff_getElem?.1 (HB.out.1 hbb)
        exact absurd rfl (HN.out i v (by have := (List.getElem?_eq_some_iff.1 hi).1; have := En.out; omega) hi)

/-- which indices have been seen behind k numbers -/
def Seen (n : Nat) (os : List Int) (k : Nat) (L : List Value) : Prop := ∀ j : Nat, j < n → L[j]? = some (.bool (decide ((j : Int) ∈ os.take k)))
theorem Seen.step {n : Nat} {os : List Int} {k j : Nat} {L : List Value} (h : Seen n os k L) (hx : os[k]? = some (j : Int)) (hj : j < n) (hl : L.length = n) : Seen n os (k + 1) (L.set j (.bool true)) := by
  intro i hi
  rw [take_snoc hx]
  by_cases hij : j = i
  · subst hij
    rw [List.getElem?_set_self (by omega)]
    simp
  · rw [List.getElem?_set_ne hij, h i hi]
    have : ((i : Int) ∈ os.take k ++ [(j : Int)]) ↔ ((i : Int) ∈ os.take k) := by
      simp only [List.mem_append, List.mem_singleton]
      constructor
      · rintro (h | h)
        · exact h
        · omega
      · exact Or.inl
    simp only [this]
theorem getElem?_madeCells (z : Value) (n j : Nat) (hj : j < n) : (madeCells #[z] n).toList[j]? = some z := by
  simp [madeCells, hj, Nat.mod_one]
end Go.Proofs.YtjhkjbdpmianfaaDoor.iron

/-
  The code of an iron, pieces and an order; the model's check of all three.
-/
namespace Go.Proofs.YtjhkjbdpmianfaaDoor.iron
open Go Go.RowKit sl stk errs

noncomputable def codeOrd (x : Iro) (ps : List Pie) (os : List Int) : Nat := if codeIr x ps = 0 then (if ordB ps.length os = true then 0 else 4) else codeIr x ps
theorem codeOrd_le (x : Iro) (ps : List Pie) (os : List Int) : codeOrd x ps os ≤ 4 := by
  have := codeIr_le x ps
  unfold codeOrd
  split
  · split <;> omega
  · omega
theorem codeOrd_zero {x : Iro} {ps : List Pie} {os : List Int} (h : codeOrd x ps os = 0) : iroB x = true ∧ ps.all pieB = true ∧ ps.length ≤ 8 ∧ os.length = ps.length ∧ goodP ps.length os os.length := by
  unfold codeOrd at h
  split at h
  · rename_i h0
    split at h
    · rename_i h1
      obtain ⟨a, b, c⟩ := codeIr_zero h0
      obtain ⟨d, e⟩ := ordB_parts h1
      exact ⟨a, b, c, d, e⟩
    · omega
  · omega
theorem good_in {n : Nat} {os : List Int} (h : goodP n os os.length) : ∀ i ∈ os, 0 ≤ i ∧ i < n := fun i hi => by
  obtain ⟨k, hk⟩ := List.mem_iff_getElem?.1 hi
  have := h k i (List.getElem?_eq_some_iff.1 hk).1 hk
  exact ⟨this.1, this.2.1⟩
theorem code3o (x : Iro) (ps : List Pie) (os : List Int) (n : Nat) (en : n = ps.length) (k0 k1 k2 : Nat) (h0 : k0 = if iroB x = true then 0 else 1) (h1 : k1 = codePs ps) (h2 : k2 = if ordB n os = true then 0 else 4) :
    firstCode [k0, k1, k2] = codeOrd x ps os := by
  subst h0 h1 h2 en
  have h := code2i x ps _ _ rfl rfl
  unfold codeOrd
  rw [← h]
  cases hv : iroB x with
  | false => rfl
  | true =>
    cases hc : codePs ps with
    | zero => cases ordB ps.length os <;> rfl
    | succ i => rfl
end Go.Proofs.YtjhkjbdpmianfaaDoor.iron
