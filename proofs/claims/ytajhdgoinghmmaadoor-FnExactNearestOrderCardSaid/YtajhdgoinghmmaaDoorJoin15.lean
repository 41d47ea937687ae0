/-
  Several texts of this proof, joined.
-/
import Derived.Test.YtajhdgoinghmmaaDoorJoin14
import Derived.Test.YtajhdgoinghmmaaDoorJoin13
import Derived.Test.YtajhdgoinghmmaaDoorJoin3
import Derived.IntWalk
import Derived.Test.YtajhdgoinghmmaaDoorInB
import Derived.Lib.Hide
/-
  How long an iron takes to another level, the checks of a level, an iron and pieces, and ChangeTime: the program's and the model's.
-/
namespace Go.Proofs.YtajhdgoinghmmaaDoor.iron
open Go Go.RowKit sl stk errs

theorem lev4 {a : Int} (h0 : 0 ≤ a) (h1 : a ≤ 3) : a = 0 ∨ a = 1 ∨ a = 2 ∨ a = 3 := by omega
set_option maxHeartbeats 4000000 in
theorem timeTo_any (x : Iro) (hx : iroB x = true) (a b : Int) (ha : 0 ≤ a) (ha' : a ≤ 3) (hb : 0 ≤ b) (hb' : b ≤ 3) (z : Int) (hz : chg x a b = z) (w : World) :
    Calls Tryd.prog 61 #[.int .i8 a, .int .i8 b, x.v] w fun o w' => o = .returned (.int .i64 z) ∧ Below w.heap.size w w' := by
  subst hz
  obtain ⟨⟨h0, h1⟩, h2, h3⟩ := iroB_iff.1 hx
  obtain ⟨p, q⟩ := x
  simp only at h0 h1 h2 h3
  clear hx
  rcases lev4 ha ha' with rfl | rfl | rfl | rfl <;> rcases lev4 hb hb' with rfl | rfl | rfl | rfl
  all_goals
    clear ha ha' hb hb'
    go_enter Tryd.func61, Tryd.ntmps61
    go_wp2_with fail
    go_ret
    exact ⟨ret_int (by simp [chg]), by repeat (first | exact Below.refl _ _ | assumption | apply Below.drew | (refine Below.alloc ?_ (by first | (simp; done) | (simp; omega) | omega) _) | (refine Below.setCell ?_ (by first | (simp; done) | (simp; omega) | omega) _))⟩
set_option maxHeartbeats 4000000 in
theorem l07Change_any (x : Iro) (hx : iroB x = true) (a b : Int) (ha : 0 ≤ a) (ha' : a ≤ 3) (hb : 0 ≤ b) (hb' : b ≤ 3) (z : Int) (hz : chg x a b = z) (w : World) :
    Calls Tryd.prog 56 #[x.v, .int .i64 a, .int .i64 b] w fun o w' => o = .returned (.int .i64 z) ∧ Below w.heap.size w w' := by
  subst hz
  obtain ⟨⟨h0, h1⟩, h2, h3⟩ := iroB_iff.1 hx
  obtain ⟨p, q⟩ := x
  simp only at h0 h1 h2 h3
  clear hx
  rcases lev4 ha ha' with rfl | rfl | rfl | rfl <;> rcases lev4 hb hb' with rfl | rfl | rfl | rfl
  all_goals
    clear ha ha' hb hb'
    go_enter Tryd.func56, Tryd.ntmps56
    go_wp2_with fail
    go_ret
    exact ⟨ret_int (by simp [chg]), by repeat (first | exact Below.refl _ _ | assumption | apply Below.drew | (refine Below.alloc ?_ (by first | (simp; done) | (simp; omega) | omega) _) | (refine Below.setCell ?_ (by first | (simp; done) | (simp; omega) | omega) _))⟩
set_option maxHeartbeats 1000000 in
theorem checkIron_any (x : Iro) (hx : x.Fits) {w : World} {B : Nat} {e : Nat → Addr} (h : Errs w B e) (hB : B ≤ w.heap.size) (k : Nat) (hk : k = if iroB x = true then 0 else 1) :
    Calls Tryd.prog 58 #[x.v] w fun o w' => o = .returned (errOf e k) ∧ Below w.heap.size w w' := by
  have S0 := Lib.hid (HotS.new x w 27)
  have c0 := S0.out.c0
  have c1 := S0.out.c1
  cases hv : iroB x with
  | true =>
    rw [hv, if_pos rfl] at hk
    subst hk
    have HV := Lib.hid hv
    clear hv
    go_enter Tryd.func58, Tryd.ntmps58
    go_wp2_with fail
    refine (ValidIron_any x hx _).mono ?_
    rintro o w1 ⟨rfl, hb⟩
    rw [HV.out]
    have S1 := Lib.hid (S0.out.next hb)
    clear c0 c1 hb
    go_wp2_with fail
    go_ret
    exact ⟨rfl, S1.out.b⟩
  | false =>
    rw [hv, if_neg (by decide)] at hk
    subst hk
    have HV := Lib.hid hv
    clear hv
    go_enter Tryd.func58, Tryd.ntmps58
    go_wp2_with fail
    refine (ValidIron_any x hx _).mono ?_
    rintro o w1 ⟨rfl, hb⟩
    rw [HV.out]
    have S1 := Lib.hid (S0.out.next hb)
    have g0 := (h.below (S1.out.b.mono hB)).c0
    clear c0 c1 hb
    go_wp2_with fail
    go_ret
    exact ⟨rfl, S1.out.b⟩
theorem checkLevel_any (n : Int) {w : World} {B : Nat} {e : Nat → Addr} (h : Errs w B e) (k : Nat) (hk : k = if 0 ≤ n ∧ n ≤ 3 then 0 else 2) :
    Calls Tryd.prog 59 #[.int .i64 n] w fun o w' => o = .returned (errOf e k) ∧ w = w' := by
  have HK := Lib.hid hk
  clear hk
  go_enter Tryd.func59, Tryd.ntmps59
  go_wp2_with fail
  refine (checkWithin_any n 0 3 h).mono ?_
  rintro o w1 ⟨rfl, rfl⟩
  rw [← HK.out]
  go_wp2_with fail
  go_ret
  exact ⟨rfl, rfl⟩
set_option maxHeartbeats 2000000 in
theorem checkIroned_any (A : Option Addr) (n c : Nat) (xs : List Pie) (en : n = xs.length) (hn : n ≤ 1048576) (hf : ∀ x ∈ xs, x.Fits) {w : World} {B : Nat} {e : Nat → Addr} (h : Errs w B e) (hB : B ≤ w.heap.size) (hg : Sl Pie.cells 3 w w.heap.size A xs)
    (k0 : Nat) (hk0 : k0 = codePs xs) :
    Calls Tryd.prog 76 #[.slice A n c] w fun o w' => o = .returned (errOf e k0) ∧ Below w.heap.size w w' := by
  have En := Lib.hid en
  have HK := Lib.hid hk0
  clear en hk0
  go_enter Tryd.func76, Tryd.ntmps76
  go_wp2_with fail
  go_loopw [7, 4] (fun vi _ wr => ∃ k : Nat, k ≤ n ∧ vi = .int .i64 k ∧ (∀ i x, i < k → xs[i]? = some x → pieB x = true) ∧ Below w.heap.size w wr) (fun vi _ _ => n - (intOf vi).toNat)
  case atStart => exact ⟨0, by omega, rfl, fun i x hi => absurd hi (by omega), Below.refl _ _⟩
  case round =>
    obtain ⟨k, hk, rfl, hval, hb⟩ := hrel
    by_cases hlt : k < n
    · obtain ⟨x, hx⟩ : ∃ x, xs[k]? = some x := ⟨xs[k]'(by have := En.out; omega), List.getElem?_eq_getElem _⟩
      obtain ⟨a, rfl, hab, hat⟩ := (hg.below hb).at_ k x hx
      obtain ⟨q0, q1, q2⟩ := pieS.at_ hat
      have hxf : x.Fits := hf x (List.mem_of_getElem? hx)
      have HX := Lib.hid hx
      clear hx hat
      cases hv : pieB x with
      | true =>
        have HV := Lib.hid hv
        clear hv
        go_wp2_with fail
        refine (ValidPiece_any x hxf _).mono ?_
        rintro o w2 ⟨rfl, hb2⟩
        rw [HV.out]
        have H2 := (hb.alloc hb.size _).trans (hb2.mono (by have := hb.size; simp; omega))
        clear q0 q1 q2 hb2
        go_wp2_with fail
        go_roundw
        case rel => exact ⟨k + 1, by omega, by go_num, fun i y hi hy => by
          rcases Nat.lt_or_ge i k with h1 | h1
          · exact hval i y h1 hy
          · obtain rfl : i = k := by omega
            have := HX.out
            rw [hy] at this
            rw [Option.some.inj this]
            exact HV.out, H2⟩
        case measure => simp [intOf]; omega
      | false =>
        have HV := Lib.hid hv
        clear hv
        go_wp2_with fail
        refine (ValidPiece_any x hxf _).mono ?_
        rintro o w2 ⟨rfl, hb2⟩
        rw [HV.out]
        have H2 := (hb.alloc hb.size _).trans (hb2.mono (by have := hb.size; simp; omega))
        have g0 := (h.below (H2.mono hB)).c0
        clear q0 q1 q2 hb2
        go_wp2_with fail
        go_ret
        have e1 : k0 = 1 := by rw [HK.out, codePs, if_neg (by rw [all_not HX.out HV.out]; decide)]
        rw [e1]
        exact ⟨rfl, H2⟩
    · have hall : xs.all pieB = true := all_of_idx fun i x hi hx => hval i x (by have := En.out; omega) hx
      have HA := Lib.hid hall
      have g2 := (h.below (hb.mono hB)).c2
      clear hall
      by_cases h8 : 8 < n
      · have E1 : Hid (k0 = 3) := Lib.hid (by rw [HK.out, codePs, if_pos HA.out, if_pos (by rw [← En.out]; exact h8)])
        go_wp2_with fail
        go_ret
        rw [E1.out]
        exact ⟨rfl, hb⟩
      · have E1 : Hid (k0 = 0) := Lib.hid (by rw [HK.out, codePs, if_pos HA.out, if_neg (by rw [← En.out]; exact h8)])
        go_wp2_with fail
        go_ret
        rw [E1.out]
        exact ⟨rfl, hb⟩
set_option maxHeartbeats 4000000 in
theorem l07Asked_any (x : Iro) (hx : x.Fits) (A : Option Addr) (n c : Nat) (xs : List Pie) (en : n = xs.length) (hn : n ≤ 1048576) (hf : ∀ x ∈ xs, x.Fits) (w : World) (hg : Sl Pie.cells 3 w w.heap.size A xs) (k0 : Nat) (hk0 : k0 = codeIr x xs) :
    Calls Tryd.prog 70 #[x.v, .slice A n c] w fun o w' => o = .returned (.int .i64 k0) ∧ Below w.heap.size w w' := by
  have En := Lib.hid en
  have HK := Lib.hid hk0
  clear en hk0
  have S0 := Lib.hid (HotS.new x w 27)
  have c0 := S0.out.c0
  have c1 := S0.out.c1
  cases hv : iroB x with
  | false =>
    have HV := Lib.hid hv
    clear hv
    go_enter Tryd.func70, Tryd.ntmps70
    go_wp2_with fail
    refine (l07Iron_any x hx false HV.out _).mono ?_
    rintro o w1 ⟨rfl, hb⟩
    have S1 := Lib.hid (S0.out.next hb)
    clear c0 c1 hb
    go_wp2_with fail
    go_ret
    have e1 : k0 = 1 := by rw [HK.out, codeIr, if_neg (by rw [HV.out]; decide)]
    rw [e1]
    exact ⟨rfl, S1.out.b⟩
  | true =>
    have HV := Lib.hid hv
    clear hv
    have HC : Hid (codeIr x xs = codePs xs) := Lib.hid (by rw [codeIr_eq, if_pos HV.out])
    go_enter Tryd.func70, Tryd.ntmps70
    go_wp2_with fail
    refine (l07Iron_any x hx true HV.out _).mono ?_
    rintro o w1 ⟨rfl, hb⟩
    have H1 := Lib.hid (S0.out.next hb).b
    clear c0 c1 hb S0
    go_wp2_with fail
    go_loopw [5] (fun vi wr => ∃ k : Nat, k ≤ n ∧ vi = .int .i64 k ∧ (∀ i x, i < k → xs[i]? = some x → pieB x = true) ∧ Below w.heap.size w wr) (fun vi _ => n - (intOf vi).toNat)
    case atStart => exact ⟨0, by omega, rfl, fun i x hi => absurd hi (by omega), H1.out⟩
    case round =>
      obtain ⟨k, hk, rfl, hval, hb⟩ := hrel
      by_cases hlt : k < n
      · obtain ⟨y, hy⟩ : ∃ y, xs[k]? = some y := ⟨xs[k]'(by have := En.out; omega), List.getElem?_eq_getElem _⟩
        obtain ⟨a, rfl, hab, hat⟩ := (hg.below hb).at_ k y hy
        obtain ⟨q0, q1, q2⟩ := pieS.at_ hat
        have hyf : y.Fits := hf y (List.mem_of_getElem? hy)
        have HY := Lib.hid hy
        clear hy hat
        cases hv : pieB y with
        | true =>
          have HV := Lib.hid hv
          clear hv
          go_wp2_with fail
          refine (l07Piece_any y hyf true HV.out _).mono ?_
          rintro o w2 ⟨rfl, hb2⟩
          have H2 := hb.trans (hb2.mono hb.size)
          clear q0 q1 q2 hb2
          go_wp2_with fail
          go_roundw
          case rel => exact ⟨k + 1, by omega, by go_num, fun i z hi hz => by
            rcases Nat.lt_or_ge i k with h1 | h1
            · exact hval i z h1 hz
            · obtain rfl : i = k := by omega
              have := HY.out
              rw [hz] at this
              rw [Option.some.inj this]
              exact HV.out, H2⟩
          case measure => simp [intOf]; omega
        | false =>
          have HV := Lib.hid hv
          clear hv
          go_wp2_with fail
          refine (l07Piece_any y hyf false HV.out _).mono ?_
          rintro o w2 ⟨rfl, hb2⟩
          have H2 := hb.trans (hb2.mono hb.size)
          clear q0 q1 q2 hb2
          go_wp2_with fail
          go_ret
          have e1 : k0 = 1 := by rw [HK.out, HC.out, codePs, if_neg (by rw [all_not HY.out HV.out]; decide)]
          rw [e1]
          exact ⟨rfl, H2⟩
      · have hall : xs.all pieB = true := all_of_idx fun i x hi hx => hval i x (by have := En.out; omega) hx
        have HA := Lib.hid hall
        clear hall
        by_cases h8 : 8 < n
        · have E1 : Hid (k0 = 3) := Lib.hid (by rw [HK.out, HC.out, codePs, if_pos HA.out, if_pos (by rw [← En.out]; exact h8)])
          go_wp2_with fail
          go_ret
          rw [E1.out]
          exact ⟨rfl, hb⟩
        · have E1 : Hid (k0 = 0) := Lib.hid (by rw [HK.out, HC.out, codePs, if_pos HA.out, if_neg (by rw [← En.out]; exact h8)])
          go_wp2_with fail
          go_ret
          rw [E1.out]
          exact ⟨rfl, hb⟩
end Go.Proofs.YtajhdgoinghmmaaDoor.iron

/-
  ChangeTime and TimeBound: the program's and the model's.
-/
namespace Go.Proofs.YtajhdgoinghmmaaDoor.iron
open Go Go.RowKit sl stk errs

def codeChg (x : Iro) (a b : Int) : Nat := if iroB x = true then (if 0 ≤ a ∧ a ≤ 3 then (if 0 ≤ b ∧ b ≤ 3 then 0 else 2) else 2) else 1
def chgR (x : Iro) (a b : Int) : Int × Nat := if codeChg x a b = 0 then (chg x a b, 0) else (0, codeChg x a b)
theorem codeChg_le (x : Iro) (a b : Int) : codeChg x a b ≤ 2 := by
  unfold codeChg
  split
  · split
    · split <;> omega
    · omega
  · omega
theorem codeChg_zero {x : Iro} {a b : Int} (h : codeChg x a b = 0) : iroB x = true ∧ (0 ≤ a ∧ a ≤ 3) ∧ (0 ≤ b ∧ b ≤ 3) := by
  unfold codeChg at h
  split at h
  · split at h
    · split at h
      · exact ⟨by assumption, by assumption, by assumption⟩
      · omega
    · omega
  · omega
theorem code3c (x : Iro) (a b : Int) (k0 k1 k2 : Nat) (h0 : k0 = if iroB x = true then 0 else 1) (h1 : k1 = if 0 ≤ a ∧ a ≤ 3 then 0 else 2) (h2 : k2 = if 0 ≤ b ∧ b ≤ 3 then 0 else 2) :
    firstCode [k0, k1, k2] = codeChg x a b := by
  subst h0 h1 h2
  unfold codeChg
  split
  · split
    · split <;> rfl
    · rfl
  · rfl
theorem cells_errs3 (e : Nat → Addr) (k0 k1 k2 : Nat) (u : World) (T : TypeId) : ∀ k x, [k0, k1, k2][k]? = some x → (u.alloc (.cells #[errOf e k0, errOf e k1, errOf e k2] T)).cell? ⟨u.heap.size, k, none⟩ = some (errOf e x) := by
  intro k x hx
  rw [cell_of_row _ _ k _ _ _ (heap_alloc_new u _)]
  match k, hx with
  | 0, h => rw [← (Option.some.inj h : k0 = x)]; rfl
  | 1, h => rw [← (Option.some.inj h : k1 = x)]; rfl
  | 2, h => rw [← (Option.some.inj h : k2 = x)]; rfl
  | _ + 3, h => simp at h
theorem cells_errs2 (e : Nat → Addr) (k0 k1 : Nat) (u : World) (T : TypeId) : ∀ k x, [k0, k1][k]? = some x → (u.alloc (.cells #[errOf e k0, errOf e k1] T)).cell? ⟨u.heap.size, k, none⟩ = some (errOf e x) := by
  intro k x hx
  rw [cell_of_row _ _ k _ _ _ (heap_alloc_new u _)]
  match k, hx with
  | 0, h => rw [← (Option.some.inj h : k0 = x)]; rfl
  | 1, h => rw [← (Option.some.inj h : k1 = x)]; rfl
  | _ + 2, h => simp at h
set_option maxRecDepth 100000 in
set_option maxHeartbeats 4000000 in
theorem ChangeTime_any (x : Iro) (hx : x.Fits) (a b r0 : Int) (r1 : Nat) (hr : chgR x a b = (r0, r1)) {w : World} {B : Nat} {e : Nat → Addr} (h : Errs w B e) (hB : B ≤ w.heap.size) :
    Calls Tryd.prog 19 #[x.v, .int .i64 a, .int .i64 b] w fun o w' => o = .returned (.tuple #[.int .i64 r0, .int .i64 r1]) ∧ Below w.heap.size w w' := by
  obtain ⟨k0, hk0⟩ : ∃ k : Nat, k = if iroB x = true then 0 else 1 := ⟨_, rfl⟩
  obtain ⟨k1, hk1⟩ : ∃ k : Nat, k = if 0 ≤ a ∧ a ≤ 3 then 0 else 2 := ⟨_, rfl⟩
  obtain ⟨k2, hk2⟩ : ∃ k : Nat, k = if 0 ≤ b ∧ b ≤ 3 then 0 else 2 := ⟨_, rfl⟩
  have HF := Lib.hid (code3c x a b k0 k1 k2 hk0 hk1 hk2)
  have HK0 := Lib.hid hk0
  have HK1 := Lib.hid hk1
  have HK2 := Lib.hid hk2
  have HR := Lib.hid hr
  have S0 := Lib.hid (HotS.new x w 27)
  have c0 := S0.out.c0
  have c1 := S0.out.c1
  clear hk0 hk1 hk2 hr
  go_enter Tryd.func19, Tryd.ntmps19
  go_wp2_with fail
  refine (checkIron_any x hx (h.below (S0.out.b.mono hB)) (Nat.le_trans hB S0.out.b.size) k0 HK0.out).mono ?_
  rintro o w1 ⟨rfl, hb1⟩
  have S1 := Lib.hid (S0.out.next hb1)
  have H1 := Lib.hid (h.below (S1.out.b.mono hB))
  clear c0 c1 hb1
  go_wp2_with fail
  refine (checkLevel_any a H1.out k1 HK1.out).mono ?_
  rintro o w2 ⟨rfl, rfl⟩
  go_wp2_with fail
  refine (checkLevel_any b H1.out k2 HK2.out).mono ?_
  rintro o w2 ⟨rfl, rfl⟩
  go_wp2_with (refine wpList_listed rfl 98 3 _ rfl #[(0, errOf e k0), (1, errOf e k1), (2, errOf e k2)] ?hp (buildSlice3 e k0 k1 k2 _) ?_; case hp => simp [Act.eval])
  refine (firstOf_any e [k0, k1, k2] _ 3 3 rfl (by decide) _ (cells_errs3 e k0 k1 k2 w1 55)).mono ?_
  rintro o w3 ⟨rfl, rfl⟩
  rw [HF.out]
  obtain ⟨w2, hw2⟩ : ∃ w2, w2 = w1.alloc (.cells #[errOf e k0, errOf e k1, errOf e k2] 55) := ⟨_, rfl⟩
  have S2 := Lib.hid (S1.out.next ((Below.refl _ _).alloc (Nat.le_refl _) (.cells #[errOf e k0, errOf e k1, errOf e k2] 55)))
  rw [← hw2] at S2 ⊢
  have H2 := Lib.hid (h.below (S2.out.b.mono hB))
  have c0 := S2.out.c0
  have c1 := S2.out.c1
  clear hw2
  cases hc : codeChg x a b with
  | zero =>
    have HC := Lib.hid hc
    clear hc
    obtain ⟨hv, ⟨a0, a1⟩, b0, b1⟩ := codeChg_zero HC.out
    have HV := Lib.hid hv
    have hr' : chg x a b = r0 ∧ 0 = r1 := by
      have := HR.out
      rw [chgR, if_pos HC.out] at this
      simpa using this
    have HZ := Lib.hid hr'.1
    obtain rfl := hr'.2
    clear hv hr'
    rw [show errOf e 0 = .nilIface from rfl]
    go_wp2_with fail
    refine (timeTo_any x HV.out a b a0 a1 b0 b1 _ HZ.out _).mono ?_
    rintro o w4 ⟨rfl, hb4⟩
    have S4 := Lib.hid (S2.out.next hb4)
    clear c0 c1 hb4
    go_wp2_with fail
    go_ret2
    exact ⟨rfl, S4.out.b⟩
  | succ i =>
    have HC := Lib.hid hc
    have hi : i + 1 ≤ 6 := by have := codeChg_le x a b; omega
    have hr' : 0 = r0 ∧ i + 1 = r1 := by
      have := HR.out
      rw [chgR, if_neg (by rw [hc]; omega), hc] at this
      simpa using this
    obtain ⟨rfl, rfl⟩ := hr'
    clear hc
    rw [show errOf e (i + 1) = errV (e i) from rfl]
    have HQ := Lib.hid (codeOf_any H2.out (i + 1) (by omega))
    rw [show errOf e (i + 1) = errV (e i) from rfl] at HQ
    go_wp2_with fail
    refine HQ.out.mono ?_
    rintro o w4 ⟨rfl, rfl⟩
    go_wp2_with fail
    go_ret2
    exact ⟨rfl, S2.out.b⟩
set_option maxHeartbeats 4000000 in
theorem ChangeTime_spec (x : Iro) (hx : x.Fits) (a b r0 : Int) (r1 : Nat) (hr : chgR x a b = (r0, r1)) (w : World) :
    Calls Tryd.prog 17 #[x.v, .int .i64 a, .int .i64 b] w fun o w' => o = .returned (.tuple #[.int .i64 r0, .int .i64 r1]) ∧ Below w.heap.size w w' := by
  have HR := Lib.hid hr
  have S0 := Lib.hid (HotS.new x w 27)
  have c0 := S0.out.c0
  have c1 := S0.out.c1
  clear hr
  cases hv : iroB x with
  | false =>
    have HV := Lib.hid hv
    clear hv
    have E : Hid (codeChg x a b = 1) := Lib.hid (by rw [codeChg, if_neg (by rw [HV.out]; decide)])
    have hr' : 0 = r0 ∧ 1 = r1 := by
      have := HR.out
      rw [chgR, if_neg (by rw [E.out]; omega), E.out] at this
      simpa using this
    obtain ⟨rfl, rfl⟩ := hr'
    go_enter Tryd.func17, Tryd.ntmps17
    go_wp2_with fail
    refine (l07Iron_any x hx false HV.out _).mono ?_
    rintro o w1 ⟨rfl, hb⟩
    have S1 := Lib.hid (S0.out.next hb)
    clear c0 c1 hb
    go_wp2_with fail
    go_ret2
    exact ⟨rfl, S1.out.b⟩
  | true =>
    have HV := Lib.hid hv
    clear hv
    cases h0 : inB a 0 3 with
    | true =>
      have H0 := Lib.hid h0
      clear h0
      cases h1 : inB b 0 3 with
      | true =>
        have H1 := Lib.hid h1
        clear h1
        have E : Hid (codeChg x a b = 0) := Lib.hid (by rw [codeChg, if_pos HV.out, if_pos ((inB_iff _ _ _).1 H0.out), if_pos ((inB_iff _ _ _).1 H1.out)])
        have hr' : chg x a b = r0 ∧ 0 = r1 := by
          have := HR.out
          rw [chgR, if_pos E.out] at this
          simpa using this
        have HZ := Lib.hid hr'.1
        obtain rfl := hr'.2
        obtain ⟨a0, a1⟩ := (inB_iff _ _ _).1 H0.out
        obtain ⟨b0, b1⟩ := (inB_iff _ _ _).1 H1.out
        clear hr'
        go_enter Tryd.func17, Tryd.ntmps17
        go_wp2_with fail
        refine (l07Iron_any x hx true HV.out _).mono ?_
        rintro o w1 ⟨rfl, hb⟩
        have S1 := Lib.hid (S0.out.next hb)
        clear c0 c1 hb
        have c0 := S1.out.c0
        have c1 := S1.out.c1
        go_wp2_with fail
        refine (l00In_b _ _ _ true H0.out _).mono ?_
        rintro o w2 ⟨rfl, rfl⟩
        go_wp2_with fail
        refine (l00In_b _ _ _ true H1.out _).mono ?_
        rintro o w2 ⟨rfl, rfl⟩
        go_wp2_with fail
        refine (l07Change_any x HV.out a b a0 a1 b0 b1 _ HZ.out _).mono ?_
        rintro o w2 ⟨rfl, hb⟩
        have S2 := Lib.hid (S1.out.next hb)
        clear c0 c1 hb
        go_wp2_with fail
        go_ret2
        exact ⟨rfl, S2.out.b⟩
      | false =>
        have H1 := Lib.hid h1
        have hno : ¬ (0 ≤ b ∧ b ≤ 3) := fun hh => by rw [(inB_iff _ _ _).2 hh] at h1; cases h1
        have E : Hid (codeChg x a b = 2) := Lib.hid (by rw [codeChg, if_pos HV.out, if_pos ((inB_iff _ _ _).1 H0.out), if_neg hno])
        clear h1 hno
        have hr' : 0 = r0 ∧ 2 = r1 := by
          have := HR.out
          rw [chgR, if_neg (by rw [E.out]; omega), E.out] at this
          simpa using this
        obtain ⟨rfl, rfl⟩ := hr'
        go_enter Tryd.func17, Tryd.ntmps17
        go_wp2_with fail
        refine (l07Iron_any x hx true HV.out _).mono ?_
        rintro o w1 ⟨rfl, hb⟩
        have S1 := Lib.hid (S0.out.next hb)
        clear c0 c1 hb
        go_wp2_with fail
        refine (l00In_b _ _ _ true H0.out _).mono ?_
        rintro o w2 ⟨rfl, rfl⟩
        go_wp2_with fail
        refine (l00In_b _ _ _ false H1.out _).mono ?_
        rintro o w2 ⟨rfl, rfl⟩
        go_wp2_with fail
        go_ret2
        exact ⟨rfl, S1.out.b⟩
    | false =>
      have H0 := Lib.hid h0
      have hno : ¬ (0 ≤ a ∧ a ≤ 3) := fun hh => by rw [(inB_iff _ _ _).2 hh] at h0; cases h0
      have E : Hid (codeChg x a b = 2) := Lib.hid (by rw [codeChg, if_pos HV.out, if_neg hno])
      clear h0 hno
      have hr' : 0 = r0 ∧ 2 = r1 := by
        have := HR.out
        rw [chgR, if_neg (by rw [E.out]; omega), E.out] at this
        simpa using this
      obtain ⟨rfl, rfl⟩ := hr'
      go_enter Tryd.func17, Tryd.ntmps17
      go_wp2_with fail
      refine (l07Iron_any x hx true HV.out _).mono ?_
      rintro o w1 ⟨rfl, hb⟩
      have S1 := Lib.hid (S0.out.next hb)
      clear c0 c1 hb
      go_wp2_with fail
      refine (l00In_b _ _ _ false H0.out _).mono ?_
      rintro o w2 ⟨rfl, rfl⟩
      go_wp2_with fail
      go_ret2
      exact ⟨rfl, S1.out.b⟩
end Go.Proofs.YtajhdgoinghmmaaDoor.iron

/-
  TimeBound: the program's and the model's.
-/
namespace Go.Proofs.YtajhdgoinghmmaaDoor.iron
open Go Go.RowKit sl stk errs

def minsOf (ps : List Pie) : Int := ps.foldl (fun s p => s + p.mins) 0
def topOf (ps : List Pie) : Int := ps.foldl (fun t p => if t < p.lev then p.lev else t) 0
theorem minsOf_take {ps : List Pie} {k : Nat} {p : Pie} (h : ps[k]? = some p) : minsOf (ps.take (k + 1)) = minsOf (ps.take k) + p.mins := by rw [take_snoc h]; simp [minsOf]
theorem topOf_take {ps : List Pie} {k : Nat} {p : Pie} (h : ps[k]? = some p) : topOf (ps.take (k + 1)) = if topOf (ps.take k) < p.lev then p.lev else topOf (ps.take k) := by rw [take_snoc h]; unfold topOf; rw [List.foldl_append]; rfl
theorem minsOf_bd {ps : List Pie} (h : ps.all pieB = true) : ∀ k, k ≤ ps.length → 0 ≤ minsOf (ps.take k) ∧ minsOf (ps.take k) ≤ 60 * k
  | 0, _ => by simp [minsOf]
  | k + 1, hk => by
    have hx := List.getElem?_eq_getElem (show k < ps.length by omega)
    have h1 := minsOf_bd h k (by omega)
    have h2 := pieB_iff.1 (List.all_eq_true.1 h _ (List.mem_of_getElem? hx))
    rw [minsOf_take hx]
    omega
theorem topOf_bd {ps : List Pie} (h : ps.all pieB = true) : ∀ k, k ≤ ps.length → 0 ≤ topOf (ps.take k) ∧ topOf (ps.take k) ≤ 3
  | 0, _ => by simp [topOf]
  | k + 1, hk => by
    have hx := List.getElem?_eq_getElem (show k < ps.length by omega)
    have h1 := topOf_bd h k (by omega)
    have h2 := pieB_iff.1 (List.all_eq_true.1 h _ (List.mem_of_getElem? hx))
    rw [topOf_take hx]
    split <;> omega
/-- the bound of all times -/
def bound (x : Iro) (ps : List Pie) : Int := minsOf ps + chg x 0 (topOf ps)
def bndR (x : Iro) (ps : List Pie) : Int × Nat := if codeIr x ps = 0 then (bound x ps, 0) else (0, codeIr x ps)
theorem chg_up {x : Iro} {b : Int} (h : 0 ≤ b) : chg x 0 b = x.up * b := by
  unfold chg
  split
  · rw [Int.sub_zero]
  · obtain rfl : b = 0 := by omega
    simp
theorem code2i (x : Iro) (ps : List Pie) (k0 k1 : Nat) (h0 : k0 = if iroB x = true then 0 else 1) (h1 : k1 = codePs ps) : firstCode [k0, k1] = codeIr x ps := by
  subst h0 h1
  rw [codeIr_eq]
  split
  · cases codePs ps <;> rfl
  · rfl
set_option maxRecDepth 100000 in
set_option maxHeartbeats 4000000 in
theorem leastTime_any (x : Iro) (hv : iroB x = true) (A : Option Addr) (n c : Nat) (ps : List Pie) (en : n = ps.length) (hn : n ≤ 8) (hp : ps.all pieB = true) (z : Int) (hz : bound x ps = z) (w : World) (hg : Sl Pie.cells 3 w w.heap.size A ps) :
    Calls Tryd.prog 83 #[x.v, .slice A n c] w fun o w' => o = .returned (.int .i64 z) ∧ Below w.heap.size w w' := by
  have En := Lib.hid en
  have HZ := Lib.hid hz
  have HV := Lib.hid hv
  have HP := Lib.hid hp
  have S0 := Lib.hid (HotS.new x w 27)
  clear en hz hv hp
  go_enter Tryd.func83, Tryd.ntmps83
  go_wp2_with fail
  go_loopw [5, 6, 11, 8] (fun vs vt vi _ wr => ∃ k : Nat, k ≤ n ∧ vi = .int .i64 k ∧ vs = .int .i64 (minsOf (ps.take k)) ∧ vt = .int .i8 (topOf (ps.take k)) ∧ HotS x w wr) (fun _ _ vi _ _ => n - (intOf vi).toNat)
  case atStart => exact ⟨0, by omega, rfl, rfl, rfl, S0.out⟩
  case round =>
    obtain ⟨k, hk, rfl, rfl, rfl, hS⟩ := hrel
    have HS := Lib.hid hS
    clear hS
    have hm := minsOf_bd HP.out k (by have := En.out; omega)
    have ht := topOf_bd HP.out k (by have := En.out; omega)
    obtain ⟨mi, hmi⟩ : ∃ mi, mi = minsOf (ps.take k) := ⟨_, rfl⟩
    obtain ⟨ti, hti⟩ : ∃ ti, ti = topOf (ps.take k) := ⟨_, rfl⟩
    rw [← hmi] at hm ⊢
    rw [← hti] at ht ⊢
    have HM := Lib.hid hmi
    have HT := Lib.hid hti
    obtain ⟨hm0, hm1⟩ := hm
    obtain ⟨ht0, ht1⟩ := ht
    clear hmi hti
    by_cases hlt : k < n
    · obtain ⟨y, hy⟩ : ∃ y, ps[k]? = some y := ⟨ps[k]'(by have := En.out; omega), List.getElem?_eq_getElem _⟩
      obtain ⟨a, rfl, hab, hat⟩ := (hg.below HS.out.b).at_ k y hy
      obtain ⟨q0, q1, q2⟩ := pieS.at_ hat
      obtain ⟨⟨y0, y1⟩, ⟨y2, y3⟩, y4, y5⟩ := pieB_iff.1 (List.all_eq_true.1 HP.out _ (List.mem_of_getElem? hy))
      have hb1 : Below wr.heap.size wr (wr.alloc (.cells #[.int .i8 y.lev, .int .i8 y.mins, .int .i16 y.due] 66)) := (Below.refl _ _).alloc (Nat.le_refl _) _
      have HY := Lib.hid hy
      have HB1 := Lib.hid (HS.out.next hb1)
      clear hy hat hb1
      go_wp2_with fail
      all_goals
        go_roundw
        case rel => exact ⟨k + 1, by omega, by go_num, by rw [minsOf_take HY.out, ← HM.out], by
          rw [topOf_take HY.out, ← HT.out]
          all_goals (split <;> first | rfl | (simp; omega)), HB1.out⟩
        case measure => simp [intOf]; omega
    · obtain rfl : k = n := by omega
      have hfull : ps.take k = ps := List.take_of_length_le (by have := En.out; omega)
      have c0 := HS.out.c0
      have c1 := HS.out.c1
      have HZ2 : Hid (mi + chg x 0 ti = z) := Lib.hid (by rw [HM.out, HT.out, hfull]; exact HZ.out)
      have hcb := chg_bd (x := x) (a := 0) (b := ti) HV.out (by omega) (by omega) ht0 ht1
      obtain ⟨ci, hci⟩ : ∃ ci, chg x 0 ti = ci := ⟨_, rfl⟩
      rw [hci] at HZ2 hcb
      have HCI := Lib.hid hci
      obtain ⟨hc0, hc1⟩ := hcb
      clear hfull hci
      go_wp2_with fail
      refine (timeTo_any x HV.out 0 ti (by omega) (by omega) ht0 ht1 _ HCI.out _).mono ?_
      rintro o w4 ⟨rfl, hb4⟩
      have S4 := Lib.hid (HS.out.next hb4)
      clear c0 c1 hb4
      go_wp2_with fail
      go_ret
      exact ⟨ret_int HZ2.out, S4.out.b⟩
theorem bnd_ok {x : Iro} {ps : List Pie} {r0 : Int} {r1 : Nat} (h : bndR x ps = (r0, r1)) (hc : codeIr x ps = 0) : bound x ps = r0 ∧ r1 = 0 := by
  rw [bndR, if_pos hc] at h
  simp at h
  omega
theorem bnd_no {x : Iro} {ps : List Pie} {r0 : Int} {r1 i : Nat} (h : bndR x ps = (r0, r1)) (hc : codeIr x ps = i + 1) : r0 = 0 ∧ r1 = i + 1 := by
  rw [bndR, if_neg (by omega), hc] at h
  simp at h
  omega
set_option maxRecDepth 100000 in
set_option maxHeartbeats 4000000 in
theorem TimeBound_any (x : Iro) (hx : x.Fits) (A : Option Addr) (n c : Nat) (ps : List Pie) (en : n = ps.length) (hn : n ≤ 1048576) (hf : ∀ p ∈ ps, p.Fits) (r0 : Int) (r1 : Nat) (hr : bndR x ps = (r0, r1)) {w : World} {B : Nat} {e : Nat → Addr} (h : Errs w B e) (hB : B ≤ w.heap.size) (hg : Sl Pie.cells 3 w w.heap.size A ps) :
    Calls Tryd.prog 43 #[x.v, .slice A n c] w fun o w' => o = .returned (.tuple #[.int .i64 r0, .int .i64 r1]) ∧ Below w.heap.size w w' := by
  obtain ⟨k0, hk0⟩ : ∃ k : Nat, k = if iroB x = true then 0 else 1 := ⟨_, rfl⟩
  obtain ⟨k1, hk1⟩ : ∃ k : Nat, k = codePs ps := ⟨_, rfl⟩
  have HF := Lib.hid (code2i x ps k0 k1 hk0 hk1)
  have HK0 := Lib.hid hk0
  have HK1 := Lib.hid hk1
  have HR := Lib.hid hr
  have En := Lib.hid en
  have HFT := Lib.hid hf
  have S0 := Lib.hid (HotS.new x w 27)
  have c0 := S0.out.c0
  have c1 := S0.out.c1
  clear hk0 hk1 hr en hf
  go_enter Tryd.func43, Tryd.ntmps43
  go_wp2_with fail
  refine (checkIron_any x hx (h.below (S0.out.b.mono hB)) (Nat.le_trans hB S0.out.b.size) k0 HK0.out).mono ?_
  rintro o w1 ⟨rfl, hb1⟩
  have S1 := Lib.hid (S0.out.next hb1)
  clear c0 c1 hb1
  go_wp2_with fail
  refine (checkIroned_any A n c ps En.out hn HFT.out (h.below (S1.out.b.mono hB)) (Nat.le_trans hB S1.out.b.size) ((hg.below S1.out.b).more S1.out.b.size) k1 HK1.out).mono ?_
  rintro o w2 ⟨rfl, hb2⟩
  have S2 := Lib.hid (S1.out.next hb2)
  clear hb2
  go_wp2_with (refine wpList_listed rfl 98 2 _ rfl #[(0, errOf e k0), (1, errOf e k1)] ?hp (buildSlice2 e k0 k1 _) ?_; case hp => simp [Act.eval])
  refine (firstOf_any e [k0, k1] _ 2 2 rfl (by decide) _ (cells_errs2 e k0 k1 w2 55)).mono ?_
  rintro o w3 ⟨rfl, rfl⟩
  rw [HF.out]
  obtain ⟨w3, hw3⟩ : ∃ w3, w3 = w2.alloc (.cells #[errOf e k0, errOf e k1] 55) := ⟨_, rfl⟩
  have S3 := Lib.hid (S2.out.next ((Below.refl _ _).alloc (Nat.le_refl _) (.cells #[errOf e k0, errOf e k1] 55)))
  rw [← hw3] at S3 ⊢
  have H3 := Lib.hid (h.below (S3.out.b.mono hB))
  have c0 := S3.out.c0
  have c1 := S3.out.c1
  clear hw3
  cases hc : codeIr x ps with
  | zero =>
    have HC := Lib.hid hc
    clear hc
    obtain ⟨hv, hp, h8⟩ := codeIr_zero HC.out
    rw [← En.out] at h8
    have HV := Lib.hid hv
    have HP := Lib.hid hp
    clear hv hp
    rw [show errOf e 0 = .nilIface from rfl]
    obtain ⟨hz, rfl⟩ := bnd_ok HR.out HC.out
    have HZ := Lib.hid hz
    clear hz
    go_wp2_with fail
    refine (leastTime_any x HV.out A n c ps En.out h8 HP.out _ HZ.out _ ((hg.below S3.out.b).more S3.out.b.size)).mono ?_
    rintro o w4 ⟨rfl, hb4⟩
    have S4 := Lib.hid (S3.out.next hb4)
    clear c0 c1 hb4
    go_wp2_with fail
    go_ret2
    exact ⟨rfl, S4.out.b⟩
  | succ i =>
    obtain ⟨rfl, rfl⟩ := bnd_no HR.out hc
    have hi := codeIr_le x ps
    rw [hc] at hi
    rw [show errOf e (i + 1) = errV (e i) from rfl]
    have HQ := Lib.hid (codeOf_any H3.out (i + 1) (by omega))
    rw [show errOf e (i + 1) = errV (e i) from rfl] at HQ
    clear hc hi
    go_wp2_with fail
    refine HQ.out.mono ?_
    rintro o w4 ⟨rfl, rfl⟩
    go_wp2_with fail
    go_ret2
    exact ⟨rfl, S3.out.b⟩
theorem l00Max_any (a b : Int) (w : World) :
    Calls Tryd.prog 69 #[.int .i64 a, .int .i64 b] w fun e w' => e = .returned (.int .i64 (if b < a then a else b)) ∧ w = w' := by
  by_cases h : b < a
  · rw [if_pos h]
    go_enter Tryd.func69, Tryd.ntmps69
    go_wp2_with fail
    go_ret
    exact ⟨rfl, rfl⟩
  · rw [if_neg h]
    go_enter Tryd.func69, Tryd.ntmps69
    go_wp2_with fail
    go_ret
    exact ⟨rfl, rfl⟩
set_option maxRecDepth 100000 in
set_option maxHeartbeats 4000000 in
theorem TimeBound_spec (x : Iro) (hx : x.Fits) (A : Option Addr) (n c : Nat) (ps : List Pie) (en : n = ps.length) (hn : n ≤ 1048576) (hf : ∀ p ∈ ps, p.Fits) (r0 : Int) (r1 : Nat) (hr : bndR x ps = (r0, r1)) (w : World) (hg : Sl Pie.cells 3 w w.heap.size A ps) :
    Calls Tryd.prog 42 #[x.v, .slice A n c] w fun o w' => o = .returned (.tuple #[.int .i64 r0, .int .i64 r1]) ∧ Below w.heap.size w w' := by
  obtain ⟨k0, hk0⟩ : ∃ k : Nat, k = codeIr x ps := ⟨_, rfl⟩
  have HK0 := Lib.hid hk0
  have HR := Lib.hid hr
  have En := Lib.hid en
  have HFT := Lib.hid hf
  have S0 := Lib.hid (HotS.new x w 27)
  have c0 := S0.out.c0
  have c1 := S0.out.c1
  clear hk0 hr en hf
  go_enter Tryd.func42, Tryd.ntmps42
  go_wp2_with fail
  refine (l07Asked_any x hx A n c ps En.out hn HFT.out _ ((hg.below S0.out.b).more S0.out.b.size) k0 HK0.out).mono ?_
  rintro o w1 ⟨rfl, hb1⟩
  have S1 := Lib.hid (S0.out.next hb1)
  clear c0 c1 hb1
  have c0 := S1.out.c0
  have c1 := S1.out.c1
  cases hc : codeIr x ps with
  | zero =>
    have HC := Lib.hid hc
    obtain ⟨hv, hp, h8⟩ := codeIr_zero HC.out
    rw [← En.out] at h8
    have HV := Lib.hid hv
    have HP := Lib.hid hp
    obtain rfl : k0 = 0 := HK0.out.trans hc
    clear hv hp hc
    obtain ⟨hz, rfl⟩ := bnd_ok HR.out HC.out
    have HZ := Lib.hid hz
    clear hz
    go_wp2_with fail
    go_loopw [7, 8, 9] (fun vs vt vi wr => ∃ k : Nat, k ≤ n ∧ vi = .int .i64 k ∧ vs = .int .i64 (minsOf (ps.take k)) ∧ vt = .int .i64 (topOf (ps.take k)) ∧ HotS x w wr) (fun _ _ vi _ => n - (intOf vi).toNat)
    case atStart => exact ⟨0, by omega, rfl, rfl, rfl, S1.out⟩
    case round =>
      obtain ⟨k, hk, rfl, rfl, rfl, hS⟩ := hrel
      have HS := Lib.hid hS
      clear hS c0 c1 S1
      have c0 := HS.out.c0
      have c1 := HS.out.c1
      have hm := minsOf_bd HP.out k (by have := En.out; omega)
      have ht := topOf_bd HP.out k (by have := En.out; omega)
      obtain ⟨mi, hmi⟩ : ∃ mi, mi = minsOf (ps.take k) := ⟨_, rfl⟩
      obtain ⟨ti, hti⟩ : ∃ ti, ti = topOf (ps.take k) := ⟨_, rfl⟩
      rw [← hmi] at hm ⊢
      rw [← hti] at ht ⊢
      have HM := Lib.hid hmi
      have HT := Lib.hid hti
      obtain ⟨hm0, hm1⟩ := hm
      obtain ⟨ht0, ht1⟩ := ht
      clear hmi hti
      by_cases hlt : k < n
      · obtain ⟨y, hy⟩ : ∃ y, ps[k]? = some y := ⟨ps[k]'(by have := En.out; omega), List.getElem?_eq_getElem _⟩
        obtain ⟨a, rfl, hab, hat⟩ := (hg.below HS.out.b).at_ k y hy
        obtain ⟨q0, q1, q2⟩ := pieS.at_ hat
        obtain ⟨⟨y0, y1⟩, ⟨y2, y3⟩, y4, y5⟩ := pieB_iff.1 (List.all_eq_true.1 HP.out _ (List.mem_of_getElem? hy))
        have HY := Lib.hid hy
        clear hy hat
        go_wp2_with fail
        refine (l00Max_any _ _ _).mono ?_
        rintro o w2 ⟨rfl, rfl⟩
        go_wp2_with fail
        go_roundw
        case rel => exact ⟨k + 1, by omega, by go_num, by rw [minsOf_take HY.out, ← HM.out], by
          rw [topOf_take HY.out, ← HT.out]
          congr 1
          split <;> split <;> omega, HS.out⟩
        case measure => simp [intOf]; omega
      · obtain rfl : k = n := by omega
        have hfull : ps.take k = ps := List.take_of_length_le (by have := En.out; omega)
        have HZ2 : Hid (mi + x.up * ti = r0) := Lib.hid (by rw [← chg_up ht0, HM.out, HT.out, hfull]; exact HZ.out)
        clear hfull
        obtain ⟨⟨u0, u1⟩, _, _⟩ := iroB_iff.1 HV.out
        obtain ⟨up, down⟩ := x
        simp only at u0 u1
        rcases lev4 ht0 ht1 with rfl | rfl | rfl | rfl
        all_goals
          simp only at HZ2
          go_wp2_with fail
          go_ret2
          exact ⟨by rw [← HZ2.out]; first | rfl | (simp; done) | (simp; omega), HS.out.b⟩
  | succ i =>
    obtain ⟨rfl, rfl⟩ := bnd_no HR.out hc
    obtain rfl : k0 = i + 1 := HK0.out.trans hc
    have hne : (((i + 1 : Nat) : Int) != 0) = true := by rw [bne_iff_ne]; omega
    have hne2 : (((i : Int) + 1) != 0) = true := by rw [bne_iff_ne]; omega
    clear hc
    go_wp2_with fail
    go_ret2
    exact ⟨by simp, S1.out.b⟩
end Go.Proofs.YtajhdgoinghmmaaDoor.iron

/-
  Orders: each index just once; contracts of the program's and the model's functions that look for this (after XOrder, without cloths).
-/
namespace Go.Proofs.YtajhdgoinghmmaaDoor.iron
open Go.RowKit sl errs stk

/-- the first k numbers are indices, each one just once -/
def goodP (n : Nat) (os : List Int) (k : Nat) : Prop := ∀ i x, i < k → os[i]? = some x → 0 ≤ x ∧ x < n ∧ x ∉ os.take i
open Classical in
noncomputable def ordB (n : Nat) (os : List Int) : Bool := decide (os.length = n ∧ goodP n os os.length)
theorem ordB_yes {n : Nat} {os : List Int} (hl : os.length = n) (h : goodP n os os.length) : ordB n os = true := by
  unfold ordB
  simp only [decide_eq_true_eq]
  exact ⟨hl, h⟩
theorem ordB_len {n : Nat} {os : List Int} (hl : os.length ≠ n) : ordB n os = false := by simp [ordB, hl]
theorem ordB_no {n : Nat} {os : List Int} {k : Nat} {x : Int} (hx : os[k]? = some x) (h : ¬ (0 ≤ x ∧ x < n ∧ x ∉ os.take k)) : ordB n os = false := by
  have : ¬ goodP n os os.length := fun hg => h (hg k x (List.getElem?_eq_some_iff.1 hx).1 hx)
  simp [ordB, this]
theorem ordB_parts {n : Nat} {os : List Int} (h : ordB n os = true) : os.length = n ∧ goodP n os os.length := by simpa [ordB] using h
theorem goodP_step {n : Nat} {os : List Int} {k : Nat} {x : Int} (h : goodP n os k) (hx : os[k]? = some x) (h0 : 0 ≤ x) (h1 : x < n) (h2 : x ∉ os.take k) : goodP n os (k + 1) := by
  intro i y hi hy
  rcases Nat.lt_or_ge i k with h3 | h3
  · exact h i y h3 hy
  · obtain rfl : i = k := by omega
    rw [hx] at hy
    obtain rfl := Option.some.inj hy
    exact ⟨h0, h1, h2⟩
theorem sl_take {α : Type} {C : α → List Value} {sz : Nat} {w : World} {B : Nat} {A : Option Addr} {xs : List α} (h : Sl C sz w B A xs) (k : Nat) : Sl C sz w B A (xs.take k) :=
  ⟨fun i x hx => h.at_ i x (by
    rw [List.getElem?_take] at hx
    split at hx
    · exact hx
    · cases hx)⟩

set_option maxHeartbeats 2000000 in
theorem l00Has_v (A : Option Addr) (n c : Nat) (xs : List Int) (en : n = xs.length) (hn : n ≤ 1048576) (v : Int) (b : Bool) (hb : b = true ↔ v ∈ xs) (w : World) (B : Nat) (hg : Sl intS.C 1 w B A xs) :
    Calls Tryd.prog 75 #[.slice A n c, .int .i64 v] w fun e w' => e = .returned (.bool b) ∧ w' = w := by
  have En := Lib.hid en
  have HB := Lib.hid hb
  clear en hb
  go_enter Tryd.func75, Tryd.ntmps75
  go_wp2_with fail
  go_loop [5] (fun vi => ∃ k : Nat, k ≤ n ∧ vi = .int .i64 k ∧ (∀ i x, i < k → xs[i]? = some x → x ≠ v)) (fun vi => n - (intOf vi).toNat)
  case atStart => exact ⟨0, by omega, rfl, fun i x hi => absurd hi (by omega)⟩
  case round =>
    obtain ⟨k, hk, rfl, hno⟩ := hrel
    have HN := Lib.hid hno
    clear hno
    by_cases hlt : k < n
    · obtain ⟨x, hx⟩ : ∃ x, xs[k]? = some x := ⟨xs[k]'(by have := En.out; omega), List.getElem?_eq_getElem _⟩
      obtain ⟨a, rfl, hab, hat⟩ := hg.at_ k x hx
      have q0 := intS.at_ hat
      have HX := Lib.hid hx
      clear hx hat
      by_cases hxv : x = v
      · have HE := Lib.hid hxv
        have d1 : (x == v) = true := by rw [beq_iff_eq]; exact hxv
        clear hxv
        go_wp2_with fail
        go_ret
        exact ⟨ret_bool (HB.out.2 (by rw [← HE.out]; exact List.mem_of_getElem? HX.out)).symm, rfl⟩
      · have HE := Lib.hid hxv
        have d1 : (x == v) = false := by rw [beq_eq_false_iff_ne]; exact hxv
        clear hxv
        go_wp2_with fail
        go_round
        case rel => exact ⟨k + 1, by omega, by go_num, fun i y hi hy => by
          rcases Nat.lt_or_ge i k with h1 | h1
          · exact HN.out i y h1 hy
          · obtain rfl : i = k := by omega
            have := HX.out
            rw [hy] at this
            rw [Option.some.inj this]
            exact HE.out⟩
        case measure => simp [intOf]; omega
    · go_wp2_with fail
      go_ret
      refine ⟨ret_bool ?_, rfl⟩
      cases hbb : b with
      | false => rfl
      | true =>
        obtain ⟨i, hi⟩ := List.mem_iff_getElem?.1 (HB.out.1 hbb)
        exact absurd rfl (HN.out i v (by have := (List.getElem?_eq_some_iff.1 hi).1; have := En.out; omega) hi)
theorem l00Has_yes (A : Option Addr) (n c : Nat) (xs : List Int) (en : n = xs.length) (hn : n ≤ 1048576) (v : Int) (hb : v ∈ xs) (w : World) (B : Nat) (hg : Sl intS.C 1 w B A xs) :
    Calls Tryd.prog 75 #[.slice A n c, .int .i64 v] w fun e w' => e = .returned (.bool true) ∧ w' = w := l00Has_v A n c xs en hn v true (by simp [hb]) w B hg
theorem l00Has_no (A : Option Addr) (n c : Nat) (xs : List Int) (en : n = xs.length) (hn : n ≤ 1048576) (v : Int) (hb : v ∉ xs) (w : World) (B : Nat) (hg : Sl intS.C 1 w B A xs) :
    Calls Tryd.prog 75 #[.slice A n c, .int .i64 v] w fun e w' => e = .returned (.bool false) ∧ w' = w := l00Has_v A n c xs en hn v false (by simp [hb]) w B hg
theorem l00In_q (n lo hi : Int) (b : Bool) (hb : inB n lo hi = b) (w : World) :
    Calls Tryd.prog 55 #[.int .i64 n, .int .i64 lo, .int .i64 hi] w fun o w' => o = .returned (.bool b) ∧ w' = w :=
  (l00In_b n lo hi b hb w).mono fun _ _ h => ⟨h.1, h.2.symm⟩
set_option maxRecDepth 100000 in
set_option maxHeartbeats 4000000 in
theorem l03Order_any (n : Nat) (hn : n ≤ 1048576) (A : Option Addr) (m : Nat) (os : List Int) (em : m = os.length) (hm : m ≤ 1048576) (w : World) (hg : Sl intS.C 1 w w.heap.size A os) :
    Calls Tryd.prog 89 #[.slice A m m, .int .i64 n] w fun o w' => o = .returned (.bool (ordB n os)) ∧ Below w.heap.size w w' := by
  have Em := Lib.hid em
  clear em
  by_cases hmn : m = n
  · subst hmn
    go_enter Tryd.func89, Tryd.ntmps89
    go_wp2_with fail
    go_loopw [5] (fun vi wr => ∃ k : Nat, k ≤ m ∧ vi = .int .i64 k ∧ goodP m os k ∧ Below w.heap.size w wr) (fun vi _ => m - (intOf vi).toNat)
    case atStart => exact ⟨0, by omega, rfl, fun i x hi => absurd hi (by omega), Below.refl _ _⟩
    case round =>
      obtain ⟨k, hk, rfl, hgood, hB⟩ := hrel
      have HG := Lib.hid hgood
      have HB := Lib.hid hB
      clear hgood
      by_cases hlt : k < m
      · obtain ⟨x, hx⟩ : ∃ x, os[k]? = some x := ⟨os[k]'(by have := Em.out; omega), List.getElem?_eq_getElem _⟩
        have ST := Lib.hid (sl_take (hg.below hB) k)
        obtain ⟨a, rfl, hab, hat⟩ := (hg.below hB).at_ k x hx
        have q0 := intS.at_ hat
        have HX := Lib.hid hx
        have hlen : k = (os.take k).length := by rw [List.length_take]; have := Em.out; omega
        have HL := Lib.hid hlen
        have wa : IntKind.i64.wrap ((m : Int) - 1) = (m : Int) - 1 := IntWalk.i64_in _ (by omega)
        have wb : (0 : Int) ≤ (k : Int) := by omega
        have wc : (k : Int) ≤ (m : Int) := by omega
        have wd : (k : Int) < (m : Int) := by omega
        clear hx hat hB hlen
        by_cases hin : 0 ≤ x ∧ x < m
        · have hib : inB x 0 ((m : Int) - 1) = true := by rw [inB_iff]; omega
          have HI := Lib.hid hib
          have H0 := hin.1
          have H1 := hin.2
          clear hib hin
          by_cases hm1 : x ∈ os.take k
          · have HH := Lib.hid hm1
            clear hm1
            go_wp2_with fail
            go_quiet ((first | (go_at_call 55; exact Calls.quiet_of_same (l00In_q _ _ _ true HI.out _)) | (go_at_call 75; exact Calls.quiet_of_same (l00Has_yes _ _ _ _ HL.out (by omega) _ HH.out _ _ (ST.out.keep fun _ _ => rfl)))))
            go_wp2_with fail
            go_ret
            exact ⟨ret_bool (ordB_no HX.out (fun h => h.2.2 HH.out)).symm, HB.out.trans (below_drewN _ _ _)⟩
          · have HH := Lib.hid hm1
            clear hm1
            go_wp2_with fail
            go_quiet ((first | (go_at_call 55; exact Calls.quiet_of_same (l00In_q _ _ _ true HI.out _)) | (go_at_call 75; exact Calls.quiet_of_same (l00Has_no _ _ _ _ HL.out (by omega) _ HH.out _ _ (ST.out.keep fun _ _ => rfl)))))
            clear wa wb wc wd
            go_wp2_with fail
            go_roundw
            case rel => exact ⟨k + 1, by omega, by go_num, goodP_step HG.out HX.out H0 H1 HH.out, HB.out.trans (below_drewN _ _ _)⟩
            case measure => simp [intOf]; omega
        · have hib : inB x 0 ((m : Int) - 1) = false := by
            cases hv : inB x 0 ((m : Int) - 1) with
            | false => rfl
            | true => rw [inB_iff] at hv; omega
          have HI := Lib.hid hib
          have HN := Lib.hid hin
          clear hib hin
          go_wp2_with fail
          go_quiet (((go_at_call 55; exact Calls.quiet_of_same (l00In_q _ _ _ false HI.out _))))
          go_wp2_with fail
          go_ret
          exact ⟨ret_bool (ordB_no HX.out (fun h => HN.out ⟨h.1, h.2.1⟩)).symm, HB.out.trans (below_drewN _ _ _)⟩
      · obtain rfl : k = m := by omega
        have HB := Lib.hid hB
        clear hB
        have E := Lib.hid (ordB_yes (by have := Em.out; omega) (by rw [← Em.out]; exact HG.out) : ordB k os = true)
        go_wp2_with fail
        go_ret
        exact ⟨ret_bool E.out.symm, HB.out⟩
  · have E := Lib.hid (ordB_len (by have := Em.out; omega) : ordB n os = false)
    have d1 : ((m : Int) != (n : Int)) = true := by rw [bne_iff_ne]; omega
    clear hmn
    go_enter Tryd.func89, Tryd.ntmps89
    go_wp2_with fail
    go_ret
    exact ⟨ret_bool E.out.symm, Below.refl _ _⟩

/-- which indices have been seen behind k numbers -/
def Seen (n : Nat) (os : List Int) (k : Nat) (L : List Value) : Prop := ∀ j : Nat, j < n → L[j]? = some (.bool (decide ((j : Int) ∈ os.take k)))
theorem Seen.step {n : Nat} {os : List Int} {k j : Nat} {L : List Value} (h : Seen n os k L) (hx : os[k]? = some (j : Int)) (hj : j < n) (hl : L.length = n) : Seen n os (k + 1) (L.set j (.bool true)) := by
  intro i hi
  rw [take_snoc hx]
  by_cases hij : j = i
  · subst hij
    rw [List.getElem?_set_self (by omega)]
    simp
  · rw [List.getElem?_set_ne hij, h i hi]
    have : ((i : Int) ∈ os.take k ++ [(j : Int)]) ↔ ((i : Int) ∈ os.take k) := by
      simp only [List.mem_append, List.mem_singleton]
      constructor
      · rintro (h | h)
        · exact h
        · omega
      · exact Or.inl
    simp only [this]
theorem getElem?_madeCells (z : Value) (n j : Nat) (hj : j < n) : (madeCells #[z] n).toList[j]? = some z := by
  simp [madeCells, hj, Nat.mod_one]
theorem bool_info : (Tryd.prog.info? 4).map (fun i => (i.zero, i.size, i.bytes)) = some (some (.bool false), 1, 1) := by kernel_rfl
set_option maxRecDepth 100000 in
set_option maxHeartbeats 4000000 in
theorem checkOrder_any (n : Nat) (hn : n ≤ 1048576) (A : Option Addr) (m c : Nat) (os : List Int) (em : m = os.length) (hm : m ≤ 1048576) {w : World} {B : Nat} {e : Nat → Addr} (h : Errs w B e) (hB : B ≤ w.heap.size) (hg : Sl intS.C 1 w w.heap.size A os) (k0 : Nat) (hk0 : k0 = if ordB n os = true then 0 else 4) :
    Calls Tryd.prog 90 #[.slice A m c, .int .i64 n] w fun o w' => o = .returned (errOf e k0) ∧ Below w.heap.size w w' := by
  have Em := Lib.hid em
  have HK := Lib.hid hk0
  clear em hk0
  obtain ⟨i0, hi, hz0, hz1, hz2⟩ := info_parts bool_info
  have hmk : ∀ u : World, (Instr.makeSlice 122 (.int .i64 (n : Int)) (.int .i64 (n : Int))).run Tryd.prog u =
      .ok (.slice (some ⟨u.heap.size, 0, none⟩) n n) (u.alloc (.cells (madeCells #[.bool false] n) 4)) := fun u => by
    have h := run_make (P := Tryd.prog) u 122 4 i0 _ Tryd.underlying122 hi hz0 .i64 .i64 (n : Int) (n : Int) (by omega) (Int.le_refl _) (by rw [hz2]; omega) (by omega)
    have e : ((n : Int)).toNat = n := by omega
    rw [e] at h
    simpa [hz1, Value.cells] using h
  have hP0 : (w.alloc (.cells (madeCells #[.bool false] n) 4)).ownsRow w.heap.size 4 1 (.slice (some ⟨w.heap.size, 0, none⟩) n n) n _ :=
    World.ownsRow_lit w (madeCells #[.bool false] n) n (Nat.le_refl _) (by unfold maxLen; omega) (by rw [size_madeCells, Nat.mul_one])
  have HP0 := Lib.hid hP0
  have HB0 := Lib.hid ((Below.refl w.heap.size w).alloc (Nat.le_refl _) (.cells (madeCells #[.bool false] n) 4))
  clear hP0
  by_cases hmn : m = n
  · subst hmn
    go_enter Tryd.func90, Tryd.ntmps90
    go_wp2_with fail
    go_loopw [17, 7] (fun vi _ wr => ∃ k L, k ≤ m ∧ vi = .int .i64 (k : Nat) ∧ wr.ownsRow w.heap.size 4 1 (.slice (some ⟨w.heap.size, 0, none⟩) m m) m L ∧ Seen m os k L ∧ goodP m os k ∧ Below w.heap.size w wr) (fun vi _ _ => m - (intOf vi).toNat)
    case atStart => exact ⟨0, _, by omega, rfl, HP0.out, fun j hj => by rw [getElem?_madeCells _ _ _ hj]; simp, fun i x hi => absurd hi (by omega), HB0.out⟩
    case round =>
      clear HP0 HB0
      obtain ⟨k, L, hk, rfl, hP, hS, hG, hb⟩ := hrel
      have HS := Lib.hid hS
      have HG := Lib.hid hG
      have HB := Lib.hid hb
      clear hS hG
      by_cases hlt : k < m
      · obtain ⟨x, hx⟩ : ∃ x, os[k]? = some x := ⟨os[k]'(by have := Em.out; omega), List.getElem?_eq_getElem _⟩
        obtain ⟨a, rfl, hab, hat⟩ := (hg.below hb).at_ k x hx
        have q0 := intS.at_ hat
        have HX := Lib.hid hx
        have g3 := (h.below (hb.mono hB)).c3
        clear hx hat hb
        by_cases hx0 : x < 0
        · clear hP
          go_wp2_with fail
          go_ret
          have e1 : k0 = 4 := by rw [HK.out, ordB_no HX.out (fun h => by omega)]; rfl
          rw [e1]
          exact ⟨rfl, HB.out⟩
        · by_cases hx1 : (m : Int) ≤ x
          · clear hP
            go_wp2_with fail
            go_ret
            have e1 : k0 = 4 := by rw [HK.out, ordB_no HX.out (fun h => by omega)]; rfl
            rw [e1]
            exact ⟨rfl, HB.out⟩
          · obtain ⟨j, rfl⟩ : ∃ j : Nat, x = (j : Int) := ⟨x.toNat, by omega⟩
            have hj : j < m := by omega
            have hjc := (hP.cellAt j (by omega)).trans (HS.out j hj)
            have f0 := hP.frozenAt j
            have HLL := Lib.hid hP.1
            have HP := Lib.hid hP
            clear hx0 hx1 hP
            by_cases hmem : (j : Int) ∈ os.take k
            · have HM := Lib.hid hmem
              have d1 : decide ((j : Int) ∈ os.take k) = true := by simpa using hmem
              rw [d1] at hjc
              clear hmem d1
              go_wp2_with fail
              go_ret
              have e1 : k0 = 4 := by rw [HK.out, ordB_no HX.out (fun h => h.2.2 HM.out)]; rfl
              rw [e1]
              exact ⟨rfl, HB.out⟩
            · have HM := Lib.hid hmem
              have d1 : decide ((j : Int) ∈ os.take k) = false := by simpa using hmem
              rw [d1] at hjc
              clear hmem d1
              go_wp2_with fail
              go_roundw
              case rel => exact ⟨k + 1, _, by omega, by go_num, (HP.out.stored j (.bool true)).1, HS.out.step HX.out hj (by rw [HLL.out, Nat.mul_one]), goodP_step HG.out HX.out (by omega) (by omega) HM.out, HB.out.setCell (p := ⟨w.heap.size, j, none⟩) (Nat.le_refl _) _⟩
              case measure => simp [intOf]; omega
      · clear hP hb
        go_wp2_with fail
        go_ret
        have e1 : k0 = 0 := by
          have hl := Em.out
          have : k = os.length := by omega
          rw [HK.out, ordB_yes hl.symm (by rw [← this]; exact HG.out)]
          rfl
        rw [e1]
        exact ⟨rfl, HB.out⟩
  · have d1 : ((m : Int) != (n : Int)) = true := by rw [bne_iff_ne]; omega
    have g3 := h.c3
    have e1 : k0 = 4 := by rw [HK.out, ordB_len (by have := Em.out; omega)]; rfl
    rw [e1]
    clear e1 HP0 HB0
    go_enter Tryd.func90, Tryd.ntmps90
    go_wp2_with fail
    go_ret
    exact ⟨rfl, Below.refl _ _⟩
end Go.Proofs.YtajhdgoinghmmaaDoor.iron

/-
  The code of an iron, pieces and an order; the model's check of all three.
-/
namespace Go.Proofs.YtajhdgoinghmmaaDoor.iron
open Go Go.RowKit sl stk errs

noncomputable def codeOrd (x : Iro) (ps : List Pie) (os : List Int) : Nat := if codeIr x ps = 0 then (if ordB ps.length os = true then 0 else 4) else codeIr x ps
theorem codeOrd_le (x : Iro) (ps : List Pie) (os : List Int) : codeOrd x ps os ≤ 4 := by
  have := codeIr_le x ps
  unfold codeOrd
  split
  · split <;> omega
  · omega
theorem codeOrd_zero {x : Iro} {ps : List Pie} {os : List Int} (h : codeOrd x ps os = 0) : iroB x = true ∧ ps.all pieB = true ∧ ps.length ≤ 8 ∧ os.length = ps.length ∧ goodP ps.length os os.length := by
  unfold codeOrd at h
  split at h
  · rename_i h0
    split at h
    · rename_i h1
      obtain ⟨a, b, c⟩ := codeIr_zero h0
      obtain ⟨d, e⟩ := ordB_parts h1
      exact ⟨a, b, c, d, e⟩
    · omega
  · omega
theorem good_in {n : Nat} {os : List Int} (h : goodP n os os.length) : ∀ i ∈ os, 0 ≤ i ∧ i < n := fun i hi => by
  obtain ⟨k, hk⟩ := List.mem_iff_getElem?.1 hi
  have := h k i (List.getElem?_eq_some_iff.1 hk).1 hk
  exact ⟨this.1, this.2.1⟩
theorem code3o (x : Iro) (ps : List Pie) (os : List Int) (n : Nat) (en : n = ps.length) (k0 k1 k2 : Nat) (h0 : k0 = if iroB x = true then 0 else 1) (h1 : k1 = codePs ps) (h2 : k2 = if ordB n os = true then 0 else 4) :
    firstCode [k0, k1, k2] = codeOrd x ps os := by
  subst h0 h1 h2 en
  have h := code2i x ps _ _ rfl rfl
  unfold codeOrd
  rw [← h]
  cases hv : iroB x with
  | false => rfl
  | true =>
    cases hc : codePs ps with
    | zero => cases ordB ps.length os <;> rfl
    | succ i => rfl
set_option maxRecDepth 100000 in
set_option maxHeartbeats 4000000 in
theorem l07Ordered_any (x : Iro) (hx : x.Fits) (A : Option Addr) (n c : Nat) (ps : List Pie) (en : n = ps.length) (hn : n ≤ 1048576) (hf : ∀ p ∈ ps, p.Fits) (A' : Option Addr) (m : Nat) (os : List Int) (em : m = os.length) (hm : m ≤ 1048576) (k : Nat) (hk : codeOrd x ps os = k) (w : World) (hg : Sl Pie.cells 3 w w.heap.size A ps) (hg' : Sl intS.C 1 w w.heap.size A' os) :
    Calls Tryd.prog 62 #[x.v, .slice A n c, .slice A' m m] w fun o w' => o = .returned (.int .i64 k) ∧ Below w.heap.size w w' := by
  obtain ⟨k0, hk0⟩ : ∃ k : Nat, k = codeIr x ps := ⟨_, rfl⟩
  have HK0 := Lib.hid hk0
  have HK := Lib.hid hk
  have En := Lib.hid en
  have Em := Lib.hid em
  have HFT := Lib.hid hf
  have S0 := Lib.hid (HotS.new x w 27)
  have c0 := S0.out.c0
  have c1 := S0.out.c1
  clear hk0 hk en em hf
  by_cases hz : k0 = 0
  · subst hz
    cases hb : ordB n os with
    | true =>
      have HB := Lib.hid hb
      have E : Hid (k = 0) := Lib.hid (by rw [← HK.out, codeOrd, if_pos HK0.out.symm, ← En.out, if_pos HB.out])
      clear hb
      go_enter Tryd.func62, Tryd.ntmps62
      go_wp2_with fail
      refine (l07Asked_any x hx A n c ps En.out hn HFT.out _ ((hg.below S0.out.b).more S0.out.b.size) 0 HK0.out).mono ?_
      rintro o w1 ⟨rfl, hb1⟩
      have S1 := Lib.hid (S0.out.next hb1)
      clear c0 c1 hb1
      go_wp2_with fail
      refine (l03Order_any n hn A' m os Em.out hm _ ((hg'.below S1.out.b).more S1.out.b.size)).mono ?_
      rintro o w2 ⟨rfl, hb2⟩
      rw [HB.out]
      have S2 := Lib.hid (S1.out.next hb2)
      clear hb2
      go_wp2_with fail
      go_ret
      rw [E.out]
      exact ⟨rfl, S2.out.b⟩
    | false =>
      have HB := Lib.hid hb
      have E : Hid (k = 4) := Lib.hid (by rw [← HK.out, codeOrd, if_pos HK0.out.symm, ← En.out, if_neg (by rw [HB.out]; decide)])
      clear hb
      go_enter Tryd.func62, Tryd.ntmps62
      go_wp2_with fail
      refine (l07Asked_any x hx A n c ps En.out hn HFT.out _ ((hg.below S0.out.b).more S0.out.b.size) 0 HK0.out).mono ?_
      rintro o w1 ⟨rfl, hb1⟩
      have S1 := Lib.hid (S0.out.next hb1)
      clear c0 c1 hb1
      go_wp2_with fail
      refine (l03Order_any n hn A' m os Em.out hm _ ((hg'.below S1.out.b).more S1.out.b.size)).mono ?_
      rintro o w2 ⟨rfl, hb2⟩
      rw [HB.out]
      have S2 := Lib.hid (S1.out.next hb2)
      clear hb2
      go_wp2_with fail
      go_ret
      rw [E.out]
      exact ⟨rfl, S2.out.b⟩
  · have E : Hid (k = k0) := Lib.hid (by rw [← HK.out, codeOrd, if_neg (by rw [← HK0.out]; exact hz), HK0.out])
    have hne : ((k0 : Int) == 0) = false := by rw [beq_eq_false_iff_ne]; omega
    go_enter Tryd.func62, Tryd.ntmps62
    go_wp2_with fail
    refine (l07Asked_any x hx A n c ps En.out hn HFT.out _ ((hg.below S0.out.b).more S0.out.b.size) k0 HK0.out).mono ?_
    rintro o w1 ⟨rfl, hb1⟩
    have S1 := Lib.hid (S0.out.next hb1)
    clear c0 c1 hb1
    go_wp2_with fail
    go_ret
    rw [E.out]
    exact ⟨rfl, S1.out.b⟩
end Go.Proofs.YtajhdgoinghmmaaDoor.iron
