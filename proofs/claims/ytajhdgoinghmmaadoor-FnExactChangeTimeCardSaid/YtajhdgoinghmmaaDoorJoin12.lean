/-
  Several texts of this proof, joined.
-/
import Derived.Test.YtajhdgoinghmmaaDoorJoin11
import Derived.Test.YtajhdgoinghmmaaDoorJoin10
import Derived.Test.YtajhdgoinghmmaaDoorJoin3
import Derived.IntWalk
/-
  How long an iron takes to another level, the checks of a level, an iron and pieces, and ChangeTime: the program's and the model's.
-/
namespace Go.Proofs.YtajhdgoinghmmaaDoor.iron
open Go Go.RowKit sl stk errs

theorem lev4 {a : Int} (h0 : 0 ≤ a) (h1 : a ≤ 3) : a = 0 ∨ a = 1 ∨ a = 2 ∨ a = 3 := by omega
set_option maxHeartbeats 4000000 in
theorem timeTo_any (x : Iro) (hx : iroB x = true) (a b : Int) (ha : 0 ≤ a) (ha' : a ≤ 3) (hb : 0 ≤ b) (hb' : b ≤ 3) (z : Int) (hz : chg x a b = z) (w : World) :
    Calls Tryd.prog 61 #[.int .i8 a, .int .i8 b, x.v] w fun o w' => o = .returned (.int .i64 z) ∧ Below w.heap.size w w' := by
  subst hz
  obtain ⟨⟨h0, h1⟩, h2, h3⟩ := iroB_iff.1 hx
  obtain ⟨p, q⟩ := x
  simp only at h0 h1 h2 h3
  clear hx
  rcases lev4 ha ha' with rfl | rfl | rfl | rfl <;> rcases lev4 hb hb' with rfl | rfl | rfl | rfl
  all_goals
    clear ha ha' hb hb'
    go_enter Tryd.func61, Tryd.ntmps61
    go_wp2_with fail
    go_ret
    exact ⟨ret_int (by simp [chg]), by repeat (first | exact Below.refl _ _ | assumption | apply Below.drew | (refine Below.alloc ?_ (by first | (simp; done) | (simp; omega) | omega) _) | (refine Below.setCell ?_ (by first | (simp; done) | (simp; omega) | omega) _))⟩
set_option maxHeartbeats 4000000 in
theorem l07Change_any (x : Iro) (hx : iroB x = true) (a b : Int) (ha : 0 ≤ a) (ha' : a ≤ 3) (hb : 0 ≤ b) (hb' : b ≤ 3) (z : Int) (hz : chg x a b = z) (w : World) :
    Calls Tryd.prog 56 #[x.v, .int .i64 a, .int .i64 b] w fun o w' => o = .returned (.int .i64 z) ∧ Below w.heap.size w w' := by
  subst hz
  obtain ⟨⟨h0, h1⟩, h2, h3⟩ := iroB_iff.1 hx
  obtain ⟨p, q⟩ := x
  simp only at h0 h1 h2 h3
  clear hx
  rcases lev4 ha ha' with rfl | rfl | rfl | rfl <;> rcases lev4 hb hb' with rfl | rfl | rfl | rfl
  all_goals
    clear ha ha' hb hb'
    go_enter Tryd.func56, Tryd.ntmps56
    go_wp2_with fail
    go_ret
    exact ⟨ret_int (by simp [chg]), by repeat (first | exact Below.refl _ _ | assumption | apply Below.drew | (refine Below.alloc ?_ (by first | (simp; done) | (simp; omega) | omega) _) | (refine Below.setCell ?_ (by first | (simp; done) | (simp; omega) | omega) _))⟩
set_option maxHeartbeats 1000000 in
theorem checkIron_any (x : Iro) (hx : x.Fits) {w : World} {B : Nat} {e : Nat → Addr} (h : Errs w B e) (hB : B ≤ w.heap.size) (k : Nat) (hk : k = if iroB x = true then 0 else 1) :
    Calls Tryd.prog 58 #[x.v] w fun o w' => o = .returned (errOf e k) ∧ Below w.heap.size w w' := by
  have S0 := Lib.hid (HotS.new x w 27)
  have c0 := S0.out.c0
  have c1 := S0.out.c1
  cases hv : iroB x with
  | true =>
    rw [hv, if_pos rfl] at hk
    subst hk
    have HV := Lib.hid hv
    clear hv
    go_enter Tryd.func58, Tryd.ntmps58
    go_wp2_with fail
    refine (ValidIron_any x hx _).mono ?_
    rintro o w1 ⟨rfl, hb⟩
    rw [HV.out]
    have S1 := Lib.hid (S0.out.next hb)
    clear c0 c1 hb
    go_wp2_with fail
    go_ret
    exact ⟨rfl, S1.out.b⟩
  | false =>
    rw [hv, if_neg (by decide)] at hk
    subst hk
    have HV := Lib.hid hv
    clear hv
    go_enter Tryd.func58, Tryd.ntmps58
    go_wp2_with fail
    refine (ValidIron_any x hx _).mono ?_
    rintro o w1 ⟨rfl, hb⟩
    rw [HV.out]
    have S1 := Lib.hid (S0.out.next hb)
    have g0 := (h.below (S1.out.b.mono hB)).c0
    clear c0 c1 hb
    go_wp2_with fail
    go_ret
    exact ⟨rfl, S1.out.b⟩
theorem checkLevel_any (n : Int) {w : World} {B : Nat} {e : Nat → Addr} (h : Errs w B e) (k : Nat) (hk : k = if 0 ≤ n ∧ n ≤ 3 then 0 else 2) :
    Calls Tryd.prog 59 #[.int .i64 n] w fun o w' => o = .returned (errOf e k) ∧ w = w' := by
  have HK := Lib.hid hk
  clear hk
  go_enter Tryd.func59, Tryd.ntmps59
  go_wp2_with fail
  refine (checkWithin_any n 0 3 h).mono ?_
  rintro o w1 ⟨rfl, rfl⟩
  rw [← HK.out]
  go_wp2_with fail
  go_ret
  exact ⟨rfl, rfl⟩
set_option maxHeartbeats 2000000 in
theorem checkIroned_any (A : Option Addr) (n c : Nat) (xs : List Pie) (en : n = xs.length) (hn : n ≤ 1048576) (hf : ∀ x ∈ xs, x.Fits) {w : World} {B : Nat} {e : Nat → Addr} (h : Errs w B e) (hB : B ≤ w.heap.size) (hg : Sl Pie.cells 3 w w.heap.size A xs)
    (k0 : Nat) (hk0 : k0 = codePs xs) :
    Calls Tryd.prog 76 #[.slice A n c] w fun o w' => o = .returned (errOf e k0) ∧ Below w.heap.size w w' := by
  have En := Lib.hid en
  have HK := Lib.hid hk0
  clear en hk0
  go_enter Tryd.func76, Tryd.ntmps76
  go_wp2_with fail
  go_loopw [7, 4] (fun vi _ wr => ∃ k : Nat, k ≤ n ∧ vi = .int .i64 k ∧ (∀ i x, i < k → xs[i]? = some x → pieB x = true) ∧ Below w.heap.size w wr) (fun vi _ _ => n - (intOf vi).toNat)
  case atStart => exact ⟨0, by omega, rfl, fun i x hi => absurd hi (by omega), Below.refl _ _⟩
  case round =>
    obtain ⟨k, hk, rfl, hval, hb⟩ := hrel
    by_cases hlt : k < n
    · obtain ⟨x, hx⟩ : ∃ x, xs[k]? = some x := ⟨xs[k]'(by have := En.out; omega), List.getElem?_eq_getElem _⟩
      obtain ⟨a, rfl, hab, hat⟩ := (hg.below hb).at_ k x hx
      obtain ⟨q0, q1, q2⟩ := pieS.at_ hat
      have hxf : x.Fits := hf x (List.mem_of_getElem? hx)
      have HX := Lib.hid hx
      clear hx hat
      cases hv : pieB x with
      | true =>
        have HV := Lib.hid hv
        clear hv
        go_wp2_with fail
        refine (ValidPiece_any x hxf _).mono ?_
        rintro o w2 ⟨rfl, hb2⟩
        rw [HV.out]
        have H2 := (hb.alloc hb.size _).trans (hb2.mono (by have := hb.size; simp; omega))
        clear q0 q1 q2 hb2
        go_wp2_with fail
        go_roundw
        case rel => exact ⟨k + 1, by omega, by go_num, fun i y hi hy => by
          rcases Nat.lt_or_ge i k with h1 | h1
          · exact hval i y h1 hy
          · obtain rfl : i = k := by omega
            have := HX.out
            rw [hy] at this
            rw [Option.some.inj this]
            exact HV.out, H2⟩
        case measure => simp [intOf]; omega
      | false =>
        have HV := Lib.hid hv
        clear hv
        go_wp2_with fail
        refine (ValidPiece_any x hxf _).mono ?_
        rintro o w2 ⟨rfl, hb2⟩
        rw [HV.out]
        have H2 := (hb.alloc hb.size _).trans (hb2.mono (by have := hb.size; simp; omega))
        have g0 := (h.below (H2.mono hB)).c0
        clear q0 q1 q2 hb2
        go_wp2_with fail
        go_ret
        have e1 : k0 = 1 := by rw [HK.out, codePs, if_neg (by rw [all_not HX.out HV.out]; decide)]
        rw [e1]
        exact ⟨rfl, H2⟩
    · have hall : xs.all pieB = true := all_of_idx fun i x hi hx => hval i x (by have := En.out; omega) hx
      have HA := Lib.hid hall
      have g2 := (h.below (hb.mono hB)).c2
      clear hall
      by_cases h8 : 8 < n
      · have E1 : Hid (k0 = 3) := Lib.hid (by rw [HK.out, codePs, if_pos HA.out, if_pos (by rw [← En.out]; exact h8)])
        go_wp2_with fail
        go_ret
        rw [E1.out]
        exact ⟨rfl, hb⟩
      · have E1 : Hid (k0 = 0) := Lib.hid (by rw [HK.out, codePs, if_pos HA.out, if_neg (by rw [← En.out]; exact h8)])
        go_wp2_with fail
        go_ret
        rw [E1.out]
        exact ⟨rfl, hb⟩
set_option maxHeartbeats 4000000 in
theorem l07Asked_any (x : Iro) (hx : x.Fits) (A : Option Addr) (n c : Nat) (xs : List Pie) (en : n = xs.length) (hn : n ≤ 1048576) (hf : ∀ x ∈ xs, x.Fits) (w : World) (hg : Sl Pie.cells 3 w w.heap.size A xs) (k0 : Nat) (hk0 : k0 = codeIr x xs) :
    Calls Tryd.prog 70 #[x.v, .slice A n c] w fun o w' => o = .returned (.int .i64 k0) ∧ Below w.heap.size w w' := by
  have En := Lib.hid en
  have HK := Lib.hid hk0
  clear en hk0
  have S0 := Lib.hid (HotS.new x w 27)
  have c0 := S0.out.c0
  have c1 := S0.out.c1
  cases hv : iroB x with
  | false =>
    have HV := Lib.hid hv
    clear hv
    go_enter Tryd.func70, Tryd.ntmps70
    go_wp2_with fail
    refine (l07Iron_any x hx false HV.out _).mono ?_
    rintro o w1 ⟨rfl, hb⟩
    have S1 := Lib.hid (S0.out.next hb)
    clear c0 c1 hb
    go_wp2_with fail
    go_ret
    have e1 : k0 = 1 := by rw [HK.out, codeIr, if_neg (by rw [HV.out]; decide)]
    rw [e1]
    exact ⟨rfl, S1.out.b⟩
  | true =>
    have HV := Lib.hid hv
    clear hv
    have HC : Hid (codeIr x xs = codePs xs) := Lib.hid (by rw [codeIr_eq, if_pos HV.out])
    go_enter Tryd.func70, Tryd.ntmps70
    go_wp2_with fail
    refine (l07Iron_any x hx true HV.out _).mono ?_
    rintro o w1 ⟨rfl, hb⟩
    have H1 := Lib.hid (S0.out.next hb).b
    clear c0 c1 hb S0
    go_wp2_with fail
    go_loopw [5] (fun vi wr => ∃ k : Nat, k ≤ n ∧ vi = .int .i64 k ∧ (∀ i x, i < k → xs[i]? = some x → pieB x = true) ∧ Below w.heap.size w wr) (fun vi _ => n - (intOf vi).toNat)
    case atStart => exact ⟨0, by omega, rfl, fun i x hi => absurd hi (by omega), H1.out⟩
    case round =>
      obtain ⟨k, hk, rfl, hval, hb⟩ := hrel
      by_cases hlt : k < n
      · obtain ⟨y, hy⟩ : ∃ y, xs[k]? = some y := ⟨xs[k]'(by have := En.out; omega), List.getElem?_eq_getElem _⟩
        obtain ⟨a, rfl, hab, hat⟩ := (hg.below hb).at_ k y hy
        obtain ⟨q0, q1, q2⟩ := pieS.at_ hat
        have hyf : y.Fits := hf y (List.mem_of_getElem? hy)
        have HY := Lib.hid hy
        clear hy hat
        cases hv : pieB y with
        | true =>
          have HV := Lib.hid hv
          clear hv
          go_wp2_with fail
          refine (l07Piece_any y hyf true HV.out _).mono ?_
          rintro o w2 ⟨rfl, hb2⟩
          have H2 := hb.trans (hb2.mono hb.size)
          clear q0 q1 q2 hb2
          go_wp2_with fail
          go_roundw
          case rel => exact ⟨k + 1, by omega, by go_num, fun i z hi hz => by
            rcases Nat.lt_or_ge i k with h1 | h1
            · exact hval i z h1 hz
            · obtain rfl : i = k := by omega
              have := HY.out
              rw [hz] at this
              rw [Option.some.inj this]
              exact HV.out, H2⟩
          case measure => simp [intOf]; omega
        | false =>
          have HV := Lib.hid hv
          clear hv
          go_wp2_with fail
          refine (l07Piece_any y hyf false HV.out _).mono ?_
          rintro o w2 ⟨rfl, hb2⟩
          have H2 := hb.trans (hb2.mono hb.size)
          clear q0 q1 q2 hb2
          go_wp2_with fail
          go_ret
          have e1 : k0 = 1 := by rw [HK.out, HC.out, codePs, if_neg (by rw [all_not HY.out HV.out]; decide)]
          rw [e1]
          exact ⟨rfl, H2⟩
      · have hall : xs.all pieB = true := all_of_idx fun i x hi hx => hval i x (by have := En.out; omega) hx
        have HA := Lib.hid hall
        clear hall
        by_cases h8 : 8 < n
        · have E1 : Hid (k0 = 3) := Lib.hid (by rw [HK.out, HC.out, codePs, if_pos HA.out, if_pos (by rw [← En.out]; exact h8)])
          go_wp2_with fail
          go_ret
          rw [E1.out]
          exact ⟨rfl, hb⟩
        · have E1 : Hid (k0 = 0) := Lib.hid (by rw [HK.out, HC.out, codePs, if_pos HA.out, if_neg (by rw [← En.out]; exact h8)])
          go_wp2_with fail
          go_ret
          rw [E1.out]
          exact ⟨rfl, hb⟩
end Go.Proofs.YtajhdgoinghmmaaDoor.iron

/-
  ChangeTime and TimeBound: the program's and the model's.
-/
namespace Go.Proofs.YtajhdgoinghmmaaDoor.iron
open Go Go.RowKit sl stk errs

def codeChg (x : Iro) (a b : Int) : Nat := if iroB x = true then (if 0 ≤ a ∧ a ≤ 3 then (if 0 ≤ b ∧ b ≤ 3 then 0 else 2) else 2) else 1
def chgR (x : Iro) (a b : Int) : Int × Nat := if codeChg x a b = 0 then (chg x a b, 0) else (0, codeChg x a b)
theorem codeChg_le (x : Iro) (a b : Int) : codeChg x a b ≤ 2 := by
  unfold codeChg
  split
  · split
    · split <;> omega
    · omega
  · omega
theorem codeChg_zero {x : Iro} {a b : Int} (h : codeChg x a b = 0) : iroB x = true ∧ (0 ≤ a ∧ a ≤ 3) ∧ (0 ≤ b ∧ b ≤ 3) := by
  unfold codeChg at h
  split at h
  · split at h
    · split at h
      · exact ⟨by assumption, by assumption, by assumption⟩
      · omega
    · omega
  · omega
theorem code3c (x : Iro) (a b : Int) (k0 k1 k2 : Nat) (h0 : k0 = if iroB x = true then 0 else 1) (h1 : k1 = if 0 ≤ a ∧ a ≤ 3 then 0 else 2) (h2 : k2 = if 0 ≤ b ∧ b ≤ 3 then 0 else 2) :
    firstCode [k0, k1, k2] = codeChg x a b := by
  subst h0 h1 h2
  unfold codeChg
  split
  · split
    · split <;> rfl
    · rfl
  · rfl
theorem cells_errs3 (e : Nat → Addr) (k0 k1 k2 : Nat) (u : World) (T : TypeId) : ∀ k x, [k0, k1, k2][k]? = some x → (u.alloc (.cells #[errOf e k0, errOf e k1, errOf e k2] T)).cell? ⟨u.heap.size, k, none⟩ = some (errOf e x) := by
  intro k x hx
  rw [cell_of_row _ _ k _ _ _ (heap_alloc_new u _)]
  match k, hx with
  | 0, h => rw [← (Option.some.inj h : k0 = x)]; rfl
  | 1, h => rw [← (Option.some.inj h : k1 = x)]; rfl
  | 2, h => rw [← (Option.some.inj h : k2 = x)]; rfl
  | _ + 3, h => simp at h
theorem cells_errs2 (e : Nat → Addr) (k0 k1 : Nat) (u : World) (T : TypeId) : ∀ k x, [k0, k1][k]? = some x → (u.alloc (.cells #[errOf e k0, errOf e k1] T)).cell? ⟨u.heap.size, k, none⟩ = some (errOf e x) := by
  intro k x hx
  rw [cell_of_row _ _ k _ _ _ (heap_alloc_new u _)]
  match k, hx with
  | 0, h => rw [← (Option.some.inj h : k0 = x)]; rfl
  | 1, h => rw [← (Option.some.inj h : k1 = x)]; rfl
  | _ + 2, h => simp at h
set_option maxRecDepth 100000 in
set_option maxHeartbeats 4000000 in
theorem ChangeTime_any (x : Iro) (hx : x.Fits) (a b r0 : Int) (r1 : Nat) (hr : chgR x a b = (r0, r1)) {w : World} {B : Nat} {e : Nat → Addr} (h : Errs w B e) (hB : B ≤ w.heap.size) :
    Calls Tryd.prog 19 #[x.v, .int .i64 a, .int .i64 b] w fun o w' => o = .returned (.tuple #[.int .i64 r0, .int .i64 r1]) ∧ Below w.heap.size w w' := by
  obtain ⟨k0, hk0⟩ : ∃ k : Nat, k = if iroB x = true then 0 else 1 := ⟨_, rfl⟩
  obtain ⟨k1, hk1⟩ : ∃ k : Nat, k = if 0 ≤ a ∧ a ≤ 3 then 0 else 2 := ⟨_, rfl⟩
  obtain ⟨k2, hk2⟩ : ∃ k : Nat, k = if 0 ≤ b ∧ b ≤ 3 then 0 else 2 := ⟨_, rfl⟩
  have HF := Lib.hid (code3c x a b k0 k1 k2 hk0 hk1 hk2)
  have HK0 := Lib.hid hk0
  have HK1 := Lib.hid hk1
  have HK2 := Lib.hid hk2
  have HR := Lib.hid hr
  have S0 := Lib.hid (HotS.new x w 27)
  have c0 := S0.out.c0
  have c1 := S0.out.c1
  clear hk0 hk1 hk2 hr
  go_enter Tryd.func19, Tryd.ntmps19
  go_wp2_with fail
  refine (checkIron_any x hx (h.below (S0.out.b.mono hB)) (Nat.le_trans hB S0.out.b.size) k0 HK0.out).mono ?_
  rintro o w1 ⟨rfl, hb1⟩
  have S1 := Lib.hid (S0.out.next hb1)
  have H1 := Lib.hid (h.below (S1.out.b.mono hB))
  clear c0 c1 hb1
  go_wp2_with fail
  refine (checkLevel_any a H1.out k1 HK1.out).mono ?_
  rintro o w2 ⟨rfl, rfl⟩
  go_wp2_with fail
  refine (checkLevel_any b H1.out k2 HK2.out).mono ?_
  rintro o w2 ⟨rfl, rfl⟩
  go_wp2_with (refine wpList_listed rfl 98 3 _ rfl #[(0, errOf e k0), (1, errOf e k1), (2, errOf e k2)] ?hp (buildSlice3 e k0 k1 k2 _) ?_; case hp => simp [Act.eval])
  refine (firstOf_any e [k0, k1, k2] _ 3 3 rfl (by decide) _ (cells_errs3 e k0 k1 k2 w1 55)).mono ?_
  rintro o w3 ⟨rfl, rfl⟩
  rw [HF.out]
  obtain ⟨w2, hw2⟩ : ∃ w2, w2 = w1.alloc (.cells #[errOf e k0, errOf e k1, errOf e k2] 55) := ⟨_, rfl⟩
  have S2 := Lib.hid (S1.out.next ((Below.refl _ _).alloc (Nat.le_refl _) (.cells #[errOf e k0, errOf e k1, errOf e k2] 55)))
  rw [← hw2] at S2 ⊢
  have H2 := Lib.hid (h.below (S2.out.b.mono hB))
  have c0 := S2.out.c0
  have c1 := S2.out.c1
  clear hw2
  cases hc : codeChg x a b with
  | zero =>
    have HC := Lib.hid hc
    clear hc
    obtain ⟨hv, ⟨a0, a1⟩, b0, b1⟩ := codeChg_zero HC.out
    have HV := Lib.hid hv
    have hr' : chg x a b = r0 ∧ 0 = r1 := by
      have := HR.out
      rw [chgR, if_pos HC.out] at this
      simpa using this
    have HZ := Lib.hid hr'.1
    obtain rfl := hr'.2
    clear hv hr'
    rw [show errOf e 0 = .nilIface from rfl]
    go_wp2_with fail
    refine (timeTo_any x HV.out a b a0 a1 b0 b1 _ HZ.out _).mono ?_
    rintro o w4 ⟨rfl, hb4⟩
    have S4 := Lib.hid (S2.out.next hb4)
    clear c0 c1 hb4
    go_wp2_with fail
    go_ret2
    exact ⟨rfl, S4.out.b⟩
  | succ i =>
    have HC := Lib.hid hc
    have hi : i + 1 ≤ 6 := by have := codeChg_le x a b; omega
    have hr' : 0 = r0 ∧ i + 1 = r1 := by
      have := HR.out
      rw [chgR, if_neg (by rw [hc]; omega), hc] at this
      simpa using this
    obtain ⟨rfl, rfl⟩ := hr'
    clear hc
    rw [show errOf e (i + 1) = errV (e i) from rfl]
    have HQ := Lib.hid (codeOf_any H2.out (i + 1) (by omega))
    rw [show errOf e (i + 1) = errV (e i) from rfl] at HQ
    go_wp2_with fail
    refine HQ.out.mono ?_
    rintro o w4 ⟨rfl, rfl⟩
    go_wp2_with fail
    go_ret2
    exact ⟨rfl, S2.out.b⟩
set_option maxHeartbeats 4000000 in
theorem ChangeTime_spec (x : Iro) (hx : x.Fits) (a b r0 : Int) (r1 : Nat) (hr : chgR x a b = (r0, r1)) (w : World) :
    Calls Tryd.prog 17 #[x.v, .int .i64 a, .int .i64 b] w fun o w' => o = .returned (.tuple #[.int .i64 r0, .int .i64 r1]) ∧ Below w.heap.size w w' := by
  have HR := Lib.hid hr
  have S0 := Lib.hid (HotS.new x w 27)
  have c0 := S0.out.c0
  have c1 := S0.out.c1
  clear hr
  cases hv : iroB x with
  | false =>
    have HV := Lib.hid hv
    clear hv
    have E : Hid (codeChg x a b = 1) := Lib.hid (by rw [codeChg, if_neg (by rw [HV.out]; decide)])
    have hr' : 0 = r0 ∧ 1 = r1 := by
      have := HR.out
      rw [chgR, if_neg (by rw [E.out]; omega), E.out] at this
      simpa using this
    obtain ⟨rfl, rfl⟩ := hr'
    go_enter Tryd.func17, Tryd.ntmps17
    go_wp2_with fail
    refine (l07Iron_any x hx false HV.out _).mono ?_
    rintro o w1 ⟨rfl, hb⟩
    have S1 := Lib.hid (S0.out.next hb)
    clear c0 c1 hb
    go_wp2_with fail
    go_ret2
    exact ⟨rfl, S1.out.b⟩
  | true =>
    have HV := Lib.hid hv
    clear hv
    cases h0 : inB a 0 3 with
    | true =>
      have H0 := Lib.hid h0
      clear h0
      cases h1 : inB b 0 3 with
      | true =>
        have H1 := Lib.hid h1
        clear h1
        have E : Hid (codeChg x a b = 0) := Lib.hid (by rw [codeChg, if_pos HV.out, if_pos ((inB_iff _ _ _).1 H0.out), if_pos ((inB_iff _ _ _).1 H1.out)])
        have hr' : chg x a b = r0 ∧ 0 = r1 := by
          have := HR.out
          rw [chgR, if_pos E.out] at this
          simpa using this
        have HZ := Lib.hid hr'.1
        obtain rfl := hr'.2
        obtain ⟨a0, a1⟩ := (inB_iff _ _ _).1 H0.out
        obtain ⟨b0, b1⟩ := (inB_iff _ _ _).1 H1.out
        clear hr'
        go_enter Tryd.func17, Tryd.ntmps17
        go_wp2_with fail
        refine (l07Iron_any x hx true HV.out _).mono ?_
        rintro o w1 ⟨rfl, hb⟩
        have S1 := Lib.hid (S0.out.next hb)
        clear c0 c1 hb
        have c0 := S1.out.c0
        have c1 := S1.out.c1
        go_wp2_with fail
        refine (l00In_b _ _ _ true H0.out _).mono ?_
        rintro o w2 ⟨rfl, rfl⟩
        go_wp2_with fail
        refine (l00In_b _ _ _ true H1.out _).mono ?_
        rintro o w2 ⟨rfl, rfl⟩
        go_wp2_with fail
        refine (l07Change_any x HV.out a b a0 a1 b0 b1 _ HZ.out _).mono ?_
        rintro o w2 ⟨rfl, hb⟩
        have S2 := Lib.hid (S1.out.next hb)
        clear c0 c1 hb
        go_wp2_with fail
        go_ret2
        exact ⟨rfl, S2.out.b⟩
      | false =>
        have H1 := Lib.hid h1
        have hno : ¬ (0 ≤ b ∧ b ≤ 3) := fun hh => by rw [(inB_iff _ _ _).2 hh] at h1; cases h1
        have E : Hid (codeChg x a b = 2) := Lib.hid (by rw [codeChg, if_pos HV.out, if_pos ((inB_iff _ _ _).1 H0.out), if_neg hno])
        clear h1 hno
        have hr' : 0 = r0 ∧ 2 = r1 := by
          have := HR.out
          rw [chgR, if_neg (by rw [E.out]; omega), E.out] at this
          simpa using this
        obtain ⟨rfl, rfl⟩ := hr'
        go_enter Tryd.func17, Tryd.ntmps17
        go_wp2_with fail
        refine (l07Iron_any x hx true HV.out _).mono ?_
        rintro o w1 ⟨rfl, hb⟩
        have S1 := Lib.hid (S0.out.next hb)
        clear c0 c1 hb
        go_wp2_with fail
        refine (l00In_b _ _ _ true H0.out _).mono ?_
        rintro o w2 ⟨rfl, rfl⟩
        go_wp2_with fail
        refine (l00In_b _ _ _ false H1.out _).mono ?_
        rintro o w2 ⟨rfl, rfl⟩
        go_wp2_with fail
        go_ret2
        exact ⟨rfl, S1.out.b⟩
    | false =>
      have H0 := Lib.hid h0
      have hno : ¬ (0 ≤ a ∧ a ≤ 3) := fun hh => by rw [(inB_iff _ _ _).2 hh] at h0; cases h0
      have E : Hid (codeChg x a b = 2) := Lib.hid (by rw [codeChg, if_pos HV.out, if_neg hno])
      clear h0 hno
      have hr' : 0 = r0 ∧ 2 = r1 := by
        have := HR.out
        rw [chgR, if_neg (by rw [E.out]; omega), E.out] at this
        simpa using this
      obtain ⟨rfl, rfl⟩ := hr'
      go_enter Tryd.func17, Tryd.ntmps17
      go_wp2_with fail
      refine (l07Iron_any x hx true HV.out _).mono ?_
      rintro o w1 ⟨rfl, hb⟩
      have S1 := Lib.hid (S0.out.next hb)
      clear c0 c1 hb
      go_wp2_with fail
      refine (l00In_b _ _ _ false H0.out _).mono ?_
      rintro o w2 ⟨rfl, rfl⟩
      go_wp2_with fail
      go_ret2
      exact ⟨rfl, S1.out.b⟩
end Go.Proofs.YtajhdgoinghmmaaDoor.iron
