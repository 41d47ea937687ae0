/-
  Contracts of the functions on one cloth, one line, or the validity of a list of cloths.
-/
import Derived.Test.YtbpipcfijbgnhaaDoorHangPure
namespace Go.Proofs.YtbpipcfijbgnhaaDoor.hang
open Go.RowKit sl

/-- is a number between two -/
def inB (n lo hi : Int) : Bool := decide (lo ≤ n) && decide (n ≤ hi)
theorem inB_iff {n lo hi : Int} : inB n lo hi = true ↔ lo ≤ n ∧ n ≤ hi := by simp [inB]
theorem clo_in (x : Clo) : Clo.valid x = (inB x.wide 4 200 && inB x.heavy 1 500) := by simp [Clo.valid, inB, Bool.and_assoc]
theorem lin_in (x : Lin) : Lin.valid x = (inB x.long 4 2000 && inB x.most 1 2000) := by simp [Lin.valid, inB, Bool.and_assoc]

theorem l00In_any (n lo hi : Int) (w : World) :
    Calls Tryd.prog 78 #[.int .i64 n, .int .i64 lo, .int .i64 hi] w fun o w' => o = .returned (.bool (inB n lo hi)) ∧ w = w' := by
  go_enter Tryd.func78, Tryd.ntmps78
  go_wp2_with fail
  all_goals go_ret
  all_goals exact ⟨ret_bool (by first | (simp [inB, *]; done) | (simp [inB]; omega)), rfl⟩
theorem l00In_b (n lo hi : Int) (b : Bool) (hb : inB n lo hi = b) (w : World) :
    Calls Tryd.prog 78 #[.int .i64 n, .int .i64 lo, .int .i64 hi] w fun o w' => o = .returned (.bool b) ∧ w = w' := by
  subst hb
  exact l00In_any n lo hi w

set_option maxHeartbeats 1000000 in
theorem share_any (a b : Clo) (ha : a.Fits) (hb : b.Fits) (w : World) :
    Calls Tryd.prog 51 #[a.v, b.v] w fun o w' => o = .returned (.bool (shares a b)) ∧ Below w.heap.size w w' := by
  obtain ⟨p, q⟩ := a
  obtain ⟨r, s⟩ := b
  obtain ⟨a0, a1, a2, a3⟩ := ha
  obtain ⟨b0, b1, b2, b3⟩ := hb
  simp only at a0 a1 a2 a3 b0 b1 b2 b3
  go_enter Tryd.func51, Tryd.ntmps51
  go_wp2_with fail
  go_ret
  exact ⟨rfl, by repeat (first | exact Below.refl _ _ | assumption | apply Below.drew | (refine Below.alloc ?_ (by first | (simp; done) | (simp; omega) | omega) _) | (refine Below.setCell ?_ (by first | (simp; done) | (simp; omega) | omega) _))⟩
set_option maxHeartbeats 1000000 in
theorem l02Share_any (a b : Clo) (ha : a.Fits) (hb : b.Fits) (w : World) :
    Calls Tryd.prog 48 #[a.v, b.v] w fun o w' => o = .returned (.bool (shares a b)) ∧ Below w.heap.size w w' := by
  obtain ⟨p, q⟩ := a
  obtain ⟨r, s⟩ := b
  obtain ⟨a0, a1, a2, a3⟩ := ha
  obtain ⟨b0, b1, b2, b3⟩ := hb
  simp only at a0 a1 a2 a3 b0 b1 b2 b3
  go_enter Tryd.func48, Tryd.ntmps48
  go_wp2_with fail
  go_ret
  exact ⟨rfl, by repeat (first | exact Below.refl _ _ | assumption | apply Below.drew | (refine Below.alloc ?_ (by first | (simp; done) | (simp; omega) | omega) _) | (refine Below.setCell ?_ (by first | (simp; done) | (simp; omega) | omega) _))⟩
set_option maxHeartbeats 1000000 in
theorem valid_any (x : Clo) (hx : x.Fits) (w : World) :
    Calls Tryd.prog 88 #[x.v] w fun e w' => e = .returned (.bool (Clo.valid x)) ∧ Below w.heap.size w w' := by
  obtain ⟨p, q⟩ := x
  obtain ⟨a0, a1, a2, a3⟩ := hx
  simp only at a0 a1 a2 a3
  go_enter Tryd.func88, Tryd.ntmps88
  go_wp2
  all_goals go_ret
  all_goals refine ⟨ret_bool (by first | (simp [Clo.valid, *]; done) | (simp [Clo.valid]; omega)), ?_⟩
  all_goals repeat (first | exact Below.refl _ _ | assumption | apply Below.drew | (refine Below.alloc ?_ (by first | (simp; done) | (simp; omega) | omega) _) | (refine Below.setCell ?_ (by first | (simp; done) | (simp; omega) | omega) _))
set_option maxHeartbeats 1000000 in
theorem ValidLine_any (x : Lin) (hx : x.Fits) (w : World) :
    Calls Tryd.prog 84 #[x.v] w fun e w' => e = .returned (.bool (Lin.valid x)) ∧ Below w.heap.size w w' := by
  obtain ⟨p, q⟩ := x
  obtain ⟨a0, a1, a2, a3⟩ := hx
  simp only at a0 a1 a2 a3
  go_enter Tryd.func84, Tryd.ntmps84
  go_wp2
  all_goals go_ret
  all_goals refine ⟨ret_bool (by first | (simp [Lin.valid, *]; done) | (simp [Lin.valid]; omega)), ?_⟩
  all_goals repeat (first | exact Below.refl _ _ | assumption | apply Below.drew | (refine Below.alloc ?_ (by first | (simp; done) | (simp; omega) | omega) _) | (refine Below.setCell ?_ (by first | (simp; done) | (simp; omega) | omega) _))
set_option maxHeartbeats 1000000 in
theorem l02Line_any (x : Lin) (hx : x.Fits) (w : World) :
    Calls Tryd.prog 79 #[x.v] w fun e w' => e = .returned (.bool (Lin.valid x)) ∧ Below w.heap.size w w' := by
  rw [lin_in]
  obtain ⟨p, q⟩ := x
  obtain ⟨a0, a1, a2, a3⟩ := hx
  simp only at a0 a1 a2 a3
  have HB := Lib.hid ((Below.refl w.heap.size w).alloc (Nat.le_refl _) (.cells #[.int .i16 p, .int .i16 q] 47))
  cases h1 : inB p 4 2000 with
  | true =>
    have H1 := Lib.hid h1
    clear h1
    go_enter Tryd.func79, Tryd.ntmps79
    go_wp2_with fail
    refine (l00In_b _ _ _ true H1.out _).mono ?_
    rintro o w1 ⟨rfl, rfl⟩
    go_wp2_with fail
    refine (l00In_any _ _ _ _).mono ?_
    rintro o w1 ⟨rfl, rfl⟩
    go_wp2_with fail
    go_ret
    exact ⟨ret_bool (by simp [inB]), HB.out⟩
  | false =>
    have H1 := Lib.hid h1
    clear h1
    go_enter Tryd.func79, Tryd.ntmps79
    go_wp2_with fail
    refine (l00In_b _ _ _ false H1.out _).mono ?_
    rintro o w1 ⟨rfl, rfl⟩
    go_wp2_with fail
    go_ret
    exact ⟨rfl, HB.out⟩
set_option maxHeartbeats 2000000 in
theorem ValidCloths_any (A : Option Addr) (n c : Nat) (xs : List Clo) (en : n = xs.length) (hn : n ≤ 9223372036854775807) (hf : ∀ x ∈ xs, x.Fits) (w : World) (hg : Sl Clo.cells 2 w w.heap.size A xs) :
    Calls Tryd.prog 81 #[.slice A n c] w fun e w' => e = .returned (.bool (xs.all Clo.valid)) ∧ Below w.heap.size w w' := by
  have En := Lib.hid en
  clear en
  go_enter Tryd.func81, Tryd.ntmps81
  go_wp2_with fail
  go_loopw [7, 4] (fun vi _ wr => ∃ k : Nat, k ≤ n ∧ vi = .int .i64 k ∧ (∀ i x, i < k → xs[i]? = some x → Clo.valid x = true) ∧ Below w.heap.size w wr) (fun vi _ _ => n - (intOf vi).toNat)
  case atStart => exact ⟨0, by omega, rfl, fun i x hi => absurd hi (by omega), Below.refl _ _⟩
  case round =>
    obtain ⟨k, hk, rfl, hval, hB⟩ := hrel
    by_cases hlt : k < n
    · obtain ⟨x, hx⟩ : ∃ x, xs[k]? = some x := ⟨xs[k]'(by have := En.out; omega), List.getElem?_eq_getElem _⟩
      obtain ⟨a, rfl, hab, hat⟩ := (hg.below hB).at_ k x hx
      obtain ⟨q0, q1⟩ := cloS.at_ hat
      have hxf : x.Fits := hf x (List.mem_of_getElem? hx)
      have HX := Lib.hid hx
      clear hx hat
      cases hv : Clo.valid x with
      | true =>
        have HV := Lib.hid hv
        clear hv
        go_wp2_with fail
        refine (valid_any x hxf _).mono ?_
        rintro o w2 ⟨rfl, hb2⟩
        rw [HV.out]
        have H2 := (hB.alloc hB.size _).trans (hb2.mono (by have := hB.size; simp; omega))
        clear q0 q1 hb2
        go_wp2_with fail
        go_roundw
        case rel => exact ⟨k + 1, by omega, by go_num, fun i y hi hy => by
          rcases Nat.lt_or_ge i k with h1 | h1
          · exact hval i y h1 hy
          · obtain rfl : i = k := by omega
            have := HX.out
            rw [hy] at this
            rw [Option.some.inj this]
            exact HV.out, H2⟩
        case measure => simp [intOf]; omega
      | false =>
        have HV := Lib.hid hv
        clear hv
        go_wp2_with fail
        refine (valid_any x hxf _).mono ?_
        rintro o w2 ⟨rfl, hb2⟩
        rw [HV.out]
        have H2 := (hB.alloc hB.size _).trans (hb2.mono (by have := hB.size; simp; omega))
        clear q0 q1 hb2
        go_wp2_with fail
        go_ret
        exact ⟨ret_bool (all_not HX.out HV.out).symm, H2⟩
    · go_wp2_with fail
      go_ret
      exact ⟨ret_bool (all_of_idx fun i x hi hx => hval i x (by have := En.out; omega) hx).symm, hB⟩
set_option maxHeartbeats 2000000 in
theorem l02Cloths_any (A : Option Addr) (n c : Nat) (xs : List Clo) (en : n = xs.length) (hn : n ≤ 9223372036854775807) (hf : ∀ x ∈ xs, x.Fits) (w : World) (B : Nat) (hg : Sl Clo.cells 2 w B A xs) :
    Calls Tryd.prog 47 #[.slice A n c] w fun e w' => e = .returned (.bool (xs.all Clo.valid)) ∧ w = w' := by
  have En := Lib.hid en
  clear en
  go_enter Tryd.func47, Tryd.ntmps47
  go_wp2_with fail
  go_loop [3] (fun vi => ∃ k : Nat, k ≤ n ∧ vi = .int .i64 k ∧ (∀ i x, i < k → xs[i]? = some x → Clo.valid x = true)) (fun vi => n - (intOf vi).toNat)
  case atStart => exact ⟨0, by omega, rfl, fun i x hi => absurd hi (by omega)⟩
  case round =>
    obtain ⟨k, hk, rfl, hval⟩ := hrel
    by_cases hlt : k < n
    · obtain ⟨x, hx⟩ : ∃ x, xs[k]? = some x := ⟨xs[k]'(by have := En.out; omega), List.getElem?_eq_getElem _⟩
      obtain ⟨a, rfl, hab, hat⟩ := hg.at_ k x hx
      obtain ⟨q0, q1⟩ := cloS.at_ hat
      obtain ⟨x0, x1, x2, x3⟩ := hf x (List.mem_of_getElem? hx)
      have HX := Lib.hid hx
      clear hx hat
      cases h1 : inB x.wide 4 200 with
      | true =>
        have H1 := Lib.hid h1
        clear h1
        cases h2 : inB x.heavy 1 500 with
        | true =>
          have H2 := Lib.hid h2
          clear h2
          go_wp2_with fail
          refine (l00In_b _ _ _ true H1.out _).mono ?_
          rintro o w2 ⟨rfl, rfl⟩
          go_wp2_with fail
          refine (l00In_b _ _ _ true H2.out _).mono ?_
          rintro o w2 ⟨rfl, rfl⟩
          go_wp2_with fail
          go_round
          case rel => exact ⟨k + 1, by omega, by go_num, fun i y hi hy => by
            rcases Nat.lt_or_ge i k with h1 | h1
            · exact hval i y h1 hy
            · obtain rfl : i = k := by omega
              have := HX.out
              rw [hy] at this
              rw [Option.some.inj this, clo_in, H1.out, H2.out]
              rfl⟩
          case measure => simp [intOf]; omega
        | false =>
          have H2 := Lib.hid h2
          clear h2
          go_wp2_with fail
          refine (l00In_b _ _ _ true H1.out _).mono ?_
          rintro o w2 ⟨rfl, rfl⟩
          go_wp2_with fail
          refine (l00In_b _ _ _ false H2.out _).mono ?_
          rintro o w2 ⟨rfl, rfl⟩
          go_wp2_with fail
          go_ret
          exact ⟨ret_bool (all_not HX.out (by rw [clo_in, H1.out, H2.out]; rfl)).symm, rfl⟩
      | false =>
        have H1 := Lib.hid h1
        clear h1
        go_wp2_with fail
        refine (l00In_b _ _ _ false H1.out _).mono ?_
        rintro o w2 ⟨rfl, rfl⟩
        go_wp2_with fail
        go_ret
        exact ⟨ret_bool (all_not HX.out (by rw [clo_in, H1.out]; rfl)).symm, rfl⟩
    · go_wp2_with fail
      go_ret
      exact ⟨ret_bool (all_of_idx fun i x hi hx => hval i x (by have := En.out; omega) hx).symm, rfl⟩
end Go.Proofs.YtbpipcfijbgnhaaDoor.hang
