/-
  Marks: the functions of the program and of the model that only reckon with numbers.
-/
import Derived.Test.YtlembainfhnnbaaDoorRows
import Derived.Test.YtlembainfhnnbaaDoorWords
import Derived.Test.YtlembainfhnnbaaDoorJoin2
import Derived.Test.YtlembainfhnnbaaDoorInB
import Derived.WalkKit
import Derived.Lib.Hide
import Derived.Deep.QuietTactic
import Derived.BigQuiet
import Derived.Lib.BitFns
namespace Go.Proofs.YtlembainfhnnbaaDoor.mks
open Go Go.RowKit stk

def okB (s : Int) (m : Nat) : Bool := inB s 1 12 && decide (m < 2 ^ s.toNat)

theorem shr_zero (m k : Nat) : (((m : Int) / 2 ^ k) == 0) = decide (m < 2 ^ k) := by
  have e : ((m : Int) / 2 ^ k) = ((m / 2 ^ k : Nat) : Int) := by simp
  rw [e, Bool.eq_iff_iff]
  simp only [beq_iff_eq, decide_eq_true_eq]
  have hp : 0 < 2 ^ k := Nat.two_pow_pos k
  constructor
  · intro h
    have h0 : m / 2 ^ k = 0 := by omega
    exact (Nat.div_eq_zero_iff_lt hp).1 h0
  · intro h
    rw [Nat.div_eq_of_lt h]; rfl

set_option maxHeartbeats 1000000 in
theorem ValidMark_any (s : Int) (m : Nat) (w : World) :
    Calls Tryd.prog 92 #[.int .i64 s, .int .u16 m] w fun o w' => o = .returned (.bool (okB s m)) ∧ w = w' := by
  by_cases h1 : 1 ≤ s
  · by_cases h2 : s ≤ 12
    · obtain ⟨k, rfl⟩ := Int.eq_ofNat_of_zero_le (show 0 ≤ s by omega)
      have hz := Lib.hid (shr_zero m k)
      have hB : Hid (okB (k : Int) m = decide (m < 2 ^ k)) := Lib.hid (by simp [okB, inB, h1, h2])
      go_enter Tryd.func92, Tryd.ntmps92
      go_wp2_with fail
      go_ret
      exact ⟨ret_bool (by rw [hB.out]; exact hz.out), rfl⟩
    · have hB : Hid (okB s m = false) := Lib.hid (by simp [okB, inB, h2])
      go_enter Tryd.func92, Tryd.ntmps92
      go_wp2_with fail
      go_ret
      exact ⟨ret_bool hB.out.symm, rfl⟩
  · have hB : Hid (okB s m = false) := Lib.hid (by simp [okB, inB, h1])
    go_enter Tryd.func92, Tryd.ntmps92
    go_wp2_with fail
    go_ret
    exact ⟨ret_bool hB.out.symm, rfl⟩
theorem l06Many_any (s : Int) (w : World) :
    Calls Tryd.prog 63 #[.int .i64 s] w fun o w' => o = .returned (.bool (inB s 1 12)) ∧ w = w' := by
  go_enter Tryd.func63, Tryd.ntmps63
  go_wp2_with fail
  refine (l00In_any _ _ _ _).mono ?_
  rintro o w1 ⟨rfl, rfl⟩
  go_wp2_with fail
  go_ret
  exact ⟨rfl, rfl⟩
set_option maxHeartbeats 1000000 in
theorem l06Ok_any (s : Int) (m : Nat) (w : World) :
    Calls Tryd.prog 50 #[.int .i64 s, .int .u16 m] w fun o w' => o = .returned (.bool (okB s m)) ∧ w = w' := by
  have hmany : ∀ b, inB s 1 12 = b → ∀ u, Calls Tryd.prog 63 #[.int .i64 s] u fun o w' => o = .returned (.bool b) ∧ u = w' := fun b hb u => by
    rw [← hb]; exact l06Many_any s u
  cases hb : inB s 1 12 with
  | true =>
    have h12 := (inB_iff _ _ _).1 hb
    obtain ⟨k, rfl⟩ := Int.eq_ofNat_of_zero_le (show 0 ≤ s by omega)
    have hz := Lib.hid (shr_zero m k)
    have HM := Lib.hid (hmany _ hb)
    have hB : Hid (okB (k : Int) m = decide (m < 2 ^ k)) := Lib.hid (by simp [okB, hb])
    obtain ⟨h1, h2⟩ := h12
    clear hb hmany
    go_enter Tryd.func50, Tryd.ntmps50
    go_wp2_with (go_at_call 63; refine (HM.out _).mono ?_; rintro o w1 ⟨rfl, rfl⟩)
    go_ret
    exact ⟨ret_bool (by rw [hB.out]; exact hz.out), rfl⟩
  | false =>
    have HM := Lib.hid (hmany _ hb)
    have hB : Hid (okB s m = false) := Lib.hid (by simp [okB, hb])
    clear hb hmany
    go_enter Tryd.func50, Tryd.ntmps50
    go_wp2_with (go_at_call 63; refine (HM.out _).mono ?_; rintro o w1 ⟨rfl, rfl⟩)
    go_ret
    exact ⟨ret_bool hB.out.symm, rfl⟩
/-- one more -/
theorem shr_in {m : Nat} (hm : m < 65536) (k : Nat) : (0 : Int) ≤ (m : Int) / 2 ^ k ∧ (m : Int) / 2 ^ k ≤ 65535 := by
  have e : ((m : Int) / 2 ^ k) = ((m / 2 ^ k : Nat) : Int) := by simp
  have : m / 2 ^ k ≤ m := Nat.div_le_self _ _
  rw [e]
  generalize m / 2 ^ k = q at *
  omega
theorem count_step (m k : Nat) : (cntTo m k : Int) + ((m : Int) / 2 ^ k) % 2 = ((cntTo m (k + 1) : Nat) : Int) := by
  rw [cntTo_succ]
  have e : ((m : Int) / 2 ^ k) % 2 = ((m / 2 ^ k % 2 : Nat) : Int) := by simp
  rw [e, div_mod]
  split <;> simp
set_option maxHeartbeats 1000000 in
theorem l06Count_any (m : Nat) (hm : m < 65536) (w : World) :
    Calls Tryd.prog 76 #[.int .u16 m] w fun o w' => o = .returned (.int .i64 (cnt m)) ∧ w = w' := by
  go_enter Tryd.func76, Tryd.ntmps76
  go_wp2_with fail
  go_loop [3, 4] (fun vn vk => ∃ k : Nat, k ≤ 16 ∧ vk = .int .i64 k ∧ vn = .int .i64 (cntTo m k)) (fun _ vk => 16 - (intOf vk).toNat)
  case atStart => exact ⟨0, by omega, rfl, rfl⟩
  case round =>
    obtain ⟨k, hk, rfl, rfl⟩ := hrel
    by_cases hlt : k < 16
    · have HS := Lib.hid (count_step m k)
      have hc := cntTo_le m k
      obtain ⟨q0, q1⟩ := shr_in hm k
      go_wp2_with fail
      go_round
      case rel => exact ⟨k + 1, by omega, by go_num, by rw [← HS.out]⟩
      case measure => simp [intOf]; omega
    · obtain rfl : k = 16 := by omega
      go_wp2_with fail
      go_ret
      exact ⟨rfl, rfl⟩
theorem pop_cnt : ∀ n : Fin 256, Lib.pop8 (n.val : Int) = (cntTo n.val 8 : Int) := by decide +kernel
theorem pop8_cnt (n : Nat) (h : n < 256) : Lib.pop8 (n : Int) = (cntTo n 8 : Int) := pop_cnt ⟨n, h⟩
theorem cntTo_mod (m k : Nat) (hk : k ≤ 8) : cntTo (m % 256) k = cntTo m k := by
  induction k with
  | zero => rfl
  | succ k ih =>
    rw [cntTo_succ, cntTo_succ, ih (by omega)]
    have e : (m % 256).testBit k = m.testBit k := by
      rw [show 256 = 2 ^ 8 from rfl, Nat.testBit_mod_two_pow]
      simp; omega
    rw [e]
theorem cntTo_div (m k : Nat) : cntTo m 8 + cntTo (m / 256) k = cntTo m (8 + k) := by
  induction k with
  | zero => rfl
  | succ k ih =>
    rw [cntTo_succ (m / 256), show 8 + (k + 1) = (8 + k) + 1 from rfl, cntTo_succ m (8 + k), ← ih]
    have e : (m / 256).testBit k = m.testBit (8 + k) := by
      rw [show 256 = 2 ^ 8 from rfl, Nat.testBit_div_two_pow]
      congr 1
      omega
    rw [e]
    omega
theorem pop_both (m : Nat) (hm : m < 65536) : Lib.pop8 ((m : Int) / 256) + Lib.pop8 ((m : Int) % 256) = (cnt m : Int) := by
  have e1 : ((m : Int) / 256) = ((m / 256 : Nat) : Int) := by simp
  have e2 : ((m : Int) % 256) = ((m % 256 : Nat) : Int) := by simp
  rw [e1, e2, pop8_cnt _ (by omega), pop8_cnt _ (by omega), cntTo_mod _ _ (by omega)]
  have : cntTo m 8 + cntTo (m / 256) 8 = cnt m := cntTo_div m 8
  omega
set_option maxHeartbeats 1000000 in
theorem OnesCount16_any (m : Nat) (hm : m < 65536) (w : World) :
    Calls Tryd.prog 89 #[.int .u16 m] w fun o w' => o = .returned (.int .i64 (cnt m)) ∧ ∃ n, w' = w.drewN n := by
  have H := Lib.hid (pop_both m hm)
  have h255 : bits .and .u16 (m : Int) 255 = (m : Int) % 256 := bits_mask .u16 16 (by decide) (fun n h0 h1 => by simp [IntKind.wrap, IntKind.bits, IntKind.signed]; omega) 8 (by decide) (m : Int) (by omega) (by omega)
  have i0 : (0 : Int) ≤ (m : Int) / 256 := by omega
  have i1 : (m : Int) / 256 ≤ 255 := by omega
  have j0 : (0 : Int) ≤ (m : Int) % 256 := by omega
  have j1 : (m : Int) % 256 ≤ 255 := by omega
  have x1 := fun wx => Lib.run_index_pop8tab (P := Tryd.prog) (w := wx) 9 .u16 ((m : Int) / 256) Tryd.underlying9 i0 i1
  have x2 := fun wx => Lib.run_index_pop8tab (P := Tryd.prog) (w := wx) 9 .u16 ((m : Int) % 256) Tryd.underlying9 j0 j1
  go_enter Tryd.func89, Tryd.ntmps89
  go_wp2_with fail
  simp only [List.append_eq, List.cons_append, List.nil_append, Lib.fold_pop8tab]
  go_quiet (fail)
  go_wp2_with fail
  go_ret
  have hc := cnt_le m
  exact ⟨ret_int (by rw [H.out]; omega), _, rfl⟩
set_option maxHeartbeats 1000000 in
theorem StitchesIn_any (m : Nat) (hm : m < 65536) (w : World) :
    Calls Tryd.prog 77 #[.int .u16 m] w fun o w' => o = .returned (.int .i64 (cnt m)) ∧ ∃ n, w' = w.drewN n := by
  go_enter Tryd.func77, Tryd.ntmps77
  go_wp2_with fail
  refine (OnesCount16_any m hm _).mono ?_
  rintro o w1 ⟨rfl, n, rfl⟩
  go_wp2_with fail
  go_ret
  exact ⟨rfl, _, rfl⟩
set_option maxHeartbeats 1000000 in
theorem lacks_any (m o : Nat) (hm : m < 65536) (ho : o < 65536) (w : World) :
    Calls Tryd.prog 78 #[.int .u16 m, .int .u16 o] w fun r w' => r = .returned (.int .i64 (cnt (dif o m))) ∧ ∃ n, w' = w.drewN n := by
  have e := bits_dif ho hm
  go_enter Tryd.func78, Tryd.ntmps78
  go_wp2_with fail
  refine (StitchesIn_any (dif o m) (dif_lt ho m) _).mono ?_
  rintro o w1 ⟨rfl, n, rfl⟩
  go_wp2_with fail
  go_ret
  exact ⟨rfl, _, rfl⟩
set_option maxHeartbeats 1000000 in
theorem clashes_any (m o : Nat) (hm : m < 65536) (ho : o < 65536) (w : World) :
    Calls Tryd.prog 69 #[.int .u16 m, .int .u16 o] w fun r w' => r = .returned (.bool (clash m o)) ∧ ∃ n, w' = w.drewN n := by
  by_cases h1 : cnt (dif o m) ≤ 1
  · have h1' : decide ((cnt (dif o m) : Int) ≤ 1) = true := by simp; omega
    have hB : Hid (clash m o = decide ((cnt (dif m o) : Int) ≤ 1)) := Lib.hid (by unfold clash; rw [Bool.eq_iff_iff]; simp [h1]; omega)
    go_enter Tryd.func69, Tryd.ntmps69
    go_wp2_with fail
    refine (lacks_any m o hm ho _).mono ?_
    rintro o1 w1 ⟨rfl, n, rfl⟩
    go_wp2_with fail
    refine (lacks_any o m ho hm _).mono ?_
    rintro o1 w1 ⟨rfl, n, rfl⟩
    go_wp2_with fail
    go_ret
    exact ⟨ret_bool hB.out.symm, _, rfl⟩
  · have h1' : decide ((cnt (dif o m) : Int) ≤ 1) = false := by simp; omega
    have hB : Hid (clash m o = false) := Lib.hid (by unfold clash; simp [h1])
    go_enter Tryd.func69, Tryd.ntmps69
    go_wp2_with fail
    refine (lacks_any m o hm ho _).mono ?_
    rintro o1 w1 ⟨rfl, n, rfl⟩
    go_wp2_with fail
    go_ret
    exact ⟨ret_bool hB.out.symm, _, rfl⟩
theorem shr_and (m k : Nat) (hm : m < 65536) : bits .and .u16 ((m : Int) / 2 ^ k) 1 = if m.testBit k = true then 1 else 0 := by
  have e : ((m : Int) / 2 ^ k) = ((m / 2 ^ k : Nat) : Int) := by simp
  have hle : m / 2 ^ k ≤ m := Nat.div_le_self _ _
  rw [e]
  refine (bits_and (a := m / 2 ^ k) (b := 1) (by omega) (by decide)).trans ?_
  rw [Nat.and_one_is_mod, div_mod]
  split <;> rfl
set_option maxHeartbeats 1000000 in
theorem has_any (m k : Nat) (hm : m < 65536) (hk : k < 16) (w : World) :
    Calls Tryd.prog 73 #[.int .u16 m, .int .i64 ((k : Int) + 1)] w fun r w' => r = .returned (.bool (m.testBit k)) ∧ w = w' := by
  have e := shr_and m k hm
  have e2 : (k : Int) + 1 - 1 = k := by omega
  cases h : m.testBit k with
  | true =>
    rw [if_pos h] at e
    clear h
    go_enter Tryd.func73, Tryd.ntmps73
    go_wp2_with fail
    go_ret
    exact ⟨rfl, rfl⟩
  | false =>
    rw [if_neg (by rw [h]; simp)] at e
    clear h
    go_enter Tryd.func73, Tryd.ntmps73
    go_wp2_with fail
    go_ret
    exact ⟨rfl, rfl⟩
/-- the numbers of the stitches below k, summed -/
def sumTo (m : Nat) : Nat → Nat
  | 0 => 0
  | k + 1 => sumTo m k + if m.testBit k = true then k + 1 else 0
theorem sumTo_le (m k : Nat) : sumTo m k ≤ k * (k + 1) := by
  induction k with
  | zero => exact Nat.le_refl _
  | succ k ih =>
    unfold sumTo
    have e : (k + 1) * (k + 1 + 1) = k * (k + 1) + 2 * (k + 1) := by
      rw [← Nat.add_mul]
      rw [Nat.mul_comm]
    rw [e]
    split <;> omega
def classOf (s m : Nat) : Nat := sumTo m s % (s + 1)
set_option maxHeartbeats 2000000 in
theorem class_any (m s : Nat) (hm : m < 65536) (hs : s ≤ 12) (w : World) :
    Calls Tryd.prog 71 #[.int .u16 m, .int .i64 s] w fun r w' => r = .returned (.int .i64 (classOf s m)) ∧ w = w' := by
  go_enter Tryd.func71, Tryd.ntmps71
  go_wp2_with fail
  go_loop [5, 6] (fun vs vk => ∃ k : Nat, k ≤ s ∧ vk = .int .i64 ((k : Int) + 1) ∧ vs = .int .i64 (sumTo m k)) (fun _ vk => s + 1 - (intOf vk).toNat)
  case atStart => exact ⟨0, by omega, rfl, rfl⟩
  case round =>
    obtain ⟨k, hk, rfl, rfl⟩ := hrel
    have hle : sumTo m k ≤ 12 * 13 := Nat.le_trans (sumTo_le m k) (Nat.mul_le_mul (by omega) (by omega))
    by_cases hlt : k < s
    · have hnx : Hid (sumTo m (k + 1) = sumTo m k + if m.testBit k = true then k + 1 else 0) := Lib.hid rfl
      have HH := Lib.hid (has_any m k hm (by omega))
      cases hb : m.testBit k with
      | true =>
        rw [hb] at HH hnx
        clear hb
        go_wp2_with fail
        refine (HH.out _).mono ?_
        rintro o w1 ⟨rfl, rfl⟩
        go_wp2_with fail
        go_round
        case rel => exact ⟨k + 1, by omega, by go_num, by rw [hnx.out]; simp⟩
        case measure => simp [intOf]; omega
      | false =>
        rw [hb] at HH hnx
        clear hb
        go_wp2_with fail
        refine (HH.out _).mono ?_
        rintro o w1 ⟨rfl, rfl⟩
        go_wp2_with fail
        go_round
        case rel => exact ⟨k + 1, by omega, by go_num, by rw [hnx.out]; simp⟩
        case measure => simp [intOf]; omega
    · obtain rfl : k = s := by omega
      go_wp2_with fail
      go_ret
      exact ⟨ret_int (by unfold classOf; simp), rfl⟩
theorem shr_mod (m k : Nat) : ((m : Int) / 2 ^ k) % 2 = if m.testBit k = true then 1 else 0 := by
  have e : ((m : Int) / 2 ^ k) % 2 = ((m / 2 ^ k % 2 : Nat) : Int) := by simp
  rw [e, div_mod]
  split <;> rfl
theorem shr_mod_one (m k : Nat) : (((m : Int) / 2 ^ k) % 2 == 1) = m.testBit k := by
  rw [shr_mod]
  cases m.testBit k <;> rfl
set_option maxHeartbeats 2000000 in
theorem l06Class_any (m s : Nat) (hm : m < 65536) (hs : s ≤ 12) (w : World) :
    Calls Tryd.prog 70 #[.int .i64 s, .int .u16 m] w fun r w' => r = .returned (.int .i64 (classOf s m)) ∧ w = w' := by
  go_enter Tryd.func70, Tryd.ntmps70
  go_wp2_with fail
  go_loop [5, 6] (fun vs vk => ∃ k : Nat, k ≤ s ∧ vk = .int .i64 (k : Int) ∧ vs = .int .i64 (sumTo m k)) (fun _ vk => s - (intOf vk).toNat)
  case atStart => exact ⟨0, by omega, rfl, rfl⟩
  case round =>
    obtain ⟨k, hk, rfl, rfl⟩ := hrel
    have hle : sumTo m k ≤ 12 * 13 := Nat.le_trans (sumTo_le m k) (Nat.mul_le_mul (by omega) (by omega))
    by_cases hlt : k < s
    · have hnx : Hid (sumTo m (k + 1) = sumTo m k + if m.testBit k = true then k + 1 else 0) := Lib.hid rfl
      have hone := shr_mod_one m k
      obtain ⟨q0, q1⟩ := shr_in hm k
      cases hb : m.testBit k with
      | true =>
        rw [hb] at hone hnx
        clear hb
        go_wp2_with fail
        go_round
        case rel => exact ⟨k + 1, by omega, by go_num, by rw [hnx.out]; simp⟩
        case measure => simp [intOf]; omega
      | false =>
        rw [hb] at hone hnx
        clear hb
        go_wp2_with fail
        go_round
        case rel => exact ⟨k + 1, by omega, by go_num, by rw [hnx.out]; simp⟩
        case measure => simp [intOf]; omega
    · obtain rfl : k = s := by omega
      go_wp2_with fail
      go_ret
      exact ⟨ret_int (by unfold classOf; simp), rfl⟩
end Go.Proofs.YtlembainfhnnbaaDoor.mks
