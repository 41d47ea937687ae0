/-
  Several texts of this proof, joined.
-/
import Derived.Test.YtlembainfhnnbaaRows
import Derived.Test.YtlembainfhnnbaaWords
import Derived.Test.YtlembainfhnnbaaMkPure
import Derived.Test.YtlembainfhnnbaaInB
import Derived.WalkKit
import Derived.Lib.Hide
import Derived.Deep.QuietTactic
import Derived.BigQuiet
import Derived.Lib.BitFns
import Derived.Test.YtlembainfhnnbaaSl
/-
  Marks: the functions of the program and of the model that only reckon with numbers.
-/
namespace Go.Proofs.Ytlembainfhnnbaa.mks
open Go Go.RowKit stk

def okB (s : Int) (m : Nat) : Bool := inB s 1 12 && decide (m < 2 ^ s.toNat)

theorem shr_zero (m k : Nat) : (((m : Int) / 2 ^ k) == 0) = decide (m < 2 ^ k) := by
  have e : ((m : Int) / 2 ^ k) = ((m / 2 ^ k : Nat) : Int) := by simp
  rw [e, Bool.eq_iff_iff]
  simp only [beq_iff_eq, decide_eq_true_eq]
  have hp : 0 < 2 ^ k := Nat.two_pow_pos k
  constructor
  · intro h
    have h0 : m / 2 ^ k = 0 := by omega
    exact (Nat.div_eq_zero_iff_lt hp).1 h0
  · intro h
    rw [Nat.div_eq_of_lt h]; rfl

set_option maxHeartbeats 1000000 in
theorem ValidMark_any (s : Int) (m : Nat) (w : World) :
    Calls Try.prog 8 #[.int .i64 s, .int .u16 m] w fun o w' => o = .returned (.bool (okB s m)) ∧ w = w' := by
  by_cases h1 : 1 ≤ s
  · by_cases h2 : s ≤ 12
    · obtain ⟨k, rfl⟩ := Int.eq_ofNat_of_zero_le (show 0 ≤ s by omega)
      have hz := Lib.hid (shr_zero m k)
      have hB : Hid (okB (k : Int) m = decide (m < 2 ^ k)) := Lib.hid (by simp [okB, inB, h1, h2])
      go_enter Try.func8, Try.ntmps8
      go_wp2_with fail
      go_ret
      exact ⟨ret_bool (by rw [hB.out]; exact hz.out), rfl⟩
    · have hB : Hid (okB s m = false) := Lib.hid (by simp [okB, inB, h2])
      go_enter Try.func8, Try.ntmps8
      go_wp2_with fail
      go_ret
      exact ⟨ret_bool hB.out.symm, rfl⟩
  · have hB : Hid (okB s m = false) := Lib.hid (by simp [okB, inB, h1])
    go_enter Try.func8, Try.ntmps8
    go_wp2_with fail
    go_ret
    exact ⟨ret_bool hB.out.symm, rfl⟩
theorem l06Many_any (s : Int) (w : World) :
    Calls Try.prog 20 #[.int .i64 s] w fun o w' => o = .returned (.bool (inB s 1 12)) ∧ w = w' := by
  go_enter Try.func20, Try.ntmps20
  go_wp2_with fail
  refine (l00In_any _ _ _ _).mono ?_
  rintro o w1 ⟨rfl, rfl⟩
  go_wp2_with fail
  go_ret
  exact ⟨rfl, rfl⟩
set_option maxHeartbeats 1000000 in
theorem l06Ok_any (s : Int) (m : Nat) (w : World) :
    Calls Try.prog 15 #[.int .i64 s, .int .u16 m] w fun o w' => o = .returned (.bool (okB s m)) ∧ w = w' := by
  have hmany : ∀ b, inB s 1 12 = b → ∀ u, Calls Try.prog 20 #[.int .i64 s] u fun o w' => o = .returned (.bool b) ∧ u = w' := fun b hb u => by
    rw [← hb]; exact l06Many_any s u
  cases hb : inB s 1 12 with
  | true =>
    have h12 := (inB_iff _ _ _).1 hb
    obtain ⟨k, rfl⟩ := Int.eq_ofNat_of_zero_le (show 0 ≤ s by omega)
    have hz := Lib.hid (shr_zero m k)
    have HM := Lib.hid (hmany _ hb)
    have hB : Hid (okB (k : Int) m = decide (m < 2 ^ k)) := Lib.hid (by simp [okB, hb])
    obtain ⟨h1, h2⟩ := h12
    clear hb hmany
    go_enter Try.func15, Try.ntmps15
    go_wp2_with (go_at_call 20; refine (HM.out _).mono ?_; rintro o w1 ⟨rfl, rfl⟩)
    go_ret
    exact ⟨ret_bool (by rw [hB.out]; exact hz.out), rfl⟩
  | false =>
    have HM := Lib.hid (hmany _ hb)
    have hB : Hid (okB s m = false) := Lib.hid (by simp [okB, hb])
    clear hb hmany
    go_enter Try.func15, Try.ntmps15
    go_wp2_with (go_at_call 20; refine (HM.out _).mono ?_; rintro o w1 ⟨rfl, rfl⟩)
    go_ret
    exact ⟨ret_bool hB.out.symm, rfl⟩
theorem ValidMark_spec (s : Int) (m : Nat) (w : World) :
    Calls Try.prog 7 #[.int .i64 s, .int .u16 m] w fun o w' => o = .returned (.bool (okB s m)) ∧ w = w' := by
  go_enter Try.func7, Try.ntmps7
  go_wp2_with fail
  refine (l06Ok_any _ _ _).mono ?_
  rintro o w1 ⟨rfl, rfl⟩
  go_wp2_with fail
  go_ret
  exact ⟨rfl, rfl⟩
/-- one more -/
theorem shr_in {m : Nat} (hm : m < 65536) (k : Nat) : (0 : Int) ≤ (m : Int) / 2 ^ k ∧ (m : Int) / 2 ^ k ≤ 65535 := by
  have e : ((m : Int) / 2 ^ k) = ((m / 2 ^ k : Nat) : Int) := by simp
  have : m / 2 ^ k ≤ m := Nat.div_le_self _ _
  rw [e]
  generalize m / 2 ^ k = q at *
  omega
theorem count_step (m k : Nat) : (cntTo m k : Int) + ((m : Int) / 2 ^ k) % 2 = ((cntTo m (k + 1) : Nat) : Int) := by
  rw [cntTo_succ]
  have e : ((m : Int) / 2 ^ k) % 2 = ((m / 2 ^ k % 2 : Nat) : Int) := by simp
  rw [e, div_mod]
  split <;> simp
set_option maxHeartbeats 1000000 in
theorem l06Count_any (m : Nat) (hm : m < 65536) (w : World) :
    Calls Try.prog 16 #[.int .u16 m] w fun o w' => o = .returned (.int .i64 (cnt m)) ∧ w = w' := by
  go_enter Try.func16, Try.ntmps16
  go_wp2_with fail
  go_loop [3, 4] (fun vn vk => ∃ k : Nat, k ≤ 16 ∧ vk = .int .i64 k ∧ vn = .int .i64 (cntTo m k)) (fun _ vk => 16 - (intOf vk).toNat)
  case atStart => exact ⟨0, by omega, rfl, rfl⟩
  case round =>
    obtain ⟨k, hk, rfl, rfl⟩ := hrel
    by_cases hlt : k < 16
    · have HS := Lib.hid (count_step m k)
      have hc := cntTo_le m k
      obtain ⟨q0, q1⟩ := shr_in hm k
      go_wp2_with fail
      go_round
      case rel => exact ⟨k + 1, by omega, by go_num, by rw [← HS.out]⟩
      case measure => simp [intOf]; omega
    · obtain rfl : k = 16 := by omega
      go_wp2_with fail
      go_ret
      exact ⟨rfl, rfl⟩
theorem pop_cnt : ∀ n : Fin 256, Lib.pop8 (n.val : Int) = (cntTo n.val 8 : Int) := by decide +kernel
theorem pop8_cnt (n : Nat) (h : n < 256) : Lib.pop8 (n : Int) = (cntTo n 8 : Int) := pop_cnt ⟨n, h⟩
theorem cntTo_mod (m k : Nat) (hk : k ≤ 8) : cntTo (m % 256) k = cntTo m k := by
  induction k with
  | zero => rfl
  | succ k ih =>
    rw [cntTo_succ, cntTo_succ, ih (by omega)]
    have e : (m % 256).testBit k = m.testBit k := by
      rw [show 256 = 2 ^ 8 from rfl, Nat.testBit_mod_two_pow]
      simp; omega
    rw [e]
theorem cntTo_div (m k : Nat) : cntTo m 8 + cntTo (m / 256) k = cntTo m (8 + k) := by
  induction k with
  | zero => rfl
  | succ k ih =>
    rw [cntTo_succ (m / 256), show 8 + (k + 1) = (8 + k) + 1 from rfl, cntTo_succ m (8 + k), ← ih]
    have e : (m / 256).testBit k = m.testBit (8 + k) := by
      rw [show 256 = 2 ^ 8 from rfl, Nat.testBit_div_two_pow]
      congr 1
      omega
    rw [e]
    omega
theorem pop_both (m : Nat) (hm : m < 65536) : Lib.pop8 ((m : Int) / 256) + Lib.pop8 ((m : Int) % 256) = (cnt m : Int) := by
  have e1 : ((m : Int) / 256) = ((m / 256 : Nat) : Int) := by simp
  have e2 : ((m : Int) % 256) = ((m % 256 : Nat) : Int) := by simp
  rw [e1, e2, pop8_cnt _ (by omega), pop8_cnt _ (by omega), cntTo_mod _ _ (by omega)]
  have : cntTo m 8 + cntTo (m / 256) 8 = cnt m := cntTo_div m 8
  omega
set_option maxHeartbeats 1000000 in
theorem OnesCount16_any (m : Nat) (hm : m < 65536) (w : World) :
    Calls Try.prog 17 #[.int .u16 m] w fun o w' => o = .returned (.int .i64 (cnt m)) ∧ ∃ n, w' = w.drewN n := by
  have H := Lib.hid (pop_both m hm)
  have h255 : bits .and .u16 (m : Int) 255 = (m : Int) % 256 := bits_mask .u16 16 (by decide) (fun n h0 h1 => by simp [IntKind.wrap, IntKind.bits, IntKind.signed]; omega) 8 (by decide) (m : Int) (by omega) (by omega)
  have i0 : (0 : Int) ≤ (m : Int) / 256 := by omega
  have i1 : (m : Int) / 256 ≤ 255 := by omega
  have j0 : (0 : Int) ≤ (m : Int) % 256 := by omega
  have j1 : (m : Int) % 256 ≤ 255 := by omega
  have x1 := fun wx => Lib.run_index_pop8tab (P := Try.prog) (w := wx) 9 .u16 ((m : Int) / 256) Try.underlying9 i0 i1
  have x2 := fun wx => Lib.run_index_pop8tab (P := Try.prog) (w := wx) 9 .u16 ((m : Int) % 256) Try.underlying9 j0 j1
  go_enter Try.func17, Try.ntmps17
  go_wp2_with fail
  simp only [List.append_eq, List.cons_append, List.nil_append, Lib.fold_pop8tab]
  go_quiet (fail)
  go_wp2_with fail
  go_ret
  have hc := cnt_le m
  exact ⟨ret_int (by rw [H.out]; omega), _, rfl⟩
set_option maxHeartbeats 1000000 in
theorem StitchesIn_any (m : Nat) (hm : m < 65536) (w : World) :
    Calls Try.prog 10 #[.int .u16 m] w fun o w' => o = .returned (.int .i64 (cnt m)) ∧ ∃ n, w' = w.drewN n := by
  go_enter Try.func10, Try.ntmps10
  go_wp2_with fail
  refine (OnesCount16_any m hm _).mono ?_
  rintro o w1 ⟨rfl, n, rfl⟩
  go_wp2_with fail
  go_ret
  exact ⟨rfl, _, rfl⟩
theorem shr_and (m k : Nat) (hm : m < 65536) : bits .and .u16 ((m : Int) / 2 ^ k) 1 = if m.testBit k = true then 1 else 0 := by
  have e : ((m : Int) / 2 ^ k) = ((m / 2 ^ k : Nat) : Int) := by simp
  have hle : m / 2 ^ k ≤ m := Nat.div_le_self _ _
  rw [e]
  refine (bits_and (a := m / 2 ^ k) (b := 1) (by omega) (by decide)).trans ?_
  rw [Nat.and_one_is_mod, div_mod]
  split <;> rfl
set_option maxHeartbeats 1000000 in
theorem has_any (m k : Nat) (hm : m < 65536) (hk : k < 16) (w : World) :
    Calls Try.prog 19 #[.int .u16 m, .int .i64 ((k : Int) + 1)] w fun r w' => r = .returned (.bool (m.testBit k)) ∧ w = w' := by
  have e := shr_and m k hm
  have e2 : (k : Int) + 1 - 1 = k := by omega
  cases h : m.testBit k with
  | true =>
    rw [if_pos h] at e
    clear h
    go_enter Try.func19, Try.ntmps19
    go_wp2_with fail
    go_ret
    exact ⟨rfl, rfl⟩
  | false =>
    rw [if_neg (by rw [h]; simp)] at e
    clear h
    go_enter Try.func19, Try.ntmps19
    go_wp2_with fail
    go_ret
    exact ⟨rfl, rfl⟩
/-- the numbers of the stitches below k, summed -/
def sumTo (m : Nat) : Nat → Nat
  | 0 => 0
  | k + 1 => sumTo m k + if m.testBit k = true then k + 1 else 0
theorem sumTo_le (m k : Nat) : sumTo m k ≤ k * (k + 1) := by
  induction k with
  | zero => exact Nat.le_refl _
  | succ k ih =>
    unfold sumTo
    have e : (k + 1) * (k + 1 + 1) = k * (k + 1) + 2 * (k + 1) := by
      rw [← Nat.add_mul]
      rw [Nat.mul_comm]
    rw [e]
    split <;> omega
def classOf (s m : Nat) : Nat := sumTo m s % (s + 1)
theorem shr_mod (m k : Nat) : ((m : Int) / 2 ^ k) % 2 = if m.testBit k = true then 1 else 0 := by
  have e : ((m : Int) / 2 ^ k) % 2 = ((m / 2 ^ k % 2 : Nat) : Int) := by simp
  rw [e, div_mod]
  split <;> rfl
theorem shr_mod_one (m k : Nat) : (((m : Int) / 2 ^ k) % 2 == 1) = m.testBit k := by
  rw [shr_mod]
  cases m.testBit k <;> rfl
end Go.Proofs.Ytlembainfhnnbaa.mks

/-
  A mark that is one of so many stitches.
-/
namespace Go.Proofs.Ytlembainfhnnbaa.mks
open Go Go.RowKit sl stk

theorem ok_in {s : Int} {m : Nat} (h : okB s m = true) : ∃ k : Nat, s = k ∧ 1 ≤ k ∧ k ≤ 12 ∧ m < 2 ^ k := by
  unfold okB at h
  simp only [Bool.and_eq_true, inB_iff, decide_eq_true_eq] at h
  obtain ⟨⟨h1, h2⟩, h3⟩ := h
  obtain ⟨k, rfl⟩ := Int.eq_ofNat_of_zero_le (show 0 ≤ s by omega)
  exact ⟨k, rfl, by omega, by omega, by simpa using h3⟩
end Go.Proofs.Ytlembainfhnnbaa.mks

/-
  One stitch more.
-/
namespace Go.Proofs.Ytlembainfhnnbaa.mks
open Go Go.RowKit

theorem or_val {m k : Nat} (hm : m < 65536) (hk : k < 16) : bits .or .u16 (m : Int) (IntKind.u16.wrap (2 ^ k)) = ((m ||| 2 ^ k : Nat) : Int) := by
  have e : (2 : Int) ^ k = ((2 ^ k : Nat) : Int) := by simp
  rw [e, wrap_u16 (pow_lt hk), bits_or hm (pow_lt hk)]
end Go.Proofs.Ytlembainfhnnbaa.mks

/-
  Marks are read from their texts: the program's and the model's.
-/
namespace Go.Proofs.Ytlembainfhnnbaa.mks
open Go Go.RowKit sl stk

/-- the mark with the first k letters of a text -/
def mkTo (s : ByteArray) : Nat → Nat
  | 0 => 0
  | k + 1 => if s.data.toList.getD k 0 = 43 then mkTo s k ||| 2 ^ k else mkTo s k
def letOk (b : UInt8) : Bool := b == 43 || b == 46
def rdM (s : ByteArray) : Nat × Nat × Nat := if 1 ≤ s.size ∧ s.size ≤ 12 ∧ s.data.toList.all letOk = true then (mkTo s s.size, s.size, 0) else (0, 0, 5)
theorem mkTo_lt (s : ByteArray) : ∀ k, mkTo s k < 2 ^ k
  | 0 => by simp [mkTo]
  | k + 1 => by
    have ih := mkTo_lt s k
    have h2 : 2 ^ (k + 1) = 2 * 2 ^ k := by rw [Nat.pow_succ]; omega
    unfold mkTo
    split
    · refine Nat.or_lt_two_pow (by omega) (by rw [h2]; have := Nat.two_pow_pos k; omega)
    · omega
theorem at_byte (s : ByteArray) (k : Nat) (h : k < s.size) : s.data.toList.getD k 0 = s[k] := by
  have h1 : k < s.data.toList.length := by simpa using h
  rw [List.getD_eq_getElem?_getD, List.getElem?_eq_getElem h1]
  rfl

set_option maxRecDepth 100000 in
set_option maxHeartbeats 4000000 in
theorem ReadMark_spec (s : ByteArray) (hs : s.size ≤ 1048576) (a n k : Nat) (hr : rdM s = (a, n, k)) (w : World) :
    Calls Try.prog 13 #[.string s] w fun o w' => o = .returned (.tuple #[.int .u16 a, .int .i64 n, .int .i64 k]) ∧ w = w' := by
  by_cases h12 : 1 ≤ s.size ∧ s.size ≤ 12
  · obtain ⟨h1, h2⟩ := h12
    have hin : inB (s.size : Int) 1 12 = true := (inB_iff _ _ _).2 ⟨by omega, by omega⟩
    have HR : Hid ((if s.data.toList.all letOk = true then (mkTo s s.size, s.size, 0) else (0, 0, 5)) = (a, n, k)) := Lib.hid (by
      rw [← hr, rdM]
      cases s.data.toList.all letOk <;> simp [h1, h2])
    have HM := Lib.hid (l06Many_any (s.size : Int))
    rw [hin] at HM
    clear hr hin
    go_enter Try.func13, Try.ntmps13
    go_wp2_with (first | (go_at_call 20; refine (HM.out _).mono ?_; rintro o w1 ⟨rfl, rfl⟩) | fail)
    go_loop [6, 7] (fun vm vk => ∃ k : Nat, k ≤ s.size ∧ vk = .int .i64 k ∧ vm = .int .u16 (mkTo s k) ∧ ∀ i, i < k → letOk (s.data.toList.getD i 0) = true) (fun vm vk => s.size - (intOf vk).toNat)
    case atStart => exact ⟨0, by omega, rfl, rfl, fun i hi => absurd hi (by omega)⟩
    case round =>
      obtain ⟨j, hj, rfl, rfl, hok⟩ := hrel
      have HOK := Lib.hid hok
      clear hok
      by_cases hlt : j < s.size
      · have hab := at_byte s j hlt
        have hmt := mkTo_lt s j
        have hp := Nat.pow_le_pow_right (show 0 < 2 by decide) (show j ≤ 12 by omega)
        have hm4 : mkTo s j ≤ 4095 := by omega
        have hov := or_val (m := mkTo s j) (k := j) (by omega) (by omega)
        have hst : mkTo s (j + 1) = if s[j] = 43 then mkTo s j ||| 2 ^ j else mkTo s j := by rw [mkTo, hab]
        obtain ⟨M, hM⟩ : ∃ M, mkTo s j = M := ⟨_, rfl⟩
        rw [hM] at hov hst hm4 ⊢
        have HAB := Lib.hid hab
        have HST := Lib.hid hst
        clear hab hmt hp hst hM
        by_cases h43 : s[j] = 43
        · have hc : ((s[j].toNat : Int) == 43) = true := by rw [h43]; rfl
          have H43 := Lib.hid h43
          clear h43
          go_wp2_with fail
          go_round
          case rel => exact ⟨j + 1, by omega, by go_num, by rw [HST.out, if_pos H43.out], fun i hi => by
            rcases Nat.lt_or_ge i j with h | h
            · exact HOK.out i h
            · obtain rfl : i = j := by omega
              rw [HAB.out, H43.out]; rfl⟩
          case measure => simp [intOf]; omega
        · have hc : ((s[j].toNat : Int) == 43) = false := by
            rw [beq_eq_false_iff_ne]
            intro e
            exact h43 (UInt8.toNat_inj.1 (by have : s[j].toNat = 43 := by omega
                                             exact this))
          have H43 := Lib.hid h43
          clear h43
          by_cases h46 : s[j] = 46
          · have hc2 : ((s[j].toNat : Int) == 46) = true := by rw [h46]; rfl
            have H46 := Lib.hid h46
            clear h46
            go_wp2_with fail
            go_round
            case rel => exact ⟨j + 1, by omega, by go_num, by rw [HST.out, if_neg H43.out], fun i hi => by
              rcases Nat.lt_or_ge i j with h | h
              · exact HOK.out i h
              · obtain rfl : i = j := by omega
                rw [HAB.out, H46.out]; rfl⟩
            case measure => simp [intOf]; omega
          · have hc2 : ((s[j].toNat : Int) == 46) = false := by
              rw [beq_eq_false_iff_ne]
              intro e
              exact h46 (UInt8.toNat_inj.1 (by have : s[j].toNat = 46 := by omega
                                               exact this))
            have hno : s.data.toList.all letOk = false := by
              cases hall : s.data.toList.all letOk with
              | false => rfl
              | true =>
                have hm : s[j] ∈ s.data.toList := by
                  rw [← HAB.out, List.getD_eq_getElem?_getD, List.getElem?_eq_getElem (show j < s.data.toList.length by simpa using hlt)]
                  exact List.getElem_mem _
                have h5 := List.all_eq_true.1 hall _ hm
                unfold letOk at h5
                simp [H43.out, h46] at h5
            have hr2 := HR.out
            rw [hno, if_neg (by simp)] at hr2
            obtain ⟨rfl, rfl, rfl⟩ : 0 = a ∧ 0 = n ∧ 5 = k := by simpa using hr2
            clear hno h46 hr2
            go_wp2_with fail
            go_ret3
            exact ⟨rfl, rfl⟩
      · obtain rfl : j = s.size := by omega
        have hall : s.data.toList.all letOk = true := List.all_eq_true.2 fun x hx => by
          obtain ⟨i, hi⟩ := List.mem_iff_getElem?.1 hx
          have h5 := HOK.out i (by have := (List.getElem?_eq_some_iff.1 hi).1; simpa using this)
          rw [List.getD_eq_getElem?_getD, hi] at h5
          exact h5
        have hr2 := HR.out
        rw [hall, if_pos rfl] at hr2
        have hr3 : mkTo s s.size = a ∧ s.size = n ∧ 0 = k := by simpa using hr2
        obtain rfl := hr3.2.2
        have HA := Lib.hid hr3.1
        have HN := Lib.hid hr3.2.1
        clear hall hr2 hr3
        go_wp2_with fail
        go_ret3
        exact ⟨by rw [← HA.out, ← HN.out]; rfl, rfl⟩
  · have hin : inB (s.size : Int) 1 12 = false := by
      cases h : inB (s.size : Int) 1 12 with
      | false => rfl
      | true => have := (inB_iff _ _ _).1 h; omega
    have hr2 : rdM s = (0, 0, 5) := by
      unfold rdM
      rw [if_neg]
      intro h
      exact h12 ⟨h.1, h.2.1⟩
    obtain ⟨rfl, rfl, rfl⟩ : 0 = a ∧ 0 = n ∧ 5 = k := by
      rw [hr2] at hr
      simpa using hr
    have HM := Lib.hid (l06Many_any (s.size : Int))
    rw [hin] at HM
    clear hr hr2 hin
    go_enter Try.func13, Try.ntmps13
    go_wp2_with (first | (go_at_call 20; refine (HM.out _).mono ?_; rintro o w1 ⟨rfl, rfl⟩) | fail)
    go_ret3
    exact ⟨rfl, rfl⟩

set_option maxRecDepth 100000 in
set_option maxHeartbeats 4000000 in
theorem ReadMark_any (s : ByteArray) (hs : s.size ≤ 1048576) (a n k : Nat) (hr : rdM s = (a, n, k)) (w : World) :
    Calls Try.prog 14 #[.string s] w fun o w' => o = .returned (.tuple #[.int .u16 a, .int .i64 n, .int .i64 k]) ∧ w = w' := by
  by_cases h12 : 1 ≤ s.size ∧ s.size ≤ 12
  · obtain ⟨h1, h2⟩ := h12
    have hin : inB (s.size : Int) 1 12 = true := (inB_iff _ _ _).2 ⟨by omega, by omega⟩
    have HR : Hid ((if s.data.toList.all letOk = true then (mkTo s s.size, s.size, 0) else (0, 0, 5)) = (a, n, k)) := Lib.hid (by
      rw [← hr, rdM]
      cases s.data.toList.all letOk <;> simp [h1, h2])
    have HM := Lib.hid (trivial)
    clear hr hin
    go_enter Try.func14, Try.ntmps14
    go_wp2_with fail
    go_loop [5, 6, 17] (fun vm _ vk => ∃ k : Nat, k ≤ s.size ∧ vk = .int .i64 k ∧ vm = .int .u16 (mkTo s k) ∧ ∀ i, i < k → letOk (s.data.toList.getD i 0) = true) (fun vm _ vk => s.size - (intOf vk).toNat)
    case atStart => exact ⟨0, by omega, rfl, rfl, fun i hi => absurd hi (by omega)⟩
    case round =>
      obtain ⟨j, hj, rfl, rfl, hok⟩ := hrel
      have HOK := Lib.hid hok
      clear hok
      by_cases hlt : j < s.size
      · have hab := at_byte s j hlt
        have hmt := mkTo_lt s j
        have hp := Nat.pow_le_pow_right (show 0 < 2 by decide) (show j ≤ 12 by omega)
        have hm4 : mkTo s j ≤ 4095 := by omega
        have hov := or_val (m := mkTo s j) (k := j) (by omega) (by omega)
        have hst : mkTo s (j + 1) = if s[j] = 43 then mkTo s j ||| 2 ^ j else mkTo s j := by rw [mkTo, hab]
        obtain ⟨M, hM⟩ : ∃ M, mkTo s j = M := ⟨_, rfl⟩
        rw [hM] at hov hst hm4 ⊢
        have HAB := Lib.hid hab
        have HST := Lib.hid hst
        clear hab hmt hp hst hM
        by_cases h43 : s[j] = 43
        · have hc : ((s[j].toNat : Int) == 43) = true := by rw [h43]; rfl
          have H43 := Lib.hid h43
          clear h43
          go_wp2_with fail
          go_round
          case rel => exact ⟨j + 1, by omega, by go_num, by rw [HST.out, if_pos H43.out], fun i hi => by
            rcases Nat.lt_or_ge i j with h | h
            · exact HOK.out i h
            · obtain rfl : i = j := by omega
              rw [HAB.out, H43.out]; rfl⟩
          case measure => simp [intOf]; omega
        · have hc : ((s[j].toNat : Int) == 43) = false := by
            rw [beq_eq_false_iff_ne]
            intro e
            exact h43 (UInt8.toNat_inj.1 (by have : s[j].toNat = 43 := by omega
                                             exact this))
          have H43 := Lib.hid h43
          clear h43
          by_cases h46 : s[j] = 46
          · have hc2 : ((s[j].toNat : Int) == 46) = true := by rw [h46]; rfl
            have H46 := Lib.hid h46
            clear h46
            go_wp2_with fail
            go_round
            case rel => exact ⟨j + 1, by omega, by go_num, by rw [HST.out, if_neg H43.out], fun i hi => by
              rcases Nat.lt_or_ge i j with h | h
              · exact HOK.out i h
              · obtain rfl : i = j := by omega
                rw [HAB.out, H46.out]; rfl⟩
            case measure => simp [intOf]; omega
          · have hc2 : ((s[j].toNat : Int) == 46) = false := by
              rw [beq_eq_false_iff_ne]
              intro e
              exact h46 (UInt8.toNat_inj.1 (by have : s[j].toNat = 46 := by omega
                                               exact this))
            have hno : s.data.toList.all letOk = false := by
              cases hall : s.data.toList.all letOk with
              | false => rfl
              | true =>
                have hm : s[j] ∈ s.data.toList := by
                  rw [← HAB.out, List.getD_eq_getElem?_getD, List.getElem?_eq_getElem (show j < s.data.toList.length by simpa using hlt)]
                  exact List.getElem_mem _
                have h5 := List.all_eq_true.1 hall _ hm
                unfold letOk at h5
                simp [H43.out, h46] at h5
            have hr2 := HR.out
            rw [hno, if_neg (by simp)] at hr2
            obtain ⟨rfl, rfl, rfl⟩ : 0 = a ∧ 0 = n ∧ 5 = k := by simpa using hr2
            clear hno h46 hr2
            go_wp2_with fail
            go_ret3
            exact ⟨rfl, rfl⟩
      · obtain rfl : j = s.size := by omega
        have hall : s.data.toList.all letOk = true := List.all_eq_true.2 fun x hx => by
          obtain ⟨i, hi⟩ := List.mem_iff_getElem?.1 hx
          have h5 := HOK.out i (by have := (List.getElem?_eq_some_iff.1 hi).1; simpa using this)
          rw [List.getD_eq_getElem?_getD, hi] at h5
          exact h5
        have hr2 := HR.out
        rw [hall, if_pos rfl] at hr2
        have hr3 : mkTo s s.size = a ∧ s.size = n ∧ 0 = k := by simpa using hr2
        obtain rfl := hr3.2.2
        have HA := Lib.hid hr3.1
        have HN := Lib.hid hr3.2.1
        clear hall hr2 hr3
        go_wp2_with fail
        go_ret3
        exact ⟨by rw [← HA.out, ← HN.out]; rfl, rfl⟩
  · have hin : inB (s.size : Int) 1 12 = false := by
      cases h : inB (s.size : Int) 1 12 with
      | false => rfl
      | true => have := (inB_iff _ _ _).1 h; omega
    have hr2 : rdM s = (0, 0, 5) := by
      unfold rdM
      rw [if_neg]
      intro h
      exact h12 ⟨h.1, h.2.1⟩
    obtain ⟨rfl, rfl, rfl⟩ : 0 = a ∧ 0 = n ∧ 5 = k := by
      rw [hr2] at hr
      simpa using hr
    have HM := Lib.hid (trivial)
    clear hr hr2 hin
    by_cases h0 : s.size < 1
    · go_enter Try.func14, Try.ntmps14
      go_wp2_with fail
      go_ret3
      exact ⟨rfl, rfl⟩
    · have h13 : 12 < s.size := by omega
      go_enter Try.func14, Try.ntmps14
      go_wp2_with fail
      go_ret3
      exact ⟨rfl, rfl⟩

end Go.Proofs.Ytlembainfhnnbaa.mks
