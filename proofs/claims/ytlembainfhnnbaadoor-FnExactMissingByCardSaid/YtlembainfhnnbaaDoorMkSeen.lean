/-
  What can be seen of a mark: the program's and the model's.
-/
import Derived.Test.YtlembainfhnnbaaDoorJoin14
import Derived.Test.YtlembainfhnnbaaDoorJoin2
import Derived.Test.YtlembainfhnnbaaDoorJoin8
namespace Go.Proofs.YtlembainfhnnbaaDoor.mks
open Go Go.RowKit sl stk fold marS

theorem flat_mark (xs : List Nat) (n : Nat) : (xs ++ [n]).flatMap C = xs.flatMap C ++ [.int .u16 (n : Int)] := by simp [C, cInt]

theorem neg_val {r : Nat} (h0 : r ≠ 0) (hr : r < 65536) : bits .and .u16 (r : Int) (IntKind.u16.wrap (-(r : Int))) = ((r &&& (65536 - r) : Nat) : Int) := by
  have e : IntKind.u16.wrap (-(r : Int)) = ((65536 - r : Nat) : Int) := by
    simp [IntKind.wrap, IntKind.bits, IntKind.signed]; omega
  rw [e, bits_and hr (by omega)]
theorem pred_val {r : Nat} (h0 : r ≠ 0) (hr : r < 65536) : bits .and .u16 (r : Int) ((r : Int) - 1) = ((r &&& (r - 1) : Nat) : Int) := by
  have e : (r : Int) - 1 = ((r - 1 : Nat) : Int) := by omega
  rw [e, bits_and hr (by omega)]
theorem lost_val {m k : Nat} (hm : m < 65536) (hk : k < 16) (hb : m.testBit k = true) : bits .andNot .u16 (m : Int) (IntKind.u16.wrap (2 ^ k)) = ((m ^^^ 2 ^ k : Nat) : Int) := by
  have e : (2 : Int) ^ k = ((2 ^ k : Nat) : Int) := by simp
  rw [e, wrap_u16 (pow_lt hk), bits_dif hm (pow_lt hk), dif_pow hb]

set_option maxRecDepth 100000 in
set_option maxHeartbeats 4000000 in
theorem l06Seen_any (m : Nat) (hm : m < 65536) (w : World) :
    Calls Tryd.prog 51 #[.int .u16 m] w fun o w' => ∃ v n, o = .returned v ∧ w'.ownsRow w.heap.size 26 1 v n ((seenL m).flatMap C) ∧ Below w.heap.size w w' := by
  obtain ⟨i0, hi, hz0, hz1, hz2⟩ := info_parts info
  have hP0 : (w.alloc (.cells #[.int .u16 m] 26)).ownsRow w.heap.size 26 1 (.slice (some ⟨w.heap.size, 0, none⟩) 1 1) 1 ((seenTo m 0).flatMap C) :=
    World.ownsRow_lit w _ 1 (Nat.le_refl _) (by unfold maxLen; omega) rfl
  have HP0 := Lib.hid hP0
  clear hP0
  have hB0 : Below w.heap.size w (w.alloc (.cells #[.int .u16 m] 26)) := (Below.refl _ _).alloc (Nat.le_refl _) _
  have HB0 := Lib.hid hB0
  clear hB0
  go_enter Tryd.func51, Tryd.ntmps51
  go_wp2_with fail
  go_loopw [3, 4] (fun v vk wr => ∃ k : Nat, k ≤ 16 ∧ vk = .int .i64 k ∧ wr.ownsRow w.heap.size 26 1 v (cntTo m k + 1) ((seenTo m k).flatMap C) ∧ Below w.heap.size w wr) (fun _ vk _ => 16 - (intOf vk).toNat)
  case atStart => exact ⟨0, by omega, rfl, HP0.out, HB0.out⟩
  case round =>
    clear HP0 HB0
    obtain ⟨k, hk, rfl, hP, hB⟩ := hrel
    have HP := Lib.hid hP
    have HB := Lib.hid hB
    clear hP hB
    have hc := cntTo_le m k
    by_cases hlt : k < 16
    · have hone := shr_mod_one m k
      have hs := seenTo_succ m k
      have hn := cntTo_succ m k
      obtain ⟨q0, q1⟩ := shr_in hm k
      have Hm := Lib.hid hm
      clear hm
      cases hb : m.testBit k with
      | true =>
        rw [hb] at hone hs hn
        obtain ⟨y, hy⟩ : ∃ y, y = m ^^^ 2 ^ k := ⟨_, rfl⟩
        have hdf := lost_val Hm.out hlt hb
        rw [← hy] at hdf hs
        have HS := Lib.hid hs
        have HN := Lib.hid hn
        clear hs hn hy hb
        go_wp2_with (first | (at_builtin; refine wpList_append_own _ rfl (.tmp 17) (.tmp 23) 23 rfl w.heap.size 26 i0 (.int .u16 0) 1 2 Tryd.underlying23 hi hz0 hz1 hz2 rfl (by decide) _ _ _ rfl (HP.out.alloc _) ⟨_, 0, none⟩ 1 1 [_] rfl rfl (one_newB _ _ _ _ (by simp)) (one_cellI (by rfl)) (by unfold maxLen; omega) (by omega) (by have := HB.out.size; simp; omega) ?_; intro v3 w5 hP5 hgr _; have B5 := Lib.hid (Below.grown (HB.out.alloc HB.out.size _) hgr (by have := HB.out.size; simp; omega) (fun g hg => (HP.out.lt g hg).1)); have HP5 := Lib.hid hP5; clear hP5 hgr) | fail)
        go_roundw
        case rel => exact ⟨k + 1, by omega, by go_num, by rw [HS.out, HN.out]; simp only [if_true]; rw [flat_mark]; exact HP5.out, B5.out⟩
        case measure => simp [intOf]; omega
      | false =>
        rw [hb] at hone hs hn
        have HS := Lib.hid hs
        have HN := Lib.hid hn
        clear hs hn
        go_wp2_with fail
        go_roundw
        case rel => exact ⟨k + 1, by omega, by go_num, by rw [HS.out, HN.out]; simpa using HP.out, HB.out⟩
        case measure => simp [intOf]; omega
    · obtain rfl : k = 16 := by omega
      go_wp2_with fail
      go_ret
      exact ⟨_, _, rfl, HP.out, HB.out⟩
set_option maxRecDepth 100000 in
set_option maxHeartbeats 4000000 in
theorem seenOf_any (m : Nat) (hm : m < 65536) (w : World) :
    Calls Tryd.prog 54 #[.int .u16 m] w fun o w' => ∃ v n, o = .returned v ∧ w'.ownsRow w.heap.size 26 1 v n ((seenL m).flatMap C) ∧ Below w.heap.size w w' := by
  obtain ⟨i0, hI, hz0, hz1, hz2⟩ := info_parts info
  have hP0 : (w.alloc (.cells #[.int .u16 m] 26)).ownsRow w.heap.size 26 1 (.slice (some ⟨w.heap.size, 0, none⟩) 1 1) 1 ((seenTo m 0).flatMap C) :=
    World.ownsRow_lit w _ 1 (Nat.le_refl _) (by unfold maxLen; omega) rfl
  have HP0 := Lib.hid hP0
  clear hP0
  have hB0 : Below w.heap.size w (w.alloc (.cells #[.int .u16 m] 26)) := (Below.refl _ _).alloc (Nat.le_refl _) _
  have HB0 := Lib.hid hB0
  have HZ := Lib.hid (hi_zero m)
  have Hm := Lib.hid hm
  clear hB0 hm
  go_enter Tryd.func54, Tryd.ntmps54
  go_wp2_with fail
  go_loopw [3, 4, 5] (fun v vr _ wr => ∃ k r : Nat, k ≤ 16 ∧ hi m k = r ∧ vr = .int .u16 r ∧ wr.ownsRow w.heap.size 26 1 v (cntTo m k + 1) ((seenTo m k).flatMap C) ∧ Below w.heap.size w wr) (fun _ vr _ _ => (intOf vr).toNat)
  case atStart => exact ⟨0, m, by omega, HZ.out, rfl, HP0.out, HB0.out⟩
  case round =>
    clear HP0 HB0
    obtain ⟨k, r, hk, hr, rfl, hP, hB⟩ := hrel
    have HP := Lib.hid hP
    have HB := Lib.hid hB
    have HR := Lib.hid hr
    clear hP hB hr
    have hc := cntTo_le m k
    by_cases h0 : r = 0
    · subst h0
      have hn := no_bit Hm.out (16 - k) k (by omega) HR.out
      have HN := Lib.hid hn
      clear hn
      go_wp2_with fail
      go_ret
      have e : seenL m = seenTo m k := by unfold seenL seenTo; rw [HN.out]
      exact ⟨_, _, rfl, by rw [e]; exact HP.out, HB.out⟩
    · obtain ⟨j, hkj, hj, hb, hhi, hbt⟩ := next_bit Hm.out (16 - k) k (by omega) (by rw [HR.out]; exact h0)
      have h1 : ((r : Int) != 0) = true := by rw [bne_iff_ne]; omega
      have hsn : seenTo m (j + 1) = seenTo m k ++ [m ^^^ 2 ^ j] := by
        rw [seenTo_succ, if_pos hb]
        unfold seenTo
        rw [hbt]
      have hcn : cntTo m (j + 1) = cntTo m k + 1 := by
        rw [cntTo_succ, if_pos hb]
        unfold cntTo
        rw [hbt]
      have hlow := hi_and Hm.out j hb
      have hdrop := hi_drop m j hb
      rw [hhi, HR.out] at hlow hdrop
      obtain ⟨y, hy⟩ : ∃ y, y = m ^^^ 2 ^ j := ⟨_, rfl⟩
      obtain ⟨p, hp⟩ : ∃ p, p = 2 ^ j := ⟨_, rfl⟩
      have hdf := (bits_dif Hm.out (pow_lt hj)).trans (by rw [dif_pow hb])
      rw [← hy, ← hp] at hdf
      rw [← hy] at hsn
      rw [← hp] at hlow
      obtain ⟨r', hr'⟩ : ∃ r', hi m (j + 1) = r' := ⟨_, rfl⟩
      rw [hr'] at hdrop
      have hrl : r < 65536 := by rw [← HR.out]; exact hi_lt Hm.out k
      have hlt : r' < r := by rw [← hdrop]; exact Nat.lt_of_le_of_lt Nat.and_le_right (by omega)
      have hrl2 : r ≤ 65535 := by omega
      have e1 := neg_val h0 hrl
      have e3 := pred_val h0 hrl
      rw [hlow] at e1
      rw [hdrop] at e3
      have HS := Lib.hid hsn
      have HN := Lib.hid hcn
      have HR2 := Lib.hid hr'
      clear hsn hcn hlow hdrop hr' hy hhi hbt hb hp hrl
      go_wp2_with (first | (at_builtin; refine wpList_append_own _ rfl (.tmp 19) (.tmp 23) 23 rfl w.heap.size 26 i0 (.int .u16 0) 1 2 Tryd.underlying23 hI hz0 hz1 hz2 rfl (by decide) _ _ _ rfl (HP.out.alloc _) ⟨_, 0, none⟩ 1 1 [_] rfl rfl (one_newB _ _ _ _ (by simp)) (one_cellI (by rfl)) (by unfold maxLen; omega) (by omega) (by have := HB.out.size; simp; omega) ?_; intro v3 w5 hP5 hgr _; have B5 := Lib.hid (Below.grown (HB.out.alloc HB.out.size _) hgr (by have := HB.out.size; simp; omega) (fun g hg => (HP.out.lt g hg).1)); have HP5 := Lib.hid hP5; clear hP5 hgr) | fail)
      go_roundw
      case rel => exact ⟨j + 1, r', by omega, HR2.out, rfl, by rw [HS.out, HN.out, flat_mark]; exact HP5.out, B5.out⟩
      case measure => simp [intOf]; omega
end Go.Proofs.YtlembainfhnnbaaDoor.mks
