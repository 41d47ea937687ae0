/-
  Several texts of this proof, joined.
-/
import Derived.Test.YtlembainfhnnbaaDoorJoin14
import Derived.Test.YtlembainfhnnbaaDoorJoin2
import Derived.Test.YtlembainfhnnbaaDoorMkNum
import Derived.Deep.RegionHeld3
/-
  What can be seen of a mark: the program's and the model's.
-/
namespace Go.Proofs.YtlembainfhnnbaaDoor.mks
open Go Go.RowKit sl stk fold marS

theorem flat_mark (xs : List Nat) (n : Nat) : (xs ++ [n]).flatMap C = xs.flatMap C ++ [.int .u16 (n : Int)] := by simp [C, cInt]

theorem neg_val {r : Nat} (h0 : r ≠ 0) (hr : r < 65536) : bits .and .u16 (r : Int) (IntKind.u16.wrap (-(r : Int))) = ((r &&& (65536 - r) : Nat) : Int) := by
  have e : IntKind.u16.wrap (-(r : Int)) = ((65536 - r : Nat) : Int) := by
    simp [IntKind.wrap, IntKind.bits, IntKind.signed]; omega
  rw [e, bits_and hr (by omega)]
theorem pred_val {r : Nat} (h0 : r ≠ 0) (hr : r < 65536) : bits .and .u16 (r : Int) ((r : Int) - 1) = ((r &&& (r - 1) : Nat) : Int) := by
  have e : (r : Int) - 1 = ((r - 1 : Nat) : Int) := by omega
  rw [e, bits_and hr (by omega)]
theorem lost_val {m k : Nat} (hm : m < 65536) (hk : k < 16) (hb : m.testBit k = true) : bits .andNot .u16 (m : Int) (IntKind.u16.wrap (2 ^ k)) = ((m ^^^ 2 ^ k : Nat) : Int) := by
  have e : (2 : Int) ^ k = ((2 ^ k : Nat) : Int) := by simp
  rw [e, wrap_u16 (pow_lt hk), bits_dif hm (pow_lt hk), dif_pow hb]

set_option maxRecDepth 100000 in
set_option maxHeartbeats 4000000 in
theorem l06Seen_any (m : Nat) (hm : m < 65536) (w : World) :
    Calls Tryd.prog 51 #[.int .u16 m] w fun o w' => ∃ v n, o = .returned v ∧ w'.ownsRow w.heap.size 26 1 v n ((seenL m).flatMap C) ∧ Below w.heap.size w w' := by
  obtain ⟨i0, hi, hz0, hz1, hz2⟩ := info_parts info
  have hP0 : (w.alloc (.cells #[.int .u16 m] 26)).ownsRow w.heap.size 26 1 (.slice (some ⟨w.heap.size, 0, none⟩) 1 1) 1 ((seenTo m 0).flatMap C) :=
    World.ownsRow_lit w _ 1 (Nat.le_refl _) (by unfold maxLen; omega) rfl
  have HP0 := Lib.hid hP0
  clear hP0
  have hB0 : Below w.heap.size w (w.alloc (.cells #[.int .u16 m] 26)) := (Below.refl _ _).alloc (Nat.le_refl _) _
  have HB0 := Lib.hid hB0
  clear hB0
  go_enter Tryd.func51, Tryd.ntmps51
  go_wp2_with fail
  go_loopw [3, 4] (fun v vk wr => ∃ k : Nat, k ≤ 16 ∧ vk = .int .i64 k ∧ wr.ownsRow w.heap.size 26 1 v (cntTo m k + 1) ((seenTo m k).flatMap C) ∧ Below w.heap.size w wr) (fun _ vk _ => 16 - (intOf vk).toNat)
  case atStart => exact ⟨0, by omega, rfl, HP0.out, HB0.out⟩
  case round =>
    clear HP0 HB0
    obtain ⟨k, hk, rfl, hP, hB⟩ := hrel
    have HP := Lib.hid hP
    have HB := Lib.hid hB
    clear hP hB
    have hc := cntTo_le m k
    by_cases hlt : k < 16
    · have hone := shr_mod_one m k
      have hs := seenTo_succ m k
      have hn := cntTo_succ m k
      obtain ⟨q0, q1⟩ := shr_in hm k
      have Hm := Lib.hid hm
      clear hm
      cases hb : m.testBit k with
      | true =>
        rw [hb] at hone hs hn
        obtain ⟨y, hy⟩ : ∃ y, y = m ^^^ 2 ^ k := ⟨_, rfl⟩
        have hdf := lost_val Hm.out hlt hb
        rw [← hy] at hdf hs
        have HS := Lib.hid hs
        have HN := Lib.hid hn
        clear hs hn hy hb
        go_wp2_with (first | (at_builtin; refine wpList_append_own _ rfl (.tmp 17) (.tmp 23) 23 rfl w.heap.size 26 i0 (.int .u16 0) 1 2 Tryd.underlying23 hi hz0 hz1 hz2 rfl (by decide) _ _ _ rfl (HP.out.alloc _) ⟨_, 0, none⟩ 1 1 [_] rfl rfl (one_newB _ _ _ _ (by simp)) (one_cellI (by rfl)) (by unfold maxLen; omega) (by omega) (by have := HB.out.size; simp; omega) ?_; intro v3 w5 hP5 hgr _; have B5 := Lib.hid (Below.grown (HB.out.alloc HB.out.size _) hgr (by have := HB.out.size; simp; omega) (fun g hg => (HP.out.lt g hg).1)); have HP5 := Lib.hid hP5; clear hP5 hgr) | fail)
        go_roundw
        case rel => exact ⟨k + 1, by omega, by go_num, by rw [HS.out, HN.out]; simp only [if_true]; rw [flat_mark]; exact HP5.out, B5.out⟩
        case measure => simp [intOf]; omega
      | false =>
        rw [hb] at hone hs hn
        have HS := Lib.hid hs
        have HN := Lib.hid hn
        clear hs hn
        go_wp2_with fail
        go_roundw
        case rel => exact ⟨k + 1, by omega, by go_num, by rw [HS.out, HN.out]; simpa using HP.out, HB.out⟩
        case measure => simp [intOf]; omega
    · obtain rfl : k = 16 := by omega
      go_wp2_with fail
      go_ret
      exact ⟨_, _, rfl, HP.out, HB.out⟩
set_option maxRecDepth 100000 in
set_option maxHeartbeats 4000000 in
theorem seenOf_any (m : Nat) (hm : m < 65536) (w : World) :
    Calls Tryd.prog 54 #[.int .u16 m] w fun o w' => ∃ v n, o = .returned v ∧ w'.ownsRow w.heap.size 26 1 v n ((seenL m).flatMap C) ∧ Below w.heap.size w w' := by
  obtain ⟨i0, hI, hz0, hz1, hz2⟩ := info_parts info
  have hP0 : (w.alloc (.cells #[.int .u16 m] 26)).ownsRow w.heap.size 26 1 (.slice (some ⟨w.heap.size, 0, none⟩) 1 1) 1 ((seenTo m 0).flatMap C) :=
    World.ownsRow_lit w _ 1 (Nat.le_refl _) (by unfold maxLen; omega) rfl
  have HP0 := Lib.hid hP0
  clear hP0
  have hB0 : Below w.heap.size w (w.alloc (.cells #[.int .u16 m] 26)) := (Below.refl _ _).alloc (Nat.le_refl _) _
  have HB0 := Lib.hid hB0
  have HZ := Lib.hid (hi_zero m)
  have Hm := Lib.hid hm
  clear hB0 hm
  go_enter Tryd.func54, Tryd.ntmps54
  go_wp2_with fail
  go_loopw [3, 4, 5] (fun v vr _ wr => ∃ k r : Nat, k ≤ 16 ∧ hi m k = r ∧ vr = .int .u16 r ∧ wr.ownsRow w.heap.size 26 1 v (cntTo m k + 1) ((seenTo m k).flatMap C) ∧ Below w.heap.size w wr) (fun _ vr _ _ => (intOf vr).toNat)
  case atStart => exact ⟨0, m, by omega, HZ.out, rfl, HP0.out, HB0.out⟩
  case round =>
    clear HP0 HB0
    obtain ⟨k, r, hk, hr, rfl, hP, hB⟩ := hrel
    have HP := Lib.hid hP
    have HB := Lib.hid hB
    have HR := Lib.hid hr
    clear hP hB hr
    have hc := cntTo_le m k
    by_cases h0 : r = 0
    · subst h0
      have hn := no_bit Hm.out (16 - k) k (by omega) HR.out
      have HN := Lib.hid hn
      clear hn
      go_wp2_with fail
      go_ret
      have e : seenL m = seenTo m k := by unfold seenL seenTo; rw [HN.out]
      exact ⟨_, _, rfl, by rw [e]; exact HP.out, HB.out⟩
    · obtain ⟨j, hkj, hj, hb, hhi, hbt⟩ := next_bit Hm.out (16 - k) k (by omega) (by rw [HR.out]; exact h0)
      have h1 : ((r : Int) != 0) = true := by rw [bne_iff_ne]; omega
      have hsn : seenTo m (j + 1) = seenTo m k ++ [m ^^^ 2 ^ j] := by
        rw [seenTo_succ, if_pos hb]
        unfold seenTo
        rw [hbt]
      have hcn : cntTo m (j + 1) = cntTo m k + 1 := by
        rw [cntTo_succ, if_pos hb]
        unfold cntTo
        rw [hbt]
      have hlow := hi_and Hm.out j hb
      have hdrop := hi_drop m j hb
      rw [hhi, HR.out] at hlow hdrop
      obtain ⟨y, hy⟩ : ∃ y, y = m ^^^ 2 ^ j := ⟨_, rfl⟩
      obtain ⟨p, hp⟩ : ∃ p, p = 2 ^ j := ⟨_, rfl⟩
      have hdf := (bits_dif Hm.out (pow_lt hj)).trans (by rw [dif_pow hb])
      rw [← hy, ← hp] at hdf
      rw [← hy] at hsn
      rw [← hp] at hlow
      obtain ⟨r', hr'⟩ : ∃ r', hi m (j + 1) = r' := ⟨_, rfl⟩
      rw [hr'] at hdrop
      have hrl : r < 65536 := by rw [← HR.out]; exact hi_lt Hm.out k
      have hlt : r' < r := by rw [← hdrop]; exact Nat.lt_of_le_of_lt Nat.and_le_right (by omega)
      have hrl2 : r ≤ 65535 := by omega
      have e1 := neg_val h0 hrl
      have e3 := pred_val h0 hrl
      rw [hlow] at e1
      rw [hdrop] at e3
      have HS := Lib.hid hsn
      have HN := Lib.hid hcn
      have HR2 := Lib.hid hr'
      clear hsn hcn hlow hdrop hr' hy hhi hbt hb hp hrl
      go_wp2_with (first | (at_builtin; refine wpList_append_own _ rfl (.tmp 19) (.tmp 23) 23 rfl w.heap.size 26 i0 (.int .u16 0) 1 2 Tryd.underlying23 hI hz0 hz1 hz2 rfl (by decide) _ _ _ rfl (HP.out.alloc _) ⟨_, 0, none⟩ 1 1 [_] rfl rfl (one_newB _ _ _ _ (by simp)) (one_cellI (by rfl)) (by unfold maxLen; omega) (by omega) (by have := HB.out.size; simp; omega) ?_; intro v3 w5 hP5 hgr _; have B5 := Lib.hid (Below.grown (HB.out.alloc HB.out.size _) hgr (by have := HB.out.size; simp; omega) (fun g hg => (HP.out.lt g hg).1)); have HP5 := Lib.hid hP5; clear hP5 hgr) | fail)
      go_roundw
      case rel => exact ⟨j + 1, r', by omega, HR2.out, rfl, by rw [HS.out, HN.out, flat_mark]; exact HP5.out, B5.out⟩
      case measure => simp [intOf]; omega
end Go.Proofs.YtlembainfhnnbaaDoor.mks

/-
  The first one of some marks: pure; looked for by the program, the library and the model.
-/
namespace Go.Proofs.YtlembainfhnnbaaDoor.mks
open Go Go.RowKit sl stk

/-- the first number from k on, of d numbers, of which p holds -/
def firstFrom (p : Nat → Bool) : Nat → Nat → Option Nat
  | 0, _ => none
  | d + 1, k => if p k = true then some k else firstFrom p d (k + 1)
theorem first_yes {p : Nat → Bool} {n k : Nat} {r : Option Nat} (hr : firstFrom p (n - k) k = r) (hk : k < n) (hp : p k = true) : r = some k := by
  obtain ⟨d, hd⟩ : ∃ d, n - k = d + 1 := ⟨n - k - 1, by omega⟩
  rw [hd, firstFrom, if_pos hp] at hr
  exact hr.symm
theorem first_no {p : Nat → Bool} {n k : Nat} {r : Option Nat} (hr : firstFrom p (n - k) k = r) (hk : k < n) (hp : p k = false) : firstFrom p (n - (k + 1)) (k + 1) = r := by
  obtain ⟨d, hd⟩ : ∃ d, n - k = d + 1 := ⟨n - k - 1, by omega⟩
  rw [hd, firstFrom, if_neg (by rw [hp]; simp)] at hr
  rw [show n - (k + 1) = d by omega]
  exact hr
theorem first_end {p : Nat → Bool} {n : Nat} {r : Option Nat} (hr : firstFrom p (n - n) n = r) : r = none := by
  rw [Nat.sub_self] at hr
  exact hr.symm
theorem first_shift (p : Nat → Bool) (a : Nat) : ∀ d k, firstFrom p d (k + a) = (firstFrom (fun j => p (j + a)) d k).map (· + a)
  | 0, _ => rfl
  | d + 1, k => by
    unfold firstFrom
    by_cases h : p (k + a) = true
    · simp [h]
    · rw [if_neg h, if_neg h, ← first_shift p a d (k + 1)]
      congr 1
      omega
theorem first_ext {p q : Nat → Bool} : ∀ {d k : Nat}, (∀ j, k ≤ j → j < k + d → p j = q j) → firstFrom p d k = firstFrom q d k
  | 0, _, _ => rfl
  | d + 1, k, h => by
    unfold firstFrom
    rw [h k (by omega) (by omega), first_ext (d := d) (k := k + 1) fun j h1 h2 => h j (by omega) (by omega)]
theorem first_lt {p : Nat → Bool} : ∀ {d k i : Nat}, firstFrom p d k = some i → k ≤ i ∧ i < k + d ∧ p i = true
  | 0, _, _, h => by cases h
  | d + 1, k, i, h => by
    unfold firstFrom at h
    by_cases hp : p k = true
    · rw [if_pos hp] at h
      cases h
      exact ⟨Nat.le_refl _, by omega, hp⟩
    · rw [if_neg hp] at h
      have := first_lt h
      exact ⟨by omega, by omega, this.2.2⟩
theorem first_none {p : Nat → Bool} : ∀ {d k : Nat}, firstFrom p d k = none → ∀ i, k ≤ i → i < k + d → p i = false
  | 0, _, _, i, h1, h2 => by omega
  | d + 1, k, h, i, h1, h2 => by
    unfold firstFrom at h
    by_cases hp : p k = true
    · rw [if_pos hp] at h; cases h
    · rw [if_neg hp] at h
      rcases Nat.eq_or_lt_of_le h1 with rfl | h3
      · simpa using hp
      · exact first_none h i h3 (by omega)
/-- a place, or -1 -/
def optI : Option Nat → Int
  | none => -1
  | some i => i
def seenB (a x : Nat) : Bool := (seenL a).contains x
theorem contains_snoc (xs : List Nat) (x m : Nat) : (xs ++ [x]).contains m = (xs.contains m || x == m) := by
  rw [Bool.eq_iff_iff]
  simp only [List.contains_eq_mem, List.mem_append, List.mem_singleton, Bool.or_eq_true, decide_eq_true_eq, beq_iff_eq]
  exact ⟨fun h => h.imp id Eq.symm, fun h => h.imp id Eq.symm⟩
theorem at_get {xs : List Nat} {k x : Nat} (h : xs[k]? = some x) : xs.getD k 0 = x := by simp [h]

set_option maxHeartbeats 2000000 in
theorem l06Has_any (A : Option Addr) (n c : Nat) (xs : List Nat) (en : n = xs.length) (hn : n ≤ 9223372036854775807) (m : Nat) (b : Bool) (hb : xs.contains m = b) (B : Nat) (w : World) (hg : Sl marS.C 1 w B A xs) :
    Calls Tryd.prog 87 #[.slice A n c, .int .u16 m] w fun o w' => o = .returned (.bool b) ∧ w = w' := by
  have En := Lib.hid en
  have HB := Lib.hid hb
  clear en hb
  go_enter Tryd.func87, Tryd.ntmps87
  go_wp2_with fail
  go_loop [5] (fun vi => ∃ k : Nat, k ≤ n ∧ vi = .int .i64 k ∧ (xs.take k).contains m = false) (fun vi => n - (intOf vi).toNat)
  case atStart => exact ⟨0, by omega, rfl, by simp⟩
  case round =>
    obtain ⟨k, hk, rfl, hno⟩ := hrel
    have HN := Lib.hid hno
    clear hno
    by_cases hlt : k < n
    · obtain ⟨x, hx⟩ : ∃ x, xs[k]? = some x := ⟨xs[k]'(by have := En.out; omega), List.getElem?_eq_getElem _⟩
      obtain ⟨a, rfl, hab, hat⟩ := hg.at_ k x hx
      have q0 := marS.at_ hat
      have HX := Lib.hid hx
      clear hx hat
      by_cases hxm : x = m
      · subst hxm
        have e1 : b = true := HB.out.symm.trans (by simpa using List.mem_of_getElem? HX.out)
        subst e1
        go_wp2_with fail
        go_ret
        exact ⟨rfl, rfl⟩
      · have hne : ((x : Int) == (m : Int)) = false := by rw [beq_eq_false_iff_ne]; omega
        go_wp2_with fail
        go_round
        case rel => exact ⟨k + 1, by omega, by go_num, by rw [take_snoc HX.out, contains_snoc, HN.out]; simpa using hxm⟩
        case measure => simp [intOf]; omega
    · obtain rfl : k = n := by omega
      have e1 : b = false := by
        rw [← HB.out, ← HN.out, List.take_of_length_le (by have := En.out; omega)]
      subst e1
      go_wp2_with fail
      go_ret
      exact ⟨rfl, rfl⟩
set_option maxHeartbeats 2000000 in
theorem Index_any (A : Option Addr) (n c : Nat) (xs : List Nat) (en : n = xs.length) (hn : n ≤ 9223372036854775807) (m : Nat) (B : Nat) (w : World) (hg : Sl marS.C 1 w B A xs) (r : Option Nat) (hr : firstFrom (fun j => xs.getD j 0 == m) n 0 = r) :
    Calls Tryd.prog 96 #[.slice A n c, .int .u16 m] w fun o w' => o = .returned (.int .i64 (optI r)) ∧ w = w' := by
  have En := Lib.hid en
  have HR := Lib.hid hr
  clear en hr
  go_enter Tryd.func96, Tryd.ntmps96
  go_wp2_with fail
  go_loop [5, 8] (fun _ vi => ∃ k : Nat, k ≤ n ∧ vi = .int .i64 k ∧ firstFrom (fun j => xs.getD j 0 == m) (n - k) k = r) (fun _ vi => n - (intOf vi).toNat)
  case atStart => exact ⟨0, by omega, rfl, HR.out⟩
  case round =>
    obtain ⟨k, hk, rfl, hno⟩ := hrel
    have HN := Lib.hid hno
    clear hno
    by_cases hlt : k < n
    · obtain ⟨x, hx⟩ : ∃ x, xs[k]? = some x := ⟨xs[k]'(by have := En.out; omega), List.getElem?_eq_getElem _⟩
      obtain ⟨a, rfl, hab, hat⟩ := hg.at_ k x hx
      have q0 := marS.at_ hat
      have HX := Lib.hid hx
      clear hx hat
      by_cases hxm : x = m
      · subst hxm
        obtain rfl := first_yes HN.out hlt (by rw [at_get HX.out]; simp)
        go_wp2_with fail
        go_ret
        exact ⟨rfl, rfl⟩
      · have hne : ((m : Int) == (x : Int)) = false := by rw [beq_eq_false_iff_ne]; omega
        go_wp2_with fail
        go_round
        case rel => exact ⟨k + 1, by omega, by go_num, first_no HN.out hlt (by rw [at_get HX.out]; simpa using hxm)⟩
        case measure => simp [intOf]; omega
    · obtain rfl : k = n := by omega
      obtain rfl := first_end HN.out
      go_wp2_with fail
      go_ret
      exact ⟨rfl, rfl⟩
theorem first_contains {xs : List Nat} {m : Nat} {r : Option Nat} (hr : firstFrom (fun j => xs.getD j 0 == m) xs.length 0 = r) : xs.contains m = decide (0 ≤ optI r) := by
  cases r with
  | none =>
    have h : xs.contains m = false := by
      cases hc : xs.contains m with
      | false => rfl
      | true =>
        have hm : m ∈ xs := by simpa using hc
        obtain ⟨i, hi⟩ := List.mem_iff_getElem?.1 hm
        have := first_none hr i (by omega) (by have := (List.getElem?_eq_some_iff.1 hi).1; omega)
        rw [at_get hi] at this
        simp at this
    rw [h]; rfl
  | some i =>
    obtain ⟨_, h2, h3⟩ := first_lt hr
    have hi : i < xs.length := by omega
    have e : xs.getD i 0 = m := by simpa using h3
    have hm : m ∈ xs := by
      rw [← e]
      simp [hi]
    have h : xs.contains m = true := by simpa using hm
    rw [h]
    simp [optI]
set_option maxHeartbeats 2000000 in
theorem Contains_any (A : Option Addr) (n c : Nat) (xs : List Nat) (en : n = xs.length) (hn : n ≤ 9223372036854775807) (m : Nat) (b : Bool) (hb : xs.contains m = b) (B : Nat) (w : World) (hg : Sl marS.C 1 w B A xs) :
    Calls Tryd.prog 95 #[.slice A n c, .int .u16 m] w fun o w' => o = .returned (.bool b) ∧ w = w' := by
  obtain ⟨r, hr⟩ : ∃ r, firstFrom (fun j => xs.getD j 0 == m) n 0 = r := ⟨_, rfl⟩
  have HI := Lib.hid (Index_any A n c xs en hn m B w hg r hr)
  have hbr : decide (0 ≤ optI r) = b := by
    rw [← hb]
    subst en
    exact (first_contains hr).symm
  obtain ⟨i, hi⟩ : ∃ i, optI r = i := ⟨_, rfl⟩
  rw [hi] at HI hbr
  have HBR := Lib.hid hbr
  clear hr hb en hbr hi
  go_enter Tryd.func95, Tryd.ntmps95
  go_wp2_with fail
  refine HI.out.mono ?_
  rintro o w1 ⟨rfl, rfl⟩
  go_wp2_with fail
  go_ret
  exact ⟨ret_bool HBR.out, rfl⟩
set_option maxHeartbeats 2000000 in
theorem isSeenOf_any (m o : Nat) (ho : o < 65536) (w : World) :
    Calls Tryd.prog 88 #[.int .u16 m, .int .u16 o] w fun r w' => r = .returned (.bool (seenB o m)) ∧ Below w.heap.size w w' := by
  have HS := Lib.hid (seenOf_any o ho)
  obtain ⟨b, hb0⟩ : ∃ b, seenB o m = b := ⟨_, rfl⟩
  rw [hb0]
  have HB0 : Hid ((seenL o).contains m = b) := Lib.hid hb0
  clear ho hb0
  go_enter Tryd.func88, Tryd.ntmps88
  go_wp2_with fail
  refine (HS.out _).mono ?_
  rintro r w1 ⟨v, n, rfl, hP, hb⟩
  obtain ⟨A, c, rfl, _⟩ := owns_slice hP
  have hl := owns_len hP (marS.len _) (by decide)
  have hle := seenL_len o
  have HSl := Lib.hid (Sl.of_owns hP (marS.len _) (by decide))
  have HB := Lib.hid hb
  have HL := Lib.hid hl
  have hn17 : n ≤ 17 := by rw [hl]; exact hle
  clear hP hb hl hle
  go_wp2_with fail
  refine (Contains_any A n c (seenL o) HL.out (by omega) m b HB0.out _ _ HSl.out).mono ?_
  rintro r w2 ⟨rfl, rfl⟩
  go_wp2_with fail
  go_ret
  exact ⟨rfl, HB.out⟩
end Go.Proofs.YtlembainfhnnbaaDoor.mks

/-
  Marks that are told apart: looked for by the program and by the model.
-/
namespace Go.Proofs.YtlembainfhnnbaaDoor.mks
open Go Go.RowKit sl stk

set_option maxRecDepth 100000 in
set_option maxHeartbeats 4000000 in
theorem IndexFuncClash_any (A : Option Addr) (n c : Nat) (xs : List Nat) (en : n = xs.length) (hn : n ≤ 9223372036854775807) (hf : ∀ x ∈ xs, x < 65536) (m : Nat) (hm : m < 65536) (w : World) (hg : Sl marS.C 1 w w.heap.size A xs) (r : Option Nat) (hr : firstFrom (fun j => clash m (xs.getD j 0)) n 0 = r) :
    Calls Tryd.prog 82 #[.slice A n c, .func (.func 69) #[.int .u16 m] #[]] w fun o w' => o = .returned (.int .i64 (optI r)) ∧ Below w.heap.size w w' := by
  have En := Lib.hid en
  have HR := Lib.hid hr
  have HF := Lib.hid hf
  have HM := Lib.hid hm
  clear en hr hf hm
  go_enter Tryd.func82, Tryd.ntmps82
  go_wp2_with fail
  go_loopw [5, 8] (fun _ vi wr => ∃ k : Nat, k ≤ n ∧ vi = .int .i64 k ∧ firstFrom (fun j => clash m (xs.getD j 0)) (n - k) k = r ∧ Below w.heap.size w wr) (fun _ vi _ => n - (intOf vi).toNat)
  case atStart => exact ⟨0, by omega, rfl, HR.out, Below.refl _ _⟩
  case round =>
    obtain ⟨k, hk, rfl, hno, hB⟩ := hrel
    have HN := Lib.hid hno
    have HB := Lib.hid hB
    clear hno hB
    by_cases hlt : k < n
    · obtain ⟨x, hx⟩ : ∃ x, xs[k]? = some x := ⟨xs[k]'(by have := En.out; omega), List.getElem?_eq_getElem _⟩
      obtain ⟨a, rfl, hab, hat⟩ := (hg.below HB.out).at_ k x hx
      have q0 := marS.at_ hat
      have HX := Lib.hid hx
      have HC := Lib.hid (fun u => clashes_any m x HM.out (HF.out x (List.mem_of_getElem? HX.out)) u)
      clear hx hat
      cases hc : clash m x with
      | true =>
        rw [hc] at HC
        obtain rfl := first_yes HN.out hlt (by simp only [at_get HX.out]; exact hc)
        clear hc
        go_wp2_with fail
        refine (HC.out _).mono ?_
        rintro o w1 ⟨rfl, nd, rfl⟩
        have hbn := below_drewN wr.heap.size wr nd
        have HB1 := Lib.hid (below_next HB.out hbn (Nat.le_refl _))
        clear hbn
        go_wp2_with fail
        go_ret
        exact ⟨rfl, by first | exact HB1.out | exact HB1.out.trans (Below.refl _ _)⟩
      | false =>
        rw [hc] at HC
        have hnx := first_no HN.out hlt (by simp only [at_get HX.out]; exact hc)
        have HNX := Lib.hid hnx
        clear hc hnx
        go_wp2_with fail
        refine (HC.out _).mono ?_
        rintro o w1 ⟨rfl, nd, rfl⟩
        have hbn := below_drewN wr.heap.size wr nd
        have HB1 := Lib.hid (below_next HB.out hbn (Nat.le_refl _))
        clear hbn
        go_wp2_with fail
        go_roundw
        case rel => exact ⟨k + 1, by omega, by go_num, HNX.out, HB1.out⟩
        case measure => simp [intOf]; omega
    · obtain rfl : k = n := by omega
      obtain rfl := first_end HN.out
      go_wp2_with fail
      go_ret
      exact ⟨rfl, HB.out⟩

set_option maxRecDepth 100000 in
set_option maxHeartbeats 4000000 in
theorem IndexFuncSeen_any (A : Option Addr) (n c : Nat) (xs : List Nat) (en : n = xs.length) (hn : n ≤ 9223372036854775807) (hf : ∀ x ∈ xs, x < 65536) (m : Nat) (hm : m < 65536) (w : World) (hg : Sl marS.C 1 w w.heap.size A xs) (r : Option Nat) (hr : firstFrom (fun j => seenB (xs.getD j 0) m) n 0 = r) :
    Calls Tryd.prog 82 #[.slice A n c, .func (.func 88) #[.int .u16 m] #[]] w fun o w' => o = .returned (.int .i64 (optI r)) ∧ Below w.heap.size w w' := by
  have En := Lib.hid en
  have HR := Lib.hid hr
  have HF := Lib.hid hf
  have HM := Lib.hid hm
  clear en hr hf hm
  go_enter Tryd.func82, Tryd.ntmps82
  go_wp2_with fail
  go_loopw [5, 8] (fun _ vi wr => ∃ k : Nat, k ≤ n ∧ vi = .int .i64 k ∧ firstFrom (fun j => seenB (xs.getD j 0) m) (n - k) k = r ∧ Below w.heap.size w wr) (fun _ vi _ => n - (intOf vi).toNat)
  case atStart => exact ⟨0, by omega, rfl, HR.out, Below.refl _ _⟩
  case round =>
    obtain ⟨k, hk, rfl, hno, hB⟩ := hrel
    have HN := Lib.hid hno
    have HB := Lib.hid hB
    clear hno hB
    by_cases hlt : k < n
    · obtain ⟨x, hx⟩ : ∃ x, xs[k]? = some x := ⟨xs[k]'(by have := En.out; omega), List.getElem?_eq_getElem _⟩
      obtain ⟨a, rfl, hab, hat⟩ := (hg.below HB.out).at_ k x hx
      have q0 := marS.at_ hat
      have HX := Lib.hid hx
      have HC := Lib.hid (fun u => isSeenOf_any m x (HF.out x (List.mem_of_getElem? HX.out)) u)
      clear hx hat
      cases hc : seenB x m with
      | true =>
        rw [hc] at HC
        obtain rfl := first_yes HN.out hlt (by simp only [at_get HX.out]; exact hc)
        clear hc
        go_wp2_with fail
        refine (HC.out _).mono ?_
        rintro o w1 ⟨rfl, hbn⟩
        skip
        have HB1 := Lib.hid (below_next HB.out hbn (Nat.le_refl _))
        clear hbn
        go_wp2_with fail
        go_ret
        exact ⟨rfl, by first | exact HB1.out | exact HB1.out.trans (Below.refl _ _)⟩
      | false =>
        rw [hc] at HC
        have hnx := first_no HN.out hlt (by simp only [at_get HX.out]; exact hc)
        have HNX := Lib.hid hnx
        clear hc hnx
        go_wp2_with fail
        refine (HC.out _).mono ?_
        rintro o w1 ⟨rfl, hbn⟩
        skip
        have HB1 := Lib.hid (below_next HB.out hbn (Nat.le_refl _))
        clear hbn
        go_wp2_with fail
        go_roundw
        case rel => exact ⟨k + 1, by omega, by go_num, HNX.out, HB1.out⟩
        case measure => simp [intOf]; omega
    · obtain rfl : k = n := by omega
      obtain rfl := first_end HN.out
      go_wp2_with fail
      go_ret
      exact ⟨rfl, HB.out⟩

theorem any_seen (a b : Nat) (ha : a < 65536) (hb : b < 65536) : (seenL a).any (fun x => (seenL b).contains x) = clash a b := by
  rw [Bool.eq_iff_iff, clash_iff ha hb]
  simp only [List.any_eq_true, List.contains_eq_mem, decide_eq_true_eq]
theorem any_take {xs : List Nat} {p : Nat → Bool} {k x : Nat} (hx : xs[k]? = some x) : (xs.take (k + 1)).any p = ((xs.take k).any p || p x) := by
  rw [take_snoc hx, List.any_append]
  simp
set_option maxRecDepth 100000 in
set_option maxHeartbeats 4000000 in
theorem l06Apart_any (a b : Nat) (ha : a < 65536) (hb : b < 65536) (t : Bool) (ht : clash a b = t) (w : World) :
    Calls Tryd.prog 65 #[.int .u16 a, .int .u16 b] w fun o w' => o = .returned (.bool (!t)) ∧ Below w.heap.size w w' := by
  have HA := Lib.hid (l06Seen_any a ha)
  have HB := Lib.hid (l06Seen_any b hb)
  have HT := Lib.hid ((any_seen a b ha hb).trans ht)
  have ha17 := seenL_len a
  have hb17 := seenL_len b
  clear ha hb ht
  go_enter Tryd.func65, Tryd.ntmps65
  go_wp2_with fail
  refine (HA.out _).mono ?_
  rintro o w1 ⟨v, n, rfl, hP, hb1⟩
  obtain ⟨A, c, rfl, _⟩ := owns_slice hP
  have hl := owns_len hP (marS.len _) (by decide)
  have hS1 := Sl.of_owns hP (marS.len _) (by decide)
  have HB1 := Lib.hid hb1
  have hn17 : n ≤ 17 := by rw [hl]; exact ha17
  have HL := Lib.hid hl
  have HS1 := Lib.hid hS1
  clear hP hb1 hl hS1
  go_wp2_with fail
  refine (HB.out _).mono ?_
  rintro o w2 ⟨v, n', rfl, hP, hb2⟩
  obtain ⟨A', c', rfl, _⟩ := owns_slice hP
  have hl := owns_len hP (marS.len _) (by decide)
  have HS2 := Lib.hid (Sl.of_owns hP (marS.len _) (by decide))
  have HS1 := Lib.hid (HS1.out.next hb2)
  have HB2 := Lib.hid (below_next HB1.out hb2 (Nat.le_refl _))
  have hm17 : n' ≤ 17 := by rw [hl]; exact hb17
  have HL' := Lib.hid hl
  clear hP hb2 hl ha17 hb17
  go_wp2_with fail
  go_loop [7] (fun vi => ∃ k : Nat, k ≤ n ∧ vi = .int .i64 k ∧ ((seenL a).take k).any (fun x => (seenL b).contains x) = false) (fun vi => n - (intOf vi).toNat)
  case atStart => exact ⟨0, by omega, rfl, by simp⟩
  case round =>
    obtain ⟨k, hk, rfl, hno⟩ := hrel
    have HN := Lib.hid hno
    clear hno
    by_cases hlt : k < n
    · obtain ⟨x, hx⟩ : ∃ x, (seenL a)[k]? = some x := ⟨(seenL a)[k]'(by have := HL.out; omega), List.getElem?_eq_getElem _⟩
      obtain ⟨p, rfl, hab, hat⟩ := HS1.out.at_ k x hx
      have q0 := marS.at_ hat
      have HX := Lib.hid (any_take (p := fun x => (seenL b).contains x) hx)
      have HXM := Lib.hid (List.mem_of_getElem? hx)
      clear hx hat
      cases hc : (seenL b).contains x with
      | true =>
        have HH := Lib.hid (l06Has_any A' n' c' (seenL b) HL'.out (by omega) x true hc _ _ HS2.out)
        have e1 : t = true := by
          rw [← HT.out]
          simp only [List.any_eq_true]
          exact ⟨x, HXM.out, hc⟩
        subst e1
        clear hc
        go_wp2_with fail
        refine HH.out.mono ?_
        rintro o w3 ⟨rfl, rfl⟩
        go_wp2_with fail
        go_ret
        exact ⟨rfl, HB2.out⟩
      | false =>
        have HH := Lib.hid (l06Has_any A' n' c' (seenL b) HL'.out (by omega) x false hc _ _ HS2.out)
        have HC := Lib.hid hc
        clear hc
        go_wp2_with fail
        refine HH.out.mono ?_
        rintro o w3 ⟨rfl, rfl⟩
        go_wp2_with fail
        go_round
        case rel => exact ⟨k + 1, by omega, by go_num, by rw [HX.out, HN.out, HC.out]; rfl⟩
        case measure => simp [intOf]; omega
    · obtain rfl : k = n := by omega
      have e1 : t = false := by
        rw [← HT.out, ← HN.out, List.take_of_length_le (by have := HL.out; omega)]
      subst e1
      go_wp2_with fail
      go_ret
      exact ⟨rfl, HB2.out⟩
/-- the first pair -/
def pairFrom (q : Nat → Option Nat) : Nat → Nat → Option (Nat × Nat)
  | 0, _ => none
  | d + 1, i => match q i with
    | some k => some (i, k)
    | none => pairFrom q d (i + 1)
theorem pair_yes {q : Nat → Option Nat} {n i k : Nat} {r : Option (Nat × Nat)} (hr : pairFrom q (n - i) i = r) (hi : i < n) (hq : q i = some k) : r = some (i, k) := by
  obtain ⟨d, hd⟩ : ∃ d, n - i = d + 1 := ⟨n - i - 1, by omega⟩
  rw [hd, pairFrom, hq] at hr
  exact hr.symm
theorem pair_no {q : Nat → Option Nat} {n i : Nat} {r : Option (Nat × Nat)} (hr : pairFrom q (n - i) i = r) (hi : i < n) (hq : q i = none) : pairFrom q (n - (i + 1)) (i + 1) = r := by
  obtain ⟨d, hd⟩ : ∃ d, n - i = d + 1 := ⟨n - i - 1, by omega⟩
  rw [hd, pairFrom, hq] at hr
  rw [show n - (i + 1) = d by omega]
  exact hr
theorem pair_end {q : Nat → Option Nat} {n : Nat} {r : Option (Nat × Nat)} (hr : pairFrom q (n - n) n = r) : r = none := by
  rw [Nat.sub_self] at hr
  exact hr.symm
/-- the first mark behind i that is not told apart from it -/
def behind (xs : List Nat) (i : Nat) : Option Nat := firstFrom (fun k => clash (xs.getD i 0) (xs.getD k 0)) (xs.length - (i + 1)) (i + 1)
def clashF (xs : List Nat) : Option (Nat × Nat) := pairFrom (behind xs) xs.length 0
end Go.Proofs.YtlembainfhnnbaaDoor.mks

/-
  The first pair of marks that are not told apart: the model's.
-/
namespace Go.Proofs.YtlembainfhnnbaaDoor.mks
open Go Go.RowKit sl stk

def fstI : Option (Nat × Nat) → Int
  | none => -1
  | some p => p.1
def sndI : Option (Nat × Nat) → Int
  | none => -1
  | some p => p.2
/-- two marks in memory -/
def Two (p p' : Addr) (x y : Nat) (W u : World) : Prop := u.cell? p = some (.int .u16 x) ∧ u.cell? p' = some (.int .u16 y) ∧ Below W.heap.size W u
theorem Two.next {p p' : Addr} {x y : Nat} {W u v : World} (h : Two p p' x y W u) (hp : p.block < W.heap.size) (hp' : p'.block < W.heap.size) (hb : Below u.heap.size u v) : Two p p' x y W v := by
  obtain ⟨h0, h1, hB⟩ := h
  have k := hb.mono hB.size
  exact ⟨(k.cell (p := p) hp).trans h0, (k.cell (p := p') hp').trans h1, hB.trans k⟩

set_option maxRecDepth 100000 in
set_option maxHeartbeats 8000000 in
theorem l06Clash_any (A : Option Addr) (n c : Nat) (xs : List Nat) (en : n = xs.length) (hn : n ≤ 1048576) (hf : ∀ x ∈ xs, x < 65536) (r : Option (Nat × Nat)) (hr : clashF xs = r) (w : World) (hg : Sl marS.C 1 w w.heap.size A xs) :
    Calls Tryd.prog 56 #[.slice A n c] w fun o w' => o = .returned (.tuple #[.int .i64 (fstI r), .int .i64 (sndI r)]) ∧ Below w.heap.size w w' := by
  have hr' : pairFrom (behind xs) (n - 0) 0 = r := by rw [en]; exact hr
  have En := Lib.hid en
  have HR := Lib.hid hr'
  have HF := Lib.hid hf
  clear en hr hr' hf
  go_enter Tryd.func56, Tryd.ntmps56
  go_wp2_with fail
  go_loopw [4, 5] (fun vi _ wr => ∃ i : Nat, i ≤ n ∧ vi = .int .i64 i ∧ pairFrom (behind xs) (n - i) i = r ∧ Below w.heap.size w wr) (fun vi _ _ => n - (intOf vi).toNat)
  case atStart => exact ⟨0, by omega, rfl, HR.out, Below.refl _ _⟩
  case round =>
    obtain ⟨i, hi, rfl, hq, hB⟩ := hrel
    have HQ := Lib.hid hq
    have HB := Lib.hid hB
    clear hq hB
    by_cases hlt : i < n
    · obtain ⟨x, hx⟩ : ∃ x, xs[i]? = some x := ⟨xs[i]'(by have := En.out; omega), List.getElem?_eq_getElem _⟩
      have HX := Lib.hid hx
      obtain ⟨f, hf⟩ : ∃ f, behind xs i = f := ⟨_, rfl⟩
      have HFF := Lib.hid hf
      have hf2 : firstFrom (fun k => clash (xs.getD i 0) (xs.getD k 0)) (n - (i + 1)) (i + 1) = f := by rw [← hf, behind, ← En.out]
      have HF2 := Lib.hid hf2
      obtain ⟨wo, rfl⟩ : ∃ wo, wo = wr := ⟨wr, rfl⟩
      clear hx hf hf2
      go_wp2_with fail
      go_loopw [5] (fun vk wr => ∃ k : Nat, k ≤ n ∧ vk = .int .i64 k ∧ firstFrom (fun k => clash (xs.getD i 0) (xs.getD k 0)) (n - k) k = f ∧ Below w.heap.size w wr) (fun vk _ => n - (intOf vk).toNat)
      case atStart => exact ⟨i + 1, by omega, by go_num, HF2.out, HB.out⟩
      case round =>
        obtain ⟨k, hk, rfl, hq, hB⟩ := hrel
        have HK := Lib.hid hq
        have HB2 := Lib.hid hB
        clear hq
        by_cases hlk : k < n
        · obtain ⟨y, hy⟩ : ∃ y, xs[k]? = some y := ⟨xs[k]'(by have := En.out; omega), List.getElem?_eq_getElem _⟩
          obtain ⟨a, rfl, hab, hat⟩ := (hg.below hB).at_ i x HX.out
          obtain ⟨a', e, hab', hat'⟩ := (hg.below hB).at_ k y hy
          cases e
          have q0 := marS.at_ hat
          have r0 := marS.at_ hat'
          have HY := Lib.hid hy
          have h8 : Two (a.add i) (a.add k) x y w wr := ⟨q0, r0, hB⟩
          have H8 := Lib.hid h8
          have hp : (a.add i).block < w.heap.size := by rw [block_add]; exact hab
          have hp' : (a.add k).block < w.heap.size := by rw [block_add]; exact hab
          have hcl : clash (xs.getD i 0) (xs.getD k 0) = clash x y := by rw [at_get HX.out, at_get hy]
          have HXL := Lib.hid (HF.out x (List.mem_of_getElem? HX.out))
          have HYL := Lib.hid (HF.out y (List.mem_of_getElem? hy))
          clear hy hat hat' h8 hB q0 r0
          cases hc : clash x y with
          | true =>
            have HA := Lib.hid (fun u => l06Apart_any x y HXL.out HYL.out true hc u)
            obtain rfl := first_yes HK.out hlk (hcl.trans hc)
            obtain rfl := pair_yes HQ.out hlt HFF.out
            clear hc hcl
            obtain ⟨t0, t1, t2⟩ := H8.out
            go_wp2_with fail
            go_region_held3 (fun u => u.cell? (a.add i) = some (.int .u16 x) ∧ u.cell? (a.add k) = some (.int .u16 y) ∧ Below w.heap.size w u)
              (first | exact H8.out.next hp hp' (below_drewN _ wr 1) | exact Two.next (by assumption) hp hp' hb2)
              (first | (go_at_call 65; refine (HA.out _).mono ?_; rintro e w2 ⟨rfl, hb2⟩) | fail)
            go_wp2_with fail
            go_ret2
            exact ⟨rfl, (show Two (a.add i) (a.add k) x y w w2 by assumption).2.2⟩
          | false =>
            have HA := Lib.hid (fun u => l06Apart_any x y HXL.out HYL.out false hc u)
            have hnx := first_no HK.out hlk (hcl.trans hc)
            have HNX := Lib.hid hnx
            clear hc hcl hnx
            obtain ⟨t0, t1, t2⟩ := H8.out
            go_wp2_with fail
            go_region_held3 (fun u => u.cell? (a.add i) = some (.int .u16 x) ∧ u.cell? (a.add k) = some (.int .u16 y) ∧ Below w.heap.size w u)
              (first | exact H8.out.next hp hp' (below_drewN _ wr 1) | exact Two.next (by assumption) hp hp' hb2)
              (first | (go_at_call 65; refine (HA.out _).mono ?_; rintro e w2 ⟨rfl, hb2⟩) | fail)
            go_wp2_with fail
            go_roundw
            case rel => exact ⟨k + 1, by omega, by go_num, HNX.out, (show Two (a.add i) (a.add k) x y w w2 by assumption).2.2⟩
            case measure => simp [intOf]; omega
        · obtain rfl : k = n := by omega
          obtain rfl := first_end HK.out
          have hnx := pair_no HQ.out hlt HFF.out
          have HNX := Lib.hid hnx
          clear hnx
          go_wp2_with fail
          go_roundw
          case rel => exact ⟨i + 1, by omega, by go_num, HNX.out, HB2.out⟩
          case measure => simp [intOf]; omega
    · obtain rfl : i = n := by omega
      obtain rfl := pair_end HQ.out
      go_wp2_with fail
      go_ret2
      exact ⟨rfl, HB.out⟩
end Go.Proofs.YtlembainfhnnbaaDoor.mks
