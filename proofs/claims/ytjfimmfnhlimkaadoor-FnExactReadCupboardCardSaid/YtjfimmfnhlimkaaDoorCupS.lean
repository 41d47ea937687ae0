/-
  Valid cupboards, the model's.
-/
import Derived.Test.YtjfimmfnhlimkaaDoorJoin3
import Derived.Test.YtjfimmfnhlimkaaDoorJoin13
import Derived.Test.YtjfimmfnhlimkaaDoorJoin14
import Derived.Deep.Onto
import Derived.Laws.AppendOwn
namespace Go.Proofs.YtjfimmfnhlimkaaDoor.cup
open Go Go.RowKit sl errs fold rows hang

theorem l04Number_b (n : Int) (b : Bool) (hb : inF n 0 999 = b) (w : World) :
    Calls Tryd.prog 146 #[.int .i64 n] w fun o w' => o = .returned (.bool b) ∧ w = w' := by
  go_enter Tryd.func146, Tryd.ntmps146
  go_wp2_with fail
  refine (fold.l00In_b n 0 999 b hb _).mono ?_
  rintro o u ⟨rfl, rfl⟩
  go_wp2_with fail
  go_ret
  exact ⟨rfl, rfl⟩
set_option maxHeartbeats 1000000 in
theorem l00Has_b (A : Option Addr) (n c : Nat) (xs : List Int) (x : Int) (en : n = xs.length) (hn : n ≤ 9223372036854775807) (w : World) (B : Nat) (hg : Sl intS.C 1 w B A xs) (b : Bool) (hb : b = true ↔ x ∈ xs) :
    Calls Tryd.prog 147 #[.slice A n c, .int .i64 x] w fun o w' => o = .returned (.bool b) ∧ w = w' := by
  have En := Lib.hid en
  have Hb := Lib.hid hb
  clear en hb
  go_enter Tryd.func147, Tryd.ntmps147
  go_wp2_with fail
  go_loop [5] (fun vi => ∃ k : Nat, k ≤ n ∧ vi = .int .i64 k ∧ ∀ i y, i < k → xs[i]? = some y → y ≠ x) (fun vi => n - (intOf vi).toNat)
  case atStart => exact ⟨0, by omega, rfl, fun i y hi => absurd hi (by omega)⟩
  case round =>
    obtain ⟨k, hk, rfl, hno⟩ := hrel
    have HN := Lib.hid hno
    clear hno
    by_cases hlt : k < n
    · obtain ⟨y, hy⟩ : ∃ y, xs[k]? = some y := ⟨xs[k]'(by have := En.out; omega), List.getElem?_eq_getElem _⟩
      obtain ⟨a, rfl, hab, hat⟩ := hg.at_ k y hy
      have q0 := intS.at_ hat
      have HY := Lib.hid hy
      clear hy hat
      by_cases hxy : y = x
      · have hB : b = true := Hb.out.2 (by rw [← hxy]; exact List.mem_of_getElem? HY.out)
        subst hxy hB
        go_wp2_with fail
        go_ret
        exact ⟨rfl, rfl⟩
      · have hne : (y == x) = false := by rw [beq_eq_false_iff_ne]; exact hxy
        have HXY := Lib.hid hxy
        clear hxy
        go_wp2_with fail
        go_round
        case rel => exact ⟨k + 1, by omega, by go_num, fun i z hi hz => by
          rcases Nat.lt_or_ge i k with h1 | h1
          · exact HN.out i z h1 hz
          · obtain rfl : i = k := by omega
            have := HY.out
            rw [hz] at this
            rw [Option.some.inj this]
            exact HXY.out⟩
        case measure => simp [intOf]; omega
    · obtain rfl : k = n := by omega
      have hB : b = false := by
        cases hbb : b with
        | false => rfl
        | true =>
          obtain ⟨i, hi⟩ := List.mem_iff_getElem?.1 (Hb.out.1 hbb)
          exact absurd rfl (HN.out i x (by have := (List.getElem?_eq_some_iff.1 hi).1; have := En.out; omega) hi)
      subst hB
      go_wp2_with fail
      go_ret
      exact ⟨rfl, rfl⟩
set_option maxRecDepth 100000 in
set_option maxHeartbeats 8000000 in
theorem l04Cupboard_any (A : Option Addr) (n c : Nat) (rs : List Rw) (en : n = rs.length) (hn : n ≤ 9223372036854775807) (w : World) (hg : SS w w.heap.size A rs) (b : Bool) (hb : b = true ↔ CupOk (nums rs)) :
    Calls Tryd.prog 106 #[.slice A n c] w fun o w' => o = .returned (.bool b) ∧ Below w.heap.size w w' := by
  obtain ⟨i0, hi, hz0, hz1, hz2⟩ := info_parts intS.info
  have En := Lib.hid en
  have Hb := Lib.hid hb
  clear en hb
  have hno : ¬ CupOk (nums rs) → b = false := fun h => by
    cases hbb : b with
    | false => rfl
    | true => exact absurd (Hb.out.1 hbb) h
  have HNO := Lib.hid hno
  clear hno
  go_enter Tryd.func106, Tryd.ntmps106
  have B1 := Lib.hid ((Below.refl w.heap.size w).alloc (Nat.le_refl _) (.cells #[] 2))
  have P1 := Lib.hid (owns_void w (b := w.heap.size) (Nat.le_refl _))
  go_wp2_with fail
  go_loopw [3, 4, 5] (fun vo vp _ wr => ∃ p : Nat, p ≤ n ∧ p ≤ 6 ∧ vp = .int .i64 p ∧ wr.ownsRow w.heap.size 2 1 vo (seenTo (nums rs) p 0).length ((seenTo (nums rs) p 0).flatMap intS.C) ∧ Fine (seenTo (nums rs) p 0) ∧ (seenTo (nums rs) p 0).length ≤ 8 * p ∧ (∀ i r, i < p → rs[i]? = some r → r.xs.length ≤ 8) ∧ Below w.heap.size w wr) (fun _ vp _ _ => n - (intOf vp).toNat)
  case atStart => exact ⟨0, by omega, by omega, rfl, P1.out, Fine.nil, by simp [seenTo_zero], fun i r hi => absurd hi (by omega), B1.out⟩
  case round =>
    clear B1 P1
    obtain ⟨p, hp, hp6, rfl, hP, hF, hL, hR, hB⟩ := hrel
    have HP := Lib.hid hP
    have HF := Lib.hid hF
    have HL := Lib.hid hL
    have HR := Lib.hid hR
    have HB := Lib.hid hB
    clear hP hF hL hR hB
    obtain ⟨wo, hwo⟩ : ∃ wo : World, wo = wr := ⟨_, rfl⟩
    subst hwo
    by_cases hlt : p < n
    · obtain ⟨r, hr⟩ : ∃ r, rs[p]? = some r := ⟨rs[p]'(by have := En.out; omega), List.getElem?_eq_getElem _⟩
      have hm := List.mem_of_getElem? hr
      obtain ⟨a, rfl, hab, q0⟩ := (hg.below HB.out).head hr
      have hsh := hg.short r hm
      unfold maxLen at hsh
      have HX : Hid ((nums rs)[p]? = some r.xs) := Lib.hid (by simp [nums, hr])
      have HM := Lib.hid hm
      have HRP := Lib.hid hr
      clear hr hm
      by_cases h8 : 8 < r.xs.length
      · have hbf := HNO.out (fun h => by have := h.high r.xs (List.mem_map_of_mem HM.out); omega)
        subst hbf
        go_wp2_with fail
        go_ret
        exact ⟨rfl, HB.out⟩
      · by_cases h6 : 6 ≤ p
        · have hbf := HNO.out (fun h => by have := h.most; simp only [nums, List.length_map] at this; have := En.out; omega)
          subst hbf
          go_wp2_with fail
          go_ret
          exact ⟨rfl, HB.out⟩
        · have QA := Lib.hid (fun (u : World) (hu : Below w.heap.size w u) => by
            obtain ⟨a', e', _, q⟩ := (hg.below hu).head HRP.out
            obtain rfl := Option.some.inj e'
            exact q)
          have SA := Lib.hid (fun (u : World) (hu : Below w.heap.size w u) => ((hg.below hu).more hu.size).each r HM.out)
          go_wp2_with fail
          go_loopw [3, 5] (fun vo vi wr => ∃ i : Nat, i ≤ r.xs.length ∧ vi = .int .i64 i ∧ wr.ownsRow w.heap.size 2 1 vo (seenTo (nums rs) p i).length ((seenTo (nums rs) p i).flatMap intS.C) ∧ Fine (seenTo (nums rs) p i) ∧ (seenTo (nums rs) p i).length ≤ 8 * p + i ∧ Below w.heap.size w wr) (fun _ vi _ => r.xs.length - (intOf vi).toNat)
          case atStart => exact ⟨0, by omega, rfl, HP.out, HF.out, HL.out, HB.out⟩
          case round =>
            clear q0 HP HF HL HB
            obtain ⟨i, hil, rfl, hP, hF, hL, hB⟩ := hrel
            have HP := Lib.hid hP
            have HF := Lib.hid hF
            have HB := Lib.hid hB
            have q0 := QA.out _ hB
            clear hP hF hB
            by_cases hit : i < r.xs.length
            · obtain ⟨x, hx⟩ : ∃ x, r.xs[i]? = some x := ⟨r.xs[i], List.getElem?_eq_getElem _⟩
              obtain ⟨ra, hra, hrb, hat⟩ := (SA.out _ HB.out).at_ i x hx
              have q1 := intS.at_ hat
              have HXI := Lib.hid hx
              rw [hra] at q0
              clear hx hat hra
              obtain ⟨t, ht⟩ : ∃ t, inF x 0 999 = t := ⟨_, rfl⟩
              have HT := Lib.hid ht
              clear ht
              cases t with
              | false =>
                have hbf := HNO.out (not_ok HX.out HXI.out (.inl (fun h => by have := (inF_iff x 0 999).2 h; rw [HT.out] at this; cases this)))
                subst hbf
                go_wp2_with fail
                refine (l04Number_b x false HT.out _).mono ?_
                rintro o u ⟨rfl, rfl⟩
                go_wp2_with fail
                go_ret
                exact ⟨rfl, HB.out⟩
              | true =>
                obtain ⟨Av, cv, rfl, _⟩ := owns_slice HP.out
                obtain ⟨s, hs⟩ := some_bool (x ∈ seenTo (nums rs) p i)
                have HS := Lib.hid hs
                clear hs
                go_wp2_with fail
                refine (l04Number_b x true HT.out _).mono ?_
                rintro o u ⟨rfl, rfl⟩
                go_wp2_with fail
                refine (l00Has_b Av _ cv _ x rfl (by omega) _ _ (Sl.of_owns HP.out (intS.len _) (by decide)) s HS.out).mono ?_
                rintro o u ⟨rfl, rfl⟩
                cases s with
                | true =>
                  have hbf := HNO.out (not_ok HX.out HXI.out (.inr (HS.out.1 rfl)))
                  subst hbf
                  go_wp2_with fail
                  go_ret
                  exact ⟨rfl, HB.out⟩
                | false =>
                  have HN : Hid (x ∉ seenTo (nums rs) p i) := Lib.hid (fun h => by have := HS.out.2 h; cases this)
                  have HE := Lib.hid (seenTo_step HX.out HXI.out)
                  go_wp2_with (first | (at_builtin; refine wpList_append_own _ rfl (.tmp 52) (.tmp 60) 101 rfl w.heap.size 2 i0 (.int .i64 0) 1 8 Tryd.underlying101 hi hz0 hz1 hz2 rfl (by decide) _ _ _ rfl (HP.out.alloc _) ⟨_, 0, none⟩ 1 1 [.int .i64 x] rfl rfl (one_newB _ _ _ _ (by simp)) (one_cellI (by rfl)) (by unfold maxLen; omega) (by omega) (by have := HB.out.size; simp; omega) ?_; intro v3 w5 hP5 hgr _; have B5 := Lib.hid (Below.grown (HB.out.alloc HB.out.size _) hgr (by have := HB.out.size; simp; omega) (fun g hg => (HP.out.lt g hg).1)); have HP5 := Lib.hid hP5; clear hP5 hgr) | fail)
                  go_roundw
                  case rel =>
                    have h5 := HP5.out
                    rw [← flat_snoc, ← HE.out] at h5
                    have e : (seenTo (nums rs) p i).length + 1 = (seenTo (nums rs) p (i + 1)).length := by rw [HE.out]; simp
                    rw [e] at h5
                    refine ⟨i + 1, by omega, by go_num, h5, ?_, by omega, B5.out⟩
                    rw [HE.out]
                    exact HF.out.snoc ((inF_iff x 0 999).1 HT.out) HN.out
                  case measure => simp [intOf]; omega
            · obtain rfl : i = r.xs.length := by omega
              go_wp2_with fail
              go_roundw
              case rel =>
                have e : seenTo (nums rs) (p + 1) 0 = seenTo (nums rs) p r.xs.length := by rw [seenTo_zero, seenTo_row HX.out]
                refine ⟨p + 1, by omega, by omega, by go_num, by rw [e]; exact HP.out, by rw [e]; exact HF.out, by rw [e]; omega, fun j r' hj hr' => ?_, HB.out⟩
                rcases Nat.lt_or_ge j p with h1 | h1
                · exact HR.out j r' h1 hr'
                · obtain rfl : j = p := by omega
                  have := HRP.out
                  rw [hr'] at this
                  rw [Option.some.inj this]
                  omega
              case measure => simp [intOf]; omega
    · obtain rfl : p = n := by omega
      have hl : (nums rs).length = p := by simp [nums, ← En.out]
      by_cases h0 : 0 < p
      · have hbt : b = true := Hb.out.2 (all_ok (by omega) (by omega) (fun xs hxs => by
          obtain ⟨r, hr, rfl⟩ := List.mem_map.1 hxs
          obtain ⟨j, hj⟩ := List.mem_iff_getElem?.1 hr
          exact HR.out j r (by have := (List.getElem?_eq_some_iff.1 hj).1; have := En.out; omega) hj) (by rw [hl]; exact HF.out))
        subst hbt
        clear hl
        go_wp2_with fail
        go_ret
        exact ⟨ret_bool (by first | (simp; done) | (simp; omega)), HB.out⟩
      · have hbf := HNO.out (fun h => by have := h.pos; omega)
        subst hbf
        clear hl
        go_wp2_with fail
        go_ret
        exact ⟨ret_bool (by first | (simp; done) | (simp; omega)), HB.out⟩
end Go.Proofs.YtjfimmfnhlimkaaDoor.cup
