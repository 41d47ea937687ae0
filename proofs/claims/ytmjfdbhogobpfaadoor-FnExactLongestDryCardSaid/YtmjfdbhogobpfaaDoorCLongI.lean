/-
  Contracts of LongestDry, the program's and the model's: the walks.
-/
import Derived.Test.YtmjfdbhogobpfaaDoorCLong
import Derived.Deep.LoopGhost
namespace Go.Proofs.YtmjfdbhogobpfaaDoor.day
open Go Go.RowKit sl errs

set_option maxRecDepth 100000 in
set_option maxHeartbeats 4000000 in
theorem LongestDry_any (d : List Wea) (hd : d.length = 24) (hf : ∀ x ∈ d, x.Fits) {w : World} {B : Nat} {e : Nat → Addr} (h : Errs w B e) (hB : B ≤ w.heap.size) :
    Calls Tryd.prog 24 #[dayV d] w (LongPost d w) := by
  obtain ⟨k0, hk0⟩ : ∃ k : Nat, k = codeDay d := ⟨_, rfl⟩
  have HK0 := Lib.hid hk0
  have HD := Lib.hid hd
  have HE := Lib.hid h
  clear hk0 hd h
  have A0 := Lib.hid (DayAt.new d 40 w)
  have B0 : Hid (Below w.heap.size w (w.alloc (.cells (dayCs d) 40))) := Lib.hid (by repeat (first | exact Below.refl _ _ | assumption | apply Below.drew | (refine Below.alloc ?_ (by first | (simp; done) | (simp; omega) | omega) _) | (refine Below.setCell ?_ (by first | (simp; done) | (simp; omega) | omega) _)))
  cases hc : codeDay d with
  | zero =>
    have hv : d.all Wea.valid = true := by
      unfold codeDay at hc
      split at hc
      · assumption
      · omega
    have HV := Lib.hid hv
    have e0 : k0 = 0 := HK0.out.trans hc
    subst e0
    clear hv hc
    go_enter Tryd.func24, Tryd.ntmps24
    go_wp2_with fail
    go_step3
    go_wp2_with (refine wpl_load_day rfl (.tmp 1) rfl w.heap.size rfl HD.out A0.out ?_)
    refine (checkDay_any d HD.out hf (HE.out.below (B0.out.mono hB)) (Nat.le_trans hB B0.out.size) 0 HK0.out).mono ?_
    rintro o w1 ⟨rfl, hb1⟩
    have A1 := Lib.hid (A0.out.next hb1)
    have B1 := Lib.hid (below_next B0.out hb1 (Nat.le_refl _))
    clear hb1 A0 B0 HK0
    have ha : errOf e 0 = .nilIface := rfl
    rw [ha]
    clear ha
    go_wp2_with fail
    go_step3
    go_wp2_with fail
    go_loopg [17, 6, 7, 8, 9, 10] 24 (fun gk s17 s6 s7 s8 s9 s10 wx => ∃ s a n : Nat, s + gk = 24 ∧ s17 = .int .i64 s ∧ s6 = .int .i64 a ∧ s7 = .int .i64 n ∧ ProgI d s a n ∧ wx = w1)
    case atStart => exact ⟨0, 0, 0, by omega, rfl, rfl, rfl, ProgI.zero d, rfl⟩
    case round =>
      obtain ⟨s, a, n, hsg, rfl, rfl, rfl, hP, rfl⟩ := hrel
      have HP := Lib.hid hP
      have hfit := hP.fits
      clear hP
      cases gk with
      | zero =>
        obtain rfl : s = 24 := by omega
        by_cases hn : n = 0
        · subst hn
          go_wp2_with fail
          try rw [Exit.noGoto_ret]
          go_ret3
          exact ⟨.inr ⟨HV.out, a, 0, HP.out.full, by simp [longRes]⟩, B1.out⟩
        · have hnb : ((n : Int) == 0) = false := by rw [beq_eq_false_iff_ne]; omega
          go_wp2_with fail
          try rw [Exit.noGoto_ret]
          go_ret3
          exact ⟨.inr ⟨HV.out, a, n, HP.out.full, by simp [longRes, hn]⟩, B1.out⟩
      | succ gn =>
        have hlt : s < 24 := by omega
        have hlt2 : decide ((s : Int) < 24) = true := by simpa using (show (s : Int) < 24 by omega)
        obtain ⟨wo, hwo⟩ : ∃ wo, wo = wr := ⟨_, rfl⟩
        subst hwo
        go_wp2_with fail
        go_loopg [9, 6, 7, 10] (24 - s) (fun gj s9 s6 s7 s10 wx => ∃ h a n : Nat, h + gj = 24 ∧ s9 = .int .i64 h ∧ s6 = .int .i64 a ∧ s7 = .int .i64 n ∧ ProgJ d s h a n ∧ wx = wo)
        case atStart => exact ⟨s, a, n, by omega, rfl, rfl, rfl, HP.out.begin, rfl⟩
        case round =>
          clear HP hfit
          obtain ⟨h, a, n, hgh, rfl, rfl, rfl, hJ, rfl⟩ := hrel
          have hsh := hJ.sh
          have hfit := hJ.fits
          have HJ := Lib.hid hJ
          clear hJ
          cases gk with
          | zero =>
            obtain rfl : h = 24 := by omega
            by_cases hn : n = 0
            · subst hn
              go_wp2_with fail
              try rw [Exit.noGoto_ret]
              go_ret3
              exact ⟨.inr ⟨HV.out, a, 0, HJ.out.full, by simp [longRes]⟩, B1.out⟩
            · have hnb : ((n : Int) == 0) = false := by rw [beq_eq_false_iff_ne]; omega
              go_wp2_with fail
              try rw [Exit.noGoto_ret]
              go_ret3
              exact ⟨.inr ⟨HV.out, a, n, HJ.out.full, by simp [longRes, hn]⟩, B1.out⟩
          | succ gi =>
            have hh : h < 24 := by omega
            obtain ⟨x, hx⟩ : ∃ x, d[h]? = some x := ⟨d[h]'(by have := HD.out; omega), List.getElem?_eq_getElem _⟩
            obtain ⟨c0, c1, c2⟩ := A1.out.get hx
            have HX := Lib.hid hx
            clear hx
            by_cases hr : 0 < x.rain
            · go_wp2_with fail
              go_roundg gn
              case measure => omega
              case rel => exact ⟨s + 1, a, n, by omega, by go_num, rfl, rfl, HJ.out.rain HX.out hr, rfl⟩
            · have hr2 : decide (0 < x.rain) = false := by simpa using hr
              have hr3 : x.rain ≤ 0 := by omega
              by_cases hn : n < h + 1 - s
              · have hn2 : (n : Int) < (h : Int) + 1 - (s : Int) := by omega
                go_wp2_with fail
                go_roundg gi
                case measure => omega
                case rel => exact ⟨h + 1, s, h + 1 - s, by omega, by go_num, rfl, by congr 1; omega, HJ.out.more hh HX.out hr3 hn, rfl⟩
              · have hn2 : ¬ (n : Int) < (h : Int) + 1 - (s : Int) := by omega
                go_wp2_with fail
                go_roundg gi
                case measure => omega
                case rel => exact ⟨h + 1, a, n, by omega, by go_num, rfl, rfl, HJ.out.less HX.out hr3 (by omega), rfl⟩
  | succ i =>
    have hle : i = 0 := by
      unfold codeDay at hc
      split at hc <;> omega
    subst hle
    have hv : d.all Wea.valid = false := by
      cases hh : d.all Wea.valid with
      | false => rfl
      | true => rw [codeDay, hh, if_pos rfl] at hc; cases hc
    have HV := Lib.hid hv
    have e0 : k0 = 1 := HK0.out.trans hc
    subst e0
    clear hv hc
    go_enter Tryd.func24, Tryd.ntmps24
    go_wp2_with fail
    go_step3
    go_wp2_with (refine wpl_load_day rfl (.tmp 1) rfl w.heap.size rfl HD.out A0.out ?_)
    refine (checkDay_any d HD.out hf (HE.out.below (B0.out.mono hB)) (Nat.le_trans hB B0.out.size) 1 HK0.out).mono ?_
    rintro o w1 ⟨rfl, hb1⟩
    have B1 := Lib.hid (below_next B0.out hb1 (Nat.le_refl _))
    have H2 := Lib.hid (HE.out.below (B1.out.mono hB))
    clear hb1 A0 B0 HK0
    have ha : errOf e 1 = errV (e 0) := rfl
    rw [ha]
    clear ha
    go_wp2_with fail
    refine (codeOf_any H2.out 1 (by omega)).mono ?_
    rintro o w5 ⟨rfl, rfl⟩
    go_wp2_with fail
    try rw [Exit.noGoto_ret]
    go_ret3
    exact ⟨.inl ⟨HV.out, rfl⟩, B1.out⟩
set_option maxRecDepth 100000 in
set_option maxHeartbeats 4000000 in
theorem LongestDry_spec (d : List Wea) (hd : d.length = 24) (hf : ∀ x ∈ d, x.Fits) (w : World) :
    Calls Tryd.prog 23 #[dayV d] w (LongPost d w) := by
  have HD := Lib.hid hd
  clear hd
  have A0 := Lib.hid (DayAt.new d 40 w)
  have B0 : Hid (Below w.heap.size w (w.alloc (.cells (dayCs d) 40))) := Lib.hid (by repeat (first | exact Below.refl _ _ | assumption | apply Below.drew | (refine Below.alloc ?_ (by first | (simp; done) | (simp; omega) | omega) _) | (refine Below.setCell ?_ (by first | (simp; done) | (simp; omega) | omega) _)))
  cases hv : d.all Wea.valid with
  | false =>
    have HV := Lib.hid hv
    clear hv
    go_enter Tryd.func23, Tryd.ntmps23
    go_wp2_with fail
    refine (l03Ok_any d HD.out hf _ _ A0.out).mono ?_
    rintro o w1 ⟨rfl, hb1⟩
    rw [HV.out]
    have B1 := Lib.hid (below_next B0.out hb1 (by simp))
    clear hb1 A0 B0
    go_wp2_with fail
    go_ret3
    exact ⟨.inl ⟨HV.out, rfl⟩, B1.out⟩
  | true =>
    have HV := Lib.hid hv
    clear hv
    go_enter Tryd.func23, Tryd.ntmps23
    go_wp2_with fail
    refine (l03Ok_any d HD.out hf _ _ A0.out).mono ?_
    rintro o w1 ⟨rfl, hb1⟩
    rw [HV.out]
    have A1 := Lib.hid (A0.out.next hb1)
    have B1 := Lib.hid (below_next B0.out hb1 (by simp))
    clear hb1 A0 B0
    go_wp2_with fail
    go_loopg [8, 7, 5, 6] 24 (fun gk s8 s7 s5 s6 wx => ∃ k r a n : Nat, k + gk = 24 ∧ s8 = .int .i64 k ∧ s7 = .int .i64 r ∧ s5 = .int .i64 a ∧ s6 = .int .i64 n ∧ ModelI d k r a n ∧ wx = w1)
    case atStart => exact ⟨0, 0, 0, 0, by omega, rfl, rfl, rfl, rfl, ModelI.zero d, rfl⟩
    case round =>
      obtain ⟨k, r, a, n, hgk, rfl, rfl, rfl, rfl, hM, rfl⟩ := hrel
      have hrk := hM.le
      have hfit := hM.long.fits
      have HM := Lib.hid hM
      clear hM
      cases gk with
      | zero =>
        obtain rfl : k = 24 := by omega
        by_cases hn : n = 0
        · subst hn
          go_wp2_with fail
          go_ret3
          exact ⟨.inr ⟨HV.out, a, 0, HM.out.long, by simp [longRes]⟩, B1.out⟩
        · have hnb : ((n : Int) == 0) = false := by rw [beq_eq_false_iff_ne]; omega
          go_wp2_with fail
          go_ret3
          exact ⟨.inr ⟨HV.out, a, n, HM.out.long, by simp [longRes, hn]⟩, B1.out⟩
      | succ gn =>
        have hlt : k < 24 := by omega
        obtain ⟨x, hx⟩ : ∃ x, d[k]? = some x := ⟨d[k]'(by have := HD.out; omega), List.getElem?_eq_getElem _⟩
        obtain ⟨c0, c1, c2⟩ := A1.out.get hx
        have HX := Lib.hid hx
        clear hx
        by_cases hr : 0 < x.rain
        · have hn0 : ¬ (n : Int) < 0 := by omega
          go_wp2_with fail
          go_roundg gn
          case measure => omega
          case rel => exact ⟨k + 1, 0, a, n, by omega, by go_num, rfl, rfl, rfl, HM.out.rain HX.out hr, rfl⟩
        · have hr2 : decide (0 < x.rain) = false := by simpa using hr
          have hr3 : x.rain ≤ 0 := by omega
          by_cases hn : n < r + 1
          · have hn2 : (n : Int) < (r : Int) + 1 := by omega
            go_wp2_with fail
            go_roundg gn
            case measure => omega
            case rel => exact ⟨k + 1, r + 1, k - r, r + 1, by omega, by go_num, by go_num, by congr 1; omega, by go_num, HM.out.more HX.out hr3 hn, rfl⟩
          · have hn2 : ¬ (n : Int) < (r : Int) + 1 := by omega
            go_wp2_with fail
            go_roundg gn
            case measure => omega
            case rel => exact ⟨k + 1, r + 1, a, n, by omega, by go_num, by go_num, rfl, rfl, HM.out.less HX.out hr3 (by omega), rfl⟩
end Go.Proofs.YtmjfdbhogobpfaaDoor.day
