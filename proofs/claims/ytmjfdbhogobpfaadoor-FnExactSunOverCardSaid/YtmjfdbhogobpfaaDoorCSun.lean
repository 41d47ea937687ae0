/-
  Contracts of SunOver, the program's and the model's.
-/
import Derived.Test.YtmjfdbhogobpfaaDoorCRain
namespace Go.Proofs.YtmjfdbhogobpfaaDoor.day
open Go Go.RowKit sl errs

/-- the sum of sun -/
def sunSum (l : List Wea) : Int := (l.map Wea.sun).sum
theorem sunSum_snoc (l : List Wea) (x : Wea) : sunSum (l ++ [x]) = sunSum l + x.sun := by simp [sunSum]
theorem sunSum_bd : ∀ (l : List Wea), (∀ x ∈ l, Wea.valid x = true) → 0 ≤ sunSum l ∧ sunSum l ≤ 9 * l.length
  | [], _ => by simp [sunSum]
  | x :: r, h => by
    have h1 := sunSum_bd r (fun y hy => h y (List.mem_cons_of_mem _ hy))
    have h2 := (Wea.valid_iff x).1 (h x (List.mem_cons_self ..))
    have e : sunSum (x :: r) = x.sun + sunSum r := by simp [sunSum]
    rw [e, List.length_cons]
    omega
def sunRes (d : List Wea) (f t : Int) : Int × Int := if codeAskD d [] (hoursB f t) = 0 then (sunSum ((d.drop f.toNat).take (t.toNat - f.toNat)), 0) else (0, codeAskD d [] (hoursB f t))
theorem sunRes_fails {d : List Wea} {f t : Int} {c : Nat} (h : codeAskD d [] (hoursB f t) = c) (hc : c ≠ 0) : sunRes d f t = (0, (c : Int)) := by
  rw [sunRes, if_neg (by rw [h]; exact hc), h]
theorem sunRes_ok {d : List Wea} {f t : Nat} (h : codeAskD d [] (hoursB (f : Int) (t : Int)) = 0) : sunRes d (f : Int) (t : Int) = (sunSum ((d.drop f).take (t - f)), 0) := by
  rw [sunRes, if_pos h, Int.toNat_natCast, Int.toNat_natCast]
theorem sum_bd {d : List Wea} (hv : d.all Wea.valid = true) (hd : d.length = 24) (f k : Nat) : 0 ≤ sunSum ((d.drop f).take k) ∧ sunSum ((d.drop f).take k) ≤ 216 := by
  have h := sunSum_bd ((d.drop f).take k) (fun x hx => List.all_eq_true.1 hv x (List.mem_of_mem_drop (List.mem_of_mem_take hx)))
  have h2 : ((d.drop f).take k).length ≤ 24 := by rw [List.length_take, List.length_drop, hd]; omega
  omega
theorem sum_next {d : List Wea} {f k : Nat} {x : Wea} (hx : d[f + k]? = some x) : sunSum ((d.drop f).take (k + 1)) = sunSum ((d.drop f).take k) + x.sun := by
  rw [take_snoc (xs := d.drop f) (k := k) (x := x) (by rw [List.getElem?_drop]; exact hx), sunSum_snoc]
theorem code_day_hours (d : List Wea) (f t : Int) (k0 k1 : Nat) (h0 : k0 = codeDay d) (h1 : k1 = if hoursB f t = true then 0 else 2) : firstCode [k0, k1] = codeAskD d [] (hoursB f t) := code_day_hour d (hoursB f t) k0 k1 h0 h1

/-- a part of a day as a slice -/
theorem run_slice_day (b : Nat) (g m : Nat) (h : g + m ≤ 24) : ∃ A : Addr, (0 < m → A = ⟨b, g * 3, none⟩) ∧ ∀ u : World, (Instr.sliceAt 40 (.pointer (some ⟨b, 0, none⟩)) (some (.int .i64 (g : Int))) (some (.int .i64 ((g : Int) + (m : Int)))) none).run Tryd.prog u =
    .ok (.slice (some A) m (24 - g)) u := by
  have ht : Tryd.prog.underlying 40 = some (.array (Tryd.prog.arrayLen 40) (Tryd.prog.elem 40)) := by kernel_rfl
  have hl : Tryd.prog.arrayLen 40 = 24 := by kernel_rfl
  have he : Tryd.prog.elem 40 = 32 := by kernel_rfl
  refine ⟨if 24 = g then ⟨b, 0, none⟩ else ⟨b, g * 3, none⟩, fun hm => by rw [if_neg (by omega)], fun u => ?_⟩
  rw [run_sliceAt_array_lh u 40 ⟨b, 0, none⟩ ht .i64 .i64 (g : Int) ((g : Int) + (m : Int)) (by omega) (by omega) (by rw [hl]; omega), he, sizeWea, Result.andThen_ok, hl]
  have e1 : ((g : Int) + (m : Int)).toNat = g + m := by omega
  rw [e1, Int.toNat_natCast, slicedAt, add_lit, Nat.add_sub_cancel_left]
set_option maxRecDepth 100000 in
set_option maxHeartbeats 4000000 in
theorem SunOver_any (d : List Wea) (hd : d.length = 24) (hf : ∀ x ∈ d, x.Fits) (f t : Int) {w : World} {B : Nat} {e : Nat → Addr} (h : Errs w B e) (hB : B ≤ w.heap.size) :
    Calls Tryd.prog 26 #[dayV d, .int .i64 f, .int .i64 t] w fun o w' => o = .returned (two (sunRes d f t)) ∧ Below w.heap.size w w' := by
  obtain ⟨k0, hk0⟩ : ∃ k : Nat, k = codeDay d := ⟨_, rfl⟩
  obtain ⟨k1, hk1⟩ : ∃ k : Nat, k = if hoursB f t = true then 0 else 2 := ⟨_, rfl⟩
  have HF := Lib.hid (code_day_hours d f t k0 k1 hk0 hk1)
  have HK0 := Lib.hid hk0
  have HK1 := Lib.hid hk1
  have HD := Lib.hid hd
  have HE := Lib.hid h
  clear hk0 hk1 hd h
  have A0 := Lib.hid (DayAt.new d 40 w)
  have B0 : Hid (Below w.heap.size w (w.alloc (.cells (dayCs d) 40))) := Lib.hid (by repeat (first | exact Below.refl _ _ | assumption | apply Below.drew | (refine Below.alloc ?_ (by first | (simp; done) | (simp; omega) | omega) _) | (refine Below.setCell ?_ (by first | (simp; done) | (simp; omega) | omega) _)))
  go_enter Tryd.func26, Tryd.ntmps26
  go_wp2_with (refine wpl_load_day rfl (.tmp 3) rfl w.heap.size rfl HD.out A0.out ?_)
  refine (checkDay_any d HD.out hf (HE.out.below (B0.out.mono hB)) (Nat.le_trans hB B0.out.size) k0 HK0.out).mono ?_
  rintro o w1 ⟨rfl, hb1⟩
  have A1 := Lib.hid (A0.out.next hb1)
  have B1 := Lib.hid (below_next B0.out hb1 (Nat.le_refl _))
  clear hb1 A0 B0
  go_wp2_with fail
  refine (checkHours_any f t (HE.out.below (B1.out.mono hB)) (Nat.le_trans hB B1.out.size) k1 HK1.out).mono ?_
  rintro o w2 ⟨rfl, hb2⟩
  have A2 := Lib.hid (A1.out.next hb2)
  have B2 := Lib.hid (below_next B1.out hb2 (Nat.le_refl _))
  clear hb2 A1 B1
  go_wp2_with (refine wpList_listed rfl 145 2 _ rfl #[(0, errOf e k0), (1, errOf e k1)] ?hp (buildSlice2 e k0 k1 _) ?_; case hp => simp [Act.eval])
  refine (firstOf_any e [k0, k1] _ 2 2 rfl (by decide) _ (cells_errs e [k0, k1] w2 85 #[errOf e k0, errOf e k1] rfl)).mono ?_
  rintro o w3 ⟨rfl, rfl⟩
  rw [HF.out]
  have S4 := Lib.hid (B2.out.alloc B2.out.size (.cells #[errOf e k0, errOf e k1] 85))
  have A4 := Lib.hid (A2.out.next ((Below.refl _ _).alloc (Nat.le_refl _) (.cells #[errOf e k0, errOf e k1] 85)))
  obtain ⟨w9, hw9⟩ : ∃ w9, w9 = w2.alloc (.cells #[errOf e k0, errOf e k1] 85) := ⟨_, rfl⟩
  rw [← hw9] at S4 A4 ⊢
  have H2 := Lib.hid (HE.out.below (S4.out.mono hB))
  clear hw9 B2 A2 HE
  have hle := codeAskD_le d [] (hoursB f t)
  cases hc : codeAskD d [] (hoursB f t) with
  | zero =>
    have HC := Lib.hid hc
    clear hle
    obtain ⟨hv, _, hh⟩ := codeAskD_zero hc
    obtain ⟨q0, q1, q2⟩ := hoursB_iff.1 hh
    obtain ⟨g, rfl⟩ : ∃ g : Nat, f = (g : Int) := ⟨f.toNat, by omega⟩
    obtain ⟨m, rfl⟩ : ∃ m : Nat, t = ((g + m : Nat) : Int) := ⟨t.toNat - g, by omega⟩
    have hgm : g + m ≤ 24 := by omega
    have HV := Lib.hid hv
    clear hc hh hv q0 q1 q2
    have ha : errOf e 0 = .nilIface := rfl
    rw [ha]
    clear ha
    obtain ⟨A, hA, hsl⟩ := run_slice_day w.heap.size g m hgm
    have HA := Lib.hid hA
    clear hA
    go_wp2_with fail
    clear hsl
    go_loopw [27, 9] (fun vi vs wr => ∃ k : Nat, k ≤ m ∧ vi = .int .i64 k ∧ vs = .int .i64 (sunSum ((d.drop g).take k)) ∧ Below w.heap.size w wr ∧ DayAt wr w.heap.size d) (fun vi _ _ => m - (intOf vi).toNat)
    case atStart => exact ⟨0, by omega, rfl, rfl, S4.out, A4.out⟩
    case round =>
      clear A4 S4 H2
      obtain ⟨k, hk, rfl, rfl, hB5, hA5⟩ := hrel
      have HB := Lib.hid hB5
      have HA5 := Lib.hid hA5
      clear hB5 hA5
      have hsb := sum_bd HV.out HD.out g k
      by_cases hlt : k < m
      · obtain ⟨x, hx⟩ : ∃ x, d[g + k]? = some x := ⟨d[g + k]'(by have := HD.out; omega), List.getElem?_eq_getElem _⟩
        have hxv := (Wea.valid_iff x).1 (List.all_eq_true.1 HV.out x (List.mem_of_getElem? hx))
        obtain ⟨⟨x0, x1⟩, _⟩ := hxv
        have hAe := HA.out (by omega)
        obtain ⟨c0, c1, c2⟩ := HA5.out.get hx
        have HN := Lib.hid (sum_next hx)
        rw [Nat.add_mul] at c0 c1 c2
        subst hAe
        clear hx
        go_wp2_with fail
        go_roundw
        case rel => exact ⟨k + 1, by omega, by go_num, by rw [HN.out], HB.out.alloc HB.out.size _, HA5.out.next ((Below.refl _ _).alloc (Nat.le_refl _) _)⟩
        case measure => simp [intOf]; omega
      · obtain rfl : k = m := by omega
        go_wp2_with fail
        go_ret2
        rw [sunRes_ok HC.out, Nat.add_sub_cancel_left]
        exact ⟨rfl, HB.out⟩
  | succ i =>
    have ha : errOf e (i + 1) = errV (e i) := rfl
    rw [hc] at hle
    have HC := Lib.hid hc
    clear hc
    rw [ha]
    clear ha
    go_wp2_with fail
    refine (codeOf_any H2.out (i + 1) (by omega)).mono ?_
    rintro o w5 ⟨rfl, rfl⟩
    go_wp2_with fail
    go_ret2
    rw [sunRes_fails HC.out (by omega)]
    exact ⟨by simp [two], S4.out⟩
set_option maxRecDepth 100000 in
set_option maxHeartbeats 4000000 in
theorem SunOver_spec (d : List Wea) (hd : d.length = 24) (hf : ∀ x ∈ d, x.Fits) (f t : Int) (w : World) :
    Calls Tryd.prog 25 #[dayV d, .int .i64 f, .int .i64 t] w fun o w' => o = .returned (two (sunRes d f t)) ∧ Below w.heap.size w w' := by
  obtain ⟨k0, hk0⟩ : ∃ k : Nat, k = codeAskD d [] (hoursB f t) := ⟨_, rfl⟩
  obtain ⟨b0, hb0⟩ : ∃ b, hoursB f t = b := ⟨_, rfl⟩
  have HK0 := Lib.hid hk0
  have HB0 := Lib.hid hb0
  have HD := Lib.hid hd
  have A0 := Lib.hid (DayAt.new d 40 w)
  have B0 : Hid (Below w.heap.size w (w.alloc (.cells (dayCs d) 40))) := Lib.hid (by repeat (first | exact Below.refl _ _ | assumption | apply Below.drew | (refine Below.alloc ?_ (by first | (simp; done) | (simp; omega) | omega) _) | (refine Below.setCell ?_ (by first | (simp; done) | (simp; omega) | omega) _)))
  have A1 := Lib.hid (A0.out.next ((Below.refl _ _).alloc (Nat.le_refl _) (.cells #[] 28)))
  have B1 := Lib.hid (B0.out.alloc B0.out.size (.cells #[] 28))
  clear hk0 hb0 hd
  cases hfb : inB f 0 24 with
  | false =>
    have e0 : b0 = false := by rw [← HB0.out, hoursB, hfb]; rfl
    subst e0
    have HFB := Lib.hid hfb
    clear hfb
    go_enter Tryd.func25, Tryd.ntmps25
    go_wp2_with fail
    refine (l03From_any f _ false HFB.out).mono ?_
    rintro o w1 ⟨rfl, rfl⟩
    go_wp2_with fail
    refine (l03Asked_any d HD.out hf _ _ 0 _ [] rfl (by decide) (fun x hx => by simp at hx) false _ A1.out (Sl.nil _ _ _ _ _) k0 (by rw [← HB0.out]; exact HK0.out)).mono ?_
    rintro o w2 ⟨rfl, hb2⟩
    have A2 := Lib.hid (A1.out.next hb2)
    have B2 := Lib.hid (below_next B1.out hb2 (Nat.le_refl _))
    clear hb2 A0 B0 A1 B1
    cases hc : k0 with
    | zero =>
      have HC : Hid (codeAskD d [] (hoursB f t) = 0) := Lib.hid (by rw [← HK0.out, hc])
      obtain ⟨hv, _, hh⟩ := codeAskD_zero HC.out
      obtain ⟨q0, q1, q2⟩ := hoursB_iff.1 hh
      obtain ⟨g, rfl⟩ : ∃ g : Nat, f = (g : Int) := ⟨f.toNat, by omega⟩
      obtain ⟨m, rfl⟩ : ∃ m : Nat, t = ((g + m : Nat) : Int) := ⟨t.toNat - g, by omega⟩
      have hgm : g + m ≤ 24 := by omega
      have HV := Lib.hid hv
      subst hc
      clear hh hv q0 q1 q2 HK0 HB0 HFB
      go_wp2_with fail
      go_loopw [10, 9] (fun vi vs wr => ∃ k : Nat, k ≤ m ∧ vi = .int .i64 ((g : Int) + (k : Int)) ∧ vs = .int .i64 (sunSum ((d.drop g).take k)) ∧ wr = w2) (fun vi _ _ => g + m - (intOf vi).toNat)
      case atStart => exact ⟨0, by omega, by go_num, rfl, rfl⟩
      case round =>
        obtain ⟨k, hk, rfl, rfl, rfl⟩ := hrel
        have hsb := sum_bd HV.out HD.out g k
        by_cases hlt : k < m
        · obtain ⟨x, hx⟩ : ∃ x, d[g + k]? = some x := ⟨d[g + k]'(by have := HD.out; omega), List.getElem?_eq_getElem _⟩
          have hxv := (Wea.valid_iff x).1 (List.all_eq_true.1 HV.out x (List.mem_of_getElem? hx))
          obtain ⟨⟨x0, x1⟩, _⟩ := hxv
          obtain ⟨c0, c1, c2⟩ := A2.out.get hx
          have HN := Lib.hid (sum_next hx)
          clear hx
          go_wp2_with fail
          go_roundw
          case rel => exact ⟨k + 1, by omega, by go_num, by rw [HN.out], trivial⟩
          case measure => simp [intOf]; omega
        · obtain rfl : k = m := by omega
          go_wp2_with fail
          go_ret2
          rw [sunRes_ok HC.out, Nat.add_sub_cancel_left]
          exact ⟨rfl, B2.out⟩
    | succ i =>
      have HC : Hid (codeAskD d [] (hoursB f t) = i + 1) := Lib.hid (by rw [← HK0.out, hc])
      subst hc
      have hne : (((i + 1 : Nat) : Int) != 0) = true := by rw [bne_iff_ne]; omega
      have hne2 : (((i : Int) + 1) != 0) = true := by rw [bne_iff_ne]; omega
      clear HK0 HB0
      go_wp2_with fail
      go_ret2
      rw [sunRes_fails HC.out (by omega)]
      exact ⟨by simp [two], B2.out⟩
  | true =>
    have HFB := Lib.hid hfb
    clear hfb
    cases htb : inB t 0 24 with
    | false =>
      have e0 : b0 = false := by rw [← HB0.out, hoursB, HFB.out, htb]; rfl
      subst e0
      have HTB := Lib.hid htb
      clear htb
      go_enter Tryd.func25, Tryd.ntmps25
      go_wp2_with fail
      refine (l03From_any f _ true HFB.out).mono ?_
      rintro o w1 ⟨rfl, rfl⟩
      go_wp2_with fail
      refine (l03From_any t _ false HTB.out).mono ?_
      rintro o w1 ⟨rfl, rfl⟩
      go_wp2_with fail
      refine (l03Asked_any d HD.out hf _ _ 0 _ [] rfl (by decide) (fun x hx => by simp at hx) false _ A1.out (Sl.nil _ _ _ _ _) k0 (by rw [← HB0.out]; exact HK0.out)).mono ?_
      rintro o w2 ⟨rfl, hb2⟩
      have A2 := Lib.hid (A1.out.next hb2)
      have B2 := Lib.hid (below_next B1.out hb2 (Nat.le_refl _))
      clear hb2 A0 B0 A1 B1
      cases hc : k0 with
      | zero =>
        have HC : Hid (codeAskD d [] (hoursB f t) = 0) := Lib.hid (by rw [← HK0.out, hc])
        obtain ⟨hv, _, hh⟩ := codeAskD_zero HC.out
        obtain ⟨q0, q1, q2⟩ := hoursB_iff.1 hh
        obtain ⟨g, rfl⟩ : ∃ g : Nat, f = (g : Int) := ⟨f.toNat, by omega⟩
        obtain ⟨m, rfl⟩ : ∃ m : Nat, t = ((g + m : Nat) : Int) := ⟨t.toNat - g, by omega⟩
        have hgm : g + m ≤ 24 := by omega
        have HV := Lib.hid hv
        subst hc
        clear hh hv q0 q1 q2 HK0 HB0 HFB
        go_wp2_with fail
        go_loopw [10, 9] (fun vi vs wr => ∃ k : Nat, k ≤ m ∧ vi = .int .i64 ((g : Int) + (k : Int)) ∧ vs = .int .i64 (sunSum ((d.drop g).take k)) ∧ wr = w2) (fun vi _ _ => g + m - (intOf vi).toNat)
        case atStart => exact ⟨0, by omega, by go_num, rfl, rfl⟩
        case round =>
          obtain ⟨k, hk, rfl, rfl, rfl⟩ := hrel
          have hsb := sum_bd HV.out HD.out g k
          by_cases hlt : k < m
          · obtain ⟨x, hx⟩ : ∃ x, d[g + k]? = some x := ⟨d[g + k]'(by have := HD.out; omega), List.getElem?_eq_getElem _⟩
            have hxv := (Wea.valid_iff x).1 (List.all_eq_true.1 HV.out x (List.mem_of_getElem? hx))
            obtain ⟨⟨x0, x1⟩, _⟩ := hxv
            obtain ⟨c0, c1, c2⟩ := A2.out.get hx
            have HN := Lib.hid (sum_next hx)
            clear hx
            go_wp2_with fail
            go_roundw
            case rel => exact ⟨k + 1, by omega, by go_num, by rw [HN.out], trivial⟩
            case measure => simp [intOf]; omega
          · obtain rfl : k = m := by omega
            go_wp2_with fail
            go_ret2
            rw [sunRes_ok HC.out, Nat.add_sub_cancel_left]
            exact ⟨rfl, B2.out⟩
      | succ i =>
        have HC : Hid (codeAskD d [] (hoursB f t) = i + 1) := Lib.hid (by rw [← HK0.out, hc])
        subst hc
        have hne : (((i + 1 : Nat) : Int) != 0) = true := by rw [bne_iff_ne]; omega
        have hne2 : (((i : Int) + 1) != 0) = true := by rw [bne_iff_ne]; omega
        clear HK0 HB0
        go_wp2_with fail
        go_ret2
        rw [sunRes_fails HC.out (by omega)]
        exact ⟨by simp [two], B2.out⟩
    | true =>
      have HTB := Lib.hid htb
      clear htb
      by_cases hle : f ≤ t
      · have e0 : b0 = true := by rw [← HB0.out, hoursB, HFB.out, HTB.out]; simpa using hle
        subst e0
        have hle2 : decide (f ≤ t) = true := by simpa using hle
        go_enter Tryd.func25, Tryd.ntmps25
        go_wp2_with fail
        refine (l03From_any f _ true HFB.out).mono ?_
        rintro o w1 ⟨rfl, rfl⟩
        go_wp2_with fail
        refine (l03From_any t _ true HTB.out).mono ?_
        rintro o w1 ⟨rfl, rfl⟩
        go_wp2_with fail
        refine (l03Asked_any d HD.out hf _ _ 0 _ [] rfl (by decide) (fun x hx => by simp at hx) true _ A1.out (Sl.nil _ _ _ _ _) k0 (by rw [← HB0.out]; exact HK0.out)).mono ?_
        rintro o w2 ⟨rfl, hb2⟩
        have A2 := Lib.hid (A1.out.next hb2)
        have B2 := Lib.hid (below_next B1.out hb2 (Nat.le_refl _))
        clear hb2 A0 B0 A1 B1
        clear hle hle2
        cases hc : k0 with
        | zero =>
          have HC : Hid (codeAskD d [] (hoursB f t) = 0) := Lib.hid (by rw [← HK0.out, hc])
          obtain ⟨hv, _, hh⟩ := codeAskD_zero HC.out
          obtain ⟨q0, q1, q2⟩ := hoursB_iff.1 hh
          obtain ⟨g, rfl⟩ : ∃ g : Nat, f = (g : Int) := ⟨f.toNat, by omega⟩
          obtain ⟨m, rfl⟩ : ∃ m : Nat, t = ((g + m : Nat) : Int) := ⟨t.toNat - g, by omega⟩
          have hgm : g + m ≤ 24 := by omega
          have HV := Lib.hid hv
          subst hc
          clear hh hv q0 q1 q2 HK0 HB0 HFB
          go_wp2_with fail
          go_loopw [10, 9] (fun vi vs wr => ∃ k : Nat, k ≤ m ∧ vi = .int .i64 ((g : Int) + (k : Int)) ∧ vs = .int .i64 (sunSum ((d.drop g).take k)) ∧ wr = w2) (fun vi _ _ => g + m - (intOf vi).toNat)
          case atStart => exact ⟨0, by omega, by go_num, rfl, rfl⟩
          case round =>
            obtain ⟨k, hk, rfl, rfl, rfl⟩ := hrel
            have hsb := sum_bd HV.out HD.out g k
            by_cases hlt : k < m
            · obtain ⟨x, hx⟩ : ∃ x, d[g + k]? = some x := ⟨d[g + k]'(by have := HD.out; omega), List.getElem?_eq_getElem _⟩
              have hxv := (Wea.valid_iff x).1 (List.all_eq_true.1 HV.out x (List.mem_of_getElem? hx))
              obtain ⟨⟨x0, x1⟩, _⟩ := hxv
              obtain ⟨c0, c1, c2⟩ := A2.out.get hx
              have HN := Lib.hid (sum_next hx)
              clear hx
              go_wp2_with fail
              go_roundw
              case rel => exact ⟨k + 1, by omega, by go_num, by rw [HN.out], trivial⟩
              case measure => simp [intOf]; omega
            · obtain rfl : k = m := by omega
              go_wp2_with fail
              go_ret2
              rw [sunRes_ok HC.out, Nat.add_sub_cancel_left]
              exact ⟨rfl, B2.out⟩
        | succ i =>
          have HC : Hid (codeAskD d [] (hoursB f t) = i + 1) := Lib.hid (by rw [← HK0.out, hc])
          subst hc
          have hne : (((i + 1 : Nat) : Int) != 0) = true := by rw [bne_iff_ne]; omega
          have hne2 : (((i : Int) + 1) != 0) = true := by rw [bne_iff_ne]; omega
          clear HK0 HB0
          go_wp2_with fail
          go_ret2
          rw [sunRes_fails HC.out (by omega)]
          exact ⟨by simp [two], B2.out⟩
      · have e0 : b0 = false := by rw [← HB0.out, hoursB, HFB.out, HTB.out]; simpa using hle
        subst e0
        have hle2 : decide (f ≤ t) = false := by simpa using hle
        go_enter Tryd.func25, Tryd.ntmps25
        go_wp2_with fail
        refine (l03From_any f _ true HFB.out).mono ?_
        rintro o w1 ⟨rfl, rfl⟩
        go_wp2_with fail
        refine (l03From_any t _ true HTB.out).mono ?_
        rintro o w1 ⟨rfl, rfl⟩
        go_wp2_with fail
        refine (l03Asked_any d HD.out hf _ _ 0 _ [] rfl (by decide) (fun x hx => by simp at hx) false _ A1.out (Sl.nil _ _ _ _ _) k0 (by rw [← HB0.out]; exact HK0.out)).mono ?_
        rintro o w2 ⟨rfl, hb2⟩
        have A2 := Lib.hid (A1.out.next hb2)
        have B2 := Lib.hid (below_next B1.out hb2 (Nat.le_refl _))
        clear hb2 A0 B0 A1 B1
        clear hle hle2
        cases hc : k0 with
        | zero =>
          have HC : Hid (codeAskD d [] (hoursB f t) = 0) := Lib.hid (by rw [← HK0.out, hc])
          obtain ⟨hv, _, hh⟩ := codeAskD_zero HC.out
          obtain ⟨q0, q1, q2⟩ := hoursB_iff.1 hh
          obtain ⟨g, rfl⟩ : ∃ g : Nat, f = (g : Int) := ⟨f.toNat, by omega⟩
          obtain ⟨m, rfl⟩ : ∃ m : Nat, t = ((g + m : Nat) : Int) := ⟨t.toNat - g, by omega⟩
          have hgm : g + m ≤ 24 := by omega
          have HV := Lib.hid hv
          subst hc
          clear hh hv q0 q1 q2 HK0 HB0 HFB
          go_wp2_with fail
          go_loopw [10, 9] (fun vi vs wr => ∃ k : Nat, k ≤ m ∧ vi = .int .i64 ((g : Int) + (k : Int)) ∧ vs = .int .i64 (sunSum ((d.drop g).take k)) ∧ wr = w2) (fun vi _ _ => g + m - (intOf vi).toNat)
          case atStart => exact ⟨0, by omega, by go_num, rfl, rfl⟩
          case round =>
            obtain ⟨k, hk, rfl, rfl, rfl⟩ := hrel
            have hsb := sum_bd HV.out HD.out g k
            by_cases hlt : k < m
            · obtain ⟨x, hx⟩ : ∃ x, d[g + k]? = some x := ⟨d[g + k]'(by have := HD.out; omega), List.getElem?_eq_getElem _⟩
              have hxv := (Wea.valid_iff x).1 (List.all_eq_true.1 HV.out x (List.mem_of_getElem? hx))
              obtain ⟨⟨x0, x1⟩, _⟩ := hxv
              obtain ⟨c0, c1, c2⟩ := A2.out.get hx
              have HN := Lib.hid (sum_next hx)
              clear hx
              go_wp2_with fail
              go_roundw
              case rel => exact ⟨k + 1, by omega, by go_num, by rw [HN.out], trivial⟩
              case measure => simp [intOf]; omega
            · obtain rfl : k = m := by omega
              go_wp2_with fail
              go_ret2
              rw [sunRes_ok HC.out, Nat.add_sub_cancel_left]
              exact ⟨rfl, B2.out⟩
        | succ i =>
          have HC : Hid (codeAskD d [] (hoursB f t) = i + 1) := Lib.hid (by rw [← HK0.out, hc])
          subst hc
          have hne : (((i + 1 : Nat) : Int) != 0) = true := by rw [bne_iff_ne]; omega
          have hne2 : (((i : Int) + 1) != 0) = true := by rw [bne_iff_ne]; omega
          clear HK0 HB0
          go_wp2_with fail
          go_ret2
          rw [sunRes_fails HC.out (by omega)]
          exact ⟨by simp [two], B2.out⟩
end Go.Proofs.YtmjfdbhogobpfaaDoor.day
