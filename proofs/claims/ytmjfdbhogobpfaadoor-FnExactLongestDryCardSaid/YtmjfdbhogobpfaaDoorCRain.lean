/-
  Contracts of RainFrom, the program's and the model's.
-/
import Derived.Test.YtmjfdbhogobpfaaDoorDayCheck
import Derived.Test.YtmjfdbhogobpfaaDoorFirstAt
namespace Go.Proofs.YtmjfdbhogobpfaaDoor.day
open Go Go.RowKit sl errs

/-- two numbers -/
abbrev two (x : Int × Int) : Value := .tuple #[.int .i64 x.1, .int .i64 x.2]
/-- does it rain -/
def wet (x : Wea) : Bool := decide (0 < x.rain)
theorem wet_of {x : Wea} (h : 0 < x.rain) : wet x = true := by simp [wet, h]
theorem wet_not {x : Wea} (h : x.rain ≤ 0) : wet x = false := by simp [wet]; omega
def rainRes (d : List Wea) (f : Int) : Int × Int :=
  if codeAskD d [] (inB f 0 24) = 0 then (match firstAt wet (d.drop f.toNat) f.toNat with | some k => ((k : Int), 0) | none => (0, 6)) else (0, codeAskD d [] (inB f 0 24))
theorem rainRes_fails {d : List Wea} {f : Int} {c : Nat} (h : codeAskD d [] (inB f 0 24) = c) (hc : c ≠ 0) : rainRes d f = (0, (c : Int)) := by
  rw [rainRes, if_neg (by rw [h]; exact hc), h]
theorem rainRes_hit {d : List Wea} {f k : Nat} {x : Wea} (h : codeAskD d [] (inB (f : Int) 0 24) = 0) (hf : f ≤ k) (hn : ∀ i y, f ≤ i → i < k → d[i]? = some y → y.rain ≤ 0) (hx : d[k]? = some x) (hr : 0 < x.rain) : rainRes d (f : Int) = ((k : Int), 0) := by
  rw [rainRes, if_pos h, Int.toNat_natCast, firstAt_hit (k := k - f) (x := x) (fun i y hi hy => wet_not (hn (f + i) y (by omega) (by omega) (by rw [List.getElem?_drop] at hy; exact hy))) (by rw [List.getElem?_drop, show f + (k - f) = k by omega]; exact hx) (wet_of hr)]
  simp only
  congr 1
  omega
theorem rainRes_none {d : List Wea} {f : Nat} (h : codeAskD d [] (inB (f : Int) 0 24) = 0) (hn : ∀ i y, f ≤ i → d[i]? = some y → y.rain ≤ 0) : rainRes d (f : Int) = (0, 6) := by
  rw [rainRes, if_pos h, Int.toNat_natCast, firstAt_none (fun i y _ hy => wet_not (hn (f + i) y (by omega) (by rw [List.getElem?_drop] at hy; exact hy)))]

set_option maxRecDepth 100000 in
set_option maxHeartbeats 4000000 in
theorem RainFrom_any (d : List Wea) (hd : d.length = 24) (hf : ∀ x ∈ d, x.Fits) (f : Int) {w : World} {B : Nat} {e : Nat → Addr} (h : Errs w B e) (hB : B ≤ w.heap.size) :
    Calls Tryd.prog 22 #[dayV d, .int .i64 f] w fun o w' => o = .returned (two (rainRes d f)) ∧ Below w.heap.size w w' := by
  obtain ⟨k0, hk0⟩ : ∃ k : Nat, k = codeDay d := ⟨_, rfl⟩
  obtain ⟨k1, hk1⟩ : ∃ k : Nat, k = if inB f 0 24 = true then 0 else 2 := ⟨_, rfl⟩
  have HF := Lib.hid (code_day_hour d (inB f 0 24) k0 k1 hk0 hk1)
  have HK0 := Lib.hid hk0
  have HK1 := Lib.hid hk1
  have HD := Lib.hid hd
  have HE := Lib.hid h
  clear hk0 hk1 hd h
  have A0 := Lib.hid (DayAt.new d 40 w)
  have B0 : Hid (Below w.heap.size w (w.alloc (.cells (dayCs d) 40))) := Lib.hid (by repeat (first | exact Below.refl _ _ | assumption | apply Below.drew | (refine Below.alloc ?_ (by first | (simp; done) | (simp; omega) | omega) _) | (refine Below.setCell ?_ (by first | (simp; done) | (simp; omega) | omega) _)))
  go_enter Tryd.func22, Tryd.ntmps22
  go_wp2_with (refine wpl_load_day rfl (.tmp 2) rfl w.heap.size rfl HD.out A0.out ?_)
  refine (checkDay_any d HD.out hf (HE.out.below (B0.out.mono hB)) (Nat.le_trans hB B0.out.size) k0 HK0.out).mono ?_
  rintro o w1 ⟨rfl, hb1⟩
  have A1 := Lib.hid (A0.out.next hb1)
  have B1 := Lib.hid (below_next B0.out hb1 (Nat.le_refl _))
  clear hb1 A0 B0
  go_wp2_with fail
  refine (checkHour_any f (HE.out.below (B1.out.mono hB)) k1 HK1.out).mono ?_
  rintro o w2 ⟨rfl, rfl⟩
  go_wp2_with (refine wpList_listed rfl 145 2 _ rfl #[(0, errOf e k0), (1, errOf e k1)] ?hp (buildSlice2 e k0 k1 _) ?_; case hp => simp [Act.eval])
  refine (firstOf_any e [k0, k1] _ 2 2 rfl (by decide) _ (cells_errs e [k0, k1] w1 85 #[errOf e k0, errOf e k1] rfl)).mono ?_
  rintro o w3 ⟨rfl, rfl⟩
  rw [HF.out]
  have S4 := Lib.hid (B1.out.alloc B1.out.size (.cells #[errOf e k0, errOf e k1] 85))
  have A4 := Lib.hid (A1.out.next ((Below.refl _ _).alloc (Nat.le_refl _) (.cells #[errOf e k0, errOf e k1] 85)))
  obtain ⟨w9, hw9⟩ : ∃ w9, w9 = w1.alloc (.cells #[errOf e k0, errOf e k1] 85) := ⟨_, rfl⟩
  rw [← hw9] at S4 A4 ⊢
  have H2 := Lib.hid (HE.out.below (S4.out.mono hB))
  clear hw9 B1 A1 HE
  have hle := codeAskD_le d [] (inB f 0 24)
  cases hc : codeAskD d [] (inB f 0 24) with
  | zero =>
    have HC := Lib.hid hc
    clear hle
    obtain ⟨g, rfl⟩ : ∃ g : Nat, f = (g : Int) := ⟨f.toNat, by have := inB_iff.1 (codeAskD_zero hc).2.2; omega⟩
    have hg24 : g ≤ 24 := by have := inB_iff.1 (codeAskD_zero hc).2.2; omega
    clear hc
    have ha : errOf e 0 = .nilIface := rfl
    rw [ha]
    clear ha
    go_wp2_with fail
    go_loopw [7] (fun vi wr => ∃ k : Nat, g ≤ k ∧ k ≤ 24 ∧ vi = .int .i64 k ∧ (∀ i y, g ≤ i → i < k → d[i]? = some y → y.rain ≤ 0) ∧ wr = w9) (fun vi _ => 24 - (intOf vi).toNat)
    case atStart => exact ⟨g, by omega, by omega, rfl, fun i y h1 h2 => absurd h1 (by omega), rfl⟩
    case round =>
      obtain ⟨k, hgk, hk, rfl, hno, rfl⟩ := hrel
      have HN := Lib.hid hno
      clear hno
      by_cases hlt : k < 24
      · obtain ⟨x, hx⟩ : ∃ x, d[k]? = some x := ⟨d[k]'(by have := HD.out; omega), List.getElem?_eq_getElem _⟩
        obtain ⟨c0, c1, c2⟩ := A4.out.get hx
        have HX := Lib.hid hx
        clear hx
        by_cases hr : 0 < x.rain
        · go_wp2_with fail
          go_ret2
          rw [rainRes_hit HC.out hgk HN.out HX.out hr]
          exact ⟨rfl, S4.out⟩
        · have hr2 : decide (0 < x.rain) = false := by simpa using hr
          go_wp2_with fail
          go_roundw
          case rel => exact ⟨k + 1, by omega, by omega, by go_num, fun i y h1 h2 hy => by
            rcases Nat.lt_or_ge i k with h3 | h3
            · exact HN.out i y h1 h3 hy
            · obtain rfl : i = k := by omega
              have := HX.out
              rw [hy] at this
              rw [Option.some.inj this]
              omega, trivial⟩
          case measure => simp [intOf]; omega
      · go_wp2_with fail
        go_ret2
        rw [rainRes_none HC.out (fun i y h1 hy => HN.out i y h1 (by have := (List.getElem?_eq_some_iff.1 hy).1; have := HD.out; omega) hy)]
        exact ⟨rfl, S4.out⟩
  | succ i =>
    have ha : errOf e (i + 1) = errV (e i) := rfl
    rw [hc] at hle
    have HC := Lib.hid hc
    clear hc
    rw [ha]
    clear ha
    go_wp2_with fail
    refine (codeOf_any H2.out (i + 1) (by omega)).mono ?_
    rintro o w5 ⟨rfl, rfl⟩
    go_wp2_with fail
    go_ret2
    rw [rainRes_fails HC.out (by omega)]
    exact ⟨by simp [two], S4.out⟩
set_option maxRecDepth 100000 in
set_option maxHeartbeats 4000000 in
theorem RainFrom_spec (d : List Wea) (hd : d.length = 24) (hf : ∀ x ∈ d, x.Fits) (f : Int) (w : World) :
    Calls Tryd.prog 20 #[dayV d, .int .i64 f] w fun o w' => o = .returned (two (rainRes d f)) ∧ Below w.heap.size w w' := by
  obtain ⟨k0, hk0⟩ : ∃ k : Nat, k = codeAskD d [] (inB f 0 24) := ⟨_, rfl⟩
  obtain ⟨b0, hb0⟩ : ∃ b, inB f 0 24 = b := ⟨_, rfl⟩
  rw [hb0] at hk0
  have HK0 := Lib.hid hk0
  have HB0 := Lib.hid hb0
  have HD := Lib.hid hd
  clear hk0 hb0 hd
  have A0 := Lib.hid (DayAt.new d 40 w)
  have B0 : Hid (Below w.heap.size w (w.alloc (.cells (dayCs d) 40))) := Lib.hid (by repeat (first | exact Below.refl _ _ | assumption | apply Below.drew | (refine Below.alloc ?_ (by first | (simp; done) | (simp; omega) | omega) _) | (refine Below.setCell ?_ (by first | (simp; done) | (simp; omega) | omega) _)))
  go_enter Tryd.func20, Tryd.ntmps20
  go_wp2_with fail
  refine (l03From_any f _ b0 HB0.out).mono ?_
  rintro o w1 ⟨rfl, rfl⟩
  go_wp2_with fail
  have A1 := Lib.hid (A0.out.next ((Below.refl _ _).alloc (Nat.le_refl _) (.cells #[] 28)))
  have B1 := Lib.hid (B0.out.alloc B0.out.size (.cells #[] 28))
  refine (l03Asked_any d HD.out hf _ _ 0 _ [] rfl (by decide) (fun x hx => by simp at hx) b0 _ A1.out (Sl.nil _ _ _ _ _) k0 HK0.out).mono ?_
  rintro o w2 ⟨rfl, hb2⟩
  have A2 := Lib.hid (A1.out.next hb2)
  have B2 := Lib.hid (below_next B1.out hb2 (Nat.le_refl _))
  clear hb2 A0 B0 A1 B1
  cases hc : k0 with
  | zero =>
    have HC : Hid (codeAskD d [] (inB f 0 24) = 0) := Lib.hid (by rw [HB0.out, ← HK0.out, hc])
    obtain ⟨g, rfl⟩ : ∃ g : Nat, f = (g : Int) := ⟨f.toNat, by have := inB_iff.1 (codeAskD_zero HC.out).2.2; omega⟩
    have hg24 : g ≤ 24 := by have := inB_iff.1 (codeAskD_zero HC.out).2.2; omega
    subst hc
    clear HK0 HB0
    go_wp2_with fail
    go_loopw [7] (fun vi wr => ∃ k : Nat, g ≤ k ∧ k ≤ 24 ∧ vi = .int .i64 k ∧ (∀ i y, g ≤ i → i < k → d[i]? = some y → y.rain ≤ 0) ∧ wr = w2) (fun vi _ => 24 - (intOf vi).toNat)
    case atStart => exact ⟨g, by omega, by omega, rfl, fun i y h1 h2 => absurd h1 (by omega), rfl⟩
    case round =>
      obtain ⟨k, hgk, hk, rfl, hno, rfl⟩ := hrel
      have HN := Lib.hid hno
      clear hno
      by_cases hlt : k < 24
      · obtain ⟨x, hx⟩ : ∃ x, d[k]? = some x := ⟨d[k]'(by have := HD.out; omega), List.getElem?_eq_getElem _⟩
        obtain ⟨c0, c1, c2⟩ := A2.out.get hx
        have HX := Lib.hid hx
        clear hx
        by_cases hr : 0 < x.rain
        · go_wp2_with fail
          go_ret2
          rw [rainRes_hit HC.out hgk HN.out HX.out hr]
          exact ⟨rfl, B2.out⟩
        · have hr2 : decide (0 < x.rain) = false := by simpa using hr
          go_wp2_with fail
          go_roundw
          case rel => exact ⟨k + 1, by omega, by omega, by go_num, fun i y h1 h2 hy => by
            rcases Nat.lt_or_ge i k with h3 | h3
            · exact HN.out i y h1 h3 hy
            · obtain rfl : i = k := by omega
              have := HX.out
              rw [hy] at this
              rw [Option.some.inj this]
              omega, trivial⟩
          case measure => simp [intOf]; omega
      · go_wp2_with fail
        go_ret2
        rw [rainRes_none HC.out (fun i y h1 hy => HN.out i y h1 (by have := (List.getElem?_eq_some_iff.1 hy).1; have := HD.out; omega) hy)]
        exact ⟨rfl, B2.out⟩
  | succ i =>
    have HC : Hid (codeAskD d [] (inB f 0 24) = i + 1) := Lib.hid (by rw [HB0.out, ← HK0.out, hc])
    subst hc
    have hne : (((i + 1 : Nat) : Int) != 0) = true := by rw [bne_iff_ne]; omega
    have hne2 : (((i : Int) + 1) != 0) = true := by rw [bne_iff_ne]; omega
    clear HK0 HB0
    go_wp2_with fail
    go_ret2
    rw [rainRes_fails HC.out (by omega)]
    exact ⟨by simp [two], B2.out⟩
end Go.Proofs.YtmjfdbhogobpfaaDoor.day
