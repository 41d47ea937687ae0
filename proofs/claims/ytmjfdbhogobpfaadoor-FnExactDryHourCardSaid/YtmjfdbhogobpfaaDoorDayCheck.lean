/-
  The checks of chapter 3, the program's and the model's: days, hours.
-/
import Derived.Test.YtmjfdbhogobpfaaDoorDayTamed
import Derived.Test.YtmjfdbhogobpfaaDoorWithin
namespace Go.Proofs.YtmjfdbhogobpfaaDoor.day
open Go Go.RowKit sl errs

/-- the code of a day -/
def codeDay (d : List Wea) : Nat := if d.all Wea.valid = true then 0 else 1
/-- the code of a day, some things, and whether numbers are as told -/
def codeAskD (d : List Wea) (ws : List Was) (fine : Bool) : Nat := if d.all Wea.valid = true then (if ws.all Was.valid = true then (if fine = true then 0 else 2) else 1) else 1
theorem codeAskD_le (d : List Wea) (ws : List Was) (fine : Bool) : codeAskD d ws fine ≤ 2 := by
  unfold codeAskD
  split
  · split
    · split <;> omega
    · omega
  · omega
theorem codeAskD_zero {d : List Wea} {ws : List Was} {fine : Bool} (h : codeAskD d ws fine = 0) : d.all Wea.valid = true ∧ ws.all Was.valid = true ∧ fine = true := by
  unfold codeAskD at h
  split at h
  · rename_i h1
    split at h
    · rename_i h2
      split at h
      · rename_i h3
        exact ⟨h1, h2, h3⟩
      · omega
    · omega
  · omega
theorem code_day_hour (d : List Wea) (fine : Bool) (k0 k1 : Nat) (h0 : k0 = codeDay d) (h1 : k1 = if fine = true then 0 else 2) : firstCode [k0, k1] = codeAskD d [] fine := by
  subst h0 h1
  unfold codeDay codeAskD
  cases d.all Wea.valid <;> cases fine <;> rfl

theorem infoD2 : (Tryd.prog.info? 40).map (·.size) = some 72 := by kernel_rfl
set_option maxRecDepth 100000 in
set_option maxHeartbeats 1000000 in
theorem checkDay_any (d : List Wea) (hd : d.length = 24) (hf : ∀ x ∈ d, x.Fits) {w : World} {B : Nat} {e : Nat → Addr} (h : Errs w B e) (hB : B ≤ w.heap.size) (k0 : Nat) (hk : k0 = codeDay d) :
    Calls Tryd.prog 66 #[dayV d] w fun o w' => o = .returned (errOf e k0) ∧ Below w.heap.size w w' := by
  have HD := Lib.hid hd
  clear hd
  have A0 := Lib.hid (DayAt.new d 40 w)
  have B0 : Hid (Below w.heap.size w (w.alloc (.cells (dayCs d) 40))) := Lib.hid (by repeat (first | exact Below.refl _ _ | assumption | apply Below.drew | (refine Below.alloc ?_ (by first | (simp; done) | (simp; omega) | omega) _) | (refine Below.setCell ?_ (by first | (simp; done) | (simp; omega) | omega) _)))
  cases hv : d.all Wea.valid with
  | true =>
    have e0 : k0 = 0 := by rw [hk, codeDay, hv, if_pos rfl]
    subst e0
    have HV := Lib.hid hv
    clear hv hk
    go_enter Tryd.func66, Tryd.ntmps66
    go_wp2_with (refine wpl_load_day rfl (.tmp 1) rfl w.heap.size rfl HD.out A0.out ?_)
    refine (ValidDay_any d HD.out hf _).mono ?_
    rintro o w1 ⟨rfl, hb⟩
    rw [HV.out]
    have H1 := Lib.hid (below_next B0.out hb (Nat.le_refl _))
    clear hb A0 B0
    go_wp2_with fail
    go_ret
    exact ⟨rfl, H1.out⟩
  | false =>
    have e0 : k0 = 1 := by rw [hk, codeDay, hv, if_neg (by decide)]
    subst e0
    have HV := Lib.hid hv
    clear hv hk
    go_enter Tryd.func66, Tryd.ntmps66
    go_wp2_with (refine wpl_load_day rfl (.tmp 1) rfl w.heap.size rfl HD.out A0.out ?_)
    refine (ValidDay_any d HD.out hf _).mono ?_
    rintro o w1 ⟨rfl, hb⟩
    rw [HV.out]
    have H1 := Lib.hid (below_next B0.out hb (Nat.le_refl _))
    have g0 := (h.below (H1.out.mono hB)).c0
    clear hb A0 B0
    go_wp2_with fail
    go_ret
    exact ⟨rfl, H1.out⟩
set_option maxRecDepth 100000 in
set_option maxHeartbeats 1000000 in
theorem checkHour_any (f : Int) {w : World} {B : Nat} {e : Nat → Addr} (h : Errs w B e) (k0 : Nat) (hk : k0 = if inB f 0 24 = true then 0 else 2) :
    Calls Tryd.prog 67 #[.int .i64 f] w fun o w' => o = .returned (errOf e k0) ∧ w = w' := by
  have hk2 : (if (0 : Int) ≤ f ∧ f ≤ 24 then 0 else 2) = k0 := by
    rw [hk]
    simp [inB]
  have HK := Lib.hid hk2
  clear hk hk2
  go_enter Tryd.func67, Tryd.ntmps67
  go_wp2_with fail
  refine (checkWithin_any f 0 24 h).mono ?_
  rintro o w1 ⟨rfl, rfl⟩
  rw [HK.out]
  go_wp2_with fail
  go_ret
  exact ⟨rfl, rfl⟩
/-- are two hours as told -/
def hoursB (f t : Int) : Bool := inB f 0 24 && (inB t 0 24 && decide (f ≤ t))
theorem hoursB_iff {f t : Int} : hoursB f t = true ↔ 0 ≤ f ∧ f ≤ t ∧ t ≤ 24 := by
  simp [hoursB, inB]
  omega
theorem code_hours (f t : Int) (k0 k1 : Nat) (h0 : k0 = if inB f 0 24 = true then 0 else 2) (h1 : k1 = if f ≤ t ∧ t ≤ 24 then 0 else 2) : firstCode [k0, k1] = if hoursB f t = true then 0 else 2 := by
  have e1 : (f ≤ t ∧ t ≤ 24 ∧ inB f 0 24 = true) ↔ hoursB f t = true := by
    rw [hoursB_iff, inB_iff]
    omega
  rw [h0, h1]
  by_cases g0 : inB f 0 24 = true
  · rw [if_pos g0]
    by_cases g1 : f ≤ t ∧ t ≤ 24
    · rw [if_pos g1, if_pos (e1.1 ⟨g1.1, g1.2, g0⟩)]
      rfl
    · rw [if_neg g1, if_neg (fun hh => g1 ⟨(e1.2 hh).1, (e1.2 hh).2.1⟩)]
      rfl
  · rw [if_neg g0, if_neg (fun hh => g0 (e1.2 hh).2.2)]
    rfl
set_option maxRecDepth 100000 in
set_option maxHeartbeats 2000000 in
theorem checkHours_any (f t : Int) {w : World} {B : Nat} {e : Nat → Addr} (h : Errs w B e) (hB : B ≤ w.heap.size) (k0 : Nat) (hk : k0 = if hoursB f t = true then 0 else 2) :
    Calls Tryd.prog 69 #[.int .i64 f, .int .i64 t] w fun o w' => o = .returned (errOf e k0) ∧ Below w.heap.size w w' := by
  obtain ⟨i0, hi0⟩ : ∃ k : Nat, k = if inB f 0 24 = true then 0 else 2 := ⟨_, rfl⟩
  obtain ⟨i1, hi1⟩ : ∃ k : Nat, k = if f ≤ t ∧ t ≤ 24 then 0 else 2 := ⟨_, rfl⟩
  have HF := Lib.hid ((code_hours f t i0 i1 hi0 hi1).trans hk.symm)
  have H0 := Lib.hid hi0
  have H1 := Lib.hid hi1.symm
  clear hk hi0 hi1
  go_enter Tryd.func69, Tryd.ntmps69
  go_wp2_with fail
  refine (checkHour_any f h i0 H0.out).mono ?_
  rintro o w1 ⟨rfl, rfl⟩
  go_wp2_with fail
  refine (checkWithin_any t f 24 h).mono ?_
  rintro o w1 ⟨rfl, rfl⟩
  rw [H1.out]
  go_wp2_with (refine wpList_listed rfl 145 2 _ rfl #[(0, errOf e i0), (1, errOf e i1)] ?hp (buildSlice2 e i0 i1 _) ?_; case hp => simp [Act.eval])
  refine (firstOf_any e [i0, i1] _ 2 2 rfl (by decide) _ (cells_errs e [i0, i1] w 85 #[errOf e i0, errOf e i1] rfl)).mono ?_
  rintro o w3 ⟨rfl, rfl⟩
  rw [HF.out]
  have S1 := Lib.hid ((Below.refl w.heap.size w).alloc (Nat.le_refl _) (.cells #[errOf e i0, errOf e i1] 85))
  go_wp2_with fail
  go_ret
  exact ⟨rfl, S1.out⟩
theorem l03From_any (f : Int) (w : World) (b : Bool) (hb : inB f 0 24 = b) :
    Calls Tryd.prog 65 #[.int .i64 f] w fun o w' => o = .returned (.bool b) ∧ w = w' := by
  have HB := Lib.hid hb
  clear hb
  go_enter Tryd.func65, Tryd.ntmps65
  go_wp2_with fail
  refine (l00In_b _ _ _ b HB.out _).mono ?_
  rintro o w1 ⟨rfl, rfl⟩
  go_wp2_with fail
  go_ret
  exact ⟨rfl, rfl⟩
set_option maxRecDepth 100000 in
set_option maxHeartbeats 4000000 in
theorem l03Asked_any (d : List Wea) (hd : d.length = 24) (hf : ∀ x ∈ d, x.Fits) (b : Nat) (A : Option Addr) (n c : Nat) (ws : List Was) (en : n = ws.length) (hn : n ≤ 9223372036854775807) (hwf : ∀ x ∈ ws, x.Fits) (fine : Bool) (w : World) (hA : DayAt w b d)
    (hg : Sl Was.cells 2 w w.heap.size A ws) (k0 : Nat) (hk : k0 = codeAskD d ws fine) :
    Calls Tryd.prog 64 #[.pointer (some ⟨b, 0, none⟩), .slice A n c, .bool fine] w fun e w' => e = .returned (.int .i64 k0) ∧ Below w.heap.size w w' := by
  have HD := Lib.hid hd
  have HA := Lib.hid hA
  have HK := Lib.hid hk
  have En := Lib.hid en
  clear hd hA hk en
  cases hv : d.all Wea.valid with
  | false =>
    have e0 : k0 = 1 := by rw [HK.out, codeAskD, hv, if_neg (by decide)]
    subst e0
    have HV := Lib.hid hv
    clear hv HK
    go_enter Tryd.func64, Tryd.ntmps64
    go_wp2_with fail
    refine (l03Ok_any d HD.out hf b _ HA.out).mono ?_
    rintro o w1 ⟨rfl, hb⟩
    rw [HV.out]
    have H1 := Lib.hid hb
    clear hb
    go_wp2_with fail
    go_ret
    exact ⟨rfl, H1.out⟩
  | true =>
    have HV := Lib.hid hv
    clear hv
    go_enter Tryd.func64, Tryd.ntmps64
    go_wp2_with fail
    refine (l03Ok_any d HD.out hf b _ HA.out).mono ?_
    rintro o w1 ⟨rfl, hb⟩
    rw [HV.out]
    have H1 := Lib.hid hb
    clear hb
    go_wp2_with fail
    go_loopw [7] (fun vi wr => ∃ k : Nat, k ≤ n ∧ vi = .int .i64 k ∧ (∀ i x, i < k → ws[i]? = some x → Was.valid x = true) ∧ Below w.heap.size w wr) (fun vi _ => n - (intOf vi).toNat)
    case atStart => exact ⟨0, by omega, rfl, fun i x hi => absurd hi (by omega), H1.out⟩
    case round =>
      obtain ⟨k, hk, rfl, hval, hB⟩ := hrel
      have HW := Lib.hid hval
      have HB := Lib.hid hB
      clear hval hB
      by_cases hlt : k < n
      · obtain ⟨x, hx⟩ : ∃ x, ws[k]? = some x := ⟨ws[k]'(by have := En.out; omega), List.getElem?_eq_getElem _⟩
        have hxf : x.Fits := hwf x (List.mem_of_getElem? hx)
        obtain ⟨a, rfl, hab, hat⟩ := (hg.below HB.out).at_ k x hx
        obtain ⟨c0, c1⟩ := wasS.at_ hat
        have HX := Lib.hid hx
        clear hx hat
        cases hv : Was.valid x with
        | true =>
          have HY := Lib.hid hv
          clear hv
          go_wp2_with fail
          refine (l03Wash_any x hxf _).mono ?_
          rintro o w2 ⟨rfl, hb2⟩
          rw [HY.out]
          have HB2 := Lib.hid (below_next HB.out hb2 (Nat.le_refl _))
          clear c0 c1 hb2
          go_wp2_with fail
          go_roundw
          case rel => exact ⟨k + 1, by omega, by go_num, fun i y hi hy => by
            rcases Nat.lt_or_ge i k with h1 | h1
            · exact HW.out i y h1 hy
            · obtain rfl : i = k := by omega
              have := HX.out
              rw [hy] at this
              rw [Option.some.inj this]
              exact HY.out, HB2.out⟩
          case measure => simp [intOf]; omega
        | false =>
          have e0 : k0 = 1 := by
            have h1 := all_not HX.out hv
            rw [HK.out, codeAskD, HV.out, if_pos rfl, h1, if_neg (by decide)]
          subst e0
          have HY := Lib.hid hv
          clear hv
          go_wp2_with fail
          refine (l03Wash_any x hxf _).mono ?_
          rintro o w2 ⟨rfl, hb2⟩
          rw [HY.out]
          have HB2 := Lib.hid (below_next HB.out hb2 (Nat.le_refl _))
          clear c0 c1 hb2
          go_wp2_with fail
          go_ret
          exact ⟨rfl, HB2.out⟩
      · have hall : ws.all Was.valid = true := all_of_idx fun i x hi hx => HW.out i x (by have := En.out; omega) hx
        cases fine with
        | true =>
          have e0 : k0 = 0 := by rw [HK.out, codeAskD, HV.out, if_pos rfl, hall, if_pos rfl, if_pos rfl]
          subst e0
          clear hall
          go_wp2_with fail
          go_ret
          exact ⟨rfl, HB.out⟩
        | false =>
          have e0 : k0 = 2 := by rw [HK.out, codeAskD, HV.out, if_pos rfl, hall, if_pos rfl, if_neg (by decide)]
          subst e0
          clear hall
          go_wp2_with fail
          go_ret
          exact ⟨rfl, HB.out⟩
end Go.Proofs.YtmjfdbhogobpfaaDoor.day
