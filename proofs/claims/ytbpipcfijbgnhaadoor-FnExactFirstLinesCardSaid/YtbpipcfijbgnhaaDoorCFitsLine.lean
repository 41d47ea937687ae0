/-
  Contracts of FitsLine, the program's and the model's.
-/
import Derived.Test.YtbpipcfijbgnhaaDoorHung
namespace Go.Proofs.YtbpipcfijbgnhaaDoor.hang
open Go.RowKit sl errs

/-- a bool and a code -/
def resB (code : Nat) (v : Bool) : Bool × Int := if code = 0 then (v, 0) else (false, code)
abbrev tupB (p : Bool × Int) : Value := .tuple #[.bool p.1, .int .i64 p.2]
theorem resB_zero {code : Nat} (v : Bool) (h : code = 0) : resB code v = (v, 0) := by rw [resB, if_pos h]
theorem resB_some {code : Nat} (v : Bool) (h : code ≠ 0) : resB code v = (false, (code : Int)) := by rw [resB, if_neg h]
set_option maxRecDepth 100000 in
set_option maxHeartbeats 4000000 in
theorem FitsLine_any (l : Lin) (hl : l.Fits) (A : Option Addr) (n c : Nat) (xs : List Clo) (en : n = xs.length) (hn : n ≤ 1048576) (hf : ∀ x ∈ xs, x.Fits) {w : World} {B : Nat} {e : Nat → Addr} (h : Errs w B e) (hB : B ≤ w.heap.size) (hg : Sl Clo.cells 2 w w.heap.size A xs) :
    Calls Tryd.prog 31 #[l.v, .slice A n c] w fun o w' => o = .returned (tupB (resB (codeHung l xs) (fitsB l xs))) ∧ Below w.heap.size w w' := by
  obtain ⟨k0, hk0⟩ : ∃ k : Nat, k = if [l].all Lin.valid = true then 0 else 1 := ⟨_, rfl⟩
  obtain ⟨k1, hk1⟩ : ∃ k : Nat, k = if xs.all Clo.valid = true then 0 else 1 := ⟨_, rfl⟩
  obtain ⟨k2, hk2⟩ : ∃ k : Nat, k = if 7 < n then 3 else 0 := ⟨_, rfl⟩
  have HF := Lib.hid (code3 l xs n k0 k1 k2 en hk0 hk1 hk2)
  have HK0 := Lib.hid hk0
  have HK1 := Lib.hid hk1
  have HK2 := Lib.hid hk2
  have En := Lib.hid en
  have hlf : ∀ x ∈ [l], x.Fits := fun x hx => by rw [List.mem_singleton.1 hx]; exact hl
  have S0 := Lib.hid (FitS.new l w 47)
  have c0 := S0.out.c0
  have c1 := S0.out.c1
  clear hk0 hk1 hk2 en
  go_enter Tryd.func31, Tryd.ntmps31
  go_wp2_with fail
  have S1 := Lib.hid (S0.out.next ((Below.refl _ _).alloc (Nat.le_refl _) (.cells #[.int .i16 l.long, .int .i16 l.most] 47)))
  refine (checkLines_any (some ⟨w.heap.size + 1, 0, none⟩) 1 1 [l] rfl (by omega) hlf (h.below (S1.out.b.mono hB)) (by have := S1.out.b.size; omega) (sl_line2 w l 47 47) k0 HK0.out).mono ?_
  rintro o w1 ⟨rfl, hb1⟩
  have S2 := Lib.hid (S1.out.next hb1)
  clear c0 c1 S1 hb1
  go_wp2_with fail
  refine (checkCloths_any A n c xs En.out (by omega) hf (h.below (S2.out.b.mono hB)) (by have := S2.out.b.size; omega) ((hg.below S2.out.b).more S2.out.b.size) k1 HK1.out).mono ?_
  rintro o w2 ⟨rfl, hb2⟩
  have S3 := Lib.hid (S2.out.next hb2)
  clear hb2 S2
  go_wp2_with fail
  refine (checkClothCount_any A n c 7 (by omega) (by omega) (h.below (S3.out.b.mono hB)) k2 HK2.out).mono ?_
  rintro o w3 ⟨rfl, rfl⟩
  go_wp2_with (refine wpList_listed rfl 95 3 _ rfl #[(0, errOf e k0), (1, errOf e k1), (2, errOf e k2)] ?hp (buildSlice3 e k0 k1 k2 _) ?_; case hp => simp [Act.eval])
  refine (firstOf_any e [k0, k1, k2] _ 3 3 rfl (by decide) _ (cells_errs e [k0, k1, k2] w2 69 #[errOf e k0, errOf e k1, errOf e k2] rfl)).mono ?_
  rintro o w3 ⟨rfl, rfl⟩
  rw [HF.out]
  have S4 := Lib.hid (S3.out.next ((Below.refl _ _).alloc (Nat.le_refl _) (.cells #[errOf e k0, errOf e k1, errOf e k2] 69)))
  obtain ⟨w9, hw9⟩ : ∃ w9, w9 = w2.alloc (.cells #[errOf e k0, errOf e k1, errOf e k2] 69) := ⟨_, rfl⟩
  rw [← hw9] at S4 ⊢
  have H2 := Lib.hid (h.below (S4.out.b.mono hB))
  have c0 := S4.out.c0
  have c1 := S4.out.c1
  clear hw9 S3 S0
  have hle := codeHung_le l xs
  cases hc : codeHung l xs with
  | zero =>
    have e0 : errOf e 0 = .nilIface := rfl
    rw [e0]
    have HC := Lib.hid hc
    clear hc e0 hle
    go_wp2_with fail
    obtain ⟨_, hv, hl7⟩ := codeHung_zero HC.out
    have HO := Lib.hid (ok_valid hv hf (by omega))
    clear hv hl7
    refine (fits_any l hl A n c xs En.out hn HO.out _ ((hg.below S4.out.b).more S4.out.b.size)).mono ?_
    rintro o w3 ⟨rfl, hb3⟩
    have S5 := Lib.hid (S4.out.next hb3)
    clear hb3 c0 c1
    go_wp2_with fail
    go_ret2
    rw [resB_zero _ HC.out]
    exact ⟨rfl, S5.out.b⟩
  | succ i =>
    have e0 : errOf e (i + 1) = errV (e i) := rfl
    rw [e0]
    rw [hc] at hle
    have HC := Lib.hid hc
    clear hc e0
    go_wp2_with fail
    refine (codeOf_any H2.out (i + 1) (by omega)).mono ?_
    rintro o w3 ⟨rfl, rfl⟩
    go_wp2_with fail
    go_ret2
    rw [resB_some _ (by rw [HC.out]; omega), HC.out]
    exact ⟨by simp, S4.out.b⟩
set_option maxRecDepth 100000 in
set_option maxHeartbeats 2000000 in
theorem FitsLine_spec (l : Lin) (hl : l.Fits) (A : Option Addr) (n c : Nat) (xs : List Clo) (en : n = xs.length) (hn : n ≤ 1048576) (hf : ∀ x ∈ xs, x.Fits) (w : World) (hg : Sl Clo.cells 2 w w.heap.size A xs) :
    Calls Tryd.prog 29 #[l.v, .slice A n c] w fun o w' => o = .returned (tupB (resB (codeHung l xs) (fitsB l xs))) ∧ Below w.heap.size w w' := by
  obtain ⟨k0, hk0⟩ : ∃ k, k = codeHung l xs := ⟨_, rfl⟩
  rw [← hk0]
  have HK := Lib.hid hk0
  have En := Lib.hid en
  have S0 := Lib.hid (FitS.new l w 47)
  have c0 := S0.out.c0
  have c1 := S0.out.c1
  clear hk0 en
  cases k0 with
  | zero =>
    rw [resB_zero _ rfl]
    have HV := Lib.hid (codeHung_zero HK.out.symm).2.1
    go_enter Tryd.func29, Tryd.ntmps29
    go_wp2_with fail
    refine (l02Hung_any l hl A n c xs En.out hn hf _ ((hg.below S0.out.b).more S0.out.b.size) 0 HK.out).mono ?_
    rintro o w1 ⟨rfl, hb1⟩
    have S1 := Lib.hid (S0.out.next hb1)
    clear c0 c1 hb1
    have c0 := S1.out.c0
    have c1 := S1.out.c1
    go_wp2_with fail
    refine (l02Fits_any l hl A n c xs En.out hn HV.out hf _ ((hg.below S1.out.b).more S1.out.b.size)).mono ?_
    rintro o w2 ⟨rfl, hb2⟩
    have S2 := Lib.hid (S1.out.next hb2)
    clear c0 c1 hb2
    go_wp2_with fail
    go_ret2
    exact ⟨rfl, S2.out.b⟩
  | succ i =>
    rw [resB_some _ (by omega)]
    have hne : (((i + 1 : Nat) : Int) != 0) = true := by rw [bne_iff_ne]; omega
    have hne2 : (((i : Int) + 1) != 0) = true := by rw [bne_iff_ne]; omega
    go_enter Tryd.func29, Tryd.ntmps29
    go_wp2_with fail
    refine (l02Hung_any l hl A n c xs En.out hn hf _ ((hg.below S0.out.b).more S0.out.b.size) (i + 1) HK.out).mono ?_
    rintro o w1 ⟨rfl, hb1⟩
    have S1 := Lib.hid (S0.out.next hb1)
    clear c0 c1 hb1
    go_wp2_with fail
    go_ret2
    exact ⟨by simp, S1.out.b⟩
end Go.Proofs.YtbpipcfijbgnhaaDoor.hang
