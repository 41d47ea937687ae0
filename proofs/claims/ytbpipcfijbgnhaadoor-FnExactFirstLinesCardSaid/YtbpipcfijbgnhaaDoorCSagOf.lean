/-
  Contracts of SagOf, the program's and the model's.
-/
import Derived.Test.YtbpipcfijbgnhaaDoorSagI
import Derived.Test.YtbpipcfijbgnhaaDoorSagS
namespace Go.Proofs.YtbpipcfijbgnhaaDoor.hang
open Go.RowKit sl errs

/-- what SagOf tells -/
def sagRes (l : Lin) (xs : List Clo) : Int × Int := if codeHung l xs = 0 then (if fitsB l xs = true then (sagL l xs, 0) else (0, 4)) else (0, codeHung l xs)
theorem sagRes_fails {l : Lin} {xs : List Clo} (h : codeHung l xs ≠ 0) : sagRes l xs = (0, (codeHung l xs : Int)) := by rw [sagRes, if_neg h]
theorem sagRes_state {l : Lin} {xs : List Clo} (h : codeHung l xs = 0) (hf : fitsB l xs = false) : sagRes l xs = (0, 4) := by rw [sagRes, if_pos h, hf]; rfl
theorem sagRes_fine {l : Lin} {xs : List Clo} (h : codeHung l xs = 0) (hf : fitsB l xs = true) : sagRes l xs = (sagL l xs, 0) := by rw [sagRes, if_pos h, hf]; rfl
theorem fits_long {l : Lin} {xs : List Clo} (h : fitsB l xs = true) : (hung xs).fin ≤ l.long := by
  simp [fitsB] at h
  exact h.1
theorem fits_v (l : Lin) (hl : l.Fits) (A : Option Addr) (n c : Nat) (xs : List Clo) (en : n = xs.length) (hn : n ≤ 1048576) (ho : Ok xs) (w : World) (hg : Sl Clo.cells 2 w w.heap.size A xs) (v : Bool) (hv : fitsB l xs = v) :
    Calls Tryd.prog 64 #[l.v, .slice A n c] w fun e w' => e = .returned (.bool v) ∧ Below w.heap.size w w' := by
  subst hv
  exact fits_any l hl A n c xs en hn ho w hg
theorem l02Fits_v (l : Lin) (hl : l.Fits) (A : Option Addr) (n c : Nat) (xs : List Clo) (en : n = xs.length) (hn : n ≤ 1048576) (hv : ∀ x ∈ xs, Clo.valid x = true) (hf : ∀ x ∈ xs, x.Fits) (w : World) (hg : Sl Clo.cells 2 w w.heap.size A xs) (v : Bool) (hb : fitsB l xs = v) :
    Calls Tryd.prog 62 #[l.v, .slice A n c] w fun o w' => o = .returned (.bool v) ∧ Below w.heap.size w w' := by
  subst hb
  exact l02Fits_any l hl A n c xs en hn hv hf w hg
set_option maxRecDepth 100000 in
set_option maxHeartbeats 4000000 in
theorem SagOf_any (l : Lin) (hl : l.Fits) (A : Option Addr) (n c : Nat) (xs : List Clo) (en : n = xs.length) (hn : n ≤ 1048576) (hf : ∀ x ∈ xs, x.Fits) {w : World} {B : Nat} {e : Nat → Addr} (h : Errs w B e) (hB : B ≤ w.heap.size) (hg : Sl Clo.cells 2 w w.heap.size A xs) :
    Calls Tryd.prog 37 #[l.v, .slice A n c] w fun o w' => o = .returned (tup2 (sagRes l xs)) ∧ Below w.heap.size w w' := by
  obtain ⟨k0, hk0⟩ : ∃ k : Nat, k = if [l].all Lin.valid = true then 0 else 1 := ⟨_, rfl⟩
  obtain ⟨k1, hk1⟩ : ∃ k : Nat, k = if xs.all Clo.valid = true then 0 else 1 := ⟨_, rfl⟩
  obtain ⟨k2, hk2⟩ : ∃ k : Nat, k = if 7 < n then 3 else 0 := ⟨_, rfl⟩
  have HF := Lib.hid (code3 l xs n k0 k1 k2 en hk0 hk1 hk2)
  have HK0 := Lib.hid hk0
  have HK1 := Lib.hid hk1
  have HK2 := Lib.hid hk2
  have En := Lib.hid en
  have hlf : ∀ x ∈ [l], x.Fits := fun x hx => by rw [List.mem_singleton.1 hx]; exact hl
  have S0 := Lib.hid (FitS.new l w 47)
  have c0 := S0.out.c0
  have c1 := S0.out.c1
  clear hk0 hk1 hk2 en
  go_enter Tryd.func37, Tryd.ntmps37
  go_wp2_with fail
  have S1 := Lib.hid (S0.out.next ((Below.refl _ _).alloc (Nat.le_refl _) (.cells #[.int .i16 l.long, .int .i16 l.most] 47)))
  refine (checkLines_any (some ⟨w.heap.size + 1, 0, none⟩) 1 1 [l] rfl (by omega) hlf (h.below (S1.out.b.mono hB)) (by have := S1.out.b.size; omega) (sl_line2 w l 47 47) k0 HK0.out).mono ?_
  rintro o w1 ⟨rfl, hb1⟩
  have S2 := Lib.hid (S1.out.next hb1)
  clear c0 c1 S1 hb1
  go_wp2_with fail
  refine (checkCloths_any A n c xs En.out (by omega) hf (h.below (S2.out.b.mono hB)) (by have := S2.out.b.size; omega) ((hg.below S2.out.b).more S2.out.b.size) k1 HK1.out).mono ?_
  rintro o w2 ⟨rfl, hb2⟩
  have S3 := Lib.hid (S2.out.next hb2)
  clear hb2 S2
  go_wp2_with fail
  refine (checkClothCount_any A n c 7 (by omega) (by omega) (h.below (S3.out.b.mono hB)) k2 HK2.out).mono ?_
  rintro o w3 ⟨rfl, rfl⟩
  go_wp2_with (refine wpList_listed rfl 95 3 _ rfl #[(0, errOf e k0), (1, errOf e k1), (2, errOf e k2)] ?hp (buildSlice3 e k0 k1 k2 _) ?_; case hp => simp [Act.eval])
  refine (firstOf_any e [k0, k1, k2] _ 3 3 rfl (by decide) _ (cells_errs e [k0, k1, k2] w2 69 #[errOf e k0, errOf e k1, errOf e k2] rfl)).mono ?_
  rintro o w3 ⟨rfl, rfl⟩
  rw [HF.out]
  have S4 := Lib.hid (S3.out.next ((Below.refl _ _).alloc (Nat.le_refl _) (.cells #[errOf e k0, errOf e k1, errOf e k2] 69)))
  obtain ⟨w9, hw9⟩ : ∃ w9, w9 = w2.alloc (.cells #[errOf e k0, errOf e k1, errOf e k2] 69) := ⟨_, rfl⟩
  rw [← hw9] at S4 ⊢
  have H2 := Lib.hid (h.below (S4.out.b.mono hB))
  have c0 := S4.out.c0
  have c1 := S4.out.c1
  clear hw9 S3 S0
  have hle := codeHung_le l xs
  cases hc : codeHung l xs with
  | zero =>
    have e0 : errOf e 0 = .nilIface := rfl
    rw [e0]
    have HC := Lib.hid hc
    clear hc e0 hle
    go_wp2_with fail
    obtain ⟨hlv, hv, hl7⟩ := codeHung_zero HC.out
    have HO := Lib.hid (ok_valid hv hf (by omega))
    have HV := Lib.hid hv
    have h7 : n ≤ 7 := by have := En.out; omega
    clear hv hl7
    cases hfb : fitsB l xs with
    | true =>
      have HF2 := Lib.hid hfb
      clear hfb
      refine (fits_v l hl A n c xs En.out hn HO.out _ ((hg.below S4.out.b).more S4.out.b.size) true HF2.out).mono ?_
      rintro o w3 ⟨rfl, hb3⟩
      have S5 := Lib.hid (S4.out.next hb3)
      clear hb3 c0 c1
      have c0 := S5.out.c0
      have c1 := S5.out.c1
      go_wp2_with fail
      refine (sagOf_any l hl hlv A n c xs En.out (by omega) HV.out hf (fits_long HF2.out) _ ((hg.below S5.out.b).more S5.out.b.size)).mono ?_
      rintro o w4 ⟨rfl, hb4⟩
      have S6 := Lib.hid (S5.out.next hb4)
      clear hb4 c0 c1
      go_wp2_with fail
      go_ret2
      rw [sagRes_fine HC.out HF2.out]
      exact ⟨rfl, S6.out.b⟩
    | false =>
      have HF2 := Lib.hid hfb
      clear hfb
      refine (fits_v l hl A n c xs En.out hn HO.out _ ((hg.below S4.out.b).more S4.out.b.size) false HF2.out).mono ?_
      rintro o w3 ⟨rfl, hb3⟩
      have S5 := Lib.hid (S4.out.next hb3)
      clear hb3 c0 c1
      go_wp2_with fail
      go_ret2
      rw [sagRes_state HC.out HF2.out]
      exact ⟨rfl, S5.out.b⟩
  | succ i =>
    have e0 : errOf e (i + 1) = errV (e i) := rfl
    rw [e0]
    rw [hc] at hle
    have HC := Lib.hid hc
    clear hc e0
    go_wp2_with fail
    refine (codeOf_any H2.out (i + 1) (by omega)).mono ?_
    rintro o w3 ⟨rfl, rfl⟩
    go_wp2_with fail
    go_ret2
    rw [sagRes_fails (by rw [HC.out]; omega), HC.out]
    exact ⟨by simp, S4.out.b⟩
set_option maxRecDepth 100000 in
set_option maxHeartbeats 4000000 in
theorem SagOf_spec (l : Lin) (hl : l.Fits) (A : Option Addr) (n c : Nat) (xs : List Clo) (en : n = xs.length) (hn : n ≤ 1048576) (hf : ∀ x ∈ xs, x.Fits) (w : World) (hg : Sl Clo.cells 2 w w.heap.size A xs) :
    Calls Tryd.prog 36 #[l.v, .slice A n c] w fun o w' => o = .returned (tup2 (sagRes l xs)) ∧ Below w.heap.size w w' := by
  obtain ⟨k0, hk0⟩ : ∃ k, k = codeHung l xs := ⟨_, rfl⟩
  have HK := Lib.hid hk0
  have En := Lib.hid en
  have S0 := Lib.hid (FitS.new l w 47)
  have c0 := S0.out.c0
  have c1 := S0.out.c1
  clear hk0 en
  cases k0 with
  | zero =>
    have hlv := (codeHung_zero HK.out.symm).1
    have HV := Lib.hid (codeHung_zero HK.out.symm).2.1
    cases hfb : fitsB l xs with
    | true =>
      have HF2 := Lib.hid hfb
      clear hfb
      rw [sagRes_fine HK.out.symm HF2.out]
      go_enter Tryd.func36, Tryd.ntmps36
      go_wp2_with fail
      refine (l02Hung_any l hl A n c xs En.out hn hf _ ((hg.below S0.out.b).more S0.out.b.size) 0 HK.out).mono ?_
      rintro o w1 ⟨rfl, hb1⟩
      have S1 := Lib.hid (S0.out.next hb1)
      clear c0 c1 hb1
      have c0 := S1.out.c0
      have c1 := S1.out.c1
      go_wp2_with fail
      refine (l02Fits_v l hl A n c xs En.out hn HV.out hf _ ((hg.below S1.out.b).more S1.out.b.size) true HF2.out).mono ?_
      rintro o w2 ⟨rfl, hb2⟩
      have S2 := Lib.hid (S1.out.next hb2)
      clear c0 c1 hb2
      have c0 := S2.out.c0
      have c1 := S2.out.c1
      go_wp2_with fail
      refine (l02Sag_any l hl hlv A n c xs En.out hn HV.out hf (fits_long HF2.out) _ ((hg.below S2.out.b).more S2.out.b.size)).mono ?_
      rintro o w3 ⟨rfl, hb3⟩
      have S3 := Lib.hid (S2.out.next hb3)
      clear c0 c1 hb3
      go_wp2_with fail
      go_ret2
      exact ⟨rfl, S3.out.b⟩
    | false =>
      have HF2 := Lib.hid hfb
      clear hfb
      rw [sagRes_state HK.out.symm HF2.out]
      go_enter Tryd.func36, Tryd.ntmps36
      go_wp2_with fail
      refine (l02Hung_any l hl A n c xs En.out hn hf _ ((hg.below S0.out.b).more S0.out.b.size) 0 HK.out).mono ?_
      rintro o w1 ⟨rfl, hb1⟩
      have S1 := Lib.hid (S0.out.next hb1)
      clear c0 c1 hb1
      have c0 := S1.out.c0
      have c1 := S1.out.c1
      go_wp2_with fail
      refine (l02Fits_v l hl A n c xs En.out hn HV.out hf _ ((hg.below S1.out.b).more S1.out.b.size) false HF2.out).mono ?_
      rintro o w2 ⟨rfl, hb2⟩
      have S2 := Lib.hid (S1.out.next hb2)
      clear c0 c1 hb2
      go_wp2_with fail
      go_ret2
      exact ⟨rfl, S2.out.b⟩
  | succ i =>
    rw [sagRes_fails (by rw [← HK.out]; omega), ← HK.out]
    have hne : (((i + 1 : Nat) : Int) != 0) = true := by rw [bne_iff_ne]; omega
    have hne2 : (((i : Int) + 1) != 0) = true := by rw [bne_iff_ne]; omega
    have hne3 : (((i : Int) + 1) == 0) = false := by rw [beq_eq_false_iff_ne]; omega
    have hne4 : (((i + 1 : Nat) : Int) == 0) = false := by rw [beq_eq_false_iff_ne]; omega
    go_enter Tryd.func36, Tryd.ntmps36
    go_wp2_with fail
    refine (l02Hung_any l hl A n c xs En.out hn hf _ ((hg.below S0.out.b).more S0.out.b.size) (i + 1) HK.out).mono ?_
    rintro o w1 ⟨rfl, hb1⟩
    have S1 := Lib.hid (S0.out.next hb1)
    clear c0 c1 hb1
    go_wp2_with fail
    go_ret2
    exact ⟨by simp, S1.out.b⟩
end Go.Proofs.YtbpipcfijbgnhaaDoor.hang
