/-
  Contracts of CheckLines, the program's and the model's.
-/
import Derived.Test.YtbpipcfijbgnhaaDoorOnLine
import Derived.Test.YtbpipcfijbgnhaaDoorRackNew
import Derived.Test.YtbpipcfijbgnhaaDoorCFitsLine
namespace Go.Proofs.YtbpipcfijbgnhaaDoor.hang
open Go.RowKit sl errs

def chkP (l : Lin) (xs : List Clo) (os : List Int) (k : Nat) : Prop := ∀ i o, i < k → os[i]? = some o → (0 ≤ o ∧ o ≤ 6) ∧ fitsB l (onZ (os.zip xs) o) = true
open Classical in
noncomputable def chkB (l : Lin) (xs : List Clo) (os : List Int) : Bool := decide (chkP l xs os os.length)
theorem chkB_yes {l : Lin} {xs : List Clo} {os : List Int} (h : chkP l xs os os.length) : chkB l xs os = true := by simp [chkB, h]
theorem chkB_no {l : Lin} {xs : List Clo} {os : List Int} {k : Nat} {o : Int} (ho : os[k]? = some o) (h : ¬ ((0 ≤ o ∧ o ≤ 6) ∧ fitsB l (onZ (os.zip xs) o) = true)) : chkB l xs os = false := by
  have : ¬ chkP l xs os os.length := fun hc => h (hc k o (List.getElem?_eq_some_iff.1 ho).1 ho)
  simp [chkB, this]
noncomputable def chkRes (l : Lin) (xs : List Clo) (os : List Int) : Bool := if codeHung l xs = 0 then (if os.length = xs.length then chkB l xs os else false) else false
theorem chkRes_fails {l : Lin} {xs : List Clo} {os : List Int} (h : codeHung l xs ≠ 0) : chkRes l xs os = false := by rw [chkRes, if_neg h]
theorem chkRes_len {l : Lin} {xs : List Clo} {os : List Int} (h : codeHung l xs = 0) (hl : os.length ≠ xs.length) : chkRes l xs os = false := by rw [chkRes, if_pos h, if_neg hl]
theorem chkRes_fine {l : Lin} {xs : List Clo} {os : List Int} (h : codeHung l xs = 0) (hl : os.length = xs.length) : chkRes l xs os = chkB l xs os := by rw [chkRes, if_pos h, if_pos hl]
abbrev tupBC (b : Bool) (c : Int) : Value := .tuple #[.bool b, .int .i64 c]

/-- a line's box and one number -/
abbrev CS (l : Lin) (w : World) (p : Addr) (o : Int) (u : World) : Prop := u.cell? ⟨w.heap.size, 0, none⟩ = some (.int .i16 l.long) ∧ u.cell? ⟨w.heap.size, 1, none⟩ = some (.int .i16 l.most) ∧ Below w.heap.size w u ∧ w.heap.size < u.heap.size ∧ u.cell? p = some (.int .i64 o)
theorem CS.s {l : Lin} {w u : World} {p : Addr} {o : Int} (h : CS l w p o u) : FitS l w u := ⟨h.1, h.2.1, h.2.2.1, h.2.2.2.1⟩
theorem CS.next {l : Lin} {w u v : World} {p : Addr} {o : Int} (h : CS l w p o u) (hp : p.block < w.heap.size) (hb : Below u.heap.size u v) : CS l w p o v :=
  ⟨(h.s.next hb).c0, (h.s.next hb).c1, (h.s.next hb).b, (h.s.next hb).z, (hb.cell (by have := h.s.z; omega)).trans h.2.2.2.2⟩
theorem l00In_w (n lo hi : Int) (b : Bool) (hb : inB n lo hi = b) (w : World) :
    Calls Tryd.prog 78 #[.int .i64 n, .int .i64 lo, .int .i64 hi] w fun o w' => o = .returned (.bool b) ∧ w' = w :=
  (l00In_b n lo hi b hb w).mono fun _ _ h => ⟨h.1, h.2.symm⟩
set_option maxRecDepth 100000 in
set_option maxHeartbeats 8000000 in
theorem CheckLines_spec (l : Lin) (hl : l.Fits) (A : Option Addr) (n c : Nat) (xs : List Clo) (en : n = xs.length) (hn : n ≤ 1048576) (hf : ∀ x ∈ xs, x.Fits) (A' : Option Addr) (m c' : Nat) (os : List Int) (em : m = os.length) (hm : m ≤ 1048576) (w : World) (hg : Sl Clo.cells 2 w w.heap.size A xs) (ho : Sl intS.C 1 w w.heap.size A' os) (code : Nat) (hcode : code = codeHung l xs) :
    Calls Tryd.prog 40 #[l.v, .slice A n c, .slice A' m c'] w fun o w' => o = .returned (tupBC (chkRes l xs os) code) ∧ Below w.heap.size w w' := by
  have HK := Lib.hid hcode
  have En := Lib.hid en
  have Em := Lib.hid em
  have S0 := Lib.hid (FitS.new l w 47)
  have c0 := S0.out.c0
  have c1 := S0.out.c1
  cases code with
  | zero =>
    obtain ⟨hlv, hv, hl7⟩ := codeHung_zero hcode.symm
    have HV := Lib.hid hv
    clear hcode en em hl7 hlv hv
    by_cases hmn : m = n
    · have HR : Hid (chkRes l xs os = chkB l xs os) := Lib.hid (chkRes_fine HK.out.symm (by have := En.out; have := Em.out; omega))
      subst hmn
      go_enter Tryd.func40, Tryd.ntmps40
      go_wp2_with fail
      refine (l02Hung_any l hl A m c xs En.out hn hf _ ((hg.below S0.out.b).more S0.out.b.size) 0 HK.out).mono ?_
      rintro o w1 ⟨rfl, hb1⟩
      have S1 := Lib.hid (S0.out.next hb1)
      clear c0 c1 hb1 S0
      go_wp2_with fail
      go_loopw [9] (fun vi wr => ∃ k : Nat, k ≤ m ∧ vi = .int .i64 k ∧ chkP l xs os k ∧ FitS l w wr) (fun vi _ => m - (intOf vi).toNat)
      case atStart => exact ⟨0, by omega, rfl, fun i o hi => absurd hi (by omega), S1.out⟩
      case round =>
        clear S1
        obtain ⟨k, hk, rfl, hP, hS⟩ := hrel
        have HP := Lib.hid hP
        have SR := Lib.hid hS
        clear hP
        by_cases hlt : k < m
        · obtain ⟨o, ho1⟩ : ∃ o, os[k]? = some o := ⟨os[k]'(by have := Em.out; omega), List.getElem?_eq_getElem _⟩
          obtain ⟨a, rfl, hab, hat⟩ := (ho.below hS.b).at_ k o ho1
          have q0 := intS.at_ hat
          have HO := Lib.hid ho1
          have hp : (a.add k).block < w.heap.size := by rw [block_add]; exact hab
          clear ho1 hat hS
          by_cases hin : 0 ≤ o ∧ o ≤ 6
          · have hib : inB o 0 6 = true := by rw [inB_iff]; exact hin
            have HI := Lib.hid hib
            have HN := Lib.hid hin
            have C0 : Hid (CS l w (a.add k) o wr) := Lib.hid ⟨SR.out.c0, SR.out.c1, SR.out.b, SR.out.z, q0⟩
            have HOV := Lib.hid (onZ_valid (os := os) HV.out o)
            have HOF := Lib.hid (onZ_fits (os := os) hf o)
            have hll : (onZ (os.zip xs) o).length ≤ 1048576 := by
              have h1 := onZ_len (os.zip xs) o
              rw [List.length_zip] at h1
              have := Em.out
              omega
            have HLL := Lib.hid hll
            clear hib hin hll
            obtain ⟨b, hb⟩ : ∃ b, fitsB l (onZ (os.zip xs) o) = b := ⟨_, rfl⟩
            have HB := Lib.hid hb
            clear hb
            cases b with
            | true =>
              go_wp2_with fail
              go_region_held3 (fun u => CS l w (a.add k) o u)
                (first | assumption | exact C0.out | exact C0.out.next hp (below_drewN _ _ 1) | exact CS.next (by assumption) hp hb2)
                (first
                  | (go_at_call 78; refine (l00In_b _ _ _ true HI.out _).mono ?_; rintro e w2 ⟨rfl, rfl⟩)
                  | (go_at_call 71; refine (l02On_any A m c xs En.out hn (some a) m c' os Em.out (Nat.le_refl _) o _ ((hg.below (CS.s (by assumption)).b).more (CS.s (by assumption)).b.size) ((ho.below (CS.s (by assumption)).b).more (CS.s (by assumption)).b.size)).mono ?_; rintro e w2 ⟨v, rfl, hPv, hb2⟩; obtain ⟨Av, cv, rfl, _⟩ := owns_slice hPv; have HT := Lib.hid (Sl.of_owns hPv (Clo.len _) (by decide)); clear hPv)
                  | (go_at_call 62; refine (l02Fits_v l hl _ _ _ (onZ (os.zip xs) o) rfl HLL.out HOV.out HOF.out _ HT.out true HB.out).mono ?_; rintro e w2 ⟨rfl, hb2⟩)
                  | fail)
              rename_i hS2
              have S2 := Lib.hid (CS.s hS2)
              clear hS2 hb2
              go_wp2_with fail
              go_roundw
              case rel => exact ⟨k + 1, by omega, by go_num, fun i y hi hy => by
                rcases Nat.lt_or_ge i k with h1 | h1
                · exact HP.out i y h1 hy
                · obtain rfl : i = k := by omega
                  have := HO.out
                  rw [hy] at this
                  rw [Option.some.inj this]
                  exact ⟨HN.out, HB.out⟩, S2.out⟩
              case measure => simp [intOf]; omega
            | false =>
              go_wp2_with fail
              go_region_held3 (fun u => CS l w (a.add k) o u)
                (first | assumption | exact C0.out | exact C0.out.next hp (below_drewN _ _ 1) | exact CS.next (by assumption) hp hb2)
                (first
                  | (go_at_call 78; refine (l00In_b _ _ _ true HI.out _).mono ?_; rintro e w2 ⟨rfl, rfl⟩)
                  | (go_at_call 71; refine (l02On_any A m c xs En.out hn (some a) m c' os Em.out (Nat.le_refl _) o _ ((hg.below (CS.s (by assumption)).b).more (CS.s (by assumption)).b.size) ((ho.below (CS.s (by assumption)).b).more (CS.s (by assumption)).b.size)).mono ?_; rintro e w2 ⟨v, rfl, hPv, hb2⟩; obtain ⟨Av, cv, rfl, _⟩ := owns_slice hPv; have HT := Lib.hid (Sl.of_owns hPv (Clo.len _) (by decide)); clear hPv)
                  | (go_at_call 62; refine (l02Fits_v l hl _ _ _ (onZ (os.zip xs) o) rfl HLL.out HOV.out HOF.out _ HT.out false HB.out).mono ?_; rintro e w2 ⟨rfl, hb2⟩)
                  | fail)
              rename_i hS2
              have S2 := Lib.hid (CS.s hS2)
              clear hS2 hb2
              go_wp2_with fail
              go_ret2
              rw [HR.out, chkB_no HO.out (by rintro ⟨_, h⟩; rw [HB.out] at h; cases h)]
              exact ⟨rfl, S2.out.b⟩
          · have hib : inB o 0 6 = false := by
              cases hv : inB o 0 6 with
              | false => rfl
              | true => rw [inB_iff] at hv; exact absurd hv hin
            have HI := Lib.hid hib
            have HN := Lib.hid hin
            clear hib hin
            go_wp2_with fail
            go_quiet ((go_at_call 78; exact Calls.quiet_of_same (l00In_w _ _ _ false HI.out _)))
            go_wp2_with fail
            go_ret2
            rw [HR.out, chkB_no HO.out (fun h => HN.out h.1)]
            exact ⟨rfl, SR.out.b.trans (below_drewN _ _ _)⟩
        · obtain rfl : k = m := by omega
          have e := Em.out
          have HE : Hid (chkB l xs os = true) := Lib.hid (chkB_yes (by rw [← e]; exact HP.out))
          clear e hS
          go_wp2_with fail
          go_ret2
          rw [HR.out, HE.out]
          exact ⟨rfl, SR.out.b⟩
    · have HR : Hid (chkRes l xs os = false) := Lib.hid (chkRes_len HK.out.symm (by have := En.out; have := Em.out; omega))
      have d1 : ((m : Int) != (n : Int)) = true := by rw [bne_iff_ne]; omega
      go_enter Tryd.func40, Tryd.ntmps40
      go_wp2_with fail
      refine (l02Hung_any l hl A n c xs En.out hn hf _ ((hg.below S0.out.b).more S0.out.b.size) 0 HK.out).mono ?_
      rintro o w1 ⟨rfl, hb1⟩
      have S1 := Lib.hid (S0.out.next hb1)
      clear c0 c1 hb1 S0
      go_wp2_with fail
      go_ret2
      rw [HR.out]
      exact ⟨rfl, S1.out.b⟩
  | succ i =>
    have HR : Hid (chkRes l xs os = false) := Lib.hid (chkRes_fails (by rw [← hcode]; omega))
    have hne : (((i + 1 : Nat) : Int) != 0) = true := by rw [bne_iff_ne]; omega
    have hne2 : (((i : Int) + 1) != 0) = true := by rw [bne_iff_ne]; omega
    clear hcode en em
    go_enter Tryd.func40, Tryd.ntmps40
    go_wp2_with fail
    refine (l02Hung_any l hl A n c xs En.out hn hf _ ((hg.below S0.out.b).more S0.out.b.size) (i + 1) HK.out).mono ?_
    rintro o w1 ⟨rfl, hb1⟩
    have S1 := Lib.hid (S0.out.next hb1)
    clear c0 c1 hb1 S0
    go_wp2_with fail
    go_ret2
    rw [HR.out]
    exact ⟨by simp, S1.out.b⟩
/-- what hangs behind k cloths -/
def rowsAt (zs : List (Int × Clo)) (k : Nat) (n : Nat) : List Clo := onZ (zs.take k) n
theorem rowsAt_put {zs : List (Int × Clo)} {k n : Nat} {x : Clo} (h : zs[k]? = some ((n : Int), x)) : more (rowsAt zs k) n x = rowsAt zs (k + 1) := by
  funext i
  unfold rowsAt
  by_cases e : i = n
  · subst e
    rw [more_at, onZ_hit h]
  · rw [more_ne _ _ e, onZ_miss h (by omega)]
set_option maxRecDepth 100000 in
set_option maxHeartbeats 8000000 in
theorem CheckLines_any (l : Lin) (hl : l.Fits) (A : Option Addr) (n c : Nat) (xs : List Clo) (en : n = xs.length) (hn : n ≤ 1048576) (hf : ∀ x ∈ xs, x.Fits) (A' : Option Addr) (m c' : Nat) (os : List Int) (em : m = os.length) (hm : m ≤ 1048576) {w : World} {B : Nat} {e : Nat → Addr} (h : Errs w B e) (hB : B ≤ w.heap.size) (hg : Sl Clo.cells 2 w w.heap.size A xs) (ho : Sl intS.C 1 w w.heap.size A' os) (code : Nat) (hcode : code = codeHung l xs) :
    Calls Tryd.prog 41 #[l.v, .slice A n c, .slice A' m c'] w fun o w' => o = .returned (tupBC (chkRes l xs os) code) ∧ Below w.heap.size w w' := by
  have HCC := Lib.hid hcode
  have Em := Lib.hid em
  clear em hcode
  obtain ⟨k0, hk0⟩ : ∃ k : Nat, k = if [l].all Lin.valid = true then 0 else 1 := ⟨_, rfl⟩
  obtain ⟨k1, hk1⟩ : ∃ k : Nat, k = if xs.all Clo.valid = true then 0 else 1 := ⟨_, rfl⟩
  obtain ⟨k2, hk2⟩ : ∃ k : Nat, k = if 7 < n then 3 else 0 := ⟨_, rfl⟩
  have HF := Lib.hid (code3 l xs n k0 k1 k2 en hk0 hk1 hk2)
  have HK0 := Lib.hid hk0
  have HK1 := Lib.hid hk1
  have HK2 := Lib.hid hk2
  have En := Lib.hid en
  have hlf : ∀ x ∈ [l], x.Fits := fun x hx => by rw [List.mem_singleton.1 hx]; exact hl
  have S0 := Lib.hid (FitS.new l w 47)
  have c0 := S0.out.c0
  have c1 := S0.out.c1
  clear hk0 hk1 hk2 en
  go_enter Tryd.func41, Tryd.ntmps41
  go_wp2_with fail
  have S1 := Lib.hid (S0.out.next ((Below.refl _ _).alloc (Nat.le_refl _) (.cells #[.int .i16 l.long, .int .i16 l.most] 47)))
  refine (checkLines_any (some ⟨w.heap.size + 1, 0, none⟩) 1 1 [l] rfl (by omega) hlf (h.below (S1.out.b.mono hB)) (by have := S1.out.b.size; omega) (sl_line2 w l 47 47) k0 HK0.out).mono ?_
  rintro o w1 ⟨rfl, hb1⟩
  have S2 := Lib.hid (S1.out.next hb1)
  clear c0 c1 S1 hb1
  go_wp2_with fail
  refine (checkCloths_any A n c xs En.out (by omega) hf (h.below (S2.out.b.mono hB)) (by have := S2.out.b.size; omega) ((hg.below S2.out.b).more S2.out.b.size) k1 HK1.out).mono ?_
  rintro o w2 ⟨rfl, hb2⟩
  have S3 := Lib.hid (S2.out.next hb2)
  clear hb2 S2
  go_wp2_with fail
  refine (checkClothCount_any A n c 7 (by omega) (by omega) (h.below (S3.out.b.mono hB)) k2 HK2.out).mono ?_
  rintro o w3 ⟨rfl, rfl⟩
  go_wp2_with (refine wpList_listed rfl 95 3 _ rfl #[(0, errOf e k0), (1, errOf e k1), (2, errOf e k2)] ?hp (buildSlice3 e k0 k1 k2 _) ?_; case hp => simp [Act.eval])
  refine (firstOf_any e [k0, k1, k2] _ 3 3 rfl (by decide) _ (cells_errs e [k0, k1, k2] w2 69 #[errOf e k0, errOf e k1, errOf e k2] rfl)).mono ?_
  rintro o w3 ⟨rfl, rfl⟩
  rw [HF.out]
  have S4 := Lib.hid (S3.out.next ((Below.refl _ _).alloc (Nat.le_refl _) (.cells #[errOf e k0, errOf e k1, errOf e k2] 69)))
  obtain ⟨w9, hw9⟩ : ∃ w9, w9 = w2.alloc (.cells #[errOf e k0, errOf e k1, errOf e k2] 69) := ⟨_, rfl⟩
  rw [← hw9] at S4 ⊢
  have H2 := Lib.hid (h.below (S4.out.b.mono hB))
  have c0 := S4.out.c0
  have c1 := S4.out.c1
  clear hw9 S3 S0
  have hle := codeHung_le l xs
  cases hc : codeHung l xs with
  | zero =>
    by_cases hmn : m = n
    · subst hmn
      have e0 : errOf e 0 = .nilIface := rfl
      rw [e0]
      have HC := Lib.hid hc
      clear hc e0 hle
      go_wp2_with fail
      obtain ⟨_, hv, hl7⟩ := codeHung_zero HC.out
      have HV := Lib.hid hv
      have h7 : m ≤ 7 := by have := En.out; omega
      have HCZ : Hid (code = 0) := Lib.hid (by rw [HCC.out, HC.out])
      have HR : Hid (chkRes l xs os = chkB l xs os) := Lib.hid (chkRes_fine HC.out (by have := En.out; have := Em.out; omega))
      clear hv hl7
      refine (newRack_any l hl _).mono ?_
      rintro o w3 ⟨rfl, hR, hb3⟩
      obtain ⟨Q, hQ⟩ : ∃ Q, Q = w9.heap.size + 1 + 1 := ⟨_, rfl⟩
      obtain ⟨R, hRR⟩ : ∃ R, R = w9.heap.size + 1 := ⟨_, rfl⟩
      rw [← hQ, ← hRR] at hR
      rw [← hRR]
      have hw9 := S4.out.z
      have hRQ : w.heap.size ≤ R ∧ w.heap.size ≤ Q := by omega
      have S5 := Lib.hid (S4.out.next hb3)
      have HRK := Lib.hid hR
      clear hb3 c0 c1 hQ hRR hR
      go_wp2_with fail
      go_loopw [34, 10, 11] (fun vi _ _ wr => ∃ k : Nat, k ≤ m ∧ vi = .int .i64 k ∧ (∀ i o, i < k → os[i]? = some o → 0 ≤ o ∧ o ≤ 6) ∧ (∀ i : Nat, i < 7 → rowsAt (os.zip xs) k i ≠ [] → fitsB l (rowsAt (os.zip xs) k i) = true) ∧ Rack wr R Q l (rowsAt (os.zip xs) k) ∧ Below w.heap.size w wr) (fun vi _ _ _ => m - (intOf vi).toNat)
      case atStart => exact ⟨0, by omega, rfl, fun i o hi => absurd hi (by omega), fun i _ hne => absurd rfl hne, HRK.out, S5.out.b⟩
      case round =>
        clear HRK S5
        obtain ⟨k, hk, rfl, hin, hfit, hR, hb⟩ := hrel
        have HIN := Lib.hid hin
        have HFT := Lib.hid hfit
        have HRK := Lib.hid hR
        have HB := Lib.hid hb
        clear hin hfit
        by_cases hlt : k < m
        · obtain ⟨o, ho1⟩ : ∃ o, os[k]? = some o := ⟨os[k]'(by have := Em.out; omega), List.getElem?_eq_getElem _⟩
          obtain ⟨x, hx1⟩ : ∃ x, xs[k]? = some x := ⟨xs[k]'(by have := En.out; omega), List.getElem?_eq_getElem _⟩
          obtain ⟨a, rfl, hab, hat⟩ := (ho.below hb).at_ k o ho1
          have q0 := intS.at_ hat
          obtain ⟨a', rfl, hab', hat'⟩ := (hg.below hb).at_ k x hx1
          obtain ⟨r0, r1⟩ := cloS.at_ hat'
          have hxf := hf x (List.mem_of_getElem? hx1)
          have HO := Lib.hid ho1
          have HX := Lib.hid hx1
          clear ho1 hx1 hat hat' hR hb
          by_cases hlo : o < 0
          · go_wp2_with fail
            go_ret2
            rw [HR.out, chkB_no HO.out (fun h => by omega), HCZ.out]
            exact ⟨rfl, HB.out⟩
          · by_cases hhi : 7 ≤ o
            · go_wp2_with fail
              go_ret2
              rw [HR.out, chkB_no HO.out (fun h => by omega), HCZ.out]
              exact ⟨rfl, HB.out⟩
            · obtain ⟨j, rfl⟩ : ∃ j : Nat, o = (j : Int) := ⟨o.toNat, by omega⟩
              have hj : j < 7 := by omega
              have HZ := Lib.hid (zip_at HO.out HX.out)
              have hll : (rowsAt (os.zip xs) k j).length < 7 := by
                have := onZ_len ((os.zip xs).take k) (j : Int)
                have := List.length_take_le k (os.zip xs)
                unfold rowsAt
                omega
              have hval : ∀ y ∈ rowsAt (os.zip xs) k j ++ [x], Clo.valid y = true := fun y hy => by
                rw [show rowsAt (os.zip xs) k j ++ [x] = onZ ((os.zip xs).take (k + 1)) j from (onZ_hit HZ.out).symm] at hy
                obtain ⟨o, ho⟩ := onZ_mem hy
                exact HV.out y (zip_mem (List.mem_of_mem_take ho))
              have hfts : ∀ y ∈ rowsAt (os.zip xs) k j ++ [x], y.Fits := fun y hy => by
                rw [show rowsAt (os.zip xs) k j ++ [x] = onZ ((os.zip xs).take (k + 1)) j from (onZ_hit HZ.out).symm] at hy
                obtain ⟨o, ho⟩ := onZ_mem hy
                exact hf y (zip_mem (List.mem_of_mem_take ho))
              have HOK := Lib.hid (ok_valid hval hfts (by simp; omega))
              obtain ⟨b, hb⟩ : ∃ b, fitsB l (rowsAt (os.zip xs) k j ++ [x]) = b := ⟨_, rfl⟩
              have HFB := Lib.hid hb
              clear hlo hhi hval hfts hb
              cases b with
              | true =>
                go_wp2_with fail
                refine (takes_any l hl (rowsAt (os.zip xs) k) R Q j hj hll x hxf HOK.out _ HRK.out).mono ?_
                rintro o w4 ⟨rfl, hR4, hK4⟩
                rw [HFB.out]
                have HB4 := Lib.hid (HB.out.trans (hK4.below HB.out.size (fun i hi => by rw [hi]; exact hRQ.2)))
                have HR4 := Lib.hid hR4
                clear hR4 hK4 q0 r0 r1
                obtain ⟨a2, e2, hab2, hat2⟩ := (hg.below HB4.out).at_ k x HX.out
                obtain rfl := Option.some.inj e2
                obtain ⟨r0, r1⟩ := cloS.at_ hat2
                clear hat2 e2
                go_wp2_with fail
                refine (put_any l (rowsAt (os.zip xs) k) R Q j hj hll x hxf _ HR4.out).mono ?_
                rintro o w5 ⟨rfl, hR5, hK5⟩
                have HB5 := Lib.hid (HB4.out.trans (hK5.below HB4.out.size (fun i hi => by rcases hi with hi | hi <;> rw [hi] <;> first | exact hRQ.2 | exact hRQ.1)))
                rw [rowsAt_put HZ.out] at hR5
                have HR5 := Lib.hid hR5
                clear hR5 hK5 r0 r1
                go_wp2_with fail
                go_roundw
                case rel =>
                  refine ⟨k + 1, by omega, by go_num, fun i y hi hy => ?_, fun i hi hne => ?_, HR5.out, HB5.out⟩
                  · rcases Nat.lt_or_ge i k with h1 | h1
                    · exact HIN.out i y h1 hy
                    · obtain rfl : i = k := by omega
                      have := HO.out
                      rw [hy] at this
                      rw [Option.some.inj this]
                      omega
                  · have e5 := congrFun (rowsAt_put HZ.out) i
                    by_cases eij : i = j
                    · subst eij
                      rw [more_at] at e5
                      rw [← e5]
                      exact HFB.out
                    · rw [more_ne _ _ eij] at e5
                      rw [← e5]
                      rw [← e5] at hne
                      exact HFT.out i hi hne
                case measure => simp [intOf]; omega
              | false =>
                go_wp2_with fail
                refine (takes_any l hl (rowsAt (os.zip xs) k) R Q j hj hll x hxf HOK.out _ HRK.out).mono ?_
                rintro o w4 ⟨rfl, hR4, hK4⟩
                rw [HFB.out]
                have HB4 := Lib.hid (HB.out.trans (hK4.below HB.out.size (fun i hi => by rw [hi]; exact hRQ.2)))
                clear hR4 hK4 q0 r0 r1
                go_wp2_with fail
                go_ret2
                have hno : fitsB l (onZ (os.zip xs) (j : Int)) ≠ true := fun ht => by
                  obtain ⟨ys, hys, hmem⟩ := onZ_pre (os.zip xs) (k + 1) (j : Int)
                  rw [hys] at ht
                  have := fits_pre (fun y hy => onZ_valid HV.out _ y (hmem y hy)) ht
                  rw [onZ_hit HZ.out] at this
                  have h2 := HFB.out
                  unfold rowsAt at h2
                  rw [this] at h2
                  cases h2
                rw [HR.out, chkB_no HO.out (fun h => hno h.2), HCZ.out]
                exact ⟨rfl, HB4.out⟩
        · obtain rfl : k = m := by omega
          have hel := Em.out
          have htk : (os.zip xs).take k = os.zip xs := List.take_of_length_le (by rw [List.length_zip]; omega)
          have hyes : chkB l xs os = true := chkB_yes fun i o hi ho1 => by
            have h1 := HIN.out i o (by omega) ho1
            refine ⟨h1, ?_⟩
            obtain ⟨j, rfl⟩ : ∃ j : Nat, o = (j : Int) := ⟨o.toNat, by omega⟩
            have h2 := HFT.out j (by omega)
            unfold rowsAt at h2
            rw [htk] at h2
            refine h2 (fun hnil => ?_)
            obtain ⟨x, hx1⟩ : ∃ x, xs[i]? = some x := ⟨xs[i]'(by have := En.out; omega), List.getElem?_eq_getElem _⟩
            have hz := zip_at ho1 hx1
            obtain ⟨ys, hys, _⟩ := onZ_pre (os.zip xs) (i + 1) (j : Int)
            rw [onZ_hit hz, hnil] at hys
            simp at hys
          have HE := Lib.hid hyes
          clear hel htk hyes hR hb
          go_wp2_with fail
          go_ret2
          rw [HR.out, HE.out, HCZ.out]
          exact ⟨rfl, HB.out⟩
    · have HR : Hid (chkRes l xs os = false) := Lib.hid (chkRes_len hc (by have := En.out; have := Em.out; omega))
      have d1 : ((m : Int) != (n : Int)) = true := by rw [bne_iff_ne]; omega
      have e0 : errOf e 0 = .nilIface := rfl
      rw [e0]
      have HC := Lib.hid hc
      clear hc e0 hle
      go_wp2_with fail
      have HCZ : Hid (code = 0) := Lib.hid (by rw [HCC.out, HC.out])
      go_ret2
      rw [HR.out, HCZ.out]
      exact ⟨rfl, S4.out.b⟩
  | succ i =>
    have HR : Hid (chkRes l xs os = false) := Lib.hid (chkRes_fails (by rw [hc]; omega))
    have e0 : errOf e (i + 1) = errV (e i) := rfl
    rw [e0]
    rw [hc] at hle
    have HC := Lib.hid hc
    clear hc e0
    go_wp2_with fail
    refine (codeOf_any H2.out (i + 1) (by omega)).mono ?_
    rintro o w3 ⟨rfl, rfl⟩
    go_wp2_with fail
    go_ret2
    rw [HR.out, HCC.out, HC.out]
    exact ⟨by simp, S4.out.b⟩
end Go.Proofs.YtbpipcfijbgnhaaDoor.hang
