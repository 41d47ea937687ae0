/-
  Contracts of WhichLine, the program's and the model's.
-/
import Derived.Test.YtbpipcfijbgnhaaDoorCSagOf
namespace Go.Proofs.YtbpipcfijbgnhaaDoor.hang
open Go.RowKit sl errs

/-- the first line on which all fit, from k on -/
def whichFrom (xs : List Clo) : List Lin → Nat → Option Nat
  | [], _ => none
  | l :: r, k => if fitsB l xs = true then some k else whichFrom xs r (k + 1)
theorem which_hit {xs : List Clo} : ∀ {ls : List Lin} {b k : Nat} {l : Lin}, (∀ i x, i < k → ls[i]? = some x → fitsB x xs = false) → ls[k]? = some l → fitsB l xs = true → whichFrom xs ls b = some (b + k)
  | [], _, k, l, _, h, _ => by simp at h
  | x :: r, b, 0, l, _, h, hf => by
    simp only [List.getElem?_cons_zero, Option.some.injEq] at h
    subst h
    rw [whichFrom, if_pos hf]
    rfl
  | x :: r, b, k + 1, l, hn, h, hf => by
    simp only [List.getElem?_cons_succ] at h
    have h0 := hn 0 x (by omega) rfl
    rw [whichFrom, if_neg (by rw [h0]; decide), which_hit (fun i y hi hy => hn (i + 1) y (by omega) (by simpa using hy)) h hf]
    congr 1
    omega
theorem which_none {xs : List Clo} : ∀ {ls : List Lin} {b : Nat}, (∀ i x, i < ls.length → ls[i]? = some x → fitsB x xs = false) → whichFrom xs ls b = none
  | [], _, _ => rfl
  | x :: r, b, hn => by
    have h0 := hn 0 x (by simp) rfl
    rw [whichFrom, if_neg (by rw [h0]; decide)]
    exact which_none fun i y hi hy => hn (i + 1) y (by simp; omega) (by simpa using hy)
def codeWhich (ls : List Lin) (xs : List Clo) : Nat := if ls.all Lin.valid = true then codeMany xs 7 else 1
theorem codeWhich_le (ls : List Lin) (xs : List Clo) : codeWhich ls xs ≤ 3 := by
  unfold codeWhich
  split
  · exact codeMany_le xs 7
  · omega
theorem codeWhich_zero {ls : List Lin} {xs : List Clo} (h : codeWhich ls xs = 0) : ls.all Lin.valid = true ∧ (∀ x ∈ xs, Clo.valid x = true) ∧ xs.length ≤ 7 := by
  unfold codeWhich at h
  split at h
  · rename_i hv
    exact ⟨hv, codeMany_zero h⟩
  · omega
theorem codeW3 (ls : List Lin) (xs : List Clo) (n k0 k1 k2 : Nat) (en : n = xs.length) (h0 : k0 = if ls.all Lin.valid = true then 0 else 1) (h1 : k1 = if xs.all Clo.valid = true then 0 else 1) (h2 : k2 = if 7 < n then 3 else 0) :
    firstCode [k0, k1, k2] = codeWhich ls xs := by
  have h := code2 xs n 7 k1 k2 en h1 h2
  unfold codeWhich
  cases hv : ls.all Lin.valid with
  | true =>
    rw [hv, if_pos rfl] at h0
    subst h0
    rw [if_pos rfl]
    exact h
  | false =>
    rw [hv, if_neg (by decide)] at h0
    subst h0
    rw [if_neg (by decide)]
    rfl
def whichRes (ls : List Lin) (xs : List Clo) : Int × Int := if codeWhich ls xs = 0 then (match whichFrom xs ls 0 with | some k => ((k : Int), 0) | none => (0, 6)) else (0, codeWhich ls xs)
theorem whichRes_fails {ls : List Lin} {xs : List Clo} (h : codeWhich ls xs ≠ 0) : whichRes ls xs = (0, (codeWhich ls xs : Int)) := by rw [whichRes, if_neg h]
theorem whichRes_hit {ls : List Lin} {xs : List Clo} {k : Nat} (h : codeWhich ls xs = 0) (hk : whichFrom xs ls 0 = some k) : whichRes ls xs = ((k : Int), 0) := by rw [whichRes, if_pos h, hk]
theorem whichRes_none {ls : List Lin} {xs : List Clo} (h : codeWhich ls xs = 0) (hk : whichFrom xs ls 0 = none) : whichRes ls xs = (0, 6) := by rw [whichRes, if_pos h, hk]
set_option maxRecDepth 100000 in
set_option maxHeartbeats 4000000 in
theorem WhichLine_any (A : Option Addr) (n c : Nat) (ls : List Lin) (en : n = ls.length) (hn : n ≤ 1048576) (hlf : ∀ x ∈ ls, x.Fits) (A' : Option Addr) (n' c' : Nat) (xs : List Clo) (en' : n' = xs.length) (hn' : n' ≤ 1048576) (hf : ∀ x ∈ xs, x.Fits) {w : World} {B : Nat} {e : Nat → Addr} (h : Errs w B e) (hB : B ≤ w.heap.size)
    (hgl : Sl Lin.cells 2 w w.heap.size A ls) (hg : Sl Clo.cells 2 w w.heap.size A' xs) :
    Calls Tryd.prog 45 #[.slice A n c, .slice A' n' c'] w fun o w' => o = .returned (tup2 (whichRes ls xs)) ∧ Below w.heap.size w w' := by
  obtain ⟨k0, hk0⟩ : ∃ k : Nat, k = if ls.all Lin.valid = true then 0 else 1 := ⟨_, rfl⟩
  obtain ⟨k1, hk1⟩ : ∃ k : Nat, k = if xs.all Clo.valid = true then 0 else 1 := ⟨_, rfl⟩
  obtain ⟨k2, hk2⟩ : ∃ k : Nat, k = if 7 < n' then 3 else 0 := ⟨_, rfl⟩
  have HF := Lib.hid (codeW3 ls xs n' k0 k1 k2 en' hk0 hk1 hk2)
  have HK0 := Lib.hid hk0
  have HK1 := Lib.hid hk1
  have HK2 := Lib.hid hk2
  have En := Lib.hid en
  have En' := Lib.hid en'
  clear hk0 hk1 hk2 en en'
  go_enter Tryd.func45, Tryd.ntmps45
  go_wp2_with fail
  refine (checkLines_any A n c ls En.out (by omega) hlf h hB hgl k0 HK0.out).mono ?_
  rintro o w1 ⟨rfl, hb1⟩
  have S1 := Lib.hid hb1
  clear hb1
  go_wp2_with fail
  refine (checkCloths_any A' n' c' xs En'.out (by omega) hf (h.below (S1.out.mono hB)) (Nat.le_trans hB S1.out.size) (hg.next S1.out) k1 HK1.out).mono ?_
  rintro o w2 ⟨rfl, hb2⟩
  have S2 := Lib.hid (below_next S1.out hb2 (Nat.le_refl _))
  clear hb2
  go_wp2_with fail
  refine (checkClothCount_any A' n' c' 7 (by omega) (by omega) (h.below (S2.out.mono hB)) k2 HK2.out).mono ?_
  rintro o w3 ⟨rfl, rfl⟩
  go_wp2_with (refine wpList_listed rfl 95 3 _ rfl #[(0, errOf e k0), (1, errOf e k1), (2, errOf e k2)] ?hp (buildSlice3 e k0 k1 k2 _) ?_; case hp => simp [Act.eval])
  refine (firstOf_any e [k0, k1, k2] _ 3 3 rfl (by decide) _ (cells_errs e [k0, k1, k2] w2 69 #[errOf e k0, errOf e k1, errOf e k2] rfl)).mono ?_
  rintro o w3 ⟨rfl, rfl⟩
  rw [HF.out]
  have S4 := Lib.hid (S2.out.alloc S2.out.size (.cells #[errOf e k0, errOf e k1, errOf e k2] 69))
  obtain ⟨w9, hw9⟩ : ∃ w9, w9 = w2.alloc (.cells #[errOf e k0, errOf e k1, errOf e k2] 69) := ⟨_, rfl⟩
  rw [← hw9] at S4 ⊢
  have H2 := Lib.hid (h.below (S4.out.mono hB))
  clear hw9 S2 S1
  have hle := codeWhich_le ls xs
  cases hc : codeWhich ls xs with
  | zero =>
    have e0 : errOf e 0 = .nilIface := rfl
    rw [e0]
    have HC := Lib.hid hc
    clear hc e0 hle
    go_wp2_with fail
    obtain ⟨hlv, hv, hl7⟩ := codeWhich_zero HC.out
    have HO := Lib.hid (ok_valid hv hf (by omega))
    clear hv hl7 hlv
    go_loopw [23, 7, 8] (fun vi _ _ wr => ∃ k : Nat, k ≤ n ∧ vi = .int .i64 k ∧ (∀ i x, i < k → ls[i]? = some x → fitsB x xs = false) ∧ Below w.heap.size w wr) (fun vi _ _ _ => n - (intOf vi).toNat)
    case atStart => exact ⟨0, by omega, rfl, fun i x hi => absurd hi (by omega), S4.out⟩
    case round =>
      obtain ⟨k, hk, rfl, hno, hb⟩ := hrel
      have HN := Lib.hid hno
      clear hno
      by_cases hlt : k < n
      · obtain ⟨l, hx⟩ : ∃ x, ls[k]? = some x := ⟨ls[k]'(by have := En.out; omega), List.getElem?_eq_getElem _⟩
        obtain ⟨a, rfl, hab, hat⟩ := (hgl.below hb).at_ k l hx
        obtain ⟨q0, q1⟩ := linS.at_ hat
        have hl : l.Fits := hlf l (List.mem_of_getElem? hx)
        have HX := Lib.hid hx
        have HB2 := Lib.hid (hb.alloc hb.size (.cells #[.int .i16 l.long, .int .i16 l.most] 47))
        clear hx hat
        cases hfb : fitsB l xs with
        | true =>
          have HF2 := Lib.hid hfb
          clear hfb
          go_wp2_with fail
          refine (fits_v l hl A' n' c' xs En'.out hn' HO.out _ ((hg.below HB2.out).more HB2.out.size) true HF2.out).mono ?_
          rintro o w4 ⟨rfl, hb4⟩
          have HB3 := Lib.hid (below_next HB2.out hb4 (Nat.le_refl _))
          clear hb4 q0 q1 hb
          go_wp2_with fail
          go_ret2
          rw [whichRes_hit HC.out (by rw [which_hit HN.out HX.out HF2.out, Nat.zero_add])]
          exact ⟨rfl, HB3.out⟩
        | false =>
          have HF2 := Lib.hid hfb
          clear hfb
          go_wp2_with fail
          refine (fits_v l hl A' n' c' xs En'.out hn' HO.out _ ((hg.below HB2.out).more HB2.out.size) false HF2.out).mono ?_
          rintro o w4 ⟨rfl, hb4⟩
          have HB3 := Lib.hid (below_next HB2.out hb4 (Nat.le_refl _))
          clear hb4 q0 q1 hb
          go_wp2_with fail
          go_roundw
          case rel => exact ⟨k + 1, by omega, by go_num, fun i y hi hy => by
            rcases Nat.lt_or_ge i k with h1 | h1
            · exact HN.out i y h1 hy
            · obtain rfl : i = k := by omega
              have := HX.out
              rw [hy] at this
              rw [Option.some.inj this]
              exact HF2.out, HB3.out⟩
          case measure => simp [intOf]; omega
      · have HB3 := Lib.hid hb
        clear hb
        go_wp2_with fail
        go_ret2
        rw [whichRes_none HC.out (which_none fun i x hi hx => HN.out i x (by have := En.out; omega) hx)]
        exact ⟨rfl, HB3.out⟩
  | succ i =>
    have e0 : errOf e (i + 1) = errV (e i) := rfl
    rw [e0]
    rw [hc] at hle
    have HC := Lib.hid hc
    clear hc e0
    go_wp2_with fail
    refine (codeOf_any H2.out (i + 1) (by omega)).mono ?_
    rintro o w3 ⟨rfl, rfl⟩
    go_wp2_with fail
    go_ret2
    rw [whichRes_fails (by rw [HC.out]; omega), HC.out]
    exact ⟨by simp, S4.out⟩
set_option maxRecDepth 100000 in
set_option maxHeartbeats 4000000 in
theorem WhichLine_spec (A : Option Addr) (n c : Nat) (ls : List Lin) (en : n = ls.length) (hn : n ≤ 1048576) (hlf : ∀ x ∈ ls, x.Fits) (A' : Option Addr) (n' c' : Nat) (xs : List Clo) (en' : n' = xs.length) (hn' : n' ≤ 1048576) (hf : ∀ x ∈ xs, x.Fits) (w : World)
    (hgl : Sl Lin.cells 2 w w.heap.size A ls) (hg : Sl Clo.cells 2 w w.heap.size A' xs) :
    Calls Tryd.prog 43 #[.slice A n c, .slice A' n' c'] w fun o w' => o = .returned (tup2 (whichRes ls xs)) ∧ Below w.heap.size w w' := by
  have En := Lib.hid en
  have En' := Lib.hid en'
  clear en en'
  go_enter Tryd.func43, Tryd.ntmps43
  go_wp2_with fail
  go_loopw [6] (fun vi wr => ∃ k : Nat, k ≤ n ∧ vi = .int .i64 k ∧ (∀ i x, i < k → ls[i]? = some x → Lin.valid x = true) ∧ Below w.heap.size w wr) (fun vi _ => n - (intOf vi).toNat)
  case atStart => exact ⟨0, by omega, rfl, fun i x hi => absurd hi (by omega), Below.refl _ _⟩
  case round =>
    obtain ⟨k, hk, rfl, hval, hb⟩ := hrel
    have HV := Lib.hid hval
    clear hval
    by_cases hlt : k < n
    · obtain ⟨l, hx⟩ : ∃ x, ls[k]? = some x := ⟨ls[k]'(by have := En.out; omega), List.getElem?_eq_getElem _⟩
      obtain ⟨a, rfl, hab, hat⟩ := (hgl.below hb).at_ k l hx
      obtain ⟨q0, q1⟩ := linS.at_ hat
      have hl : l.Fits := hlf l (List.mem_of_getElem? hx)
      have HX := Lib.hid hx
      clear hx hat
      cases hv : Lin.valid l with
      | true =>
        have HL := Lib.hid hv
        clear hv
        go_wp2_with fail
        refine (l02Line_v l hl true HL.out _).mono ?_
        rintro o w2 ⟨rfl, hb2⟩
        have HB2 := Lib.hid (below_next hb hb2 (Nat.le_refl _))
        clear q0 q1 hb2 hb
        go_wp2_with fail
        go_roundw
        case rel => exact ⟨k + 1, by omega, by go_num, fun i y hi hy => by
          rcases Nat.lt_or_ge i k with h1 | h1
          · exact HV.out i y h1 hy
          · obtain rfl : i = k := by omega
            have := HX.out
            rw [hy] at this
            rw [Option.some.inj this]
            exact HL.out, HB2.out⟩
        case measure => simp [intOf]; omega
      | false =>
        have HL := Lib.hid hv
        clear hv
        go_wp2_with fail
        refine (l02Line_v l hl false HL.out _).mono ?_
        rintro o w2 ⟨rfl, hb2⟩
        have HB2 := Lib.hid (below_next hb hb2 (Nat.le_refl _))
        clear q0 q1 hb2 hb
        go_wp2_with fail
        go_ret2
        have e1 : codeWhich ls xs = 1 := by rw [codeWhich, if_neg (by rw [all_not HX.out HL.out]; decide)]
        rw [whichRes_fails (by rw [e1]; decide), e1]
        exact ⟨rfl, HB2.out⟩
    · have hall : ls.all Lin.valid = true := all_of_idx fun i x hi hx => HV.out i x (by have := En.out; omega) hx
      obtain ⟨k0, hk0⟩ : ∃ k, k = codeMany xs 7 := ⟨_, rfl⟩
      have HK : Hid (codeWhich ls xs = k0) := Lib.hid (by rw [codeWhich, if_pos hall, hk0])
      have HM := Lib.hid hk0
      have HB := Lib.hid hb
      clear hall hk0
      cases k0 with
      | zero =>
        have HV2 := Lib.hid (codeMany_zero HM.out.symm).1
        go_wp2_with fail
        refine (l02Many_any A' n' c' 7 xs En'.out (by omega) (by omega) hf _ _ ((hg.below HB.out).more HB.out.size) 0 HM.out).mono ?_
        rintro o w2 ⟨rfl, rfl⟩
        clear hb
        go_wp2_with fail
        go_loopw [8] (fun vi wz => ∃ k : Nat, k ≤ n ∧ vi = .int .i64 k ∧ (∀ i x, i < k → ls[i]? = some x → fitsB x xs = false) ∧ Below w.heap.size w wz) (fun vi _ => n - (intOf vi).toNat)
        case atStart => exact ⟨0, by omega, rfl, fun i x hi => absurd hi (by omega), HB.out⟩
        case round =>
          obtain ⟨j, hj, rfl, hno, hb⟩ := hrel
          have HN := Lib.hid hno
          clear hno
          by_cases hlt : j < n
          · obtain ⟨l, hx⟩ : ∃ x, ls[j]? = some x := ⟨ls[j]'(by have := En.out; omega), List.getElem?_eq_getElem _⟩
            obtain ⟨a, rfl, hab, hat⟩ := (hgl.below hb).at_ j l hx
            obtain ⟨q0, q1⟩ := linS.at_ hat
            have hl : l.Fits := hlf l (List.mem_of_getElem? hx)
            have HX := Lib.hid hx
            have HB2 := Lib.hid hb
            clear hx hat
            cases hfb : fitsB l xs with
            | true =>
              have HF2 := Lib.hid hfb
              clear hfb
              go_wp2_with fail
              refine (l02Fits_v l hl A' n' c' xs En'.out hn' HV2.out hf _ ((hg.below HB2.out).more HB2.out.size) true HF2.out).mono ?_
              rintro o w4 ⟨rfl, hb4⟩
              have HB3 := Lib.hid (below_next HB2.out hb4 (Nat.le_refl _))
              clear hb4 q0 q1 hb
              go_wp2_with fail
              go_ret2
              rw [whichRes_hit HK.out (by rw [which_hit HN.out HX.out HF2.out, Nat.zero_add])]
              exact ⟨rfl, HB3.out⟩
            | false =>
              have HF2 := Lib.hid hfb
              clear hfb
              go_wp2_with fail
              refine (l02Fits_v l hl A' n' c' xs En'.out hn' HV2.out hf _ ((hg.below HB2.out).more HB2.out.size) false HF2.out).mono ?_
              rintro o w4 ⟨rfl, hb4⟩
              have HB3 := Lib.hid (below_next HB2.out hb4 (Nat.le_refl _))
              clear hb4 q0 q1 hb
              go_wp2_with fail
              go_roundw
              case rel => exact ⟨j + 1, by omega, by go_num, fun i y hi hy => by
                rcases Nat.lt_or_ge i j with h1 | h1
                · exact HN.out i y h1 hy
                · obtain rfl : i = j := by omega
                  have := HX.out
                  rw [hy] at this
                  rw [Option.some.inj this]
                  exact HF2.out, HB3.out⟩
              case measure => simp [intOf]; omega
          · have HB3 := Lib.hid hb
            clear hb
            go_wp2_with fail
            go_ret2
            rw [whichRes_none HK.out (which_none fun i x hi hx => HN.out i x (by have := En.out; omega) hx)]
            exact ⟨rfl, HB3.out⟩
      | succ i =>
        have hne : (((i + 1 : Nat) : Int) != 0) = true := by rw [bne_iff_ne]; omega
        have hne2 : (((i : Int) + 1) != 0) = true := by rw [bne_iff_ne]; omega
        go_wp2_with fail
        refine (l02Many_any A' n' c' 7 xs En'.out (by omega) (by omega) hf _ _ ((hg.below HB.out).more HB.out.size) (i + 1) HM.out).mono ?_
        rintro o w2 ⟨rfl, rfl⟩
        clear hb
        go_wp2_with fail
        go_ret2
        rw [whichRes_fails (by rw [HK.out]; omega), HK.out]
        exact ⟨by simp, HB.out⟩
end Go.Proofs.YtbpipcfijbgnhaaDoor.hang
