/-
  Contracts of the functions that look whether each cloth fits on a line alone.
-/
import Derived.Test.YtbpipcfijbgnhaaDoorFirst
import Derived.Test.YtbpipcfijbgnhaaDoorCCheckLines
namespace Go.Proofs.YtbpipcfijbgnhaaDoor.hang
open Go.RowKit sl errs

theorem sl_single {w : World} {B : Nat} {a : Addr} {x : Clo} (hB : a.block < B) (h : At w a x.cells) : Sl Clo.cells 2 w B (some a) [x] :=
  ⟨fun k y hy => by
    have hk : k = 0 := by
      have := (List.getElem?_eq_some_iff.1 hy).1
      simpa using this
    subst hk
    obtain rfl : x = y := by simpa using hy
    exact ⟨a, rfl, hB, by rw [Nat.zero_mul, Addr.add_zero']; exact h⟩⟩
theorem alone_no {l : Lin} {xs : List Clo} {k : Nat} {x : Clo} (hx : xs[k]? = some x) (h : fitsB l [x] = false) : aloneB l xs = false := all_not hx h
set_option maxRecDepth 100000 in
set_option maxHeartbeats 4000000 in
theorem checkEachFits_any (l : Lin) (hl : l.Fits) (A : Option Addr) (n c : Nat) (xs : List Clo) (en : n = xs.length) (hn : n ≤ 1048576) (hf : ∀ x ∈ xs, x.Fits) {w : World} {B : Nat} {e : Nat → Addr} (h : Errs w B e) (hB : B ≤ w.heap.size) (hg : Sl Clo.cells 2 w w.heap.size A xs) (k0 : Nat) (hk0 : k0 = if aloneB l xs = true then 0 else 6) :
    Calls Tryd.prog 73 #[l.v, .slice A n c] w fun o w' => o = .returned (errOf e k0) ∧ Below w.heap.size w w' := by
  have En := Lib.hid en
  have HK := Lib.hid hk0
  have S0 := Lib.hid (FitS.new l w 47)
  clear en hk0
  go_enter Tryd.func73, Tryd.ntmps73
  go_wp2_with fail
  go_loopw [9, 6] (fun vi _ wr => ∃ k : Nat, k ≤ n ∧ vi = .int .i64 k ∧ (∀ i x, i < k → xs[i]? = some x → fitsB l [x] = true) ∧ FitS l w wr) (fun vi _ _ => n - (intOf vi).toNat)
  case atStart => exact ⟨0, by omega, rfl, fun i x hi => absurd hi (by omega), S0.out⟩
  case round =>
    clear S0
    obtain ⟨k, hk, rfl, hal, hS⟩ := hrel
    have HA := Lib.hid hal
    have SR := Lib.hid hS
    clear hal
    by_cases hlt : k < n
    · obtain ⟨x, hx⟩ : ∃ x, xs[k]? = some x := ⟨xs[k]'(by have := En.out; omega), List.getElem?_eq_getElem _⟩
      obtain ⟨a, rfl, hab, hat⟩ := (hg.below hS.b).at_ k x hx
      obtain ⟨q0, q1⟩ := cloS.at_ hat
      have hxf := hf x (List.mem_of_getElem? hx)
      have c0 := hS.c0
      have c1 := hS.c1
      have hz := hS.z
      have HX := Lib.hid hx
      have S2 := Lib.hid (hS.next ((Below.refl _ _).alloc (Nat.le_refl _) (.cells #[.int .i16 x.wide, .int .i16 x.heavy] 27)))
      have S3 := Lib.hid (S2.out.next ((Below.refl _ _).alloc (Nat.le_refl _) (.cells #[.int .i16 x.wide, .int .i16 x.heavy] 27)))
      have T2 : Hid (Sl Clo.cells 2 ((wr.alloc (.cells #[.int .i16 x.wide, .int .i16 x.heavy] 27)).alloc (.cells #[.int .i16 x.wide, .int .i16 x.heavy] 27)) ((wr.alloc (.cells #[.int .i16 x.wide, .int .i16 x.heavy] 27)).alloc (.cells #[.int .i16 x.wide, .int .i16 x.heavy] 27)).heap.size (some ⟨wr.heap.size + 1, 0, none⟩) [x]) := Lib.hid (by
        have t := sl_cloth (wr.alloc (.cells #[.int .i16 x.wide, .int .i16 x.heavy] 27)) x 27
        have e : (wr.alloc (.cells #[.int .i16 x.wide, .int .i16 x.heavy] 27)).heap.size = wr.heap.size + 1 := by simp
        rw [e] at t
        exact t)
      clear hx hat hS
      obtain ⟨b, hb⟩ : ∃ b, fitsB l [x] = b := ⟨_, rfl⟩
      have HB := Lib.hid hb
      clear hb
      cases b with
      | true =>
        go_wp2_with fail
        refine (fits_v l hl (some ⟨wr.heap.size + 1, 0, none⟩) 1 1 [x] rfl (by omega) (ok_one hxf) _ T2.out true HB.out).mono ?_
        rintro o w2 ⟨rfl, hb2⟩
        have S4 := Lib.hid (S3.out.next hb2)
        clear q0 q1 c0 c1 hb2
        go_wp2_with fail
        go_roundw
        case rel => exact ⟨k + 1, by omega, by go_num, fun i y hi hy => by
          rcases Nat.lt_or_ge i k with h1 | h1
          · exact HA.out i y h1 hy
          · obtain rfl : i = k := by omega
            have := HX.out
            rw [hy] at this
            rw [Option.some.inj this]
            exact HB.out, S4.out⟩
        case measure => simp [intOf]; omega
      | false =>
        go_wp2_with fail
        refine (fits_v l hl (some ⟨wr.heap.size + 1, 0, none⟩) 1 1 [x] rfl (by omega) (ok_one hxf) _ T2.out false HB.out).mono ?_
        rintro o w2 ⟨rfl, hb2⟩
        have S4 := Lib.hid (S3.out.next hb2)
        have g5 := (h.below (S4.out.b.mono hB)).c5
        clear q0 q1 c0 c1 hb2
        go_wp2_with fail
        go_ret
        have e1 : k0 = 6 := by rw [HK.out, alone_no HX.out HB.out]; rfl
        rw [e1]
        exact ⟨rfl, S4.out.b⟩
    · have e1 : k0 = 0 := by
        have : aloneB l xs = true := all_of_idx fun i x hi hx => HA.out i x (by have := En.out; omega) hx
        rw [HK.out, this]
        rfl
      clear hS
      subst e1
      go_wp2_with fail
      go_ret
      exact ⟨rfl, SR.out.b⟩
set_option maxRecDepth 100000 in
set_option maxHeartbeats 4000000 in
theorem l02Alone_any (l : Lin) (hl : l.Fits) (A : Option Addr) (n : Nat) (xs : List Clo) (en : n = xs.length) (hn : n ≤ 1048576) (hv : ∀ x ∈ xs, Clo.valid x = true) (hf : ∀ x ∈ xs, x.Fits) (w : World) (hg : Sl Clo.cells 2 w w.heap.size A xs) :
    Calls Tryd.prog 70 #[l.v, .slice A n n] w fun o w' => o = .returned (.bool (aloneB l xs)) ∧ Below w.heap.size w w' := by
  have En := Lib.hid en
  have S0 := Lib.hid (FitS.new l w 47)
  clear en
  go_enter Tryd.func70, Tryd.ntmps70
  go_wp2_with fail
  go_loopw [5] (fun vi wr => ∃ k : Nat, k ≤ n ∧ vi = .int .i64 k ∧ (∀ i x, i < k → xs[i]? = some x → fitsB l [x] = true) ∧ FitS l w wr) (fun vi _ => n - (intOf vi).toNat)
  case atStart => exact ⟨0, by omega, rfl, fun i x hi => absurd hi (by omega), S0.out⟩
  case round =>
    clear S0
    obtain ⟨k, hk, rfl, hal, hS⟩ := hrel
    have HA := Lib.hid hal
    have SR := Lib.hid hS
    clear hal
    by_cases hlt : k < n
    · obtain ⟨x, hx⟩ : ∃ x, xs[k]? = some x := ⟨xs[k]'(by have := En.out; omega), List.getElem?_eq_getElem _⟩
      obtain ⟨a, rfl, hab, hat⟩ := hg.at_ k x hx
      have HAT := Lib.hid hat
      have hxf := hf x (List.mem_of_getElem? hx)
      have hxv := hv x (List.mem_of_getElem? hx)
      have HX := Lib.hid hx
      have wa : (0 : Int) ≤ (k : Int) := by omega
      have wb : (k : Int) ≤ (k : Int) + 1 := by omega
      have wc : (k : Int) + 1 ≤ (n : Int) := by omega
      have wd : IntKind.i64.wrap ((k : Int) + 1) = (k : Int) + 1 := IntWalk.i64_in _ (by omega)
      have we : ((k : Int) + 1).toNat = k + 1 := by omega
      have wf : (0 : Int) ≤ (k : Int) + 1 := by omega
      have hab2 : (a.add (k * 2)).block < w.heap.size := by rw [block_add]; exact hab
      clear hx hat hS
      obtain ⟨b, hb⟩ : ∃ b, fitsB l [x] = b := ⟨_, rfl⟩
      have HB := Lib.hid hb
      have HV1 : Hid (∀ y ∈ [x], Clo.valid y = true) := Lib.hid fun y hy => by rw [List.mem_singleton.1 hy]; exact hxv
      have HF1 : Hid (∀ y ∈ [x], y.Fits) := Lib.hid fun y hy => by rw [List.mem_singleton.1 hy]; exact hxf
      clear hb hxv
      have wg : ¬ n = k := by omega
      have HBS : Hid ((a.add (k * 2)).block < (wr.drewN 1).heap.size) := Lib.hid (by have h1 := SR.out.b.size; have h2 : (wr.drewN 1).heap.size = wr.heap.size := rfl; omega)
      have HATD : Hid (At (wr.drewN 1) (a.add (k * 2)) x.cells) := Lib.hid (HAT.out.below (SR.out.drewN 1).b hab2)
      cases b with
      | true =>
        go_wp2_with fail
        go_region_held3 (fun u => FitP l w u)
          (first | assumption | exact SR.out.p | exact (SR.out.drewN 1).p | exact ((SR.out.drewN 1).next hb2).p)
          (first | (go_at_call 62; refine (l02Fits_v l hl (some (a.add (k * 2))) 1 (n - k) [x] rfl (by omega) HV1.out HF1.out _ (sl_single HBS.out HATD.out) true HB.out).mono ?_; rintro e w2 ⟨rfl, hb2⟩) | fail)
        rename_i hS2
        have S2 := Lib.hid (FitP.s hS2)
        clear hS2 hb2
        clear wd we wf wb wc wg
        go_wp2_with fail
        go_roundw
        case rel => exact ⟨k + 1, by omega, by go_num, fun i y hi hy => by
          rcases Nat.lt_or_ge i k with h1 | h1
          · exact HA.out i y h1 hy
          · obtain rfl : i = k := by omega
            have := HX.out
            rw [hy] at this
            rw [Option.some.inj this]
            exact HB.out, S2.out⟩
        case measure => simp [intOf]; omega
      | false =>
        go_wp2_with fail
        go_region_held3 (fun u => FitP l w u)
          (first | assumption | exact SR.out.p | exact (SR.out.drewN 1).p | exact ((SR.out.drewN 1).next hb2).p)
          (first | (go_at_call 62; refine (l02Fits_v l hl (some (a.add (k * 2))) 1 (n - k) [x] rfl (by omega) HV1.out HF1.out _ (sl_single HBS.out HATD.out) false HB.out).mono ?_; rintro e w2 ⟨rfl, hb2⟩) | fail)
        rename_i hS2
        have S2 := Lib.hid (FitP.s hS2)
        clear hS2 hb2
        clear wd we wf wb wc wg
        go_wp2_with fail
        go_ret
        exact ⟨ret_bool (alone_no HX.out HB.out).symm, S2.out.b⟩
    · have e1 : aloneB l xs = true := all_of_idx fun i x hi hx => HA.out i x (by have := En.out; omega) hx
      have E1 := Lib.hid e1
      clear hS e1
      go_wp2_with fail
      go_ret
      exact ⟨ret_bool E1.out.symm, SR.out.b⟩
end Go.Proofs.YtbpipcfijbgnhaaDoor.hang
