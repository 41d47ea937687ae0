/-
  Contracts of the checks of a line and its cloths, the program's and the model's.
-/
import Derived.Test.YtbpipcfijbgnhaaDoorCPegsFor
import Derived.Test.YtbpipcfijbgnhaaDoorFits
import Derived.Test.YtbpipcfijbgnhaaDoorPlaces
namespace Go.Proofs.YtbpipcfijbgnhaaDoor.hang
open Go.RowKit sl errs

/-- the code of a line and cloths -/
def codeHung (l : Lin) (xs : List Clo) : Nat := if Lin.valid l = true then codeMany xs 7 else 1
theorem codeHung_le (l : Lin) (xs : List Clo) : codeHung l xs ≤ 3 := by
  unfold codeHung
  split
  · exact codeMany_le xs 7
  · omega
theorem codeHung_zero {l : Lin} {xs : List Clo} (h : codeHung l xs = 0) : Lin.valid l = true ∧ (∀ x ∈ xs, Clo.valid x = true) ∧ xs.length ≤ 7 := by
  unfold codeHung at h
  split at h
  · rename_i hv
    exact ⟨hv, codeMany_zero h⟩
  · omega
theorem code3 (l : Lin) (xs : List Clo) (n k0 k1 k2 : Nat) (en : n = xs.length) (h0 : k0 = if [l].all Lin.valid = true then 0 else 1) (h1 : k1 = if xs.all Clo.valid = true then 0 else 1) (h2 : k2 = if 7 < n then 3 else 0) :
    firstCode [k0, k1, k2] = codeHung l xs := by
  have e : [l].all Lin.valid = Lin.valid l := by simp
  rw [e] at h0
  have h := code2 xs n 7 k1 k2 en h1 h2
  unfold codeHung
  cases hv : Lin.valid l with
  | true =>
    rw [hv, if_pos rfl] at h0
    subst h0
    rw [if_pos rfl]
    exact h
  | false =>
    rw [hv, if_neg (by decide)] at h0
    subst h0
    rw [if_neg (by decide)]
    rfl
/-- a new block that holds some things -/
theorem sl_new {α : Type} {C : α → List Value} {sz : Nat} (w : World) (xs : List α) (T : TypeId) (cs : Array Value) (hC : ∀ x ∈ xs, (C x).length = sz) (hcs : cs.toList = xs.flatMap C) :
    Sl C sz (w.alloc (.cells cs T)) (w.heap.size + 1) (some ⟨w.heap.size, 0, none⟩) xs :=
  ⟨fun k x hx => ⟨_, rfl, by show w.heap.size < w.heap.size + 1; omega, fun j v hv => by
    rw [add_lit, add_at, cell_of_row _ _ _ _ _ _ (heap_alloc_new w _), ← Array.getElem?_toList, hcs]
    have := flat_get hC hx hv
    simpa using this⟩⟩
theorem sl_line (w : World) (l : Lin) (T : TypeId) : Sl Lin.cells 2 (w.alloc (.cells #[.int .i16 l.long, .int .i16 l.most] T)) (w.alloc (.cells #[.int .i16 l.long, .int .i16 l.most] T)).heap.size (some ⟨w.heap.size, 0, none⟩) [l] :=
  (sl_new w [l] T _ (Lin.len _) rfl).more (by simp)
theorem sl_line2 (w : World) (l : Lin) (T U : TypeId) : Sl Lin.cells 2 ((w.alloc (.cells #[.int .i16 l.long, .int .i16 l.most] T)).alloc (.cells #[.int .i16 l.long, .int .i16 l.most] U)) ((w.alloc (.cells #[.int .i16 l.long, .int .i16 l.most] T)).alloc (.cells #[.int .i16 l.long, .int .i16 l.most] U)).heap.size (some ⟨w.heap.size + 1, 0, none⟩) [l] := by
  have h := sl_line (w.alloc (.cells #[.int .i16 l.long, .int .i16 l.most] T)) l U
  have e : (w.alloc (.cells #[.int .i16 l.long, .int .i16 l.most] T)).heap.size = w.heap.size + 1 := by simp
  rw [e] at h
  exact h
theorem sl_cloth (w : World) (x : Clo) (T : TypeId) : Sl Clo.cells 2 (w.alloc (.cells #[.int .i16 x.wide, .int .i16 x.heavy] T)) (w.alloc (.cells #[.int .i16 x.wide, .int .i16 x.heavy] T)).heap.size (some ⟨w.heap.size, 0, none⟩) [x] :=
  (sl_new w [x] T _ (Clo.len _) rfl).more (by simp)

set_option maxHeartbeats 2000000 in
theorem checkLines_any (A : Option Addr) (n c : Nat) (xs : List Lin) (en : n = xs.length) (hn : n ≤ 9223372036854775807) (hf : ∀ x ∈ xs, x.Fits) {w : World} {B : Nat} {e : Nat → Addr} (h : Errs w B e) (hB : B ≤ w.heap.size) (hg : Sl Lin.cells 2 w w.heap.size A xs)
    (k0 : Nat) (hk0 : k0 = if xs.all Lin.valid = true then 0 else 1) :
    Calls Tryd.prog 63 #[.slice A n c] w fun o w' => o = .returned (errOf e k0) ∧ Below w.heap.size w w' := by
  have En := Lib.hid en
  have HK := Lib.hid hk0
  clear en hk0
  go_enter Tryd.func63, Tryd.ntmps63
  go_wp2_with fail
  go_loopw [7, 4] (fun vi _ wr => ∃ k : Nat, k ≤ n ∧ vi = .int .i64 k ∧ (∀ i x, i < k → xs[i]? = some x → Lin.valid x = true) ∧ Below w.heap.size w wr) (fun vi _ _ => n - (intOf vi).toNat)
  case atStart => exact ⟨0, by omega, rfl, fun i x hi => absurd hi (by omega), Below.refl _ _⟩
  case round =>
    obtain ⟨k, hk, rfl, hval, hb⟩ := hrel
    by_cases hlt : k < n
    · obtain ⟨x, hx⟩ : ∃ x, xs[k]? = some x := ⟨xs[k]'(by have := En.out; omega), List.getElem?_eq_getElem _⟩
      obtain ⟨a, rfl, hab, hat⟩ := (hg.below hb).at_ k x hx
      obtain ⟨q0, q1⟩ := linS.at_ hat
      have hxf : x.Fits := hf x (List.mem_of_getElem? hx)
      have HX := Lib.hid hx
      clear hx hat
      cases hv : Lin.valid x with
      | true =>
        have HV := Lib.hid hv
        clear hv
        go_wp2_with fail
        refine (ValidLine_any x hxf _).mono ?_
        rintro o w2 ⟨rfl, hb2⟩
        rw [HV.out]
        have H2 := (hb.alloc hb.size _).trans (hb2.mono (by have := hb.size; simp; omega))
        clear q0 q1 hb2
        go_wp2_with fail
        go_roundw
        case rel => exact ⟨k + 1, by omega, by go_num, fun i y hi hy => by
          rcases Nat.lt_or_ge i k with h1 | h1
          · exact hval i y h1 hy
          · obtain rfl : i = k := by omega
            have := HX.out
            rw [hy] at this
            rw [Option.some.inj this]
            exact HV.out, H2⟩
        case measure => simp [intOf]; omega
      | false =>
        have HV := Lib.hid hv
        clear hv
        go_wp2_with fail
        refine (ValidLine_any x hxf _).mono ?_
        rintro o w2 ⟨rfl, hb2⟩
        rw [HV.out]
        have H2 := (hb.alloc hb.size _).trans (hb2.mono (by have := hb.size; simp; omega))
        have g0 := (h.below (H2.mono hB)).c0
        clear q0 q1 hb2
        go_wp2_with fail
        go_ret
        have e1 : k0 = 1 := by rw [HK.out, all_not HX.out HV.out]; rfl
        rw [e1]
        exact ⟨rfl, H2⟩
    · go_wp2_with fail
      go_ret
      have e1 : k0 = 0 := by rw [HK.out, all_of_idx fun i x hi hx => hval i x (by have := En.out; omega) hx]; rfl
      rw [e1]
      exact ⟨rfl, hb⟩
set_option maxHeartbeats 2000000 in
theorem l02Line_v (x : Lin) (hx : x.Fits) (v : Bool) (hv : Lin.valid x = v) (w : World) :
    Calls Tryd.prog 79 #[x.v] w fun e w' => e = .returned (.bool v) ∧ Below w.heap.size w w' := by
  subst hv
  exact l02Line_any x hx w
set_option maxHeartbeats 2000000 in
theorem l02Hung_any (l : Lin) (hl : l.Fits) (A : Option Addr) (n c : Nat) (xs : List Clo) (en : n = xs.length) (hn : n ≤ 1048576) (hf : ∀ x ∈ xs, x.Fits) (w : World) (hg : Sl Clo.cells 2 w w.heap.size A xs) (k0 : Nat) (hk : k0 = codeHung l xs) :
    Calls Tryd.prog 61 #[l.v, .slice A n c] w fun o w' => o = .returned (.int .i64 k0) ∧ Below w.heap.size w w' := by
  have En := Lib.hid en
  have S0 := Lib.hid (FitS.new l w 47)
  have c0 := S0.out.c0
  have c1 := S0.out.c1
  cases hv : Lin.valid l with
  | true =>
    have HK : Hid (k0 = codeMany xs 7) := Lib.hid (by rw [hk, codeHung, if_pos hv])
    have HV := Lib.hid hv
    clear hk hv en
    go_enter Tryd.func61, Tryd.ntmps61
    go_wp2_with fail
    refine (l02Line_v l hl true HV.out _).mono ?_
    rintro o w1 ⟨rfl, hb1⟩
    have S1 := Lib.hid (S0.out.next hb1)
    clear c0 c1 hb1
    go_wp2_with fail
    refine (l02Many_any A n c 7 xs En.out (by omega) (by omega) hf _ _ ((hg.below S1.out.b).more S1.out.b.size) k0 HK.out).mono ?_
    rintro o w2 ⟨rfl, rfl⟩
    go_wp2_with fail
    go_ret
    exact ⟨rfl, S1.out.b⟩
  | false =>
    have e1 : k0 = 1 := by rw [hk, codeHung, if_neg (by rw [hv]; decide)]
    have HV := Lib.hid hv
    subst e1
    clear hk hv en
    go_enter Tryd.func61, Tryd.ntmps61
    go_wp2_with fail
    refine (l02Line_v l hl false HV.out _).mono ?_
    rintro o w1 ⟨rfl, hb1⟩
    have S1 := Lib.hid (S0.out.next hb1)
    clear c0 c1 hb1
    go_wp2_with fail
    go_ret
    exact ⟨rfl, S1.out.b⟩
set_option maxRecDepth 100000 in
set_option maxHeartbeats 4000000 in
theorem l02Fits_any (l : Lin) (hl : l.Fits) (A : Option Addr) (n c : Nat) (xs : List Clo) (en : n = xs.length) (hn : n ≤ 1048576) (hv : ∀ x ∈ xs, Clo.valid x = true) (hf : ∀ x ∈ xs, x.Fits) (w : World) (hg : Sl Clo.cells 2 w w.heap.size A xs) :
    Calls Tryd.prog 62 #[l.v, .slice A n c] w fun o w' => o = .returned (.bool (fitsB l xs)) ∧ Below w.heap.size w w' := by
  have En := Lib.hid en
  clear en
  have S0 := Lib.hid (FitS.new l w 47)
  obtain ⟨l0, l1, l2, l3⟩ := hl
  go_enter Tryd.func62, Tryd.ntmps62
  go_wp2_with fail
  go_loopw [6, 5] (fun vi vs wr => ∃ k : Nat, k ≤ n ∧ vi = .int .i64 k ∧ (∃ y : Int, vs = .int .i64 y ∧ y = heavyOf (xs.take k) ∧ -32768 * k ≤ y ∧ y ≤ 32767 * k) ∧ FitS l w wr) (fun vi _ _ => n - (intOf vi).toNat)
  case atStart => exact ⟨0, by omega, rfl, ⟨0, rfl, rfl, by omega, by omega⟩, S0.out⟩
  case round =>
    clear S0
    obtain ⟨k, hk, rfl, ⟨y, rfl, hy, y0, y1⟩, hS⟩ := hrel
    have HY := Lib.hid hy
    clear hy
    have SR := Lib.hid hS
    by_cases hlt : k < n
    · obtain ⟨x, hx⟩ : ∃ x, xs[k]? = some x := ⟨xs[k]'(by have := En.out; omega), List.getElem?_eq_getElem _⟩
      obtain ⟨a, rfl, hab, hat⟩ := (hg.below hS.b).at_ k x hx
      obtain ⟨q0, q1⟩ := cloS.at_ hat
      have HT := Lib.hid (heavy_take hx)
      obtain ⟨x0, x1, x2, x3⟩ := hf x (List.mem_of_getElem? hx)
      clear hx hat hS
      go_wp2_with fail
      go_roundw
      case rel => exact ⟨k + 1, by omega, by go_num, ⟨_, rfl, by rw [HT.out, HY.out], by omega, by omega⟩, SR.out⟩
      case measure => simp [intOf]; omega
    · have e : xs.take k = xs := List.take_of_length_le (by have := En.out; omega)
      have hy2 : y = heavyOf xs := by rw [HY.out, e]
      have HY2 := Lib.hid hy2
      clear hS hy2 e
      go_wp2_with fail
      refine (l02Places_any A n c xs En.out hn hv hf _ ((hg.below SR.out.b).more SR.out.b.size)).mono ?_
      rintro o w1 ⟨v, rfl, hP, hb⟩
      have S1 := Lib.hid (SR.out.next hb)
      have c0 := S1.out.c0
      have c1 := S1.out.c1
      obtain ⟨z, hz⟩ : ∃ z, (hung xs).fin = z := ⟨_, rfl⟩
      have HZ := Lib.hid hz
      rw [hz]
      clear hP hb hz
      by_cases h1 : z ≤ l.long
      · have e : fitsB l xs = decide (y ≤ l.most) := by simp [fitsB, HZ.out, ← HY2.out, h1]
        have E := Lib.hid e
        clear e
        go_wp2_with fail
        go_ret
        exact ⟨ret_bool E.out.symm, S1.out.b⟩
      · have e : fitsB l xs = false := by simp [fitsB, HZ.out, h1]
        have E := Lib.hid e
        clear e
        go_wp2_with fail
        go_ret
        exact ⟨ret_bool E.out.symm, S1.out.b⟩
end Go.Proofs.YtbpipcfijbgnhaaDoor.hang
