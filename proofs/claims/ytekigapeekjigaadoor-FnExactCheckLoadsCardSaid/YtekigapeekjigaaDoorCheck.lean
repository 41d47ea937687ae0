/-
  The checks of chapter 1: which error each one finds, and which code it has.
-/
import Derived.Test.YtekigapeekjigaaDoorCode
import Derived.Test.YtekigapeekjigaaDoorGarS
import Derived.Test.YtekigapeekjigaaDoorRules
import Derived.Lib.Hide
namespace Go.Proofs.YtekigapeekjigaaDoor.errs
open Go.RowKit

set_option maxHeartbeats 1000000 in
theorem checkRules_any (r : Nat → Int) (hr : Six r) {w : World} {B : Nat} {e : Nat → Addr} (h : Errs w B e) (hB : B ≤ w.heap.size) (c : Nat) (hc : c = if validRB r = true then 0 else 1) :
    Calls Tryd.prog 58 #[rulesV r] w fun o w' => o = .returned (errOf e c) ∧ Below w.heap.size w w' := by
  cases hv : validRB r with
  | true =>
    rw [hv, if_pos rfl] at hc
    subst hc
    go_enter Tryd.func58, Tryd.ntmps58
    go_wp2_with fail
    refine (rules.ValidRules_any r hr _).mono ?_
    rintro o w1 ⟨rfl, hb⟩
    rw [hv]
    go_wp2_with fail
    go_ret
    exact ⟨rfl, ((Below.refl _ _).alloc (Nat.le_refl _) _).trans (hb.mono (by simp))⟩
  | false =>
    rw [hv, if_neg (by decide)] at hc
    subst hc
    go_enter Tryd.func58, Tryd.ntmps58
    go_wp2_with fail
    refine (rules.ValidRules_any r hr _).mono ?_
    rintro o w1 ⟨rfl, hb⟩
    rw [hv]
    have H1 : Below w.heap.size w w1 := ((Below.refl _ _).alloc (Nat.le_refl _) _).trans (hb.mono (by simp))
    have g0 := (h.below (H1.mono hB)).c0
    go_wp2_with fail
    go_ret
    exact ⟨rfl, H1⟩

set_option maxHeartbeats 2000000 in
theorem checkGarments_any (A : Option Addr) (n c : Nat) (gs : List Gar) (hn : n = gs.length) (hs : n ≤ 1048576) {w : World} {B : Nat} {e : Nat → Addr} (h : Errs w B e) (hB : B ≤ w.heap.size) (hg : garS.GS w w.heap.size A gs)
    (k0 : Nat) (hk0 : k0 = if gs.all Gar.valid = true then 0 else 1) :
    Calls Tryd.prog 66 #[.slice A n c] w fun o w' => o = .returned (errOf e k0) ∧ Below w.heap.size w w' := by
  have Hn := Lib.hid hn
  have HK := Lib.hid hk0
  clear hn hk0
  go_enter Tryd.func66, Tryd.ntmps66
  go_wp2_with fail
  go_loopw [7, 4] (fun vi _ wr => ∃ k : Nat, k ≤ n ∧ vi = .int .i64 k ∧ (∀ i x, i < k → gs[i]? = some x → x.valid = true) ∧ Below w.heap.size w wr) (fun vi _ _ => n - (intOf vi).toNat)
  case atStart => exact ⟨0, by omega, rfl, fun i x hi => absurd hi (by omega), Below.refl _ _⟩
  case round =>
    obtain ⟨k, hk, rfl, hval, hb⟩ := hrel
    by_cases hlt : k < n
    · obtain ⟨x, hx⟩ : ∃ x, gs[k]? = some x := ⟨gs[k]'(by have := Hn.out; omega), List.getElem?_eq_getElem _⟩
      obtain ⟨a, rfl, hab, hg0, hg1, hg2, hg3⟩ := (hg.below hb).at_ k x hx
      have hxf : x.Fits := hg.fits x (List.mem_of_getElem? hx)
      have HX := Lib.hid hx
      clear hx
      cases hv : x.valid with
      | true =>
        go_wp2_with fail
        refine (garm.ValidGarment_any x hxf _).mono ?_
        rintro o w2 ⟨rfl, hb2⟩
        rw [hv]
        have H2 : Below w.heap.size w w2 := (hb.alloc hb.size _).trans (hb2.mono (by have := hb.size; simp; omega))
        clear hg0 hg1 hg2 hg3 hb2
        go_wp2_with fail
        go_roundw
        case rel => exact ⟨k + 1, by omega, by go_num, fun i y hi hy => by
          rcases Nat.lt_or_ge i k with h1 | h1
          · exact hval i y h1 hy
          · obtain rfl : i = k := by omega
            have := HX.out
            rw [hy] at this
            rw [Option.some.inj this]
            exact hv, H2⟩
        case measure => simp [intOf]; omega
      | false =>
        go_wp2_with fail
        refine (garm.ValidGarment_any x hxf _).mono ?_
        rintro o w2 ⟨rfl, hb2⟩
        rw [hv]
        have H2 : Below w.heap.size w w2 := (hb.alloc hb.size _).trans (hb2.mono (by have := hb.size; simp; omega))
        have g0 := (h.below (H2.mono hB)).c0
        clear hg0 hg1 hg2 hg3 hb2
        go_wp2_with fail
        go_ret
        refine ⟨?_, H2⟩
        rw [HK.out, if_neg]
        · rfl
        · intro hall
          rw [List.all_eq_true] at hall
          have := hall x (List.mem_of_getElem? HX.out)
          rw [hv] at this
          cases this
    · go_wp2_with fail
      go_ret
      refine ⟨?_, hb⟩
      rw [HK.out, if_pos]
      · rfl
      · rw [List.all_eq_true]
        intro x hx
        obtain ⟨i, hi⟩ := List.mem_iff_getElem?.1 hx
        have hl : i < gs.length := (List.getElem?_eq_some_iff.1 hi).1
        exact hval i x (by have := Hn.out; omega) hi

end Go.Proofs.YtekigapeekjigaaDoor.errs
