/-
  The checks of garments where two errors alone are known.
-/
import Derived.Test.YtjfimmfnhlimkaaDoorJoin19
import Derived.Test.YtjfimmfnhlimkaaDoorJoin15
import Derived.Test.YtjfimmfnhlimkaaDoorJoin16
namespace Go.Proofs.YtjfimmfnhlimkaaDoor.gart
open Go.RowKit errs garS

/-- the code of garments, and whether numbers are as told -/
def codeAll (gs : List Gar) (fine : Bool) : Nat := if gs.all Gar.valid = true then (if fine = true then (if gs.length > 8 then 3 else 0) else 2) else 1
theorem codeAll_zero {gs : List Gar} (h : codeAll gs true = 0) : (∀ x ∈ gs, Gar.valid x = true) ∧ gs.length ≤ 8 := by
  unfold codeAll at h
  split at h
  · rename_i hv
    rw [if_pos rfl] at h
    split at h
    · omega
    · exact ⟨fun x hx => List.all_eq_true.1 hv x hx, by omega⟩
  · omega
theorem code2g (gs : List Gar) (n k1 k2 : Nat) (en : n = gs.length) (h1 : k1 = if gs.all Gar.valid = true then 0 else 1) (h2 : k2 = if 8 < n then 3 else 0) : firstCode [k1, k2] = codeAll gs true := by
  rw [h1, h2, codeAll, en]
  split
  · rw [if_pos rfl]
    split <;> rfl
  · rfl
theorem gar_parts {x : Gar} (h : Gar.valid x = true) (hf : x.Fits) : (0 ≤ x.c ∧ x.c ≤ 5) ∧ (0 ≤ x.n ∧ x.n ≤ 95) ∧ (0 ≤ x.m ∧ x.m ≤ 95) ∧ (0 ≤ x.g ∧ x.g ≤ 2000) := by
  have h1 := hf.c0
  simp only [Gar.valid, Bool.and_eq_true, decide_eq_true_eq] at h
  omega
set_option maxHeartbeats 2000000 in
theorem checkGarments_em (A : Option Addr) (n c : Nat) (gs : List Gar) (hn : n = gs.length) (hs : n ≤ 1048576) {w : World} {B : Nat} {e : Nat → Addr} (h : EM w B e) (hB : B ≤ w.heap.size) (hg : garS.GS w w.heap.size A gs)
    (k0 : Nat) (hk0 : k0 = if gs.all Gar.valid = true then 0 else 1) :
    Calls Tryd.prog 83 #[.slice A n c] w fun o w' => o = .returned (errOf e k0) ∧ Below w.heap.size w w' := by
  have Hn := Lib.hid hn
  have HK := Lib.hid hk0
  clear hn hk0
  go_enter Tryd.func83, Tryd.ntmps83
  go_wp2_with fail
  go_loopw [7, 4] (fun vi _ wr => ∃ k : Nat, k ≤ n ∧ vi = .int .i64 k ∧ (∀ i x, i < k → gs[i]? = some x → x.valid = true) ∧ Below w.heap.size w wr) (fun vi _ _ => n - (intOf vi).toNat)
  case atStart => exact ⟨0, by omega, rfl, fun i x hi => absurd hi (by omega), Below.refl _ _⟩
  case round =>
    obtain ⟨k, hk, rfl, hval, hb⟩ := hrel
    by_cases hlt : k < n
    · obtain ⟨x, hx⟩ : ∃ x, gs[k]? = some x := ⟨gs[k]'(by have := Hn.out; omega), List.getElem?_eq_getElem _⟩
      obtain ⟨a, rfl, hab, hg0, hg1, hg2, hg3⟩ := (hg.below hb).at_ k x hx
      have hxf : x.Fits := hg.fits x (List.mem_of_getElem? hx)
      have HX := Lib.hid hx
      clear hx
      cases hv : x.valid with
      | true =>
        go_wp2_with fail
        refine (garm.ValidGarment_any x hxf _).mono ?_
        rintro o w2 ⟨rfl, hb2⟩
        rw [hv]
        have H2 : Below w.heap.size w w2 := (hb.alloc hb.size _).trans (hb2.mono (by have := hb.size; simp; omega))
        clear hg0 hg1 hg2 hg3 hb2
        go_wp2_with fail
        go_roundw
        case rel => exact ⟨k + 1, by omega, by go_num, fun i y hi hy => by
          rcases Nat.lt_or_ge i k with h1 | h1
          · exact hval i y h1 hy
          · obtain rfl : i = k := by omega
            have := HX.out
            rw [hy] at this
            rw [Option.some.inj this]
            exact hv, H2⟩
        case measure => simp [intOf]; omega
      | false =>
        go_wp2_with fail
        refine (garm.ValidGarment_any x hxf _).mono ?_
        rintro o w2 ⟨rfl, hb2⟩
        rw [hv]
        have H2 : Below w.heap.size w w2 := (hb.alloc hb.size _).trans (hb2.mono (by have := hb.size; simp; omega))
        have g0 := (h.below (H2.mono hB)).c0
        clear hg0 hg1 hg2 hg3 hb2
        go_wp2_with fail
        go_ret
        refine ⟨?_, H2⟩
        rw [HK.out, if_neg]
        · rfl
        · intro hall
          rw [List.all_eq_true] at hall
          have := hall x (List.mem_of_getElem? HX.out)
          rw [hv] at this
          cases this
    · go_wp2_with fail
      go_ret
      refine ⟨?_, hb⟩
      rw [HK.out, if_pos]
      · rfl
      · rw [List.all_eq_true]
        intro x hx
        obtain ⟨i, hi⟩ := List.mem_iff_getElem?.1 hx
        have hl : i < gs.length := (List.getElem?_eq_some_iff.1 hi).1
        exact hval i x (by have := Hn.out; omega) hi


set_option maxHeartbeats 2000000 in
theorem l01All_em (A : Option Addr) (n c : Nat) (gs : List Gar) (hn : n = gs.length) (hs : n ≤ 1048576) (fine : Bool) (w : World) (hg : GS w w.heap.size A gs) :
    Calls Tryd.prog 79 #[.slice A n c, .bool fine] w fun o w' => o = .returned (.int .i64 (codeAll gs fine)) ∧ Below w.heap.size w w' := by
  have Hn := Lib.hid hn
  clear hn
  go_enter Tryd.func79, Tryd.ntmps79
  go_wp2_with fail
  go_loopw [5] (fun vi wr => ∃ k : Nat, k ≤ n ∧ vi = .int .i64 k ∧ (∀ i x, i < k → gs[i]? = some x → x.valid = true) ∧ Below w.heap.size w wr) (fun vi _ => n - (intOf vi).toNat)
  case atStart => exact ⟨0, by omega, rfl, fun i x hi => absurd hi (by omega), Below.refl _ _⟩
  case round =>
    obtain ⟨k, hk, rfl, hval, hb⟩ := hrel
    by_cases hlt : k < n
    · obtain ⟨x, hx⟩ : ∃ x, gs[k]? = some x := ⟨gs[k]'(by have := Hn.out; omega), List.getElem?_eq_getElem _⟩
      obtain ⟨a, rfl, hab, hg0, hg1, hg2, hg3⟩ := (hg.below hb).at_ k x hx
      have hxf : x.Fits := hg.fits x (List.mem_of_getElem? hx)
      have HX := Lib.hid hx
      clear hx
      cases hv : x.valid with
      | true =>
        go_wp2_with fail
        refine (garm.l01Garment_any x hxf _).mono ?_
        rintro o w2 ⟨rfl, hb2⟩
        rw [hv]
        have H2 := below_next hb hb2 (Nat.le_refl _)
        clear hg0 hg1 hg2 hg3 hb2
        go_wp2_with fail
        go_roundw
        case rel => exact ⟨k + 1, by omega, by go_num, fun i y hi hy => by
          rcases Nat.lt_or_ge i k with h1 | h1
          · exact hval i y h1 hy
          · obtain rfl : i = k := by omega
            have := HX.out
            rw [hy] at this
            rw [Option.some.inj this]
            exact hv, H2⟩
        case measure => simp [intOf]; omega
      | false =>
        go_wp2_with fail
        refine (garm.l01Garment_any x hxf _).mono ?_
        rintro o w2 ⟨rfl, hb2⟩
        rw [hv]
        have H2 := below_next hb hb2 (Nat.le_refl _)
        clear hg0 hg1 hg2 hg3 hb2
        go_wp2_with fail
        go_ret
        refine ⟨?_, H2⟩
        rw [codeAll, if_neg]
        · rfl
        · intro hall
          rw [List.all_eq_true] at hall
          have := hall x (List.mem_of_getElem? HX.out)
          rw [hv] at this
          cases this
    · have hall : gs.all Gar.valid = true := by
        rw [List.all_eq_true]
        intro x hx
        obtain ⟨i, hi⟩ := List.mem_iff_getElem?.1 hx
        have hl : i < gs.length := (List.getElem?_eq_some_iff.1 hi).1
        exact hval i x (by have := Hn.out; omega) hi
      have HA := Lib.hid hall
      clear hall hval
      cases fine with
      | false =>
        go_wp2_with fail
        go_ret
        exact ⟨by rw [codeAll, if_pos HA.out]; rfl, hb⟩
      | true =>
        by_cases h8 : 8 < n
        · go_wp2_with fail
          go_ret
          exact ⟨by rw [codeAll, if_pos HA.out, if_pos rfl, if_pos (by have := Hn.out; omega)]; rfl, hb⟩
        · go_wp2_with fail
          go_ret
          exact ⟨by rw [codeAll, if_pos HA.out, if_pos rfl, if_neg (by have := Hn.out; omega)]; rfl, hb⟩


theorem checkCount_em (A : Option Addr) (n c : Nat) (hs : n ≤ 1048576) {w : World} {B : Nat} {e : Nat → Addr} (h : EM w B e) (k : Nat) (hk : k = if 8 < n then 3 else 0) :
    Calls Tryd.prog 84 #[.slice A n c] w fun o w' => o = .returned (errOf e k) ∧ w = w' := by
  obtain ⟨c0, c2, _, _⟩ := h
  subst hk
  by_cases h8 : 8 < n
  · rw [if_pos h8]
    go_enter Tryd.func84, Tryd.ntmps84
    go_wp2_with fail
    go_ret
    exact ⟨rfl, rfl⟩
  · rw [if_neg h8]
    go_enter Tryd.func84, Tryd.ntmps84
    go_wp2_with fail
    go_ret
    exact ⟨rfl, rfl⟩
end Go.Proofs.YtjfimmfnhlimkaaDoor.gart
