/-
  Contracts of the checks of cloths and lines, the program's and the model's.
-/
import Derived.Test.YtjfimmfnhlimkaaDoorJoin13
import Derived.Test.YtjfimmfnhlimkaaDoorJoin12
namespace Go.Proofs.YtjfimmfnhlimkaaDoor.hang
open Go.RowKit sl errs

set_option maxHeartbeats 1000000 in
theorem checkCloths_any (A : Option Addr) (n c : Nat) (xs : List Clo) (en : n = xs.length) (hn : n ≤ 9223372036854775807) (hf : ∀ x ∈ xs, x.Fits) {w : World} {B : Nat} {e : Nat → Addr} (h : Errs w B e) (hB : B ≤ w.heap.size) (hg : Sl Clo.cells 2 w w.heap.size A xs)
    (k0 : Nat) (hk : k0 = if xs.all Clo.valid = true then 0 else 1) :
    Calls Tryd.prog 93 #[.slice A n c] w fun o w' => o = .returned (errOf e k0) ∧ Below w.heap.size w w' := by
  cases hv : xs.all Clo.valid with
  | true =>
    rw [hv, if_pos rfl] at hk
    subst hk
    have HV := Lib.hid hv
    have En := Lib.hid en
    clear hv en
    go_enter Tryd.func93, Tryd.ntmps93
    go_wp2_with fail
    refine (ValidCloths_any A n c xs En.out hn hf _ hg).mono ?_
    rintro o w1 ⟨rfl, hb⟩
    rw [HV.out]
    go_wp2_with fail
    go_ret
    exact ⟨rfl, hb⟩
  | false =>
    rw [hv, if_neg (by decide)] at hk
    subst hk
    have HV := Lib.hid hv
    have En := Lib.hid en
    clear hv en
    go_enter Tryd.func93, Tryd.ntmps93
    go_wp2_with fail
    refine (ValidCloths_any A n c xs En.out hn hf _ hg).mono ?_
    rintro o w1 ⟨rfl, hb⟩
    rw [HV.out]
    have g0 := (h.below (hb.mono hB)).c0
    go_wp2_with fail
    go_ret
    exact ⟨rfl, hb⟩

set_option maxHeartbeats 1000000 in
theorem checkClothCount_any (A : Option Addr) (n c m : Nat) (_hn : n ≤ 9223372036854775807) (_hm : m ≤ 1000) {w : World} {B : Nat} {e : Nat → Addr} (h : Errs w B e) (k0 : Nat) (hk : k0 = if m < n then 3 else 0) :
    Calls Tryd.prog 94 #[.slice A n c, .int .i64 (m : Nat)] w fun o w' => o = .returned (errOf e k0) ∧ w = w' := by
  subst hk
  obtain ⟨c0, c1, c2, c3, c4, c5, c6, _⟩ := h
  by_cases h8 : m < n
  · rw [if_pos h8]
    go_enter Tryd.func94, Tryd.ntmps94
    go_wp2_with fail
    go_ret
    exact ⟨rfl, rfl⟩
  · rw [if_neg h8]
    go_enter Tryd.func94, Tryd.ntmps94
    go_wp2_with fail
    go_ret
    exact ⟨rfl, rfl⟩

set_option maxHeartbeats 2000000 in
theorem l02Many_any (A : Option Addr) (n c m : Nat) (xs : List Clo) (en : n = xs.length) (hn : n ≤ 9223372036854775807) (_hm : m ≤ 1000) (hf : ∀ x ∈ xs, x.Fits) (w : World) (B : Nat) (hg : Sl Clo.cells 2 w B A xs) (k0 : Nat) (hk : k0 = codeMany xs m) :
    Calls Tryd.prog 90 #[.slice A n c, .int .i64 (m : Nat)] w fun o w' => o = .returned (.int .i64 k0) ∧ w = w' := by
  subst hk
  have En := Lib.hid en
  cases hv : xs.all Clo.valid with
  | true =>
    have HV := Lib.hid hv
    by_cases h8 : m < n
    · have e : codeMany xs m = 3 := by rw [codeMany, if_pos hv, if_pos (by omega)]
      rw [e]
      clear e hv en
      go_enter Tryd.func90, Tryd.ntmps90
      go_wp2_with fail
      refine (l02Cloths_any A n c xs En.out hn hf _ _ hg).mono ?_
      rintro o w1 ⟨rfl, rfl⟩
      rw [HV.out]
      go_wp2_with fail
      go_ret
      exact ⟨rfl, rfl⟩
    · have e : codeMany xs m = 0 := by rw [codeMany, if_pos hv, if_neg (by omega)]
      rw [e]
      clear e hv en
      go_enter Tryd.func90, Tryd.ntmps90
      go_wp2_with fail
      refine (l02Cloths_any A n c xs En.out hn hf _ _ hg).mono ?_
      rintro o w1 ⟨rfl, rfl⟩
      rw [HV.out]
      go_wp2_with fail
      go_ret
      exact ⟨rfl, rfl⟩
  | false =>
    have e : codeMany xs m = 1 := by rw [codeMany, if_neg (by rw [hv]; decide)]
    rw [e]
    have HV := Lib.hid hv
    clear e hv en
    go_enter Tryd.func90, Tryd.ntmps90
    go_wp2_with fail
    refine (l02Cloths_any A n c xs En.out hn hf _ _ hg).mono ?_
    rintro o w1 ⟨rfl, rfl⟩
    rw [HV.out]
    go_wp2_with fail
    go_ret
    exact ⟨rfl, rfl⟩
theorem codeMany_le (xs : List Clo) (m : Nat) : codeMany xs m ≤ 3 := by
  unfold codeMany
  split
  · split <;> omega
  · omega
theorem codeMany_zero {xs : List Clo} {m : Nat} (h : codeMany xs m = 0) : (∀ x ∈ xs, Clo.valid x = true) ∧ xs.length ≤ m := by
  unfold codeMany at h
  split at h
  · rename_i hv
    split at h
    · omega
    · exact ⟨fun x hx => List.all_eq_true.1 hv x hx, by omega⟩
  · omega
theorem code2 (xs : List Clo) (n m k1 k2 : Nat) (en : n = xs.length) (h1 : k1 = if xs.all Clo.valid = true then 0 else 1) (h2 : k2 = if m < n then 3 else 0) : firstCode [k1, k2] = codeMany xs m := by
  rw [h1, h2, codeMany, en]
  split
  · split <;> rfl
  · rfl

end Go.Proofs.YtjfimmfnhlimkaaDoor.hang
