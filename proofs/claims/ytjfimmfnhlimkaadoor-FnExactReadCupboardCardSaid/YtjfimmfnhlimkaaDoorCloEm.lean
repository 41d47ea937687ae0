/-
  The checks of cloths where two errors alone are known.
-/
import Derived.Test.YtjfimmfnhlimkaaDoorJoin22
import Derived.Test.YtjfimmfnhlimkaaDoorJoin14
namespace Go.Proofs.YtjfimmfnhlimkaaDoor.hang
open Go.RowKit sl errs

set_option maxHeartbeats 1000000 in
theorem checkCloths_em (A : Option Addr) (n c : Nat) (xs : List Clo) (en : n = xs.length) (hn : n ≤ 9223372036854775807) (hf : ∀ x ∈ xs, x.Fits) {w : World} {B : Nat} {e : Nat → Addr} (h : EM w B e) (hB : B ≤ w.heap.size) (hg : Sl Clo.cells 2 w w.heap.size A xs)
    (k0 : Nat) (hk : k0 = if xs.all Clo.valid = true then 0 else 1) :
    Calls Tryd.prog 93 #[.slice A n c] w fun o w' => o = .returned (errOf e k0) ∧ Below w.heap.size w w' := by
  cases hv : xs.all Clo.valid with
  | true =>
    rw [hv, if_pos rfl] at hk
    subst hk
    have HV := Lib.hid hv
    have En := Lib.hid en
    clear hv en
    go_enter Tryd.func93, Tryd.ntmps93
    go_wp2_with fail
    refine (ValidCloths_any A n c xs En.out hn hf _ hg).mono ?_
    rintro o w1 ⟨rfl, hb⟩
    rw [HV.out]
    go_wp2_with fail
    go_ret
    exact ⟨rfl, hb⟩
  | false =>
    rw [hv, if_neg (by decide)] at hk
    subst hk
    have HV := Lib.hid hv
    have En := Lib.hid en
    clear hv en
    go_enter Tryd.func93, Tryd.ntmps93
    go_wp2_with fail
    refine (ValidCloths_any A n c xs En.out hn hf _ hg).mono ?_
    rintro o w1 ⟨rfl, hb⟩
    rw [HV.out]
    have g0 := (h.below (hb.mono hB)).c0
    go_wp2_with fail
    go_ret
    exact ⟨rfl, hb⟩


set_option maxHeartbeats 1000000 in
theorem checkClothCount_em (A : Option Addr) (n c m : Nat) (_hn : n ≤ 9223372036854775807) (_hm : m ≤ 1000) {w : World} {B : Nat} {e : Nat → Addr} (h : EM w B e) (k0 : Nat) (hk : k0 = if m < n then 3 else 0) :
    Calls Tryd.prog 94 #[.slice A n c, .int .i64 (m : Nat)] w fun o w' => o = .returned (errOf e k0) ∧ w = w' := by
  subst hk
  obtain ⟨c0, c2, _, _⟩ := h
  by_cases h8 : m < n
  · rw [if_pos h8]
    go_enter Tryd.func94, Tryd.ntmps94
    go_wp2_with fail
    go_ret
    exact ⟨rfl, rfl⟩
  · rw [if_neg h8]
    go_enter Tryd.func94, Tryd.ntmps94
    go_wp2_with fail
    go_ret
    exact ⟨rfl, rfl⟩
end Go.Proofs.YtjfimmfnhlimkaaDoor.hang
