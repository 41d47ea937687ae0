/-
  Numbers of pieces are checked, the program's.
-/
import Derived.Test.YtdcckdfemelbiaaDoorJoin15
import Derived.Test.YtdcckdfemelbiaaDoorJoin16
import Derived.Test.YtdcckdfemelbiaaDoorJoin3
namespace Go.Proofs.YtdcckdfemelbiaaDoor.stk
open Go Go.RowKit sl errs

def pcsOk (xs : List Int) : Bool := xs.all fun x => decide (0 ≤ x ∧ x ≤ 500)
theorem pcsOk_iff {xs : List Int} : pcsOk xs = true ↔ ∀ x ∈ xs, 0 ≤ x ∧ x ≤ 500 := by simp [pcsOk, List.all_eq_true]
set_option maxRecDepth 100000 in
set_option maxHeartbeats 4000000 in
theorem checkPieces_any (A : Option Addr) (n c : Nat) (xs : List Int) (en : n = xs.length) (hn : n ≤ 9223372036854775807) {w : World} {B : Nat} {e : Nat → Addr} (h : Errs w B e) (hg : Sl intS.C 1 w w.heap.size A xs) (k0 : Nat) (hk : k0 = if pcsOk xs = true then 0 else 2) :
    Calls Tryd.prog 154 #[.slice A n c] w fun o w' => o = .returned (errOf e k0) ∧ w' = w := by
  have En := Lib.hid en
  have HK := Lib.hid hk
  have HE := Lib.hid h
  clear en hk h
  go_enter Tryd.func154, Tryd.ntmps154
  go_wp2_with fail
  go_loopw [8, 4, 5] (fun vi _ _ wr => ∃ k : Nat, k ≤ n ∧ vi = .int .i64 k ∧ (∀ i x, i < k → xs[i]? = some x → 0 ≤ x ∧ x ≤ 500) ∧ wr = w) (fun vi _ _ _ => n - (intOf vi).toNat)
  case atStart => exact ⟨0, by omega, rfl, fun i x hi => absurd hi (by omega), rfl⟩
  case round =>
    obtain ⟨k, hk, rfl, hval, rfl⟩ := hrel
    have HV := Lib.hid hval
    clear hval
    by_cases hlt : k < n
    · obtain ⟨x, hx⟩ : ∃ x, xs[k]? = some x := ⟨xs[k]'(by have := En.out; omega), List.getElem?_eq_getElem _⟩
      obtain ⟨a, rfl, hab, hat⟩ := hg.at_ k x hx
      have q0 := intS.at_ hat
      have HX := Lib.hid hx
      clear hx hat
      by_cases hin : 0 ≤ x ∧ x ≤ 500
      · have HI := Lib.hid hin
        have e0 : (if 0 ≤ x ∧ x ≤ 500 then 0 else 2) = 0 := if_pos hin
        have HE0 := Lib.hid e0
        clear hin e0
        go_wp2_with fail
        refine (checkWithin_any x 0 500 HE.out).mono ?_
        rintro o u ⟨rfl, rfl⟩
        rw [HE0.out]
        have e2 : errOf e 0 = .nilIface := rfl
        rw [e2]
        clear e2
        go_wp2_with fail
        go_roundw
        case rel => exact ⟨k + 1, by omega, by go_num, fun i y hi hy => by
          rcases Nat.lt_or_ge i k with h1 | h1
          · exact HV.out i y h1 hy
          · obtain rfl : i = k := by omega
            have := HX.out
            rw [hy] at this
            rw [Option.some.inj this]
            exact HI.out, by trivial⟩
        case measure => simp [intOf]; omega
      · have e0 : (if 0 ≤ x ∧ x ≤ 500 then 0 else 2) = 2 := if_neg hin
        have HE0 := Lib.hid e0
        have hk0 : k0 = 2 := by
          rw [HK.out, if_neg]
          rw [pcsOk_iff]
          exact fun h => hin (h x (List.mem_of_getElem? HX.out))
        subst hk0
        clear hin e0
        go_wp2_with fail
        refine (checkWithin_any x 0 500 HE.out).mono ?_
        rintro o u ⟨rfl, rfl⟩
        rw [HE0.out]
        have e2 : errOf e 2 = errV (e 1) := rfl
        rw [e2]
        clear e2
        go_wp2_with fail
        go_ret
        exact ⟨rfl, rfl⟩
    · have hk0 : k0 = 0 := by
        rw [HK.out, if_pos]
        rw [pcsOk_iff]
        intro x hx
        obtain ⟨i, hi⟩ := List.getElem?_of_mem hx
        exact HV.out i x (by have := (List.getElem?_eq_some_iff.1 hi).1; have := En.out; omega) hi
      subst hk0
      go_wp2_with fail
      go_ret
      exact ⟨rfl, rfl⟩
/-- one number, listed on the spot -/
theorem checkPiece1_any (x : Int) (T : TypeId) {u : World} (b : Nat) (hbk : b = u.heap.size) {B : Nat} {e : Nat → Addr} (h : Errs u B e) (hB : B ≤ u.heap.size) (k0 : Nat) (hk : k0 = if 0 ≤ x ∧ x ≤ 500 then 0 else 2) :
    Calls Tryd.prog 154 #[.slice (some ⟨b, 0, none⟩) 1 1] (u.alloc (.cells #[.int .i64 x] T)) fun o w' => o = .returned (errOf e k0) ∧ w' = u.alloc (.cells #[.int .i64 x] T) := by
  subst hbk
  exact checkPieces_any (some ⟨u.heap.size, 0, none⟩) 1 1 [x] rfl (by decide) (h.below ((Below.refl _ _).alloc hB _)) (listed (C := intS.C) (fun _ => rfl) [x] _ rfl T u) k0 (by rw [hk]; simp [pcsOk])
end Go.Proofs.YtdcckdfemelbiaaDoor.stk
