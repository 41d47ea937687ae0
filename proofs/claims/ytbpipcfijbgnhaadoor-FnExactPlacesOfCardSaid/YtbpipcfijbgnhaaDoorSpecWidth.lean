/-
  Contracts of the model's WidthFor, and of the model's functions that say whether cloths fit on a line.
-/
import Derived.Test.YtbpipcfijbgnhaaDoorPlaces
import Derived.Test.YtbpipcfijbgnhaaDoorSpecPegs
namespace Go.Proofs.YtbpipcfijbgnhaaDoor.hang
open Go.RowKit sl errs

set_option maxHeartbeats 2000000 in
theorem WidthFor_spec (A : Option Addr) (n c : Nat) (xs : List Clo) (en : n = xs.length) (hn : n ≤ 1048576) (hf : ∀ x ∈ xs, x.Fits) (w : World) (hg : Sl Clo.cells 2 w w.heap.size A xs) :
    Calls Tryd.prog 21 #[.slice A n c] w fun o w' => o = .returned (tup2 (resOf (codeMany xs 100) (hung xs).fin)) ∧ Below w.heap.size w w' := by
  obtain ⟨k0, hk0⟩ : ∃ k, k = codeMany xs 100 := ⟨_, rfl⟩
  rw [← hk0]
  have HK := Lib.hid hk0
  have En := Lib.hid en
  clear hk0 en
  cases k0 with
  | zero =>
    rw [resOf_zero _ rfl]
    have hv := (codeMany_zero HK.out.symm).1
    have HV := Lib.hid hv
    clear hv
    go_enter Tryd.func21, Tryd.ntmps21
    go_wp2_with fail
    refine (l02Many_any A n c 100 xs En.out (by omega) (by omega) hf _ _ hg 0 HK.out).mono ?_
    rintro o w1 ⟨rfl, rfl⟩
    go_wp2_with fail
    refine (l02Places_any A n c xs En.out hn HV.out hf _ hg).mono ?_
    rintro o w1 ⟨v, rfl, hP, hb⟩
    clear hP
    go_wp2_with fail
    go_ret2
    exact ⟨rfl, hb⟩
  | succ i =>
    rw [resOf_some _ (by omega)]
    have hne : (((i + 1 : Nat) : Int) != 0) = true := by rw [bne_iff_ne]; omega
    have hne2 : (((i : Int) + 1) != 0) = true := by rw [bne_iff_ne]; omega
    go_enter Tryd.func21, Tryd.ntmps21
    go_wp2_with fail
    refine (l02Many_any A n c 100 xs En.out (by omega) (by omega) hf _ _ hg (i + 1) HK.out).mono ?_
    rintro o w1 ⟨rfl, rfl⟩
    go_wp2_with fail
    go_ret2
    exact ⟨by simp, Below.refl _ _⟩
end Go.Proofs.YtbpipcfijbgnhaaDoor.hang
