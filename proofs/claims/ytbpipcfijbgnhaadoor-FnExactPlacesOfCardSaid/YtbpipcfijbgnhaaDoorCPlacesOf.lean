/-
  Contracts of PlacesOf, the program's and the model's.
-/
import Derived.Test.YtbpipcfijbgnhaaDoorOwn
import Derived.Test.YtbpipcfijbgnhaaDoorPlacesI
import Derived.Test.YtbpipcfijbgnhaaDoorSpecWidth
namespace Go.Proofs.YtbpipcfijbgnhaaDoor.hang
open Go.RowKit sl errs

def placesRes (xs : List Clo) : List Int := if codeMany xs 100 = 0 then (hung xs).places else []
theorem placesRes_fine {xs : List Clo} (h : codeMany xs 100 = 0) : placesRes xs = (hung xs).places := by rw [placesRes, if_pos h]
theorem placesRes_fails {xs : List Clo} (h : codeMany xs 100 ≠ 0) : placesRes xs = [] := by rw [placesRes, if_neg h]
theorem placesRes_le (xs : List Clo) (hn : xs.length ≤ 1048576) : (placesRes xs).length ≤ 1048576 := by
  unfold placesRes
  split
  · rw [hung_len]; exact hn
  · simp
set_option maxRecDepth 100000 in
set_option maxHeartbeats 4000000 in
theorem PlacesOf_any (A : Option Addr) (n c : Nat) (xs : List Clo) (en : n = xs.length) (hn : n ≤ 1048576) (hf : ∀ x ∈ xs, x.Fits) {w : World} {B : Nat} {e : Nat → Addr} (h : Errs w B e) (hB : B ≤ w.heap.size) (hg : Sl Clo.cells 2 w w.heap.size A xs) :
    Calls Tryd.prog 24 #[.slice A n c] w (Own2 w (placesRes xs) (codeMany xs 100)) := by
  obtain ⟨k1, hk1⟩ : ∃ k : Nat, k = if xs.all Clo.valid = true then 0 else 1 := ⟨_, rfl⟩
  obtain ⟨k2, hk2⟩ : ∃ k : Nat, k = if 100 < n then 3 else 0 := ⟨_, rfl⟩
  have HF := Lib.hid (code2 xs n 100 k1 k2 en hk1 hk2)
  have HK1 := Lib.hid hk1
  have HK2 := Lib.hid hk2
  have En := Lib.hid en
  clear hk1 hk2 en
  go_enter Tryd.func24, Tryd.ntmps24
  go_wp2_with fail
  refine (checkCloths_any A n c xs En.out (by omega) hf h hB hg k1 HK1.out).mono ?_
  rintro o w1 ⟨rfl, hb1⟩
  have h1 := h.below (hb1.mono hB)
  go_wp2_with fail
  refine (checkClothCount_any A n c 100 (by omega) (by omega) h1 k2 HK2.out).mono ?_
  rintro o w2 ⟨rfl, rfl⟩
  go_wp2_with (refine wpList_listed rfl 95 2 _ rfl #[(0, errOf e k1), (1, errOf e k2)] ?hp (buildSlice2 e k1 k2 _) ?_; case hp => simp [Act.eval])
  refine (firstOf_any e [k1, k2] _ 2 2 rfl (by decide) _ (cells_errs e [k1, k2] w1 69 #[errOf e k1, errOf e k2] rfl)).mono ?_
  rintro o w3 ⟨rfl, rfl⟩
  rw [HF.out]
  have hB1 : Below w.heap.size w (w1.alloc (.cells #[errOf e k1, errOf e k2] 69)) := hb1.alloc hb1.size _
  have HB1 := Lib.hid hB1
  have H2 := Lib.hid (h1.below (((Below.refl w1.heap.size w1).alloc (Nat.le_refl _) (.cells #[errOf e k1, errOf e k2] 69)).mono (Nat.le_trans hB hb1.size)))
  clear hB1 hb1 h1
  obtain ⟨w2, hw2⟩ : ∃ w2, w2 = w1.alloc (.cells #[errOf e k1, errOf e k2] 69) := ⟨_, rfl⟩
  rw [← hw2] at HB1 H2 ⊢
  clear hw2
  have hle := codeMany_le xs 100
  cases hc : codeMany xs 100 with
  | zero =>
    have e0 : errOf e 0 = .nilIface := rfl
    rw [e0]
    have HC := Lib.hid hc
    clear hc e0 hle
    go_wp2_with fail
    obtain ⟨hv, hl⟩ := codeMany_zero HC.out
    have HV := Lib.hid hv
    have h1 : n ≤ 1000000 := by have := En.out; omega
    clear hv hl
    refine (placesOf_any A n c xs En.out h1 HV.out hf _ ((hg.below HB1.out).more HB1.out.size)).mono ?_
    rintro o w3 ⟨v, rfl, hP, hb3⟩
    have HP := Lib.hid (owns_below hP HB1.out.size)
    have HB3 := Lib.hid (below_next HB1.out hb3 (Nat.le_refl _))
    clear hP hb3
    go_wp2_with fail
    go_ret2
    rw [placesRes_fine HC.out, HC.out]
    exact ⟨v, by rfl, HP.out, HB3.out⟩
  | succ i =>
    have e0 : errOf e (i + 1) = errV (e i) := rfl
    rw [e0]
    rw [hc] at hle
    have HC := Lib.hid hc
    clear hc e0
    go_wp2_with fail
    refine (codeOf_any H2.out (i + 1) (by omega)).mono ?_
    rintro o w3 ⟨rfl, rfl⟩
    go_wp2_with fail
    go_ret2
    rw [placesRes_fails (by rw [HC.out]; omega), HC.out]
    exact ⟨_, rfl, owns_none _ _, HB1.out⟩
set_option maxRecDepth 100000 in
set_option maxHeartbeats 2000000 in
theorem PlacesOf_spec (A : Option Addr) (n c : Nat) (xs : List Clo) (en : n = xs.length) (hn : n ≤ 1048576) (hf : ∀ x ∈ xs, x.Fits) (w : World) (hg : Sl Clo.cells 2 w w.heap.size A xs) :
    Calls Tryd.prog 23 #[.slice A n c] w (Own2 w (placesRes xs) (codeMany xs 100)) := by
  obtain ⟨k0, hk0⟩ : ∃ k, k = codeMany xs 100 := ⟨_, rfl⟩
  rw [← hk0]
  have HK := Lib.hid hk0
  have En := Lib.hid en
  clear hk0 en
  cases k0 with
  | zero =>
    have hv := (codeMany_zero HK.out.symm).1
    have HV := Lib.hid hv
    clear hv
    go_enter Tryd.func23, Tryd.ntmps23
    go_wp2_with fail
    refine (l02Many_any A n c 100 xs En.out (by omega) (by omega) hf _ _ hg 0 HK.out).mono ?_
    rintro o w1 ⟨rfl, rfl⟩
    go_wp2_with fail
    refine (l02Places_any A n c xs En.out hn HV.out hf _ hg).mono ?_
    rintro o w1 ⟨v, rfl, hP, hb⟩
    have HP := Lib.hid hP
    have HB := Lib.hid hb
    clear hP hb
    go_wp2_with fail
    go_ret2
    rw [placesRes_fine HK.out.symm]
    have hl : (hung xs).places.length = n := by rw [hung_len]; exact En.out.symm
    exact ⟨v, rfl, by rw [hl]; exact HP.out, HB.out⟩
  | succ i =>
    have hne : (((i + 1 : Nat) : Int) != 0) = true := by rw [bne_iff_ne]; omega
    have hne2 : (((i : Int) + 1) != 0) = true := by rw [bne_iff_ne]; omega
    go_enter Tryd.func23, Tryd.ntmps23
    go_wp2_with fail
    refine (l02Many_any A n c 100 xs En.out (by omega) (by omega) hf _ _ hg (i + 1) HK.out).mono ?_
    rintro o w1 ⟨rfl, rfl⟩
    go_wp2_with fail
    go_ret2
    rw [placesRes_fails (by rw [← HK.out]; omega)]
    exact ⟨_, rfl, owns_void _ (Nat.le_refl _), (Below.refl _ _).alloc (Nat.le_refl _) _⟩
end Go.Proofs.YtbpipcfijbgnhaaDoor.hang
