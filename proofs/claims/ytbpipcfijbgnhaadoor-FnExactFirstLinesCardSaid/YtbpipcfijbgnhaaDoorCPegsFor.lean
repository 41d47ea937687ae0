/-
  Contracts of PegsFor and WidthFor, the program's and the model's.
-/
import Derived.Test.YtbpipcfijbgnhaaDoorMany
import Derived.Test.YtbpipcfijbgnhaaDoorPegs
namespace Go.Proofs.YtbpipcfijbgnhaaDoor.hang
open Go.RowKit sl errs

/-- a number and a code -/
def resOf (code : Nat) (v : Int) : Int × Int := if code = 0 then (v, 0) else (0, code)
abbrev tup2 (p : Int × Int) : Value := .tuple #[.int .i64 p.1, .int .i64 p.2]
theorem resOf_zero {code : Nat} (v : Int) (h : code = 0) : resOf code v = (v, 0) := by rw [resOf, if_pos h]
theorem resOf_some {code : Nat} (v : Int) (h : code ≠ 0) : resOf code v = (0, (code : Int)) := by rw [resOf, if_neg h]

set_option maxHeartbeats 4000000 in
theorem PegsFor_any (A : Option Addr) (n c : Nat) (xs : List Clo) (en : n = xs.length) (hn : n ≤ 1048576) (hf : ∀ x ∈ xs, x.Fits) {w : World} {B : Nat} {e : Nat → Addr} (h : Errs w B e) (hB : B ≤ w.heap.size) (hg : Sl Clo.cells 2 w w.heap.size A xs) :
    Calls Tryd.prog 19 #[.slice A n c] w fun o w' => o = .returned (tup2 (resOf (codeMany xs 100) (hung xs).pegs)) ∧ Below w.heap.size w w' := by
  obtain ⟨k1, hk1⟩ : ∃ k : Nat, k = if xs.all Clo.valid = true then 0 else 1 := ⟨_, rfl⟩
  obtain ⟨k2, hk2⟩ : ∃ k : Nat, k = if 100 < n then 3 else 0 := ⟨_, rfl⟩
  have HF := Lib.hid (code2 xs n 100 k1 k2 en hk1 hk2)
  have HK1 := Lib.hid hk1
  have HK2 := Lib.hid hk2
  have En := Lib.hid en
  clear hk1 hk2 en
  go_enter Tryd.func19, Tryd.ntmps19
  go_wp2_with fail
  refine (checkCloths_any A n c xs En.out (by omega) hf h hB hg k1 HK1.out).mono ?_
  rintro o w1 ⟨rfl, hb1⟩
  have h1 := h.below (hb1.mono hB)
  go_wp2_with fail
  refine (checkClothCount_any A n c 100 (by omega) (by omega) h1 k2 HK2.out).mono ?_
  rintro o w2 ⟨rfl, rfl⟩
  go_wp2_with (refine wpList_listed rfl 95 2 _ rfl #[(0, errOf e k1), (1, errOf e k2)] ?hp (buildSlice2 e k1 k2 _) ?_; case hp => simp [Act.eval])
  refine (firstOf_any e [k1, k2] _ 2 2 rfl (by decide) _ (cells_errs e [k1, k2] w1 69 #[errOf e k1, errOf e k2] rfl)).mono ?_
  rintro o w3 ⟨rfl, rfl⟩
  rw [HF.out]
  have hB1 : Below w.heap.size w (w1.alloc (.cells #[errOf e k1, errOf e k2] 69)) := hb1.alloc hb1.size _
  have HB1 := Lib.hid hB1
  have H2 := Lib.hid (h1.below (((Below.refl w1.heap.size w1).alloc (Nat.le_refl _) (.cells #[errOf e k1, errOf e k2] 69)).mono (Nat.le_trans hB hb1.size)))
  clear hB1 hb1 h1
  obtain ⟨w2, hw2⟩ : ∃ w2, w2 = w1.alloc (.cells #[errOf e k1, errOf e k2] 69) := ⟨_, rfl⟩
  rw [← hw2] at HB1 H2 ⊢
  clear hw2
  have hle := codeMany_le xs 100
  cases hc : codeMany xs 100 with
  | zero =>
    have e0 : errOf e 0 = .nilIface := rfl
    rw [e0]
    have HC := Lib.hid hc
    clear hc e0 hle
    go_wp2_with fail
    obtain ⟨hv, hl⟩ := codeMany_zero HC.out
    refine (pegsFor_any A n c xs En.out hn (ok_valid hv hf (by omega)) _ ((hg.below HB1.out).more HB1.out.size)).mono ?_
    rintro o w3 ⟨rfl, hb3⟩
    go_wp2_with fail
    go_ret2
    rw [resOf_zero _ HC.out]
    exact ⟨rfl, below_next HB1.out hb3 (Nat.le_refl _)⟩
  | succ i =>
    have e0 : errOf e (i + 1) = errV (e i) := rfl
    rw [e0]
    rw [hc] at hle
    have HC := Lib.hid hc
    clear hc e0
    go_wp2_with fail
    refine (codeOf_any H2.out (i + 1) (by omega)).mono ?_
    rintro o w3 ⟨rfl, rfl⟩
    go_wp2_with fail
    go_ret2
    rw [resOf_some _ (by rw [HC.out]; omega), HC.out]
    exact ⟨by simp, HB1.out⟩

set_option maxHeartbeats 4000000 in
theorem WidthFor_any (A : Option Addr) (n c : Nat) (xs : List Clo) (en : n = xs.length) (hn : n ≤ 1048576) (hf : ∀ x ∈ xs, x.Fits) {w : World} {B : Nat} {e : Nat → Addr} (h : Errs w B e) (hB : B ≤ w.heap.size) (hg : Sl Clo.cells 2 w w.heap.size A xs) :
    Calls Tryd.prog 22 #[.slice A n c] w fun o w' => o = .returned (tup2 (resOf (codeMany xs 100) (hung xs).fin)) ∧ Below w.heap.size w w' := by
  obtain ⟨k1, hk1⟩ : ∃ k : Nat, k = if xs.all Clo.valid = true then 0 else 1 := ⟨_, rfl⟩
  obtain ⟨k2, hk2⟩ : ∃ k : Nat, k = if 100 < n then 3 else 0 := ⟨_, rfl⟩
  have HF := Lib.hid (code2 xs n 100 k1 k2 en hk1 hk2)
  have HK1 := Lib.hid hk1
  have HK2 := Lib.hid hk2
  have En := Lib.hid en
  clear hk1 hk2 en
  go_enter Tryd.func22, Tryd.ntmps22
  go_wp2_with fail
  refine (checkCloths_any A n c xs En.out (by omega) hf h hB hg k1 HK1.out).mono ?_
  rintro o w1 ⟨rfl, hb1⟩
  have h1 := h.below (hb1.mono hB)
  go_wp2_with fail
  refine (checkClothCount_any A n c 100 (by omega) (by omega) h1 k2 HK2.out).mono ?_
  rintro o w2 ⟨rfl, rfl⟩
  go_wp2_with (refine wpList_listed rfl 95 2 _ rfl #[(0, errOf e k1), (1, errOf e k2)] ?hp (buildSlice2 e k1 k2 _) ?_; case hp => simp [Act.eval])
  refine (firstOf_any e [k1, k2] _ 2 2 rfl (by decide) _ (cells_errs e [k1, k2] w1 69 #[errOf e k1, errOf e k2] rfl)).mono ?_
  rintro o w3 ⟨rfl, rfl⟩
  rw [HF.out]
  have hB1 : Below w.heap.size w (w1.alloc (.cells #[errOf e k1, errOf e k2] 69)) := hb1.alloc hb1.size _
  have HB1 := Lib.hid hB1
  have H2 := Lib.hid (h1.below (((Below.refl w1.heap.size w1).alloc (Nat.le_refl _) (.cells #[errOf e k1, errOf e k2] 69)).mono (Nat.le_trans hB hb1.size)))
  clear hB1 hb1 h1
  obtain ⟨w2, hw2⟩ : ∃ w2, w2 = w1.alloc (.cells #[errOf e k1, errOf e k2] 69) := ⟨_, rfl⟩
  rw [← hw2] at HB1 H2 ⊢
  clear hw2
  have hle := codeMany_le xs 100
  cases hc : codeMany xs 100 with
  | zero =>
    have e0 : errOf e 0 = .nilIface := rfl
    rw [e0]
    have HC := Lib.hid hc
    clear hc e0 hle
    go_wp2_with fail
    obtain ⟨hv, hl⟩ := codeMany_zero HC.out
    refine (widthFor_any A n c xs En.out hn (ok_valid hv hf (by omega)) _ ((hg.below HB1.out).more HB1.out.size)).mono ?_
    rintro o w3 ⟨rfl, hb3⟩
    go_wp2_with fail
    go_ret2
    rw [resOf_zero _ HC.out]
    exact ⟨rfl, below_next HB1.out hb3 (Nat.le_refl _)⟩
  | succ i =>
    have e0 : errOf e (i + 1) = errV (e i) := rfl
    rw [e0]
    rw [hc] at hle
    have HC := Lib.hid hc
    clear hc e0
    go_wp2_with fail
    refine (codeOf_any H2.out (i + 1) (by omega)).mono ?_
    rintro o w3 ⟨rfl, rfl⟩
    go_wp2_with fail
    go_ret2
    rw [resOf_some _ (by rw [HC.out]; omega), HC.out]
    exact ⟨by simp, HB1.out⟩

end Go.Proofs.YtbpipcfijbgnhaaDoor.hang
