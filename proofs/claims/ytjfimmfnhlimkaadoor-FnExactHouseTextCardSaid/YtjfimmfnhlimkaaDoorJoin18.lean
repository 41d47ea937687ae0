/-
  Several texts of this proof, joined.
-/
import Derived.Test.YtjfimmfnhlimkaaDoorJoin9
import Derived.Test.YtjfimmfnhlimkaaDoorJoin17
import Derived.OwnWalk
import Derived.Laws.EntriesVeiled
/-
  All numbers of a stock, the program's: a list of the call's own.
-/
namespace Go.Proofs.YtjfimmfnhlimkaaDoor.stk
open Go Go.RowKit sl row fold

/-- the places of a stock, as functions -/
abbrev placeC : Value := .func (.func 170) #[] #[]
abbrev placeU : Value := .func (.func 171) #[] #[]
abbrev placeD : Value := .func (.func 172) #[] #[]
theorem clean_any (b p : Nat) (w : World) : Calls Tryd.prog 170 #[.pointer (some ⟨b, p, none⟩)] w fun o w' => o = .returned (.pointer (some ⟨b, p, none⟩)) ∧ w' = w := by
  go_enter Tryd.func170, Tryd.ntmps170
  go_wp2_with fail
  go_ret
  exact ⟨rfl, rfl⟩
theorem used_any (b p : Nat) (w : World) : Calls Tryd.prog 171 #[.pointer (some ⟨b, p, none⟩)] w fun o w' => o = .returned (.pointer (some ⟨b, p + 8, none⟩)) ∧ w' = w := by
  go_enter Tryd.func171, Tryd.ntmps171
  go_wp2_with fail
  go_ret
  exact ⟨rfl, rfl⟩
theorem dirty_any (b p : Nat) (w : World) : Calls Tryd.prog 172 #[.pointer (some ⟨b, p, none⟩)] w fun o w' => o = .returned (.pointer (some ⟨b, p + 16, none⟩)) ∧ w' = w := by
  go_enter Tryd.func172, Tryd.ntmps172
  go_wp2_with fail
  go_ret
  exact ⟨rfl, rfl⟩
set_option maxRecDepth 100000 in
theorem everyPlace_any (w : World) : Calls Tryd.prog 144 #[] w fun o w' => o = .returned (.agg #[placeC, placeU, placeD]) ∧ Below w.heap.size w w' := by
  go_enter Tryd.func144, Tryd.ntmps144
  go_wp2
  refine bodyPost_ret (v := .agg #[placeC, placeU, placeD]) (by simp [results, Tryd.results144, go_sem]) rfl ⟨rfl, ?_⟩
  repeat (first | exact Below.refl _ _ | assumption | apply Below.drew | (refine Below.alloc ?_ (by first | (simp; done) | (simp; omega) | omega) _) | (refine Below.setCell ?_ (by first | (simp; done) | (simp; omega) | omega) _))
theorem idx_place0 (u : World) : (Instr.index 199 (.agg #[placeC, placeU, placeD]) (.int .i64 0)).run Tryd.prog u = .ok (placeC) u := by kernel_rfl
theorem idx_place1 (u : World) : (Instr.index 199 (.agg #[placeC, placeU, placeD]) (.int .i64 1)).run Tryd.prog u = .ok (placeU) u := by kernel_rfl
theorem idx_place2 (u : World) : (Instr.index 199 (.agg #[placeC, placeU, placeD]) (.int .i64 2)).run Tryd.prog u = .ok (placeD) u := by kernel_rfl
/-- the numbers of a stock -/
abbrev numC (f : Stk) (j : Nat) : Value := .int .i64 (f j)
set_option maxRecDepth 100000 in
set_option maxHeartbeats 4000000 in
theorem numbers_any (f : Stk) (hf : Fits f) (b p : Nat) (w : World) (h : StkAt w b p f) :
    Calls Tryd.prog 103 #[.pointer (some ⟨b, p, none⟩)] w fun o w' => o = .returned (.slice (some ⟨w.heap.size, 0, none⟩) 25 25) ∧ w'.ownsRow w.heap.size 2 1 (.slice (some ⟨w.heap.size, 0, none⟩) 25 25) 25 (lst 25 (numC f)) ∧ Below w.heap.size w w' := by
  have H0 := Lib.hid h
  clear h
  obtain ⟨i0, hi, hz0, hz1, hz2⟩ := info_parts intS.info
  have x0 := idx_place0
  have x1 := idx_place1
  have x2 := idx_place2
  go_enter Tryd.func103, Tryd.ntmps103
  go_wp2_with (at_make; refine wpList_make_own _ rfl _ _ 101 rfl w.heap.size 2 i0 (.int .i64 0) 1 Tryd.underlying101 hi hz0 hz1 .i64 .i64 25 25 rfl rfl rfl (by rw [hz2]; omega) (by unfold maxLen; omega) (Nat.le_refl _) ?_; intro w1 hown hgr; have HP1 := Lib.hid hown; have HB1 := Lib.hid (Below.grown (Below.refl w.heap.size w) hgr (Nat.le_refl _) (fun g hg => by cases hg)); clear hown hgr)
  refine (everyPlace_any _).mono ?_
  rintro o w2 ⟨rfl, hb⟩
  have HP2 := Lib.hid (owns_next HP1.out hb)
  have HB2 := Lib.hid (below_next HB1.out hb (Nat.le_refl _))
  clear hb HP1 HB1
  go_wp2_with fail
  go_loopw [3, 5, 7, 10] (fun vl _ _ vi wr => ∃ i : Nat, i ≤ 3 ∧ vi = .int .i64 (i : Nat) ∧ vl = .slice (some ⟨w.heap.size, 0, none⟩) (i * 8) 25 ∧ wr.ownsRow w.heap.size 2 1 (.slice (some ⟨w.heap.size, 0, none⟩) (i * 8) 25) (i * 8) (lst (i * 8) (numC f)) ∧ Below w.heap.size w wr) (fun _ _ _ vi _ => 3 - (intOf vi).toNat)
  case atStart => exact ⟨0, by omega, rfl, rfl, by simpa [lst] using HP2.out, HB2.out⟩
  case round =>
    clear HP2 HB2
    obtain ⟨i, hi3, rfl, rfl, hP, hB⟩ := hrel
    have HP := Lib.hid hP
    have HB := Lib.hid hB
    clear hP hB
    by_cases hlt : i < 3
    · have hcase : i = 0 ∨ i = 1 ∨ i = 2 := by omega
      rcases hcase with rfl | rfl | rfl
      · obtain ⟨wo, rfl⟩ : ∃ wo, wo = wr := ⟨wr, rfl⟩
        go_wp2_with fail
        refine (clean_any b p _).mono ?_
        rintro o w3 ⟨rfl, rfl⟩
        go_wp2_with fail
        go_loopw [3, 7, 16] (fun vl _ vj wr => ∃ j : Nat, j ≤ 8 ∧ vj = .int .i64 (j : Nat) ∧ vl = .slice (some ⟨w.heap.size, 0, none⟩) (j) 25 ∧ wr.ownsRow w.heap.size 2 1 (.slice (some ⟨w.heap.size, 0, none⟩) (j) 25) (j) (lst (j) (numC f)) ∧ Below w.heap.size w wr) (fun _ _ vj _ => 8 - (intOf vj).toNat)
        case atStart => exact ⟨0, by omega, rfl, rfl, HP.out, HB.out⟩
        case round =>
          clear HP HB
          obtain ⟨j, hj8, rfl, rfl, hP, hB⟩ := hrel
          have HP := Lib.hid hP
          have HB := Lib.hid hB
          clear hP hB
          by_cases hlt2 : j < 8
          · have hc : wr.cell? ⟨b, p + j, none⟩ = some (.int .i16 (f (j))) := by
              have := (H0.out.below HB.out H0.out.lt).cell (j) (by omega)
              rw [cellS_16 f (by omega)] at this
              first | exact this | (rw [← Nat.add_assoc] at this; exact this) | (rw [Nat.zero_add] at this ⊢; exact this)
            have hw : IntKind.i64.wrap (f (j)) = f (j) := IntWalk.i64_in _ (by have := hf.lo (j) (by omega); have := hf.hi (j) (by omega); omega)
            go_wp2_with (at_builtin; refine wpList_append_fits _ rfl (.tmp 21) (.tmp 24) 101 rfl w.heap.size 2 i0 1 Tryd.underlying101 hi hz1 w.heap.size (j) 25 _ rfl (HP.out.alloc _) ⟨_, 0, none⟩ 1 1 [.int .i64 (f (j))] rfl rfl (one_newB _ _ _ _ (by simp)) (one_cellI (by rfl)) (by omega) ?_; intro w5 hP5 hgr; have HB5 := Lib.hid (Below.grown (HB.out.alloc HB.out.size _) hgr (by have := HB.out.size; simp; omega) (fun g hg => by cases hg; exact Nat.le_refl _)); have HP5 := Lib.hid hP5; clear hP5 hgr)
            go_roundw
            case rel =>
              have h5 := HP5.out
              rw [← lst_succ] at h5
              exact ⟨j + 1, by omega, by go_num, rfl, h5, HB5.out⟩
            case measure => simp [intOf]; omega
          · obtain rfl : j = 8 := by omega
            go_wp2_with fail
            go_roundw
            case rel => exact ⟨0 + 1, by omega, by go_num, rfl, HP.out, HB.out⟩
            case measure => simp [intOf]
      · obtain ⟨wo, rfl⟩ : ∃ wo, wo = wr := ⟨wr, rfl⟩
        go_wp2_with fail
        refine (used_any b p _).mono ?_
        rintro o w3 ⟨rfl, rfl⟩
        go_wp2_with fail
        go_loopw [3, 7, 16] (fun vl _ vj wr => ∃ j : Nat, j ≤ 8 ∧ vj = .int .i64 (j : Nat) ∧ vl = .slice (some ⟨w.heap.size, 0, none⟩) (8 + j) 25 ∧ wr.ownsRow w.heap.size 2 1 (.slice (some ⟨w.heap.size, 0, none⟩) (8 + j) 25) (8 + j) (lst (8 + j) (numC f)) ∧ Below w.heap.size w wr) (fun _ _ vj _ => 8 - (intOf vj).toNat)
        case atStart => exact ⟨0, by omega, rfl, rfl, HP.out, HB.out⟩
        case round =>
          clear HP HB
          obtain ⟨j, hj8, rfl, rfl, hP, hB⟩ := hrel
          have HP := Lib.hid hP
          have HB := Lib.hid hB
          clear hP hB
          by_cases hlt2 : j < 8
          · have hc : wr.cell? ⟨b, p + 8 + j, none⟩ = some (.int .i16 (f (8 + j))) := by
              have := (H0.out.below HB.out H0.out.lt).cell (8 + j) (by omega)
              rw [cellS_16 f (by omega)] at this
              first | exact this | (rw [← Nat.add_assoc] at this; exact this) | (rw [Nat.zero_add] at this ⊢; exact this)
            have hw : IntKind.i64.wrap (f (8 + j)) = f (8 + j) := IntWalk.i64_in _ (by have := hf.lo (8 + j) (by omega); have := hf.hi (8 + j) (by omega); omega)
            go_wp2_with (at_builtin; refine wpList_append_fits _ rfl (.tmp 21) (.tmp 24) 101 rfl w.heap.size 2 i0 1 Tryd.underlying101 hi hz1 w.heap.size (8 + j) 25 _ rfl (HP.out.alloc _) ⟨_, 0, none⟩ 1 1 [.int .i64 (f (8 + j))] rfl rfl (one_newB _ _ _ _ (by simp)) (one_cellI (by rfl)) (by omega) ?_; intro w5 hP5 hgr; have HB5 := Lib.hid (Below.grown (HB.out.alloc HB.out.size _) hgr (by have := HB.out.size; simp; omega) (fun g hg => by cases hg; exact Nat.le_refl _)); have HP5 := Lib.hid hP5; clear hP5 hgr)
            go_roundw
            case rel =>
              have h5 := HP5.out
              rw [← lst_succ] at h5
              exact ⟨j + 1, by omega, by go_num, rfl, h5, HB5.out⟩
            case measure => simp [intOf]; omega
          · obtain rfl : j = 8 := by omega
            go_wp2_with fail
            go_roundw
            case rel => exact ⟨1 + 1, by omega, by go_num, rfl, HP.out, HB.out⟩
            case measure => simp [intOf]
      · obtain ⟨wo, rfl⟩ : ∃ wo, wo = wr := ⟨wr, rfl⟩
        go_wp2_with fail
        refine (dirty_any b p _).mono ?_
        rintro o w3 ⟨rfl, rfl⟩
        go_wp2_with fail
        go_loopw [3, 7, 16] (fun vl _ vj wr => ∃ j : Nat, j ≤ 8 ∧ vj = .int .i64 (j : Nat) ∧ vl = .slice (some ⟨w.heap.size, 0, none⟩) (16 + j) 25 ∧ wr.ownsRow w.heap.size 2 1 (.slice (some ⟨w.heap.size, 0, none⟩) (16 + j) 25) (16 + j) (lst (16 + j) (numC f)) ∧ Below w.heap.size w wr) (fun _ _ vj _ => 8 - (intOf vj).toNat)
        case atStart => exact ⟨0, by omega, rfl, rfl, HP.out, HB.out⟩
        case round =>
          clear HP HB
          obtain ⟨j, hj8, rfl, rfl, hP, hB⟩ := hrel
          have HP := Lib.hid hP
          have HB := Lib.hid hB
          clear hP hB
          by_cases hlt2 : j < 8
          · have hc : wr.cell? ⟨b, p + 16 + j, none⟩ = some (.int .i16 (f (16 + j))) := by
              have := (H0.out.below HB.out H0.out.lt).cell (16 + j) (by omega)
              rw [cellS_16 f (by omega)] at this
              first | exact this | (rw [← Nat.add_assoc] at this; exact this) | (rw [Nat.zero_add] at this ⊢; exact this)
            have hw : IntKind.i64.wrap (f (16 + j)) = f (16 + j) := IntWalk.i64_in _ (by have := hf.lo (16 + j) (by omega); have := hf.hi (16 + j) (by omega); omega)
            go_wp2_with (at_builtin; refine wpList_append_fits _ rfl (.tmp 21) (.tmp 24) 101 rfl w.heap.size 2 i0 1 Tryd.underlying101 hi hz1 w.heap.size (16 + j) 25 _ rfl (HP.out.alloc _) ⟨_, 0, none⟩ 1 1 [.int .i64 (f (16 + j))] rfl rfl (one_newB _ _ _ _ (by simp)) (one_cellI (by rfl)) (by omega) ?_; intro w5 hP5 hgr; have HB5 := Lib.hid (Below.grown (HB.out.alloc HB.out.size _) hgr (by have := HB.out.size; simp; omega) (fun g hg => by cases hg; exact Nat.le_refl _)); have HP5 := Lib.hid hP5; clear hP5 hgr)
            go_roundw
            case rel =>
              have h5 := HP5.out
              rw [← lst_succ] at h5
              exact ⟨j + 1, by omega, by go_num, rfl, h5, HB5.out⟩
            case measure => simp [intOf]; omega
          · obtain rfl : j = 8 := by omega
            go_wp2_with fail
            go_roundw
            case rel => exact ⟨2 + 1, by omega, by go_num, rfl, HP.out, HB.out⟩
            case measure => simp [intOf]
    · obtain rfl : i = 3 := by omega
      have hc : wr.cell? ⟨b, p + 24, none⟩ = some (.int .i32 (f 24)) := (H0.out.below HB.out H0.out.lt).cell 24 (by omega)
      have hw : IntKind.i64.wrap (f 24) = f 24 := IntWalk.i64_in _ (by have := hf.rlo; have := hf.rhi; omega)
      go_wp2_with (at_builtin; refine wpList_append_fits _ rfl (.tmp 28) (.tmp 34) 101 rfl w.heap.size 2 i0 1 Tryd.underlying101 hi hz1 w.heap.size 24 25 _ rfl (HP.out.alloc _) ⟨_, 0, none⟩ 1 1 [.int .i64 (f 24)] rfl rfl (one_newB _ _ _ _ (by simp)) (one_cellI (by rfl)) (by omega) ?_; intro w5 hP5 hgr; have HB5 := Lib.hid (Below.grown (HB.out.alloc HB.out.size _) hgr (by have := HB.out.size; simp; omega) (fun g hg => by cases hg; exact Nat.le_refl _)); have HP5 := Lib.hid hP5; clear hP5 hgr)
      go_ret
      exact ⟨rfl, HP5.out, HB5.out⟩
end Go.Proofs.YtjfimmfnhlimkaaDoor.stk

/-
  Valid stocks and their pieces, the program's and the model's.
-/
namespace Go.Proofs.YtjfimmfnhlimkaaDoor.stk
open Go Go.RowKit sl row fold

/-- the sum of the first numbers -/
def sumTo (f : Stk) : Nat → Int
  | 0 => 0
  | n + 1 => sumTo f n + f n
def posS (f : Stk) : Bool := (List.range 25).all fun j => decide (0 ≤ f j)
theorem posS_iff {f : Stk} : posS f = true ↔ ∀ j, j < 25 → 0 ≤ f j := by simp [posS, List.all_eq_true]
def validS (f : Stk) : Bool := posS f && decide (sumTo f 25 ≤ 500)
theorem sumTo_bound {f : Stk} (hf : Fits f) : ∀ n, n ≤ 25 → -(n * 2147483648) ≤ sumTo f n ∧ sumTo f n ≤ n * 2147483648
  | 0, _ => by simp [sumTo]
  | n + 1, h => by
    have h1 := sumTo_bound hf n (by omega)
    have h2 : -2147483648 ≤ f n ∧ f n ≤ 2147483647 := by
      by_cases e : n = 24
      · subst e; exact ⟨hf.rlo, hf.rhi⟩
      · have := hf.lo n (by omega); have := hf.hi n (by omega); omega
    rw [sumTo]
    omega
theorem min_start (f : Stk) : 0 ≤ f 0 ↔ ∀ j, j < 1 → 0 ≤ f j :=
  ⟨fun h j hj => by
    obtain rfl : j = 0 := by omega
    exact h, fun h => h 0 (by omega)⟩
theorem min_step {f : Stk} {m : Int} {k : Nat} (h : 0 ≤ m ↔ ∀ j, j < k → 0 ≤ f j) : 0 ≤ (if f k < m then f k else m) ↔ ∀ j, j < k + 1 → 0 ≤ f j := by
  constructor
  · intro h0 j hj
    by_cases e : j = k
    · subst e; split at h0 <;> omega
    · exact h.1 (by split at h0 <;> omega) j (by omega)
  · intro h0
    have h1 := h.2 fun j hj => h0 j (by omega)
    have h2 := h0 k (by omega)
    split <;> omega
set_option maxRecDepth 100000 in
set_option maxHeartbeats 4000000 in
theorem Min_any (f : Stk) (g c : Nat) (w : World) (h : RowAt w g 0 25 (numC f)) (b : Bool) (hb : b = posS f) :
    Calls Tryd.prog 168 #[.slice (some ⟨g, 0, none⟩) 25 c] w fun o w' => ∃ m : Int, o = .returned (.int .i64 m) ∧ decide (0 ≤ m) = b ∧ w' = w := by
  have H0 := Lib.hid h
  have HBB := Lib.hid hb
  have hc0 : w.cell? ⟨g, 0, none⟩ = some (.int .i64 (f 0)) := by simpa using h.cell 0 (by omega)
  clear h hb
  go_enter Tryd.func168, Tryd.ntmps168
  go_wp2_with fail
  go_loopw [3, 4] (fun vm vi wr => ∃ (k : Nat) (m : Int), 1 ≤ k ∧ k ≤ 25 ∧ vi = .int .i64 (k : Nat) ∧ vm = .int .i64 m ∧ (0 ≤ m ↔ ∀ j, j < k → 0 ≤ f j) ∧ wr = w) (fun _ vi _ => 25 - (intOf vi).toNat)
  case atStart => exact ⟨1, f 0, by omega, by omega, rfl, rfl, min_start f, rfl⟩
  case round =>
    obtain ⟨k, m, hk1, hk, rfl, rfl, hm, rfl⟩ := hrel
    have HM := Lib.hid hm
    clear hm
    by_cases hlt : k < 25
    · have hc : wr.cell? ⟨g, k, none⟩ = some (.int .i64 (f k)) := by simpa using H0.out.cell k hlt
      go_wp2_with fail
      go_roundw
      case rel => exact ⟨k + 1, _, by omega, by omega, by go_num, rfl, min_step HM.out, by trivial⟩
      case measure => simp [intOf]; omega
    · obtain rfl : k = 25 := by omega
      go_wp2_with fail
      go_ret
      refine ⟨m, rfl, ?_, rfl⟩
      rw [HBB.out, Bool.eq_iff_iff, decide_eq_true_iff, HM.out, posS_iff]
set_option maxRecDepth 100000 in
set_option maxHeartbeats 4000000 in
theorem pieces_any (f : Stk) (hf : Fits f) (b p : Nat) (w : World) (h : StkAt w b p f) :
    Calls Tryd.prog 169 #[.pointer (some ⟨b, p, none⟩)] w fun o w' => o = .returned (.int .i64 (sumTo f 25)) ∧ Below w.heap.size w w' := by
  have H0 := Lib.hid h
  clear h
  go_enter Tryd.func169, Tryd.ntmps169
  go_wp2_with fail
  refine (numbers_any f hf b p _ H0.out).mono ?_
  rintro o w1 ⟨rfl, hP, hB⟩
  have HP := Lib.hid hP
  have HB := Lib.hid hB
  clear hP hB
  go_wp2_with fail
  go_loopw [3, 5, 9] (fun vs _ vi wr => ∃ k : Nat, k ≤ 25 ∧ vi = .int .i64 (k : Nat) ∧ vs = .int .i64 (sumTo f k) ∧ wr = w1) (fun _ _ vi _ => 25 - (intOf vi).toNat)
  case atStart => exact ⟨0, by omega, rfl, rfl, rfl⟩
  case round =>
    obtain ⟨k, hk, rfl, rfl, rfl⟩ := hrel
    by_cases hlt : k < 25
    · have hc : wr.cell? ⟨w.heap.size, k, none⟩ = some (.int .i64 (f k)) := (HP.out.cellAt k (by omega)).trans (lst_get (numC f) hlt)
      have hs : wrap64 (sumTo f k + f k) = sumTo f k + f k := by
        have := sumTo_bound hf (k + 1) (by omega)
        rw [sumTo] at this
        unfold wrap64
        omega
      go_wp2_with fail
      go_roundw
      case rel => exact ⟨k + 1, by omega, by go_num, by rw [sumTo, hs], by trivial⟩
      case measure => simp [intOf]; omega
    · obtain rfl : k = 25 := by omega
      go_wp2_with fail
      go_ret
      exact ⟨rfl, HB.out⟩
set_option maxRecDepth 100000 in
set_option maxHeartbeats 4000000 in
theorem ValidStock_any (f : Stk) (hf : Fits f) (w : World) :
    Calls Tryd.prog 143 #[stkV f] w fun o w' => o = .returned (.bool (validS f)) ∧ Below w.heap.size w w' := by
  have H0 := Lib.hid (StkOwn.new w f 153)
  have B0 : Hid (Below w.heap.size w (w.alloc (.cells (stkCs f) 153))) := Lib.hid ((Below.refl _ _).alloc (Nat.le_refl _) _)
  unfold validS
  obtain ⟨b, hb⟩ : ∃ b, b = posS f := ⟨_, rfl⟩
  rw [← hb]
  have HBB := Lib.hid hb
  clear hb
  go_enter Tryd.func143, Tryd.ntmps143
  go_wp2_with fail
  refine (numbers_any f hf w.heap.size 0 _ H0.out.toRowAt).mono ?_
  rintro o w1 ⟨rfl, hP, hB⟩
  have HB1 := Lib.hid (below_next B0.out hB (by simp))
  have H1 := Lib.hid (H0.out.next hB)
  have hR : RowAt w1 (w.alloc (.cells (stkCs f) 153)).heap.size 0 25 (numC f) := ⟨(hP.lt _ rfl).2, fun j hj => by
    rw [Nat.zero_add]
    exact (hP.cellAt j (by omega)).trans (lst_get (numC f) hj)⟩
  rw [World.size_alloc] at hR
  have HR := Lib.hid hR
  clear hP hB H0 B0 hR
  go_wp2_with fail
  refine (Min_any f _ 25 _ HR.out b HBB.out).mono ?_
  rintro o w2 ⟨m, rfl, hm, rfl⟩
  cases b with
  | false =>
    have hm0 : ¬ (0 ≤ m) := by simpa using hm
    clear hm
    go_wp2_with fail
    go_ret
    exact ⟨rfl, HB1.out⟩
  | true =>
    have hm0 : 0 ≤ m := by simpa using hm
    clear hm
    go_wp2_with fail
    refine (pieces_any f hf w.heap.size 0 _ H1.out.toRowAt).mono ?_
    rintro o w3 ⟨rfl, hB⟩
    have HB3 := Lib.hid (below_next HB1.out hB (Nat.le_refl _))
    clear hB
    go_wp2_with fail
    go_ret
    exact ⟨rfl, HB3.out⟩
end Go.Proofs.YtjfimmfnhlimkaaDoor.stk

/-
  Valid stocks and their pieces, the model's.
-/
namespace Go.Proofs.YtjfimmfnhlimkaaDoor.stk
open Go Go.RowKit sl row fold

/-- the model's sum: rags first, then place by place -/
def sumM (f : Stk) : Nat → Int
  | 0 => f 24
  | n + 1 => sumM f n + (f n + f (8 + n) + f (16 + n))
def fineM (f : Stk) (n : Nat) : Bool := decide (0 ≤ f 24) && (List.range n).all fun u => decide (0 ≤ f u) && (decide (0 ≤ f (8 + u)) && decide (0 ≤ f (16 + u)))
theorem sumM_all (f : Stk) : sumM f 8 = sumTo f 25 := by
  simp only [sumM, sumTo, Nat.reduceAdd]
  omega
theorem fineM_all (f : Stk) : fineM f 8 = posS f := by
  rw [Bool.eq_iff_iff, posS_iff]
  simp only [fineM, Bool.and_eq_true, List.all_eq_true, List.mem_range, decide_eq_true_iff]
  constructor
  · rintro ⟨h0, h1⟩ j hj
    rcases Nat.lt_or_ge j 8 with a | a
    · exact (h1 j a).1
    · rcases Nat.lt_or_ge j 16 with b | b
      · have := (h1 (j - 8) (by omega)).2.1
        rwa [show 8 + (j - 8) = j by omega] at this
      · rcases Nat.lt_or_ge j 24 with c | c
        · have := (h1 (j - 16) (by omega)).2.2
          rwa [show 16 + (j - 16) = j by omega] at this
        · obtain rfl : j = 24 := by omega
          exact h0
  · exact fun h => ⟨h 24 (by omega), fun u hu => ⟨h u (by omega), h _ (by omega), h _ (by omega)⟩⟩
theorem fineM_succ (f : Stk) (n : Nat) : fineM f (n + 1) = (fineM f n && (decide (0 ≤ f n) && (decide (0 ≤ f (8 + n)) && decide (0 ≤ f (16 + n))))) := by
  simp [fineM, List.range_succ, Bool.and_assoc]
theorem sumM_bound {f : Stk} (hf : Fits f) : ∀ n, n ≤ 8 → -2147483648 - 98304 * n ≤ sumM f n ∧ sumM f n ≤ 2147483648 + 98304 * n
  | 0, _ => by simp only [sumM]; have := hf.rlo; have := hf.rhi; omega
  | n + 1, h => by
    have h1 := sumM_bound hf n (by omega)
    have a0 := hf.lo n (by omega); have a1 := hf.hi n (by omega)
    have b0 := hf.lo (8 + n) (by omega); have b1 := hf.hi (8 + n) (by omega)
    have c0 := hf.lo (16 + n) (by omega); have c1 := hf.hi (16 + n) (by omega)
    rw [sumM]
    omega
set_option maxRecDepth 100000 in
set_option maxHeartbeats 4000000 in
theorem l05Pieces_any (f : Stk) (hf : Fits f) (b p : Nat) (w : World) (h : StkAt w b p f) :
    Calls Tryd.prog 164 #[.pointer (some ⟨b, p, none⟩)] w fun o w' => o = .returned (.tuple #[.int .i64 (sumTo f 25), .bool (posS f)]) ∧ Below w.heap.size w w' := by
  rw [← sumM_all, ← fineM_all]
  have H0 := Lib.hid h
  have hc24 : w.cell? ⟨b, p + 24, none⟩ = some (.int .i32 (f 24)) := h.cell 24 (by omega)
  have hw24 : IntKind.i64.wrap (f 24) = f 24 := IntWalk.i64_in _ (by have := hf.rlo; have := hf.rhi; omega)
  clear h
  go_enter Tryd.func164, Tryd.ntmps164
  go_wp2_with fail
  go_loopw [4, 5, 6] (fun vs vf vi wr => ∃ k m : Nat, k ≤ 8 ∧ vi = .int .i64 (k : Nat) ∧ vs = .int .i64 (sumM f k) ∧ vf = .bool (fineM f k) ∧ wr = w.drewN m) (fun _ _ vi _ => 8 - (intOf vi).toNat)
  case atStart => exact ⟨0, 0, by omega, rfl, rfl, by simp [fineM], rfl⟩
  case round =>
    obtain ⟨k, m, hk, rfl, rfl, rfl, rfl⟩ := hrel
    by_cases hlt : k < 8
    · have c0 : w.cell? ⟨b, p + k, none⟩ = some (.int .i16 (f k)) := (H0.out.cell k (by omega)).trans (by rw [cellS_16 f (by omega)])
      have c1 : w.cell? ⟨b, p + 8 + k, none⟩ = some (.int .i16 (f (8 + k))) := by
        have := H0.out.cell (8 + k) (by omega)
        rwa [cellS_16 f (by omega), ← Nat.add_assoc] at this
      have c2 : w.cell? ⟨b, p + 16 + k, none⟩ = some (.int .i16 (f (16 + k))) := by
        have := H0.out.cell (16 + k) (by omega)
        rwa [cellS_16 f (by omega), ← Nat.add_assoc] at this
      have r0 := hf.lo k (by omega)
      have r1 := hf.hi k (by omega)
      have s0 := hf.lo (8 + k) (by omega)
      have s1 := hf.hi (8 + k) (by omega)
      have t0 := hf.lo (16 + k) (by omega)
      have t1 := hf.hi (16 + k) (by omega)
      have w0 : IntKind.i64.wrap (f k) = f k := IntWalk.i64_in _ (by omega)
      have w1 : IntKind.i64.wrap (f (8 + k)) = f (8 + k) := IntWalk.i64_in _ (by omega)
      have w2 : IntKind.i64.wrap (f (16 + k)) = f (16 + k) := IntWalk.i64_in _ (by omega)
      have hb := sumM_bound hf k (by omega)
      have x0 : wrap64 (f k + f (8 + k)) = f k + f (8 + k) := by unfold wrap64; omega
      have x1 : wrap64 (f k + f (8 + k) + f (16 + k)) = f k + f (8 + k) + f (16 + k) := by unfold wrap64; omega
      have x2 : wrap64 (sumM f k + (f k + f (8 + k) + f (16 + k))) = sumM f k + (f k + f (8 + k) + f (16 + k)) := by unfold wrap64; omega
      have k0 : (0 : Int) ≤ (k : Int) ∧ (k : Int) < 8 := ⟨by omega, by omega⟩
      obtain ⟨bo, hbo⟩ : ∃ bo, bo = fineM f k := ⟨_, rfl⟩
      have hsucc := fineM_succ f k
      rw [← hbo] at hsucc ⊢
      have HSU := Lib.hid hsucc
      clear hsucc hbo r0 r1 s0 s1 t0 t1 hb
      cases bo with
      | false =>
        go_wp2_with fail
        go_quiet (fail)
        go_wp2_with fail
        go_roundw
        case rel => exact ⟨k + 1, _, by omega, by go_num, by rw [sumM, x2], by rw [HSU.out]; simp, rfl⟩
        case measure => simp [intOf]; omega
      | true =>
        go_wp2_with fail
        · go_quiet (fail)
          go_wp2_with fail
          go_roundw
          case rel => exact ⟨k + 1, _, by omega, by go_num, by rw [sumM, x2], by rw [HSU.out]; first | (simp [*]; done) | (congr 1; simp; omega), rfl⟩
          case measure => simp [intOf]; omega
        · go_quiet (fail)
          go_wp2_with fail
          go_roundw
          case rel => exact ⟨k + 1, _, by omega, by go_num, by rw [sumM, x2], by rw [HSU.out]; first | (simp [*]; done) | (congr 1; simp; omega), rfl⟩
          case measure => simp [intOf]; omega
        · go_quiet (fail)
          go_wp2_with fail
          go_roundw
          case rel => exact ⟨k + 1, _, by omega, by go_num, by rw [sumM, x2], by rw [HSU.out]; first | (simp [*]; done) | (congr 1; simp; omega), rfl⟩
          case measure => simp [intOf]; omega
    · obtain rfl : k = 8 := by omega
      go_wp2_with fail
      go_ret2
      exact ⟨rfl, below_drewN _ _ _⟩
set_option maxRecDepth 100000 in
set_option maxHeartbeats 4000000 in
theorem l05Stock_any (f : Stk) (hf : Fits f) (b p : Nat) (w : World) (h : StkAt w b p f) :
    Calls Tryd.prog 136 #[.pointer (some ⟨b, p, none⟩)] w fun o w' => o = .returned (.bool (validS f)) ∧ Below w.heap.size w w' := by
  unfold validS
  obtain ⟨q, hq⟩ : ∃ b, b = posS f := ⟨_, rfl⟩
  have hc := l05Pieces_any f hf b p w h
  rw [← hq] at hc ⊢
  have HC := Lib.hid hc
  clear hc hq
  go_enter Tryd.func136, Tryd.ntmps136
  go_wp2_with fail
  refine HC.out.mono ?_
  rintro o w1 ⟨rfl, hb⟩
  have HB := Lib.hid hb
  clear hb
  cases q with
  | false =>
    go_wp2_with fail
    go_ret
    exact ⟨rfl, HB.out⟩
  | true =>
    go_wp2_with fail
    go_ret
    exact ⟨rfl, HB.out⟩
end Go.Proofs.YtjfimmfnhlimkaaDoor.stk
