/-
  Several texts of this proof, joined.
-/
import Derived.Test.YtdcckdfemelbiaaFolTxtP
import Derived.Deep.LoopGhost
/-
  Folds read from their texts: the program's and the model's.
-/
namespace Go.Proofs.Ytdcckdfemelbiaa.folt
open Go Go.RowKit sl fold

set_option maxRecDepth 100000 in
set_option maxHeartbeats 4000000 in
theorem ReadFolds_any (s : ByteArray) (hs : s.size ≤ 1048576) (ys : List Int) (k : Nat) (hr : rdF s = (ys, k)) (w : World) :
    Calls Try.prog 5 #[.string s] w fun o w' => ∃ v, o = .returned (.tuple #[v, .int .i64 k]) ∧ w'.ownsRow w.heap.size 2 1 v ys.length (ys.flatMap intS.C) ∧ Below w.heap.size w w' := by
  by_cases h12 : s.size ≤ 12
  · obtain ⟨i0, hi, hz0, hz1, hz2⟩ := info_parts intS.info
    obtain ⟨n, hn⟩ : ∃ n, n = s.size := ⟨_, rfl⟩
    have hmk : ∀ u : World, (Instr.makeSlice 22 (.int .i64 (s.size : Int)) (.int .i64 (s.size : Int))).run Try.prog u =
        .ok (.slice (some ⟨u.heap.size, 0, none⟩) s.size s.size) (u.alloc (.cells (madeCells #[.int .i64 0] s.size) 2)) := fun u => by
      have h := run_make (P := Try.prog) u 22 2 i0 _ Try.underlying22 hi hz0 .i64 .i64 (s.size : Int) (s.size : Int) (by omega) (Int.le_refl _) (by rw [hz2]; omega) (by omega)
      have e : ((s.size : Int)).toNat = s.size := by omega
      rw [e] at h
      simpa [hz1, Value.cells] using h
    have hP0 : (w.alloc (.cells (madeCells #[.int .i64 0] s.size) 2)).ownsRow w.heap.size 2 1 (.slice (some ⟨w.heap.size, 0, none⟩) s.size s.size) s.size _ :=
      World.ownsRow_lit w (madeCells #[.int .i64 0] s.size) s.size (Nat.le_refl _) (by unfold maxLen; omega) (by rw [size_madeCells, Nat.mul_one])
    have HP0 := Lib.hid hP0
    have HB0 : Hid (Below w.heap.size w (w.alloc (.cells (madeCells #[.int .i64 0] s.size) 2))) := Lib.hid ((Below.refl _ _).alloc (Nat.le_refl _) _)
    have HR := Lib.hid hr
    clear hP0 hr hn
    go_enter Try.func5, Try.ntmps5
    go_wp2_with fail
    go_loopw [6, 5, 15] (fun _ _ vi wr => ∃ i L, i ≤ s.size ∧ vi = .int .i64 (i : Nat) ∧ wr.ownsRow w.heap.size 2 1 (.slice (some ⟨w.heap.size, 0, none⟩) s.size s.size) s.size L ∧ Done intS.C 1 (s.data.toList.map fidx) i L ∧ (∀ j, j < i → 0 ≤ fidx (s.data.toList.getD j 0)) ∧ Below w.heap.size w wr) (fun _ _ vi _ => s.size - (intOf vi).toNat)
    case atStart => exact ⟨0, _, by omega, rfl, HP0.out, Done.zero _ _ _ _, fun j hj => absurd hj (by omega), HB0.out⟩
    case round =>
      clear HP0 HB0
      obtain ⟨i, L, hi, rfl, hP, hD, hok, hB⟩ := hrel
      have HD := Lib.hid hD
      have HB := Lib.hid hB
      have HOK := Lib.hid hok
      by_cases hlt : i < s.size
      · have hbd := fidx_bd s[i]
        have HT := Lib.hid (fun u => IndexByte_any s[i] u)
        have HX : Hid ((s.data.toList.map fidx)[i]? = some (fidx s[i])) := Lib.hid (by rw [List.getElem?_map, at_byteF s i hlt]; rfl)
        have HG : Hid (s.data.toList.getD i 0 = s[i]) := Lib.hid (by rw [List.getD_eq_getElem?_getD, at_byteF s i hlt]; rfl)
        have HBAD := Lib.hid (all_bad (s := s) (k := i) hlt)
        have hLL := hP.1
        obtain ⟨v0, s0⟩ : ∃ v, wr.cell? ⟨w.heap.size, i, none⟩ = some v := ⟨L[i]'(by omega), (hP.cellAt i (by omega)).trans (List.getElem?_eq_getElem _)⟩
        have f0 := hP.frozenAt i
        have HLL := Lib.hid hLL
        have HP := Lib.hid hP
        obtain ⟨z, hz⟩ : ∃ z, fidx s[i] = z := ⟨_, rfl⟩
        rw [hz] at HT HX hbd HBAD
        have HZ := Lib.hid hz
        clear hLL hP hD hB hok hz
        by_cases hneg : z < 0
        · go_wp2_with fail
          refine (HT.out _).mono ?_
          rintro o w1 ⟨rfl, rfl⟩
          obtain ⟨rfl, rfl⟩ := rdF_bad HR.out (fun h => by have := HBAD.out hneg; rw [h.2] at this; cases this)
          go_wp2_with fail
          go_ret2
          exact ⟨_, rfl, World.ownsRow_nil _ _ _ _, HB.out⟩
        · go_wp2_with fail
          refine (HT.out _).mono ?_
          rintro o w1 ⟨rfl, rfl⟩
          go_wp2_with fail
          go_roundw
          case rel =>
            have hP3 := (HP.out.stored i (.int .i64 z)).1
            have hd := HD.out.step (C := intS.C) (fun _ _ => rfl) HX.out (by rw [HLL.out]; simp)
            rw [Nat.mul_one] at hd
            exact ⟨i + 1, _, by omega, by go_num, hP3, hd, fun j hj => by
              rcases Nat.lt_or_ge j i with h | h
              · exact HOK.out j h
              · obtain rfl : j = i := by omega
                rw [HG.out, HZ.out]; omega, HB.out.setCell (p := ⟨w.heap.size, i, none⟩) (Nat.le_refl _) _⟩
          case measure => simp [intOf]; omega
      · obtain rfl : i = s.size := by omega
        have hl : (s.data.toList.map fidx).length = s.size := by simp
        have hL : L = (s.data.toList.map fidx).flatMap intS.C := Done.full (C := intS.C) (sz := 1) (by rw [hl]; exact hD) (fun _ _ => rfl) (by decide) (by rw [hP.1, hl])
        obtain ⟨hy, rfl⟩ := rdF_good HR.out h12 hok
        rw [List.take_of_length_le (by simp)] at hy
        rw [hL] at hP
        have HP := Lib.hid hP
        have HY := Lib.hid hy
        have HLN : Hid (ys.length = s.size) := Lib.hid (by rw [hy, hl])
        clear hL hl hP hD hok hy
        go_wp2_with fail
        go_ret2
        exact ⟨_, rfl, by rw [HLN.out, HY.out]; exact HP.out, HB.out⟩
  · obtain ⟨rfl, rfl⟩ := rdF_bad hr (fun h => h12 h.1)
    clear hr
    have h13 : 12 < s.size := by omega
    go_enter Try.func5, Try.ntmps5
    go_wp2_with fail
    go_ret2
    exact ⟨_, rfl, World.ownsRow_nil _ _ _ _, Below.refl _ _⟩
end Go.Proofs.Ytdcckdfemelbiaa.folt

/-
  Folds read from their texts: the model's.
-/
namespace Go.Proofs.Ytdcckdfemelbiaa.folt
open Go Go.RowKit sl fold

/-- the place of a letter among the first k -/
def fiK (b : UInt8) : Nat → Int
  | 0 => -1
  | k + 1 => if folLs.getD k 0 = b then (k : Int) else fiK b k
theorem fiK_4 (b : UInt8) : fiK b 4 = fidx b := by
  rw [fidx_val]
  simp only [fiK, folLs]
  by_cases h0 : b = 119
  · subst h0; decide
  · by_cases h1 : b = 104
    · subst h1; decide
    · by_cases h2 : b = 87
      · subst h2; decide
      · by_cases h3 : b = 72
        · subst h3; decide
        · have e0 : ¬ (119 : UInt8) = b := Ne.symm h0
          have e1 : ¬ (104 : UInt8) = b := Ne.symm h1
          have e2 : ¬ (87 : UInt8) = b := Ne.symm h2
          have e3 : ¬ (72 : UInt8) = b := Ne.symm h3
          simp [h0, h1, h2, h3, e0, e1, e2, e3]
theorem byte_eq {a b : UInt8} : (((a.toNat : Int)) == ((b.toNat : Int))) = decide (a = b) := by
  rw [Bool.eq_iff_iff]
  simp only [beq_iff_eq, decide_eq_true_eq]
  exact ⟨fun h => UInt8.toNat_inj.1 (by omega), fun h => by rw [h]⟩
set_option maxRecDepth 100000 in
set_option maxHeartbeats 4000000 in
theorem ReadFolds_spec (s : ByteArray) (hs : s.size ≤ 1048576) (ys : List Int) (k : Nat) (hr : rdF s = (ys, k)) (w : World) :
    Calls Try.prog 4 #[.string s] w fun o w' => ∃ v, o = .returned (.tuple #[v, .int .i64 k]) ∧ w'.ownsRow w.heap.size 2 1 v ys.length (ys.flatMap intS.C) ∧ Below w.heap.size w w' := by
  obtain ⟨i0, hI, hz0, hz1, hz2⟩ := info_parts intS.info
  have HN0 : Hid ((w.alloc (.cells #[] 2)).ownsRow w.heap.size 2 1 (.slice (some ⟨w.heap.size, 0, none⟩) 0 0) 0 (([] : List Int).flatMap intS.C)) := Lib.hid (World.ownsRow_made w #[] 0 (Nat.le_refl _) (Nat.zero_le _) rfl)
  have HB0 : Hid (Below w.heap.size w (w.alloc (.cells #[] 2))) := Lib.hid ((Below.refl _ _).alloc (Nat.le_refl _) _)
  have HR := Lib.hid hr
  clear hr
  go_enter Try.func4, Try.ntmps4
  go_wp2_with fail
  go_loopw [4, 5, 6, 7] (fun vo vi _ _ wr => ∃ i, i ≤ s.size ∧ i ≤ 12 ∧ vi = .int .i64 (i : Nat) ∧ wr.ownsRow w.heap.size 2 1 vo i (((s.data.toList.take i).map fidx).flatMap intS.C) ∧ (∀ j, j < i → 0 ≤ fidx (s.data.toList.getD j 0)) ∧ Below w.heap.size w wr) (fun _ vi _ _ _ => s.size - (intOf vi).toNat)
  case atStart => exact ⟨0, by omega, by omega, rfl, HN0.out, fun j hj => absurd hj (by omega), HB0.out⟩
  case round =>
    clear HN0 HB0
    obtain ⟨i, hi, hi12, rfl, hP, hok, hB⟩ := hrel
    obtain ⟨wo, rfl⟩ : ∃ wo, wo = wr := ⟨wr, rfl⟩
    obtain ⟨Ao, co, rfl, _⟩ := owns_slice hP
    have HP := Lib.hid hP
    have HB := Lib.hid hB
    have HOK := Lib.hid hok
    clear hP hB hok
    by_cases hlt : i < s.size
    · have hbd := fidx_bd s[i]
      have HX := Lib.hid (take_mapF (s := s) (k := i) hlt)
      have HG : Hid (s.data.toList.getD i 0 = s[i]) := Lib.hid (by rw [List.getD_eq_getElem?_getD, at_byteF s i hlt]; rfl)
      have HBAD := Lib.hid (all_bad (s := s) (k := i) hlt)
      obtain ⟨z, hz⟩ : ∃ z, fidx s[i] = z := ⟨_, rfl⟩
      rw [hz] at HX hbd HBAD
      have HZ := Lib.hid hz
      have HZ4 : Hid (fiK s[i] 4 = z) := Lib.hid ((fiK_4 _).trans hz)
      clear hz
      go_wp2_with fail
      go_loopw [7, 6] (fun vk vf wr => ∃ k : Nat, k ≤ 4 ∧ vk = .int .i64 (k : Nat) ∧ vf = .int .i64 (fiK s[i] k) ∧ Below wo.heap.size wo wr) (fun vk _ _ => 4 - (intOf vk).toNat)
      case atStart => exact ⟨0, by omega, rfl, rfl, Below.refl _ _⟩
      case round =>
        obtain ⟨k, hk, rfl, rfl, hb⟩ := hrel
        have HBI := Lib.hid hb
        clear hb
        by_cases hk4 : k < 4
        · have hcase : k = 0 ∨ k = 1 ∨ k = 2 ∨ k = 3 := by omega
          have HST : Hid (fiK s[i] (k + 1) = if folLs.getD k 0 = s[i] then (k : Int) else fiK s[i] k) := Lib.hid rfl
          obtain ⟨fv, hfv⟩ : ∃ f, fiK s[i] k = f := ⟨_, rfl⟩
          rw [hfv] at HST ⊢
          clear hfv
          rcases hcase with rfl | rfl | rfl | rfl
          · have hq := byte_eq (a := 119) (b := s[i])
            by_cases he : (119 : UInt8) = s[i]
            · rw [decide_eq_true he] at hq
              have HV : Hid (fiK s[i] (0 + 1) = ((0 : Nat) : Int)) := Lib.hid (by rw [HST.out]; exact if_pos he)
              have HQ : ((((⟨#[119, 104, 87, 72]⟩ : ByteArray)[0]'(by decide)).toNat : Int) == (s[i].toNat : Int)) = true := hq
              clear he hq HST
              go_wp2_with fail
              go_quiet (fail)
              go_wp2_with fail
              go_roundw
              case rel => exact ⟨0 + 1, by omega, rfl, by rw [HV.out], HBI.out.trans (below_drewN _ _ _)⟩
              case measure => simp [intOf]
            · rw [decide_eq_false he] at hq
              have HV : Hid (fiK s[i] (0 + 1) = fv) := Lib.hid (by rw [HST.out]; exact if_neg he)
              have HQ : ((((⟨#[119, 104, 87, 72]⟩ : ByteArray)[0]'(by decide)).toNat : Int) == (s[i].toNat : Int)) = false := hq
              clear he hq HST
              go_wp2_with fail
              go_quiet (fail)
              go_wp2_with fail
              go_roundw
              case rel => exact ⟨0 + 1, by omega, rfl, by rw [HV.out], HBI.out.trans (below_drewN _ _ _)⟩
              case measure => simp [intOf]
          · have hq := byte_eq (a := 104) (b := s[i])
            by_cases he : (104 : UInt8) = s[i]
            · rw [decide_eq_true he] at hq
              have HV : Hid (fiK s[i] (1 + 1) = ((1 : Nat) : Int)) := Lib.hid (by rw [HST.out]; exact if_pos he)
              have HQ : ((((⟨#[119, 104, 87, 72]⟩ : ByteArray)[1]'(by decide)).toNat : Int) == (s[i].toNat : Int)) = true := hq
              clear he hq HST
              go_wp2_with fail
              go_quiet (fail)
              go_wp2_with fail
              go_roundw
              case rel => exact ⟨1 + 1, by omega, rfl, by rw [HV.out], HBI.out.trans (below_drewN _ _ _)⟩
              case measure => simp [intOf]
            · rw [decide_eq_false he] at hq
              have HV : Hid (fiK s[i] (1 + 1) = fv) := Lib.hid (by rw [HST.out]; exact if_neg he)
              have HQ : ((((⟨#[119, 104, 87, 72]⟩ : ByteArray)[1]'(by decide)).toNat : Int) == (s[i].toNat : Int)) = false := hq
              clear he hq HST
              go_wp2_with fail
              go_quiet (fail)
              go_wp2_with fail
              go_roundw
              case rel => exact ⟨1 + 1, by omega, rfl, by rw [HV.out], HBI.out.trans (below_drewN _ _ _)⟩
              case measure => simp [intOf]
          · have hq := byte_eq (a := 87) (b := s[i])
            by_cases he : (87 : UInt8) = s[i]
            · rw [decide_eq_true he] at hq
              have HV : Hid (fiK s[i] (2 + 1) = ((2 : Nat) : Int)) := Lib.hid (by rw [HST.out]; exact if_pos he)
              have HQ : ((((⟨#[119, 104, 87, 72]⟩ : ByteArray)[2]'(by decide)).toNat : Int) == (s[i].toNat : Int)) = true := hq
              clear he hq HST
              go_wp2_with fail
              go_quiet (fail)
              go_wp2_with fail
              go_roundw
              case rel => exact ⟨2 + 1, by omega, rfl, by rw [HV.out], HBI.out.trans (below_drewN _ _ _)⟩
              case measure => simp [intOf]
            · rw [decide_eq_false he] at hq
              have HV : Hid (fiK s[i] (2 + 1) = fv) := Lib.hid (by rw [HST.out]; exact if_neg he)
              have HQ : ((((⟨#[119, 104, 87, 72]⟩ : ByteArray)[2]'(by decide)).toNat : Int) == (s[i].toNat : Int)) = false := hq
              clear he hq HST
              go_wp2_with fail
              go_quiet (fail)
              go_wp2_with fail
              go_roundw
              case rel => exact ⟨2 + 1, by omega, rfl, by rw [HV.out], HBI.out.trans (below_drewN _ _ _)⟩
              case measure => simp [intOf]
          · have hq := byte_eq (a := 72) (b := s[i])
            by_cases he : (72 : UInt8) = s[i]
            · rw [decide_eq_true he] at hq
              have HV : Hid (fiK s[i] (3 + 1) = ((3 : Nat) : Int)) := Lib.hid (by rw [HST.out]; exact if_pos he)
              have HQ : ((((⟨#[119, 104, 87, 72]⟩ : ByteArray)[3]'(by decide)).toNat : Int) == (s[i].toNat : Int)) = true := hq
              clear he hq HST
              go_wp2_with fail
              go_quiet (fail)
              go_wp2_with fail
              go_roundw
              case rel => exact ⟨3 + 1, by omega, rfl, by rw [HV.out], HBI.out.trans (below_drewN _ _ _)⟩
              case measure => simp [intOf]
            · rw [decide_eq_false he] at hq
              have HV : Hid (fiK s[i] (3 + 1) = fv) := Lib.hid (by rw [HST.out]; exact if_neg he)
              have HQ : ((((⟨#[119, 104, 87, 72]⟩ : ByteArray)[3]'(by decide)).toNat : Int) == (s[i].toNat : Int)) = false := hq
              clear he hq HST
              go_wp2_with fail
              go_quiet (fail)
              go_wp2_with fail
              go_roundw
              case rel => exact ⟨3 + 1, by omega, rfl, by rw [HV.out], HBI.out.trans (below_drewN _ _ _)⟩
              case measure => simp [intOf]
        · obtain rfl : k = 4 := by omega
          rw [HZ4.out]
          have HP2 := Lib.hid (owns_next HP.out HBI.out)
          have HB2 := Lib.hid (HB.out.trans (HBI.out.mono HB.out.size))
          clear HP HB HBI
          by_cases hneg : z < 0
          · obtain ⟨rfl, rfl⟩ := rdF_bad HR.out (fun h => by have := HBAD.out hneg; rw [h.2] at this; cases this)
            go_wp2_with fail
            go_ret2
            exact ⟨_, rfl, owns_below (World.ownsRow_made (e := 2) (size := 1) _ #[] 0 (Nat.le_refl _) (Nat.zero_le _) rfl) HB2.out.size, HB2.out.alloc HB2.out.size _⟩
          · have hz0' : ¬ z < 0 := hneg
            by_cases h12 : i = 12
            · have hq12 : ((i : Int) == 12) = true := by rw [h12]; rfl
              obtain ⟨rfl, rfl⟩ := rdF_bad HR.out (fun h => by have := h.1; omega)
              clear h12
              go_wp2_with fail
              go_ret2
              exact ⟨_, rfl, owns_below (World.ownsRow_made (e := 2) (size := 1) _ #[] 0 (Nat.le_refl _) (Nat.zero_le _) rfl) HB2.out.size, HB2.out.alloc HB2.out.size _⟩
            · have hq12 : ((i : Int) == 12) = false := by rw [beq_eq_false_iff_ne]; omega
              have hi13 : i + 1 ≤ 12 := by omega
              clear h12
              go_wp2_with (first | (at_builtin; refine wpList_append_own _ rfl (.tmp 34) (.tmp 36) 22 rfl w.heap.size 2 i0 (.int .i64 0) 1 8 Try.underlying22 hI hz0 hz1 hz2 rfl (by decide) _ i _ rfl (HP2.out.alloc _) ⟨_, 0, none⟩ 1 1 [.int .i64 z] rfl rfl (one_newB _ _ _ _ (by simp)) (one_cellI (by rfl)) (by unfold maxLen; omega) (by omega) (by have := HB2.out.size; simp; omega) ?_; intro v3 w5 hP5 hgr _; have B5 := Lib.hid (Below.grown (HB2.out.alloc HB2.out.size (.cells #[.int .i64 z] 2)) hgr (by have := HB2.out.size; simp; omega) (fun g hg => (HP2.out.lt g hg).1)); have HP5 := Lib.hid hP5; clear hP5 hgr) | fail)
              go_roundw
              case rel => exact ⟨i + 1, by omega, by omega, by go_num, by rw [HX.out, flat_snoc]; exact HP5.out, fun j hj => by
                rcases Nat.lt_or_ge j i with h | h
                · exact HOK.out j h
                · obtain rfl : j = i := by omega
                  rw [HG.out, HZ.out]; omega, B5.out⟩
              case measure => simp [intOf]; omega
    · obtain rfl : i = s.size := by omega
      obtain ⟨hy, rfl⟩ := rdF_good HR.out hi12 HOK.out
      have HY := Lib.hid hy
      have HLN : Hid (ys.length = s.size) := Lib.hid (by rw [hy]; simp)
      clear hy
      go_wp2_with fail
      go_ret2
      exact ⟨_, rfl, by rw [HLN.out, HY.out]; exact HP.out, HB.out⟩
end Go.Proofs.Ytdcckdfemelbiaa.folt
