/-
  RisingOrder and DueOrder: the model's.
-/
import Derived.Test.YtajhdgoinghmmaaDoorJoin17
import Derived.Laws.AppendOwnNone
namespace Go.Proofs.YtajhdgoinghmmaaDoor.iron
open Go Go.RowKit sl stk errs ins fold

theorem owns_some {w : World} {b : Nat} {e : TypeId} {sz n : Nat} {v : Value} {L : List Value} (h : w.ownsRow b e sz v n L) (hn : 0 < n) : ∃ g c, v = .slice (some ⟨g, 0, none⟩) n c ∧ b ≤ g ∧ n ≤ c ∧ c ≤ maxLen := by
  rcases h.2 with ⟨_, h0⟩ | ⟨g, cap, cur, h1, hg, _, h2, h3, _⟩
  · omega
  · exact ⟨g, cap, h1, hg, h2, h3⟩
theorem cells_row {w : World} {b : Nat} {g n c : Nat} {L : List Int} (h : w.ownsRow b 2 1 (.slice (some ⟨g, 0, none⟩) n c) n (L.flatMap intS.C)) {j : Nat} {x : Int} (hx : L[j]? = some x) : w.cell? ⟨g, j, none⟩ = some (.int .i64 x) := by
  obtain ⟨a, e, _, hat⟩ := (Sl.of_owns h (intS.len _) (by decide)).at_ j x hx
  obtain rfl := Option.some.inj e
  have := intS.at_ hat
  rwa [add_lit] at this
theorem flat_at {L : List Int} {j : Nat} {v : Value} (h : (L.flatMap intS.C)[j]? = some v) : ∃ x, L[j]? = some x ∧ v = .int .i64 x := by
  have e : ∀ (M : List Int), M.flatMap intS.C = M.map (fun z => Value.int .i64 z) := fun M => by
    induction M with
    | nil => rfl
    | cons a r ih => simp [intS.C, ih]
  rw [e, List.getElem?_map, Option.map_eq_some_iff] at h
  obtain ⟨x, h1, h2⟩ := h
  exact ⟨x, h1, h2.symm⟩
theorem i64cells (L : List Int) : ∀ u ∈ L.flatMap intS.C, u.oneCell' = true := fun u hu => by
  obtain ⟨x, _, hx⟩ := List.mem_flatMap.1 hu
  rw [List.mem_singleton.1 hx]
  rfl
theorem flat_len1 (L : List Int) : (L.flatMap intS.C).length = L.length * 1 := flat_len (intS.len L)
/-- the first ones, and those behind them, as an append reads them -/
theorem row_take {w : World} {b : Nat} {g n c : Nat} {L : List Int} (h : w.ownsRow b 2 1 (.slice (some ⟨g, 0, none⟩) n c) n (L.flatMap intS.C)) (j : Nat) : ∀ (q : Nat) (v : Value), ((L.take j).flatMap intS.C)[q]? = some v → w.cell? ((⟨g, 0, none⟩ : Addr).add q) = some v := by
  intro q v hv
  obtain ⟨x, hx, rfl⟩ := flat_at hv
  rw [List.getElem?_take] at hx
  split at hx
  · rw [add_lit]
    exact cells_row h hx
  · cases hx
theorem row_drop {w : World} {b : Nat} {g n c : Nat} {L : List Int} (h : w.ownsRow b 2 1 (.slice (some ⟨g, 0, none⟩) n c) n (L.flatMap intS.C)) (j : Nat) : ∀ (q : Nat) (v : Value), ((L.drop j).flatMap intS.C)[q]? = some v → w.cell? ((⟨g, j, none⟩ : Addr).add q) = some v := by
  intro q v hv
  obtain ⟨x, hx, rfl⟩ := flat_at hv
  rw [List.getElem?_drop] at hx
  rw [add_at]
  exact cells_row h hx
theorem flat_app (L M : List Int) : (L ++ M).flatMap intS.C = L.flatMap intS.C ++ M.flatMap intS.C := List.flatMap_append
theorem row_ins {u : World} {b i j : Nat} {v : Value} {key : Int → Int} {xs : List Int} (hl : xs.length = i) (hin : insP key xs i = xs.take j ++ (i : Int) :: xs.drop j) (hj : j ≤ i)
    (h : u.ownsRow b 2 1 v (0 + j + 1 + (i - j)) ((([] : List Value) ++ (xs.take j).flatMap intS.C ++ [.int .i64 (i : Int)]) ++ (xs.drop j).flatMap intS.C)) :
    u.ownsRow b 2 1 v (i + 1) ((insP key xs i).flatMap intS.C) := by
  have e1 : 0 + j + 1 + (i - j) = i + 1 := by omega
  rw [e1] at h
  rw [hin, flat_app]
  rw [List.nil_append, List.append_assoc] at h
  exact h
theorem row_ins0 {u : World} {b i j : Nat} {v : Value} {key : Int → Int} {xs : List Int} (hl : xs.length = i) (hin : insP key xs i = xs.take j ++ (i : Int) :: xs.drop j) (hj : j ≤ i) (hij : i ≤ j)
    (h : u.ownsRow b 2 1 v (0 + j + 1 + 0) ((([] : List Value) ++ (xs.take j).flatMap intS.C ++ [.int .i64 (i : Int)]) ++ (xs.drop j).flatMap intS.C)) :
    u.ownsRow b 2 1 v (i + 1) ((insP key xs i).flatMap intS.C) := by
  refine row_ins hl hin hj ?_
  have e1 : i - j = 0 := by omega
  rw [e1]
  exact h
set_option maxRecDepth 100000 in
set_option maxHeartbeats 8000000 in
theorem l07Sorted_any (d : Int) (A : Option Addr) (n c : Nat) (ks : List Int) (en : n = ks.length) (hn : n ≤ 8) (w : World) (hg : Sl intS.C 1 w w.heap.size A ks) :
    Calls Tryd.prog 71 #[.slice A n c] w fun o w' => ∃ v, o = .returned v ∧ w'.ownsRow w.heap.size 2 1 v n ((srt (fun i => ks.getD i.toNat d) (idx n)).flatMap intS.C) ∧ Below w.heap.size w w' := by
  obtain ⟨i0, hI, hz0, hz1, hz2⟩ := info_parts intS.info
  have En := Lib.hid en
  obtain ⟨key, hkey⟩ : ∃ key : Int → Int, key = fun i => ks.getD i.toNat d := ⟨_, rfl⟩
  rw [← hkey]
  have HK := Lib.hid hkey
  have HP0 := Lib.hid (own_noI (u := w) (b := w.heap.size) (Nat.le_refl _))
  have HB0 := Lib.hid ((Below.refl w.heap.size w).alloc (Nat.le_refl _) (.cells #[] 2))
  clear en hkey
  go_enter Tryd.func71, Tryd.ntmps71
  go_wp2_with fail
  go_loopw [4, 3, 5, 6] (fun vi vo _ _ wr => ∃ (i g cp : Nat), i ≤ n ∧ vi = .int .i64 i ∧ vo = .slice (some ⟨g, 0, none⟩) i cp ∧ i ≤ cp ∧ cp ≤ maxLen ∧ wr.ownsRow w.heap.size 2 1 (.slice (some ⟨g, 0, none⟩) i cp) i ((srt key ((idx n).take i)).flatMap intS.C) ∧ Below w.heap.size w wr) (fun vi _ _ _ _ => n - (intOf vi).toNat)
  case atStart => exact ⟨0, _, 0, by omega, rfl, rfl, by omega, by unfold maxLen; omega, HP0.out, HB0.out⟩
  case round =>
    clear HP0 HB0
    obtain ⟨i, g, cp, hi, rfl, rfl, hcp, hcm, hP, hB⟩ := hrel
    have HPi := Lib.hid hP
    have HBi := Lib.hid hB
    have HCM := Lib.hid hcm
    obtain ⟨wo, rfl⟩ : ∃ wo, wo = wr := ⟨wr, rfl⟩
    clear hP hB hcm
    by_cases hlt : i < n
    · obtain ⟨ki, hki⟩ : ∃ z, ks[i]? = some z := ⟨ks[i]'(by have := En.out; omega), List.getElem?_eq_getElem _⟩
      have hkey : key (i : Int) = ki := by rw [HK.out]; simp only [Int.toNat_natCast]; rw [List.getD_eq_getElem?_getD, hki]; rfl
      have hidx : (idx n)[i]? = some (i : Int) := idx_at hlt
      obtain ⟨xs, hxs⟩ : ∃ xs, xs = srt key ((idx n).take i) := ⟨_, rfl⟩
      have hxl : xs.length = i := by rw [hxs, srt_len, List.length_take, idx_len]; omega
      have hsn : srt key ((idx n).take (i + 1)) = insP key xs i := by rw [srt_take hidx, hxs]
      have HXI : Hid (∀ z ∈ xs, 0 ≤ z ∧ z < n) := Lib.hid (fun z hz => idx_in z (List.mem_of_mem_take (srt_mem.1 (by rw [← hxs]; exact hz))))
      obtain ⟨a, rfl, hab, hat⟩ := hg.at_ i ki hki
      have HPX : Hid (wo.ownsRow w.heap.size 2 1 (.slice (some ⟨g, 0, none⟩) i cp) i (xs.flatMap intS.C)) := Lib.hid (by rw [hxs]; exact HPi.out)
      have HXL := Lib.hid hxl
      have HSN := Lib.hid hsn
      have HKI := Lib.hid hki
      have HKE := Lib.hid hkey
      clear hidx hxs hxl hsn hki hkey hat HPi
      go_wp2_with fail
      go_loopw [5] (fun vj wr => ∃ j : Nat, j ≤ i ∧ vj = .int .i64 j ∧ scanP key xs i j = scanP key xs i xs.length ∧ Below wo.heap.size wo wr) (fun vj _ => (intOf vj).toNat)
      case atStart => exact ⟨i, Nat.le_refl _, rfl, by rw [HXL.out], Below.refl _ _⟩
      case round =>
        obtain ⟨j, hj, rfl, hs, hB⟩ := hrel
        have HS := Lib.hid hs
        have HBj := Lib.hid hB
        have HBW := Lib.hid (HBi.out.trans (hB.mono HBi.out.size))
        have HPj := Lib.hid (owns_next HPX.out hB)
        clear hs hB
        have q0 : wr.cell? (a.add i) = some (.int .i64 ki) := intS.at_ ((((hg.below HBW.out).at_ i ki HKI.out)).elim fun a' h => by obtain rfl := Option.some.inj h.1; exact h.2.2)
        cases j with
        | zero =>
          have HIN : Hid (insP key xs i = xs.take 0 ++ (i : Int) :: xs.drop 0) := Lib.hid (by unfold insP; rw [← HS.out]; rfl)
          rw [show (((0 : Nat) : Int)) = 0 from rfl]
          go_wp2_with fail
          go_quiet (fail)
          have HIN2 : Hid (xs.take 0 = []) := Lib.hid rfl
          have HU := Lib.hid (owns_next HPj.out (below_drewN _ wr nq))
          have HBU := Lib.hid (HBW.out.trans ((below_drewN w.heap.size wr nq)))
          generalize wr.drewN nq = u at HU HBU ⊢
          clear HPj HBW q0
          have hgl := (HU.out.lt g rfl).2
          have HN0 := Lib.hid (own_noI (u := u) (b := u.heap.size) (Nat.le_refl _))
          have HB1 := Lib.hid ((Below.refl u.heap.size u).alloc (Nat.le_refl _) (.cells #[] 2))
          have HU1 := Lib.hid (owns_next HU.out ((Below.refl u.heap.size u).alloc (Nat.le_refl _) (.cells #[] 2)))
          have hcp2 : 0 ≤ cp := by omega
          have HFD : Hid (((xs.drop 0).flatMap intS.C).length = (i) * 1) := Lib.hid (by rw [flat_len1, List.length_drop]; have := HXL.out; omega)
          have HFL : Hid (((xs.take 0).flatMap intS.C).length = (0) * 1) := Lib.hid (by rw [flat_len1, List.length_take]; have := HXL.out; omega)
          go_wp2_with (first
            | (at_builtin; (refine wpList_append_own _ rfl (.tmp 35) (.tmp 38) 31 rfl u.heap.size 2 i0 (.int .i64 0) 1 8 Tryd.underlying31 hI hz0 hz1 hz2 rfl (by decide) _ 0 [] rfl HN0.out ⟨g, 0, none⟩ (0) (cp) ((xs.take 0).flatMap intS.C) rfl HFL.out (row_take HU1.out _) (i64cells _) (by unfold maxLen; omega) (by omega) (by simp) ?_); intro v3 w5 hP5 hgr _; have HU5 := Lib.hid (HU1.out.kept hgr (.inr (fun e => by have e2 : g = u.heap.size := Option.some.inj e; omega))); have HB5 := Lib.hid (Below.grown HB1.out hgr (by simp) (fun k hk => by obtain rfl := Option.some.inj hk; exact Nat.le_refl _)); have HP5 := Lib.hid hP5; clear hP5 hgr)
            | (at_builtin; (refine wpList_append_own _ rfl (.tmp 39) (.tmp 41) 31 rfl u.heap.size 2 i0 (.int .i64 0) 1 8 Tryd.underlying31 hI hz0 hz1 hz2 rfl (by decide) _ _ _ rfl (HP5.out.alloc _) ⟨_, 0, none⟩ 1 1 [.int .i64 (i : Int)] rfl rfl (one_newB _ _ _ _ (by simp)) (one_cellI (by rfl)) (by unfold maxLen; omega) (by omega) (by have := HB5.out.size; simp; omega) ?_); intro v6 w6 hP6 hgr _; have HB6 := Lib.hid (Below.grown (HB5.out.alloc HB5.out.size _) hgr (by have := HB5.out.size; simp; omega) (fun k hk => (HP5.out.lt k hk).1)); have HU6 := Lib.hid ((HU5.out.alloc (.cells #[.int .i64 (i : Int)] 2)).kept hgr (.inr (fun e => by have := (HP5.out.lt g e.symm).1; omega))); have HP6 := Lib.hid hP6; clear hP6 hgr)
            | (at_builtin; refine wpList_append_own _ rfl (.tmp 43) (.tmp 46) 31 rfl u.heap.size 2 i0 (.int .i64 0) 1 8 Tryd.underlying31 hI hz0 hz1 hz2 rfl (by decide) _ _ _ rfl HP6.out ⟨g, 0, none⟩ (i) (cp) ((xs.drop 0).flatMap intS.C) rfl HFD.out (row_drop HU6.out _) (i64cells _) (by unfold maxLen; omega) (by omega) (by have := HB6.out.size; omega) ?_; intro v7 w7 hP7 hgr _; have HB7 := Lib.hid (Below.grown HB6.out hgr (by have := HB6.out.size; omega) (fun k hk => (HP6.out.lt k hk).1)); have HP7 := Lib.hid (row_ins HXL.out HIN.out hj hP7); clear hP7 hgr; obtain ⟨g7, c7, rfl, hg7, hc7, hc8⟩ := owns_some HP7.out (by omega))
            | fail)
          have HC8 := Lib.hid hc8
          clear hc8
          go_roundw
          case rel =>
            have := HBU.out.size
            exact ⟨i + 1, g7, c7, by omega, by go_num, by first | rfl | go_num, hc7, HC8.out, by rw [HSN.out]; exact owns_below HP7.out this, HBU.out.trans (HB7.out.mono this)⟩
          case measure => simp [intOf]; omega
        | succ q =>
          have hql : q < xs.length := by have := HXL.out; omega
          have hgq : xs[q]? = some (xs.getD q 0) := by rw [List.getD_eq_getElem?_getD, List.getElem?_eq_getElem hql]; rfl
          obtain ⟨b, hbq⟩ := Int.eq_ofNat_of_zero_le (HXI.out _ (List.mem_of_getElem? hgq)).1
          have hb : b < n := by have := (HXI.out _ (List.mem_of_getElem? hgq)).2; omega
          obtain ⟨kb, hkb⟩ : ∃ z, ks[b]? = some z := ⟨ks[b]'(by have := En.out; omega), List.getElem?_eq_getElem _⟩
          have hkeyb : key (b : Int) = kb := by rw [HK.out]; simp only [Int.toNat_natCast]; rw [List.getD_eq_getElem?_getD, hkb]; rfl
          have hsc : scanP key xs i (q + 1) = if ki < kb then scanP key xs i q else q + 1 := by rw [scanP, hbq, HKE.out, hkeyb]
          rw [hbq] at hgq
          have q1 := cells_row HPj.out hgq
          have q2 : wr.cell? (a.add b) = some (.int .i64 kb) := intS.at_ ((((hg.below HBW.out).at_ b kb hkb)).elim fun a' h => by obtain rfl := Option.some.inj h.1; exact h.2.2)
          have HSC := Lib.hid hsc
          have x1 : ((q : Int) + 1).toNat = q + 1 := by omega
          have x4 : IntKind.i64.wrap (q : Int) = (q : Int) := IntWalk.i64_in _ (by omega)
          have x5 : (0 : Int) ≤ (q : Int) := by omega
          have x6 : (q : Int) < (i : Int) := by omega
          have x7 : decide ((0 : Int) < (q : Int) + 1) = true := decide_eq_true (by omega)
          have y1 : (0 : Int) ≤ (i : Int) := by omega
          have y2 : (i : Int) < (n : Int) := by omega
          have y3 : (0 : Int) ≤ (b : Int) := by omega
          have y4 : (b : Int) < (n : Int) := by omega
          have x8 : (((q + 1 : Nat) : Int)) = (q : Int) + 1 := by omega
          rw [x8]
          clear x8 hql hgq hbq hkb hkeyb hsc
          by_cases hlk : ki < kb
          · have d1 : decide (ki < kb) = true := decide_eq_true hlk
            have HS2 : Hid (scanP key xs i q = scanP key xs i xs.length) := Lib.hid (by rw [← HS.out, HSC.out, if_pos hlk])
            clear hlk HS HSC
            go_wp2_with fail
            go_quiet (fail)
            clear x1 x4 x5 x6 x7 y1 y2 y3 y4 d1
            go_wp2_with fail
            go_roundw
            case rel => exact ⟨q, by omega, by first | rfl | go_num, HS2.out, HBj.out.trans (below_drewN _ _ _)⟩
            case measure => first | (simp [intOf]; done) | (simp [intOf]; omega)
          · have d1 : decide (ki < kb) = false := decide_eq_false hlk
            have HIN : Hid (insP key xs i = xs.take (q + 1) ++ (i : Int) :: xs.drop (q + 1)) := Lib.hid (by unfold insP; rw [← HS.out, HSC.out, if_neg hlk])
            clear hlk HS HSC
            go_wp2_with fail
            go_quiet (fail)
            clear x1 x4 x5 x6 x7 y1 y2 y3 y4 d1 q1 q2
            by_cases hqc : q + 1 = cp
            · subst hqc
              have HXD : Hid (xs.drop (q + 1) = []) := Lib.hid (List.drop_of_length_le (by have := HXL.out; omega))
              have z1 : (q : Int) + 1 ≤ (i : Int) := by omega
              have z2 : (i : Int) ≤ (q : Int) + 1 := by omega
              have HU := Lib.hid (owns_next HPj.out (below_drewN _ wr nq))
              have HBU := Lib.hid (HBW.out.trans ((below_drewN w.heap.size wr nq)))
              generalize wr.drewN nq = u at HU HBU ⊢
              clear HPj HBW q0
              have hgl := (HU.out.lt g rfl).2
              have HN0 := Lib.hid (own_noI (u := u) (b := u.heap.size) (Nat.le_refl _))
              have HB1 := Lib.hid ((Below.refl u.heap.size u).alloc (Nat.le_refl _) (.cells #[] 2))
              have HU1 := Lib.hid (owns_next HU.out ((Below.refl u.heap.size u).alloc (Nat.le_refl _) (.cells #[] 2)))
              have hcp2 : q + 1 ≤ q + 1 := by omega
              have HFD : Hid (((xs.drop (q + 1)).flatMap intS.C).length = (0) * 1) := Lib.hid (by rw [flat_len1, List.length_drop]; have := HXL.out; omega)
              have HFL : Hid (((xs.take (q + 1)).flatMap intS.C).length = (q + 1) * 1) := Lib.hid (by rw [flat_len1, List.length_take]; have := HXL.out; omega)
              go_wp2_with (first
                | (at_builtin; (refine wpList_append_own _ rfl (.tmp 35) (.tmp 38) 31 rfl u.heap.size 2 i0 (.int .i64 0) 1 8 Tryd.underlying31 hI hz0 hz1 hz2 rfl (by decide) _ 0 [] rfl HN0.out ⟨g, 0, none⟩ (q + 1) (q + 1) ((xs.take (q + 1)).flatMap intS.C) rfl HFL.out (row_take HU1.out _) (i64cells _) (by unfold maxLen; omega) (by omega) (by simp) ?_); intro v3 w5 hP5 hgr _; have HU5 := Lib.hid (HU1.out.kept hgr (.inr (fun e => by have e2 : g = u.heap.size := Option.some.inj e; omega))); have HB5 := Lib.hid (Below.grown HB1.out hgr (by simp) (fun k hk => by obtain rfl := Option.some.inj hk; exact Nat.le_refl _)); have HP5 := Lib.hid hP5; clear hP5 hgr)
                | (at_builtin; (refine wpList_append_own _ rfl (.tmp 39) (.tmp 41) 31 rfl u.heap.size 2 i0 (.int .i64 0) 1 8 Tryd.underlying31 hI hz0 hz1 hz2 rfl (by decide) _ _ _ rfl (HP5.out.alloc _) ⟨_, 0, none⟩ 1 1 [.int .i64 (i : Int)] rfl rfl (one_newB _ _ _ _ (by simp)) (one_cellI (by rfl)) (by unfold maxLen; omega) (by omega) (by have := HB5.out.size; simp; omega) ?_); intro v6 w6 hP6 hgr _; have HB6 := Lib.hid (Below.grown (HB5.out.alloc HB5.out.size _) hgr (by have := HB5.out.size; simp; omega) (fun k hk => (HP5.out.lt k hk).1)); have HU6 := Lib.hid ((HU5.out.alloc (.cells #[.int .i64 (i : Int)] 2)).kept hgr (.inr (fun e => by have := (HP5.out.lt g e.symm).1; omega))); have HP6 := Lib.hid hP6; clear hP6 hgr)
                | (at_builtin; refine wpList_append_own _ rfl (.tmp 43) (.tmp 46) 31 rfl u.heap.size 2 i0 (.int .i64 0) 1 8 Tryd.underlying31 hI hz0 hz1 hz2 rfl (by decide) _ _ _ rfl HP6.out ⟨g, 0, none⟩ (0) (0) ((xs.drop (q + 1)).flatMap intS.C) rfl HFD.out (fun z v hz => by rw [HXD.out] at hz; cases hz) (i64cells _) (by unfold maxLen; omega) (by omega) (by have := HB6.out.size; omega) ?_; intro v7 w7 hP7 hgr _; have HB7 := Lib.hid (Below.grown HB6.out hgr (by have := HB6.out.size; omega) (fun k hk => (HP6.out.lt k hk).1)); have HP7 := Lib.hid (row_ins0 HXL.out HIN.out hj hcp hP7); clear hP7 hgr; obtain ⟨g7, c7, rfl, hg7, hc7, hc8⟩ := owns_some HP7.out (by omega))
                | fail)
              have HC8 := Lib.hid hc8
              clear hc8
              go_roundw
              case rel =>
                have := HBU.out.size
                exact ⟨i + 1, g7, c7, by omega, by go_num, by first | rfl | go_num, hc7, HC8.out, by rw [HSN.out]; exact owns_below HP7.out this, HBU.out.trans (HB7.out.mono this)⟩
              case measure => simp [intOf]; omega
            · have z0 : q + 1 < cp := by omega
              clear hqc
              have z1 : (q : Int) + 1 ≤ (i : Int) := by omega
              have z2 : (q : Int) + 1 ≤ (cp : Int) := by omega
              have z3 : ¬ (cp - (q + 1) = 0) := by omega
              have HU := Lib.hid (owns_next HPj.out (below_drewN _ wr nq))
              have HBU := Lib.hid (HBW.out.trans ((below_drewN w.heap.size wr nq)))
              generalize wr.drewN nq = u at HU HBU ⊢
              clear HPj HBW q0
              have hgl := (HU.out.lt g rfl).2
              have HN0 := Lib.hid (own_noI (u := u) (b := u.heap.size) (Nat.le_refl _))
              have HB1 := Lib.hid ((Below.refl u.heap.size u).alloc (Nat.le_refl _) (.cells #[] 2))
              have HU1 := Lib.hid (owns_next HU.out ((Below.refl u.heap.size u).alloc (Nat.le_refl _) (.cells #[] 2)))
              have hcp2 : q + 1 ≤ cp := by omega
              have HFD : Hid (((xs.drop (q + 1)).flatMap intS.C).length = (i - (q + 1)) * 1) := Lib.hid (by rw [flat_len1, List.length_drop]; have := HXL.out; omega)
              have HFL : Hid (((xs.take (q + 1)).flatMap intS.C).length = (q + 1) * 1) := Lib.hid (by rw [flat_len1, List.length_take]; have := HXL.out; omega)
              go_wp2_with (first
                | (at_builtin; (refine wpList_append_own _ rfl (.tmp 35) (.tmp 38) 31 rfl u.heap.size 2 i0 (.int .i64 0) 1 8 Tryd.underlying31 hI hz0 hz1 hz2 rfl (by decide) _ 0 [] rfl HN0.out ⟨g, 0, none⟩ (q + 1) (cp) ((xs.take (q + 1)).flatMap intS.C) rfl HFL.out (row_take HU1.out _) (i64cells _) (by unfold maxLen; omega) (by omega) (by simp) ?_); intro v3 w5 hP5 hgr _; have HU5 := Lib.hid (HU1.out.kept hgr (.inr (fun e => by have e2 : g = u.heap.size := Option.some.inj e; omega))); have HB5 := Lib.hid (Below.grown HB1.out hgr (by simp) (fun k hk => by obtain rfl := Option.some.inj hk; exact Nat.le_refl _)); have HP5 := Lib.hid hP5; clear hP5 hgr)
                | (at_builtin; (refine wpList_append_own _ rfl (.tmp 39) (.tmp 41) 31 rfl u.heap.size 2 i0 (.int .i64 0) 1 8 Tryd.underlying31 hI hz0 hz1 hz2 rfl (by decide) _ _ _ rfl (HP5.out.alloc _) ⟨_, 0, none⟩ 1 1 [.int .i64 (i : Int)] rfl rfl (one_newB _ _ _ _ (by simp)) (one_cellI (by rfl)) (by unfold maxLen; omega) (by omega) (by have := HB5.out.size; simp; omega) ?_); intro v6 w6 hP6 hgr _; have HB6 := Lib.hid (Below.grown (HB5.out.alloc HB5.out.size _) hgr (by have := HB5.out.size; simp; omega) (fun k hk => (HP5.out.lt k hk).1)); have HU6 := Lib.hid ((HU5.out.alloc (.cells #[.int .i64 (i : Int)] 2)).kept hgr (.inr (fun e => by have := (HP5.out.lt g e.symm).1; omega))); have HP6 := Lib.hid hP6; clear hP6 hgr)
                | (at_builtin; refine wpList_append_own _ rfl (.tmp 43) (.tmp 46) 31 rfl u.heap.size 2 i0 (.int .i64 0) 1 8 Tryd.underlying31 hI hz0 hz1 hz2 rfl (by decide) _ _ _ rfl HP6.out ⟨g, q + 1, none⟩ (i - (q + 1)) (cp - (q + 1)) ((xs.drop (q + 1)).flatMap intS.C) rfl HFD.out (row_drop HU6.out _) (i64cells _) (by unfold maxLen; omega) (by omega) (by have := HB6.out.size; omega) ?_; intro v7 w7 hP7 hgr _; have HB7 := Lib.hid (Below.grown HB6.out hgr (by have := HB6.out.size; omega) (fun k hk => (HP6.out.lt k hk).1)); have HP7 := Lib.hid (row_ins HXL.out HIN.out hj hP7); clear hP7 hgr; obtain ⟨g7, c7, rfl, hg7, hc7, hc8⟩ := owns_some HP7.out (by omega))
                | fail)
              have HC8 := Lib.hid hc8
              clear hc8
              go_roundw
              case rel =>
                have := HBU.out.size
                exact ⟨i + 1, g7, c7, by omega, by go_num, by first | rfl | go_num, hc7, HC8.out, by rw [HSN.out]; exact owns_below HP7.out this, HBU.out.trans (HB7.out.mono this)⟩
              case measure => simp [intOf]; omega
    · obtain rfl : i = n := by omega
      go_wp2_with fail
      go_ret
      refine ⟨_, rfl, ?_, HBi.out⟩
      have h := HPi.out
      rw [List.take_of_length_le (by rw [idx_len]; exact Nat.le_refl _)] at h
      exact h
end Go.Proofs.YtajhdgoinghmmaaDoor.iron
