/-
  FoldsPossible, the program's and the model's.
-/
import Derived.Test.YtcbbabepjfiigaaDoorJoin13
import Derived.Test.YtcbbabepjfiigaaDoorJoin11
import Derived.Deep.Onto
import Derived.Laws.AppendOwn
namespace Go.Proofs.YtcbbabepjfiigaaDoor.fold
open Go Go.RowKit sl errs hang

theorem Box.grow {b : Nat} {cs : List Value} {W u v : World} {row : Option Nat} (h : Box b cs W u) (hW : W.heap.size ≤ b) (hg : u.grownBy v row) (hr : ∀ k, row = some k → b + 1 ≤ k) : Box b cs W v := by
  have hb : Below (b + 1) u v := (Below.refl _ _).grown hg (by have := h.2.1; omega) hr
  exact ⟨fun i x hx => (hb.cell (p := ⟨b, i, none⟩) (Nat.lt_succ_self b)).trans (h.1 i x hx), Nat.lt_of_lt_of_le h.2.1 hb.size, h.2.2.trans (hb.mono (by omega))⟩
theorem one_newI (w : World) (v : Value) (T : TypeId) : ∀ (j : Nat) u, [v][j]? = some u → (w.alloc (.cells #[v] T)).cell? ((⟨w.heap.size, 0, none⟩ : Addr).add j) = some u := by
  intro j x hj
  rw [add_lit, cell_of_row _ _ _ _ _ _ (heap_alloc_new w _)]
  simpa using hj
theorem one_newB (w : World) (g : Nat) (v : Value) (T : TypeId) (hg : g = w.heap.size) : ∀ (j : Nat) u, [v][j]? = some u → (w.alloc (.cells #[v] T)).cell? ((⟨g, 0, none⟩ : Addr).add j) = some u := by
  subst hg
  exact one_newI w v T
theorem one_cellI {v : Value} (h : v.oneCell' = true) : ∀ u ∈ [v], u.oneCell' = true := by
  intro u hu
  rw [List.mem_singleton.1 hu]
  exact h
/-- the folds below a number that can be made -/
def poss (x : She) : Nat → List Int
  | 0 => []
  | n + 1 => if (foldR n x).2 = 0 then poss x n ++ [(n : Int)] else poss x n
theorem poss_len (x : She) : ∀ n, (poss x n).length ≤ n
  | 0 => Nat.le_refl _
  | n + 1 => by
    have := poss_len x n
    rw [poss]
    split <;> simp <;> omega
def possR (x : She) : List Int := if She.valid x = true then poss x 4 else []
theorem possR_len (x : She) : (possR x).length ≤ 1048576 := by
  unfold possR
  split
  · have := poss_len x 4; omega
  · simp
theorem poss_yes {x : She} {n : Nat} (h : (foldR n x).2 = 0) : poss x (n + 1) = poss x n ++ [(n : Int)] := by rw [poss, if_pos h]
theorem poss_no {x : She} {n : Nat} (h : (foldR n x).2 ≠ 0) : poss x (n + 1) = poss x n := by rw [poss, if_neg h]
theorem flat_snoc (xs : List Int) (n : Int) : (xs ++ [n]).flatMap intS.C = xs.flatMap intS.C ++ [.int .i64 n] := by simp [intS.C]
set_option maxRecDepth 100000 in
set_option maxHeartbeats 8000000 in
theorem FoldsPossible_spec (x : She) (hx : x.Fits) (w : World) :
    Calls Tryd.prog 22 #[x.v] w (Own2 w (possR x) (codeS x)) := by
  have S0 := Lib.hid (Box.new x.cells (Below.refl w.heap.size w) #[.int .i16 x.wide, .int .i16 x.high, .int .i16 x.lay] rfl 25)
  obtain ⟨i0, hi, hz0, hz1, hz2⟩ := info_parts intS.info
  cases hv : She.valid x with
  | false =>
    have e0 : possR x = [] := by rw [possR, hv]; rfl
    have e1 : codeS x = 1 := by rw [codeS, hv]; rfl
    rw [e0, e1]
    go_enter Tryd.func22, Tryd.ntmps22
    go_wp2_with fail
    refine (l04Ok_any x hx _).mono ?_
    rintro o w1 ⟨rfl, hb⟩
    rw [hv]
    have S1 := Lib.hid ((S0.out.next hb).alloc (.cells #[] 2))
    have hP := owns_void w1 (b := w.heap.size) (S0.out.next hb).2.2.size
    clear hb S0
    go_wp2_with fail
    go_ret2
    exact ⟨_, rfl, hP, S1.out.2.2⟩
  | true =>
    have e0 : possR x = poss x 4 := by rw [possR, hv]; rfl
    have e1 : codeS x = 0 := by rw [codeS, hv]; rfl
    rw [e0, e1]
    have HG := Lib.hid ((valid_iff x).1 hv)
    go_enter Tryd.func22, Tryd.ntmps22
    go_wp2_with fail
    refine (l04Ok_any x hx _).mono ?_
    rintro o w1 ⟨rfl, hb⟩
    rw [hv]
    have S1 := Lib.hid ((S0.out.next hb).alloc (.cells #[] 2))
    have HP1 := Lib.hid (owns_void w1 (b := w.heap.size + 1) (by have := (S0.out.next hb).2.1; omega))
    clear hb S0 hv
    go_wp2_with fail
    go_loopw [4, 5, 6, 7] (fun vo vi _ _ wr => ∃ k : Nat, k ≤ 4 ∧ vi = .int .i64 k ∧ wr.ownsRow (w.heap.size + 1) 2 1 vo (poss x k).length ((poss x k).flatMap intS.C) ∧ Box w.heap.size x.cells w wr) (fun _ vi _ _ _ => 4 - (intOf vi).toNat)
    case atStart => exact ⟨0, by omega, rfl, HP1.out, S1.out⟩
    case round =>
      clear S1 HP1
      obtain ⟨k, hk, rfl, hP, hS⟩ := hrel
      have HP := Lib.hid hP
      have HS := Lib.hid hS
      clear hP hS
      have s0 := (HS.out).1 0 _ rfl
      have s1 := (HS.out).1 1 _ rfl
      have s2 := (HS.out).1 2 _ rfl
      by_cases hlt : k < 4
      · have hm := l04Made_any x HG.out k
        rw [chgR_ok ((valid_iff x).2 HG.out) (by omega)] at hm
        obtain ⟨z, hz⟩ : ∃ z, foldR k x = z := ⟨_, rfl⟩
        rw [hz] at hm
        have HZ := Lib.hid hz
        obtain ⟨⟨zp, zq, zl⟩, zc⟩ := z
        have HM := Lib.hid hm
        have hlen := poss_len x k
        clear hm hz
        go_wp2_with fail
        refine (HM.out _).mono ?_
        rintro o w4 ⟨rfl, hb⟩
        have S4 := Lib.hid ((HS.out.next hb).alloc (.cells #[.int .i16 zp, .int .i16 zq, .int .i16 zl] 25))
        have P4 := Lib.hid (owns_next (owns_next HP.out hb) ((Below.refl _ _).alloc (Nat.le_refl _) (.cells #[.int .i16 zp, .int .i16 zq, .int .i16 zl] 25)))
        clear hb HS HP s0 s1 s2
        cases zc with
        | zero =>
          have HY := Lib.hid (poss_yes (x := x) (n := k) (by rw [HZ.out]))
          go_wp2_with (first | (at_builtin; refine wpList_append_own _ rfl (.tmp 25) (.tmp 27) 31 rfl (w.heap.size + 1) 2 i0 (.int .i64 0) 1 8 Tryd.underlying31 hi hz0 hz1 hz2 rfl (by decide) _ _ _ rfl (P4.out.alloc _) ⟨_, 0, none⟩ 1 1 [.int .i64 (k : Int)] rfl rfl (one_newB _ _ _ _ (by simp)) (one_cellI (by rfl)) (by unfold maxLen; omega) (by omega) (by have := S4.out.2.1; simp at this ⊢; omega) ?_; intro v3 w5 hP5 hgr _; have S5 := Lib.hid ((S4.out.alloc _).grow (Nat.le_refl _) hgr (fun g hg => (P4.out.lt g hg).1)); have HP5 := Lib.hid hP5; clear hP5 hgr) | fail)
          go_roundw
          case rel =>
            refine ⟨k + 1, by omega, by go_num, ?_, S5.out⟩
            have h5 := HP5.out
            rw [← flat_snoc, ← HY.out] at h5
            have e : (poss x k).length + 1 = (poss x (k + 1)).length := by rw [HY.out]; simp
            rwa [e] at h5
          case measure => simp [intOf]; omega
        | succ i =>
          have HY := Lib.hid (poss_no (x := x) (n := k) (by rw [HZ.out]; simp))
          have hne : (((i + 1 : Nat) : Int) == 0) = false := by rw [beq_eq_false_iff_ne]; omega
          go_wp2_with fail
          go_roundw
          case rel =>
            refine ⟨k + 1, by omega, by go_num, ?_, S4.out⟩
            rw [HY.out]
            exact P4.out
          case measure => simp [intOf]; omega
      · obtain rfl : k = 4 := by omega
        go_wp2_with fail
        go_ret2
        exact ⟨_, rfl, HP.out.mono (Nat.le_succ _), HS.out.2.2⟩
set_option maxRecDepth 100000 in
set_option maxHeartbeats 8000000 in
theorem FoldsPossible_any (x : She) (hx : x.Fits) {w : World} {B : Nat} {e : Nat → Addr} (h : Errs w B e) (hB : B ≤ w.heap.size) :
    Calls Tryd.prog 23 #[x.v] w (Own2 w (possR x) (codeS x)) := by
  have S0 := Lib.hid (Box.new x.cells (Below.refl w.heap.size w) #[.int .i16 x.wide, .int .i16 x.high, .int .i16 x.lay] rfl 25)
  obtain ⟨i0, hi, hz0, hz1, hz2⟩ := info_parts intS.info
  have hcm := fun (k : Int) (u : World) (hb : Below w.heap.size w u) => changed_made x hx k (h.below (hb.mono hB)) (Nat.le_trans hB hb.size)
  have HCM := Lib.hid hcm
  have HE := Lib.hid h
  clear h hcm
  cases hv : She.valid x with
  | false =>
    have e0 : possR x = [] := by rw [possR, hv]; rfl
    have e1 : codeS x = 1 := by rw [codeS, hv]; rfl
    rw [e0, e1]
    have HV := Lib.hid hv
    clear hv HCM e0 e1
    go_enter Tryd.func23, Tryd.ntmps23
    go_wp2_with fail
    refine (check1_any x hx _ (w.heap.size + 1) (by simp) (HE.out.below (S0.out.2.2.mono hB)) (Nat.le_trans hB S0.out.2.2.size) 1 (by rw [HV.out]; rfl)).mono ?_
    rintro o w1 ⟨rfl, hb⟩
    have S1 := Lib.hid (S0.out.next hb)
    clear hb S0
    have e2 : errOf e 1 = errV (e 0) := rfl
    rw [e2]
    clear e2
    go_wp2_with fail
    refine (codeOf_any (HE.out.below (S1.out.2.2.mono hB)) 1 (by omega)).mono ?_
    rintro o u ⟨rfl, rfl⟩
    go_wp2_with fail
    go_ret2
    exact ⟨_, rfl, owns_none _ _, S1.out.2.2⟩
  | true =>
    have e0 : possR x = poss x 4 := by rw [possR, hv]; rfl
    have e1 : codeS x = 0 := by rw [codeS, hv]; rfl
    rw [e0, e1]
    have HG := Lib.hid ((valid_iff x).1 hv)
    have HV := Lib.hid hv
    clear hv e0 e1
    go_enter Tryd.func23, Tryd.ntmps23
    go_wp2_with fail
    refine (check1_any x hx _ (w.heap.size + 1) (by simp) (HE.out.below (S0.out.2.2.mono hB)) (Nat.le_trans hB S0.out.2.2.size) 0 (by rw [HV.out]; rfl)).mono ?_
    rintro o w1 ⟨rfl, hb⟩
    have S1 := Lib.hid (S0.out.next hb)
    clear hb S0
    have e2 : errOf e 0 = .nilIface := rfl
    rw [e2]
    clear e2
    go_wp2_with fail
    go_loopw [5, 6, 7, 8] (fun vo vi _ _ wr => ∃ k : Nat, k ≤ 4 ∧ vi = .int .i64 k ∧ wr.ownsRow (w.heap.size + 1) 2 1 vo (poss x k).length ((poss x k).flatMap intS.C) ∧ Box w.heap.size x.cells w wr) (fun _ vi _ _ _ => 4 - (intOf vi).toNat)
    case atStart => exact ⟨0, by omega, rfl, owns_none _ _, S1.out⟩
    case round =>
      clear S1
      obtain ⟨k, hk, rfl, hP, hS⟩ := hrel
      have HP := Lib.hid hP
      have HS := Lib.hid hS
      clear hP hS
      have s0 := (HS.out).1 0 _ rfl
      have s1 := (HS.out).1 1 _ rfl
      have s2 := (HS.out).1 2 _ rfl
      by_cases hlt : k < 4
      · have hm := HCM.out k _ HS.out.2.2
        rw [chgR_ok HV.out (by omega)] at hm
        obtain ⟨z, hz⟩ : ∃ z, foldR k x = z := ⟨_, rfl⟩
        rw [hz] at hm
        have HZ := Lib.hid hz
        obtain ⟨⟨zp, zq, zl⟩, zc⟩ := z
        have HM := Lib.hid hm
        have hlen := poss_len x k
        have hk3 : (k : Int) ≤ 3 := by omega
        clear hm hz
        go_wp2_with fail
        refine HM.out.mono ?_
        rintro o w4 ⟨rfl, hb⟩
        have S4 := Lib.hid ((HS.out.next hb).alloc (.cells #[.int .i16 zp, .int .i16 zq, .int .i16 zl] 25))
        have P4 := Lib.hid (owns_next (owns_next HP.out hb) ((Below.refl _ _).alloc (Nat.le_refl _) (.cells #[.int .i16 zp, .int .i16 zq, .int .i16 zl] 25)))
        clear hb HS HP HM s0 s1 s2
        cases zc with
        | zero =>
          have HY := Lib.hid (poss_yes (x := x) (n := k) (by rw [HZ.out]))
          have e2 : errOf e 0 = .nilIface := rfl
          rw [e2]
          clear e2
          go_wp2_with (first | (at_builtin; refine wpList_append_own _ rfl (.tmp 28) (.tmp 30) 31 rfl (w.heap.size + 1) 2 i0 (.int .i64 0) 1 8 Tryd.underlying31 hi hz0 hz1 hz2 rfl (by decide) _ _ _ rfl (P4.out.alloc _) ⟨_, 0, none⟩ 1 1 [.int .i64 (k : Int)] rfl rfl (one_newB _ _ _ _ (by simp)) (one_cellI (by rfl)) (by unfold maxLen; omega) (by omega) (by have := S4.out.2.1; simp at this ⊢; omega) ?_; intro v3 w5 hP5 hgr _; have S5 := Lib.hid ((S4.out.alloc _).grow (Nat.le_refl _) hgr (fun g hg => (P4.out.lt g hg).1)); have HP5 := Lib.hid hP5; clear hP5 hgr) | fail)
          go_roundw
          case rel =>
            refine ⟨k + 1, by omega, by go_num, ?_, S5.out⟩
            have h5 := HP5.out
            rw [← flat_snoc, ← HY.out] at h5
            have e : (poss x k).length + 1 = (poss x (k + 1)).length := by rw [HY.out]; simp
            rwa [e] at h5
          case measure => simp [intOf]; omega
        | succ i =>
          have HY := Lib.hid (poss_no (x := x) (n := k) (by rw [HZ.out]; simp))
          have e2 : errOf e (i + 1) = errV (e i) := rfl
          rw [e2]
          clear e2
          go_wp2_with fail
          go_roundw
          case rel =>
            refine ⟨k + 1, by omega, by go_num, ?_, S4.out⟩
            rw [HY.out]
            exact P4.out
          case measure => simp [intOf]; omega
      · obtain rfl : k = 4 := by omega
        go_wp2_with fail
        go_ret2
        exact ⟨_, rfl, HP.out.mono (Nat.le_succ _), HS.out.2.2⟩
end Go.Proofs.YtcbbabepjfiigaaDoor.fold
