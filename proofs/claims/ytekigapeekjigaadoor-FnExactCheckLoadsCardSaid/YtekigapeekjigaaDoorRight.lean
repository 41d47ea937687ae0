/-
  Are loads right: contracts of the model's functions.
-/
import Derived.Test.YtekigapeekjigaaDoorWith
import Derived.Test.YtekigapeekjigaaDoorLoadI
namespace Go.Proofs.YtekigapeekjigaaDoor.mem
open Go Go.RowKit errs garS heats meet load sl

noncomputable def rightV (r : Nat → Int) (gs : List Gar) (hold : Int) (ls : List Int) (code : Nat) : Bool := if code = 0 then @decide (Right r gs hold ls) (Classical.propDecidable _) else false
theorem rightV_no {r : Nat → Int} {gs : List Gar} {hold : Int} {ls : List Int} {code : Nat} (h : code ≠ 0) : rightV r gs hold ls code = false := by rw [rightV, if_neg h]
theorem rightV_yes {r : Nat → Int} {gs : List Gar} {hold : Int} {ls : List Int} {code : Nat} (h : code = 0) : rightV r gs hold ls code = true ↔ Right r gs hold ls := by rw [rightV, if_pos h]; exact @decide_eq_true_iff _ (Classical.propDecidable _)
theorem ask_rules {r : Nat → Int} {gs : List Gar} {fine : Bool} (h : 0 = codeAsk r gs fine) : validR r := by
  apply Classical.byContradiction
  intro hv
  rw [codeAsk, if_neg (by rw [validRB_false hv]; decide)] at h
  omega
theorem ask_len8 {r : Nat → Int} {gs : List Gar} {fine : Bool} (h : 0 = codeAsk r gs fine) : gs.length ≤ 8 := by
  unfold codeAsk at h
  split at h
  · unfold codeAll at h
    split at h
    · split at h
      · split at h
        · omega
        · omega
      · omega
    · omega
  · omega
theorem ask_fine {r : Nat → Int} {gs : List Gar} {fine : Bool} (h : 0 = codeAsk r gs fine) : fine = true := by
  unfold codeAsk at h
  split at h
  · unfold codeAll at h
    split at h
    · split at h
      · assumption
      · omega
    · omega
  · omega
/-- what checked rules and garments are good for -/
structure Fine (r : Nat → Int) (gs : List Gar) : Prop where
  len : gs.length ≤ 8
  meets : ∀ x y, x ∈ gs → y ∈ gs → meetB r x y = meetB r y x
  self : ∀ x ∈ gs, meetB r x x = true
theorem ask_good {r : Nat → Int} {gs : List Gar} {fine : Bool} (h : 0 = codeAsk r gs fine) (hf : ∀ x ∈ gs, x.Fits) : Fine r gs := by
  have hv := ask_valid h
  have hr := ask_rules h
  have hc : ∀ x ∈ gs, x.c.toNat < 6 := fun x hx => by
    have := (valid_parts (hv x hx)).1
    have := (hf x hx).c0
    omega
  refine ⟨ask_len8 h, fun x y hx hy => meet_symm (fun a b ha hb => (hr a ha).2.2 b hb) (hc x hx) (hc y hy), fun x hx => ?_⟩
  obtain ⟨_, _, h1, _, _, _⟩ := valid_parts (hv x hx)
  unfold meetB
  rw [show bitZ (r x.c.toNat) x.c.toNat = true from (hr _ (hc x hx)).2.1]
  simp [h1]
theorem right_len {r : Nat → Int} {gs : List Gar} {hold : Int} {ls : List Int} (h : Right r gs hold ls) : ls.length = gs.length := h.1

/-- the garments with a number, as they are handed on -/
def WithS (w : World) (ys : List Gar) (o : Ending) (w' : World) : Prop :=
  ∃ A c, o = .returned (.slice A ys.length c) ∧ GS w' w'.heap.size A ys ∧ Below w.heap.size w w'
theorem l01With_s (A : Option Addr) (n c : Nat) (gs : List Gar) (hn : n = gs.length) (hs : n ≤ 1048576) (A' : Option Addr) (m c' : Nat) (ls : List Int) (em : m = ls.length) (hm : m ≤ n) (z : Int) (w : World) (hg : GS w w.heap.size A gs) (ho : Sl intS.C 1 w w.heap.size A' ls) :
    Calls Tryd.prog 74 #[.slice A n c, .slice A' m c', .int .i64 z] w (WithS w (withL gs ls z m)) := by
  refine (l01With_any A n c gs hn hs A' m c' ls em hm z w hg ho).mono ?_
  rintro o w' ⟨v, rfl, hP, hb⟩
  obtain ⟨Aw, cw, rfl, _⟩ := owns_slice hP
  exact ⟨Aw, cw, rfl, gs_of_owns hP (fun x hx => hg.fits x (withL_in gs ls z m x hx)), hb⟩
theorem l00In_7 (n : Int) (b : Bool) (hb : b = true ↔ (0 ≤ n ∧ n < 8)) (w : World) :
    Calls Tryd.prog 113 #[.int .i64 n, .int .i64 0, .int .i64 7] w fun o w' => o = .returned (.bool b) ∧ w = w' :=
  hang.l00In_b n 0 7 b (by rw [Bool.eq_iff_iff, hang.inB_iff, hb]; omega) w
set_option maxRecDepth 100000 in
set_option maxHeartbeats 8000000 in
theorem l01Right_any (r : Nat → Int) (hr : Six r) (hold : Int) (A : Option Addr) (n c : Nat) (gs : List Gar) (hn : n = gs.length) (hs : n ≤ 1048576) (hc : ∀ x ∈ gs, x.c < 6) (A' : Option Addr) (m c' : Nat) (ls : List Int) (em : m = ls.length) (hm : m ≤ 1048576) (w : World) (hg : GS w w.heap.size A gs) (ho : Sl intS.C 1 w w.heap.size A' ls) (b : Bool) (hb : b = true ↔ Right r gs hold ls) :
    Calls Tryd.prog 63 #[rulesV r, .int .i64 hold, .slice A n c, .slice A' m c'] w fun o w' => o = .returned (.bool b) ∧ Below w.heap.size w w' := by
  have Hn := Lib.hid hn
  have Em := Lib.hid em
  have HB := Lib.hid hb
  clear hn em hb
  have S0 : Hid (LS r w (w.alloc (.cells (rulesCs r) 26))) := Lib.hid ⟨SixAt.new r w 26, by simp, (Below.refl w.heap.size w).alloc (Nat.le_refl _) _⟩
  have hno : ∀ {p : Prop}, ¬ p → (b = true → p) → b = false := fun hp h => by
    cases hbb : b with
    | false => rfl
    | true => exact absurd (h hbb) hp
  by_cases hmn : m = n
  · subst hmn
    go_enter Tryd.func63, Tryd.ntmps63
    go_wp2_with fail
    go_loopw [9] (fun vi wr => ∃ i : Nat, i ≤ m ∧ vi = .int .i64 i ∧ (∀ j x, j < i → ls[j]? = some x → 0 ≤ x ∧ x < 8) ∧ LS r w wr) (fun vi _ => m - (intOf vi).toNat)
    case atStart => exact ⟨0, by omega, rfl, fun j x h => absurd h (by omega), S0.out⟩
    case round =>
      clear S0
      obtain ⟨i, hi, rfl, hq, hL⟩ := hrel
      have HQ := Lib.hid hq
      have HL := Lib.hid hL
      obtain ⟨_, _, hbl⟩ := hL
      clear hq
      by_cases hlt : i < m
      · obtain ⟨x, hx⟩ : ∃ x, ls[i]? = some x := ⟨ls[i]'(by have := Em.out; omega), List.getElem?_eq_getElem _⟩
        obtain ⟨a, rfl, hab, hat⟩ := (ho.below hbl).at_ i x hx
        have q0 := intS.at_ hat
        have HX := Lib.hid hx
        clear hx hat hbl
        by_cases hin : 0 ≤ x ∧ x < 8
        · have HI := Lib.hid hin
          clear hin
          go_wp2_with fail
          refine (l00In_7 x true (by simp [HI.out]) _).mono ?_
          rintro o w1 ⟨rfl, rfl⟩
          go_wp2_with fail
          go_roundw
          case rel => exact ⟨i + 1, by omega, by go_num, fun j y hj hy => by
            rcases Nat.lt_or_ge j i with h1 | h1
            · exact HQ.out j y h1 hy
            · obtain rfl : j = i := by omega
              have e := HX.out
              rw [hy] at e
              rw [Option.some.inj e]
              exact HI.out, HL.out⟩
          case measure => simp [intOf]; omega
        · have HI := Lib.hid hin
          clear hin
          have e : b = false := hno HI.out fun h => (HB.out.1 h).2.1 x (List.mem_of_getElem? HX.out)
          go_wp2_with fail
          refine (l00In_7 x false (by simp only [Bool.false_eq_true, false_iff]; exact HI.out) _).mono ?_
          rintro o w1 ⟨rfl, rfl⟩
          subst e
          go_wp2_with fail
          go_ret
          exact ⟨rfl, HL.out.2.2⟩
      · obtain rfl : i = m := by omega
        clear hbl
        go_wp2_with fail
        obtain ⟨w1, rfl⟩ : ∃ w1, w1 = wr := ⟨wr, rfl⟩
        go_loopw [10] (fun vi wr => ∃ k : Nat, k ≤ 8 ∧ vi = .int .i64 k ∧ (∀ j : Nat, j < k → Pairs r (withL gs ls j i) ∧ wAll (withL gs ls j i) ≤ hold) ∧ LS r w wr) (fun vi _ => 8 - (intOf vi).toNat)
        case atStart => exact ⟨0, by omega, rfl, fun j h => absurd h (by omega), HL.out⟩
        case round =>
          clear HL
          obtain ⟨k, hk, rfl, hq2, hL⟩ := hrel
          have HQ2 := Lib.hid hq2
          have HL := Lib.hid hL
          clear hq2
          by_cases hlt : k < 8
          · obtain ⟨⟨s0, s1, s2, s3, s4, s5⟩, _, _⟩ := hL
            have key : ∀ u, LS r w u → GS u u.heap.size A gs := fun u h => (hg.below h.2.2).more h.2.2.size
            have keyL : ∀ u, LS r w u → Sl intS.C 1 u u.heap.size A' ls := fun u h => (ho.below h.2.2).more h.2.2.size
            have hwl := withL_len gs ls k i
            have hcw : ∀ x ∈ withL gs ls k i, x.c < 6 := fun x hx => hc x (withL_in gs ls k i x hx)
            have HCW := Lib.hid hcw
            clear hcw
            by_cases hf : Pairs r (withL gs ls k i) ∧ wAll (withL gs ls k i) ≤ hold
            · have HF := Lib.hid hf
              clear hf
              go_wp2_with fail
              go_region_held3 (fun u => LS r w u)
                (first | assumption | exact HL.out | exact HL.out.next (below_drewN _ _ 1) | exact LS.next (by assumption) hb2)
                (first
                  | (go_at_call 74; refine (l01With_s A i c gs Hn.out hs A' i c' ls Em.out (Nat.le_refl _) k _ (key _ (by assumption)) (keyL _ (by assumption))).mono ?_; rintro o w2 ⟨Aw, cw, rfl, hGw, hb2⟩)
                  | (go_at_call 73; refine (l01Load_any r hr hold _ _ _ (withL gs ls k i) rfl (by omega) HCW.out _ hGw true (by simp [HF.out])).mono ?_; rintro o w3 ⟨rfl, hb2⟩)
                  | fail)
              rename_i hS
              have HS := Lib.hid hS
              clear hS
              go_wp2_with fail
              go_roundw
              case rel => exact ⟨k + 1, by omega, by go_num, fun j hj => by
                rcases Nat.lt_or_ge j k with h1 | h1
                · exact HQ2.out j h1
                · obtain rfl : j = k := by omega
                  exact HF.out, HS.out⟩
              case measure => simp [intOf]; omega
            · have HF := Lib.hid hf
              have e : b = false := hno HF.out fun h => by
                have := (HB.out.1 h).2.2 k hlt
                rwa [← Hn.out] at this
              clear hf
              go_wp2_with fail
              go_region_held3 (fun u => LS r w u)
                (first | assumption | exact HL.out | exact HL.out.next (below_drewN _ _ 1) | exact LS.next (by assumption) hb2)
                (first
                  | (go_at_call 74; refine (l01With_s A i c gs Hn.out hs A' i c' ls Em.out (Nat.le_refl _) k _ (key _ (by assumption)) (keyL _ (by assumption))).mono ?_; rintro o w2 ⟨Aw, cw, rfl, hGw, hb2⟩)
                  | (go_at_call 73; refine (l01Load_any r hr hold _ _ _ (withL gs ls k i) rfl (by omega) HCW.out _ hGw false (by simp only [Bool.false_eq_true, false_iff]; exact HF.out)).mono ?_; rintro o w3 ⟨rfl, hb2⟩)
                  | fail)
              rename_i hS
              have HS := Lib.hid hS
              clear hS
              subst e
              go_wp2_with fail
              go_ret
              exact ⟨rfl, HS.out.2.2⟩
          · obtain rfl : k = 8 := by omega
            have e : b = true := HB.out.2 ⟨by have := Hn.out; have := Em.out; omega, fun x hx => by
              obtain ⟨j, hj⟩ := List.mem_iff_getElem?.1 hx
              exact HQ.out j x (by have := (List.getElem?_eq_some_iff.1 hj).1; have := Em.out; omega) hj, fun j hj => by
              have := HQ2.out j hj
              rwa [Hn.out] at this⟩
            subst e
            clear hL
            go_wp2_with fail
            go_ret
            exact ⟨rfl, HL.out.2.2⟩
  · have d1 : ((m : Int) != (n : Int)) = true := by rw [bne_iff_ne]; omega
    have e : b = false := hno (p := m = n) hmn fun h => by
      have := (HB.out.1 h).1
      have := Hn.out
      have := Em.out
      omega
    subst e
    clear hno
    go_enter Tryd.func63, Tryd.ntmps63
    go_wp2_with fail
    go_ret
    exact ⟨rfl, S0.out.2.2⟩
end Go.Proofs.YtekigapeekjigaaDoor.mem
