/-
  Contracts for the heats of garments.
-/
import Derived.Test.YtekigapeekjigaaDoorCheck
namespace Go.Proofs.YtekigapeekjigaaDoor.heats
open Go.RowKit errs garS

/-- the code of garments, and whether numbers are as told -/
def codeAll (gs : List Gar) (fine : Bool) : Nat := if gs.all Gar.valid = true then (if fine = true then (if gs.length > 8 then 3 else 0) else 2) else 1
def lowOf (gs : List Gar) : Int := gs.foldl (fun l x => max l x.n) 0
def highOf (gs : List Gar) : Int := gs.foldl (fun l x => min l x.m) 95

theorem take_snoc {gs : List Gar} {k : Nat} {x : Gar} (hx : gs[k]? = some x) : gs.take (k + 1) = gs.take k ++ [x] := by
  obtain ⟨hk, rfl⟩ := List.getElem?_eq_some_iff.1 hx
  rw [List.take_succ_eq_append_getElem hk]
theorem low_snoc {gs : List Gar} {k : Nat} {x : Gar} (hx : gs[k]? = some x) : lowOf (gs.take (k + 1)) = max (lowOf (gs.take k)) x.n := by
  rw [take_snoc hx]
  simp [lowOf]
theorem high_snoc {gs : List Gar} {k : Nat} {x : Gar} (hx : gs[k]? = some x) : highOf (gs.take (k + 1)) = min (highOf (gs.take k)) x.m := by
  rw [take_snoc hx]
  simp [highOf]

theorem l00Max_any (a b : Int) (w : World) :
    Calls Tryd.prog 75 #[.int .i64 a, .int .i64 b] w fun o w' => o = .returned (.int .i64 (max a b)) ∧ w = w' := by
  go_enter Tryd.func75, Tryd.ntmps75
  go_wp2_with fail
  all_goals go_ret
  all_goals exact ⟨ret_int (by omega), rfl⟩
theorem l00Min_any (a b : Int) (w : World) :
    Calls Tryd.prog 126 #[.int .i64 a, .int .i64 b] w fun o w' => o = .returned (.int .i64 (min a b)) ∧ w = w' := by
  go_enter Tryd.func126, Tryd.ntmps126
  go_wp2_with fail
  all_goals go_ret
  all_goals exact ⟨ret_int (by omega), rfl⟩

set_option maxHeartbeats 2000000 in
theorem l01Heats_any (A : Option Addr) (n c : Nat) (gs : List Gar) (hn : n = gs.length) (hs : n ≤ 1048576) (w : World) (B : Nat) (hg : GS w B A gs) :
    Calls Tryd.prog 118 #[.slice A n c] w fun o w' => o = .returned (.tuple #[.int .i64 (lowOf gs), .int .i64 (highOf gs)]) ∧ w = w' := by
  have Hn := Lib.hid hn
  clear hn
  go_enter Tryd.func118, Tryd.ntmps118
  go_wp2_with fail
  go_loop [4, 5, 6] (fun l h vi => ∃ k : Nat, k ≤ n ∧ vi = .int .i64 k ∧ l = .int .i64 (lowOf (gs.take k)) ∧ h = .int .i64 (highOf (gs.take k))) (fun _ _ vi => n - (intOf vi).toNat)
  case atStart => exact ⟨0, by omega, rfl, rfl, rfl⟩
  case round =>
    obtain ⟨k, hk, rfl, rfl, rfl⟩ := hrel
    by_cases hlt : k < n
    · obtain ⟨x, hx⟩ : ∃ x, gs[k]? = some x := ⟨gs[k]'(by have := Hn.out; omega), List.getElem?_eq_getElem _⟩
      obtain ⟨a, rfl, hab, hg0, hg1, hg2, hg3⟩ := hg.at_ k x hx
      obtain ⟨_, _, n0, n1, m0, m1, _, _⟩ := hg.fits x (List.mem_of_getElem? hx)
      have hl := Lib.hid (low_snoc hx)
      have hh := Lib.hid (high_snoc hx)
      clear hx
      go_wp2_with fail
      refine (l00Max_any _ _ _).mono ?_
      rintro o w1 ⟨rfl, rfl⟩
      go_wp2_with fail
      refine (l00Min_any _ _ _).mono ?_
      rintro o w1 ⟨rfl, rfl⟩
      go_wp2_with fail
      go_round
      case rel => exact ⟨k + 1, by omega, by go_num, by rw [hl.out], by rw [hh.out]⟩
      case measure => simp [intOf]; omega
    · go_wp2_with fail
      go_ret2
      have e : gs.take k = gs := List.take_of_length_le (by have := Hn.out; omega)
      rw [e]
      exact ⟨rfl, rfl⟩

set_option maxHeartbeats 2000000 in
theorem l01All_any (A : Option Addr) (n c : Nat) (gs : List Gar) (hn : n = gs.length) (hs : n ≤ 1048576) (fine : Bool) (w : World) (hg : GS w w.heap.size A gs) :
    Calls Tryd.prog 112 #[.slice A n c, .bool fine] w fun o w' => o = .returned (.int .i64 (codeAll gs fine)) ∧ Below w.heap.size w w' := by
  have Hn := Lib.hid hn
  clear hn
  go_enter Tryd.func112, Tryd.ntmps112
  go_wp2_with fail
  go_loopw [5] (fun vi wr => ∃ k : Nat, k ≤ n ∧ vi = .int .i64 k ∧ (∀ i x, i < k → gs[i]? = some x → x.valid = true) ∧ Below w.heap.size w wr) (fun vi _ => n - (intOf vi).toNat)
  case atStart => exact ⟨0, by omega, rfl, fun i x hi => absurd hi (by omega), Below.refl _ _⟩
  case round =>
    obtain ⟨k, hk, rfl, hval, hb⟩ := hrel
    by_cases hlt : k < n
    · obtain ⟨x, hx⟩ : ∃ x, gs[k]? = some x := ⟨gs[k]'(by have := Hn.out; omega), List.getElem?_eq_getElem _⟩
      obtain ⟨a, rfl, hab, hg0, hg1, hg2, hg3⟩ := (hg.below hb).at_ k x hx
      have hxf : x.Fits := hg.fits x (List.mem_of_getElem? hx)
      have HX := Lib.hid hx
      clear hx
      cases hv : x.valid with
      | true =>
        go_wp2_with fail
        refine (garm.l01Garment_any x hxf _).mono ?_
        rintro o w2 ⟨rfl, hb2⟩
        rw [hv]
        have H2 := below_next hb hb2 (Nat.le_refl _)
        clear hg0 hg1 hg2 hg3 hb2
        go_wp2_with fail
        go_roundw
        case rel => exact ⟨k + 1, by omega, by go_num, fun i y hi hy => by
          rcases Nat.lt_or_ge i k with h1 | h1
          · exact hval i y h1 hy
          · obtain rfl : i = k := by omega
            have := HX.out
            rw [hy] at this
            rw [Option.some.inj this]
            exact hv, H2⟩
        case measure => simp [intOf]; omega
      | false =>
        go_wp2_with fail
        refine (garm.l01Garment_any x hxf _).mono ?_
        rintro o w2 ⟨rfl, hb2⟩
        rw [hv]
        have H2 := below_next hb hb2 (Nat.le_refl _)
        clear hg0 hg1 hg2 hg3 hb2
        go_wp2_with fail
        go_ret
        refine ⟨?_, H2⟩
        rw [codeAll, if_neg]
        · rfl
        · intro hall
          rw [List.all_eq_true] at hall
          have := hall x (List.mem_of_getElem? HX.out)
          rw [hv] at this
          cases this
    · have hall : gs.all Gar.valid = true := by
        rw [List.all_eq_true]
        intro x hx
        obtain ⟨i, hi⟩ := List.mem_iff_getElem?.1 hx
        have hl : i < gs.length := (List.getElem?_eq_some_iff.1 hi).1
        exact hval i x (by have := Hn.out; omega) hi
      have HA := Lib.hid hall
      clear hall hval
      cases fine with
      | false =>
        go_wp2_with fail
        go_ret
        exact ⟨by rw [codeAll, if_pos HA.out]; rfl, hb⟩
      | true =>
        by_cases h8 : 8 < n
        · go_wp2_with fail
          go_ret
          exact ⟨by rw [codeAll, if_pos HA.out, if_pos rfl, if_pos (by have := Hn.out; omega)]; rfl, hb⟩
        · go_wp2_with fail
          go_ret
          exact ⟨by rw [codeAll, if_pos HA.out, if_pos rfl, if_neg (by have := Hn.out; omega)]; rfl, hb⟩

set_option maxHeartbeats 1000000 in
theorem checkCount_any (A : Option Addr) (n c : Nat) (hs : n ≤ 1048576) {w : World} {B : Nat} {e : Nat → Addr} (h : Errs w B e) :
    Calls Tryd.prog 68 #[.slice A n c] w fun o w' => o = .returned (errOf e (if 8 < n then 3 else 0)) ∧ w = w' := by
  obtain ⟨c0, c1, c2, c3, c4, c5, c6, _⟩ := h
  by_cases h8 : 8 < n
  · rw [if_pos h8]
    go_enter Tryd.func68, Tryd.ntmps68
    go_wp2_with fail
    go_ret
    exact ⟨rfl, rfl⟩
  · rw [if_neg h8]
    go_enter Tryd.func68, Tryd.ntmps68
    go_wp2_with fail
    go_ret
    exact ⟨rfl, rfl⟩

/-- the heats, and the code -/
def heatsRes (gs : List Gar) : Int × Int × Int :=
  if codeAll gs true = 0 then (if highOf gs < lowOf gs then (0, 0, 4) else (lowOf gs, highOf gs, 0)) else (0, 0, codeAll gs true)
abbrev tup3 (p : Int × Int × Int) : Value := .tuple #[.int .i64 p.1, .int .i64 p.2.1, .int .i64 p.2.2]
theorem codeAll_le (gs : List Gar) (fine : Bool) : codeAll gs fine ≤ 3 := by
  unfold codeAll
  split
  · split
    · split <;> omega
    · omega
  · omega


end Go.Proofs.YtekigapeekjigaaDoor.heats
