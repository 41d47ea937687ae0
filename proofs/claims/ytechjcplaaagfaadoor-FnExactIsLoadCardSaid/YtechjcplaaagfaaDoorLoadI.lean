/-
  Contracts of the program's small functions for loads, and of the model's IsLoad.
-/
import Derived.Test.YtechjcplaaagfaaDoorSpecLoad
import Derived.Test.YtechjcplaaagfaaDoorIsLoadB
namespace Go.Proofs.YtechjcplaaagfaaDoor.load
open Go.RowKit errs garS heats meet

theorem checkWithin_any (x lo hi : Int) {w : World} {B : Nat} {e : Nat → Addr} (h : Errs w B e) :
    Calls Tryd.prog 79 #[.int .i64 x, .int .i64 lo, .int .i64 hi] w fun o w' => o = .returned (errOf e (if lo ≤ x ∧ x ≤ hi then 0 else 2)) ∧ w = w' := by
  obtain ⟨c0, c1, c2, c3, c4, c5, c6, _⟩ := h
  by_cases h0 : lo ≤ x ∧ x ≤ hi
  · rw [if_pos h0]
    obtain ⟨h1, h2⟩ := h0
    have h3 : ¬ x < lo := by omega
    have h4 : ¬ hi < x := by omega
    go_enter Tryd.func79, Tryd.ntmps79
    go_wp2_with fail
    all_goals go_ret
    all_goals exact ⟨rfl, rfl⟩
  · rw [if_neg h0]
    by_cases h1 : x < lo
    · go_enter Tryd.func79, Tryd.ntmps79
      go_wp2_with fail
      all_goals go_ret
      all_goals exact ⟨rfl, rfl⟩
    · have h2 : hi < x := by omega
      go_enter Tryd.func79, Tryd.ntmps79
      go_wp2_with fail
      all_goals go_ret
      all_goals exact ⟨rfl, rfl⟩
theorem checkHold_any (hold : Int) {w : World} {B : Nat} {e : Nat → Addr} (h : Errs w B e) :
    Calls Tryd.prog 67 #[.int .i64 hold] w fun o w' => o = .returned (errOf e (if 1 ≤ hold ∧ hold ≤ 20000 then 0 else 2)) ∧ w = w' := by
  go_enter Tryd.func67, Tryd.ntmps67
  go_wp2_with fail
  refine (checkWithin_any hold 1 20000 h).mono ?_
  rintro o w1 ⟨rfl, rfl⟩
  go_wp2_with fail
  all_goals go_ret
  all_goals exact ⟨rfl, rfl⟩
theorem pow_all (n : Nat) (hn : n ≤ 8) : IntKind.u8.wrap (IntKind.u8.wrap (2 ^ n : Int) - 1) = ((2 ^ n - 1 : Nat) : Int) := by
  match n, hn with
  | 0, _ => decide
  | 1, _ => decide
  | 2, _ => decide
  | 3, _ => decide
  | 4, _ => decide
  | 5, _ => decide
  | 6, _ => decide
  | 7, _ => decide
  | 8, _ => decide
theorem all_any (A : Option Addr) (n c : Nat) (hn : n ≤ 8) (m : Nat → Int) (hold : Int) (w : World) :
    Calls Tryd.prog 70 #[mem.bV A n c m hold] w fun o w' => o = .returned (.int .u8 ((2 ^ n - 1 : Nat) : Int)) ∧ Below w.heap.size w w' := by
  match n, hn with
  | 0, _ =>
    go_enter Tryd.func70, Tryd.ntmps70
    go_wp2_with fail
    go_ret
    exact ⟨rfl, (Below.refl _ _).alloc (Nat.le_refl _) _⟩

  | 1, _ =>
    go_enter Tryd.func70, Tryd.ntmps70
    go_wp2_with fail
    go_ret
    exact ⟨rfl, (Below.refl _ _).alloc (Nat.le_refl _) _⟩

  | 2, _ =>
    go_enter Tryd.func70, Tryd.ntmps70
    go_wp2_with fail
    go_ret
    exact ⟨rfl, (Below.refl _ _).alloc (Nat.le_refl _) _⟩

  | 3, _ =>
    go_enter Tryd.func70, Tryd.ntmps70
    go_wp2_with fail
    go_ret
    exact ⟨rfl, (Below.refl _ _).alloc (Nat.le_refl _) _⟩

  | 4, _ =>
    go_enter Tryd.func70, Tryd.ntmps70
    go_wp2_with fail
    go_ret
    exact ⟨rfl, (Below.refl _ _).alloc (Nat.le_refl _) _⟩

  | 5, _ =>
    go_enter Tryd.func70, Tryd.ntmps70
    go_wp2_with fail
    go_ret
    exact ⟨rfl, (Below.refl _ _).alloc (Nat.le_refl _) _⟩

  | 6, _ =>
    go_enter Tryd.func70, Tryd.ntmps70
    go_wp2_with fail
    go_ret
    exact ⟨rfl, (Below.refl _ _).alloc (Nat.le_refl _) _⟩

  | 7, _ =>
    go_enter Tryd.func70, Tryd.ntmps70
    go_wp2_with fail
    go_ret
    exact ⟨rfl, (Below.refl _ _).alloc (Nat.le_refl _) _⟩

  | 8, _ =>
    go_enter Tryd.func70, Tryd.ntmps70
    go_wp2_with fail
    go_ret
    exact ⟨rfl, (Below.refl _ _).alloc (Nat.le_refl _) _⟩

theorem ask_valid {r : Nat → Int} {gs : List Gar} {fine : Bool} (h : 0 = codeAsk r gs fine) : ∀ x ∈ gs, x.valid = true := by
  unfold codeAsk at h
  split at h
  · unfold codeAll at h
    split at h
    · rename_i h2
      exact List.all_eq_true.1 h2
    · omega
  · omega
theorem ask_colour {r : Nat → Int} {gs : List Gar} {fine : Bool} (h : 0 = codeAsk r gs fine) : ∀ x ∈ gs, x.c < 6 := fun x hx => (valid_parts (ask_valid h x hx)).1
/-- the rules in their box -/
abbrev LS (r : Nat → Int) (w u : World) : Prop := SixAt r w.heap.size u ∧ w.heap.size < u.heap.size ∧ Below w.heap.size w u
theorem LS.next {r : Nat → Int} {w u v : World} (h : LS r w u) (hb : Below u.heap.size u v) : LS r w v := ⟨h.1.to hb h.2.1, Nat.lt_of_lt_of_le h.2.1 hb.size, h.2.2.trans (hb.mono h.2.2.size)⟩
set_option maxRecDepth 100000 in
set_option maxHeartbeats 4000000 in
theorem IsLoad_spec (r : Nat → Int) (hr : Six r) (hold : Int) (A : Option Addr) (n c : Nat) (gs : List Gar) (hn : n = gs.length) (hs : n ≤ 1048576) (w : World) (hg : GS w w.heap.size A gs) (fine : Bool) (hfine : fine = true ↔ (1 ≤ hold ∧ hold ≤ 20000)) (code : Nat) (hcode : code = codeAsk r gs fine) (b : Bool) (hb : code ≠ 0 → b = false) (hb0 : code = 0 → (b = true ↔ (0 < n ∧ Pairs r gs ∧ wAll gs ≤ hold))) :
    Calls Tryd.prog 28 #[rulesV r, .int .i64 hold, .slice A n c] w fun o w' => o = .returned (.tuple #[.bool b, .int .i64 code]) ∧ Below w.heap.size w w' := by
  have Hn := Lib.hid hn
  have HF := Lib.hid hfine
  have HC := Lib.hid hcode
  have HB := Lib.hid hb
  have HB0 := Lib.hid hb0
  clear hn hfine hcode hb hb0
  have S0 : Hid (LS r w (w.alloc (.cells (rulesCs r) 29))) := Lib.hid ⟨SixAt.new r w 29, by simp, (Below.refl w.heap.size w).alloc (Nat.le_refl _) _⟩
  obtain ⟨⟨s0, s1, s2, s3, s4, s5⟩, _, _⟩ := S0.out
  have key : ∀ u, LS r w u → GS u u.heap.size A gs := fun u h => (hg.below h.2.2).more h.2.2.size
  cases code with
  | zero =>
    have hz := HB0.out rfl
    have HZ := Lib.hid hz
    clear hz
    go_enter Tryd.func28, Tryd.ntmps28
    go_wp2_with fail
    go_region_held3 (fun u => LS r w u)
      (first | assumption | exact S0.out | exact S0.out.next (below_drewN _ _ 1) | exact LS.next (by assumption) hb2)
      (first
        | (go_at_call 65; refine (l01Hold_any hold _ fine HF.out).mono ?_; rintro o w2 ⟨rfl, rfl⟩)
        | (go_at_call 64; refine (l01Asked_any r hr A n c gs Hn.out hs fine _ (key _ (by assumption)) 0 HC.out).mono ?_; rintro o w2 ⟨rfl, hb2⟩)
        | fail)
    rename_i hS
    have HS := Lib.hid hS
    obtain ⟨⟨t0, t1, t2, t3, t4, t5⟩, _, _⟩ := hS
    clear s0 s1 s2 s3 s4 s5
    by_cases hn0 : n = 0
    · have hbf : Hid (b = false) := Lib.hid (by
        cases eb : b with
        | false => rfl
        | true => have := (HZ.out.1 eb).1; omega)
      subst hn0
      go_wp2_with fail
      go_ret2
      rw [hbf.out]
      exact ⟨rfl, HS.out.2.2⟩
    · have hp : (0 : Int) < (n : Int) := by omega
      have hbl : b = true ↔ (Pairs r gs ∧ wAll gs ≤ hold) := HZ.out.trans ⟨fun h => h.2, fun h => ⟨by omega, h⟩⟩
      have HL := Lib.hid hbl
      clear hbl
      go_wp2_with (go_at_call 66; refine (l01Load_any r hr hold A n c gs Hn.out hs (ask_colour HC.out) _ (key _ HS.out) b HL.out).mono ?_; rintro o w3 ⟨rfl, hb3⟩)
      go_ret2
      exact ⟨by simp, HS.out.2.2.trans (hb3.mono HS.out.2.2.size)⟩
  | succ i =>
    have hbf : b = false := HB.out (by omega)
    subst hbf
    have hne : (((i + 1 : Nat) : Int) != 0) = true := by rw [bne_iff_ne]; omega
    have hne2 : (((i : Int) + 1) != 0) = true := by rw [bne_iff_ne]; omega
    have hne3 : (((i : Int) + 1) == 0) = false := by rw [beq_eq_false_iff_ne]; omega
    have hne4 : (((i + 1 : Nat) : Int) == 0) = false := by rw [beq_eq_false_iff_ne]; omega
    go_enter Tryd.func28, Tryd.ntmps28
    go_wp2_with fail
    go_region_held3 (fun u => LS r w u)
      (first | assumption | exact S0.out | exact S0.out.next (below_drewN _ _ 1) | exact LS.next (by assumption) hb2)
      (first
        | (go_at_call 65; refine (l01Hold_any hold _ fine HF.out).mono ?_; rintro o w2 ⟨rfl, rfl⟩)
        | (go_at_call 64; refine (l01Asked_any r hr A n c gs Hn.out hs fine _ (key _ (by assumption)) (i + 1) HC.out).mono ?_; rintro o w2 ⟨rfl, hb2⟩)
        | fail)
    rename_i hS
    have HS := Lib.hid hS
    clear hS
    go_wp2_with fail
    go_ret2
    exact ⟨by simp, HS.out.2.2⟩
end Go.Proofs.YtechjcplaaagfaaDoor.load
