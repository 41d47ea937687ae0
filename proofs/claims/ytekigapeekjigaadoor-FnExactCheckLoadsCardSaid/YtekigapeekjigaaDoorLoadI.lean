/-
  Contracts of the program's small functions for loads, and of the model's IsLoad.
-/
import Derived.Test.YtekigapeekjigaaDoorSpecLoad
import Derived.Test.YtekigapeekjigaaDoorIsLoadB
import Derived.Test.YtekigapeekjigaaDoorWithin
namespace Go.Proofs.YtekigapeekjigaaDoor.load
open Go.RowKit errs garS heats meet

theorem checkHold_any (hold : Int) {w : World} {B : Nat} {e : Nat → Addr} (h : Errs w B e) :
    Calls Tryd.prog 67 #[.int .i64 hold] w fun o w' => o = .returned (errOf e (if 1 ≤ hold ∧ hold ≤ 20000 then 0 else 2)) ∧ w = w' := by
  go_enter Tryd.func67, Tryd.ntmps67
  go_wp2_with fail
  refine (checkWithin_any hold 1 20000 h).mono ?_
  rintro o w1 ⟨rfl, rfl⟩
  go_wp2_with fail
  all_goals go_ret
  all_goals exact ⟨rfl, rfl⟩
theorem pow_all (n : Nat) (hn : n ≤ 8) : IntKind.u8.wrap (IntKind.u8.wrap (2 ^ n : Int) - 1) = ((2 ^ n - 1 : Nat) : Int) := by
  match n, hn with
  | 0, _ => decide
  | 1, _ => decide
  | 2, _ => decide
  | 3, _ => decide
  | 4, _ => decide
  | 5, _ => decide
  | 6, _ => decide
  | 7, _ => decide
  | 8, _ => decide
theorem all_any (A : Option Addr) (n c : Nat) (hn : n ≤ 8) (m : Nat → Int) (hold : Int) (w : World) :
    Calls Tryd.prog 88 #[mem.bV A n c m hold] w fun o w' => o = .returned (.int .u8 ((2 ^ n - 1 : Nat) : Int)) ∧ Below w.heap.size w w' := by
  match n, hn with
  | 0, _ =>
    go_enter Tryd.func88, Tryd.ntmps88
    go_wp2_with fail
    go_ret
    exact ⟨rfl, (Below.refl _ _).alloc (Nat.le_refl _) _⟩

  | 1, _ =>
    go_enter Tryd.func88, Tryd.ntmps88
    go_wp2_with fail
    go_ret
    exact ⟨rfl, (Below.refl _ _).alloc (Nat.le_refl _) _⟩

  | 2, _ =>
    go_enter Tryd.func88, Tryd.ntmps88
    go_wp2_with fail
    go_ret
    exact ⟨rfl, (Below.refl _ _).alloc (Nat.le_refl _) _⟩

  | 3, _ =>
    go_enter Tryd.func88, Tryd.ntmps88
    go_wp2_with fail
    go_ret
    exact ⟨rfl, (Below.refl _ _).alloc (Nat.le_refl _) _⟩

  | 4, _ =>
    go_enter Tryd.func88, Tryd.ntmps88
    go_wp2_with fail
    go_ret
    exact ⟨rfl, (Below.refl _ _).alloc (Nat.le_refl _) _⟩

  | 5, _ =>
    go_enter Tryd.func88, Tryd.ntmps88
    go_wp2_with fail
    go_ret
    exact ⟨rfl, (Below.refl _ _).alloc (Nat.le_refl _) _⟩

  | 6, _ =>
    go_enter Tryd.func88, Tryd.ntmps88
    go_wp2_with fail
    go_ret
    exact ⟨rfl, (Below.refl _ _).alloc (Nat.le_refl _) _⟩

  | 7, _ =>
    go_enter Tryd.func88, Tryd.ntmps88
    go_wp2_with fail
    go_ret
    exact ⟨rfl, (Below.refl _ _).alloc (Nat.le_refl _) _⟩

  | 8, _ =>
    go_enter Tryd.func88, Tryd.ntmps88
    go_wp2_with fail
    go_ret
    exact ⟨rfl, (Below.refl _ _).alloc (Nat.le_refl _) _⟩

theorem ask_valid {r : Nat → Int} {gs : List Gar} {fine : Bool} (h : 0 = codeAsk r gs fine) : ∀ x ∈ gs, x.valid = true := by
  unfold codeAsk at h
  split at h
  · unfold codeAll at h
    split at h
    · rename_i h2
      exact List.all_eq_true.1 h2
    · omega
  · omega
theorem ask_colour {r : Nat → Int} {gs : List Gar} {fine : Bool} (h : 0 = codeAsk r gs fine) : ∀ x ∈ gs, x.c < 6 := fun x hx => (valid_parts (ask_valid h x hx)).1
/-- the rules in their box -/
abbrev LS (r : Nat → Int) (w u : World) : Prop := SixAt r w.heap.size u ∧ w.heap.size < u.heap.size ∧ Below w.heap.size w u
theorem LS.next {r : Nat → Int} {w u v : World} (h : LS r w u) (hb : Below u.heap.size u v) : LS r w v := ⟨h.1.to hb h.2.1, Nat.lt_of_lt_of_le h.2.1 hb.size, h.2.2.trans (hb.mono h.2.2.size)⟩
end Go.Proofs.YtekigapeekjigaaDoor.load
