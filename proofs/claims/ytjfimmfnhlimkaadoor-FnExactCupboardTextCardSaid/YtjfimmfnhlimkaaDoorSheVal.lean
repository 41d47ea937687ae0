/-
  Sheets, valid or not, the program's and the model's; what is laid.
-/
import Derived.Test.YtjfimmfnhlimkaaDoorJoin11
import Derived.Test.YtjfimmfnhlimkaaDoorJoin10
import Derived.Test.YtjfimmfnhlimkaaDoorResRow
namespace Go.Proofs.YtjfimmfnhlimkaaDoor.fold
open Go Go.RowKit sl errs

def inB (n lo hi : Int) : Bool := decide (lo ≤ n) && decide (n ≤ hi)
theorem inB_iff (n lo hi : Int) : inB n lo hi = true ↔ lo ≤ n ∧ n ≤ hi := by simp [inB]
theorem inB_no (n lo hi : Int) : inB n lo hi = false ↔ n < lo ∨ hi < n := by
  rw [← Bool.not_eq_true, inB_iff]
  omega
/-- a sheet is valid -/
def She.valid (x : She) : Bool := inB x.wide 1 1296 && (inB x.high 1 1296 && inB x.lay 1 144)
/-- what the bounds of a valid sheet are -/
structure Good (x : She) : Prop where
  w0 : 1 ≤ x.wide
  w1 : x.wide ≤ 1296
  h0 : 1 ≤ x.high
  h1 : x.high ≤ 1296
  l0 : 1 ≤ x.lay
  l1 : x.lay ≤ 144
theorem valid_iff (x : She) : She.valid x = true ↔ Good x := by
  simp only [She.valid, Bool.and_eq_true, inB_iff]
  constructor
  · rintro ⟨⟨a, b⟩, ⟨c, d⟩, e, f⟩
    exact ⟨a, b, c, d, e, f⟩
  · rintro ⟨a, b, c, d, e, f⟩
    exact ⟨⟨a, b⟩, ⟨c, d⟩, e, f⟩

theorem l00In_any (n lo hi : Int) (w : World) :
    Calls Tryd.prog 121 #[.int .i64 n, .int .i64 lo, .int .i64 hi] w fun o w' => o = .returned (.bool (inB n lo hi)) ∧ w = w' := by
  go_enter Tryd.func121, Tryd.ntmps121
  go_wp2_with fail
  all_goals go_ret
  all_goals exact ⟨ret_bool (by first | (simp [inB, *]; done) | (simp [inB]; omega)), rfl⟩
theorem l00In_b (n lo hi : Int) (b : Bool) (hb : inB n lo hi = b) (w : World) :
    Calls Tryd.prog 121 #[.int .i64 n, .int .i64 lo, .int .i64 hi] w fun o w' => o = .returned (.bool b) ∧ w = w' := by
  subst hb
  exact l00In_any n lo hi w
/-- a list of things that has been listed on the spot -/
theorem sl_listed {α : Type} {C : α → List Value} {sz : Nat} (hC : ∀ x : α, (C x).length = sz) (xs : List α) (vs : Array Value) (hv : vs = (xs.flatMap C).toArray) (T : TypeId) (u : World) :
    Sl C sz (u.alloc (.cells vs T)) (u.alloc (.cells vs T)).heap.size (some ⟨u.heap.size, 0, none⟩) xs :=
  ⟨fun k x hx => by
    subst hv
    refine ⟨_, rfl, by simp, fun j v hj => ?_⟩
    rw [add_lit, add_at, box_at (Below.refl (u.heap.size + 1) _) (by omega)]
    rw [List.getElem?_toArray]
    exact flat_get (fun y _ => hC y) hx hj⟩
/-- what is laid: how wide, how high, in how many layers -/
abbrev laidV (a b l : Int) : Value := .agg #[.int .i64 a, .int .i64 b, .int .i64 l]
abbrev sidesV (a b : Int) : Value := .agg #[.int .i64 a, .int .i64 b]
/-- what is laid lies in block b -/
abbrev LA (b : Nat) (p q r : Int) (W u : World) : Prop := u.cell? ⟨b, 0, none⟩ = some (.int .i64 p) ∧ u.cell? ⟨b, 1, none⟩ = some (.int .i64 q) ∧ u.cell? ⟨b, 2, none⟩ = some (.int .i64 r) ∧ b < u.heap.size ∧ Below W.heap.size W u
theorem LA.next {b : Nat} {p q r : Int} {W u v : World} (h : LA b p q r W u) (hb : Below u.heap.size u v) : LA b p q r W v := by
  obtain ⟨h0, h1, h2, h3, hB⟩ := h
  have hs := hb.size
  exact ⟨(hb.cell (p := ⟨b, 0, none⟩) h3).trans h0, (hb.cell (p := ⟨b, 1, none⟩) h3).trans h1, (hb.cell (p := ⟨b, 2, none⟩) h3).trans h2, by omega, below_next hB hb (Nat.le_refl _)⟩
theorem LA.below {b : Nat} {p q r : Int} {W u : World} (h : LA b p q r W u) : Below W.heap.size W u := h.2.2.2.2
theorem LA.new (p q r : Int) {W u : World} (h : Below W.heap.size W u) (T : TypeId) : LA u.heap.size p q r W (u.alloc (.cells #[.int .i64 p, .int .i64 q, .int .i64 r] T)) := by
  have k := fun i => box_at (Below.refl (u.heap.size + 1) (u.alloc (.cells #[.int .i64 p, .int .i64 q, .int .i64 r] T))) (by omega) i
  exact ⟨k 0, k 1, k 2, by simp, h.alloc h.size _⟩
end Go.Proofs.YtjfimmfnhlimkaaDoor.fold
