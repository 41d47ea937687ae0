/-
  Several texts of this proof, joined.
-/
import Derived.Test.YtjfimmfnhlimkaaDoorJoin13
import Derived.Test.YtjfimmfnhlimkaaDoorJoin12
import Derived.Test.YtjfimmfnhlimkaaDoorResRow
/-
  Contracts of the checks of cloths and lines, the program's and the model's.
-/
namespace Go.Proofs.YtjfimmfnhlimkaaDoor.hang
open Go.RowKit sl errs

set_option maxHeartbeats 1000000 in
theorem checkCloths_any (A : Option Addr) (n c : Nat) (xs : List Clo) (en : n = xs.length) (hn : n ≤ 9223372036854775807) (hf : ∀ x ∈ xs, x.Fits) {w : World} {B : Nat} {e : Nat → Addr} (h : Errs w B e) (hB : B ≤ w.heap.size) (hg : Sl Clo.cells 2 w w.heap.size A xs)
    (k0 : Nat) (hk : k0 = if xs.all Clo.valid = true then 0 else 1) :
    Calls Tryd.prog 93 #[.slice A n c] w fun o w' => o = .returned (errOf e k0) ∧ Below w.heap.size w w' := by
  cases hv : xs.all Clo.valid with
  | true =>
    rw [hv, if_pos rfl] at hk
    subst hk
    have HV := Lib.hid hv
    have En := Lib.hid en
    clear hv en
    go_enter Tryd.func93, Tryd.ntmps93
    go_wp2_with fail
    refine (ValidCloths_any A n c xs En.out hn hf _ hg).mono ?_
    rintro o w1 ⟨rfl, hb⟩
    rw [HV.out]
    go_wp2_with fail
    go_ret
    exact ⟨rfl, hb⟩
  | false =>
    rw [hv, if_neg (by decide)] at hk
    subst hk
    have HV := Lib.hid hv
    have En := Lib.hid en
    clear hv en
    go_enter Tryd.func93, Tryd.ntmps93
    go_wp2_with fail
    refine (ValidCloths_any A n c xs En.out hn hf _ hg).mono ?_
    rintro o w1 ⟨rfl, hb⟩
    rw [HV.out]
    have g0 := (h.below (hb.mono hB)).c0
    go_wp2_with fail
    go_ret
    exact ⟨rfl, hb⟩

set_option maxHeartbeats 1000000 in
theorem checkClothCount_any (A : Option Addr) (n c m : Nat) (_hn : n ≤ 9223372036854775807) (_hm : m ≤ 1000) {w : World} {B : Nat} {e : Nat → Addr} (h : Errs w B e) (k0 : Nat) (hk : k0 = if m < n then 3 else 0) :
    Calls Tryd.prog 94 #[.slice A n c, .int .i64 (m : Nat)] w fun o w' => o = .returned (errOf e k0) ∧ w = w' := by
  subst hk
  obtain ⟨c0, c1, c2, c3, c4, c5, c6, _⟩ := h
  by_cases h8 : m < n
  · rw [if_pos h8]
    go_enter Tryd.func94, Tryd.ntmps94
    go_wp2_with fail
    go_ret
    exact ⟨rfl, rfl⟩
  · rw [if_neg h8]
    go_enter Tryd.func94, Tryd.ntmps94
    go_wp2_with fail
    go_ret
    exact ⟨rfl, rfl⟩

set_option maxHeartbeats 2000000 in
theorem l02Many_any (A : Option Addr) (n c m : Nat) (xs : List Clo) (en : n = xs.length) (hn : n ≤ 9223372036854775807) (_hm : m ≤ 1000) (hf : ∀ x ∈ xs, x.Fits) (w : World) (B : Nat) (hg : Sl Clo.cells 2 w B A xs) (k0 : Nat) (hk : k0 = codeMany xs m) :
    Calls Tryd.prog 90 #[.slice A n c, .int .i64 (m : Nat)] w fun o w' => o = .returned (.int .i64 k0) ∧ w = w' := by
  subst hk
  have En := Lib.hid en
  cases hv : xs.all Clo.valid with
  | true =>
    have HV := Lib.hid hv
    by_cases h8 : m < n
    · have e : codeMany xs m = 3 := by rw [codeMany, if_pos hv, if_pos (by omega)]
      rw [e]
      clear e hv en
      go_enter Tryd.func90, Tryd.ntmps90
      go_wp2_with fail
      refine (l02Cloths_any A n c xs En.out hn hf _ _ hg).mono ?_
      rintro o w1 ⟨rfl, rfl⟩
      rw [HV.out]
      go_wp2_with fail
      go_ret
      exact ⟨rfl, rfl⟩
    · have e : codeMany xs m = 0 := by rw [codeMany, if_pos hv, if_neg (by omega)]
      rw [e]
      clear e hv en
      go_enter Tryd.func90, Tryd.ntmps90
      go_wp2_with fail
      refine (l02Cloths_any A n c xs En.out hn hf _ _ hg).mono ?_
      rintro o w1 ⟨rfl, rfl⟩
      rw [HV.out]
      go_wp2_with fail
      go_ret
      exact ⟨rfl, rfl⟩
  | false =>
    have e : codeMany xs m = 1 := by rw [codeMany, if_neg (by rw [hv]; decide)]
    rw [e]
    have HV := Lib.hid hv
    clear e hv en
    go_enter Tryd.func90, Tryd.ntmps90
    go_wp2_with fail
    refine (l02Cloths_any A n c xs En.out hn hf _ _ hg).mono ?_
    rintro o w1 ⟨rfl, rfl⟩
    rw [HV.out]
    go_wp2_with fail
    go_ret
    exact ⟨rfl, rfl⟩
theorem codeMany_le (xs : List Clo) (m : Nat) : codeMany xs m ≤ 3 := by
  unfold codeMany
  split
  · split <;> omega
  · omega
theorem codeMany_zero {xs : List Clo} {m : Nat} (h : codeMany xs m = 0) : (∀ x ∈ xs, Clo.valid x = true) ∧ xs.length ≤ m := by
  unfold codeMany at h
  split at h
  · rename_i hv
    split at h
    · omega
    · exact ⟨fun x hx => List.all_eq_true.1 hv x hx, by omega⟩
  · omega
theorem code2 (xs : List Clo) (n m k1 k2 : Nat) (en : n = xs.length) (h1 : k1 = if xs.all Clo.valid = true then 0 else 1) (h2 : k2 = if m < n then 3 else 0) : firstCode [k1, k2] = codeMany xs m := by
  rw [h1, h2, codeMany, en]
  split
  · split <;> rfl
  · rfl

end Go.Proofs.YtjfimmfnhlimkaaDoor.hang

/-
  Sheets, valid or not, the program's and the model's; what is laid.
-/
namespace Go.Proofs.YtjfimmfnhlimkaaDoor.fold
open Go Go.RowKit sl errs

def inF (n lo hi : Int) : Bool := decide (lo ≤ n) && decide (n ≤ hi)
theorem inF_iff (n lo hi : Int) : inF n lo hi = true ↔ lo ≤ n ∧ n ≤ hi := by simp [inF]
theorem inF_no (n lo hi : Int) : inF n lo hi = false ↔ n < lo ∨ hi < n := by
  rw [← Bool.not_eq_true, inF_iff]
  omega
/-- a sheet is valid -/
def She.valid (x : She) : Bool := inF x.wide 1 1296 && (inF x.high 1 1296 && inF x.lay 1 144)
/-- what the bounds of a valid sheet are -/
structure Good (x : She) : Prop where
  w0 : 1 ≤ x.wide
  w1 : x.wide ≤ 1296
  h0 : 1 ≤ x.high
  h1 : x.high ≤ 1296
  l0 : 1 ≤ x.lay
  l1 : x.lay ≤ 144
theorem valid_iff (x : She) : She.valid x = true ↔ Good x := by
  simp only [She.valid, Bool.and_eq_true, inF_iff]
  constructor
  · rintro ⟨⟨a, b⟩, ⟨c, d⟩, e, f⟩
    exact ⟨a, b, c, d, e, f⟩
  · rintro ⟨a, b, c, d, e, f⟩
    exact ⟨⟨a, b⟩, ⟨c, d⟩, e, f⟩

theorem l00In_any (n lo hi : Int) (w : World) :
    Calls Tryd.prog 121 #[.int .i64 n, .int .i64 lo, .int .i64 hi] w fun o w' => o = .returned (.bool (inF n lo hi)) ∧ w = w' := by
  go_enter Tryd.func121, Tryd.ntmps121
  go_wp2_with fail
  all_goals go_ret
  all_goals exact ⟨ret_bool (by first | (simp [inF, *]; done) | (simp [inF]; omega)), rfl⟩
theorem l00In_b (n lo hi : Int) (b : Bool) (hb : inF n lo hi = b) (w : World) :
    Calls Tryd.prog 121 #[.int .i64 n, .int .i64 lo, .int .i64 hi] w fun o w' => o = .returned (.bool b) ∧ w = w' := by
  subst hb
  exact l00In_any n lo hi w
/-- a list of things that has been listed on the spot -/
theorem sl_listed {α : Type} {C : α → List Value} {sz : Nat} (hC : ∀ x : α, (C x).length = sz) (xs : List α) (vs : Array Value) (hv : vs = (xs.flatMap C).toArray) (T : TypeId) (u : World) :
    Sl C sz (u.alloc (.cells vs T)) (u.alloc (.cells vs T)).heap.size (some ⟨u.heap.size, 0, none⟩) xs :=
  ⟨fun k x hx => by
    subst hv
    refine ⟨_, rfl, by simp, fun j v hj => ?_⟩
    rw [add_lit, add_at, box_at (Below.refl (u.heap.size + 1) _) (by omega)]
    rw [List.getElem?_toArray]
    exact flat_get (fun y _ => hC y) hx hj⟩
/-- what is laid: how wide, how high, in how many layers -/
abbrev laidV (a b l : Int) : Value := .agg #[.int .i64 a, .int .i64 b, .int .i64 l]
abbrev sidesV (a b : Int) : Value := .agg #[.int .i64 a, .int .i64 b]
/-- what is laid lies in block b -/
abbrev LA (b : Nat) (p q r : Int) (W u : World) : Prop := u.cell? ⟨b, 0, none⟩ = some (.int .i64 p) ∧ u.cell? ⟨b, 1, none⟩ = some (.int .i64 q) ∧ u.cell? ⟨b, 2, none⟩ = some (.int .i64 r) ∧ b < u.heap.size ∧ Below W.heap.size W u
theorem LA.next {b : Nat} {p q r : Int} {W u v : World} (h : LA b p q r W u) (hb : Below u.heap.size u v) : LA b p q r W v := by
  obtain ⟨h0, h1, h2, h3, hB⟩ := h
  have hs := hb.size
  exact ⟨(hb.cell (p := ⟨b, 0, none⟩) h3).trans h0, (hb.cell (p := ⟨b, 1, none⟩) h3).trans h1, (hb.cell (p := ⟨b, 2, none⟩) h3).trans h2, by omega, below_next hB hb (Nat.le_refl _)⟩
theorem LA.below {b : Nat} {p q r : Int} {W u : World} (h : LA b p q r W u) : Below W.heap.size W u := h.2.2.2.2
theorem LA.new (p q r : Int) {W u : World} (h : Below W.heap.size W u) (T : TypeId) : LA u.heap.size p q r W (u.alloc (.cells #[.int .i64 p, .int .i64 q, .int .i64 r] T)) := by
  have k := fun i => box_at (Below.refl (u.heap.size + 1) (u.alloc (.cells #[.int .i64 p, .int .i64 q, .int .i64 r] T))) (by omega) i
  exact ⟨k 0, k 1, k 2, by simp, h.alloc h.size _⟩
end Go.Proofs.YtjfimmfnhlimkaaDoor.fold

/-
  AreaOf, the program's and the model's.
-/
namespace Go.Proofs.YtjfimmfnhlimkaaDoor.fold
open Go Go.RowKit sl errs

def codeS (x : She) : Nat := if She.valid x = true then 0 else 1
theorem codeS_le (x : She) : codeS x ≤ 1 := by unfold codeS; split <;> omega
def areaR (x : She) : Int := if She.valid x = true then x.wide * x.high * x.lay else 0
abbrev two (a b : Int) : Value := .tuple #[.int .i64 a, .int .i64 b]
theorem prod_le {x : She} (h : Good x) : 0 ≤ x.wide * x.high ∧ x.wide * x.high ≤ 1296 * 1296 ∧ 0 ≤ x.wide * x.high * x.lay ∧ x.wide * x.high * x.lay ≤ 1296 * 1296 * 144 := by
  obtain ⟨a, b, c, d, e, f⟩ := h
  have h1 : 0 ≤ x.wide * x.high := Int.mul_nonneg (by omega) (by omega)
  have h2 : x.wide * x.high ≤ 1296 * 1296 := Int.mul_le_mul b d (by omega) (by omega)
  exact ⟨h1, h2, Int.mul_nonneg h1 (by omega), Int.mul_le_mul h2 f (by omega) (by omega)⟩
end Go.Proofs.YtjfimmfnhlimkaaDoor.fold

/-
  FitsShelf, the program's and the model's; sheets that are turned.
-/
namespace Go.Proofs.YtjfimmfnhlimkaaDoor.fold
open Go Go.RowKit sl errs

/-- a sheet of these sides fits on a shelf -/
def fitsR (p q r a b l : Int) : Bool := decide (r ≤ l) && ((decide (p ≤ a) && decide (q ≤ b)) || (decide (p ≤ b) && decide (q ≤ a)))
theorem fitsR_iff (p q r a b l : Int) : fitsR p q r a b l = true ↔ r ≤ l ∧ ((p ≤ a ∧ q ≤ b) ∨ (p ≤ b ∧ q ≤ a)) := by simp [fitsR]
theorem fitsR_turn (p q r a b l : Int) : fitsR p q r a b l = (decide (r ≤ l) && ((decide (p ≤ a) && decide (q ≤ b)) || (decide (q ≤ a) && decide (p ≤ b)))) := by
  unfold fitsR
  rw [Bool.and_comm (decide (p ≤ b))]
/-- the code of a sheet and a shelf -/
def codeH (x : She) (a b l : Int) : Nat := if She.valid x = true then (if (inF a 1 1296 && (inF b 1 1296 && inF l 1 1296)) = true then 0 else 2) else 1
theorem codeH_le (x : She) (a b l : Int) : codeH x a b l ≤ 2 := by unfold codeH; split <;> (try split) <;> omega
/-- two that are laid lie in blocks b and b' -/
abbrev LB (b b' : Nat) (p q r p' q' r' : Int) (W u : World) : Prop :=
  u.cell? ⟨b, 0, none⟩ = some (.int .i64 p) ∧ u.cell? ⟨b, 1, none⟩ = some (.int .i64 q) ∧ u.cell? ⟨b, 2, none⟩ = some (.int .i64 r) ∧ u.cell? ⟨b', 0, none⟩ = some (.int .i64 p') ∧ u.cell? ⟨b', 1, none⟩ = some (.int .i64 q') ∧ u.cell? ⟨b', 2, none⟩ = some (.int .i64 r') ∧ b < u.heap.size ∧ b' < u.heap.size ∧ Below W.heap.size W u
theorem LB.next {b b' : Nat} {p q r p' q' r' : Int} {W u v : World} (h : LB b b' p q r p' q' r' W u) (hb : Below u.heap.size u v) : LB b b' p q r p' q' r' W v := by
  obtain ⟨h0, h1, h2, h3, h4, h5, hl, hl', hB⟩ := h
  have hs := hb.size
  exact ⟨(hb.cell (p := ⟨b, 0, none⟩) hl).trans h0, (hb.cell (p := ⟨b, 1, none⟩) hl).trans h1, (hb.cell (p := ⟨b, 2, none⟩) hl).trans h2, (hb.cell (p := ⟨b', 0, none⟩) hl').trans h3, (hb.cell (p := ⟨b', 1, none⟩) hl').trans h4, (hb.cell (p := ⟨b', 2, none⟩) hl').trans h5, by omega, by omega, below_next hB hb (Nat.le_refl _)⟩
theorem LB.below {b b' : Nat} {p q r p' q' r' : Int} {W u : World} (h : LB b b' p q r p' q' r' W u) : Below W.heap.size W u := h.2.2.2.2.2.2.2.2
theorem LB.new (p q r p' q' r' : Int) (w : World) (T T' : TypeId) : LB w.heap.size (w.heap.size + 1) p q r p' q' r' w ((w.alloc (.cells #[.int .i64 p, .int .i64 q, .int .i64 r] T)).alloc (.cells #[.int .i64 p', .int .i64 q', .int .i64 r'] T')) := by
  have h1 := LA.new p q r (Below.refl w.heap.size w) T
  have h2 := LA.new p' q' r' (Below.refl (w.alloc (.cells #[.int .i64 p, .int .i64 q, .int .i64 r] T)).heap.size _) T'
  have h3 := h1.next ((Below.refl _ _).alloc (Nat.le_refl _) (.cells #[.int .i64 p', .int .i64 q', .int .i64 r'] T'))
  have e : (w.alloc (.cells #[.int .i64 p, .int .i64 q, .int .i64 r] T)).heap.size = w.heap.size + 1 := by simp
  rw [e] at h2
  exact ⟨h3.1, h3.2.1, h3.2.2.1, h2.1, h2.2.1, h2.2.2.1, h3.2.2.2.1, h2.2.2.2.1, h3.below⟩
end Go.Proofs.YtjfimmfnhlimkaaDoor.fold

/-
  FitsShelf, the program's and the model's.
-/
namespace Go.Proofs.YtjfimmfnhlimkaaDoor.fold
open Go Go.RowKit sl errs

/-- what was laid into a block of its own still lies there -/
abbrev Box (b : Nat) (cs : List Value) (W u : World) : Prop := (∀ i v, cs[i]? = some v → u.cell? ⟨b, i, none⟩ = some v) ∧ b < u.heap.size ∧ Below W.heap.size W u
theorem Box.next {b : Nat} {cs : List Value} {W u v : World} (h : Box b cs W u) (hb : Below u.heap.size u v) : Box b cs W v :=
  ⟨fun i x hx => (hb.cell (p := ⟨b, i, none⟩) h.2.1).trans (h.1 i x hx), Nat.lt_of_lt_of_le h.2.1 hb.size, below_next h.2.2 hb (Nat.le_refl _)⟩
theorem Box.new (cs : List Value) {W u : World} (h : Below W.heap.size W u) (vs : Array Value) (hv : vs = cs.toArray) (T : TypeId) : Box u.heap.size cs W (u.alloc (.cells vs T)) :=
  ⟨fun i x hx => by
    subst hv
    rw [box_at (Below.refl (u.heap.size + 1) _) (by omega) i, List.getElem?_toArray]
    exact hx, by simp, h.alloc h.size _⟩
theorem Box.alloc {b : Nat} {cs : List Value} {W u : World} (h : Box b cs W u) (o : Obj) : Box b cs W (u.alloc o) := h.next ((Below.refl _ _).alloc (Nat.le_refl _) o)
abbrev boolInt (t : Bool) (c : Nat) : Value := .tuple #[.bool t, .int .i64 c]
/-- whether a sheet fits on a shelf that there may be -/
def fitsH (x : She) (a b l : Int) : Bool := decide (codeH x a b l = 0) && fitsR x.wide x.high x.lay a b l
theorem code3 (P Q R : Prop) [Decidable P] [Decidable Q] [Decidable R] : firstCode [if P then 0 else 2, if Q then 0 else 2, if R then 0 else 2] = if P ∧ Q ∧ R then 0 else 2 := by
  by_cases hp : P <;> by_cases hq : Q <;> by_cases hr : R <;> simp [hp, hq, hr, firstCode]
theorem code_shelf (a b l : Int) (k0 k1 k2 : Nat) (h0 : k0 = if 1 ≤ a ∧ a ≤ 1296 then 0 else 2) (h1 : k1 = if 1 ≤ b ∧ b ≤ 1296 then 0 else 2) (h2 : k2 = if 1 ≤ l ∧ l ≤ 1296 then 0 else 2) :
    firstCode [k0, k1, k2] = if (inF a 1 1296 && (inF b 1 1296 && inF l 1 1296)) = true then 0 else 2 := by
  simp only [Bool.and_eq_true, inF_iff]
  subst h0 h1 h2
  exact code3 _ _ _
theorem code_sheet_shelf (x : She) (a b l : Int) (k0 k1 : Nat) (h0 : k0 = if She.valid x = true then 0 else 1) (h1 : k1 = if (inF a 1 1296 && (inF b 1 1296 && inF l 1 1296)) = true then 0 else 2) :
    firstCode [k0, k1] = codeH x a b l := by
  unfold codeH
  cases hv : She.valid x
  · rw [hv] at h0; subst h0; rfl
  · rw [hv] at h0
    subst h0
    rw [← h1]
    cases k1 <;> rfl
end Go.Proofs.YtjfimmfnhlimkaaDoor.fold
