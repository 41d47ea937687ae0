/-
  Several texts of this proof, joined.
-/
import Derived.Test.YtdcckdfemelbiaaDoorJoin15
import Derived.Test.YtdcckdfemelbiaaDoorJoin16
import Derived.Test.YtdcckdfemelbiaaDoorJoin3
import Derived.Test.YtdcckdfemelbiaaDoorResRow
/-
  Numbers of pieces are checked, the program's.
-/
namespace Go.Proofs.YtdcckdfemelbiaaDoor.stk
open Go Go.RowKit sl errs

def pcsOk (xs : List Int) : Bool := xs.all fun x => decide (0 ≤ x ∧ x ≤ 500)
theorem pcsOk_iff {xs : List Int} : pcsOk xs = true ↔ ∀ x ∈ xs, 0 ≤ x ∧ x ≤ 500 := by simp [pcsOk, List.all_eq_true]
set_option maxRecDepth 100000 in
set_option maxHeartbeats 4000000 in
theorem checkPieces_any (A : Option Addr) (n c : Nat) (xs : List Int) (en : n = xs.length) (hn : n ≤ 9223372036854775807) {w : World} {B : Nat} {e : Nat → Addr} (h : Errs w B e) (hg : Sl intS.C 1 w w.heap.size A xs) (k0 : Nat) (hk : k0 = if pcsOk xs = true then 0 else 2) :
    Calls Tryd.prog 154 #[.slice A n c] w fun o w' => o = .returned (errOf e k0) ∧ w' = w := by
  have En := Lib.hid en
  have HK := Lib.hid hk
  have HE := Lib.hid h
  clear en hk h
  go_enter Tryd.func154, Tryd.ntmps154
  go_wp2_with fail
  go_loopw [8, 4, 5] (fun vi _ _ wr => ∃ k : Nat, k ≤ n ∧ vi = .int .i64 k ∧ (∀ i x, i < k → xs[i]? = some x → 0 ≤ x ∧ x ≤ 500) ∧ wr = w) (fun vi _ _ _ => n - (intOf vi).toNat)
  case atStart => exact ⟨0, by omega, rfl, fun i x hi => absurd hi (by omega), rfl⟩
  case round =>
    obtain ⟨k, hk, rfl, hval, rfl⟩ := hrel
    have HV := Lib.hid hval
    clear hval
    by_cases hlt : k < n
    · obtain ⟨x, hx⟩ : ∃ x, xs[k]? = some x := ⟨xs[k]'(by have := En.out; omega), List.getElem?_eq_getElem _⟩
      obtain ⟨a, rfl, hab, hat⟩ := hg.at_ k x hx
      have q0 := intS.at_ hat
      have HX := Lib.hid hx
      clear hx hat
      by_cases hin : 0 ≤ x ∧ x ≤ 500
      · have HI := Lib.hid hin
        have e0 : (if 0 ≤ x ∧ x ≤ 500 then 0 else 2) = 0 := if_pos hin
        have HE0 := Lib.hid e0
        clear hin e0
        go_wp2_with fail
        refine (checkWithin_any x 0 500 HE.out).mono ?_
        rintro o u ⟨rfl, rfl⟩
        rw [HE0.out]
        have e2 : errOf e 0 = .nilIface := rfl
        rw [e2]
        clear e2
        go_wp2_with fail
        go_roundw
        case rel => exact ⟨k + 1, by omega, by go_num, fun i y hi hy => by
          rcases Nat.lt_or_ge i k with h1 | h1
          · exact HV.out i y h1 hy
          · obtain rfl : i = k := by omega
            have := HX.out
            rw [hy] at this
            rw [Option.some.inj this]
            exact HI.out, by trivial⟩
        case measure => simp [intOf]; omega
      · have e0 : (if 0 ≤ x ∧ x ≤ 500 then 0 else 2) = 2 := if_neg hin
        have HE0 := Lib.hid e0
        have hk0 : k0 = 2 := by
          rw [HK.out, if_neg]
          rw [pcsOk_iff]
          exact fun h => hin (h x (List.mem_of_getElem? HX.out))
        subst hk0
        clear hin e0
        go_wp2_with fail
        refine (checkWithin_any x 0 500 HE.out).mono ?_
        rintro o u ⟨rfl, rfl⟩
        rw [HE0.out]
        have e2 : errOf e 2 = errV (e 1) := rfl
        rw [e2]
        clear e2
        go_wp2_with fail
        go_ret
        exact ⟨rfl, rfl⟩
    · have hk0 : k0 = 0 := by
        rw [HK.out, if_pos]
        rw [pcsOk_iff]
        intro x hx
        obtain ⟨i, hi⟩ := List.getElem?_of_mem hx
        exact HV.out i x (by have := (List.getElem?_eq_some_iff.1 hi).1; have := En.out; omega) hi
      subst hk0
      go_wp2_with fail
      go_ret
      exact ⟨rfl, rfl⟩
/-- one number, listed on the spot -/
theorem checkPiece1_any (x : Int) (T : TypeId) {u : World} (b : Nat) (hbk : b = u.heap.size) {B : Nat} {e : Nat → Addr} (h : Errs u B e) (hB : B ≤ u.heap.size) (k0 : Nat) (hk : k0 = if 0 ≤ x ∧ x ≤ 500 then 0 else 2) :
    Calls Tryd.prog 154 #[.slice (some ⟨b, 0, none⟩) 1 1] (u.alloc (.cells #[.int .i64 x] T)) fun o w' => o = .returned (errOf e k0) ∧ w' = u.alloc (.cells #[.int .i64 x] T) := by
  subst hbk
  exact checkPieces_any (some ⟨u.heap.size, 0, none⟩) 1 1 [x] rfl (by decide) (h.below ((Below.refl _ _).alloc hB _)) (listed (C := intS.C) (fun _ => rfl) [x] _ rfl T u) k0 (by rw [hk]; simp [pcsOk])
end Go.Proofs.YtdcckdfemelbiaaDoor.stk

/-
  Sheets, valid or not, the program's and the model's; what is laid.
-/
namespace Go.Proofs.YtdcckdfemelbiaaDoor.fold
open Go Go.RowKit sl errs

def inF (n lo hi : Int) : Bool := decide (lo ≤ n) && decide (n ≤ hi)
theorem inF_iff (n lo hi : Int) : inF n lo hi = true ↔ lo ≤ n ∧ n ≤ hi := by simp [inF]
theorem inF_no (n lo hi : Int) : inF n lo hi = false ↔ n < lo ∨ hi < n := by
  rw [← Bool.not_eq_true, inF_iff]
  omega
/-- a sheet is valid -/
def She.valid (x : She) : Bool := inF x.wide 1 1296 && (inF x.high 1 1296 && inF x.lay 1 144)
/-- what the bounds of a valid sheet are -/
structure Good (x : She) : Prop where
  w0 : 1 ≤ x.wide
  w1 : x.wide ≤ 1296
  h0 : 1 ≤ x.high
  h1 : x.high ≤ 1296
  l0 : 1 ≤ x.lay
  l1 : x.lay ≤ 144
theorem valid_iff (x : She) : She.valid x = true ↔ Good x := by
  simp only [She.valid, Bool.and_eq_true, inF_iff]
  constructor
  · rintro ⟨⟨a, b⟩, ⟨c, d⟩, e, f⟩
    exact ⟨a, b, c, d, e, f⟩
  · rintro ⟨a, b, c, d, e, f⟩
    exact ⟨⟨a, b⟩, ⟨c, d⟩, e, f⟩

theorem l00In_any (n lo hi : Int) (w : World) :
    Calls Tryd.prog 87 #[.int .i64 n, .int .i64 lo, .int .i64 hi] w fun o w' => o = .returned (.bool (inF n lo hi)) ∧ w = w' := by
  go_enter Tryd.func87, Tryd.ntmps87
  go_wp2_with fail
  all_goals go_ret
  all_goals exact ⟨ret_bool (by first | (simp [inF, *]; done) | (simp [inF]; omega)), rfl⟩
theorem l00In_b (n lo hi : Int) (b : Bool) (hb : inF n lo hi = b) (w : World) :
    Calls Tryd.prog 87 #[.int .i64 n, .int .i64 lo, .int .i64 hi] w fun o w' => o = .returned (.bool b) ∧ w = w' := by
  subst hb
  exact l00In_any n lo hi w
theorem l04Side_b (n : Int) (b : Bool) (hb : inF n 1 1296 = b) (w : World) :
    Calls Tryd.prog 131 #[.int .i64 n] w fun o w' => o = .returned (.bool b) ∧ w = w' := by
  go_enter Tryd.func131, Tryd.ntmps131
  go_wp2_with fail
  refine (l00In_b n 1 1296 b hb _).mono ?_
  rintro o u ⟨rfl, rfl⟩
  go_wp2_with fail
  go_ret
  exact ⟨rfl, rfl⟩
theorem l04Fold_b (n : Int) (b : Bool) (hb : inF n 0 3 = b) (w : World) :
    Calls Tryd.prog 119 #[.int .i64 n] w fun o w' => o = .returned (.bool b) ∧ w = w' := by
  go_enter Tryd.func119, Tryd.ntmps119
  go_wp2_with fail
  refine (l00In_b n 0 3 b hb _).mono ?_
  rintro o u ⟨rfl, rfl⟩
  go_wp2_with fail
  go_ret
  exact ⟨rfl, rfl⟩
set_option maxHeartbeats 1000000 in
theorem l04Ok_any (x : She) (hx : x.Fits) (w : World) :
    Calls Tryd.prog 86 #[x.v] w fun o w' => o = .returned (.bool (She.valid x)) ∧ Below w.heap.size w w' := by
  have B0 : Hid (Below w.heap.size w (w.alloc (.cells #[.int .i16 x.wide, .int .i16 x.high, .int .i16 x.lay] 44))) := Lib.hid (by repeat (first | exact Below.refl _ _ | assumption | apply Below.drew | (refine Below.alloc ?_ (by first | (simp; done) | (simp; omega) | omega) _) | (refine Below.setCell ?_ (by first | (simp; done) | (simp; omega) | omega) _)))
  obtain ⟨a, ha⟩ : ∃ a, inF x.wide 1 1296 = a := ⟨_, rfl⟩
  obtain ⟨b, hb⟩ : ∃ a, inF x.high 1 1296 = a := ⟨_, rfl⟩
  obtain ⟨c, hc⟩ : ∃ a, inF x.lay 1 144 = a := ⟨_, rfl⟩
  have e : She.valid x = (a && (b && c)) := by rw [She.valid, ha, hb, hc]
  rw [e]
  obtain ⟨p, q, r⟩ := x
  obtain ⟨a0, a1, a2, a3, a4, a5⟩ := hx
  simp only at a0 a1 a2 a3 a4 a5 ha hb hc
  have HA := Lib.hid ha
  have HB := Lib.hid hb
  have HC := Lib.hid hc
  clear ha hb hc e
  have c0 : IntKind.i64.wrap p = p := IntWalk.i64_in _ (by omega)
  have c1 : IntKind.i64.wrap q = q := IntWalk.i64_in _ (by omega)
  have c2 : IntKind.i64.wrap r = r := IntWalk.i64_in _ (by omega)
  go_enter Tryd.func86, Tryd.ntmps86
  go_wp2_with fail
  refine (l04Side_b p a HA.out _).mono ?_
  rintro o u ⟨rfl, rfl⟩
  cases a with
  | false =>
    go_wp2_with fail
    go_ret
    exact ⟨rfl, B0.out⟩
  | true =>
    go_wp2_with fail
    refine (l04Side_b q b HB.out _).mono ?_
    rintro o u ⟨rfl, rfl⟩
    cases b with
    | false =>
      go_wp2_with fail
      go_ret
      exact ⟨rfl, B0.out⟩
    | true =>
      go_wp2_with fail
      refine (l00In_b r 1 144 c HC.out _).mono ?_
      rintro o u ⟨rfl, rfl⟩
      cases c with
      | false =>
        go_wp2_with fail
        go_ret
        exact ⟨rfl, B0.out⟩
      | true =>
        go_wp2_with fail
        go_ret
        exact ⟨rfl, B0.out⟩
set_option maxHeartbeats 2000000 in
theorem ValidSheet_any (x : She) (hx : x.Fits) (w : World) :
    Calls Tryd.prog 133 #[x.v] w fun e w' => e = .returned (.bool (She.valid x)) ∧ Below w.heap.size w w' := by
  obtain ⟨p, q, r⟩ := x
  obtain ⟨a0, a1, a2, a3, a4, a5⟩ := hx
  simp only at a0 a1 a2 a3 a4 a5
  go_enter Tryd.func133, Tryd.ntmps133
  go_wp2
  all_goals go_ret
  all_goals refine ⟨ret_bool (by first | (simp [She.valid, inF, *]; done) | (simp [She.valid, inF]; omega)), ?_⟩
  all_goals repeat (first | exact Below.refl _ _ | assumption | apply Below.drew | (refine Below.alloc ?_ (by first | (simp; done) | (simp; omega) | omega) _) | (refine Below.setCell ?_ (by first | (simp; done) | (simp; omega) | omega) _))
/-- a list of things that has been listed on the spot -/
theorem sl_listed {α : Type} {C : α → List Value} {sz : Nat} (hC : ∀ x : α, (C x).length = sz) (xs : List α) (vs : Array Value) (hv : vs = (xs.flatMap C).toArray) (T : TypeId) (u : World) :
    Sl C sz (u.alloc (.cells vs T)) (u.alloc (.cells vs T)).heap.size (some ⟨u.heap.size, 0, none⟩) xs :=
  ⟨fun k x hx => by
    subst hv
    refine ⟨_, rfl, by simp, fun j v hj => ?_⟩
    rw [add_lit, add_at, box_at (Below.refl (u.heap.size + 1) _) (by omega)]
    rw [List.getElem?_toArray]
    exact flat_get (fun y _ => hC y) hx hj⟩
set_option maxRecDepth 100000 in
set_option maxHeartbeats 4000000 in
theorem checkSheets_any (A : Option Addr) (n c : Nat) (xs : List She) (en : n = xs.length) (hn : n ≤ 9223372036854775807) (hf : ∀ x ∈ xs, x.Fits) {w : World} {B : Nat} {e : Nat → Addr} (h : Errs w B e) (hB : B ≤ w.heap.size) (hg : Sl She.cells 3 w w.heap.size A xs)
    (k0 : Nat) (hk : k0 = if xs.all She.valid = true then 0 else 1) :
    Calls Tryd.prog 82 #[.slice A n c] w fun o w' => o = .returned (errOf e k0) ∧ Below w.heap.size w w' := by
  have En := Lib.hid en
  have HK := Lib.hid hk
  clear en hk
  go_enter Tryd.func82, Tryd.ntmps82
  go_wp2_with fail
  go_loopw [7, 4] (fun vi _ wr => ∃ k : Nat, k ≤ n ∧ vi = .int .i64 k ∧ (∀ i x, i < k → xs[i]? = some x → She.valid x = true) ∧ Below w.heap.size w wr) (fun vi _ _ => n - (intOf vi).toNat)
  case atStart => exact ⟨0, by omega, rfl, fun i x hi => absurd hi (by omega), Below.refl _ _⟩
  case round =>
    obtain ⟨k, hk, rfl, hval, hb⟩ := hrel
    have HV := Lib.hid hval
    have HB := Lib.hid hb
    clear hval hb
    by_cases hlt : k < n
    · obtain ⟨x, hx⟩ : ∃ x, xs[k]? = some x := ⟨xs[k]'(by have := En.out; omega), List.getElem?_eq_getElem _⟩
      obtain ⟨a, rfl, hab, hat⟩ := (hg.below HB.out).at_ k x hx
      obtain ⟨q0, q1, q2⟩ := sheS.at_ hat
      have hxf : x.Fits := hf x (List.mem_of_getElem? hx)
      have HX := Lib.hid hx
      clear hx hat
      cases hv : She.valid x with
      | true =>
        have HW := Lib.hid hv
        clear hv
        go_wp2_with fail
        refine (ValidSheet_any x hxf _).mono ?_
        rintro o w2 ⟨rfl, hb2⟩
        rw [HW.out]
        have HB2 := Lib.hid ((HB.out.alloc HB.out.size (.cells #[.int .i16 x.wide, .int .i16 x.high, .int .i16 x.lay] 44)).trans (hb2.mono (by have := HB.out.size; simp; omega)))
        clear q0 q1 q2 hb2
        go_wp2_with fail
        go_roundw
        case rel => exact ⟨k + 1, by omega, by go_num, fun i y hi hy => by
          rcases Nat.lt_or_ge i k with h1 | h1
          · exact HV.out i y h1 hy
          · obtain rfl : i = k := by omega
            have := HX.out
            rw [hy] at this
            rw [Option.some.inj this]
            exact HW.out, HB2.out⟩
        case measure => simp [intOf]; omega
      | false =>
        have HW := Lib.hid hv
        clear hv
        go_wp2_with fail
        refine (ValidSheet_any x hxf _).mono ?_
        rintro o w2 ⟨rfl, hb2⟩
        rw [HW.out]
        have HB2 := Lib.hid ((HB.out.alloc HB.out.size (.cells #[.int .i16 x.wide, .int .i16 x.high, .int .i16 x.lay] 44)).trans (hb2.mono (by have := HB.out.size; simp; omega)))
        have g0 := (h.below (HB2.out.mono hB)).c0
        clear q0 q1 q2 hb2
        go_wp2_with fail
        go_ret
        refine ⟨?_, HB2.out⟩
        rw [HK.out, all_not HX.out HW.out]
        rfl
    · go_wp2_with fail
      go_ret
      refine ⟨?_, HB.out⟩
      rw [HK.out, all_of_idx fun i x hi hx => HV.out i x (by have := En.out; omega) hx]
      rfl
/-- one sheet alone, listed on the spot -/
theorem check1_any (x : She) (hx : x.Fits) (T : TypeId) {u : World} (b : Nat) (hbk : b = u.heap.size) {B : Nat} {e : Nat → Addr} (h : Errs u B e) (hB : B ≤ u.heap.size) (k0 : Nat) (hk : k0 = if She.valid x = true then 0 else 1) :
    Calls Tryd.prog 82 #[.slice (some ⟨b, 0, none⟩) 1 1] (u.alloc (.cells #[.int .i16 x.wide, .int .i16 x.high, .int .i16 x.lay] T)) fun o w' => o = .returned (errOf e k0) ∧ Below u.heap.size u w' := by
  subst hbk
  exact (checkSheets_any (some ⟨u.heap.size, 0, none⟩) 1 1 [x] rfl (by decide) (fun y hy => by simp at hy; rw [hy]; exact hx) (h.below ((Below.refl _ _).alloc hB _)) (by simp; omega) (sl_listed (C := She.cells) (fun _ => rfl) [x] _ rfl T u) k0 (by rw [hk]; simp)).mono
    fun o w' ⟨h1, h2⟩ => ⟨h1, ((Below.refl _ _).alloc (Nat.le_refl _) _).trans (h2.mono (by simp))⟩
/-- two sheets, listed on the spot -/
theorem check2_any (x y : She) (hx : x.Fits) (hy : y.Fits) (T : TypeId) {u : World} (b : Nat) (hbk : b = u.heap.size) {B : Nat} {e : Nat → Addr} (h : Errs u B e) (hB : B ≤ u.heap.size) (k0 : Nat) (hk : k0 = if (She.valid x && She.valid y) = true then 0 else 1) :
    Calls Tryd.prog 82 #[.slice (some ⟨b, 0, none⟩) 2 2] (u.alloc (.cells #[.int .i16 x.wide, .int .i16 x.high, .int .i16 x.lay, .int .i16 y.wide, .int .i16 y.high, .int .i16 y.lay] T)) fun o w' => o = .returned (errOf e k0) ∧ Below u.heap.size u w' := by
  subst hbk
  exact (checkSheets_any (some ⟨u.heap.size, 0, none⟩) 2 2 [x, y] rfl (by decide) (fun z hz => by simp at hz; rcases hz with rfl | rfl <;> assumption) (h.below ((Below.refl _ _).alloc hB _)) (by simp; omega) (sl_listed (C := She.cells) (fun _ => rfl) [x, y] _ rfl T u) k0 (by rw [hk]; simp)).mono
    fun o w' ⟨h1, h2⟩ => ⟨h1, ((Below.refl _ _).alloc (Nat.le_refl _) _).trans (h2.mono (by simp))⟩
/-- what is laid: how wide, how high, in how many layers -/
abbrev laidV (a b l : Int) : Value := .agg #[.int .i64 a, .int .i64 b, .int .i64 l]
abbrev sidesV (a b : Int) : Value := .agg #[.int .i64 a, .int .i64 b]
/-- what is laid lies in block b -/
abbrev LA (b : Nat) (p q r : Int) (W u : World) : Prop := u.cell? ⟨b, 0, none⟩ = some (.int .i64 p) ∧ u.cell? ⟨b, 1, none⟩ = some (.int .i64 q) ∧ u.cell? ⟨b, 2, none⟩ = some (.int .i64 r) ∧ b < u.heap.size ∧ Below W.heap.size W u
theorem LA.next {b : Nat} {p q r : Int} {W u v : World} (h : LA b p q r W u) (hb : Below u.heap.size u v) : LA b p q r W v := by
  obtain ⟨h0, h1, h2, h3, hB⟩ := h
  have hs := hb.size
  exact ⟨(hb.cell (p := ⟨b, 0, none⟩) h3).trans h0, (hb.cell (p := ⟨b, 1, none⟩) h3).trans h1, (hb.cell (p := ⟨b, 2, none⟩) h3).trans h2, by omega, below_next hB hb (Nat.le_refl _)⟩
theorem LA.below {b : Nat} {p q r : Int} {W u : World} (h : LA b p q r W u) : Below W.heap.size W u := h.2.2.2.2
theorem LA.new (p q r : Int) {W u : World} (h : Below W.heap.size W u) (T : TypeId) : LA u.heap.size p q r W (u.alloc (.cells #[.int .i64 p, .int .i64 q, .int .i64 r] T)) := by
  have k := fun i => box_at (Below.refl (u.heap.size + 1) (u.alloc (.cells #[.int .i64 p, .int .i64 q, .int .i64 r] T))) (by omega) i
  exact ⟨k 0, k 1, k 2, by simp, h.alloc h.size _⟩
set_option maxHeartbeats 1000000 in
theorem laidOf_any (x : She) (hx : x.Fits) (w : World) :
    Calls Tryd.prog 134 #[x.v] w fun o w' => o = .returned (laidV x.wide x.high x.lay) ∧ Below w.heap.size w w' := by
  obtain ⟨p, q, r⟩ := x
  obtain ⟨a0, a1, a2, a3, a4, a5⟩ := hx
  simp only at a0 a1 a2 a3 a4 a5
  have c0 : IntKind.i64.wrap p = p := IntWalk.i64_in _ (by omega)
  have c1 : IntKind.i64.wrap q = q := IntWalk.i64_in _ (by omega)
  have c2 : IntKind.i64.wrap r = r := IntWalk.i64_in _ (by omega)
  go_enter Tryd.func134, Tryd.ntmps134
  go_wp2
  refine bodyPost_ret (v := laidV p q r) (by simp [results, Tryd.results134, go_sem]) rfl ⟨rfl, ?_⟩
  repeat (first | exact Below.refl _ _ | assumption | apply Below.drew | (refine Below.alloc ?_ (by first | (simp; done) | (simp; omega) | omega) _) | (refine Below.setCell ?_ (by first | (simp; done) | (simp; omega) | omega) _))
set_option maxHeartbeats 1000000 in
/-- .. and what it makes, to the block -/
theorem laidOf_exact (x : She) (hx : x.Fits) (w : World) :
    Calls Tryd.prog 134 #[x.v] w fun o w' => o = .returned (laidV x.wide x.high x.lay) ∧ (w.alloc (.cells #[.int .i16 x.wide, .int .i16 x.high, .int .i16 x.lay] 44)).alloc (.cells #[.int .i64 x.wide, .int .i64 x.high, .int .i64 x.lay] 112) = w' := by
  obtain ⟨p, q, r⟩ := x
  obtain ⟨a0, a1, a2, a3, a4, a5⟩ := hx
  simp only at a0 a1 a2 a3 a4 a5
  have c0 : IntKind.i64.wrap p = p := IntWalk.i64_in _ (by omega)
  have c1 : IntKind.i64.wrap q = q := IntWalk.i64_in _ (by omega)
  have c2 : IntKind.i64.wrap r = r := IntWalk.i64_in _ (by omega)
  go_enter Tryd.func134, Tryd.ntmps134
  go_wp2
  refine bodyPost_ret (v := laidV p q r) (by simp [results, Tryd.results134, go_sem]) rfl ⟨rfl, ?_⟩
  rfl
theorem laidOf_parts (p q r : Int) (hx : She.Fits ⟨p, q, r⟩) (w : World) :
    Calls Tryd.prog 134 #[.agg #[.int .i16 p, .int .i16 q, .int .i16 r]] w fun o w' => o = .returned (laidV p q r) ∧ (w.alloc (.cells #[.int .i16 p, .int .i16 q, .int .i16 r] 44)).alloc (.cells #[.int .i64 p, .int .i64 q, .int .i64 r] 112) = w' := laidOf_exact ⟨p, q, r⟩ hx w
set_option maxHeartbeats 1000000 in
theorem sheet_any (x : She) (hx : x.Fits) (w : World) :
    Calls Tryd.prog 94 #[laidV x.wide x.high x.lay] w fun o w' => o = .returned x.v ∧ Below w.heap.size w w' := by
  obtain ⟨p, q, r⟩ := x
  obtain ⟨a0, a1, a2, a3, a4, a5⟩ := hx
  simp only at a0 a1 a2 a3 a4 a5
  have c0 : IntKind.i16.wrap p = p := IntWalk.i16_in _ (by omega)
  have c1 : IntKind.i16.wrap q = q := IntWalk.i16_in _ (by omega)
  have c2 : IntKind.i16.wrap r = r := IntWalk.i16_in _ (by omega)
  go_enter Tryd.func94, Tryd.ntmps94
  go_wp2
  refine bodyPost_ret (v := .agg #[.int .i16 p, .int .i16 q, .int .i16 r]) (by simp [results, Tryd.results94, go_sem]) rfl ⟨rfl, ?_⟩
  repeat (first | exact Below.refl _ _ | assumption | apply Below.drew | (refine Below.alloc ?_ (by first | (simp; done) | (simp; omega) | omega) _) | (refine Below.setCell ?_ (by first | (simp; done) | (simp; omega) | omega) _))
set_option maxHeartbeats 1000000 in
theorem area_any (a b : Int) (ha : 0 ≤ a ∧ a ≤ 1000000) (hb : 0 ≤ b ∧ b ≤ 1000000) (w : World) :
    Calls Tryd.prog 93 #[sidesV a b] w fun o w' => o = .returned (.int .i64 (a * b)) ∧ Below w.heap.size w w' := by
  have h : a * b ≤ 1000000 * 1000000 := Int.mul_le_mul ha.2 hb.2 hb.1 (by omega)
  have h0 : 0 ≤ a * b := Int.mul_nonneg ha.1 hb.1
  have c0 : wrap64 (a * b) = a * b := by unfold wrap64; omega
  go_enter Tryd.func93, Tryd.ntmps93
  go_wp2
  go_ret
  refine ⟨?_, ?_⟩
  · first | rfl | exact ret_int c0
  repeat (first | exact Below.refl _ _ | assumption | apply Below.drew | (refine Below.alloc ?_ (by first | (simp; done) | (simp; omega) | omega) _) | (refine Below.setCell ?_ (by first | (simp; done) | (simp; omega) | omega) _))
end Go.Proofs.YtdcckdfemelbiaaDoor.fold
