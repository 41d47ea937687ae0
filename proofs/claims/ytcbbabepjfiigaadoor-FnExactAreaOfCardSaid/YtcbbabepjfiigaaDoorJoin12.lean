/-
  Several texts of this proof, joined.
-/
import Derived.Test.YtcbbabepjfiigaaDoorSheS
import Derived.Test.YtcbbabepjfiigaaDoorJoin10
import Derived.Test.YtcbbabepjfiigaaDoorResRow
/-
  Sheets, valid or not, the program's and the model's; what is laid.
-/
namespace Go.Proofs.YtcbbabepjfiigaaDoor.fold
open Go Go.RowKit sl errs

def inB (n lo hi : Int) : Bool := decide (lo ≤ n) && decide (n ≤ hi)
theorem inB_iff (n lo hi : Int) : inB n lo hi = true ↔ lo ≤ n ∧ n ≤ hi := by simp [inB]
theorem inB_no (n lo hi : Int) : inB n lo hi = false ↔ n < lo ∨ hi < n := by
  rw [← Bool.not_eq_true, inB_iff]
  omega
/-- a sheet is valid -/
def She.valid (x : She) : Bool := inB x.wide 1 1296 && (inB x.high 1 1296 && inB x.lay 1 144)
/-- what the bounds of a valid sheet are -/
structure Good (x : She) : Prop where
  w0 : 1 ≤ x.wide
  w1 : x.wide ≤ 1296
  h0 : 1 ≤ x.high
  h1 : x.high ≤ 1296
  l0 : 1 ≤ x.lay
  l1 : x.lay ≤ 144
theorem valid_iff (x : She) : She.valid x = true ↔ Good x := by
  simp only [She.valid, Bool.and_eq_true, inB_iff]
  constructor
  · rintro ⟨⟨a, b⟩, ⟨c, d⟩, e, f⟩
    exact ⟨a, b, c, d, e, f⟩
  · rintro ⟨a, b, c, d, e, f⟩
    exact ⟨⟨a, b⟩, ⟨c, d⟩, e, f⟩

theorem l00In_any (n lo hi : Int) (w : World) :
    Calls Tryd.prog 73 #[.int .i64 n, .int .i64 lo, .int .i64 hi] w fun o w' => o = .returned (.bool (inB n lo hi)) ∧ w = w' := by
  go_enter Tryd.func73, Tryd.ntmps73
  go_wp2_with fail
  all_goals go_ret
  all_goals exact ⟨ret_bool (by first | (simp [inB, *]; done) | (simp [inB]; omega)), rfl⟩
theorem l00In_b (n lo hi : Int) (b : Bool) (hb : inB n lo hi = b) (w : World) :
    Calls Tryd.prog 73 #[.int .i64 n, .int .i64 lo, .int .i64 hi] w fun o w' => o = .returned (.bool b) ∧ w = w' := by
  subst hb
  exact l00In_any n lo hi w
theorem l04Side_b (n : Int) (b : Bool) (hb : inB n 1 1296 = b) (w : World) :
    Calls Tryd.prog 77 #[.int .i64 n] w fun o w' => o = .returned (.bool b) ∧ w = w' := by
  go_enter Tryd.func77, Tryd.ntmps77
  go_wp2_with fail
  refine (l00In_b n 1 1296 b hb _).mono ?_
  rintro o u ⟨rfl, rfl⟩
  go_wp2_with fail
  go_ret
  exact ⟨rfl, rfl⟩
theorem l04Fold_b (n : Int) (b : Bool) (hb : inB n 0 3 = b) (w : World) :
    Calls Tryd.prog 58 #[.int .i64 n] w fun o w' => o = .returned (.bool b) ∧ w = w' := by
  go_enter Tryd.func58, Tryd.ntmps58
  go_wp2_with fail
  refine (l00In_b n 0 3 b hb _).mono ?_
  rintro o u ⟨rfl, rfl⟩
  go_wp2_with fail
  go_ret
  exact ⟨rfl, rfl⟩
set_option maxHeartbeats 1000000 in
theorem l04Ok_any (x : She) (hx : x.Fits) (w : World) :
    Calls Tryd.prog 48 #[x.v] w fun o w' => o = .returned (.bool (She.valid x)) ∧ Below w.heap.size w w' := by
  have B0 : Hid (Below w.heap.size w (w.alloc (.cells #[.int .i16 x.wide, .int .i16 x.high, .int .i16 x.lay] 25))) := Lib.hid (by repeat (first | exact Below.refl _ _ | assumption | apply Below.drew | (refine Below.alloc ?_ (by first | (simp; done) | (simp; omega) | omega) _) | (refine Below.setCell ?_ (by first | (simp; done) | (simp; omega) | omega) _)))
  obtain ⟨a, ha⟩ : ∃ a, inB x.wide 1 1296 = a := ⟨_, rfl⟩
  obtain ⟨b, hb⟩ : ∃ a, inB x.high 1 1296 = a := ⟨_, rfl⟩
  obtain ⟨c, hc⟩ : ∃ a, inB x.lay 1 144 = a := ⟨_, rfl⟩
  have e : She.valid x = (a && (b && c)) := by rw [She.valid, ha, hb, hc]
  rw [e]
  obtain ⟨p, q, r⟩ := x
  obtain ⟨a0, a1, a2, a3, a4, a5⟩ := hx
  simp only at a0 a1 a2 a3 a4 a5 ha hb hc
  have HA := Lib.hid ha
  have HB := Lib.hid hb
  have HC := Lib.hid hc
  clear ha hb hc e
  have c0 : IntKind.i64.wrap p = p := IntWalk.i64_in _ (by omega)
  have c1 : IntKind.i64.wrap q = q := IntWalk.i64_in _ (by omega)
  have c2 : IntKind.i64.wrap r = r := IntWalk.i64_in _ (by omega)
  go_enter Tryd.func48, Tryd.ntmps48
  go_wp2_with fail
  refine (l04Side_b p a HA.out _).mono ?_
  rintro o u ⟨rfl, rfl⟩
  cases a with
  | false =>
    go_wp2_with fail
    go_ret
    exact ⟨rfl, B0.out⟩
  | true =>
    go_wp2_with fail
    refine (l04Side_b q b HB.out _).mono ?_
    rintro o u ⟨rfl, rfl⟩
    cases b with
    | false =>
      go_wp2_with fail
      go_ret
      exact ⟨rfl, B0.out⟩
    | true =>
      go_wp2_with fail
      refine (l00In_b r 1 144 c HC.out _).mono ?_
      rintro o u ⟨rfl, rfl⟩
      cases c with
      | false =>
        go_wp2_with fail
        go_ret
        exact ⟨rfl, B0.out⟩
      | true =>
        go_wp2_with fail
        go_ret
        exact ⟨rfl, B0.out⟩
set_option maxHeartbeats 2000000 in
theorem ValidSheet_any (x : She) (hx : x.Fits) (w : World) :
    Calls Tryd.prog 83 #[x.v] w fun e w' => e = .returned (.bool (She.valid x)) ∧ Below w.heap.size w w' := by
  obtain ⟨p, q, r⟩ := x
  obtain ⟨a0, a1, a2, a3, a4, a5⟩ := hx
  simp only at a0 a1 a2 a3 a4 a5
  go_enter Tryd.func83, Tryd.ntmps83
  go_wp2
  all_goals go_ret
  all_goals refine ⟨ret_bool (by first | (simp [She.valid, inB, *]; done) | (simp [She.valid, inB]; omega)), ?_⟩
  all_goals repeat (first | exact Below.refl _ _ | assumption | apply Below.drew | (refine Below.alloc ?_ (by first | (simp; done) | (simp; omega) | omega) _) | (refine Below.setCell ?_ (by first | (simp; done) | (simp; omega) | omega) _))
/-- a list of things that has been listed on the spot -/
theorem sl_listed {α : Type} {C : α → List Value} {sz : Nat} (hC : ∀ x : α, (C x).length = sz) (xs : List α) (vs : Array Value) (hv : vs = (xs.flatMap C).toArray) (T : TypeId) (u : World) :
    Sl C sz (u.alloc (.cells vs T)) (u.alloc (.cells vs T)).heap.size (some ⟨u.heap.size, 0, none⟩) xs :=
  ⟨fun k x hx => by
    subst hv
    refine ⟨_, rfl, by simp, fun j v hj => ?_⟩
    rw [add_lit, add_at, box_at (Below.refl (u.heap.size + 1) _) (by omega)]
    rw [List.getElem?_toArray]
    exact flat_get (fun y _ => hC y) hx hj⟩
set_option maxRecDepth 100000 in
set_option maxHeartbeats 4000000 in
theorem checkSheets_any (A : Option Addr) (n c : Nat) (xs : List She) (en : n = xs.length) (hn : n ≤ 9223372036854775807) (hf : ∀ x ∈ xs, x.Fits) {w : World} {B : Nat} {e : Nat → Addr} (h : Errs w B e) (hB : B ≤ w.heap.size) (hg : Sl She.cells 3 w w.heap.size A xs)
    (k0 : Nat) (hk : k0 = if xs.all She.valid = true then 0 else 1) :
    Calls Tryd.prog 54 #[.slice A n c] w fun o w' => o = .returned (errOf e k0) ∧ Below w.heap.size w w' := by
  have En := Lib.hid en
  have HK := Lib.hid hk
  clear en hk
  go_enter Tryd.func54, Tryd.ntmps54
  go_wp2_with fail
  go_loopw [7, 4] (fun vi _ wr => ∃ k : Nat, k ≤ n ∧ vi = .int .i64 k ∧ (∀ i x, i < k → xs[i]? = some x → She.valid x = true) ∧ Below w.heap.size w wr) (fun vi _ _ => n - (intOf vi).toNat)
  case atStart => exact ⟨0, by omega, rfl, fun i x hi => absurd hi (by omega), Below.refl _ _⟩
  case round =>
    obtain ⟨k, hk, rfl, hval, hb⟩ := hrel
    have HV := Lib.hid hval
    have HB := Lib.hid hb
    clear hval hb
    by_cases hlt : k < n
    · obtain ⟨x, hx⟩ : ∃ x, xs[k]? = some x := ⟨xs[k]'(by have := En.out; omega), List.getElem?_eq_getElem _⟩
      obtain ⟨a, rfl, hab, hat⟩ := (hg.below HB.out).at_ k x hx
      obtain ⟨q0, q1, q2⟩ := sheS.at_ hat
      have hxf : x.Fits := hf x (List.mem_of_getElem? hx)
      have HX := Lib.hid hx
      clear hx hat
      cases hv : She.valid x with
      | true =>
        have HW := Lib.hid hv
        clear hv
        go_wp2_with fail
        refine (ValidSheet_any x hxf _).mono ?_
        rintro o w2 ⟨rfl, hb2⟩
        rw [HW.out]
        have HB2 := Lib.hid ((HB.out.alloc HB.out.size (.cells #[.int .i16 x.wide, .int .i16 x.high, .int .i16 x.lay] 25)).trans (hb2.mono (by have := HB.out.size; simp; omega)))
        clear q0 q1 q2 hb2
        go_wp2_with fail
        go_roundw
        case rel => exact ⟨k + 1, by omega, by go_num, fun i y hi hy => by
          rcases Nat.lt_or_ge i k with h1 | h1
          · exact HV.out i y h1 hy
          · obtain rfl : i = k := by omega
            have := HX.out
            rw [hy] at this
            rw [Option.some.inj this]
            exact HW.out, HB2.out⟩
        case measure => simp [intOf]; omega
      | false =>
        have HW := Lib.hid hv
        clear hv
        go_wp2_with fail
        refine (ValidSheet_any x hxf _).mono ?_
        rintro o w2 ⟨rfl, hb2⟩
        rw [HW.out]
        have HB2 := Lib.hid ((HB.out.alloc HB.out.size (.cells #[.int .i16 x.wide, .int .i16 x.high, .int .i16 x.lay] 25)).trans (hb2.mono (by have := HB.out.size; simp; omega)))
        have g0 := (h.below (HB2.out.mono hB)).c0
        clear q0 q1 q2 hb2
        go_wp2_with fail
        go_ret
        refine ⟨?_, HB2.out⟩
        rw [HK.out, all_not HX.out HW.out]
        rfl
    · go_wp2_with fail
      go_ret
      refine ⟨?_, HB.out⟩
      rw [HK.out, all_of_idx fun i x hi hx => HV.out i x (by have := En.out; omega) hx]
      rfl
/-- one sheet alone, listed on the spot -/
theorem check1_any (x : She) (hx : x.Fits) (T : TypeId) {u : World} (b : Nat) (hbk : b = u.heap.size) {B : Nat} {e : Nat → Addr} (h : Errs u B e) (hB : B ≤ u.heap.size) (k0 : Nat) (hk : k0 = if She.valid x = true then 0 else 1) :
    Calls Tryd.prog 54 #[.slice (some ⟨b, 0, none⟩) 1 1] (u.alloc (.cells #[.int .i16 x.wide, .int .i16 x.high, .int .i16 x.lay] T)) fun o w' => o = .returned (errOf e k0) ∧ Below u.heap.size u w' := by
  subst hbk
  exact (checkSheets_any (some ⟨u.heap.size, 0, none⟩) 1 1 [x] rfl (by decide) (fun y hy => by simp at hy; rw [hy]; exact hx) (h.below ((Below.refl _ _).alloc hB _)) (by simp; omega) (sl_listed (C := She.cells) (fun _ => rfl) [x] _ rfl T u) k0 (by rw [hk]; simp)).mono
    fun o w' ⟨h1, h2⟩ => ⟨h1, ((Below.refl _ _).alloc (Nat.le_refl _) _).trans (h2.mono (by simp))⟩
/-- two sheets, listed on the spot -/
theorem check2_any (x y : She) (hx : x.Fits) (hy : y.Fits) (T : TypeId) {u : World} (b : Nat) (hbk : b = u.heap.size) {B : Nat} {e : Nat → Addr} (h : Errs u B e) (hB : B ≤ u.heap.size) (k0 : Nat) (hk : k0 = if (She.valid x && She.valid y) = true then 0 else 1) :
    Calls Tryd.prog 54 #[.slice (some ⟨b, 0, none⟩) 2 2] (u.alloc (.cells #[.int .i16 x.wide, .int .i16 x.high, .int .i16 x.lay, .int .i16 y.wide, .int .i16 y.high, .int .i16 y.lay] T)) fun o w' => o = .returned (errOf e k0) ∧ Below u.heap.size u w' := by
  subst hbk
  exact (checkSheets_any (some ⟨u.heap.size, 0, none⟩) 2 2 [x, y] rfl (by decide) (fun z hz => by simp at hz; rcases hz with rfl | rfl <;> assumption) (h.below ((Below.refl _ _).alloc hB _)) (by simp; omega) (sl_listed (C := She.cells) (fun _ => rfl) [x, y] _ rfl T u) k0 (by rw [hk]; simp)).mono
    fun o w' ⟨h1, h2⟩ => ⟨h1, ((Below.refl _ _).alloc (Nat.le_refl _) _).trans (h2.mono (by simp))⟩
/-- what is laid: how wide, how high, in how many layers -/
abbrev laidV (a b l : Int) : Value := .agg #[.int .i64 a, .int .i64 b, .int .i64 l]
abbrev sidesV (a b : Int) : Value := .agg #[.int .i64 a, .int .i64 b]
/-- what is laid lies in block b -/
abbrev LA (b : Nat) (p q r : Int) (W u : World) : Prop := u.cell? ⟨b, 0, none⟩ = some (.int .i64 p) ∧ u.cell? ⟨b, 1, none⟩ = some (.int .i64 q) ∧ u.cell? ⟨b, 2, none⟩ = some (.int .i64 r) ∧ b < u.heap.size ∧ Below W.heap.size W u
theorem LA.next {b : Nat} {p q r : Int} {W u v : World} (h : LA b p q r W u) (hb : Below u.heap.size u v) : LA b p q r W v := by
  obtain ⟨h0, h1, h2, h3, hB⟩ := h
  have hs := hb.size
  exact ⟨(hb.cell (p := ⟨b, 0, none⟩) h3).trans h0, (hb.cell (p := ⟨b, 1, none⟩) h3).trans h1, (hb.cell (p := ⟨b, 2, none⟩) h3).trans h2, by omega, below_next hB hb (Nat.le_refl _)⟩
theorem LA.below {b : Nat} {p q r : Int} {W u : World} (h : LA b p q r W u) : Below W.heap.size W u := h.2.2.2.2
theorem LA.new (p q r : Int) {W u : World} (h : Below W.heap.size W u) (T : TypeId) : LA u.heap.size p q r W (u.alloc (.cells #[.int .i64 p, .int .i64 q, .int .i64 r] T)) := by
  have k := fun i => box_at (Below.refl (u.heap.size + 1) (u.alloc (.cells #[.int .i64 p, .int .i64 q, .int .i64 r] T))) (by omega) i
  exact ⟨k 0, k 1, k 2, by simp, h.alloc h.size _⟩
set_option maxHeartbeats 1000000 in
theorem laidOf_any (x : She) (hx : x.Fits) (w : World) :
    Calls Tryd.prog 56 #[x.v] w fun o w' => o = .returned (laidV x.wide x.high x.lay) ∧ Below w.heap.size w w' := by
  obtain ⟨p, q, r⟩ := x
  obtain ⟨a0, a1, a2, a3, a4, a5⟩ := hx
  simp only at a0 a1 a2 a3 a4 a5
  have c0 : IntKind.i64.wrap p = p := IntWalk.i64_in _ (by omega)
  have c1 : IntKind.i64.wrap q = q := IntWalk.i64_in _ (by omega)
  have c2 : IntKind.i64.wrap r = r := IntWalk.i64_in _ (by omega)
  go_enter Tryd.func56, Tryd.ntmps56
  go_wp2
  refine bodyPost_ret (v := laidV p q r) (by simp [results, Tryd.results56, go_sem]) rfl ⟨rfl, ?_⟩
  repeat (first | exact Below.refl _ _ | assumption | apply Below.drew | (refine Below.alloc ?_ (by first | (simp; done) | (simp; omega) | omega) _) | (refine Below.setCell ?_ (by first | (simp; done) | (simp; omega) | omega) _))
set_option maxHeartbeats 1000000 in
theorem sheet_any (x : She) (hx : x.Fits) (w : World) :
    Calls Tryd.prog 79 #[laidV x.wide x.high x.lay] w fun o w' => o = .returned x.v ∧ Below w.heap.size w w' := by
  obtain ⟨p, q, r⟩ := x
  obtain ⟨a0, a1, a2, a3, a4, a5⟩ := hx
  simp only at a0 a1 a2 a3 a4 a5
  have c0 : IntKind.i16.wrap p = p := IntWalk.i16_in _ (by omega)
  have c1 : IntKind.i16.wrap q = q := IntWalk.i16_in _ (by omega)
  have c2 : IntKind.i16.wrap r = r := IntWalk.i16_in _ (by omega)
  go_enter Tryd.func79, Tryd.ntmps79
  go_wp2
  refine bodyPost_ret (v := .agg #[.int .i16 p, .int .i16 q, .int .i16 r]) (by simp [results, Tryd.results79, go_sem]) rfl ⟨rfl, ?_⟩
  repeat (first | exact Below.refl _ _ | assumption | apply Below.drew | (refine Below.alloc ?_ (by first | (simp; done) | (simp; omega) | omega) _) | (refine Below.setCell ?_ (by first | (simp; done) | (simp; omega) | omega) _))
set_option maxHeartbeats 1000000 in
theorem area_any (a b : Int) (ha : 0 ≤ a ∧ a ≤ 1000000) (hb : 0 ≤ b ∧ b ≤ 1000000) (w : World) :
    Calls Tryd.prog 57 #[sidesV a b] w fun o w' => o = .returned (.int .i64 (a * b)) ∧ Below w.heap.size w w' := by
  have h : a * b ≤ 1000000 * 1000000 := Int.mul_le_mul ha.2 hb.2 hb.1 (by omega)
  have h0 : 0 ≤ a * b := Int.mul_nonneg ha.1 hb.1
  have c0 : wrap64 (a * b) = a * b := by unfold wrap64; omega
  go_enter Tryd.func57, Tryd.ntmps57
  go_wp2
  go_ret
  refine ⟨?_, ?_⟩
  · first | rfl | exact ret_int c0
  repeat (first | exact Below.refl _ _ | assumption | apply Below.drew | (refine Below.alloc ?_ (by first | (simp; done) | (simp; omega) | omega) _) | (refine Below.setCell ?_ (by first | (simp; done) | (simp; omega) | omega) _))
end Go.Proofs.YtcbbabepjfiigaaDoor.fold

/-
  AreaOf, the program's and the model's.
-/
namespace Go.Proofs.YtcbbabepjfiigaaDoor.fold
open Go Go.RowKit sl errs

def codeS (x : She) : Nat := if She.valid x = true then 0 else 1
theorem codeS_le (x : She) : codeS x ≤ 1 := by unfold codeS; split <;> omega
def areaR (x : She) : Int := if She.valid x = true then x.wide * x.high * x.lay else 0
abbrev two (a b : Int) : Value := .tuple #[.int .i64 a, .int .i64 b]
theorem prod_le {x : She} (h : Good x) : 0 ≤ x.wide * x.high ∧ x.wide * x.high ≤ 1296 * 1296 ∧ 0 ≤ x.wide * x.high * x.lay ∧ x.wide * x.high * x.lay ≤ 1296 * 1296 * 144 := by
  obtain ⟨a, b, c, d, e, f⟩ := h
  have h1 : 0 ≤ x.wide * x.high := Int.mul_nonneg (by omega) (by omega)
  have h2 : x.wide * x.high ≤ 1296 * 1296 := Int.mul_le_mul b d (by omega) (by omega)
  exact ⟨h1, h2, Int.mul_nonneg h1 (by omega), Int.mul_le_mul h2 f (by omega) (by omega)⟩
set_option maxHeartbeats 2000000 in
theorem AreaOf_spec (x : She) (hx : x.Fits) (w : World) :
    Calls Tryd.prog 26 #[x.v] w fun o w' => o = .returned (two (areaR x) (codeS x)) ∧ Below w.heap.size w w' := by
  have B0 : Hid (Below w.heap.size w (w.alloc (.cells #[.int .i16 x.wide, .int .i16 x.high, .int .i16 x.lay] 25))) := Lib.hid (by repeat (first | exact Below.refl _ _ | assumption | apply Below.drew | (refine Below.alloc ?_ (by first | (simp; done) | (simp; omega) | omega) _) | (refine Below.setCell ?_ (by first | (simp; done) | (simp; omega) | omega) _)))
  have hx2 := hx
  obtain ⟨a0, a1, a2, a3, a4, a5⟩ := hx2
  have c0 : IntKind.i64.wrap x.wide = x.wide := IntWalk.i64_in _ (by omega)
  have c1 : IntKind.i64.wrap x.high = x.high := IntWalk.i64_in _ (by omega)
  have c2 : IntKind.i64.wrap x.lay = x.lay := IntWalk.i64_in _ (by omega)
  cases hv : She.valid x with
  | false =>
    have e0 : codeS x = 1 := by rw [codeS, hv]; rfl
    have e1 : areaR x = 0 := by rw [areaR, hv]; rfl
    rw [e0, e1]
    go_enter Tryd.func26, Tryd.ntmps26
    go_wp2_with fail
    refine (l04Ok_any x hx _).mono ?_
    rintro o w2 ⟨rfl, hb⟩
    rw [hv]
    have HB := Lib.hid (below_next B0.out hb (by simp))
    clear hb B0
    go_wp2_with fail
    go_ret2
    exact ⟨rfl, HB.out⟩
  | true =>
    have e0 : codeS x = 0 := by rw [codeS, hv]; rfl
    have e1 : areaR x = x.wide * x.high * x.lay := by rw [areaR, hv]; rfl
    obtain ⟨p0, p1, p2, p3⟩ := prod_le ((valid_iff x).1 hv)
    have w1 : wrap64 (x.wide * x.high) = x.wide * x.high := by unfold wrap64; omega
    have wl2 : wrap64 (x.wide * x.high * x.lay) = x.wide * x.high * x.lay := by unfold wrap64; omega
    rw [e0, e1]
    go_enter Tryd.func26, Tryd.ntmps26
    go_wp2_with fail
    refine (l04Ok_any x hx _).mono ?_
    rintro o w2 ⟨rfl, hb⟩
    rw [hv]
    have H1 : Below (w.heap.size + 1) (w.alloc (.cells #[.int .i16 x.wide, .int .i16 x.high, .int .i16 x.lay] 25)) w2 := by simpa using hb
    have s0 := box_at H1 (by omega) 0
    have s1 := box_at H1 (by omega) 1
    have s2 := box_at H1 (by omega) 2
    simp only [List.getElem?_toArray, List.getElem?_cons_zero, List.getElem?_cons_succ] at s0 s1 s2
    have HB := Lib.hid (below_next B0.out hb (by simp))
    clear hb B0 H1
    go_wp2_with fail
    go_ret2
    exact ⟨by simp [*], HB.out⟩
set_option maxRecDepth 100000 in
set_option maxHeartbeats 4000000 in
theorem AreaOf_any (x : She) (hx : x.Fits) {w : World} {B : Nat} {e : Nat → Addr} (h : Errs w B e) (hB : B ≤ w.heap.size) :
    Calls Tryd.prog 27 #[x.v] w fun o w' => o = .returned (two (areaR x) (codeS x)) ∧ Below w.heap.size w w' := by
  have B0 : Hid (Below w.heap.size w (w.alloc (.cells #[.int .i16 x.wide, .int .i16 x.high, .int .i16 x.lay] 25))) := Lib.hid (by repeat (first | exact Below.refl _ _ | assumption | apply Below.drew | (refine Below.alloc ?_ (by first | (simp; done) | (simp; omega) | omega) _) | (refine Below.setCell ?_ (by first | (simp; done) | (simp; omega) | omega) _)))
  have HE := Lib.hid h
  clear h
  cases hv : She.valid x with
  | false =>
    have e0 : codeS x = 1 := by rw [codeS, hv]; rfl
    have e1 : areaR x = 0 := by rw [areaR, hv]; rfl
    rw [e0, e1]
    go_enter Tryd.func27, Tryd.ntmps27
    go_wp2_with fail
    refine (check1_any x hx _ (w.heap.size + 1) (by simp) (HE.out.below (B0.out.mono hB)) (by simp; omega) 1 (by rw [hv]; rfl)).mono ?_
    rintro o w2 ⟨rfl, hb⟩
    have HB := Lib.hid (below_next B0.out hb (by simp))
    have HE2 := Lib.hid (HE.out.below (HB.out.mono hB))
    clear hb B0
    have e2 : errOf e 1 = errV (e 0) := rfl
    rw [e2]
    go_wp2_with fail
    refine (codeOf_any HE2.out 1 (by omega)).mono ?_
    rintro o u ⟨rfl, rfl⟩
    go_wp2_with fail
    go_ret2
    exact ⟨rfl, HB.out⟩
  | true =>
    have e0 : codeS x = 0 := by rw [codeS, hv]; rfl
    have e1 : areaR x = x.wide * x.high * x.lay := by rw [areaR, hv]; rfl
    have hG := (valid_iff x).1 hv
    obtain ⟨p0, p1, p2, p3⟩ := prod_le hG
    have wl2 : wrap64 (x.wide * x.high * x.lay) = x.wide * x.high * x.lay := by unfold wrap64; omega
    rw [e0, e1]
    go_enter Tryd.func27, Tryd.ntmps27
    go_wp2_with fail
    refine (check1_any x hx _ (w.heap.size + 1) (by simp) (HE.out.below (B0.out.mono hB)) (by simp; omega) 0 (by rw [hv]; rfl)).mono ?_
    rintro o w2 ⟨rfl, hb⟩
    have H1 : Below (w.heap.size + 1) (w.alloc (.cells #[.int .i16 x.wide, .int .i16 x.high, .int .i16 x.lay] 25)) w2 := by simpa using hb
    have s0 := box_at H1 (by omega) 0
    have s1 := box_at H1 (by omega) 1
    have s2 := box_at H1 (by omega) 2
    simp only [List.getElem?_toArray, List.getElem?_cons_zero, List.getElem?_cons_succ] at s0 s1 s2
    have HB := Lib.hid (below_next B0.out hb (by simp))
    clear hb B0 H1
    have e2 : errOf e 0 = .nilIface := rfl
    rw [e2]
    go_wp2_with fail
    refine (laidOf_any x hx _).mono ?_
    rintro o w3 ⟨rfl, hb⟩
    have HL := Lib.hid (LA.new x.wide x.high x.lay (below_next HB.out hb (Nat.le_refl _)) 78)
    clear hb s0 s1 s2 HB
    go_wp2_with fail
    go_region_held3 (LA w3.heap.size x.wide x.high x.lay w)
      (first | assumption | exact HL.out.next (below_drewN _ _ 1) | exact LA.next (by assumption) hb2)
      (first | (go_at_call 57; refine (area_any x.wide x.high ⟨by have := hG.w0; omega, by have := hG.w1; omega⟩ ⟨by have := hG.h0; omega, by have := hG.h1; omega⟩ _).mono ?_; rintro o w4 ⟨rfl, hb2⟩) | fail)
    rename_i hS
    have HS := Lib.hid (LA.below hS)
    clear hS
    go_wp2_with fail
    go_ret2
    have wi : IntKind.i64.wrap (x.wide * x.high * x.lay) = x.wide * x.high * x.lay := IntWalk.i64_in _ (by omega)
    exact ⟨by simp [wi], HS.out⟩
end Go.Proofs.YtcbbabepjfiigaaDoor.fold
