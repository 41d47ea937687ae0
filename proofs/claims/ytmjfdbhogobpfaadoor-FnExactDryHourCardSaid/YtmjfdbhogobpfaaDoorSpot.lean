/-
  A thing behind an hour, in the sun or in the shade: the program's contracts and the model's.
-/
import Derived.Test.YtmjfdbhogobpfaaDoorDayCheck
import Derived.Test.YtmjfdbhogobpfaaDoorWasEq
import Derived.IntWalk
namespace Go.Proofs.YtmjfdbhogobpfaaDoor.day
open Go Go.RowKit sl errs

/-- how much is lost by a thing of the thickness 1 -/
def lossOf (x : Wea) (shade : Bool) : Int := if shade = true then 2 * x.wind + 2 else 3 * x.sun + (2 * x.wind + 2)
theorem lossOf_bd {x : Wea} (h : Wea.valid x = true) (s : Bool) : 0 ≤ lossOf x s ∧ lossOf x s ≤ 47 := by
  have := (Wea.valid_iff x).1 h
  unfold lossOf
  cases s <;> simp <;> omega
/-- how much water behind an hour -/
def hourWet (a : Was) (x : Wea) (s : Bool) : Int := if 0 < x.rain then (if a.wet + 5 * x.rain > 1000 then 1000 else a.wet + 5 * x.rain) else (if a.wet - lossOf x s / a.thick < 0 then 0 else a.wet - lossOf x s / a.thick)
theorem hourWet_bd {a : Was} {x : Wea} (ha : Was.valid a = true) (hx : Wea.valid x = true) (s : Bool) : 0 ≤ hourWet a x s ∧ hourWet a x s ≤ 1000 := by
  have h1 := (Was.valid_iff a).1 ha
  have h2 := (Wea.valid_iff x).1 hx
  have h3 := lossOf_bd hx s
  have h4 : 0 ≤ lossOf x s / a.thick := Int.ediv_nonneg h3.1 (by omega)
  unfold hourWet
  split
  · split <;> omega
  · split <;> omega
def hourOf (a : Was) (x : Wea) (s : Bool) : Was := ⟨hourWet a x s, a.thick⟩

/-- a weather lies in a block -/
structure WeaC (u : World) (b : Nat) (x : Wea) : Prop where
  lt : b < u.heap.size
  c0 : u.cell? ⟨b, 0, none⟩ = some (.int .i8 x.sun)
  c1 : u.cell? ⟨b, 1, none⟩ = some (.int .i8 x.wind)
  c2 : u.cell? ⟨b, 2, none⟩ = some (.int .i8 x.rain)
theorem WeaC.of {u : World} {b : Nat} {p q r : Int} (c0 : u.cell? ⟨b, 0, none⟩ = some (.int .i8 p)) (c1 : u.cell? ⟨b, 1, none⟩ = some (.int .i8 q)) (c2 : u.cell? ⟨b, 2, none⟩ = some (.int .i8 r)) (lt : b < u.heap.size) : WeaC u b ⟨p, q, r⟩ := ⟨lt, c0, c1, c2⟩
theorem WeaC.new (x : Wea) (T : TypeId) (w : World) : WeaC (w.alloc (.cells #[.int .i8 x.sun, .int .i8 x.wind, .int .i8 x.rain] T)) w.heap.size x :=
  have h := heap_alloc_new w (.cells #[.int .i8 x.sun, .int .i8 x.wind, .int .i8 x.rain] T)
  ⟨by simp, cell_of_row _ _ 0 _ _ _ h, cell_of_row _ _ 1 _ _ _ h, cell_of_row _ _ 2 _ _ _ h⟩
theorem WeaC.next {u v : World} {b : Nat} {x : Wea} (h : WeaC u b x) (hb : Below u.heap.size u v) : WeaC v b x :=
  ⟨Nat.lt_of_lt_of_le h.lt hb.size, (hb.cell (p := ⟨b, 0, none⟩) h.lt).trans h.c0, (hb.cell (p := ⟨b, 1, none⟩) h.lt).trans h.c1, (hb.cell (p := ⟨b, 2, none⟩) h.lt).trans h.c2⟩
theorem WeaC.and {u : World} {b : Nat} {x : Wea} (h : WeaC u b x) {p : Prop} (hp : p) : u.cell? ⟨b, 0, none⟩ = some (.int .i8 x.sun) ∧ u.cell? ⟨b, 1, none⟩ = some (.int .i8 x.wind) ∧ u.cell? ⟨b, 2, none⟩ = some (.int .i8 x.rain) ∧ b < u.heap.size ∧ p := ⟨h.c0, h.c1, h.c2, h.lt, hp⟩
/-- what a region with one weather keeps -/
abbrev WS (w : World) (b : Nat) (x : Wea) (u : World) : Prop := u.cell? ⟨b, 0, none⟩ = some (.int .i8 x.sun) ∧ u.cell? ⟨b, 1, none⟩ = some (.int .i8 x.wind) ∧ u.cell? ⟨b, 2, none⟩ = some (.int .i8 x.rain) ∧ b < u.heap.size ∧ Below w.heap.size w u
theorem WS.next {w : World} {b : Nat} {x : Wea} {u v : World} (h : WS w b x u) (hb : Below u.heap.size u v) : WS w b x v :=
  (WeaC.next ⟨h.2.2.2.1, h.1, h.2.1, h.2.2.1⟩ hb).and (below_next h.2.2.2.2 hb (Nat.le_refl _))
/-- a thing lies in a block -/
structure WasC (u : World) (b : Nat) (x : Was) : Prop where
  lt : b < u.heap.size
  c0 : u.cell? ⟨b, 0, none⟩ = some (.int .i16 x.wet)
  c1 : u.cell? ⟨b, 1, none⟩ = some (.int .i8 x.thick)
theorem WasC.new (x : Was) (T : TypeId) (w : World) : WasC (w.alloc (.cells #[.int .i16 x.wet, .int .i8 x.thick] T)) w.heap.size x :=
  have h := heap_alloc_new w (.cells #[.int .i16 x.wet, .int .i8 x.thick] T)
  ⟨by simp, cell_of_row _ _ 0 _ _ _ h, cell_of_row _ _ 1 _ _ _ h⟩
theorem WasC.next {u v : World} {b : Nat} {x : Was} (h : WasC u b x) (hb : Below u.heap.size u v) : WasC v b x :=
  ⟨Nat.lt_of_lt_of_le h.lt hb.size, (hb.cell (p := ⟨b, 0, none⟩) h.lt).trans h.c0, (hb.cell (p := ⟨b, 1, none⟩) h.lt).trans h.c1⟩
theorem WasC.of {u : World} {b : Nat} {p q : Int} (c0 : u.cell? ⟨b, 0, none⟩ = some (.int .i16 p)) (c1 : u.cell? ⟨b, 1, none⟩ = some (.int .i8 q)) (lt : b < u.heap.size) : WasC u b ⟨p, q⟩ := ⟨lt, c0, c1⟩

/-- a place in the sun or in the shade -/
abbrev spotV (s : Bool) : Value := .iface (if s = true then 150 else 151) (.agg #[])
theorem spotFor_any (s : Bool) (w : World) :
    Calls Tryd.prog 63 #[.bool s] w fun o w' => o = .returned (spotV s) ∧ w = w' := by
  cases s with
  | true =>
    go_enter Tryd.func63, Tryd.ntmps63
    go_wp2_with fail
    go_ret
    exact ⟨rfl, rfl⟩
  | false =>
    go_enter Tryd.func63, Tryd.ntmps63
    go_wp2_with fail
    go_ret
    exact ⟨rfl, rfl⟩
set_option maxRecDepth 100000 in
set_option maxHeartbeats 1000000 in
theorem shade_any (x : Wea) (hx : x.Fits) (w : World) :
    Calls Tryd.prog 152 #[.agg #[], x.v] w fun o w' => o = .returned (.int .i64 (2 * x.wind + 2)) ∧ Below w.heap.size w w' := by
  obtain ⟨a, b, c⟩ := x
  obtain ⟨a0, a1, b0, b1, c0, c1⟩ := hx
  simp only at a0 a1 b0 b1 c0 c1
  go_enter Tryd.func152, Tryd.ntmps152
  go_wp2_with fail
  go_ret
  exact ⟨rfl, by repeat (first | exact Below.refl _ _ | assumption | apply Below.drew | (refine Below.alloc ?_ (by first | (simp; done) | (simp; omega) | omega) _) | (refine Below.setCell ?_ (by first | (simp; done) | (simp; omega) | omega) _))⟩
set_option maxRecDepth 100000 in
set_option maxHeartbeats 2000000 in
theorem sun_any (x : Wea) (hx : x.Fits) (w : World) :
    Calls Tryd.prog 153 #[.agg #[], x.v] w fun o w' => o = .returned (.int .i64 (3 * x.sun + (2 * x.wind + 2))) ∧ Below w.heap.size w w' := by
  obtain ⟨a, b, c⟩ := x
  have hx' := hx
  obtain ⟨a0, a1, b0, b1, c0, c1⟩ := hx'
  simp only at a0 a1 b0 b1 c0 c1
  go_enter Tryd.func153, Tryd.ntmps153
  go_wp2_with fail
  have S0 := Lib.hid (WeaC.new ⟨a, b, c⟩ 32 (w.alloc (.cells #[] 151)))
  rw [World.size_alloc] at S0
  have HB : Hid (Below w.heap.size w ((w.alloc (.cells #[] 151)).alloc (.cells #[.int .i8 a, .int .i8 b, .int .i8 c] 32))) := Lib.hid (by repeat (first | exact Below.refl _ _ | assumption | apply Below.drew | (refine Below.alloc ?_ (by first | (simp; done) | (simp; omega) | omega) _) | (refine Below.setCell ?_ (by first | (simp; done) | (simp; omega) | omega) _)))
  have x0 : IntKind.i64.wrap a = a := IntWalk.i64_in _ (by omega)
  have x1 : IntKind.i64.wrap (3 * a) = 3 * a := IntWalk.i64_in _ (by omega)
  have x2 : IntKind.i64.wrap (3 * a + (2 * b + 2)) = 3 * a + (2 * b + 2) := IntWalk.i64_in _ (by omega)
  go_region_held3 (fun u => u.cell? ⟨w.heap.size + 1, 0, none⟩ = some (.int .i8 a) ∧ u.cell? ⟨w.heap.size + 1, 1, none⟩ = some (.int .i8 b) ∧ u.cell? ⟨w.heap.size + 1, 2, none⟩ = some (.int .i8 c) ∧ w.heap.size + 1 < u.heap.size ∧ Below w.heap.size w u)
    (first | assumption | exact WeaC.and (WeaC.next S0.out (below_drewN _ _ 1)) HB.out.drew | exact WS.next (w := w) (b := w.heap.size + 1) (x := ⟨a, b, c⟩) (by assumption) hb2)
    (first | (go_at_call 152; refine (shade_any ⟨a, b, c⟩ hx _).mono ?_; rintro e w2 ⟨rfl, hb2⟩) | fail)
  clear x0 x1 x2
  go_wp2_with fail
  go_ret
  exact ⟨rfl, (show WS w (w.heap.size + 1) ⟨a, b, c⟩ _ by assumption).2.2.2.2⟩
/-- what a thing's hour keeps: thing, weather, a place for the result -/
abbrev HS (w : World) (a : Was) (x : Wea) (u : World) : Prop := u.cell? ⟨w.heap.size, 0, none⟩ = some (.int .i16 a.wet) ∧ u.cell? ⟨w.heap.size, 1, none⟩ = some (.int .i8 a.thick) ∧ u.cell? ⟨w.heap.size + 1, 0, none⟩ = some (.int .i8 x.sun) ∧ u.cell? ⟨w.heap.size + 1, 1, none⟩ = some (.int .i8 x.wind) ∧ u.cell? ⟨w.heap.size + 1, 2, none⟩ = some (.int .i8 x.rain) ∧ u.there (w.heap.size + 1 + 1) 0 2 ∧ w.heap.size + 1 + 1 < u.heap.size ∧ Below w.heap.size w u
theorem HS.next {w : World} {a : Was} {x : Wea} {u v : World} (h : HS w a x u) (hb : Below u.heap.size u v) : HS w a x v := by
  obtain ⟨a0, a1, x0, x1, x2, ht, hl, hB⟩ := h
  have e1 : w.heap.size < u.heap.size := by omega
  have e2 : w.heap.size + 1 < u.heap.size := by omega
  exact ⟨(hb.cell (p := ⟨_, 0, none⟩) e1).trans a0, (hb.cell (p := ⟨_, 1, none⟩) e1).trans a1, (hb.cell (p := ⟨_, 0, none⟩) e2).trans x0, (hb.cell (p := ⟨_, 1, none⟩) e2).trans x1, (hb.cell (p := ⟨_, 2, none⟩) e2).trans x2,
    fun j hj => ⟨by rw [hb.cell (p := ⟨_, 0 + j, none⟩) hl]; exact (ht j hj).1, by rw [hb.frozen (p := ⟨_, 0 + j, none⟩) hl]; exact (ht j hj).2⟩, Nat.lt_of_lt_of_le hl hb.size, below_next hB hb (Nat.le_refl _)⟩
theorem HS.new (w : World) (a : Was) (x : Wea) (T U V : TypeId) : HS w a x (((w.alloc (.cells #[.int .i16 a.wet, .int .i8 a.thick] T)).alloc (.cells #[.int .i8 x.sun, .int .i8 x.wind, .int .i8 x.rain] U)).alloc (.cells #[.int .i16 0, .int .i8 0] V)) := by
  have h1 := (WasC.new a T w).next ((Below.refl _ _).alloc (Nat.le_refl _) (.cells #[.int .i8 x.sun, .int .i8 x.wind, .int .i8 x.rain] U))
  have h2 := WeaC.new x U (w.alloc (.cells #[.int .i16 a.wet, .int .i8 a.thick] T))
  rw [World.size_alloc] at h2
  have k1 := h1.next ((Below.refl _ _).alloc (Nat.le_refl _) (.cells #[.int .i16 0, .int .i8 0] V))
  have k2 := h2.next ((Below.refl _ _).alloc (Nat.le_refl _) (.cells #[.int .i16 0, .int .i8 0] V))
  have h3 := heap_alloc_new ((w.alloc (.cells #[.int .i16 a.wet, .int .i8 a.thick] T)).alloc (.cells #[.int .i8 x.sun, .int .i8 x.wind, .int .i8 x.rain] U)) (.cells #[.int .i16 0, .int .i8 0] V)
  rw [World.size_alloc, World.size_alloc] at h3
  refine ⟨k1.c0, k1.c1, k2.c0, k2.c1, k2.c2, fun j hj => ⟨?_, frozen_of_row _ _ _ _ _ h3⟩, by simp, by repeat (first | exact Below.refl _ _ | assumption | apply Below.drew | (refine Below.alloc ?_ (by first | (simp; done) | (simp; omega) | omega) _) | (refine Below.setCell ?_ (by first | (simp; done) | (simp; omega) | omega) _))⟩
  rw [cell_of_row _ _ _ _ _ _ h3, Nat.zero_add, Array.getElem?_eq_getElem (by simpa using hj)]
  rfl
theorem cellsW (u : World) (b : Nat) (h : u.there b 0 2) : ∃ v0 v1, u.cell? ⟨b, 0, none⟩ = some v0 ∧ u.cell? ⟨b, 1, none⟩ = some v1 ∧ u.frozen? ⟨b, 0, none⟩ = false ∧ u.frozen? ⟨b, 1, none⟩ = false := by
  obtain ⟨v0, h0⟩ := Option.isSome_iff_exists.1 (h 0 (by omega)).1
  obtain ⟨v1, h1⟩ := Option.isSome_iff_exists.1 (h 1 (by omega)).1
  exact ⟨v0, v1, h0, h1, (h 0 (by omega)).2, (h 1 (by omega)).2⟩
set_option maxRecDepth 100000 in
set_option maxHeartbeats 4000000 in
theorem behind_any (a : Was) (x : Wea) (s : Bool) (ha : Was.valid a = true) (hx : Wea.valid x = true) (hxf : x.Fits) (w : World) :
    Calls Tryd.prog 62 #[a.v, x.v, spotV s] w fun o w' => o = .returned (hourOf a x s).v ∧ Below w.heap.size w w' := by
  have S0 := HS.new w a x 28 32 28
  have hbd := hourWet_bd ha hx s
  have hld := lossOf_bd hx s
  obtain ⟨⟨a0, a1⟩, a2, a3⟩ := (Was.valid_iff a).1 ha
  obtain ⟨⟨x0, x1⟩, ⟨x2, x3⟩, x4, x5⟩ := (Wea.valid_iff x).1 hx
  obtain ⟨z, hz⟩ : ∃ z, z = hourWet a x s := ⟨_, rfl⟩
  rw [← hz] at hbd
  have HZ := Lib.hid hz
  have HS0 := Lib.hid S0
  clear hz S0 ha hx
  have HE := Lib.hid (show hourOf a x s = ⟨z, a.thick⟩ by rw [hourOf, ← HZ.out])
  by_cases hr : 0 < x.rain
  · have hz2 : z = if a.wet + 5 * x.rain > 1000 then 1000 else a.wet + 5 * x.rain := by rw [HZ.out, hourWet, if_pos hr]
    by_cases hm : 1000 < a.wet + 5 * x.rain
    · rw [if_pos hm] at hz2
      subst hz2
      go_enter Tryd.func62, Tryd.ntmps62
      go_wp2_with fail
      rw [HE.out]
      refine bodyPost_ret (v := (⟨1000, a.thick⟩ : Was).v) (by simp [results, Tryd.results62, go_sem]) rfl ⟨rfl, ?_⟩
      repeat (first | exact Below.refl _ _ | assumption | apply Below.drew | (refine Below.alloc ?_ (by first | (simp; done) | (simp; omega) | omega) _) | (refine Below.setCell ?_ (by first | (simp; done) | (simp; omega) | omega) _))
    · rw [if_neg (by omega)] at hz2
      have HZ2 := Lib.hid hz2
      have HE2 : Hid (hourOf a x s = ⟨a.wet + 5 * x.rain, a.thick⟩) := Lib.hid (by rw [HE.out, ← HZ2.out])
      have hm2 : a.wet + 5 * x.rain ≤ 1000 := by omega
      clear hz2
      go_enter Tryd.func62, Tryd.ntmps62
      go_wp2_with fail
      rw [HE2.out]
      refine bodyPost_ret (v := (⟨a.wet + 5 * x.rain, a.thick⟩ : Was).v) (by simp [results, Tryd.results62, go_sem]) rfl ⟨rfl, ?_⟩
      repeat (first | exact Below.refl _ _ | assumption | apply Below.drew | (refine Below.alloc ?_ (by first | (simp; done) | (simp; omega) | omega) _) | (refine Below.setCell ?_ (by first | (simp; done) | (simp; omega) | omega) _))
  · have hr2 : decide (0 < x.rain) = false := by simpa using hr
    have hz2 : z = if a.wet - lossOf x s / a.thick < 0 then 0 else a.wet - lossOf x s / a.thick := by rw [HZ.out, hourWet, if_neg hr]
    have hq : 0 ≤ lossOf x s / a.thick := Int.ediv_nonneg hld.1 (by omega)
    cases s with
    | true =>
      have hls : lossOf x true = 2 * x.wind + 2 := rfl
      rw [hls] at hz2 hld hq
      obtain ⟨q, hqq⟩ : ∃ q, q = (2 * x.wind + 2) / a.thick := ⟨_, rfl⟩
      rw [← hqq] at hz2 hq
      have hle : q ≤ 2 * x.wind + 2 := by rw [hqq]; exact Int.ediv_le_self _ hld.1
      have htd : (2 * x.wind + 2).tdiv a.thick = q := by rw [hqq, Int.tdiv_eq_ediv_of_nonneg hld.1]
      have HQ := Lib.hid hqq
      clear hqq hls
      by_cases hneg : a.wet - q < 0
      · rw [if_pos hneg] at hz2
        subst hz2
        have HT := Lib.hid htd
        clear htd
        go_enter Tryd.func62, Tryd.ntmps62
        go_wp2_with fail
        obtain ⟨u, hu⟩ : ∃ u, u = (((w.alloc (.cells #[.int .i16 a.wet, .int .i8 a.thick] 28)).alloc (.cells #[.int .i8 x.sun, .int .i8 x.wind, .int .i8 x.rain] 32)).alloc (.cells #[.int .i16 0, .int .i8 0] 28)) := ⟨_, rfl⟩
        rw [← hu] at HS0 ⊢
        clear hu
        have hme : ∀ v u, (Go.method 321 150 v "loop.example/g01378/impl.dries").run Tryd.prog u = .ok (152, v) u := fun v u => by kernel_rfl
        have g0 : IntKind.i64.wrap a.thick = a.thick := IntWalk.i64_in _ (by omega)
        have g1 : IntKind.i64.wrap (a.wet - q) = a.wet - q := IntWalk.i64_in _ (by omega)
        have g2 : IntKind.i64.wrap ((2 * x.wind + 2).tdiv a.thick) = q := by rw [HT.out]; exact IntWalk.i64_in _ (by omega)
        have g3 : ¬ a.thick = 0 := by omega
        have g4 : (a.thick == 0) = false := by simpa using g3
        go_region_held3 (fun u => u.cell? ⟨w.heap.size, 0, none⟩ = some (.int .i16 a.wet) ∧ u.cell? ⟨w.heap.size, 1, none⟩ = some (.int .i8 a.thick) ∧ u.cell? ⟨w.heap.size + 1, 0, none⟩ = some (.int .i8 x.sun) ∧ u.cell? ⟨w.heap.size + 1, 1, none⟩ = some (.int .i8 x.wind) ∧ u.cell? ⟨w.heap.size + 1, 2, none⟩ = some (.int .i8 x.rain) ∧ u.there (w.heap.size + 1 + 1) 0 2 ∧ w.heap.size + 1 + 1 < u.heap.size ∧ Below w.heap.size w u)
          (first | assumption | exact HS0.out.next (below_drewN _ _ 1) | exact HS.next (w := w) (a := a) (x := x) (by assumption) hb2)
          (first | (go_at_call 152; refine (shade_any x hxf _).mono ?_; rintro e w2 ⟨rfl, hb2⟩) | fail)
        all_goals
          rename_i h8
          have HT8 := Lib.hid h8.2.2.2.2.2.1
          obtain ⟨r0, r1, s0, s1, f0, f1⟩ := cellsW _ _ h8.2.2.2.2.2.1
          have c1 := h8.2.1
          have HB8 := Lib.hid (below_cells h8.2.2.2.2.2.2.2 (show w.heap.size ≤ w.heap.size + 1 + 1 by omega) (⟨0, a.thick⟩ : Was).cells 0)
          clear g0 g1 g2 g3 g4 hme h8
          clear HS0
          go_wp2_with fail
          rw [HE.out]
          refine bodyPost_ret (v := (⟨0, a.thick⟩ : Was).v) (results_stored (b := w.heap.size + 1 + 1) (cs := (⟨0, a.thick⟩ : Was).cells) Tryd.results62 rfl HT8.out Tryd.underlying28 rfl (by kernel_rfl)) rfl ⟨rfl, HB8.out⟩
      · rw [if_neg hneg] at hz2
        have HE2 : Hid (hourOf a x true = ⟨a.wet - q, a.thick⟩) := Lib.hid (by rw [HE.out, hz2])
        have hnn : 0 ≤ a.wet - q := by omega
        have HT := Lib.hid htd
        clear htd HE HZ hz2 hbd
        have HE := HE2
        go_enter Tryd.func62, Tryd.ntmps62
        go_wp2_with fail
        obtain ⟨u, hu⟩ : ∃ u, u = (((w.alloc (.cells #[.int .i16 a.wet, .int .i8 a.thick] 28)).alloc (.cells #[.int .i8 x.sun, .int .i8 x.wind, .int .i8 x.rain] 32)).alloc (.cells #[.int .i16 0, .int .i8 0] 28)) := ⟨_, rfl⟩
        rw [← hu] at HS0 ⊢
        clear hu
        have hme : ∀ v u, (Go.method 321 150 v "loop.example/g01378/impl.dries").run Tryd.prog u = .ok (152, v) u := fun v u => by kernel_rfl
        have g0 : IntKind.i64.wrap a.thick = a.thick := IntWalk.i64_in _ (by omega)
        have g1 : IntKind.i64.wrap (a.wet - q) = a.wet - q := IntWalk.i64_in _ (by omega)
        have g2 : IntKind.i64.wrap ((2 * x.wind + 2).tdiv a.thick) = q := by rw [HT.out]; exact IntWalk.i64_in _ (by omega)
        have g3 : ¬ a.thick = 0 := by omega
        have g4 : (a.thick == 0) = false := by simpa using g3
        go_region_held3 (fun u => u.cell? ⟨w.heap.size, 0, none⟩ = some (.int .i16 a.wet) ∧ u.cell? ⟨w.heap.size, 1, none⟩ = some (.int .i8 a.thick) ∧ u.cell? ⟨w.heap.size + 1, 0, none⟩ = some (.int .i8 x.sun) ∧ u.cell? ⟨w.heap.size + 1, 1, none⟩ = some (.int .i8 x.wind) ∧ u.cell? ⟨w.heap.size + 1, 2, none⟩ = some (.int .i8 x.rain) ∧ u.there (w.heap.size + 1 + 1) 0 2 ∧ w.heap.size + 1 + 1 < u.heap.size ∧ Below w.heap.size w u)
          (first | assumption | exact HS0.out.next (below_drewN _ _ 1) | exact HS.next (w := w) (a := a) (x := x) (by assumption) hb2)
          (first | (go_at_call 152; refine (shade_any x hxf _).mono ?_; rintro e w2 ⟨rfl, hb2⟩) | fail)
        all_goals
          rename_i h8
          have HT8 := Lib.hid h8.2.2.2.2.2.1
          obtain ⟨r0, r1, s0, s1, f0, f1⟩ := cellsW _ _ h8.2.2.2.2.2.1
          have c1 := h8.2.1
          have HB8 := Lib.hid (below_cells h8.2.2.2.2.2.2.2 (show w.heap.size ≤ w.heap.size + 1 + 1 by omega) (⟨a.wet - q, a.thick⟩ : Was).cells 0)
          clear g0 g1 g2 g3 g4 hme h8
          clear HS0
          go_wp2_with fail
          rw [HE.out]
          refine bodyPost_ret (v := (⟨a.wet - q, a.thick⟩ : Was).v) (results_stored (b := w.heap.size + 1 + 1) (cs := (⟨a.wet - q, a.thick⟩ : Was).cells) Tryd.results62 rfl HT8.out Tryd.underlying28 rfl (by kernel_rfl)) rfl ⟨rfl, HB8.out⟩
    | false =>
      have hls : lossOf x false = 3 * x.sun + (2 * x.wind + 2) := rfl
      rw [hls] at hz2 hld hq
      obtain ⟨q, hqq⟩ : ∃ q, q = (3 * x.sun + (2 * x.wind + 2)) / a.thick := ⟨_, rfl⟩
      rw [← hqq] at hz2 hq
      have hle : q ≤ 3 * x.sun + (2 * x.wind + 2) := by rw [hqq]; exact Int.ediv_le_self _ hld.1
      have htd : (3 * x.sun + (2 * x.wind + 2)).tdiv a.thick = q := by rw [hqq, Int.tdiv_eq_ediv_of_nonneg hld.1]
      have HQ := Lib.hid hqq
      clear hqq hls
      by_cases hneg : a.wet - q < 0
      · rw [if_pos hneg] at hz2
        subst hz2
        have HT := Lib.hid htd
        clear htd
        go_enter Tryd.func62, Tryd.ntmps62
        go_wp2_with fail
        obtain ⟨u, hu⟩ : ∃ u, u = (((w.alloc (.cells #[.int .i16 a.wet, .int .i8 a.thick] 28)).alloc (.cells #[.int .i8 x.sun, .int .i8 x.wind, .int .i8 x.rain] 32)).alloc (.cells #[.int .i16 0, .int .i8 0] 28)) := ⟨_, rfl⟩
        rw [← hu] at HS0 ⊢
        clear hu
        have hme : ∀ v u, (Go.method 321 151 v "loop.example/g01378/impl.dries").run Tryd.prog u = .ok (153, v) u := fun v u => by kernel_rfl
        have g0 : IntKind.i64.wrap a.thick = a.thick := IntWalk.i64_in _ (by omega)
        have g1 : IntKind.i64.wrap (a.wet - q) = a.wet - q := IntWalk.i64_in _ (by omega)
        have g2 : IntKind.i64.wrap ((3 * x.sun + (2 * x.wind + 2)).tdiv a.thick) = q := by rw [HT.out]; exact IntWalk.i64_in _ (by omega)
        have g3 : ¬ a.thick = 0 := by omega
        have g4 : (a.thick == 0) = false := by simpa using g3
        go_region_held3 (fun u => u.cell? ⟨w.heap.size, 0, none⟩ = some (.int .i16 a.wet) ∧ u.cell? ⟨w.heap.size, 1, none⟩ = some (.int .i8 a.thick) ∧ u.cell? ⟨w.heap.size + 1, 0, none⟩ = some (.int .i8 x.sun) ∧ u.cell? ⟨w.heap.size + 1, 1, none⟩ = some (.int .i8 x.wind) ∧ u.cell? ⟨w.heap.size + 1, 2, none⟩ = some (.int .i8 x.rain) ∧ u.there (w.heap.size + 1 + 1) 0 2 ∧ w.heap.size + 1 + 1 < u.heap.size ∧ Below w.heap.size w u)
          (first | assumption | exact HS0.out.next (below_drewN _ _ 1) | exact HS.next (w := w) (a := a) (x := x) (by assumption) hb2)
          (first | (go_at_call 153; refine (sun_any x hxf _).mono ?_; rintro e w2 ⟨rfl, hb2⟩) | fail)
        all_goals
          rename_i h8
          have HT8 := Lib.hid h8.2.2.2.2.2.1
          obtain ⟨r0, r1, s0, s1, f0, f1⟩ := cellsW _ _ h8.2.2.2.2.2.1
          have c1 := h8.2.1
          have HB8 := Lib.hid (below_cells h8.2.2.2.2.2.2.2 (show w.heap.size ≤ w.heap.size + 1 + 1 by omega) (⟨0, a.thick⟩ : Was).cells 0)
          clear g0 g1 g2 g3 g4 hme h8
          clear HS0
          go_wp2_with fail
          rw [HE.out]
          refine bodyPost_ret (v := (⟨0, a.thick⟩ : Was).v) (results_stored (b := w.heap.size + 1 + 1) (cs := (⟨0, a.thick⟩ : Was).cells) Tryd.results62 rfl HT8.out Tryd.underlying28 rfl (by kernel_rfl)) rfl ⟨rfl, HB8.out⟩
      · rw [if_neg hneg] at hz2
        have HE2 : Hid (hourOf a x false = ⟨a.wet - q, a.thick⟩) := Lib.hid (by rw [HE.out, hz2])
        have hnn : 0 ≤ a.wet - q := by omega
        have HT := Lib.hid htd
        clear htd HE HZ hz2 hbd
        have HE := HE2
        go_enter Tryd.func62, Tryd.ntmps62
        go_wp2_with fail
        obtain ⟨u, hu⟩ : ∃ u, u = (((w.alloc (.cells #[.int .i16 a.wet, .int .i8 a.thick] 28)).alloc (.cells #[.int .i8 x.sun, .int .i8 x.wind, .int .i8 x.rain] 32)).alloc (.cells #[.int .i16 0, .int .i8 0] 28)) := ⟨_, rfl⟩
        rw [← hu] at HS0 ⊢
        clear hu
        have hme : ∀ v u, (Go.method 321 151 v "loop.example/g01378/impl.dries").run Tryd.prog u = .ok (153, v) u := fun v u => by kernel_rfl
        have g0 : IntKind.i64.wrap a.thick = a.thick := IntWalk.i64_in _ (by omega)
        have g1 : IntKind.i64.wrap (a.wet - q) = a.wet - q := IntWalk.i64_in _ (by omega)
        have g2 : IntKind.i64.wrap ((3 * x.sun + (2 * x.wind + 2)).tdiv a.thick) = q := by rw [HT.out]; exact IntWalk.i64_in _ (by omega)
        have g3 : ¬ a.thick = 0 := by omega
        have g4 : (a.thick == 0) = false := by simpa using g3
        go_region_held3 (fun u => u.cell? ⟨w.heap.size, 0, none⟩ = some (.int .i16 a.wet) ∧ u.cell? ⟨w.heap.size, 1, none⟩ = some (.int .i8 a.thick) ∧ u.cell? ⟨w.heap.size + 1, 0, none⟩ = some (.int .i8 x.sun) ∧ u.cell? ⟨w.heap.size + 1, 1, none⟩ = some (.int .i8 x.wind) ∧ u.cell? ⟨w.heap.size + 1, 2, none⟩ = some (.int .i8 x.rain) ∧ u.there (w.heap.size + 1 + 1) 0 2 ∧ w.heap.size + 1 + 1 < u.heap.size ∧ Below w.heap.size w u)
          (first | assumption | exact HS0.out.next (below_drewN _ _ 1) | exact HS.next (w := w) (a := a) (x := x) (by assumption) hb2)
          (first | (go_at_call 153; refine (sun_any x hxf _).mono ?_; rintro e w2 ⟨rfl, hb2⟩) | fail)
        all_goals
          rename_i h8
          have HT8 := Lib.hid h8.2.2.2.2.2.1
          obtain ⟨r0, r1, s0, s1, f0, f1⟩ := cellsW _ _ h8.2.2.2.2.2.1
          have c1 := h8.2.1
          have HB8 := Lib.hid (below_cells h8.2.2.2.2.2.2.2 (show w.heap.size ≤ w.heap.size + 1 + 1 by omega) (⟨a.wet - q, a.thick⟩ : Was).cells 0)
          clear g0 g1 g2 g3 g4 hme h8
          clear HS0
          go_wp2_with fail
          rw [HE.out]
          refine bodyPost_ret (v := (⟨a.wet - q, a.thick⟩ : Was).v) (results_stored (b := w.heap.size + 1 + 1) (cs := (⟨a.wet - q, a.thick⟩ : Was).cells) Tryd.results62 rfl HT8.out Tryd.underlying28 rfl (by kernel_rfl)) rfl ⟨rfl, HB8.out⟩
end Go.Proofs.YtmjfdbhogobpfaaDoor.day
