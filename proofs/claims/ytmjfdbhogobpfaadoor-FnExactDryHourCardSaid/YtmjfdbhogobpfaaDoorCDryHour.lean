/-
  Contracts of DryHour, the program's and the model's.
-/
import Derived.Test.YtmjfdbhogobpfaaDoorSpot
import Derived.Deep.DeepMust
import Derived.Test.YtmjfdbhogobpfaaDoorWasEq
namespace Go.Proofs.YtmjfdbhogobpfaaDoor.day
open Go Go.RowKit sl errs

theorem eq_tamed (x : Wea) : Wea.eq x (tamed x) = Wea.valid x := by
  rw [Bool.eq_iff_iff, Wea.eq_iff, tamed_iff]
set_option maxRecDepth 100000 in
set_option maxHeartbeats 2000000 in
theorem checkWeather_any (x : Wea) (hx : x.Fits) {w : World} {B : Nat} {e : Nat → Addr} (h : Errs w B e) (hB : B ≤ w.heap.size) (k0 : Nat) (hk : k0 = if Wea.valid x = true then 0 else 1) :
    Calls Tryd.prog 60 #[x.v] w fun o w' => o = .returned (errOf e k0) ∧ Below w.heap.size w w' := by
  have S0 := Lib.hid (WeaC.new x 32 w)
  have HB : Hid (Below w.heap.size w (w.alloc (.cells #[.int .i8 x.sun, .int .i8 x.wind, .int .i8 x.rain] 32))) := Lib.hid (by repeat (first | exact Below.refl _ _ | assumption | apply Below.drew | (refine Below.alloc ?_ (by first | (simp; done) | (simp; omega) | omega) _) | (refine Below.setCell ?_ (by first | (simp; done) | (simp; omega) | omega) _)))
  have HE := Lib.hid h
  clear h
  cases hv : Wea.valid x with
  | true =>
    have e0 : k0 = 0 := by rw [hk, hv, if_pos rfl]
    subst e0
    have hne : ∀ u, (binOp .neq 32 x.v (tamed x).v).run Tryd.prog u = .ok (.bool false) u := fun u => by rw [weaS.run_neq, eq_tamed, hv]; rfl
    clear hv hk
    have hgd : ∀ o p u, (eqGuard .neq 32 o p x.v (tamed x).v).run Tryd.prog u = .ok () u := fun o p u => weaS.run_guard .neq x (tamed x) o p u
    go_enter Tryd.func60, Tryd.ntmps60
    go_wp2_with fail
    go_region_held3 (fun u => u.cell? ⟨w.heap.size, 0, none⟩ = some (.int .i8 x.sun) ∧ u.cell? ⟨w.heap.size, 1, none⟩ = some (.int .i8 x.wind) ∧ u.cell? ⟨w.heap.size, 2, none⟩ = some (.int .i8 x.rain) ∧ w.heap.size < u.heap.size ∧ Below w.heap.size w u)
      (first | assumption | exact WeaC.and (WeaC.next S0.out (below_drewN _ _ 1)) HB.out.drew | exact WS.next (w := w) (b := w.heap.size) (x := x) (by assumption) hb2)
      (first | (go_at_call 111; refine (tamed_any x hx _).mono ?_; rintro e w2 ⟨rfl, hb2⟩) | fail)
    rename_i h8
    have HB9 := Lib.hid h8.2.2.2.2
    have g0 := (HE.out.below (HB9.out.mono hB)).c0
    clear hne hgd S0 HB h8
    go_wp2_with fail
    go_ret
    exact ⟨rfl, HB9.out⟩
  | false =>
    have e0 : k0 = 1 := by rw [hk, hv, if_neg (by decide)]
    subst e0
    have hne : ∀ u, (binOp .neq 32 x.v (tamed x).v).run Tryd.prog u = .ok (.bool true) u := fun u => by rw [weaS.run_neq, eq_tamed, hv]; rfl
    clear hv hk
    have hgd : ∀ o p u, (eqGuard .neq 32 o p x.v (tamed x).v).run Tryd.prog u = .ok () u := fun o p u => weaS.run_guard .neq x (tamed x) o p u
    go_enter Tryd.func60, Tryd.ntmps60
    go_wp2_with fail
    go_region_held3 (fun u => u.cell? ⟨w.heap.size, 0, none⟩ = some (.int .i8 x.sun) ∧ u.cell? ⟨w.heap.size, 1, none⟩ = some (.int .i8 x.wind) ∧ u.cell? ⟨w.heap.size, 2, none⟩ = some (.int .i8 x.rain) ∧ w.heap.size < u.heap.size ∧ Below w.heap.size w u)
      (first | assumption | exact WeaC.and (WeaC.next S0.out (below_drewN _ _ 1)) HB.out.drew | exact WS.next (w := w) (b := w.heap.size) (x := x) (by assumption) hb2)
      (first | (go_at_call 111; refine (tamed_any x hx _).mono ?_; rintro e w2 ⟨rfl, hb2⟩) | fail)
    rename_i h8
    have HB9 := Lib.hid h8.2.2.2.2
    have g0 := (HE.out.below (HB9.out.mono hB)).c0
    clear hne hgd S0 HB h8
    go_wp2_with fail
    go_ret
    exact ⟨rfl, HB9.out⟩
set_option maxRecDepth 100000 in
set_option maxHeartbeats 4000000 in
theorem checkWashes_any (A : Option Addr) (n c : Nat) (xs : List Was) (en : n = xs.length) (hn : n ≤ 9223372036854775807) (hf : ∀ x ∈ xs, x.Fits) {w : World} {B : Nat} {e : Nat → Addr} (h : Errs w B e) (hB : B ≤ w.heap.size) (hg : Sl Was.cells 2 w w.heap.size A xs)
    (k0 : Nat) (hk : k0 = if xs.all Was.valid = true then 0 else 1) :
    Calls Tryd.prog 59 #[.slice A n c] w fun o w' => o = .returned (errOf e k0) ∧ Below w.heap.size w w' := by
  have En := Lib.hid en
  have HK := Lib.hid hk
  clear en hk
  go_enter Tryd.func59, Tryd.ntmps59
  go_wp2_with fail
  go_loopw [7, 4] (fun vi _ wr => ∃ k : Nat, k ≤ n ∧ vi = .int .i64 k ∧ (∀ i x, i < k → xs[i]? = some x → Was.valid x = true) ∧ Below w.heap.size w wr) (fun vi _ _ => n - (intOf vi).toNat)
  case atStart => exact ⟨0, by omega, rfl, fun i x hi => absurd hi (by omega), Below.refl _ _⟩
  case round =>
    obtain ⟨k, hk, rfl, hval, hb⟩ := hrel
    have HV := Lib.hid hval
    have HB := Lib.hid hb
    clear hval hb
    by_cases hlt : k < n
    · obtain ⟨x, hx⟩ : ∃ x, xs[k]? = some x := ⟨xs[k]'(by have := En.out; omega), List.getElem?_eq_getElem _⟩
      obtain ⟨a, rfl, hab, hat⟩ := (hg.below HB.out).at_ k x hx
      obtain ⟨q0, q1⟩ := wasS.at_ hat
      have hxf : x.Fits := hf x (List.mem_of_getElem? hx)
      have HX := Lib.hid hx
      clear hx hat
      cases hv : Was.valid x with
      | true =>
        have HW := Lib.hid hv
        clear hv
        go_wp2_with fail
        refine (ValidWash_any x hxf _).mono ?_
        rintro o w2 ⟨rfl, hb2⟩
        rw [HW.out]
        have HB2 := Lib.hid ((HB.out.alloc HB.out.size (.cells #[.int .i16 x.wet, .int .i8 x.thick] 28)).trans (hb2.mono (by have := HB.out.size; simp; omega)))
        clear q0 q1 hb2
        go_wp2_with fail
        go_roundw
        case rel => exact ⟨k + 1, by omega, by go_num, fun i y hi hy => by
          rcases Nat.lt_or_ge i k with h1 | h1
          · exact HV.out i y h1 hy
          · obtain rfl : i = k := by omega
            have := HX.out
            rw [hy] at this
            rw [Option.some.inj this]
            exact HW.out, HB2.out⟩
        case measure => simp [intOf]; omega
      | false =>
        have HW := Lib.hid hv
        clear hv
        go_wp2_with fail
        refine (ValidWash_any x hxf _).mono ?_
        rintro o w2 ⟨rfl, hb2⟩
        rw [HW.out]
        have HB2 := Lib.hid ((HB.out.alloc HB.out.size (.cells #[.int .i16 x.wet, .int .i8 x.thick] 28)).trans (hb2.mono (by have := HB.out.size; simp; omega)))
        have g0 := (h.below (HB2.out.mono hB)).c0
        clear q0 q1 hb2
        go_wp2_with fail
        go_ret
        refine ⟨?_, HB2.out⟩
        rw [HK.out, all_not HX.out HW.out]
        rfl
    · go_wp2_with fail
      go_ret
      refine ⟨?_, HB.out⟩
      rw [HK.out, all_of_idx fun i x hi hx => HV.out i x (by have := En.out; omega) hx]
      rfl
theorem sl_row (a : Was) (T : TypeId) (v : World) (b : Nat) (hb : v.heap[b]? = some (.cells #[.int .i16 a.wet, .int .i8 a.thick] T (0, 0))) : Sl Was.cells 2 v v.heap.size (some ⟨b, 0, none⟩) [a] :=
  ⟨fun k x hx => by
    match k with
    | 0 =>
      simp only [List.getElem?_cons_zero, Option.some.injEq] at hx
      subst hx
      refine ⟨_, rfl, (Array.getElem?_eq_some_iff.1 hb).1, fun j u hu => ?_⟩
      rw [add_lit, add_at, cell_of_row _ _ _ _ _ _ hb]
      match j with
      | 0 => exact hu
      | 1 => exact hu
      | j + 2 => simp [Was.cells] at hu
    | k + 1 => simp at hx⟩
theorem sl_one (a : Was) (T : TypeId) (u : World) : Sl Was.cells 2 (u.alloc (.cells #[.int .i16 a.wet, .int .i8 a.thick] T)) (u.alloc (.cells #[.int .i16 a.wet, .int .i8 a.thick] T)).heap.size (some ⟨u.heap.size, 0, none⟩) [a] :=
  ⟨fun k x hx => by
    match k with
    | 0 =>
      simp only [List.getElem?_cons_zero, Option.some.injEq] at hx
      subst hx
      have h := WasC.new a T u
      refine ⟨_, rfl, by simp, fun j v hv => ?_⟩
      rw [add_lit, add_at]
      match j with
      | 0 =>
        simp only [Was.cells, List.getElem?_cons_zero, Option.some.injEq] at hv
        rw [← hv]
        exact h.c0
      | 1 =>
        simp only [Was.cells, List.getElem?_cons_zero, List.getElem?_cons_succ, Option.some.injEq] at hv
        rw [← hv]
        exact h.c1
      | j + 2 => simp [Was.cells] at hv
    | k + 1 => simp at hx⟩
/-- one thing alone, listed on the spot -/
theorem checkWash1_any (a : Was) (ha : a.Fits) (T : TypeId) {u : World} {B : Nat} {e : Nat → Addr} (h : Errs u B e) (hB : B ≤ u.heap.size) (k0 : Nat) (hk : k0 = if Was.valid a = true then 0 else 1) :
    Calls Tryd.prog 59 #[.slice (some ⟨u.heap.size, 0, none⟩) 1 1] (u.alloc (.cells #[.int .i16 a.wet, .int .i8 a.thick] T)) fun o w' => o = .returned (errOf e k0) ∧ Below u.heap.size u w' :=
  (checkWashes_any (some ⟨u.heap.size, 0, none⟩) 1 1 [a] rfl (by decide) (fun x hx => by simp at hx; rw [hx]; exact ha) (h.below ((Below.refl _ _).alloc hB _)) (by simp; omega) (sl_one a T u) k0 (by rw [hk]; simp)).mono
    fun o w' ⟨h1, h2⟩ => ⟨h1, ((Below.refl _ _).alloc (Nat.le_refl _) _).trans (h2.mono (by simp))⟩
theorem isSome_back {w : World} {a x : Addr} {v : Value} (h : ((w.setCell a v).cell? x).isSome = true) : (w.cell? x).isSome = true := by
  by_cases e : a = x
  · subst e
    simp only [World.setCell, World.cell?, Array.getElem?_modify, ↓reduceIte] at h ⊢
    cases hb : w.heap[a.block]? with
    | none => rw [hb] at h; simp at h
    | some o =>
      rw [hb] at h
      cases o with
      | cells c t f =>
        simp only [Option.map_some] at h ⊢
        cases hs : a.spot.isSome
        · rw [hs] at h
          simp only [Bool.false_eq_true, if_false, Array.getElem?_setIfInBounds] at h ⊢
          rcases Nat.lt_or_ge a.off c.size with h1 | h1
          · rw [Array.getElem?_eq_getElem h1]; rfl
          · simp [h1, Nat.not_lt.2 h1] at h
        · rw [hs] at h; simp at h
      | _ => simp at h
  · rwa [World.cell?_setCell_other _ _ _ _ e] at h
theorem there_back {w : World} {a : Addr} {v : Value} {b n : Nat} (h : (w.setCell a v).there b 0 n) : w.there b 0 n := fun j hj => ⟨isSome_back (h j hj).1, by have := (h j hj).2; rwa [World.frozen?_setCell] at this⟩
theorem there_set {w : World} {a : Addr} {v : Value} {b n : Nat} (h : w.there b 0 n) : (w.setCell a v).there b 0 n := fun j hj => by
  refine ⟨?_, by rw [World.frozen?_setCell]; exact (h j hj).2⟩
  by_cases e : a = ⟨b, 0 + j, none⟩
  · rw [e, World.cell?_setCell_same' _ _ _ (h j hj).1]; rfl
  · rw [World.cell?_setCell_other _ _ _ _ e]; exact (h j hj).1
theorem HS.set {w : World} {a : Was} {x : Wea} {u : World} (h : HS w a x u) (o : Nat) (v : Value) : HS w a x (u.setCell ⟨w.heap.size + 1 + 1, o, none⟩ v) := by
  obtain ⟨a0, a1, x0, x1, x2, ht, hl, hB⟩ := h
  have e1 : ∀ p : Addr, p.block ≠ w.heap.size + 1 + 1 → (u.setCell ⟨w.heap.size + 1 + 1, o, none⟩ v).cell? p = u.cell? p := fun p hp => World.cell?_setCell_far _ _ _ _ (by show w.heap.size + 1 + 1 ≠ p.block; exact fun e => hp e.symm)
  exact ⟨(e1 ⟨_, 0, none⟩ (by show w.heap.size ≠ _; omega)).trans a0, (e1 ⟨_, 1, none⟩ (by show w.heap.size ≠ _; omega)).trans a1, (e1 ⟨_, 0, none⟩ (by show w.heap.size + 1 ≠ _; omega)).trans x0, (e1 ⟨_, 1, none⟩ (by show w.heap.size + 1 ≠ _; omega)).trans x1, (e1 ⟨_, 2, none⟩ (by show w.heap.size + 1 ≠ _; omega)).trans x2,
    there_set ht, by simpa [World.setCell] using hl, hB.setCell (p := ⟨w.heap.size + 1 + 1, o, none⟩) (by show w.heap.size ≤ w.heap.size + 1 + 1; omega) v⟩
theorem HS.below {w : World} {a : Was} {x : Wea} {u : World} (h : HS w a x u) : Below w.heap.size w u := h.2.2.2.2.2.2.2
theorem HS.alloc {w : World} {a : Was} {x : Wea} {u : World} (h : HS w a x u) (o : Obj) : HS w a x (u.alloc o) := h.next ((Below.refl _ _).alloc (Nat.le_refl _) o)
/-- .. with a place for the result that may be written -/
abbrev GS (w : World) (a : Was) (x : Wea) (u : World) : Prop := u.cell? ⟨w.heap.size, 0, none⟩ = some (.int .i16 a.wet) ∧ u.cell? ⟨w.heap.size, 1, none⟩ = some (.int .i8 a.thick) ∧ u.cell? ⟨w.heap.size + 1, 0, none⟩ = some (.int .i8 x.sun) ∧ u.cell? ⟨w.heap.size + 1, 1, none⟩ = some (.int .i8 x.wind) ∧ u.cell? ⟨w.heap.size + 1, 2, none⟩ = some (.int .i8 x.rain) ∧
  u.cell? ⟨w.heap.size + 1 + 1, 0, none⟩ = some (valAt u ⟨w.heap.size + 1 + 1, 0, none⟩) ∧ u.cell? ⟨w.heap.size + 1 + 1, 1, none⟩ = some (valAt u ⟨w.heap.size + 1 + 1, 1, none⟩) ∧ u.frozen? ⟨w.heap.size + 1 + 1, 0, none⟩ = false ∧ u.frozen? ⟨w.heap.size + 1 + 1, 1, none⟩ = false ∧ HS w a x u
theorem GS.of {w : World} {a : Was} {x : Wea} {u : World} (h : HS w a x u) : GS w a x u := by
  have ht := h.2.2.2.2.2.1
  exact ⟨h.1, h.2.1, h.2.2.1, h.2.2.2.1, h.2.2.2.2.1, valAt_some (ht 0 (by omega)).1, valAt_some (ht 1 (by omega)).1, (ht 0 (by omega)).2, (ht 1 (by omega)).2, h⟩
theorem GS.hs {w : World} {a : Was} {x : Wea} {u : World} (h : GS w a x u) : HS w a x u := h.2.2.2.2.2.2.2.2.2
/-- two cells that have been stored lie there -/
theorem stored2 {u : World} {b : Nat} {v0 v1 : Value} (h : ((u.setCell ⟨b, 0, none⟩ v0).setCell ⟨b, 1, none⟩ v1).there b 0 2) : ((u.setCell ⟨b, 0, none⟩ v0).setCell ⟨b, 1, none⟩ v1).rangeAt b 0 [v0, v1] :=
  World.rangeAt_setCells_same u b 0 [v0, v1] (there_back (there_back h))
/-- the code of a thing and a weather -/
def codeDH (a : Was) (x : Wea) : Nat := if (Was.valid a && Wea.valid x) = true then 0 else 1
def dryRes (a : Was) (x : Wea) (s : Bool) : Was := if (Was.valid a && Wea.valid x) = true then hourOf a x s else ⟨0, 0⟩
abbrev dryV (r : Was) (c : Nat) : Value := .tuple #[.agg #[.int .i16 r.wet, .int .i8 r.thick], .int .i64 c]
set_option maxRecDepth 100000 in
set_option maxHeartbeats 400000 in
theorem DryHour_any (a : Was) (ha : a.Fits) (x : Wea) (hx : x.Fits) (s : Bool) {w : World} {B : Nat} {e : Nat → Addr} (h : Errs w B e) (hB : B ≤ w.heap.size) :
    Calls Tryd.prog 18 #[a.v, x.v, .bool s] w fun o w' => o = .returned (dryV (dryRes a x s) (codeDH a x)) ∧ Below w.heap.size w w' := by
  have HS0 := Lib.hid (HS.new w a x 28 32 28)
  have HE := Lib.hid h
  clear h
  have hfa : ∀ y ∈ [a], y.Fits := fun y hy => by simp at hy; rw [hy]; exact ha
  have HFA := Lib.hid hfa
  clear hfa
  cases hva : Was.valid a with
  | true =>
    cases hvx : Wea.valid x with
    | true =>
      have e0 : codeDH a x = 0 := by rw [codeDH, hva, hvx]; rfl
      have e1 : dryRes a x s = hourOf a x s := by rw [dryRes, hva, hvx]; rfl
      rw [e0, e1]
      have HA := Lib.hid hva
      have HX := Lib.hid hvx
      clear e0 e1 hva hvx
      have hcs : ∀ (v : World) (b : Nat), v.heap[b]? = some (.cells #[.int .i16 a.wet, .int .i8 a.thick] 28 (0, 0)) → HS w a x v → Calls Tryd.prog 59 #[.slice (some ⟨b, 0, none⟩) 1 1] v fun o w' => o = .returned (.nilIface) ∧ Below v.heap.size v w' := fun v b hb hu =>
        checkWashes_any (some ⟨b, 0, none⟩) 1 1 [a] rfl (by decide) HFA.out (HE.out.below (hu.below.mono hB)) (Nat.le_trans hB hu.below.size) (sl_row a _ v b hb) 0 (by simp [HA.out])
      have hcw : ∀ v : World, HS w a x v → Calls Tryd.prog 60 #[x.v] v fun o w' => o = .returned (.nilIface) ∧ Below v.heap.size v w' := fun v hu =>
        checkWeather_any x hx (HE.out.below (hu.below.mono hB)) (Nat.le_trans hB hu.below.size) 0 (by rw [HX.out]; rfl)
      have hfo : ∀ (v : World) (b : Nat), v.heap[b]? = some (.cells #[.nilIface, .nilIface] 85 (0, 0)) → Calls Tryd.prog 58 #[.slice (some ⟨b, 0, none⟩) 2 2] v fun o w' => o = .returned (.nilIface) ∧ v = w' := fun v b hb =>
        firstOf_any e [0, 0] b 2 2 rfl (by decide) v (fun k y hk => by
          rw [cell_of_row _ _ _ _ _ _ hb]
          match k with
          | 0 => simp at hk; subst hk; rfl
          | 1 => simp at hk; subst hk; rfl
          | k + 2 => simp at hk)
      have HCS := Lib.hid hcs
      have HCW := Lib.hid hcw
      have HFO := Lib.hid hfo
      clear hcs hcw hfo
      go_enter Tryd.func18, Tryd.ntmps18
      go_wp2_with fail
      obtain ⟨u0, hu0⟩ : ∃ u0, u0 = (((w.alloc (.cells #[.int .i16 a.wet, .int .i8 a.thick] 28)).alloc (.cells #[.int .i8 x.sun, .int .i8 x.wind, .int .i8 x.rain] 32)).alloc (.cells #[.int .i16 0, .int .i8 0] 28)) := ⟨_, rfl⟩
      rw [← hu0] at HS0 ⊢
      clear hu0
      go_region_held3 (fun u => u.cell? ⟨w.heap.size, 0, none⟩ = some (.int .i16 a.wet) ∧ u.cell? ⟨w.heap.size, 1, none⟩ = some (.int .i8 a.thick) ∧ u.cell? ⟨w.heap.size + 1, 0, none⟩ = some (.int .i8 x.sun) ∧ u.cell? ⟨w.heap.size + 1, 1, none⟩ = some (.int .i8 x.wind) ∧ u.cell? ⟨w.heap.size + 1, 2, none⟩ = some (.int .i8 x.rain) ∧ u.there (w.heap.size + 1 + 1) 0 2 ∧ w.heap.size + 1 + 1 < u.heap.size ∧ Below w.heap.size w u)
        (first | assumption | exact HS0.out.next (below_drewN _ _ 1) | exact (HS0.out.next (below_drewN _ _ 1)).alloc _ | exact HS.next (w := w) (a := a) (x := x) (by assumption) hb2 | exact HS.alloc (w := w) (a := a) (x := x) (by assumption) _)
        (first
          | (go_at_call 59; go_must (refine (HCS.out _ _ ?_ ?_).mono ?_); go_must (exact heap_alloc_new _ _); go_must (assumption); rintro o w2 ⟨rfl, hb2⟩)
          | (go_at_call 60; refine (HCW.out _ ?_).mono ?_; (assumption); rintro o w2 ⟨rfl, hb2⟩)
          | (go_at_call 58; refine (HFO.out _ _ ?_).mono ?_; (exact heap_alloc_new _ _); rintro o w2 ⟨rfl, rfl⟩)
          | fail)
      rename_i h8
      have H8 := Lib.hid h8
      clear h8 HS0 HCS HCW HFO
      go_wp2_with fail
      obtain ⟨u1, hu1⟩ : ∃ u1, u1 = (w2.alloc (.cells #[.nilIface, .nilIface] 85)) := ⟨_, rfl⟩
      rw [← hu1] at H8 ⊢
      clear hu1
      have hbh := behind_any a x s HA.out HX.out hx
      go_region_held3 (fun u => u.cell? ⟨w.heap.size, 0, none⟩ = some (.int .i16 a.wet) ∧ u.cell? ⟨w.heap.size, 1, none⟩ = some (.int .i8 a.thick) ∧ u.cell? ⟨w.heap.size + 1, 0, none⟩ = some (.int .i8 x.sun) ∧ u.cell? ⟨w.heap.size + 1, 1, none⟩ = some (.int .i8 x.wind) ∧ u.cell? ⟨w.heap.size + 1, 2, none⟩ = some (.int .i8 x.rain) ∧
          u.cell? ⟨w.heap.size + 1 + 1, 0, none⟩ = some (valAt u ⟨w.heap.size + 1 + 1, 0, none⟩) ∧ u.cell? ⟨w.heap.size + 1 + 1, 1, none⟩ = some (valAt u ⟨w.heap.size + 1 + 1, 1, none⟩) ∧ u.frozen? ⟨w.heap.size + 1 + 1, 0, none⟩ = false ∧ u.frozen? ⟨w.heap.size + 1 + 1, 1, none⟩ = false ∧ HS w a x u)
        (first | assumption | exact GS.of (HS.next H8.out (below_drewN _ _ 1)) | exact GS.of (HS.next (GS.hs (w := w) (a := a) (x := x) (by assumption)) hb2) | exact GS.of ((GS.hs (w := w) (a := a) (x := x) (by assumption)).set _ _ |>.set _ _))
        (first
          | (go_at_call 63; refine (spotFor_any s _).mono ?_; rintro o w2 ⟨rfl, rfl⟩)
          | (go_at_call 62; go_must (refine (hbh _).mono ?_); rintro o w2 ⟨rfl, hb2⟩)
          | fail)
      rename_i h9
      have H9 := Lib.hid (GS.hs (w := w) (a := a) (x := x) h9)
      clear h9 hbh H8
      go_wp2_with fail
      refine bodyPost_ret (v := dryV (hourOf a x s) 0) (results_row_tmp (b := w.heap.size + 1 + 1) (cs := (hourOf a x s).cells) Tryd.results18 rfl (stored2 H9.out.2.2.2.2.2.1) Tryd.underlying28 rfl (by kernel_rfl)) rfl ⟨rfl, H9.out.below⟩
    | false =>
      have e0 : codeDH a x = 1 := by rw [codeDH, hva, hvx]; rfl
      have e1 : dryRes a x s = ⟨0, 0⟩ := by rw [dryRes, hva, hvx]; rfl
      rw [e0, e1]
      have HA := Lib.hid hva
      have HX := Lib.hid hvx
      clear e0 e1 hva hvx
      have hcs : ∀ (v : World) (b : Nat), v.heap[b]? = some (.cells #[.int .i16 a.wet, .int .i8 a.thick] 28 (0, 0)) → HS w a x v → Calls Tryd.prog 59 #[.slice (some ⟨b, 0, none⟩) 1 1] v fun o w' => o = .returned (.nilIface) ∧ Below v.heap.size v w' := fun v b hb hu =>
        checkWashes_any (some ⟨b, 0, none⟩) 1 1 [a] rfl (by decide) HFA.out (HE.out.below (hu.below.mono hB)) (Nat.le_trans hB hu.below.size) (sl_row a _ v b hb) 0 (by simp [HA.out])
      have hcw : ∀ v : World, HS w a x v → Calls Tryd.prog 60 #[x.v] v fun o w' => o = .returned (errV (e 0)) ∧ Below v.heap.size v w' := fun v hu =>
        checkWeather_any x hx (HE.out.below (hu.below.mono hB)) (Nat.le_trans hB hu.below.size) 1 (by rw [HX.out]; rfl)
      have hfo : ∀ (v : World) (b : Nat), v.heap[b]? = some (.cells #[.nilIface, errV (e 0)] 85 (0, 0)) → Calls Tryd.prog 58 #[.slice (some ⟨b, 0, none⟩) 2 2] v fun o w' => o = .returned (errV (e 0)) ∧ v = w' := fun v b hb =>
        firstOf_any e [0, 1] b 2 2 rfl (by decide) v (fun k y hk => by
          rw [cell_of_row _ _ _ _ _ _ hb]
          match k with
          | 0 => simp at hk; subst hk; rfl
          | 1 => simp at hk; subst hk; rfl
          | k + 2 => simp at hk)
      have HCS := Lib.hid hcs
      have HCW := Lib.hid hcw
      have HFO := Lib.hid hfo
      clear hcs hcw hfo
      go_enter Tryd.func18, Tryd.ntmps18
      go_wp2_with fail
      obtain ⟨u0, hu0⟩ : ∃ u0, u0 = (((w.alloc (.cells #[.int .i16 a.wet, .int .i8 a.thick] 28)).alloc (.cells #[.int .i8 x.sun, .int .i8 x.wind, .int .i8 x.rain] 32)).alloc (.cells #[.int .i16 0, .int .i8 0] 28)) := ⟨_, rfl⟩
      rw [← hu0] at HS0 ⊢
      clear hu0
      go_region_held3 (fun u => u.cell? ⟨w.heap.size, 0, none⟩ = some (.int .i16 a.wet) ∧ u.cell? ⟨w.heap.size, 1, none⟩ = some (.int .i8 a.thick) ∧ u.cell? ⟨w.heap.size + 1, 0, none⟩ = some (.int .i8 x.sun) ∧ u.cell? ⟨w.heap.size + 1, 1, none⟩ = some (.int .i8 x.wind) ∧ u.cell? ⟨w.heap.size + 1, 2, none⟩ = some (.int .i8 x.rain) ∧ u.there (w.heap.size + 1 + 1) 0 2 ∧ w.heap.size + 1 + 1 < u.heap.size ∧ Below w.heap.size w u)
        (first | assumption | exact HS0.out.next (below_drewN _ _ 1) | exact (HS0.out.next (below_drewN _ _ 1)).alloc _ | exact HS.next (w := w) (a := a) (x := x) (by assumption) hb2 | exact HS.alloc (w := w) (a := a) (x := x) (by assumption) _)
        (first
          | (go_at_call 59; go_must (refine (HCS.out _ _ ?_ ?_).mono ?_); go_must (exact heap_alloc_new _ _); go_must (assumption); rintro o w2 ⟨rfl, hb2⟩)
          | (go_at_call 60; refine (HCW.out _ ?_).mono ?_; (assumption); rintro o w2 ⟨rfl, hb2⟩)
          | (go_at_call 58; refine (HFO.out _ _ ?_).mono ?_; (exact heap_alloc_new _ _); rintro o w2 ⟨rfl, rfl⟩)
          | fail)
      rename_i h8
      have H8 : Hid (HS w a x _) := Lib.hid h8
      have HE8 := Lib.hid (HE.out.below ((HS.below H8.out).mono hB))
      clear h8 HS0 HCS HCW HFO
      go_wp2_with fail
      refine (codeOf_any HE8.out 1 (by omega)).mono ?_
      rintro o w5 ⟨rfl, rfl⟩
      obtain ⟨g0, g1, g2, g3, g4, g5, g6, g7, g8, _⟩ := GS.of H8.out
      clear g0 g1 g2 g3 g4
      go_wp2_with fail
      refine bodyPost_ret (v := dryV ⟨0, 0⟩ 1) (results_row_tmp (b := w.heap.size + 1 + 1) (cs := (⟨0, 0⟩ : Was).cells) Tryd.results18 rfl (stored2 ((HS.set (HS.set H8.out _ _) _ _).2.2.2.2.2.1)) Tryd.underlying28 rfl (by kernel_rfl)) rfl ⟨rfl, HS.below (HS.set (HS.set H8.out _ _) _ _)⟩
  | false =>
    cases hvx : Wea.valid x with
    | true =>
      have e0 : codeDH a x = 1 := by rw [codeDH, hva, hvx]; rfl
      have e1 : dryRes a x s = ⟨0, 0⟩ := by rw [dryRes, hva, hvx]; rfl
      rw [e0, e1]
      have HA := Lib.hid hva
      have HX := Lib.hid hvx
      clear e0 e1 hva hvx
      have hcs : ∀ (v : World) (b : Nat), v.heap[b]? = some (.cells #[.int .i16 a.wet, .int .i8 a.thick] 28 (0, 0)) → HS w a x v → Calls Tryd.prog 59 #[.slice (some ⟨b, 0, none⟩) 1 1] v fun o w' => o = .returned (errV (e 0)) ∧ Below v.heap.size v w' := fun v b hb hu =>
        checkWashes_any (some ⟨b, 0, none⟩) 1 1 [a] rfl (by decide) HFA.out (HE.out.below (hu.below.mono hB)) (Nat.le_trans hB hu.below.size) (sl_row a _ v b hb) 1 (by simp [HA.out])
      have hcw : ∀ v : World, HS w a x v → Calls Tryd.prog 60 #[x.v] v fun o w' => o = .returned (.nilIface) ∧ Below v.heap.size v w' := fun v hu =>
        checkWeather_any x hx (HE.out.below (hu.below.mono hB)) (Nat.le_trans hB hu.below.size) 0 (by rw [HX.out]; rfl)
      have hfo : ∀ (v : World) (b : Nat), v.heap[b]? = some (.cells #[errV (e 0), .nilIface] 85 (0, 0)) → Calls Tryd.prog 58 #[.slice (some ⟨b, 0, none⟩) 2 2] v fun o w' => o = .returned (errV (e 0)) ∧ v = w' := fun v b hb =>
        firstOf_any e [1, 0] b 2 2 rfl (by decide) v (fun k y hk => by
          rw [cell_of_row _ _ _ _ _ _ hb]
          match k with
          | 0 => simp at hk; subst hk; rfl
          | 1 => simp at hk; subst hk; rfl
          | k + 2 => simp at hk)
      have HCS := Lib.hid hcs
      have HCW := Lib.hid hcw
      have HFO := Lib.hid hfo
      clear hcs hcw hfo
      go_enter Tryd.func18, Tryd.ntmps18
      go_wp2_with fail
      obtain ⟨u0, hu0⟩ : ∃ u0, u0 = (((w.alloc (.cells #[.int .i16 a.wet, .int .i8 a.thick] 28)).alloc (.cells #[.int .i8 x.sun, .int .i8 x.wind, .int .i8 x.rain] 32)).alloc (.cells #[.int .i16 0, .int .i8 0] 28)) := ⟨_, rfl⟩
      rw [← hu0] at HS0 ⊢
      clear hu0
      go_region_held3 (fun u => u.cell? ⟨w.heap.size, 0, none⟩ = some (.int .i16 a.wet) ∧ u.cell? ⟨w.heap.size, 1, none⟩ = some (.int .i8 a.thick) ∧ u.cell? ⟨w.heap.size + 1, 0, none⟩ = some (.int .i8 x.sun) ∧ u.cell? ⟨w.heap.size + 1, 1, none⟩ = some (.int .i8 x.wind) ∧ u.cell? ⟨w.heap.size + 1, 2, none⟩ = some (.int .i8 x.rain) ∧ u.there (w.heap.size + 1 + 1) 0 2 ∧ w.heap.size + 1 + 1 < u.heap.size ∧ Below w.heap.size w u)
        (first | assumption | exact HS0.out.next (below_drewN _ _ 1) | exact (HS0.out.next (below_drewN _ _ 1)).alloc _ | exact HS.next (w := w) (a := a) (x := x) (by assumption) hb2 | exact HS.alloc (w := w) (a := a) (x := x) (by assumption) _)
        (first
          | (go_at_call 59; go_must (refine (HCS.out _ _ ?_ ?_).mono ?_); go_must (exact heap_alloc_new _ _); go_must (assumption); rintro o w2 ⟨rfl, hb2⟩)
          | (go_at_call 60; refine (HCW.out _ ?_).mono ?_; (assumption); rintro o w2 ⟨rfl, hb2⟩)
          | (go_at_call 58; refine (HFO.out _ _ ?_).mono ?_; (exact heap_alloc_new _ _); rintro o w2 ⟨rfl, rfl⟩)
          | fail)
      rename_i h8
      have H8 : Hid (HS w a x _) := Lib.hid h8
      have HE8 := Lib.hid (HE.out.below ((HS.below H8.out).mono hB))
      clear h8 HS0 HCS HCW HFO
      go_wp2_with fail
      refine (codeOf_any HE8.out 1 (by omega)).mono ?_
      rintro o w5 ⟨rfl, rfl⟩
      obtain ⟨g0, g1, g2, g3, g4, g5, g6, g7, g8, _⟩ := GS.of H8.out
      clear g0 g1 g2 g3 g4
      go_wp2_with fail
      refine bodyPost_ret (v := dryV ⟨0, 0⟩ 1) (results_row_tmp (b := w.heap.size + 1 + 1) (cs := (⟨0, 0⟩ : Was).cells) Tryd.results18 rfl (stored2 ((HS.set (HS.set H8.out _ _) _ _).2.2.2.2.2.1)) Tryd.underlying28 rfl (by kernel_rfl)) rfl ⟨rfl, HS.below (HS.set (HS.set H8.out _ _) _ _)⟩
    | false =>
      have e0 : codeDH a x = 1 := by rw [codeDH, hva, hvx]; rfl
      have e1 : dryRes a x s = ⟨0, 0⟩ := by rw [dryRes, hva, hvx]; rfl
      rw [e0, e1]
      have HA := Lib.hid hva
      have HX := Lib.hid hvx
      clear e0 e1 hva hvx
      have hcs : ∀ (v : World) (b : Nat), v.heap[b]? = some (.cells #[.int .i16 a.wet, .int .i8 a.thick] 28 (0, 0)) → HS w a x v → Calls Tryd.prog 59 #[.slice (some ⟨b, 0, none⟩) 1 1] v fun o w' => o = .returned (errV (e 0)) ∧ Below v.heap.size v w' := fun v b hb hu =>
        checkWashes_any (some ⟨b, 0, none⟩) 1 1 [a] rfl (by decide) HFA.out (HE.out.below (hu.below.mono hB)) (Nat.le_trans hB hu.below.size) (sl_row a _ v b hb) 1 (by simp [HA.out])
      have hcw : ∀ v : World, HS w a x v → Calls Tryd.prog 60 #[x.v] v fun o w' => o = .returned (errV (e 0)) ∧ Below v.heap.size v w' := fun v hu =>
        checkWeather_any x hx (HE.out.below (hu.below.mono hB)) (Nat.le_trans hB hu.below.size) 1 (by rw [HX.out]; rfl)
      have hfo : ∀ (v : World) (b : Nat), v.heap[b]? = some (.cells #[errV (e 0), errV (e 0)] 85 (0, 0)) → Calls Tryd.prog 58 #[.slice (some ⟨b, 0, none⟩) 2 2] v fun o w' => o = .returned (errV (e 0)) ∧ v = w' := fun v b hb =>
        firstOf_any e [1, 1] b 2 2 rfl (by decide) v (fun k y hk => by
          rw [cell_of_row _ _ _ _ _ _ hb]
          match k with
          | 0 => simp at hk; subst hk; rfl
          | 1 => simp at hk; subst hk; rfl
          | k + 2 => simp at hk)
      have HCS := Lib.hid hcs
      have HCW := Lib.hid hcw
      have HFO := Lib.hid hfo
      clear hcs hcw hfo
      go_enter Tryd.func18, Tryd.ntmps18
      go_wp2_with fail
      obtain ⟨u0, hu0⟩ : ∃ u0, u0 = (((w.alloc (.cells #[.int .i16 a.wet, .int .i8 a.thick] 28)).alloc (.cells #[.int .i8 x.sun, .int .i8 x.wind, .int .i8 x.rain] 32)).alloc (.cells #[.int .i16 0, .int .i8 0] 28)) := ⟨_, rfl⟩
      rw [← hu0] at HS0 ⊢
      clear hu0
      go_region_held3 (fun u => u.cell? ⟨w.heap.size, 0, none⟩ = some (.int .i16 a.wet) ∧ u.cell? ⟨w.heap.size, 1, none⟩ = some (.int .i8 a.thick) ∧ u.cell? ⟨w.heap.size + 1, 0, none⟩ = some (.int .i8 x.sun) ∧ u.cell? ⟨w.heap.size + 1, 1, none⟩ = some (.int .i8 x.wind) ∧ u.cell? ⟨w.heap.size + 1, 2, none⟩ = some (.int .i8 x.rain) ∧ u.there (w.heap.size + 1 + 1) 0 2 ∧ w.heap.size + 1 + 1 < u.heap.size ∧ Below w.heap.size w u)
        (first | assumption | exact HS0.out.next (below_drewN _ _ 1) | exact (HS0.out.next (below_drewN _ _ 1)).alloc _ | exact HS.next (w := w) (a := a) (x := x) (by assumption) hb2 | exact HS.alloc (w := w) (a := a) (x := x) (by assumption) _)
        (first
          | (go_at_call 59; go_must (refine (HCS.out _ _ ?_ ?_).mono ?_); go_must (exact heap_alloc_new _ _); go_must (assumption); rintro o w2 ⟨rfl, hb2⟩)
          | (go_at_call 60; refine (HCW.out _ ?_).mono ?_; (assumption); rintro o w2 ⟨rfl, hb2⟩)
          | (go_at_call 58; refine (HFO.out _ _ ?_).mono ?_; (exact heap_alloc_new _ _); rintro o w2 ⟨rfl, rfl⟩)
          | fail)
      rename_i h8
      have H8 : Hid (HS w a x _) := Lib.hid h8
      have HE8 := Lib.hid (HE.out.below ((HS.below H8.out).mono hB))
      clear h8 HS0 HCS HCW HFO
      go_wp2_with fail
      refine (codeOf_any HE8.out 1 (by omega)).mono ?_
      rintro o w5 ⟨rfl, rfl⟩
      obtain ⟨g0, g1, g2, g3, g4, g5, g6, g7, g8, _⟩ := GS.of H8.out
      clear g0 g1 g2 g3 g4
      go_wp2_with fail
      refine bodyPost_ret (v := dryV ⟨0, 0⟩ 1) (results_row_tmp (b := w.heap.size + 1 + 1) (cs := (⟨0, 0⟩ : Was).cells) Tryd.results18 rfl (stored2 ((HS.set (HS.set H8.out _ _) _ _).2.2.2.2.2.1)) Tryd.underlying28 rfl (by kernel_rfl)) rfl ⟨rfl, HS.below (HS.set (HS.set H8.out _ _) _ _)⟩
theorem l00Min_d (a b : Int) (w : World) :
    Calls Tryd.prog 109 #[.int .i64 a, .int .i64 b] w fun o w' => o = .returned (.int .i64 (if a < b then a else b)) ∧ w = w' := by
  by_cases h : a < b
  · rw [if_pos h]
    go_enter Tryd.func109, Tryd.ntmps109
    go_wp2_with fail
    go_ret
    exact ⟨rfl, rfl⟩
  · rw [if_neg h]
    go_enter Tryd.func109, Tryd.ntmps109
    go_wp2_with fail
    go_ret
    exact ⟨rfl, rfl⟩
theorem l00Max_d (a b : Int) (w : World) :
    Calls Tryd.prog 88 #[.int .i64 a, .int .i64 b] w fun o w' => o = .returned (.int .i64 (if a > b then a else b)) ∧ w = w' := by
  by_cases h : a > b
  · rw [if_pos h]
    go_enter Tryd.func88, Tryd.ntmps88
    go_wp2_with fail
    go_ret
    exact ⟨rfl, rfl⟩
  · rw [if_neg h]
    go_enter Tryd.func88, Tryd.ntmps88
    go_wp2_with fail
    go_ret
    exact ⟨rfl, rfl⟩
set_option maxRecDepth 100000 in
set_option maxHeartbeats 4000000 in
theorem l03Hour_any (a : Was) (x : Wea) (s : Bool) (ha : Was.valid a = true) (hx : Wea.valid x = true) (w : World) :
    Calls Tryd.prog 57 #[.int .i64 a.wet, .int .i64 a.thick, x.v, .bool s] w fun o w' => o = .returned (.int .i64 (hourWet a x s)) ∧ Below w.heap.size w w' := by
  have hld := lossOf_bd hx s
  obtain ⟨⟨a0, a1⟩, a2, a3⟩ := (Was.valid_iff a).1 ha
  obtain ⟨⟨x0, x1⟩, ⟨x2, x3⟩, x4, x5⟩ := (Wea.valid_iff x).1 hx
  have HB : Hid (Below w.heap.size w (w.alloc (.cells #[.int .i8 x.sun, .int .i8 x.wind, .int .i8 x.rain] 32))) := Lib.hid (by repeat (first | exact Below.refl _ _ | assumption | apply Below.drew | (refine Below.alloc ?_ (by first | (simp; done) | (simp; omega) | omega) _) | (refine Below.setCell ?_ (by first | (simp; done) | (simp; omega) | omega) _)))
  clear ha hx
  by_cases hr : 0 < x.rain
  · have hz : hourWet a x s = if a.wet + 5 * x.rain < 1000 then a.wet + 5 * x.rain else 1000 := by
      rw [hourWet, if_pos hr]
      split <;> split <;> omega
    have HZ := Lib.hid hz
    clear hz
    go_enter Tryd.func57, Tryd.ntmps57
    go_wp2_with fail
    refine (l00Min_d _ _ _).mono ?_
    rintro o w1 ⟨rfl, rfl⟩
    rw [← HZ.out]
    go_wp2_with fail
    go_ret
    exact ⟨rfl, HB.out⟩
  · have hr2 : decide (0 < x.rain) = false := by simpa using hr
    have hz : hourWet a x s = if 0 > a.wet - lossOf x s / a.thick then 0 else a.wet - lossOf x s / a.thick := by
      rw [hourWet, if_neg hr]
    have hq : 0 ≤ lossOf x s / a.thick := Int.ediv_nonneg hld.1 (by omega)
    have hle : lossOf x s / a.thick ≤ lossOf x s := Int.ediv_le_self _ hld.1
    have HZ := Lib.hid hz
    clear hz
    cases s with
    | true =>
      have hls : lossOf x true = 2 * x.wind + 2 := rfl
      rw [hls] at hq hle hld
      have HL := Lib.hid hls
      clear hls
      go_enter Tryd.func57, Tryd.ntmps57
      go_wp2_with fail
      refine (l00Max_d _ _ _).mono ?_
      rintro o w1 ⟨rfl, rfl⟩
      have hz2 := HZ.out
      rw [HL.out] at hz2
      rw [← hz2]
      clear hz2
      go_wp2_with fail
      go_ret
      exact ⟨rfl, HB.out⟩
    | false =>
      have hls : lossOf x false = 2 * x.wind + 2 + 3 * x.sun := by unfold lossOf; simp; omega
      rw [hls] at hq hle hld
      have HL := Lib.hid hls
      clear hls
      go_enter Tryd.func57, Tryd.ntmps57
      go_wp2_with fail
      refine (l00Max_d _ _ _).mono ?_
      rintro o w1 ⟨rfl, rfl⟩
      have hz2 := HZ.out
      rw [HL.out] at hz2
      rw [← hz2]
      clear hz2
      go_wp2_with fail
      go_ret
      exact ⟨rfl, HB.out⟩
set_option maxRecDepth 100000 in
set_option maxHeartbeats 2000000 in
theorem DryHour_spec (a : Was) (ha : a.Fits) (x : Wea) (hx : x.Fits) (s : Bool) (w : World) :
    Calls Tryd.prog 15 #[a.v, x.v, .bool s] w fun o w' => o = .returned (dryV (dryRes a x s) (codeDH a x)) ∧ Below w.heap.size w w' := by
  have HS0 := Lib.hid (HS.new w a x 28 32 28)
  cases hva : Was.valid a with
  | true =>
    cases hvx : Wea.valid x with
    | true =>
      have e0 : codeDH a x = 0 := by rw [codeDH, hva, hvx]; rfl
      have e1 : dryRes a x s = hourOf a x s := by rw [dryRes, hva, hvx]; rfl
      rw [e0, e1]
      have HA := Lib.hid hva
      have HX := Lib.hid hvx
      have hbd := hourWet_bd hva hvx s
      have hh := l03Hour_any a x s hva hvx
      clear e0 e1 hva hvx
      obtain ⟨z, hz⟩ : ∃ z, z = hourWet a x s := ⟨_, rfl⟩
      have he : hourOf a x s = ⟨z, a.thick⟩ := by rw [hz]; rfl
      rw [← hz] at hbd hh
      rw [he]
      have HH := Lib.hid hh
      clear hz he hh
      go_enter Tryd.func15, Tryd.ntmps15
      go_wp2_with fail
      obtain ⟨u0, hu0⟩ : ∃ u0, u0 = (((w.alloc (.cells #[.int .i16 a.wet, .int .i8 a.thick] 28)).alloc (.cells #[.int .i8 x.sun, .int .i8 x.wind, .int .i8 x.rain] 32)).alloc (.cells #[.int .i16 0, .int .i8 0] 28)) := ⟨_, rfl⟩
      rw [← hu0] at HS0 ⊢
      clear hu0
      refine (l03Wash_any a ha _).mono ?_
      rintro o w2 ⟨rfl, hb⟩
      rw [HA.out]
      have H2 := Lib.hid (HS.next HS0.out hb)
      obtain ⟨g0, g1, g2, g3, g4, _⟩ := H2.out
      clear hb HS0
      go_wp2_with fail
      refine (l03Weather_any x hx _).mono ?_
      rintro o w3 ⟨rfl, hb⟩
      rw [HX.out]
      have H3 := Lib.hid (HS.next H2.out hb)
      clear hb H2 g0 g1 g2 g3 g4
      go_wp2_with fail
      have t0 := ha.wet0
      have t1 := ha.wet1
      have t2 := ha.thick0
      have t3 := ha.thick1
      have y0 : IntKind.i64.wrap a.wet = a.wet := IntWalk.i64_in _ (by omega)
      have y1 : IntKind.i64.wrap a.thick = a.thick := IntWalk.i64_in _ (by omega)
      have y2 : IntKind.i16.wrap z = z := IntWalk.i16_in _ (by omega)
      go_region_held3 (fun u => u.cell? ⟨w.heap.size, 0, none⟩ = some (.int .i16 a.wet) ∧ u.cell? ⟨w.heap.size, 1, none⟩ = some (.int .i8 a.thick) ∧ u.cell? ⟨w.heap.size + 1, 0, none⟩ = some (.int .i8 x.sun) ∧ u.cell? ⟨w.heap.size + 1, 1, none⟩ = some (.int .i8 x.wind) ∧ u.cell? ⟨w.heap.size + 1, 2, none⟩ = some (.int .i8 x.rain) ∧
          u.cell? ⟨w.heap.size + 1 + 1, 0, none⟩ = some (valAt u ⟨w.heap.size + 1 + 1, 0, none⟩) ∧ u.cell? ⟨w.heap.size + 1 + 1, 1, none⟩ = some (valAt u ⟨w.heap.size + 1 + 1, 1, none⟩) ∧ u.frozen? ⟨w.heap.size + 1 + 1, 0, none⟩ = false ∧ u.frozen? ⟨w.heap.size + 1 + 1, 1, none⟩ = false ∧ HS w a x u)
        (first | assumption | exact GS.of (HS.next H3.out (below_drewN _ _ 1)) | exact GS.of (HS.next (GS.hs (w := w) (a := a) (x := x) (by assumption)) hb2) | exact GS.of ((GS.hs (w := w) (a := a) (x := x) (by assumption)).set _ _ |>.set _ _))
        (first
          | (go_at_call 57; go_must (refine (HH.out _).mono ?_); rintro o w2 ⟨rfl, hb2⟩)
          | fail)
      all_goals
        rename_i h9
        have H9 := Lib.hid (GS.hs (w := w) (a := a) (x := x) h9)
        clear h9 HH H3 y0 y1 y2
        go_wp2_with fail
        refine bodyPost_ret (v := dryV ⟨z, a.thick⟩ 0) (results_row_tmp (b := w.heap.size + 1 + 1) (cs := (⟨z, a.thick⟩ : Was).cells) Tryd.results15 rfl (stored2 H9.out.2.2.2.2.2.1) Tryd.underlying28 rfl (by kernel_rfl)) rfl ⟨rfl, H9.out.below⟩
    | false =>
      have e0 : codeDH a x = 1 := by rw [codeDH, hva, hvx]; rfl
      have e1 : dryRes a x s = ⟨0, 0⟩ := by rw [dryRes, hva, hvx]; rfl
      rw [e0, e1]
      have HA := Lib.hid hva
      have HX := Lib.hid hvx
      clear e0 e1 hva hvx
      go_enter Tryd.func15, Tryd.ntmps15
      go_wp2_with fail
      obtain ⟨u0, hu0⟩ : ∃ u0, u0 = (((w.alloc (.cells #[.int .i16 a.wet, .int .i8 a.thick] 28)).alloc (.cells #[.int .i8 x.sun, .int .i8 x.wind, .int .i8 x.rain] 32)).alloc (.cells #[.int .i16 0, .int .i8 0] 28)) := ⟨_, rfl⟩
      rw [← hu0] at HS0 ⊢
      clear hu0
      refine (l03Wash_any a ha _).mono ?_
      rintro o w2 ⟨rfl, hb⟩
      rw [HA.out]
      have H2 := Lib.hid (HS.next HS0.out hb)
      obtain ⟨g0, g1, g2, g3, g4, _⟩ := H2.out
      clear hb HS0
      go_wp2_with fail
      refine (l03Weather_any x hx _).mono ?_
      rintro o w3 ⟨rfl, hb⟩
      rw [HX.out]
      have H8 := Lib.hid (HS.next H2.out hb)
      clear hb H2 g0 g1 g2 g3 g4
      obtain ⟨g0, g1, g2, g3, g4, g5, g6, g7, g8, _⟩ := GS.of H8.out
      clear g0 g1 g2 g3 g4
      go_wp2_with fail
      refine bodyPost_ret (v := dryV ⟨0, 0⟩ 1) (results_row_tmp (b := w.heap.size + 1 + 1) (cs := (⟨0, 0⟩ : Was).cells) Tryd.results15 rfl (stored2 (HS.set (HS.set H8.out _ _) _ _).2.2.2.2.2.1) Tryd.underlying28 rfl (by kernel_rfl)) rfl ⟨rfl, HS.below (HS.set (HS.set H8.out _ _) _ _)⟩
  | false =>
    have e0 : codeDH a x = 1 := by rw [codeDH, hva]; rfl
    have e1 : dryRes a x s = ⟨0, 0⟩ := by rw [dryRes, hva]; rfl
    rw [e0, e1]
    have HA := Lib.hid hva
    clear e0 e1 hva
    go_enter Tryd.func15, Tryd.ntmps15
    go_wp2_with fail
    obtain ⟨u0, hu0⟩ : ∃ u0, u0 = (((w.alloc (.cells #[.int .i16 a.wet, .int .i8 a.thick] 28)).alloc (.cells #[.int .i8 x.sun, .int .i8 x.wind, .int .i8 x.rain] 32)).alloc (.cells #[.int .i16 0, .int .i8 0] 28)) := ⟨_, rfl⟩
    rw [← hu0] at HS0 ⊢
    clear hu0
    refine (l03Wash_any a ha _).mono ?_
    rintro o w2 ⟨rfl, hb⟩
    rw [HA.out]
    have H8 := Lib.hid (HS.next HS0.out hb)
    clear hb HS0
    obtain ⟨g0, g1, g2, g3, g4, g5, g6, g7, g8, _⟩ := GS.of H8.out
    clear g0 g1 g2 g3 g4
    go_wp2_with fail
    refine bodyPost_ret (v := dryV ⟨0, 0⟩ 1) (results_row_tmp (b := w.heap.size + 1 + 1) (cs := (⟨0, 0⟩ : Was).cells) Tryd.results15 rfl (stored2 (HS.set (HS.set H8.out _ _) _ _).2.2.2.2.2.1) Tryd.underlying28 rfl (by kernel_rfl)) rfl ⟨rfl, HS.below (HS.set (HS.set H8.out _ _) _ _)⟩
end Go.Proofs.YtmjfdbhogobpfaaDoor.day
