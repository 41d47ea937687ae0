/-
  THE LAW FnExactDryHour: for every thing, every weather and both places the law returns true: the program answers as the model does. No condition but that the package's errors are what the program's text lays.
-/
import Derived.Test.YtmjfdbhogobpfaaDoorCDryHour
import Derived.Test.YtmjfdbhogobpfaaDoorWasOpen
import Derived.Test.YtmjfdbhogobpfaaDoorWeaOpen
import Derived.Test.YtmjfdbhogobpfaaDoorClose
import Derived.Test.YtmjfdbhogobpfaaDoorLaid
import Derived.Test.YtmjfdbhogobpfaaDoorCards
import Derived.Test.YtmjfdbhogobpfaaDoorTie
namespace Go.Proofs.YtmjfdbhogobpfaaDoor.lawDryHour
open Go.ChangeShapes Go.WideShapes Go.ChangeAt Go.RowKit Go.Joins sl errs day

/-- what the law keeps: its two boxes -/
abbrev LW (w : World) (a : Was) (x : Wea) (u : World) : Prop := u.cell? ⟨w.heap.size, 0, none⟩ = some (.int .i16 a.wet) ∧ u.cell? ⟨w.heap.size, 1, none⟩ = some (.int .i8 a.thick) ∧ u.cell? ⟨w.heap.size + 1, 0, none⟩ = some (.int .i8 x.sun) ∧ u.cell? ⟨w.heap.size + 1, 1, none⟩ = some (.int .i8 x.wind) ∧ u.cell? ⟨w.heap.size + 1, 2, none⟩ = some (.int .i8 x.rain) ∧ w.heap.size + 1 < u.heap.size ∧ Below w.heap.size w u
theorem LW.next {w : World} {a : Was} {x : Wea} {u v : World} (h : LW w a x u) (hb : Below u.heap.size u v) : LW w a x v := by
  obtain ⟨a0, a1, x0, x1, x2, hl, hB⟩ := h
  have e1 : w.heap.size < u.heap.size := by omega
  exact ⟨(hb.cell (p := ⟨_, 0, none⟩) e1).trans a0, (hb.cell (p := ⟨_, 1, none⟩) e1).trans a1, (hb.cell (p := ⟨_, 0, none⟩) hl).trans x0, (hb.cell (p := ⟨_, 1, none⟩) hl).trans x1, (hb.cell (p := ⟨_, 2, none⟩) hl).trans x2, Nat.lt_of_lt_of_le hl hb.size, below_next hB hb (Nat.le_refl _)⟩
theorem LW.new (w : World) (a : Was) (x : Wea) (T U : TypeId) : LW w a x ((w.alloc (.cells #[.int .i16 a.wet, .int .i8 a.thick] T)).alloc (.cells #[.int .i8 x.sun, .int .i8 x.wind, .int .i8 x.rain] U)) := by
  have h1 := (WasC.new a T w).next ((Below.refl _ _).alloc (Nat.le_refl _) (.cells #[.int .i8 x.sun, .int .i8 x.wind, .int .i8 x.rain] U))
  have h2 := WeaC.new x U (w.alloc (.cells #[.int .i16 a.wet, .int .i8 a.thick] T))
  rw [World.size_alloc] at h2
  exact ⟨h1.c0, h1.c1, h2.c0, h2.c1, h2.c2, by simp, by repeat (first | exact Below.refl _ _ | assumption | apply Below.drew | (refine Below.alloc ?_ (by first | (simp; done) | (simp; omega) | omega) _) | (refine Below.setCell ?_ (by first | (simp; done) | (simp; omega) | omega) _))⟩
theorem LW.below {w : World} {a : Was} {x : Wea} {u : World} (h : LW w a x u) : Below w.heap.size w u := h.2.2.2.2.2.2
theorem LW.drew {w : World} {a : Was} {x : Wea} {u : World} (h : LW w a x u) : LW w a x u.drew := h.next (below_drewN _ _ 1)

theorem LW.set {w : World} {a : Was} {x : Wea} {u : World} (h : LW w a x u) {b : Nat} (hb : w.heap.size + 1 < b) (o : Nat) (v : Value) : LW w a x (u.setCell ⟨b, o, none⟩ v) := by
  obtain ⟨a0, a1, x0, x1, x2, hl, hB⟩ := h
  have e1 : ∀ p : Addr, p.block ≠ b → (u.setCell ⟨b, o, none⟩ v).cell? p = u.cell? p := fun p hp => World.cell?_setCell_far _ _ _ _ (by show b ≠ p.block; exact fun e => hp e.symm)
  exact ⟨(e1 ⟨_, 0, none⟩ (by show w.heap.size ≠ _; omega)).trans a0, (e1 ⟨_, 1, none⟩ (by show w.heap.size ≠ _; omega)).trans a1, (e1 ⟨_, 0, none⟩ (by show w.heap.size + 1 ≠ _; omega)).trans x0, (e1 ⟨_, 1, none⟩ (by show w.heap.size + 1 ≠ _; omega)).trans x1, (e1 ⟨_, 2, none⟩ (by show w.heap.size + 1 ≠ _; omega)).trans x2,
    by simpa [World.setCell] using hl, hB.setCell (p := ⟨b, o, none⟩) (by show w.heap.size ≤ b; omega) v⟩
theorem LW.lt {w : World} {a : Was} {x : Wea} {u : World} (h : LW w a x u) : w.heap.size + 1 < u.heap.size := h.2.2.2.2.2.1
/-- a variable of two cells that the region has made lies where it was made -/
abbrev Late (v : World) (X : Nat) (p q : Value) : Prop := v.cell? ⟨X, 0, none⟩ = some p ∧ v.cell? ⟨X, 1, none⟩ = some q ∧ v.frozen? ⟨X, 0, none⟩ = false ∧ v.frozen? ⟨X, 1, none⟩ = false ∧ X < v.heap.size
theorem Late.next {u v : World} {X : Nat} {p q : Value} (h : Late u X p q) (hb : Below u.heap.size u v) : Late v X p q :=
  ⟨(hb.cell (p := ⟨X, 0, none⟩) h.2.2.2.2).trans h.1, (hb.cell (p := ⟨X, 1, none⟩) h.2.2.2.2).trans h.2.1, (hb.frozen (p := ⟨X, 0, none⟩) h.2.2.2.2).trans h.2.2.1, (hb.frozen (p := ⟨X, 1, none⟩) h.2.2.2.2).trans h.2.2.2.1, Nat.lt_of_lt_of_le h.2.2.2.2 hb.size⟩
theorem late {u v : World} {T : TypeId} {p q : Value} (h : Below (u.alloc (.cells #[p, q] T)).heap.size (u.alloc (.cells #[p, q] T)) v) : Late v u.heap.size p q := by
  have hl : u.heap.size < (u.alloc (.cells #[p, q] T)).heap.size := by simp
  have hn := heap_alloc_new u (.cells #[p, q] T)
  exact Late.next ⟨cell_of_row _ _ 0 _ _ _ hn, cell_of_row _ _ 1 _ _ _ hn, frozen_of_row _ _ 0 _ _ hn, frozen_of_row _ _ 1 _ _ hn, hl⟩ h
/-- .. and the first answer's place -/
abbrev LX (w : World) (a : Was) (x : Wea) (X : Nat) (r : Was) (u : World) : Prop := u.cell? ⟨w.heap.size, 0, none⟩ = some (.int .i16 a.wet) ∧ u.cell? ⟨w.heap.size, 1, none⟩ = some (.int .i8 a.thick) ∧ u.cell? ⟨w.heap.size + 1, 0, none⟩ = some (.int .i8 x.sun) ∧ u.cell? ⟨w.heap.size + 1, 1, none⟩ = some (.int .i8 x.wind) ∧ u.cell? ⟨w.heap.size + 1, 2, none⟩ = some (.int .i8 x.rain) ∧ u.cell? ⟨X, 0, none⟩ = some (.int .i16 r.wet) ∧ u.cell? ⟨X, 1, none⟩ = some (.int .i8 r.thick) ∧ X < u.heap.size ∧ w.heap.size + 1 < X ∧ Below w.heap.size w u
section
variable {w : World} {a : Was} {x : Wea} {X : Nat} {r : Was} {u v : World}
theorem LX.lw (h : LX w a x X r u) : LW w a x u := by
  obtain ⟨a0, a1, x0, x1, x2, r0, r1, hl, hX, hB⟩ := h
  exact ⟨a0, a1, x0, x1, x2, by omega, hB⟩
theorem LX.wc (h : LX w a x X r u) : WasC u X r := ⟨h.2.2.2.2.2.2.2.1, h.2.2.2.2.2.1, h.2.2.2.2.2.2.1⟩
theorem LX.of (h : LW w a x u) (k : WasC u X r) (hX : w.heap.size + 1 < X) : LX w a x X r u := ⟨h.1, h.2.1, h.2.2.1, h.2.2.2.1, h.2.2.2.2.1, k.c0, k.c1, k.lt, hX, h.2.2.2.2.2.2⟩
theorem LX.lt (h : LX w a x X r u) : X < u.heap.size := h.2.2.2.2.2.2.2.1
theorem LX.over (h : LX w a x X r u) : w.heap.size + 1 < X := h.2.2.2.2.2.2.2.2.1
theorem LX.next (h : LX w a x X r u) (hb : Below u.heap.size u v) : LX w a x X r v := LX.of (h.lw.next hb) (h.wc.next hb) h.over
theorem LX.drew (h : LX w a x X r u) : LX w a x X r u.drew := h.next (below_drewN _ _ 1)
theorem LX.below (h : LX w a x X r u) : Below w.heap.size w u := h.lw.below
theorem LX.set (h : LX w a x X r u) {b : Nat} (hb : X < b) (o : Nat) (y : Value) : LX w a x X r (u.setCell ⟨b, o, none⟩ y) := by
  have e1 : ∀ p : Addr, p.block ≠ b → (u.setCell ⟨b, o, none⟩ y).cell? p = u.cell? p := fun p hp => World.cell?_setCell_far _ _ _ _ (by show b ≠ p.block; exact fun e => hp e.symm)
  have hw := h.wc
  exact LX.of (h.lw.set (by have := h.over; omega) o y) ⟨by simpa [World.setCell] using hw.lt, (e1 ⟨_, 0, none⟩ (by show X ≠ b; omega)).trans hw.c0, (e1 ⟨_, 1, none⟩ (by show X ≠ b; omega)).trans hw.c1⟩ h.over
end
theorem late_drew {u v : World} {T : TypeId} {p q : Value} (h : Below (u.alloc (.cells #[p, q] T)).drew.heap.size (u.alloc (.cells #[p, q] T)).drew v) : Late v u.heap.size p q :=
  late (u := u) (T := T) (p := p) (q := q) ⟨h.os, h.tape, h.output, h.size, h.block⟩
theorem lateC {v : World} {b : Nat} {p q : Value} (c0 : v.cell? ⟨b, 0, none⟩ = some p) (c1 : v.cell? ⟨b, 1, none⟩ = some q) (hl : b < v.heap.size) (r : Was) : WasC ((v.setCell ⟨b, 0, none⟩ (.int .i16 r.wet)).setCell ⟨b, 1, none⟩ (.int .i8 r.thick)) b r := by
  have h2 : (v.setCell ⟨b, 0, none⟩ (.int .i16 r.wet)).cell? ⟨b, 1, none⟩ = some q := (World.cell?_setCell_other _ _ _ _ (by simp)).trans c1
  exact ⟨by simpa [World.setCell] using hl, (World.cell?_setCell_other _ _ _ _ (by simp)).trans (World.cell?_setCell_same _ _ _ c0), World.cell?_setCell_same _ _ _ h2⟩

set_option maxRecDepth 100000 in
set_option maxHeartbeats 4000000 in
theorem walk (a : Was) (ha : a.Fits) (x : Wea) (hx : x.Fits) (s : Bool) (w : World) (e : Nat → Addr) (hE : Errs w w.heap.size e) :
    Calls Tryd.prog 3 #[a.v, x.v, .bool s] w fun o w' => o = .returned (.bool true) ∧ Below w.heap.size w w' := by
  obtain ⟨r, hr⟩ : ∃ r, dryRes a x s = r := ⟨_, rfl⟩
  obtain ⟨k, hk⟩ : ∃ k, codeDH a x = k := ⟨_, rfl⟩
  have hsp := DryHour_spec a ha x hx s
  have him := fun (u : World) (hb : Below w.heap.size w u) => DryHour_any a ha x hx s (hE.below hb) hb.size
  rw [hr, hk] at hsp him
  have HSP := Lib.hid hsp
  have HIM := Lib.hid him
  clear hr hk hsp him
  have S0 := Lib.hid (LW.new w a x 25 27)
  have hst : ∀ u : World, (Instr.storeAt 28 (.pointer (some ⟨u.heap.size, 0, none⟩)) (.agg #[.int .i16 r.wet, .int .i8 r.thick])).run Tryd.prog (u.alloc (.cells #[.int .i16 0, .int .i8 0] 28)) = .ok () (u.alloc (.cells #[.int .i16 r.wet, .int .i8 r.thick] 28)) :=
    fun u => run_storeAt_new (P := Tryd.prog) u 28 #[.int .i16 0, .int .i8 0] #[.int .i16 r.wet, .int .i8 r.thick] (by kernel_rfl) rfl (by simp [Value.oneCell'])
  go_enter Tryd.func3, Tryd.ntmps3
  go_wp2_with fail
  obtain ⟨u0, hu0⟩ : ∃ u0, u0 = ((w.alloc (.cells #[.int .i16 a.wet, .int .i8 a.thick] 25)).alloc (.cells #[.int .i8 x.sun, .int .i8 x.wind, .int .i8 x.rain] 27)) := ⟨_, rfl⟩
  rw [← hu0] at S0 ⊢
  clear hu0
  rename_i K hKw
  have HKW := Lib.hid hKw
  clear hKw
  have hK : ∀ (X : Nat) (U : World), LW w a x U → WasC U X r → w.heap.size + 1 < X → K { tmps := #[a.v, x.v, .bool s, .pointer (some ⟨w.heap.size, 0, none⟩), .pointer (some ⟨w.heap.size + 1, 0, none⟩), undef, .bool false, .pointer (some ⟨X, 0, none⟩), .int .i64 k, undef, undef, dryV r k, .agg #[.int .i16 a.wet, .int .i8 a.thick], a.v, .agg #[.int .i8 x.sun, .int .i8 x.wind, .int .i8 x.rain], x.v, .bool s, dryV r k, .agg #[.int .i16 r.wet, .int .i8 r.thick], .int .i64 k, undef, undef, undef, undef, undef, undef, undef, undef, undef, undef, undef, undef, undef, undef, undef, undef, undef, undef], defers := [] } U := by
    intro X U hL hR hX
    apply HKW.out
    have HL := Lib.hid hL
    have HR := Lib.hid hR
    have HX := Lib.hid hX
    clear hL hR HKW S0 HSP hX
    go_wp2_with fail
    rename_i K2 hKw2
    have HKW2 := Lib.hid hKw2
    clear hKw2
    have hK2 : ∀ (Y : Nat) (V : World), LX w a x X r V → WasC V Y r → K2 { tmps := #[a.v, x.v, .bool s, .pointer (some ⟨w.heap.size, 0, none⟩), .pointer (some ⟨w.heap.size + 1, 0, none⟩), undef, .bool false, .pointer (some ⟨X, 0, none⟩), .int .i64 k, .pointer (some ⟨Y, 0, none⟩), .int .i64 k, dryV r k, .agg #[.int .i16 a.wet, .int .i8 a.thick], a.v, .agg #[.int .i8 x.sun, .int .i8 x.wind, .int .i8 x.rain], x.v, .bool s, dryV r k, .agg #[.int .i16 r.wet, .int .i8 r.thick], .int .i64 k, dryV r k, .agg #[.int .i16 a.wet, .int .i8 a.thick], a.v, .agg #[.int .i8 x.sun, .int .i8 x.wind, .int .i8 x.rain], x.v, .bool s, dryV r k, .agg #[.int .i16 r.wet, .int .i8 r.thick], .int .i64 k, undef, undef, undef, undef, undef, undef, undef, undef, undef], defers := [] } V := by
      intro Y V hL hR
      apply HKW2.out
      have HB := Lib.hid hL.below
      obtain ⟨_, _, _, _, _, q0, q1, _, _, _⟩ := hL
      obtain ⟨_, q2, q3⟩ := hR
      clear HKW2 HL HR HX HIM
      go_wp2_with fail
      refine (wasS.eq_any r r _).mono ?_
      rintro o w9 ⟨rfl, hb⟩
      have HB2 := Lib.hid (below_next HB.out hb (Nat.le_refl _))
      rw [(Was.eq_iff r r).2 rfl]
      clear hb q0 q1 q2 q3 HB
      go_wp2_with fail
      go_ret
      exact ⟨rfl, HB2.out⟩
    have HK2 := Lib.hid hK2
    have SX : Hid (LX w a x X r U) := Lib.hid (LX.of HL.out HR.out HX.out)
    clear hK2 HKW2 HL HR
    go_region_held3 (fun u => u.cell? ⟨w.heap.size, 0, none⟩ = some (.int .i16 a.wet) ∧ u.cell? ⟨w.heap.size, 1, none⟩ = some (.int .i8 a.thick) ∧ u.cell? ⟨w.heap.size + 1, 0, none⟩ = some (.int .i8 x.sun) ∧ u.cell? ⟨w.heap.size + 1, 1, none⟩ = some (.int .i8 x.wind) ∧ u.cell? ⟨w.heap.size + 1, 2, none⟩ = some (.int .i8 x.rain) ∧ u.cell? ⟨X, 0, none⟩ = some (.int .i16 r.wet) ∧ u.cell? ⟨X, 1, none⟩ = some (.int .i8 r.thick) ∧ X < u.heap.size ∧ w.heap.size + 1 < X ∧ Below w.heap.size w u)
      (first | assumption | exact SX.out.drew | exact LX.next (w := w) (a := a) (x := x) (X := X) (r := r) (by assumption) hbC | exact LX.next (w := w) (a := a) (x := x) (X := X) (r := r) (by assumption) hbB | exact LX.next (w := w) (a := a) (x := x) (X := X) (r := r) (by assumption) hbA | exact LX.next (w := w) (a := a) (x := x) (X := X) (r := r) (by assumption) ((Below.refl _ _).alloc (Nat.le_refl _) _) | exact LX.set (LX.set (w := w) (a := a) (x := x) (X := X) (r := r) (by assumption) SX.out.drew.lt _ _) SX.out.drew.lt _ _ | exact LX.set (LX.set (w := w) (a := a) (x := x) (X := X) (r := r) (by assumption) (SX.out.drew.next hbA).lt _ _) (SX.out.drew.next hbA).lt _ _ | exact LX.set (LX.set (w := w) (a := a) (x := x) (X := X) (r := r) (by assumption) ((SX.out.drew.next hbA).next hbB).lt _ _) ((SX.out.drew.next hbA).next hbB).lt _ _ | exact LX.set (LX.set (w := w) (a := a) (x := x) (X := X) (r := r) (by assumption) (((SX.out.drew.next hbA).next hbB).next hbC).lt _ _) (((SX.out.drew.next hbA).next hbB).next hbC).lt _ _ | exact (((SX.out.drew.next hbA).next hbB).next hbC).next ((Below.refl _ _).alloc (Nat.le_refl _) _) | fail)
      (first
        | (go_at_call 16; refine (wasS.to_any a _).mono ?_; rintro o wA ⟨rfl, hbA⟩; have LT := late hbA; have LH := Lib.hid LT; obtain ⟨n0, n1, n2, n3, n4⟩ := LT)
        | (go_at_call 16; refine (wasS.to_any a _).mono ?_; rintro o wA ⟨rfl, hbA⟩; have LT := late_drew hbA; have LH := Lib.hid LT; obtain ⟨n0, n1, n2, n3, n4⟩ := LT)
        | (go_at_call 16; refine (wasS.to_any a _).mono ?_; rintro o wA ⟨rfl, hbA⟩; have LT := Late.next LH.out hbA; have LH := Lib.hid LT; obtain ⟨n0, n1, n2, n3, n4⟩ := LT)
        | (go_at_call 16; refine (wasS.to_any a _).mono ?_; rintro o wA ⟨rfl, hbA⟩)
        | (go_at_call 17; refine (weaS.to_any x _).mono ?_; rintro o wB ⟨rfl, hbB⟩; have LT := late hbB; have LH := Lib.hid LT; obtain ⟨n0, n1, n2, n3, n4⟩ := LT)
        | (go_at_call 17; refine (weaS.to_any x _).mono ?_; rintro o wB ⟨rfl, hbB⟩; have LT := Late.next LH.out hbB; have LH := Lib.hid LT; obtain ⟨n0, n1, n2, n3, n4⟩ := LT)
        | (go_at_call 17; refine (weaS.to_any x _).mono ?_; rintro o wB ⟨rfl, hbB⟩)
        | (go_at_call 18; refine (HIM.out _ ?_).mono ?_; (exact LX.below (w := w) (a := a) (x := x) (X := X) (r := r) (by assumption)); rintro o wC ⟨rfl, hbC⟩; have LT := late hbC; have LH := Lib.hid LT; obtain ⟨n0, n1, n2, n3, n4⟩ := LT)
        | (go_at_call 18; refine (HIM.out _ ?_).mono ?_; (exact LX.below (w := w) (a := a) (x := x) (X := X) (r := r) (by assumption)); rintro o wC ⟨rfl, hbC⟩; have LT := Late.next LH.out hbC; have LH := Lib.hid LT; obtain ⟨n0, n1, n2, n3, n4⟩ := LT)
        | (go_at_call 18; refine (HIM.out _ ?_).mono ?_; (exact LX.below (w := w) (a := a) (x := x) (X := X) (r := r) (by assumption)); rintro o wC ⟨rfl, hbC⟩)
        | fail)
    all_goals
      rename_i h8
      first
        | exact HK2.out _ _ h8 (lateC n0 n1 n4 r)
        | exact HK2.out _ _ h8 (WasC.new r _ wC)
  have HK := Lib.hid hK
  clear hK HKW
  go_region_held3 (fun u => u.cell? ⟨w.heap.size, 0, none⟩ = some (.int .i16 a.wet) ∧ u.cell? ⟨w.heap.size, 1, none⟩ = some (.int .i8 a.thick) ∧ u.cell? ⟨w.heap.size + 1, 0, none⟩ = some (.int .i8 x.sun) ∧ u.cell? ⟨w.heap.size + 1, 1, none⟩ = some (.int .i8 x.wind) ∧ u.cell? ⟨w.heap.size + 1, 2, none⟩ = some (.int .i8 x.rain) ∧ w.heap.size + 1 < u.heap.size ∧ Below w.heap.size w u)
    (first | assumption | exact S0.out.drew | exact LW.next (w := w) (a := a) (x := x) (by assumption) hbC | exact LW.next (w := w) (a := a) (x := x) (by assumption) hbB | exact LW.next (w := w) (a := a) (x := x) (by assumption) hbA | exact LW.next (w := w) (a := a) (x := x) (by assumption) ((Below.refl _ _).alloc (Nat.le_refl _) _) | exact LW.set (LW.set (w := w) (a := a) (x := x) (by assumption) S0.out.drew.lt _ _) S0.out.drew.lt _ _ | exact LW.set (LW.set (w := w) (a := a) (x := x) (by assumption) (S0.out.drew.next hbA).lt _ _) (S0.out.drew.next hbA).lt _ _ | exact LW.set (LW.set (w := w) (a := a) (x := x) (by assumption) ((S0.out.drew.next hbA).next hbB).lt _ _) ((S0.out.drew.next hbA).next hbB).lt _ _ | exact LW.set (LW.set (w := w) (a := a) (x := x) (by assumption) (((S0.out.drew.next hbA).next hbB).next hbC).lt _ _) (((S0.out.drew.next hbA).next hbB).next hbC).lt _ _ | exact (((S0.out.drew.next hbA).next hbB).next hbC).next ((Below.refl _ _).alloc (Nat.le_refl _) _) | fail)
    (first
      | (go_at_call 16; refine (wasS.to_any a _).mono ?_; rintro o wA ⟨rfl, hbA⟩; have LT := late hbA; have LH := Lib.hid LT; obtain ⟨n0, n1, n2, n3, n4⟩ := LT)
      | (go_at_call 16; refine (wasS.to_any a _).mono ?_; rintro o wA ⟨rfl, hbA⟩; have LT := late_drew hbA; have LH := Lib.hid LT; obtain ⟨n0, n1, n2, n3, n4⟩ := LT)
      | (go_at_call 16; refine (wasS.to_any a _).mono ?_; rintro o wA ⟨rfl, hbA⟩; have LT := Late.next LH.out hbA; have LH := Lib.hid LT; obtain ⟨n0, n1, n2, n3, n4⟩ := LT)
      | (go_at_call 16; refine (wasS.to_any a _).mono ?_; rintro o wA ⟨rfl, hbA⟩)
      | (go_at_call 17; refine (weaS.to_any x _).mono ?_; rintro o wB ⟨rfl, hbB⟩; have LT := late hbB; have LH := Lib.hid LT; obtain ⟨n0, n1, n2, n3, n4⟩ := LT)
      | (go_at_call 17; refine (weaS.to_any x _).mono ?_; rintro o wB ⟨rfl, hbB⟩; have LT := Late.next LH.out hbB; have LH := Lib.hid LT; obtain ⟨n0, n1, n2, n3, n4⟩ := LT)
      | (go_at_call 17; refine (weaS.to_any x _).mono ?_; rintro o wB ⟨rfl, hbB⟩)
      | (go_at_call 15; refine (HSP.out _).mono ?_; rintro o wC ⟨rfl, hbC⟩; have LT := late hbC; have LH := Lib.hid LT; obtain ⟨n0, n1, n2, n3, n4⟩ := LT)
      | (go_at_call 15; refine (HSP.out _).mono ?_; rintro o wC ⟨rfl, hbC⟩; have LT := Late.next LH.out hbC; have LH := Lib.hid LT; obtain ⟨n0, n1, n2, n3, n4⟩ := LT)
      | (go_at_call 15; refine (HSP.out _).mono ?_; rintro o wC ⟨rfl, hbC⟩)
      | fail)
  all_goals
    rename_i h8
    first
      | exact HK.out _ _ h8 (lateC n0 n1 n4 r) (S0.out.drew.lt)
      | exact HK.out _ _ h8 (lateC n0 n1 n4 r) ((S0.out.drew.next hbA).lt)
      | exact HK.out _ _ h8 (lateC n0 n1 n4 r) (((S0.out.drew.next hbA).next hbB).lt)
      | exact HK.out _ _ h8 (WasC.new r _ wC) ((((S0.out.drew.next hbA).next hbB).next hbC).lt)

theorem readables : ∀ t ∈ Tryd.f3.params.toList, Tryd.prog.readableRec t = true ∧ t < Tryd.prog.types.size := by
  rw [Tryd.params3]
  intro t ht
  simp only [List.mem_cons, List.not_mem_nil, or_false] at ht
  rcases ht with rfl | rfl | rfl <;> exact ⟨by kernel_rfl, of_decide_eq_true (by kernel_rfl)⟩

set_option maxRecDepth 100000 in
/-- what the row's list gives -/
theorem errsLaid {W : World} (h : laidMetH Tryd.prog Rows.fnExactDryHourRow.laid W) : ∃ e, Errs W W.heap.size e := by
  rw [MakeChecks.laidMetH_plain _ _ _ (by kernel_rfl)] at h
  refine errs_of Rows.fnExactDryHourRow.laid (fun i => i) h (by kernel_rfl) ?_ ?_ (fun i j _ _ h => h)
  · have hall : ((listOf Rows.fnExactDryHourRow.laid).all fun x => match Tryd.prog.globalNamed x.1 with | some g => decide ((Tryd.prog.globals[g]?).map (·.type) = some 85) | none => false) = true := by kernel_rfl
    intro x hx
    have h1 := List.all_eq_true.1 hall x hx
    split at h1
    · rename_i g hg
      exact ⟨g, hg, of_decide_eq_true h1⟩
    · cases h1
  · have b0 : ((listOf Rows.fnExactDryHourRow.laid)[0]?).bind (fun x => Tryd.prog.globalNamed x.1) = some (gvar 0) := by kernel_rfl
    have b1 : ((listOf Rows.fnExactDryHourRow.laid)[1]?).bind (fun x => Tryd.prog.globalNamed x.1) = some (gvar 1) := by kernel_rfl
    have b2 : ((listOf Rows.fnExactDryHourRow.laid)[2]?).bind (fun x => Tryd.prog.globalNamed x.1) = some (gvar 2) := by kernel_rfl
    have b3 : ((listOf Rows.fnExactDryHourRow.laid)[3]?).bind (fun x => Tryd.prog.globalNamed x.1) = some (gvar 3) := by kernel_rfl
    have b4 : ((listOf Rows.fnExactDryHourRow.laid)[4]?).bind (fun x => Tryd.prog.globalNamed x.1) = some (gvar 4) := by kernel_rfl
    have b5 : ((listOf Rows.fnExactDryHourRow.laid)[5]?).bind (fun x => Tryd.prog.globalNamed x.1) = some (gvar 5) := by kernel_rfl
    have b6 : ((listOf Rows.fnExactDryHourRow.laid)[6]?).bind (fun x => Tryd.prog.globalNamed x.1) = some (gvar 6) := by kernel_rfl
    intro i hi
    match i, hi with
    | 0, _ => exact b0
    | 1, _ => exact b1
    | 2, _ => exact b2
    | 3, _ => exact b3
    | 4, _ => exact b4
    | 5, _ => exact b5
    | 6, _ => exact b6

set_option maxRecDepth 100000 in
theorem contract (H : Type) (enc : TypeId × Value → H) (W : World) (base : Nat) (args : Array Value) (ds gs : List (DataW H)) (before : List MemPlace)
    (hval : ∀ (j : Nat) t v, Tryd.f3.params[j]? = some t → args[j]? = some v → Value.okWide Tryd.prog W .any base t v)
    (hW : DataW.Whole enc Tryd.prog Tryd.f3.params.toList Rows.fnExactDryHourSpec.vars false W args.toList ds gs before) (hL : laidMetH Tryd.prog Rows.fnExactDryHourRow.laid W) :
    Calls Tryd.prog 3 args W fun e W' => ∃ v, e = .returned v ∧ Rows.fnExactDryHourSpec.post enc Tryd.prog Tryd.f3 false true false false W args v W' := by
  obtain ⟨ee, hE⟩ := errsLaid hL
  have hW' := hW
  obtain ⟨p, q, hA0, hV, rfl, hfz, hnd⟩ := hW
  have hA : DataW.TrodAll enc Tryd.prog W 0 (fun _ => true) true Tryd.f3.params.toList args.toList ds p := hA0
  rw [Tryd.params3] at hA hval
  clear hA0
  obtain ⟨v0, vs0, d0, ds0, p0, q0, hargs, rfl, rfl, h0, r0⟩ := trodAll_cons hA
  obtain ⟨v1, vs1, d1, ds1, p1, q1, rfl, rfl, rfl, h1, r1⟩ := trodAll_cons r0
  obtain ⟨v2, vs2, d2, ds2, p2, q2, rfl, rfl, rfl, h2, r2⟩ := trodAll_cons r1
  obtain ⟨rfl, rfl, rfl⟩ := trodAll_nil r2
  obtain rfl : args = #[v0, v1, v2] := by cases args; simp_all
  obtain ⟨z0, z1, z2, z3, z4, z5, z6, rfl⟩ := vars_of hV
  obtain ⟨a, ha, rfl⟩ := wasS.open_one (hval 0 25 v0 rfl rfl) h0
  obtain ⟨x, hx, rfl⟩ := weaS.open_one (hval 1 27 v1 rfl rfl) h1
  obtain ⟨s, rfl⟩ : ∃ b : Bool, v2 = .bool b := okWide_bool Tryd.underlying4 (hval 2 4 v2 rfl rfl)
  refine (walk a ha x hx s W ee hE).mono fun e W' ⟨he, hb⟩ => ?_
  subst he
  exact ⟨_, rfl, close_vars laidOut readables (by kernel_rfl) Tryd.underlying4 rfl rfl hW' hb⟩

end Go.Proofs.YtmjfdbhogobpfaaDoor.lawDryHour
