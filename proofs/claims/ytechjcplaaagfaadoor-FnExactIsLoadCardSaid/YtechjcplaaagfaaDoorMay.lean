/-
  Contracts of MayMeet, the model's and the program's.
-/
import Derived.Test.YtechjcplaaagfaaDoorMeet
namespace Go.Proofs.YtechjcplaaagfaaDoor.meet
open Go.RowKit errs garS

/-- may two garments be asked about -/
noncomputable def mayOk (r : Nat → Int) (a b : Gar) : Bool := validRB r && (a.valid && b.valid)
/-- what MayMeet tells -/
noncomputable abbrev mayV (r : Nat → Int) (a b : Gar) : Value := .tuple #[.bool (mayOk r a b && meetB r a b), .int .i64 (if mayOk r a b = true then 0 else 1)]
theorem may_no {r : Nat → Int} {a b : Gar} (h : mayOk r a b = false) : mayV r a b = .tuple #[.bool false, .int .i64 1] := by
  unfold mayV
  rw [h]
  rfl
theorem may_yes {r : Nat → Int} {a b : Gar} (h : mayOk r a b = true) : mayV r a b = .tuple #[.bool (meetB r a b), .int .i64 0] := by
  unfold mayV
  rw [h]
  rfl

set_option maxHeartbeats 4000000 in
theorem MayMeet_spec (r : Nat → Int) (hr : Six r) (a b : Gar) (ha : a.Fits) (hb : b.Fits) (w : World) :
    Calls Tryd.prog 14 #[rulesV r, a.v, b.v] w fun o w' => o = .returned (mayV r a b) ∧ Below w.heap.size w w' := by
  have B0 := Lib.hid (Boxes.new r a b 29 31 31 w)
  cases hvr : validRB r with
  | false =>
    rw [may_no (by simp [mayOk, hvr])]
    have HR := Lib.hid hvr
    clear hvr
    go_enter Tryd.func14, Tryd.ntmps14
    go_wp2_with fail
    refine (rules.l01Rules_any r hr _).mono ?_
    rintro o w1 ⟨rfl, hb1⟩
    have B1 := Lib.hid (B0.out.next hb1)
    rw [HR.out]
    clear hb1
    go_wp2_with fail
    go_ret2
    exact ⟨rfl, B1.out.below⟩
  | true =>
    have HR := Lib.hid hvr
    cases hva : a.valid with
    | false =>
      rw [may_no (by simp [mayOk, hva])]
      have HA := Lib.hid hva
      clear hvr hva
      go_enter Tryd.func14, Tryd.ntmps14
      go_wp2_with fail
      refine (rules.l01Rules_any r hr _).mono ?_
      rintro o w1 ⟨rfl, hb1⟩
      have B1 := Lib.hid (B0.out.next hb1)
      rw [HR.out]
      clear hb1
      have C1 := B1.out
      obtain ⟨_, q0, q1, q2, q3, p0, p1, p2, p3, _, _⟩ := C1
      go_wp2_with fail
      refine (garm.l01Garment_any a ha _).mono ?_
      rintro o w2 ⟨rfl, hb2⟩
      have B2 := Lib.hid (B1.out.next hb2)
      rw [HA.out]
      clear hb2 q0 q1 q2 q3 p0 p1 p2 p3
      go_wp2_with fail
      go_ret2
      exact ⟨rfl, B2.out.below⟩
    | true =>
      have HA := Lib.hid hva
      cases hvb : b.valid with
      | false =>
        rw [may_no (by simp [mayOk, hvb])]
        have HB := Lib.hid hvb
        clear hvr hva hvb
        go_enter Tryd.func14, Tryd.ntmps14
        go_wp2_with fail
        refine (rules.l01Rules_any r hr _).mono ?_
        rintro o w1 ⟨rfl, hb1⟩
        have B1 := Lib.hid (B0.out.next hb1)
        rw [HR.out]
        clear hb1
        have C1 := B1.out
        obtain ⟨_, q0, q1, q2, q3, p0, p1, p2, p3, _, _⟩ := C1
        go_wp2_with fail
        refine (garm.l01Garment_any a ha _).mono ?_
        rintro o w2 ⟨rfl, hb2⟩
        have B2 := Lib.hid (B1.out.next hb2)
        rw [HA.out]
        clear hb2 q0 q1 q2 q3 p0 p1 p2 p3
        have C2 := B2.out
        obtain ⟨_, q0, q1, q2, q3, p0, p1, p2, p3, _, _⟩ := C2
        go_wp2_with fail
        refine (garm.l01Garment_any b hb _).mono ?_
        rintro o w3 ⟨rfl, hb3⟩
        have B3 := Lib.hid (B2.out.next hb3)
        rw [HB.out]
        clear hb3 q0 q1 q2 q3 p0 p1 p2 p3
        go_wp2_with fail
        go_ret2
        exact ⟨rfl, B3.out.below⟩
      | true =>
        rw [may_yes (by simp [mayOk, hvr, hva, hvb])]
        have HB := Lib.hid hvb
        have ca := (valid_parts hva).1
        have cb := (valid_parts hvb).1
        clear hvr hva hvb
        go_enter Tryd.func14, Tryd.ntmps14
        go_wp2_with fail
        refine (rules.l01Rules_any r hr _).mono ?_
        rintro o w1 ⟨rfl, hb1⟩
        have B1 := Lib.hid (B0.out.next hb1)
        rw [HR.out]
        clear hb1
        have C1 := B1.out
        obtain ⟨_, q0, q1, q2, q3, p0, p1, p2, p3, _, _⟩ := C1
        go_wp2_with fail
        refine (garm.l01Garment_any a ha _).mono ?_
        rintro o w2 ⟨rfl, hb2⟩
        have B2 := Lib.hid (B1.out.next hb2)
        rw [HA.out]
        clear hb2 q0 q1 q2 q3 p0 p1 p2 p3
        have C2 := B2.out
        obtain ⟨_, q0, q1, q2, q3, p0, p1, p2, p3, _, _⟩ := C2
        go_wp2_with fail
        refine (garm.l01Garment_any b hb _).mono ?_
        rintro o w3 ⟨rfl, hb3⟩
        have B3 := Lib.hid (B2.out.next hb3)
        rw [HB.out]
        clear hb3 q0 q1 q2 q3 p0 p1 p2 p3
        have C3 := B3.out
        have r0 := C3.at_ (k := 0) (by decide)
        have r1 := C3.at_ (k := 1) (by decide)
        have r2 := C3.at_ (k := 2) (by decide)
        have r3 := C3.at_ (k := 3) (by decide)
        have r4 := C3.at_ (k := 4) (by decide)
        have r5 := C3.at_ (k := 5) (by decide)
        obtain ⟨_, q0, q1, q2, q3, p0, p1, p2, p3, _, _⟩ := C3
        go_wp2_with fail
        refine (l01Meet_any r hr a b ha hb ca cb _).mono ?_
        rintro o w4 ⟨rfl, hb4⟩
        have B4 := Lib.hid (B3.out.next hb4)
        clear hb4
        go_wp2_with fail
        go_ret2
        exact ⟨rfl, B4.out.below⟩
/-- the world that MayMeet keeps: its three boxes, and the errors -/
abbrev MS (r : Nat → Int) (a b : Gar) (w : World) (B : Nat) (e : Nat → Addr) (x : World) : Prop :=
  x.cell? ⟨w.heap.size, 0, none⟩ = some (.int .u8 (r 0)) ∧ x.cell? ⟨w.heap.size, 1, none⟩ = some (.int .u8 (r 1)) ∧ x.cell? ⟨w.heap.size, 2, none⟩ = some (.int .u8 (r 2)) ∧ x.cell? ⟨w.heap.size, 3, none⟩ = some (.int .u8 (r 3)) ∧ x.cell? ⟨w.heap.size, 4, none⟩ = some (.int .u8 (r 4)) ∧ x.cell? ⟨w.heap.size, 5, none⟩ = some (.int .u8 (r 5)) ∧
  x.cell? ⟨w.heap.size + 1, 0, none⟩ = some (.int .u8 a.c) ∧ x.cell? ⟨w.heap.size + 1, 1, none⟩ = some (.int .i8 a.n) ∧ x.cell? ⟨w.heap.size + 1, 2, none⟩ = some (.int .i8 a.m) ∧ x.cell? ⟨w.heap.size + 1, 3, none⟩ = some (.int .i16 a.g) ∧
  x.cell? ⟨w.heap.size + 1 + 1, 0, none⟩ = some (.int .u8 b.c) ∧ x.cell? ⟨w.heap.size + 1 + 1, 1, none⟩ = some (.int .i8 b.n) ∧ x.cell? ⟨w.heap.size + 1 + 1, 2, none⟩ = some (.int .i8 b.m) ∧ x.cell? ⟨w.heap.size + 1 + 1, 3, none⟩ = some (.int .i16 b.g) ∧
  Boxes r a b w x ∧ Errs x B e

theorem MS.of {r : Nat → Int} {a b : Gar} {w : World} {B : Nat} {e : Nat → Addr} {x : World} (h : Boxes r a b w x) (he : Errs x B e) : MS r a b w B e x :=
  ⟨h.at_ (by decide), h.at_ (by decide), h.at_ (by decide), h.at_ (by decide), h.at_ (by decide), h.at_ (by decide), h.a0, h.a1, h.a2, h.a3, h.b0, h.b1, h.b2, h.b3, h, he⟩
theorem MS.boxes {r : Nat → Int} {a b : Gar} {w : World} {B : Nat} {e : Nat → Addr} {x : World} (h : MS r a b w B e x) : Boxes r a b w x := h.2.2.2.2.2.2.2.2.2.2.2.2.2.2.1
theorem MS.errs {r : Nat → Int} {a b : Gar} {w : World} {B : Nat} {e : Nat → Addr} {x : World} (h : MS r a b w B e x) : Errs x B e := h.2.2.2.2.2.2.2.2.2.2.2.2.2.2.2
theorem MS.next {r : Nat → Int} {a b : Gar} {w : World} {B : Nat} {e : Nat → Addr} {x y : World} (hB : B ≤ w.heap.size) (h : MS r a b w B e x) (hb : Below x.heap.size x y) : MS r a b w B e y :=
  have hs := h.boxes.size
  MS.of (h.boxes.next hb) (h.errs.below (hb.mono (by omega)))
theorem MS.alloc {r : Nat → Int} {a b : Gar} {w : World} {B : Nat} {e : Nat → Addr} {x : World} (hB : B ≤ w.heap.size) (h : MS r a b w B e x) (o : Obj) : MS r a b w B e (x.alloc o) :=
  MS.next hB h ((Below.refl _ _).alloc (Nat.le_refl _) o)
theorem MS.drewN {r : Nat → Int} {a b : Gar} {w : World} {B : Nat} {e : Nat → Addr} {x : World} (hB : B ≤ w.heap.size) (h : MS r a b w B e x) (n : Nat) : MS r a b w B e (x.drewN n) :=
  MS.next hB h (below_drewN _ _ _)
theorem MS.new (r : Nat → Int) (a b : Gar) (t u v : TypeId) {w : World} {B : Nat} {e : Nat → Addr} (hB : B ≤ w.heap.size) (h : Errs w B e) :
    MS r a b w B e (((w.alloc (.cells (rulesCs r) t)).alloc (.cells #[.int .u8 a.c, .int .i8 a.n, .int .i8 a.m, .int .i16 a.g] u)).alloc (.cells #[.int .u8 b.c, .int .i8 b.n, .int .i8 b.m, .int .i16 b.g] v)) :=
  have hx := Boxes.new r a b t u v w
  MS.of hx (h.below (hx.below.mono hB))

/-- two garments in a block just made -/
theorem gs2 (a b : Gar) (ha : a.Fits) (hb : b.Fits) (x : World) (t : TypeId) :
    GS (x.alloc (.cells #[.int .u8 a.c, .int .i8 a.n, .int .i8 a.m, .int .i16 a.g, .int .u8 b.c, .int .i8 b.n, .int .i8 b.m, .int .i16 b.g] t)) (x.alloc (.cells #[.int .u8 a.c, .int .i8 a.n, .int .i8 a.m, .int .i16 a.g, .int .u8 b.c, .int .i8 b.n, .int .i8 b.m, .int .i16 b.g] t)).heap.size (some ⟨x.heap.size, 0, none⟩) [a, b] := by
  have c : ∀ i, (x.alloc (.cells #[.int .u8 a.c, .int .i8 a.n, .int .i8 a.m, .int .i16 a.g, .int .u8 b.c, .int .i8 b.n, .int .i8 b.m, .int .i16 b.g] t)).cell? ⟨x.heap.size, i, none⟩ = _ := fun i => cell_of_row _ _ _ _ _ _ (heap_alloc_new x _)
  refine ⟨fun k y hk => ⟨_, rfl, by simp, ?_⟩, fun y hy => ?_⟩
  · match k, hk with
    | 0, hk =>
      obtain rfl : a = y := by simpa using hk
      exact ⟨c 0, c 1, c 2, c 3⟩
    | 1, hk =>
      obtain rfl : b = y := by simpa using hk
      exact ⟨c 4, c 5, c 6, c 7⟩
  · simp only [List.mem_cons, List.not_mem_nil, or_false] at hy
    rcases hy with rfl | rfl
    · exact ha
    · exact hb

theorem gs2' (a b : Gar) (ha : a.Fits) (hb : b.Fits) {x y : World} {t : TypeId} (h : Below (x.alloc (.cells #[.int .u8 a.c, .int .i8 a.n, .int .i8 a.m, .int .i16 a.g, .int .u8 b.c, .int .i8 b.n, .int .i8 b.m, .int .i16 b.g] t)).heap.size (x.alloc (.cells #[.int .u8 a.c, .int .i8 a.n, .int .i8 a.m, .int .i16 a.g, .int .u8 b.c, .int .i8 b.n, .int .i8 b.m, .int .i16 b.g] t)) y) {n : Nat} (hn : x.heap.size = n) :
    GS y y.heap.size (some ⟨n, 0, none⟩) [a, b] :=
  hn ▸ ((gs2 a b ha hb x t).below h).more h.size

theorem gs2d (a b : Gar) (ha : a.Fits) (hb : b.Fits) {x y : World} {t : TypeId} (h : Below (x.alloc (.cells #[.int .u8 a.c, .int .i8 a.n, .int .i8 a.m, .int .i16 a.g, .int .u8 b.c, .int .i8 b.n, .int .i8 b.m, .int .i16 b.g] t)).drew.heap.size (x.alloc (.cells #[.int .u8 a.c, .int .i8 a.n, .int .i8 a.m, .int .i16 a.g, .int .u8 b.c, .int .i8 b.n, .int .i8 b.m, .int .i16 b.g] t)).drew y) {n : Nat} (hn : x.heap.size = n) :
    GS y y.heap.size (some ⟨n, 0, none⟩) [a, b] :=
  hn ▸ ((gs2 a b ha hb x t).below ((Below.refl _ _).drew.trans h)).more h.size

theorem checkR (r : Nat → Int) (hr : Six r) (a b : Gar) {w : World} {B : Nat} {e : Nat → Addr} {x : World} (hS : MS r a b w B e x) (hB : B ≤ w.heap.size) (k : Nat) (hk : (if validRB r = true then 0 else 1) = k) (v : Value) (hv : errOf e k = v) :
    Calls Tryd.prog 53 #[rulesV r] x fun o w' => o = .returned v ∧ Below x.heap.size x w' := by
  have hs := hS.boxes.size
  subst hv
  exact checkRules_any r hr hS.errs (by omega) k hk.symm
theorem checkG (r : Nat → Int) (a b : Gar) {w : World} {B : Nat} {e : Nat → Addr} {x : World} (hS : MS r a b w B e x) (hB : B ≤ w.heap.size) {A : Option Addr} {c : Nat} (hg : GS x x.heap.size A [a, b]) (k : Nat) (hk : (if (a.valid && b.valid) = true then 0 else 1) = k) (v : Value) (hv : errOf e k = v) :
    Calls Tryd.prog 54 #[.slice A 2 c] x fun o w' => o = .returned v ∧ Below x.heap.size x w' := by
  have hs := hS.boxes.size
  subst hv
  exact checkGarments_any A 2 c [a, b] rfl (by decide) hS.errs (by omega) hg k (by rw [← hk]; simp)

theorem may_ok {r : Nat → Int} {a b : Gar} (h1 : (if validRB r = true then 0 else 1) = (0 : Nat)) (h2 : (if (a.valid && b.valid) = true then 0 else 1) = (0 : Nat)) : validRB r = true ∧ a.valid = true ∧ b.valid = true := by
  cases h : validRB r <;> cases h' : a.valid <;> cases h'' : b.valid <;> simp_all
theorem may_bad {r : Nat → Int} {a b : Gar} (h : (if validRB r = true then 0 else 1) = (1 : Nat) ∨ (if (a.valid && b.valid) = true then 0 else 1) = (1 : Nat)) : mayOk r a b = false := by
  unfold mayOk
  cases h1 : validRB r <;> cases h2 : a.valid <;> cases h3 : b.valid <;> simp_all

set_option maxRecDepth 100000 in
set_option maxHeartbeats 4000000 in
theorem may_00 (r : Nat → Int) (hr : Six r) (a b : Gar) (ha : a.Fits) (hb : b.Fits) {w : World} {B : Nat} {e : Nat → Addr} (h : Errs w B e) (hB : B ≤ w.heap.size)
    (h1 : (if validRB r = true then 0 else 1) = 0) (h2 : (if (a.valid && b.valid) = true then 0 else 1) = 0) :
    Calls Tryd.prog 17 #[rulesV r, a.v, b.v] w fun o w' => o = .returned (mayV r a b) ∧ Below w.heap.size w w' := by
  have S0 := Lib.hid (MS.new r a b 29 31 31 hB h)
  have H1 := Lib.hid h1
  have H2 := Lib.hid h2
  have HB := Lib.hid hB
  clear h1 h2 hB h
  go_enter Tryd.func17, Tryd.ntmps17
  go_wp2_with fail
  go_region_held3 (MS r a b w B e)
    (first | assumption | exact MS.drewN HB.out S0.out _ | exact MS.alloc HB.out (by assumption) _ | exact MS.next HB.out (by assumption) (by assumption))
    (first
      | (go_at_call 53; refine (checkR r hr a b (by assumption) HB.out 0 H1.out .nilIface rfl).mono ?_; rintro o w2 ⟨rfl, hb2⟩)
      | (go_at_call 52; refine (firstOf_any e [0, 0] _ 2 2 rfl (by decide) _ (cells_errs e [0, 0] _ _ #[.nilIface, .nilIface] rfl)).mono ?_; rintro o w2 ⟨rfl, rfl⟩)
      | (go_at_call 54; refine (checkG r a b (by assumption) HB.out ?_ 0 H2.out .nilIface rfl).mono ?_; (first | exact gs2 a b ha hb _ _ | exact gs2d a b ha hb hb2 (by simp) | exact gs2' a b ha hb hb2 (by simp) | fail); rintro o w2 ⟨rfl, hb2⟩))
  all_goals
    rename_i hS
    have B1 := Lib.hid (MS.boxes hS)
    have E1 := Lib.hid (MS.errs hS)
    obtain ⟨r0, r1, r2, r3, r4, r5, q0, q1, q2, q3, p0, p1, p2, p3, _, _⟩ := hS
    have e0 : errOf e (firstCode [0, 0]) = .nilIface := rfl
    rw [e0]
    clear e0
    go_wp2_with fail
    obtain ⟨hv, va, vb⟩ := may_ok H1.out H2.out
    refine (meet_any r hr a b ha hb va vb _).mono ?_
    rintro o w3 ⟨rfl, hb3⟩
    have B3 := Lib.hid (B1.out.next hb3)
    have hm := Lib.hid (may_yes (r := r) (a := a) (b := b) (by simp [mayOk, hv, va, vb]))
    clear hb3 hv va vb
    go_wp2_with fail
    go_ret2
    refine ⟨?_, B3.out.below⟩
    rw [hm.out]
    rfl

set_option maxRecDepth 100000 in
set_option maxHeartbeats 4000000 in
theorem may_01 (r : Nat → Int) (hr : Six r) (a b : Gar) (ha : a.Fits) (hb : b.Fits) {w : World} {B : Nat} {e : Nat → Addr} (h : Errs w B e) (hB : B ≤ w.heap.size)
    (h1 : (if validRB r = true then 0 else 1) = 0) (h2 : (if (a.valid && b.valid) = true then 0 else 1) = 1) :
    Calls Tryd.prog 17 #[rulesV r, a.v, b.v] w fun o w' => o = .returned (mayV r a b) ∧ Below w.heap.size w w' := by
  have S0 := Lib.hid (MS.new r a b 29 31 31 hB h)
  have H1 := Lib.hid h1
  have H2 := Lib.hid h2
  have HB := Lib.hid hB
  clear h1 h2 hB h
  go_enter Tryd.func17, Tryd.ntmps17
  go_wp2_with fail
  go_region_held3 (MS r a b w B e)
    (first | assumption | exact MS.drewN HB.out S0.out _ | exact MS.alloc HB.out (by assumption) _ | exact MS.next HB.out (by assumption) (by assumption))
    (first
      | (go_at_call 53; refine (checkR r hr a b (by assumption) HB.out 0 H1.out .nilIface rfl).mono ?_; rintro o w2 ⟨rfl, hb2⟩)
      | (go_at_call 52; refine (firstOf_any e [0, 1] _ 2 2 rfl (by decide) _ (cells_errs e [0, 1] _ _ #[.nilIface, (errV (e 0))] rfl)).mono ?_; rintro o w2 ⟨rfl, rfl⟩)
      | (go_at_call 54; refine (checkG r a b (by assumption) HB.out ?_ 1 H2.out (errV (e 0)) rfl).mono ?_; (first | exact gs2 a b ha hb _ _ | exact gs2d a b ha hb hb2 (by simp) | exact gs2' a b ha hb hb2 (by simp) | fail); rintro o w2 ⟨rfl, hb2⟩))
  all_goals
    rename_i hS
    have B1 := Lib.hid (MS.boxes hS)
    have E1 := Lib.hid (MS.errs hS)
    obtain ⟨r0, r1, r2, r3, r4, r5, q0, q1, q2, q3, p0, p1, p2, p3, _, _⟩ := hS
    have e0 : errOf e (firstCode [0, 1]) = (errV (e 0)) := rfl
    rw [e0]
    clear e0
    go_wp2_with fail
    refine (codeOf_any E1.out 1 (by decide)).mono ?_
    rintro o w3 ⟨rfl, rfl⟩
    go_wp2_with fail
    go_ret2
    refine ⟨?_, B1.out.below⟩
    rw [may_no (may_bad (.inr H2.out))]
    rfl

set_option maxRecDepth 100000 in
set_option maxHeartbeats 4000000 in
theorem may_10 (r : Nat → Int) (hr : Six r) (a b : Gar) (ha : a.Fits) (hb : b.Fits) {w : World} {B : Nat} {e : Nat → Addr} (h : Errs w B e) (hB : B ≤ w.heap.size)
    (h1 : (if validRB r = true then 0 else 1) = 1) (h2 : (if (a.valid && b.valid) = true then 0 else 1) = 0) :
    Calls Tryd.prog 17 #[rulesV r, a.v, b.v] w fun o w' => o = .returned (mayV r a b) ∧ Below w.heap.size w w' := by
  have S0 := Lib.hid (MS.new r a b 29 31 31 hB h)
  have H1 := Lib.hid h1
  have H2 := Lib.hid h2
  have HB := Lib.hid hB
  clear h1 h2 hB h
  go_enter Tryd.func17, Tryd.ntmps17
  go_wp2_with fail
  go_region_held3 (MS r a b w B e)
    (first | assumption | exact MS.drewN HB.out S0.out _ | exact MS.alloc HB.out (by assumption) _ | exact MS.next HB.out (by assumption) (by assumption))
    (first
      | (go_at_call 53; refine (checkR r hr a b (by assumption) HB.out 1 H1.out (errV (e 0)) rfl).mono ?_; rintro o w2 ⟨rfl, hb2⟩)
      | (go_at_call 52; refine (firstOf_any e [1, 0] _ 2 2 rfl (by decide) _ (cells_errs e [1, 0] _ _ #[(errV (e 0)), .nilIface] rfl)).mono ?_; rintro o w2 ⟨rfl, rfl⟩)
      | (go_at_call 54; refine (checkG r a b (by assumption) HB.out ?_ 0 H2.out .nilIface rfl).mono ?_; (first | exact gs2 a b ha hb _ _ | exact gs2d a b ha hb hb2 (by simp) | exact gs2' a b ha hb hb2 (by simp) | fail); rintro o w2 ⟨rfl, hb2⟩))
  all_goals
    rename_i hS
    have B1 := Lib.hid (MS.boxes hS)
    have E1 := Lib.hid (MS.errs hS)
    obtain ⟨r0, r1, r2, r3, r4, r5, q0, q1, q2, q3, p0, p1, p2, p3, _, _⟩ := hS
    have e0 : errOf e (firstCode [1, 0]) = (errV (e 0)) := rfl
    rw [e0]
    clear e0
    go_wp2_with fail
    refine (codeOf_any E1.out 1 (by decide)).mono ?_
    rintro o w3 ⟨rfl, rfl⟩
    go_wp2_with fail
    go_ret2
    refine ⟨?_, B1.out.below⟩
    rw [may_no (may_bad (.inl H1.out))]
    rfl

set_option maxRecDepth 100000 in
set_option maxHeartbeats 4000000 in
theorem may_11 (r : Nat → Int) (hr : Six r) (a b : Gar) (ha : a.Fits) (hb : b.Fits) {w : World} {B : Nat} {e : Nat → Addr} (h : Errs w B e) (hB : B ≤ w.heap.size)
    (h1 : (if validRB r = true then 0 else 1) = 1) (h2 : (if (a.valid && b.valid) = true then 0 else 1) = 1) :
    Calls Tryd.prog 17 #[rulesV r, a.v, b.v] w fun o w' => o = .returned (mayV r a b) ∧ Below w.heap.size w w' := by
  have S0 := Lib.hid (MS.new r a b 29 31 31 hB h)
  have H1 := Lib.hid h1
  have H2 := Lib.hid h2
  have HB := Lib.hid hB
  clear h1 h2 hB h
  go_enter Tryd.func17, Tryd.ntmps17
  go_wp2_with fail
  go_region_held3 (MS r a b w B e)
    (first | assumption | exact MS.drewN HB.out S0.out _ | exact MS.alloc HB.out (by assumption) _ | exact MS.next HB.out (by assumption) (by assumption))
    (first
      | (go_at_call 53; refine (checkR r hr a b (by assumption) HB.out 1 H1.out (errV (e 0)) rfl).mono ?_; rintro o w2 ⟨rfl, hb2⟩)
      | (go_at_call 52; refine (firstOf_any e [1, 1] _ 2 2 rfl (by decide) _ (cells_errs e [1, 1] _ _ #[(errV (e 0)), (errV (e 0))] rfl)).mono ?_; rintro o w2 ⟨rfl, rfl⟩)
      | (go_at_call 54; refine (checkG r a b (by assumption) HB.out ?_ 1 H2.out (errV (e 0)) rfl).mono ?_; (first | exact gs2 a b ha hb _ _ | exact gs2d a b ha hb hb2 (by simp) | exact gs2' a b ha hb hb2 (by simp) | fail); rintro o w2 ⟨rfl, hb2⟩))
  all_goals
    rename_i hS
    have B1 := Lib.hid (MS.boxes hS)
    have E1 := Lib.hid (MS.errs hS)
    obtain ⟨r0, r1, r2, r3, r4, r5, q0, q1, q2, q3, p0, p1, p2, p3, _, _⟩ := hS
    have e0 : errOf e (firstCode [1, 1]) = (errV (e 0)) := rfl
    rw [e0]
    clear e0
    go_wp2_with fail
    refine (codeOf_any E1.out 1 (by decide)).mono ?_
    rintro o w3 ⟨rfl, rfl⟩
    go_wp2_with fail
    go_ret2
    refine ⟨?_, B1.out.below⟩
    rw [may_no (may_bad (.inl H1.out))]
    rfl

theorem MayMeet_any (r : Nat → Int) (hr : Six r) (a b : Gar) (ha : a.Fits) (hb : b.Fits) {w : World} {B : Nat} {e : Nat → Addr} (h : Errs w B e) (hB : B ≤ w.heap.size) :
    Calls Tryd.prog 17 #[rulesV r, a.v, b.v] w fun o w' => o = .returned (mayV r a b) ∧ Below w.heap.size w w' := by
  by_cases h1 : validRB r = true <;> by_cases h2 : (a.valid && b.valid) = true
  · exact may_00 r hr a b ha hb h hB (by rw [if_pos h1]) (by rw [if_pos h2])
  · exact may_01 r hr a b ha hb h hB (by rw [if_pos h1]) (by rw [if_neg h2])
  · exact may_10 r hr a b ha hb h hB (by rw [if_neg h1]) (by rw [if_pos h2])
  · exact may_11 r hr a b ha hb h hB (by rw [if_neg h1]) (by rw [if_neg h2])

end Go.Proofs.YtechjcplaaagfaaDoor.meet
