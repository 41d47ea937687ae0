/-
  Contracts of SharePeg, the program's and the model's.
-/
import Derived.Test.YtbpipcfijbgnhaaDoorCFitsLine
namespace Go.Proofs.YtbpipcfijbgnhaaDoor.hang
open Go.RowKit sl errs

/-- two cloths' boxes lie as they were made -/
structure TwoS (a b : Clo) (w u : World) : Prop where
  a0 : u.cell? ⟨w.heap.size, 0, none⟩ = some (.int .i16 a.wide)
  a1 : u.cell? ⟨w.heap.size, 1, none⟩ = some (.int .i16 a.heavy)
  b0 : u.cell? ⟨w.heap.size + 1, 0, none⟩ = some (.int .i16 b.wide)
  b1 : u.cell? ⟨w.heap.size + 1, 1, none⟩ = some (.int .i16 b.heavy)
  b : Below w.heap.size w u
  z : w.heap.size + 1 < u.heap.size
theorem TwoS.new (a b : Clo) (w : World) (t t' : TypeId) : TwoS a b w ((w.alloc (.cells #[.int .i16 a.wide, .int .i16 a.heavy] t)).alloc (.cells #[.int .i16 b.wide, .int .i16 b.heavy] t')) := by
  have e : (w.alloc (.cells #[.int .i16 a.wide, .int .i16 a.heavy] t)).heap.size = w.heap.size + 1 := by simp
  have h1 : ∀ i, ((w.alloc (.cells #[.int .i16 a.wide, .int .i16 a.heavy] t)).alloc (.cells #[.int .i16 b.wide, .int .i16 b.heavy] t')).cell? ⟨w.heap.size + 1, i, none⟩ = (#[.int .i16 b.wide, .int .i16 b.heavy] : Array Value)[i]? := fun i => by
    have := heap_alloc_new (w.alloc (.cells #[.int .i16 a.wide, .int .i16 a.heavy] t)) (.cells #[.int .i16 b.wide, .int .i16 b.heavy] t')
    rw [e] at this
    exact cell_of_row _ _ _ _ _ _ this
  have h0 : ∀ i, ((w.alloc (.cells #[.int .i16 a.wide, .int .i16 a.heavy] t)).alloc (.cells #[.int .i16 b.wide, .int .i16 b.heavy] t')).cell? ⟨w.heap.size, i, none⟩ = (#[.int .i16 a.wide, .int .i16 a.heavy] : Array Value)[i]? := fun i =>
    cell_of_row _ _ _ _ _ _ ((heap_alloc_old _ _ (by rw [e]; omega)).trans (heap_alloc_new w _))
  exact ⟨h0 0, h0 1, h1 0, h1 1, ((Below.refl _ _).alloc (Nat.le_refl _) _).alloc (by rw [e]; omega) _, by simp⟩
theorem TwoS.next {a b : Clo} {w u v : World} (h : TwoS a b w u) (hb : Below u.heap.size u v) : TwoS a b w v := by
  have hz := h.z
  have c : ∀ p : Addr, p.block < w.heap.size + 2 → v.cell? p = u.cell? p := fun p hp => hb.cell (by omega)
  exact ⟨(c ⟨w.heap.size, 0, none⟩ (by show w.heap.size < _; omega)).trans h.a0, (c ⟨w.heap.size, 1, none⟩ (by show w.heap.size < _; omega)).trans h.a1,
    (c ⟨w.heap.size + 1, 0, none⟩ (by show w.heap.size + 1 < _; omega)).trans h.b0, (c ⟨w.heap.size + 1, 1, none⟩ (by show w.heap.size + 1 < _; omega)).trans h.b1,
    h.b.trans (hb.mono (by omega)), Nat.lt_of_lt_of_le hz hb.size⟩
abbrev TwoP (a b : Clo) (w u : World) : Prop :=
  u.cell? ⟨w.heap.size, 0, none⟩ = some (.int .i16 a.wide) ∧ u.cell? ⟨w.heap.size, 1, none⟩ = some (.int .i16 a.heavy) ∧ u.cell? ⟨w.heap.size + 1, 0, none⟩ = some (.int .i16 b.wide) ∧ u.cell? ⟨w.heap.size + 1, 1, none⟩ = some (.int .i16 b.heavy) ∧ Below w.heap.size w u ∧ w.heap.size + 1 < u.heap.size
theorem TwoP.s {a b : Clo} {w u : World} (h : TwoP a b w u) : TwoS a b w u := ⟨h.1, h.2.1, h.2.2.1, h.2.2.2.1, h.2.2.2.2.1, h.2.2.2.2.2⟩
theorem TwoS.p {a b : Clo} {w u : World} (h : TwoS a b w u) : TwoP a b w u := ⟨h.a0, h.a1, h.b0, h.b1, h.b, h.z⟩
theorem TwoS.drewN {a b : Clo} {w u : World} (h : TwoS a b w u) (m : Nat) : TwoS a b w (u.drewN m) := h.next (below_drewN _ _ _)

def shareV (a b : Clo) : Value := tupB (resB (if (Clo.valid a && Clo.valid b) = true then 0 else 1) (shares a b))
theorem all_two (a b : Clo) : [a, b].all Clo.valid = (Clo.valid a && Clo.valid b) := by simp
/-- two cloths in a new block behind two boxes -/
theorem sl_two (w : World) (a b : Clo) (T U V : TypeId) :
    Sl Clo.cells 2 (((w.alloc (.cells #[.int .i16 a.wide, .int .i16 a.heavy] T)).alloc (.cells #[.int .i16 b.wide, .int .i16 b.heavy] U)).alloc (.cells #[.int .i16 a.wide, .int .i16 a.heavy, .int .i16 b.wide, .int .i16 b.heavy] V))
      (w.heap.size + 1 + 1 + 1) (some ⟨w.heap.size + 1 + 1, 0, none⟩) [a, b] := by
  have h := sl_new ((w.alloc (.cells #[.int .i16 a.wide, .int .i16 a.heavy] T)).alloc (.cells #[.int .i16 b.wide, .int .i16 b.heavy] U)) [a, b] V #[.int .i16 a.wide, .int .i16 a.heavy, .int .i16 b.wide, .int .i16 b.heavy] (Clo.len _) rfl
  have e : ((w.alloc (.cells #[.int .i16 a.wide, .int .i16 a.heavy] T)).alloc (.cells #[.int .i16 b.wide, .int .i16 b.heavy] U)).heap.size = w.heap.size + 1 + 1 := by simp
  rw [e] at h
  exact h
theorem two_fits {a b : Clo} (ha : a.Fits) (hb : b.Fits) : ∀ x ∈ [a, b], x.Fits := fun x hx => by
  rcases List.mem_cons.1 hx with rfl | hx
  · exact ha
  · rw [List.mem_singleton.1 hx]; exact hb
set_option maxRecDepth 100000 in
set_option maxHeartbeats 2000000 in
theorem SharePeg_spec_true (a b : Clo) (ha : a.Fits) (hb : b.Fits) (hv : [a, b].all Clo.valid = true) (w : World) :
    Calls Tryd.prog 13 #[a.v, b.v] w fun o w' => o = .returned (shareV a b) ∧ Below w.heap.size w w' := by
  have S0 := Lib.hid (TwoS.new a b w 27 27)
  have S1 := Lib.hid (S0.out.next ((Below.refl _ _).alloc (Nat.le_refl _) (.cells #[.int .i16 a.wide, .int .i16 a.heavy, .int .i16 b.wide, .int .i16 b.heavy] 27)))
  obtain ⟨a0, a1, b0, b1, _, _⟩ := S0.out
  have HV := Lib.hid hv
  have HR : Hid (shareV a b = tupB (shares a b, 0)) := Lib.hid (by rw [shareV, ← all_two, hv]; rfl)
  clear hv
  go_enter Tryd.func13, Tryd.ntmps13
  go_wp2_with fail
  refine (l02Cloths_any (some ⟨w.heap.size + 1 + 1, 0, none⟩) 2 2 [a, b] rfl (by omega) (two_fits ha hb) _ _ (sl_two w a b 27 27 27)).mono ?_
  rintro o w1 ⟨rfl, rfl⟩
  rw [HV.out]
  clear a0 a1 b0 b1
  obtain ⟨a0, a1, b0, b1, _, _⟩ := S1.out
  go_wp2_with fail
  refine (l02Share_any a b ha hb _).mono ?_
  rintro o w2 ⟨rfl, hb2⟩
  have S2 := Lib.hid (S1.out.next hb2)
  clear a0 a1 b0 b1 hb2
  go_wp2_with fail
  go_ret2
  rw [HR.out]
  exact ⟨rfl, S2.out.b⟩

set_option maxRecDepth 100000 in
set_option maxHeartbeats 2000000 in
theorem SharePeg_spec_false (a b : Clo) (ha : a.Fits) (hb : b.Fits) (hv : [a, b].all Clo.valid = false) (w : World) :
    Calls Tryd.prog 13 #[a.v, b.v] w fun o w' => o = .returned (shareV a b) ∧ Below w.heap.size w w' := by
  have S0 := Lib.hid (TwoS.new a b w 27 27)
  have S1 := Lib.hid (S0.out.next ((Below.refl _ _).alloc (Nat.le_refl _) (.cells #[.int .i16 a.wide, .int .i16 a.heavy, .int .i16 b.wide, .int .i16 b.heavy] 27)))
  obtain ⟨a0, a1, b0, b1, _, _⟩ := S0.out
  have HV := Lib.hid hv
  have HR : Hid (shareV a b = tupB (false, 1)) := Lib.hid (by rw [shareV, ← all_two, hv]; rfl)
  clear hv
  go_enter Tryd.func13, Tryd.ntmps13
  go_wp2_with fail
  refine (l02Cloths_any (some ⟨w.heap.size + 1 + 1, 0, none⟩) 2 2 [a, b] rfl (by omega) (two_fits ha hb) _ _ (sl_two w a b 27 27 27)).mono ?_
  rintro o w1 ⟨rfl, rfl⟩
  rw [HV.out]
  clear a0 a1 b0 b1
  obtain ⟨a0, a1, b0, b1, _, _⟩ := S1.out
  go_wp2_with fail
  go_ret2
  rw [HR.out]
  exact ⟨rfl, S1.out.b⟩

theorem SharePeg_spec (a b : Clo) (ha : a.Fits) (hb : b.Fits) (w : World) :
    Calls Tryd.prog 13 #[a.v, b.v] w fun o w' => o = .returned (shareV a b) ∧ Below w.heap.size w w' := by
  cases hv : [a, b].all Clo.valid with
  | true => exact SharePeg_spec_true a b ha hb hv w
  | false => exact SharePeg_spec_false a b ha hb hv w
set_option maxRecDepth 100000 in
set_option maxHeartbeats 2000000 in
theorem SharePeg_any_true (a b : Clo) (ha : a.Fits) (hb : b.Fits) (hv : [a, b].all Clo.valid = true) {w : World} {B : Nat} {e : Nat → Addr} (h : Errs w B e) (hB : B ≤ w.heap.size) :
    Calls Tryd.prog 15 #[a.v, b.v] w fun o w' => o = .returned (shareV a b) ∧ Below w.heap.size w w' := by
  have S0 := Lib.hid (TwoS.new a b w 27 27)
  have S1 := Lib.hid (S0.out.next ((Below.refl _ _).alloc (Nat.le_refl _) (.cells #[.int .i16 a.wide, .int .i16 a.heavy, .int .i16 b.wide, .int .i16 b.heavy] 27)))
  obtain ⟨a0, a1, b0, b1, _, _⟩ := S0.out
  have HV := Lib.hid hv
  have HR : Hid (shareV a b = tupB (shares a b, 0)) := Lib.hid (by rw [shareV, ← all_two, hv]; rfl)
  clear hv
  go_enter Tryd.func15, Tryd.ntmps15
  go_wp2_with fail
  refine (checkCloths_any (some ⟨w.heap.size + 1 + 1, 0, none⟩) 2 2 [a, b] rfl (by omega) (two_fits ha hb) (h.below (S1.out.b.mono hB)) (by have := S1.out.b.size; omega) ((sl_two w a b 27 27 27).more (by simp)) 0 (by rw [HV.out]; rfl)).mono ?_
  rintro o w1 ⟨rfl, hb1⟩
  have S2 := Lib.hid (S1.out.next hb1)
  clear a0 a1 b0 b1 hb1
  have H2 := Lib.hid (h.below (S2.out.b.mono hB))
  obtain ⟨a0, a1, b0, b1, _, _⟩ := S2.out
  have e0 : errOf e 0 = .nilIface := rfl
  rw [e0]
  clear e0
  go_wp2_with fail
  refine (share_any a b ha hb _).mono ?_
  rintro o w2 ⟨rfl, hb2⟩
  have S3 := Lib.hid (S2.out.next hb2)
  clear a0 a1 b0 b1 hb2
  go_wp2_with fail
  go_ret2
  rw [HR.out]
  exact ⟨rfl, S3.out.b⟩

set_option maxRecDepth 100000 in
set_option maxHeartbeats 2000000 in
theorem SharePeg_any_false (a b : Clo) (ha : a.Fits) (hb : b.Fits) (hv : [a, b].all Clo.valid = false) {w : World} {B : Nat} {e : Nat → Addr} (h : Errs w B e) (hB : B ≤ w.heap.size) :
    Calls Tryd.prog 15 #[a.v, b.v] w fun o w' => o = .returned (shareV a b) ∧ Below w.heap.size w w' := by
  have S0 := Lib.hid (TwoS.new a b w 27 27)
  have S1 := Lib.hid (S0.out.next ((Below.refl _ _).alloc (Nat.le_refl _) (.cells #[.int .i16 a.wide, .int .i16 a.heavy, .int .i16 b.wide, .int .i16 b.heavy] 27)))
  obtain ⟨a0, a1, b0, b1, _, _⟩ := S0.out
  have HV := Lib.hid hv
  have HR : Hid (shareV a b = tupB (false, 1)) := Lib.hid (by rw [shareV, ← all_two, hv]; rfl)
  clear hv
  go_enter Tryd.func15, Tryd.ntmps15
  go_wp2_with fail
  refine (checkCloths_any (some ⟨w.heap.size + 1 + 1, 0, none⟩) 2 2 [a, b] rfl (by omega) (two_fits ha hb) (h.below (S1.out.b.mono hB)) (by have := S1.out.b.size; omega) ((sl_two w a b 27 27 27).more (by simp)) 1 (by rw [HV.out]; rfl)).mono ?_
  rintro o w1 ⟨rfl, hb1⟩
  have S2 := Lib.hid (S1.out.next hb1)
  clear a0 a1 b0 b1 hb1
  have H2 := Lib.hid (h.below (S2.out.b.mono hB))
  obtain ⟨a0, a1, b0, b1, _, _⟩ := S2.out
  have e0 : errOf e 1 = errV (e 0) := rfl
  rw [e0]
  clear e0
  go_wp2_with fail
  refine (codeOf_any H2.out 1 (by omega)).mono ?_
  rintro o w3 ⟨rfl, rfl⟩
  go_wp2_with fail
  go_ret2
  rw [HR.out]
  exact ⟨rfl, S2.out.b⟩

theorem SharePeg_any (a b : Clo) (ha : a.Fits) (hb : b.Fits) {w : World} {B : Nat} {e : Nat → Addr} (h : Errs w B e) (hB : B ≤ w.heap.size) :
    Calls Tryd.prog 15 #[a.v, b.v] w fun o w' => o = .returned (shareV a b) ∧ Below w.heap.size w w' := by
  cases hv : [a, b].all Clo.valid with
  | true => exact SharePeg_any_true a b ha hb hv h hB
  | false => exact SharePeg_any_false a b ha hb hv h hB
end Go.Proofs.YtbpipcfijbgnhaaDoor.hang
