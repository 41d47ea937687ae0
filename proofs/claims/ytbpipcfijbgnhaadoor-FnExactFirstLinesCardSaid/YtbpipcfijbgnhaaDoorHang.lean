/-
  Contracts of the closure that hangs one cloth behind the other.
-/
import Derived.Test.YtbpipcfijbgnhaaDoorCloVal
import Derived.Test.YtbpipcfijbgnhaaDoorCloEq
import Derived.Test.YtbpipcfijbgnhaaDoorKeeps
import Derived.RegionTactic
import Derived.ChangeAlike
namespace Go.Proofs.YtbpipcfijbgnhaaDoor.hang
open Go.RowKit sl

abbrev hangV (b : Nat) : Value := .func (.func 91) #[] #[.pointer (some ⟨b, 0, none⟩), .pointer (some ⟨b + 1, 0, none⟩), .pointer (some ⟨b + 1 + 1, 0, none⟩)]
/-- the last cloth, or none -/
def lastClo (h : Hung) : Clo := h.last.getD ⟨0, 0⟩
/-- a closure's three variables lie at b -/
structure HangAt (w : World) (b : Nat) (h : Hung) : Prop where
  l : w.heap[b]? = some (.cells #[.int .i16 (lastClo h).wide, .int .i16 (lastClo h).heavy] 27 (0, 0))
  n : w.heap[b + 1]? = some (.cells #[.int .i16 0, .int .i16 0] 27 (0, 0))
  e : w.heap[b + 1 + 1]? = some (.cells #[.int .i64 h.fin] 2 (0, 0))
theorem HangAt.lt {w : World} {b : Nat} {h : Hung} (k : HangAt w b h) : b + 1 + 1 < w.heap.size := (Array.getElem?_eq_some_iff.1 k.e).1
/-- what the closure may write -/
abbrev hangS (b : Nat) : Nat → Prop := fun k => k = b ∨ k = b + 1 + 1
theorem HangAt.keep {w w' : World} {b : Nat} {h : Hung} (k : HangAt w b h) {S : Nat → Prop} (hf : Keeps S w w') (hs : ∀ i, S i → i < b ∨ b + 1 + 1 < i) : HangAt w' b h := by
  have hl := k.lt
  exact ⟨(hf.block _ (by omega) (fun hS => by have := hs _ hS; omega)).trans k.l, (hf.block _ (by omega) (fun hS => by have := hs _ hS; omega)).trans k.n, (hf.block _ hl (fun hS => by have := hs _ hS; omega)).trans k.e⟩

set_option maxHeartbeats 1000000 in
theorem hanger_any (w : World) :
    Calls Tryd.prog 83 #[] w fun o w' => o = .returned (hangV w.heap.size) ∧ HangAt w' w.heap.size Hung.none ∧ Below w.heap.size w w' := by
  go_enter Tryd.func83, Tryd.ntmps83
  go_wp2_with fail
  go_ret
  refine ⟨rfl, ⟨?_, ?_, ?_⟩, by repeat (first | exact Below.refl _ _ | assumption | apply Below.drew | (refine Below.alloc ?_ (by first | (simp; done) | (simp; omega) | omega) _) | (refine Below.setCell ?_ (by first | (simp; done) | (simp; omega) | omega) _))⟩
  · rw [heap_alloc_old _ _ (by simp; omega), heap_alloc_old _ _ (by simp)]
    exact heap_alloc_new w _
  · rw [heap_alloc_old _ _ (by simp)]
    have h := heap_alloc_new (w.alloc (.cells #[.int .i16 0, .int .i16 0] 27)) (.cells #[.int .i16 0, .int .i16 0] 27)
    simpa using h
  · have h := heap_alloc_new ((w.alloc (.cells #[.int .i16 0, .int .i16 0] 27)).alloc (.cells #[.int .i16 0, .int .i16 0] 27)) (.cells #[.int .i64 0] 2)
    have e : Hung.none.fin = 0 := rfl
    rw [e]
    simpa using h

theorem hang_stored {w : World} {b : Nat} {h h' : Hung} (k : HangAt w b h) (p q z : Int) (hl : lastClo h' = ⟨p, q⟩) (hz : h'.fin = z) :
    HangAt (((w.setCell ⟨b, 0, none⟩ (.int .i16 p)).setCell ⟨b, 1, none⟩ (.int .i16 q)).setCell ⟨b + 1 + 1, 0, none⟩ (.int .i64 z)) b h' ∧
      Keeps (hangS b) w (((w.setCell ⟨b, 0, none⟩ (.int .i16 p)).setCell ⟨b, 1, none⟩ (.int .i16 q)).setCell ⟨b + 1 + 1, 0, none⟩ (.int .i64 z)) := by
  have hlt := k.lt
  have h1 := heap_setCell_same w b 0 _ 27 (.int .i16 p) k.l
  have h2 := heap_setCell_same _ b 1 _ 27 (.int .i16 q) h1
  have e1 : (w.setCell ⟨b, 0, none⟩ (.int .i16 p)).heap[b + 1 + 1]? = _ := (Below.heap_setCell w ⟨b, 0, none⟩ _ (b + 1 + 1) (by show b + 1 + 1 ≠ b; omega)).trans k.e
  have e2 := (Below.heap_setCell _ ⟨b, 1, none⟩ (.int .i16 q) (b + 1 + 1) (by show b + 1 + 1 ≠ b; omega)).trans e1
  have e3 := heap_setCell_same _ (b + 1 + 1) 0 _ 2 (.int .i64 z) e2
  refine ⟨⟨?_, ?_, ?_⟩, ?_⟩
  · rw [Below.heap_setCell _ ⟨b + 1 + 1, 0, none⟩ _ b (by show b ≠ b + 1 + 1; omega), h2, hl]
    rfl
  · rw [Below.heap_setCell _ ⟨b + 1 + 1, 0, none⟩ _ (b + 1) (by show b + 1 ≠ b + 1 + 1; omega), Below.heap_setCell _ ⟨b, 1, none⟩ _ (b + 1) (by show b + 1 ≠ b; omega), Below.heap_setCell _ ⟨b, 0, none⟩ _ (b + 1) (by show b + 1 ≠ b; omega)]
    exact k.n
  · rw [e3, hz]
    rfl
  · exact (((Keeps.refl _ w).setCell (p := ⟨b, 0, none⟩) (.inl (.inl rfl)) _).setCell (p := ⟨b, 1, none⟩) (.inl (.inl rfl)) _).setCell (p := ⟨b + 1 + 1, 0, none⟩) (.inl (.inr rfl)) _
theorem hang_after {w : World} {b : Nat} {h h' : Hung} (k : HangAt w b h) (p q z : Int) (hl : lastClo h' = ⟨p, q⟩) (hz : h'.fin = z) {w' : World} (hb : Below (((w.setCell ⟨b, 0, none⟩ (.int .i16 p)).setCell ⟨b, 1, none⟩ (.int .i16 q)).setCell ⟨b + 1 + 1, 0, none⟩ (.int .i64 z)).heap.size (((w.setCell ⟨b, 0, none⟩ (.int .i16 p)).setCell ⟨b, 1, none⟩ (.int .i16 q)).setCell ⟨b + 1 + 1, 0, none⟩ (.int .i64 z)) w') :
    HangAt w' b h' ∧ Keeps (hangS b) w w' := by
  obtain ⟨h1, h2⟩ := hang_stored k p q z hl hz
  have hk : Keeps (fun _ => False) _ w' := Keeps.of_below hb
  exact ⟨h1.keep hk (fun i hi => hi.elim), h2.trans (hk.mono fun _ _ hi => hi.elim)⟩

set_option maxHeartbeats 4000000 in
theorem hang_first (c : Clo) (hc : c.Fits) (b : Nat) (h : Hung) (hl : h.last = none) (w : World) (hH : HangAt w b h) :
    Calls Tryd.prog 91 #[c.v, .pointer (some ⟨b, 0, none⟩), .pointer (some ⟨b + 1, 0, none⟩), .pointer (some ⟨b + 1 + 1, 0, none⟩)] w fun o w' =>
      o = .returned (.tuple #[.int .i64 0, .int .i64 2]) ∧ HangAt w' b ⟨some c, c.wide, [], 0⟩ ∧ Keeps (hangS b) w w' := by
  obtain ⟨p, q⟩ := c
  have hc' := hc
  obtain ⟨a0, a1, a2, a3⟩ := hc'
  simp only at a0 a1 a2 a3
  have hlt := hH.lt
  have HH := Lib.hid hH
  have el : lastClo h = ⟨0, 0⟩ := by simp [lastClo, hl]
  obtain ⟨k0, k1, k2⟩ := hH
  rw [el] at k0
  have c0 := cell_of_row w b 0 _ _ _ k0
  have c1 := cell_of_row w b 1 _ _ _ k0
  have c2 := cell_of_row w (b + 1) 0 _ _ _ k1
  have c3 := cell_of_row w (b + 1) 1 _ _ _ k1
  have c4 := cell_of_row w (b + 1 + 1) 0 _ _ _ k2
  simp only [List.getElem?_toArray, List.getElem?_cons_zero, List.getElem?_cons_succ] at c0 c1 c2 c3 c4
  have f0 := frozen_of_row w b 0 _ _ k0
  have f1 := frozen_of_row w b 1 _ _ k0
  have f2 := frozen_of_row w (b + 1 + 1) 0 _ _ k2
  have heq : ∀ u, (binOp .eql 27 (.agg #[.int .i16 0, .int .i16 0]) (.agg #[.int .i16 0, .int .i16 0])).run Tryd.prog u = .ok (.bool true) u := fun u => cloS.run_eql ⟨0, 0⟩ ⟨0, 0⟩ u
  have hgd : ∀ o1 o2 u, (eqGuard .eql 27 o1 o2 (.agg #[.int .i16 0, .int .i16 0]) (.agg #[.int .i16 0, .int .i16 0])).run Tryd.prog u = .ok () u := fun o1 o2 u => cloS.run_guard .eql ⟨0, 0⟩ ⟨0, 0⟩ o1 o2 u
  have y0 : b < w.heap.size := by omega
  have y1 : b + 1 < w.heap.size := by omega
  clear k0 k1 k2 el hl
  go_enter Tryd.func91, Tryd.ntmps91
  go_wp2_with fail
  go_region
  go_wp2_with fail
  go_ret2
  refine ⟨rfl, ?_⟩
  refine hang_after HH.out p q p rfl rfl ?_
  exact ((Below.refl _ _).alloc (Nat.le_refl _) _).drew
set_option maxHeartbeats 4000000 in
theorem hang_shared (c d : Clo) (hc : c.Fits) (hd : d.Fits) (hv : 1 ≤ d.wide) (hs : shares d c = true) (b : Nat) (z : Int) (hz : -1000000000 ≤ z ∧ z ≤ 1000000000) (h : Hung) (hl : h.last = some d) (hf : h.fin = z) (w : World) (hH : HangAt w b h) :
    Calls Tryd.prog 91 #[c.v, .pointer (some ⟨b, 0, none⟩), .pointer (some ⟨b + 1, 0, none⟩), .pointer (some ⟨b + 1 + 1, 0, none⟩)] w fun o w' =>
      o = .returned (.tuple #[.int .i64 (z - 2), .int .i64 1]) ∧ HangAt w' b ⟨some c, z - 2 + c.wide, [], 0⟩ ∧ Keeps (hangS b) w w' := by
  obtain ⟨p, q⟩ := c
  have hc' := hc
  obtain ⟨a0, a1, a2, a3⟩ := hc'
  simp only at a0 a1 a2 a3
  have hlt := hH.lt
  have HH := Lib.hid hH
  have el : lastClo h = d := by simp [lastClo, hl]
  obtain ⟨z0, z1⟩ := hz
  obtain ⟨r, s⟩ := d
  simp only at hv
  obtain ⟨k0, k1, k2⟩ := hH
  rw [el] at k0
  rw [hf] at k2
  simp only at k0
  have c0 := cell_of_row w b 0 _ _ _ k0
  have c1 := cell_of_row w b 1 _ _ _ k0
  have c2 := cell_of_row w (b + 1) 0 _ _ _ k1
  have c3 := cell_of_row w (b + 1) 1 _ _ _ k1
  have c4 := cell_of_row w (b + 1 + 1) 0 _ _ _ k2
  simp only [List.getElem?_toArray, List.getElem?_cons_zero, List.getElem?_cons_succ] at c0 c1 c2 c3 c4
  have f0 := frozen_of_row w b 0 _ _ k0
  have f1 := frozen_of_row w b 1 _ _ k0
  have f2 := frozen_of_row w (b + 1 + 1) 0 _ _ k2
  have hne : Clo.eq ⟨r, s⟩ ⟨0, 0⟩ = false := by
    have : (r == 0) = false := by rw [beq_eq_false_iff_ne]; omega
    simp [Clo.eq, this]
  have heq : ∀ u, (binOp .eql 27 (.agg #[.int .i16 r, .int .i16 s]) (.agg #[.int .i16 0, .int .i16 0])).run Tryd.prog u = .ok (.bool false) u := fun u => (cloS.run_eql ⟨r, s⟩ ⟨0, 0⟩ u).trans (by rw [hne])
  have hgd : ∀ o1 o2 u, (eqGuard .eql 27 o1 o2 (.agg #[.int .i16 r, .int .i16 s]) (.agg #[.int .i16 0, .int .i16 0])).run Tryd.prog u = .ok () u := fun o1 o2 u => cloS.run_guard .eql ⟨r, s⟩ ⟨0, 0⟩ o1 o2 u
  have y0 : b < w.heap.size := by omega
  have y1 : b + 1 < w.heap.size := by omega
  have HS := Lib.hid hs
  have HZ := Lib.hid hf
  clear hne hs hf
  clear k0 k1 k2 el hl
  go_enter Tryd.func91, Tryd.ntmps91
  go_wp2_with fail
  refine (share_any ⟨r, s⟩ ⟨p, q⟩ hd hc _).mono ?_
  rintro o w1 ⟨rfl, hb1⟩
  rw [HS.out]
  have Hb1 : Below w.heap.size w w1 := ((Below.refl _ _).alloc (Nat.le_refl _) _).trans (hb1.mono (by simp))
  have K1 := HH.out.keep (S := fun _ => False) (Keeps.of_below Hb1) (fun i hi => hi.elim)
  have x0 := box_at hb1 (by simp) 0
  have x1 := box_at hb1 (by simp) 1
  simp only [List.getElem?_toArray, List.getElem?_cons_zero, List.getElem?_cons_succ] at x0 x1
  have HB1 := Lib.hid Hb1
  have HK1 := Lib.hid K1
  have hlt1 := K1.lt
  obtain ⟨k0, k1, k2⟩ := K1
  rw [HZ.out] at k2
  have d0 := cell_of_row w1 b 0 _ _ _ k0
  have d1 := cell_of_row w1 b 1 _ _ _ k0
  have d4 := cell_of_row w1 (b + 1 + 1) 0 _ _ _ k2
  simp only [List.getElem?_toArray, List.getElem?_cons_zero, List.getElem?_cons_succ] at d0 d1 d4
  have g0 := frozen_of_row w1 b 0 _ _ k0
  have g1 := frozen_of_row w1 b 1 _ _ k0
  have g2 := frozen_of_row w1 (b + 1 + 1) 0 _ _ k2
  clear k0 k1 k2 hb1 Hb1 c0 c1 c2 c3 c4 f0 f1 f2 heq hgd
  go_wp2_with fail
  go_region
  go_wp2_with fail
  go_ret2
  refine ⟨rfl, ?_⟩
  have hA := hang_after HK1.out p q (z - 2 + p) (h' := ⟨some ⟨p, q⟩, z - 2 + p, [], 0⟩) rfl rfl ((Below.refl _ _).drew)
  exact ⟨hA.1, (Keeps.of_below HB1.out).next (hA.2.mono fun k _ hk => .inl hk)⟩
set_option maxHeartbeats 4000000 in
theorem hang_apart (c d : Clo) (hc : c.Fits) (hd : d.Fits) (hv : 1 ≤ d.wide) (hs : shares d c = false) (b : Nat) (z : Int) (hz : -1000000000 ≤ z ∧ z ≤ 1000000000) (h : Hung) (hl : h.last = some d) (hf : h.fin = z) (w : World) (hH : HangAt w b h) :
    Calls Tryd.prog 91 #[c.v, .pointer (some ⟨b, 0, none⟩), .pointer (some ⟨b + 1, 0, none⟩), .pointer (some ⟨b + 1 + 1, 0, none⟩)] w fun o w' =>
      o = .returned (.tuple #[.int .i64 (z + 1), .int .i64 2]) ∧ HangAt w' b ⟨some c, z + 1 + c.wide, [], 0⟩ ∧ Keeps (hangS b) w w' := by
  obtain ⟨p, q⟩ := c
  have hc' := hc
  obtain ⟨a0, a1, a2, a3⟩ := hc'
  simp only at a0 a1 a2 a3
  have hlt := hH.lt
  have HH := Lib.hid hH
  have el : lastClo h = d := by simp [lastClo, hl]
  obtain ⟨z0, z1⟩ := hz
  obtain ⟨r, s⟩ := d
  simp only at hv
  obtain ⟨k0, k1, k2⟩ := hH
  rw [el] at k0
  rw [hf] at k2
  simp only at k0
  have c0 := cell_of_row w b 0 _ _ _ k0
  have c1 := cell_of_row w b 1 _ _ _ k0
  have c2 := cell_of_row w (b + 1) 0 _ _ _ k1
  have c3 := cell_of_row w (b + 1) 1 _ _ _ k1
  have c4 := cell_of_row w (b + 1 + 1) 0 _ _ _ k2
  simp only [List.getElem?_toArray, List.getElem?_cons_zero, List.getElem?_cons_succ] at c0 c1 c2 c3 c4
  have f0 := frozen_of_row w b 0 _ _ k0
  have f1 := frozen_of_row w b 1 _ _ k0
  have f2 := frozen_of_row w (b + 1 + 1) 0 _ _ k2
  have hne : Clo.eq ⟨r, s⟩ ⟨0, 0⟩ = false := by
    have : (r == 0) = false := by rw [beq_eq_false_iff_ne]; omega
    simp [Clo.eq, this]
  have heq : ∀ u, (binOp .eql 27 (.agg #[.int .i16 r, .int .i16 s]) (.agg #[.int .i16 0, .int .i16 0])).run Tryd.prog u = .ok (.bool false) u := fun u => (cloS.run_eql ⟨r, s⟩ ⟨0, 0⟩ u).trans (by rw [hne])
  have hgd : ∀ o1 o2 u, (eqGuard .eql 27 o1 o2 (.agg #[.int .i16 r, .int .i16 s]) (.agg #[.int .i16 0, .int .i16 0])).run Tryd.prog u = .ok () u := fun o1 o2 u => cloS.run_guard .eql ⟨r, s⟩ ⟨0, 0⟩ o1 o2 u
  have y0 : b < w.heap.size := by omega
  have y1 : b + 1 < w.heap.size := by omega
  have HS := Lib.hid hs
  have HZ := Lib.hid hf
  clear hne hs hf
  clear k0 k1 k2 el hl
  go_enter Tryd.func91, Tryd.ntmps91
  go_wp2_with fail
  refine (share_any ⟨r, s⟩ ⟨p, q⟩ hd hc _).mono ?_
  rintro o w1 ⟨rfl, hb1⟩
  rw [HS.out]
  have Hb1 : Below w.heap.size w w1 := ((Below.refl _ _).alloc (Nat.le_refl _) _).trans (hb1.mono (by simp))
  have K1 := HH.out.keep (S := fun _ => False) (Keeps.of_below Hb1) (fun i hi => hi.elim)
  have x0 := box_at hb1 (by simp) 0
  have x1 := box_at hb1 (by simp) 1
  simp only [List.getElem?_toArray, List.getElem?_cons_zero, List.getElem?_cons_succ] at x0 x1
  have HB1 := Lib.hid Hb1
  have HK1 := Lib.hid K1
  have hlt1 := K1.lt
  obtain ⟨k0, k1, k2⟩ := K1
  rw [HZ.out] at k2
  have d0 := cell_of_row w1 b 0 _ _ _ k0
  have d1 := cell_of_row w1 b 1 _ _ _ k0
  have d4 := cell_of_row w1 (b + 1 + 1) 0 _ _ _ k2
  simp only [List.getElem?_toArray, List.getElem?_cons_zero, List.getElem?_cons_succ] at d0 d1 d4
  have g0 := frozen_of_row w1 b 0 _ _ k0
  have g1 := frozen_of_row w1 b 1 _ _ k0
  have g2 := frozen_of_row w1 (b + 1 + 1) 0 _ _ k2
  clear k0 k1 k2 hb1 Hb1 c0 c1 c2 c3 c4 f0 f1 f2 heq hgd
  go_wp2_with fail
  go_region
  go_wp2_with fail
  go_ret2
  refine ⟨rfl, ?_⟩
  have hA := hang_after HK1.out p q (z + 1 + p) (h' := ⟨some ⟨p, q⟩, z + 1 + p, [], 0⟩) rfl rfl ((Below.refl _ _).drew)
  exact ⟨hA.1, (Keeps.of_below HB1.out).next (hA.2.mono fun k _ hk => .inl hk)⟩
end Go.Proofs.YtbpipcfijbgnhaaDoor.hang
