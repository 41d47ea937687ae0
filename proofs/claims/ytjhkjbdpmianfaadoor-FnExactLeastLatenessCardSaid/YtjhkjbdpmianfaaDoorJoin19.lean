/-
  Several texts of this proof, joined.
-/
import Derived.Test.YtjhkjbdpmianfaaDoorJoin18
import Derived.Laws.EntriesVeiled
import Derived.Test.YtjhkjbdpmianfaaDoorJoin16
import Derived.Test.YtjhkjbdpmianfaaDoorJoin15
import Derived.Deep.MidRow
import Derived.Deep.RegionHeld3
/-
  What the program irons: newIroning, for each measure.
-/
namespace Go.Proofs.YtjhkjbdpmianfaaDoor.iron
open Go Go.RowKit Go.Maps sl stk errs row

theorem infoG : (Tryd.prog.info? 65).map (·.size) = some 4 := by kernel_rfl
theorem zeroGi : (Tryd.prog.info? 65).map (fun i => (i.zero, i.size)) = some (some (.agg #[.int .i8 0, .int .i8 0, .slice none 0 0, .nilFunc]), 4) := by kernel_rfl
abbrev gCs (x : Iro) (A : Option Addr) (n c : Nat) (fm : Value) (j : Nat) : Value := (#[.int .i8 x.up, .int .i8 x.down, .slice A n c, fm] : Array Value)[j]?.getD undef
abbrev NH (x : Iro) (w : World) (u : World) : Prop := u.cell? ⟨w.heap.size, 0, none⟩ = some (.int .i8 x.up) ∧ u.cell? ⟨w.heap.size, 1, none⟩ = some (.int .i8 x.down)
/-- the iron, and the result's place -/
structure NS (x : Iro) (cf : Nat → Value) (w u : World) : Prop where
  c0 : u.cell? ⟨w.heap.size, 0, none⟩ = some (.int .i8 x.up)
  c1 : u.cell? ⟨w.heap.size, 1, none⟩ = some (.int .i8 x.down)
  r : RowOwn u (w.heap.size + 1) 0 4 cf
  b : Below w.heap.size w u
theorem NS.next {x : Iro} {cf : Nat → Value} {w u v : World} (h : NS x cf w u) (hb : Below u.heap.size u v) : NS x cf w v := by
  have hz := h.r.lt
  exact ⟨(hb.cell (p := ⟨_, 0, none⟩) (by show w.heap.size < _; omega)).trans h.c0, (hb.cell (p := ⟨_, 1, none⟩) (by show w.heap.size < _; omega)).trans h.c1, h.r.next hb, h.b.trans (hb.mono (by omega))⟩
def zg (j : Nat) : Value := match j with | 0 => .int .i8 0 | 1 => .int .i8 0 | 2 => .slice none 0 0 | _ => .nilFunc
theorem NS.new (x : Iro) (w : World) (T U : TypeId) : NS x zg w ((w.alloc (.cells #[.int .i8 x.up, .int .i8 x.down] T)).alloc (.cells #[.int .i8 0, .int .i8 0, .slice none 0 0, .nilFunc] U)) := by
  have e1 : (w.alloc (.cells #[.int .i8 x.up, .int .i8 x.down] T)).heap.size = w.heap.size + 1 := by simp
  have h := RowOwn.new (w.alloc (.cells #[.int .i8 x.up, .int .i8 x.down] T)) 4 zg U
  rw [e1] at h
  have h1 : ∀ i, ((w.alloc (.cells #[.int .i8 x.up, .int .i8 x.down] T)).alloc (.cells #[.int .i8 0, .int .i8 0, .slice none 0 0, .nilFunc] U)).cell? ⟨w.heap.size, i, none⟩ = (#[.int .i8 x.up, .int .i8 x.down] : Array Value)[i]? := fun i =>
    cell_of_row _ _ _ _ _ _ ((heap_alloc_old _ _ (by rw [e1]; omega)).trans (heap_alloc_new w _))
  exact ⟨h1 0, h1 1, h, by repeat (first | exact Below.refl _ _ | assumption | apply Below.drew | (refine Below.alloc ?_ (by first | (simp; done) | (simp; omega) | omega) _) | (refine Below.setCell ?_ (by first | (simp; done) | (simp; omega) | omega) _))⟩
theorem NS.at_ {x : Iro} {cf : Nat → Value} {w u : World} (h : NS x cf w u) {j : Nat} (hj : j < 4) : u.cell? ⟨w.heap.size + 1, j, none⟩ = some (cf j) := by
  have := h.r.cell j hj
  rw [Nat.zero_add] at this
  exact this
theorem NS.fz {x : Iro} {cf : Nat → Value} {w u : World} (h : NS x cf w u) {j : Nat} (hj : j < 4) : u.frozen? ⟨w.heap.size + 1, j, none⟩ = false := by
  have := h.r.free j hj
  rw [Nat.zero_add] at this
  exact this
theorem NS.stored {x : Iro} {A : Option Addr} {n c : Nat} {fm : Value} {w u : World} (h : NS x zg w u) :
    NH x w (u.setCells (w.heap.size + 1) 0 [.int .i8 x.up, .int .i8 x.down, .slice A n c, fm]) ∧ Below w.heap.size w (u.setCells (w.heap.size + 1) 0 [.int .i8 x.up, .int .i8 x.down, .slice A n c, fm]) ∧ u.there (w.heap.size + 1) 0 4 := by
  refine ⟨⟨?_, ?_⟩, below_cells h.b (by omega) _ _, h.r.there⟩
  · exact (World.cell?_setCells_out _ _ _ _ _ (fun e => absurd e (by show w.heap.size ≠ _; omega))).trans h.c0
  · exact (World.cell?_setCells_out _ _ _ _ _ (fun e => absurd e (by show w.heap.size ≠ _; omega))).trans h.c1

set_option maxRecDepth 100000 in
set_option maxHeartbeats 4000000 in
theorem newIroning_0 (x : Iro) (A : Option Addr) (n c : Nat) (w : World) :
    Calls Tryd.prog 33 #[x.v, .slice A n c, .int .u8 0] w fun o w' => o = .returned (gV x A n c (.func (.func 53) #[] #[])) ∧ Below w.heap.size w w' := by
  have hzz : ∀ u : World, (zeroValue 65).run Tryd.prog u = .ok (.agg #[.int .i8 0, .int .i8 0, .slice none 0 0, .nilFunc]) u := (zero_of_info zeroGi).1
  obtain ⟨u0, hu0⟩ : ∃ u, u = (w.alloc (.cells #[.int .i8 x.up, .int .i8 x.down] 30)).alloc (.cells #[.int .i8 0, .int .i8 0, .slice none 0 0, .nilFunc] 65) := ⟨_, rfl⟩
  have S0 : Hid (NS x zg w u0) := Lib.hid (by rw [hu0]; exact NS.new x w _ _)
  have HU := Lib.hid hu0
  clear hu0
  go_enter Tryd.func33, Tryd.ntmps33
  go_wp2_with (first | (rw [← HU.out]) | fail)
  refine wp_region_held_drew (S := NH x w) (by kernel_rfl) ⟨(S0.out.next (Below.refl _ _).drew).c0, (S0.out.next (Below.refl _ _).drew).c1⟩ (fun hHeld => ?_)
  have S1 := Lib.hid (S0.out.next (Below.refl _ _).drew)
  generalize u0.drew = v0 at S1 hHeld ⊢
  clear HU S0
  refine wpAnyH_take (i := 0) (v := ?_) rfl (by kernel_rfl) (by kernel_rfl) (by kernel_rfl) (fun _ _ _ h => h) (Or.inl ⟨by rfl, ?_⟩) (by assumption) ?_
  rotate_left
  · intro u hSu
    (try dsimp only at hSu)
    first | (go_simp; done) | (go_simp; with_reducible rfl)
  try simp only [Act.put, List.getElem_toArray, List.getElem_cons_zero, List.getElem_cons_succ, List.setIfInBounds_toArray, List.set_cons_zero, List.set_cons_succ]
  refine wpAnyH_take (i := 1) (v := ?_) rfl (by kernel_rfl) (by kernel_rfl) (by kernel_rfl) (fun _ _ _ h => h) (Or.inl ⟨by rfl, ?_⟩) (by assumption) ?_
  rotate_left
  · intro u hSu
    (try dsimp only at hSu)
    first | (go_simp; done) | (go_simp; with_reducible rfl)
  try simp only [Act.put, List.getElem_toArray, List.getElem_cons_zero, List.getElem_cons_succ, List.setIfInBounds_toArray, List.set_cons_zero, List.set_cons_succ]
  refine wpAnyH_take (i := 3) (v := ?_) rfl (by kernel_rfl) (by kernel_rfl) (by kernel_rfl) (fun _ _ _ h => h) (Or.inl ⟨by rfl, ?_⟩) (by assumption) ?_
  rotate_left
  · intro u hSu
    (try dsimp only at hSu)
    first | (go_simp; done) | (go_simp; with_reducible rfl)
  try simp only [Act.put, List.getElem_toArray, List.getElem_cons_zero, List.getElem_cons_succ, List.setIfInBounds_toArray, List.set_cons_zero, List.set_cons_succ]
  refine wpAnyH_ready (rs := [2]) (by kernel_rfl) (by simp) ?_
  refine AllReadyH.cons rfl (fun K hK => ?_) AllReadyH.nil
  go_simp
  refine (measures_any _).mono ?_
  rintro o v1 ⟨g, rfl, hm, hb⟩
  have S2 := Lib.hid (S1.out.next hb)
  obtain ⟨fv, psv, hrun, hR⟩ := hm.lookup keyedA undMA (zeroF v1) (zd := .lit (.bool false)) (zp := []) rfl keyA0
  rw [atF0] at hR
  obtain rfl := readF_inv hR
  clear hR hm hb S1
  refine hK.out _ _ (⟨S2.out.c0, S2.out.c1⟩) (fun hHeld2 => ?_)
  clear hK K hHeld
  have hHeld := hHeld2
  clear hHeld2
  try simp only [Act.put, List.getElem_toArray, List.getElem_cons_zero, List.getElem_cons_succ, List.setIfInBounds_toArray, List.set_cons_zero, List.set_cons_succ]
  refine wpAnyH_ready (rs := [4]) (by kernel_rfl) (by simp) ?_
  refine AllReadyH.cons rfl (fun K hK => ?_) AllReadyH.nil
  go_simp
  refine hK.out _ _ (hHeld) (fun hHeld2 => ?_)
  clear hK K hHeld
  have hHeld := hHeld2
  clear hHeld2
  try simp only [Act.put, List.getElem_toArray, List.getElem_cons_zero, List.getElem_cons_succ, List.setIfInBounds_toArray, List.set_cons_zero, List.set_cons_succ]
  clear hrun
  refine wpAnyH_take (i := 5) (v := ?_) rfl (by kernel_rfl) (by kernel_rfl) (by kernel_rfl) (fun _ _ _ h => h) (Or.inl ⟨by rfl, ?_⟩) (by assumption) ?_
  rotate_left
  · intro u hSu
    (try dsimp only at hSu)
    first | (go_simp; done) | (go_simp; with_reducible rfl)
  try simp only [Act.put, List.getElem_toArray, List.getElem_cons_zero, List.getElem_cons_succ, List.setIfInBounds_toArray, List.set_cons_zero, List.set_cons_succ]
  have z0 := S2.out.at_ (j := 0) (by decide)
  have z1 := S2.out.at_ (j := 1) (by decide)
  have z2 := S2.out.at_ (j := 2) (by decide)
  have z3 := S2.out.at_ (j := 3) (by decide)
  have f0 := S2.out.fz (j := 0) (by decide)
  have f1 := S2.out.fz (j := 1) (by decide)
  have f2 := S2.out.fz (j := 2) (by decide)
  have f3 := S2.out.fz (j := 3) (by decide)
  simp only [zg] at z0 z1 z2 z3
  refine wpAnyH_ready (rs := [6]) (by kernel_rfl) (by simp) ?_
  refine AllReadyH.cons rfl (fun K hK => ?_) AllReadyH.nil
  go_simp
  clear z0 z1 z2 z3 f0 f1 f2 f3
  change K _ (v1.setCells (w.heap.size + 1) 0 [.int .i8 x.up, .int .i8 x.down, .slice A n c, .func (.func 53) #[] #[]])
  have HST := NS.stored (A := A) (n := n) (c := c) (fm := .func (.func 53) #[] #[]) S2.out
  refine hK.out _ _ (HST.1) (fun hHeld2 => ?_)
  clear hK K hHeld
  have hHeld := hHeld2
  clear hHeld2
  try simp only [Act.put, List.getElem_toArray, List.getElem_cons_zero, List.getElem_cons_succ, List.setIfInBounds_toArray, List.set_cons_zero, List.set_cons_succ]
  refine wpAnyH_done (by kernel_rfl) ?_ _
  clear hHeld
  go_wp2_with fail
  refine bodyPost_ret (v := gV x A n c (.func (.func 53) #[] #[])) (results_stored Tryd.results33 rfl HST.2.2 Tryd.underlying65 rfl infoG) rfl ⟨rfl, HST.2.1⟩

set_option maxRecDepth 100000 in
set_option maxHeartbeats 4000000 in
theorem newIroning_1 (x : Iro) (A : Option Addr) (n c : Nat) (w : World) :
    Calls Tryd.prog 33 #[x.v, .slice A n c, .int .u8 1] w fun o w' => o = .returned (gV x A n c (.func (.func 54) #[] #[])) ∧ Below w.heap.size w w' := by
  have hzz : ∀ u : World, (zeroValue 65).run Tryd.prog u = .ok (.agg #[.int .i8 0, .int .i8 0, .slice none 0 0, .nilFunc]) u := (zero_of_info zeroGi).1
  obtain ⟨u0, hu0⟩ : ∃ u, u = (w.alloc (.cells #[.int .i8 x.up, .int .i8 x.down] 30)).alloc (.cells #[.int .i8 0, .int .i8 0, .slice none 0 0, .nilFunc] 65) := ⟨_, rfl⟩
  have S0 : Hid (NS x zg w u0) := Lib.hid (by rw [hu0]; exact NS.new x w _ _)
  have HU := Lib.hid hu0
  clear hu0
  go_enter Tryd.func33, Tryd.ntmps33
  go_wp2_with (first | (rw [← HU.out]) | fail)
  refine wp_region_held_drew (S := NH x w) (by kernel_rfl) ⟨(S0.out.next (Below.refl _ _).drew).c0, (S0.out.next (Below.refl _ _).drew).c1⟩ (fun hHeld => ?_)
  have S1 := Lib.hid (S0.out.next (Below.refl _ _).drew)
  generalize u0.drew = v0 at S1 hHeld ⊢
  clear HU S0
  refine wpAnyH_take (i := 0) (v := ?_) rfl (by kernel_rfl) (by kernel_rfl) (by kernel_rfl) (fun _ _ _ h => h) (Or.inl ⟨by rfl, ?_⟩) (by assumption) ?_
  rotate_left
  · intro u hSu
    (try dsimp only at hSu)
    first | (go_simp; done) | (go_simp; with_reducible rfl)
  try simp only [Act.put, List.getElem_toArray, List.getElem_cons_zero, List.getElem_cons_succ, List.setIfInBounds_toArray, List.set_cons_zero, List.set_cons_succ]
  refine wpAnyH_take (i := 1) (v := ?_) rfl (by kernel_rfl) (by kernel_rfl) (by kernel_rfl) (fun _ _ _ h => h) (Or.inl ⟨by rfl, ?_⟩) (by assumption) ?_
  rotate_left
  · intro u hSu
    (try dsimp only at hSu)
    first | (go_simp; done) | (go_simp; with_reducible rfl)
  try simp only [Act.put, List.getElem_toArray, List.getElem_cons_zero, List.getElem_cons_succ, List.setIfInBounds_toArray, List.set_cons_zero, List.set_cons_succ]
  refine wpAnyH_take (i := 3) (v := ?_) rfl (by kernel_rfl) (by kernel_rfl) (by kernel_rfl) (fun _ _ _ h => h) (Or.inl ⟨by rfl, ?_⟩) (by assumption) ?_
  rotate_left
  · intro u hSu
    (try dsimp only at hSu)
    first | (go_simp; done) | (go_simp; with_reducible rfl)
  try simp only [Act.put, List.getElem_toArray, List.getElem_cons_zero, List.getElem_cons_succ, List.setIfInBounds_toArray, List.set_cons_zero, List.set_cons_succ]
  refine wpAnyH_ready (rs := [2]) (by kernel_rfl) (by simp) ?_
  refine AllReadyH.cons rfl (fun K hK => ?_) AllReadyH.nil
  go_simp
  refine (measures_any _).mono ?_
  rintro o v1 ⟨g, rfl, hm, hb⟩
  have S2 := Lib.hid (S1.out.next hb)
  obtain ⟨fv, psv, hrun, hR⟩ := hm.lookup keyedA undMA (zeroF v1) (zd := .lit (.bool false)) (zp := []) rfl keyA1
  rw [atF1] at hR
  obtain rfl := readF_inv hR
  clear hR hm hb S1
  refine hK.out _ _ (⟨S2.out.c0, S2.out.c1⟩) (fun hHeld2 => ?_)
  clear hK K hHeld
  have hHeld := hHeld2
  clear hHeld2
  try simp only [Act.put, List.getElem_toArray, List.getElem_cons_zero, List.getElem_cons_succ, List.setIfInBounds_toArray, List.set_cons_zero, List.set_cons_succ]
  refine wpAnyH_ready (rs := [4]) (by kernel_rfl) (by simp) ?_
  refine AllReadyH.cons rfl (fun K hK => ?_) AllReadyH.nil
  go_simp
  refine hK.out _ _ (hHeld) (fun hHeld2 => ?_)
  clear hK K hHeld
  have hHeld := hHeld2
  clear hHeld2
  try simp only [Act.put, List.getElem_toArray, List.getElem_cons_zero, List.getElem_cons_succ, List.setIfInBounds_toArray, List.set_cons_zero, List.set_cons_succ]
  clear hrun
  refine wpAnyH_take (i := 5) (v := ?_) rfl (by kernel_rfl) (by kernel_rfl) (by kernel_rfl) (fun _ _ _ h => h) (Or.inl ⟨by rfl, ?_⟩) (by assumption) ?_
  rotate_left
  · intro u hSu
    (try dsimp only at hSu)
    first | (go_simp; done) | (go_simp; with_reducible rfl)
  try simp only [Act.put, List.getElem_toArray, List.getElem_cons_zero, List.getElem_cons_succ, List.setIfInBounds_toArray, List.set_cons_zero, List.set_cons_succ]
  have z0 := S2.out.at_ (j := 0) (by decide)
  have z1 := S2.out.at_ (j := 1) (by decide)
  have z2 := S2.out.at_ (j := 2) (by decide)
  have z3 := S2.out.at_ (j := 3) (by decide)
  have f0 := S2.out.fz (j := 0) (by decide)
  have f1 := S2.out.fz (j := 1) (by decide)
  have f2 := S2.out.fz (j := 2) (by decide)
  have f3 := S2.out.fz (j := 3) (by decide)
  simp only [zg] at z0 z1 z2 z3
  refine wpAnyH_ready (rs := [6]) (by kernel_rfl) (by simp) ?_
  refine AllReadyH.cons rfl (fun K hK => ?_) AllReadyH.nil
  go_simp
  clear z0 z1 z2 z3 f0 f1 f2 f3
  change K _ (v1.setCells (w.heap.size + 1) 0 [.int .i8 x.up, .int .i8 x.down, .slice A n c, .func (.func 54) #[] #[]])
  have HST := NS.stored (A := A) (n := n) (c := c) (fm := .func (.func 54) #[] #[]) S2.out
  refine hK.out _ _ (HST.1) (fun hHeld2 => ?_)
  clear hK K hHeld
  have hHeld := hHeld2
  clear hHeld2
  try simp only [Act.put, List.getElem_toArray, List.getElem_cons_zero, List.getElem_cons_succ, List.setIfInBounds_toArray, List.set_cons_zero, List.set_cons_succ]
  refine wpAnyH_done (by kernel_rfl) ?_ _
  clear hHeld
  go_wp2_with fail
  refine bodyPost_ret (v := gV x A n c (.func (.func 54) #[] #[])) (results_stored Tryd.results33 rfl HST.2.2 Tryd.underlying65 rfl infoG) rfl ⟨rfl, HST.2.1⟩

set_option maxRecDepth 100000 in
set_option maxHeartbeats 4000000 in
theorem newIroning_2 (x : Iro) (A : Option Addr) (n c : Nat) (w : World) :
    Calls Tryd.prog 33 #[x.v, .slice A n c, .int .u8 2] w fun o w' => o = .returned (gV x A n c (.func (.func 56) #[] #[])) ∧ Below w.heap.size w w' := by
  have hzz : ∀ u : World, (zeroValue 65).run Tryd.prog u = .ok (.agg #[.int .i8 0, .int .i8 0, .slice none 0 0, .nilFunc]) u := (zero_of_info zeroGi).1
  obtain ⟨u0, hu0⟩ : ∃ u, u = (w.alloc (.cells #[.int .i8 x.up, .int .i8 x.down] 30)).alloc (.cells #[.int .i8 0, .int .i8 0, .slice none 0 0, .nilFunc] 65) := ⟨_, rfl⟩
  have S0 : Hid (NS x zg w u0) := Lib.hid (by rw [hu0]; exact NS.new x w _ _)
  have HU := Lib.hid hu0
  clear hu0
  go_enter Tryd.func33, Tryd.ntmps33
  go_wp2_with (first | (rw [← HU.out]) | fail)
  refine wp_region_held_drew (S := NH x w) (by kernel_rfl) ⟨(S0.out.next (Below.refl _ _).drew).c0, (S0.out.next (Below.refl _ _).drew).c1⟩ (fun hHeld => ?_)
  have S1 := Lib.hid (S0.out.next (Below.refl _ _).drew)
  generalize u0.drew = v0 at S1 hHeld ⊢
  clear HU S0
  refine wpAnyH_take (i := 0) (v := ?_) rfl (by kernel_rfl) (by kernel_rfl) (by kernel_rfl) (fun _ _ _ h => h) (Or.inl ⟨by rfl, ?_⟩) (by assumption) ?_
  rotate_left
  · intro u hSu
    (try dsimp only at hSu)
    first | (go_simp; done) | (go_simp; with_reducible rfl)
  try simp only [Act.put, List.getElem_toArray, List.getElem_cons_zero, List.getElem_cons_succ, List.setIfInBounds_toArray, List.set_cons_zero, List.set_cons_succ]
  refine wpAnyH_take (i := 1) (v := ?_) rfl (by kernel_rfl) (by kernel_rfl) (by kernel_rfl) (fun _ _ _ h => h) (Or.inl ⟨by rfl, ?_⟩) (by assumption) ?_
  rotate_left
  · intro u hSu
    (try dsimp only at hSu)
    first | (go_simp; done) | (go_simp; with_reducible rfl)
  try simp only [Act.put, List.getElem_toArray, List.getElem_cons_zero, List.getElem_cons_succ, List.setIfInBounds_toArray, List.set_cons_zero, List.set_cons_succ]
  refine wpAnyH_take (i := 3) (v := ?_) rfl (by kernel_rfl) (by kernel_rfl) (by kernel_rfl) (fun _ _ _ h => h) (Or.inl ⟨by rfl, ?_⟩) (by assumption) ?_
  rotate_left
  · intro u hSu
    (try dsimp only at hSu)
    first | (go_simp; done) | (go_simp; with_reducible rfl)
  try simp only [Act.put, List.getElem_toArray, List.getElem_cons_zero, List.getElem_cons_succ, List.setIfInBounds_toArray, List.set_cons_zero, List.set_cons_succ]
  refine wpAnyH_ready (rs := [2]) (by kernel_rfl) (by simp) ?_
  refine AllReadyH.cons rfl (fun K hK => ?_) AllReadyH.nil
  go_simp
  refine (measures_any _).mono ?_
  rintro o v1 ⟨g, rfl, hm, hb⟩
  have S2 := Lib.hid (S1.out.next hb)
  obtain ⟨fv, psv, hrun, hR⟩ := hm.lookup keyedA undMA (zeroF v1) (zd := .lit (.bool false)) (zp := []) rfl keyA2
  rw [atF2] at hR
  obtain rfl := readF_inv hR
  clear hR hm hb S1
  refine hK.out _ _ (⟨S2.out.c0, S2.out.c1⟩) (fun hHeld2 => ?_)
  clear hK K hHeld
  have hHeld := hHeld2
  clear hHeld2
  try simp only [Act.put, List.getElem_toArray, List.getElem_cons_zero, List.getElem_cons_succ, List.setIfInBounds_toArray, List.set_cons_zero, List.set_cons_succ]
  refine wpAnyH_ready (rs := [4]) (by kernel_rfl) (by simp) ?_
  refine AllReadyH.cons rfl (fun K hK => ?_) AllReadyH.nil
  go_simp
  refine hK.out _ _ (hHeld) (fun hHeld2 => ?_)
  clear hK K hHeld
  have hHeld := hHeld2
  clear hHeld2
  try simp only [Act.put, List.getElem_toArray, List.getElem_cons_zero, List.getElem_cons_succ, List.setIfInBounds_toArray, List.set_cons_zero, List.set_cons_succ]
  clear hrun
  refine wpAnyH_take (i := 5) (v := ?_) rfl (by kernel_rfl) (by kernel_rfl) (by kernel_rfl) (fun _ _ _ h => h) (Or.inl ⟨by rfl, ?_⟩) (by assumption) ?_
  rotate_left
  · intro u hSu
    (try dsimp only at hSu)
    first | (go_simp; done) | (go_simp; with_reducible rfl)
  try simp only [Act.put, List.getElem_toArray, List.getElem_cons_zero, List.getElem_cons_succ, List.setIfInBounds_toArray, List.set_cons_zero, List.set_cons_succ]
  have z0 := S2.out.at_ (j := 0) (by decide)
  have z1 := S2.out.at_ (j := 1) (by decide)
  have z2 := S2.out.at_ (j := 2) (by decide)
  have z3 := S2.out.at_ (j := 3) (by decide)
  have f0 := S2.out.fz (j := 0) (by decide)
  have f1 := S2.out.fz (j := 1) (by decide)
  have f2 := S2.out.fz (j := 2) (by decide)
  have f3 := S2.out.fz (j := 3) (by decide)
  simp only [zg] at z0 z1 z2 z3
  refine wpAnyH_ready (rs := [6]) (by kernel_rfl) (by simp) ?_
  refine AllReadyH.cons rfl (fun K hK => ?_) AllReadyH.nil
  go_simp
  clear z0 z1 z2 z3 f0 f1 f2 f3
  change K _ (v1.setCells (w.heap.size + 1) 0 [.int .i8 x.up, .int .i8 x.down, .slice A n c, .func (.func 56) #[] #[]])
  have HST := NS.stored (A := A) (n := n) (c := c) (fm := .func (.func 56) #[] #[]) S2.out
  refine hK.out _ _ (HST.1) (fun hHeld2 => ?_)
  clear hK K hHeld
  have hHeld := hHeld2
  clear hHeld2
  try simp only [Act.put, List.getElem_toArray, List.getElem_cons_zero, List.getElem_cons_succ, List.setIfInBounds_toArray, List.set_cons_zero, List.set_cons_succ]
  refine wpAnyH_done (by kernel_rfl) ?_ _
  clear hHeld
  go_wp2_with fail
  refine bodyPost_ret (v := gV x A n c (.func (.func 56) #[] #[])) (results_stored Tryd.results33 rfl HST.2.2 Tryd.underlying65 rfl infoG) rfl ⟨rfl, HST.2.1⟩

set_option maxRecDepth 100000 in
set_option maxHeartbeats 4000000 in
theorem newIroning_3 (x : Iro) (A : Option Addr) (n c : Nat) (w : World) :
    Calls Tryd.prog 33 #[x.v, .slice A n c, .int .u8 3] w fun o w' => o = .returned (gV x A n c (.func (.func 57) #[] #[])) ∧ Below w.heap.size w w' := by
  have hzz : ∀ u : World, (zeroValue 65).run Tryd.prog u = .ok (.agg #[.int .i8 0, .int .i8 0, .slice none 0 0, .nilFunc]) u := (zero_of_info zeroGi).1
  obtain ⟨u0, hu0⟩ : ∃ u, u = (w.alloc (.cells #[.int .i8 x.up, .int .i8 x.down] 30)).alloc (.cells #[.int .i8 0, .int .i8 0, .slice none 0 0, .nilFunc] 65) := ⟨_, rfl⟩
  have S0 : Hid (NS x zg w u0) := Lib.hid (by rw [hu0]; exact NS.new x w _ _)
  have HU := Lib.hid hu0
  clear hu0
  go_enter Tryd.func33, Tryd.ntmps33
  go_wp2_with (first | (rw [← HU.out]) | fail)
  refine wp_region_held_drew (S := NH x w) (by kernel_rfl) ⟨(S0.out.next (Below.refl _ _).drew).c0, (S0.out.next (Below.refl _ _).drew).c1⟩ (fun hHeld => ?_)
  have S1 := Lib.hid (S0.out.next (Below.refl _ _).drew)
  generalize u0.drew = v0 at S1 hHeld ⊢
  clear HU S0
  refine wpAnyH_take (i := 0) (v := ?_) rfl (by kernel_rfl) (by kernel_rfl) (by kernel_rfl) (fun _ _ _ h => h) (Or.inl ⟨by rfl, ?_⟩) (by assumption) ?_
  rotate_left
  · intro u hSu
    (try dsimp only at hSu)
    first | (go_simp; done) | (go_simp; with_reducible rfl)
  try simp only [Act.put, List.getElem_toArray, List.getElem_cons_zero, List.getElem_cons_succ, List.setIfInBounds_toArray, List.set_cons_zero, List.set_cons_succ]
  refine wpAnyH_take (i := 1) (v := ?_) rfl (by kernel_rfl) (by kernel_rfl) (by kernel_rfl) (fun _ _ _ h => h) (Or.inl ⟨by rfl, ?_⟩) (by assumption) ?_
  rotate_left
  · intro u hSu
    (try dsimp only at hSu)
    first | (go_simp; done) | (go_simp; with_reducible rfl)
  try simp only [Act.put, List.getElem_toArray, List.getElem_cons_zero, List.getElem_cons_succ, List.setIfInBounds_toArray, List.set_cons_zero, List.set_cons_succ]
  refine wpAnyH_take (i := 3) (v := ?_) rfl (by kernel_rfl) (by kernel_rfl) (by kernel_rfl) (fun _ _ _ h => h) (Or.inl ⟨by rfl, ?_⟩) (by assumption) ?_
  rotate_left
  · intro u hSu
    (try dsimp only at hSu)
    first | (go_simp; done) | (go_simp; with_reducible rfl)
  try simp only [Act.put, List.getElem_toArray, List.getElem_cons_zero, List.getElem_cons_succ, List.setIfInBounds_toArray, List.set_cons_zero, List.set_cons_succ]
  refine wpAnyH_ready (rs := [2]) (by kernel_rfl) (by simp) ?_
  refine AllReadyH.cons rfl (fun K hK => ?_) AllReadyH.nil
  go_simp
  refine (measures_any _).mono ?_
  rintro o v1 ⟨g, rfl, hm, hb⟩
  have S2 := Lib.hid (S1.out.next hb)
  obtain ⟨fv, psv, hrun, hR⟩ := hm.lookup keyedA undMA (zeroF v1) (zd := .lit (.bool false)) (zp := []) rfl keyA3
  rw [atF3] at hR
  obtain rfl := readF_inv hR
  clear hR hm hb S1
  refine hK.out _ _ (⟨S2.out.c0, S2.out.c1⟩) (fun hHeld2 => ?_)
  clear hK K hHeld
  have hHeld := hHeld2
  clear hHeld2
  try simp only [Act.put, List.getElem_toArray, List.getElem_cons_zero, List.getElem_cons_succ, List.setIfInBounds_toArray, List.set_cons_zero, List.set_cons_succ]
  refine wpAnyH_ready (rs := [4]) (by kernel_rfl) (by simp) ?_
  refine AllReadyH.cons rfl (fun K hK => ?_) AllReadyH.nil
  go_simp
  refine hK.out _ _ (hHeld) (fun hHeld2 => ?_)
  clear hK K hHeld
  have hHeld := hHeld2
  clear hHeld2
  try simp only [Act.put, List.getElem_toArray, List.getElem_cons_zero, List.getElem_cons_succ, List.setIfInBounds_toArray, List.set_cons_zero, List.set_cons_succ]
  clear hrun
  refine wpAnyH_take (i := 5) (v := ?_) rfl (by kernel_rfl) (by kernel_rfl) (by kernel_rfl) (fun _ _ _ h => h) (Or.inl ⟨by rfl, ?_⟩) (by assumption) ?_
  rotate_left
  · intro u hSu
    (try dsimp only at hSu)
    first | (go_simp; done) | (go_simp; with_reducible rfl)
  try simp only [Act.put, List.getElem_toArray, List.getElem_cons_zero, List.getElem_cons_succ, List.setIfInBounds_toArray, List.set_cons_zero, List.set_cons_succ]
  have z0 := S2.out.at_ (j := 0) (by decide)
  have z1 := S2.out.at_ (j := 1) (by decide)
  have z2 := S2.out.at_ (j := 2) (by decide)
  have z3 := S2.out.at_ (j := 3) (by decide)
  have f0 := S2.out.fz (j := 0) (by decide)
  have f1 := S2.out.fz (j := 1) (by decide)
  have f2 := S2.out.fz (j := 2) (by decide)
  have f3 := S2.out.fz (j := 3) (by decide)
  simp only [zg] at z0 z1 z2 z3
  refine wpAnyH_ready (rs := [6]) (by kernel_rfl) (by simp) ?_
  refine AllReadyH.cons rfl (fun K hK => ?_) AllReadyH.nil
  go_simp
  clear z0 z1 z2 z3 f0 f1 f2 f3
  change K _ (v1.setCells (w.heap.size + 1) 0 [.int .i8 x.up, .int .i8 x.down, .slice A n c, .func (.func 57) #[] #[]])
  have HST := NS.stored (A := A) (n := n) (c := c) (fm := .func (.func 57) #[] #[]) S2.out
  refine hK.out _ _ (HST.1) (fun hHeld2 => ?_)
  clear hK K hHeld
  have hHeld := hHeld2
  clear hHeld2
  try simp only [Act.put, List.getElem_toArray, List.getElem_cons_zero, List.getElem_cons_succ, List.setIfInBounds_toArray, List.set_cons_zero, List.set_cons_succ]
  refine wpAnyH_done (by kernel_rfl) ?_ _
  clear hHeld
  go_wp2_with fail
  refine bodyPost_ret (v := gV x A n c (.func (.func 57) #[] #[])) (results_stored Tryd.results33 rfl HST.2.2 Tryd.underlying65 rfl infoG) rfl ⟨rfl, HST.2.1⟩

end Go.Proofs.YtjhkjbdpmianfaaDoor.iron

/-
  Orders of pieces: the program's starts of one, and TotalTime, LatenessOf, WaitSum.
-/
namespace Go.Proofs.YtjhkjbdpmianfaaDoor.iron
open Go Go.RowKit sl stk errs row

theorem owns_down {w : World} {b b' : Nat} {e : TypeId} {sz : Nat} {v : Value} {n : Nat} {L : List Value} (h : w.ownsRow b e sz v n L) (hb : b' ≤ b) : w.ownsRow b' e sz v n L := by
  refine ⟨h.1, ?_⟩
  rcases h.2 with h2 | ⟨g, cap, cur, h1, hg, rest⟩
  · exact .inl h2
  · exact .inr ⟨g, cap, cur, h1, Nat.le_trans hb hg, rest⟩
/-- a measure of an order, and the code -/
noncomputable def sumR (a : Nat) (x : Iro) (ps : List Pie) (os : List Int) : Int × Nat := if codeOrd x ps os = 0 then ((runs x a ps os).sum, 0) else (0, codeOrd x ps os)
theorem sum_ok {a : Nat} {x : Iro} {ps : List Pie} {os : List Int} {r0 : Int} {r1 : Nat} (h : sumR a x ps os = (r0, r1)) (hc : codeOrd x ps os = 0) : (runs x a ps os).sum = r0 ∧ r1 = 0 := by
  rw [sumR, if_pos hc] at h
  simp at h
  exact ⟨h.1, h.2.symm⟩
theorem sum_no {a : Nat} {x : Iro} {ps : List Pie} {os : List Int} {r0 : Int} {r1 i : Nat} (h : sumR a x ps os = (r0, r1)) (hc : codeOrd x ps os = i + 1) : r0 = 0 ∧ r1 = i + 1 := by
  rw [sumR, if_neg (by omega), hc] at h
  simp at h
  omega
/-- the cells of a start in a row of them -/
theorem row_cell {w : World} {b G n c : Nat} {xs : List Str} {k : Nat} {f : Str} (h : w.ownsRow b 61 12 (.slice (some ⟨G, 0, none⟩) n c) n (xs.flatMap strC)) (hx : xs[k]? = some f) {j : Nat} (hj : j < 12) : w.cell? ⟨G, k * 12 + j, none⟩ = some (cellR f j) := by
  obtain ⟨a, e, _, hat⟩ := (Sl.of_owns h (strC_len xs) (by decide)).at_ k f hx
  obtain rfl := Option.some.inj e
  have := hat j _ (lst_get (cellR f) hj)
  rw [add_lit, add_at] at this
  exact this
end Go.Proofs.YtjhkjbdpmianfaaDoor.iron

/-
  The first start that is finished earliest: the program's slices.MinFunc.
-/
namespace Go.Proofs.YtjhkjbdpmianfaaDoor.iron
open Go Go.RowKit sl stk errs row ins

/-- the first of the starts that are finished earliest -/
def minO (L : List Str) : Option Str := L.foldl (fun m f => match m with | none => some f | some g => if f 10 < g 10 then some f else some g) none
theorem minO_snoc (L : List Str) (f : Str) : minO (L ++ [f]) = match minO L with | none => some f | some g => if f 10 < g 10 then some f else some g := by simp [minO]
theorem minO_some {L : List Str} (h : L ≠ []) : ∃ m, minO L = some m := by
  have : ∀ (L : List Str) (o : Option Str), (o ≠ none ∨ L ≠ []) → ∃ m, L.foldl (fun m f => match m with | none => some f | some g => if f 10 < g 10 then some f else some g) o = some m := by
    intro L
    induction L with
    | nil =>
      intro o ho
      cases o with
      | none => rcases ho with h | h <;> exact absurd rfl h
      | some m => exact ⟨m, rfl⟩
    | cons f r ih =>
      intro o _
      refine ih _ (.inl ?_)
      cases o with
      | none => simp
      | some g => simp only; split <;> simp
  exact this L none (.inr h)
theorem minO_take {L : List Str} {k : Nat} {f : Str} (h : L[k]? = some f) : minO (L.take (k + 1)) = match minO (L.take k) with | none => some f | some g => if f 10 < g 10 then some f else some g := by rw [take_snoc h, minO_snoc]
/-- what MinFunc has: the result, the least one so far -/
structure MNS (m : Str) (w u : World) : Prop where
  r : StrOwn u w.heap.size 0 zeroR
  m : StrOwn u (w.heap.size + 1) 0 m
  b : Below w.heap.size w u
theorem MNS.next {m : Str} {w u v : World} (h : MNS m w u) (hb : Below u.heap.size u v) : MNS m w v := ⟨h.r.next hb, h.m.next hb, h.b.trans (hb.mono (by have := h.m.lt; omega))⟩
theorem MNS.store {m : Str} {w u : World} (h : MNS m w u) (f : Str) : MNS f w (u.setCells (w.heap.size + 1) 0 (lst 12 (cellR f))) :=
  ⟨RowOwn.sets_other h.r (by omega) _ _, StrOwn.stored h.m f, below_cells h.b (by omega) _ _⟩
theorem row_at {w : World} {b g n c : Nat} {L : List Str} (h : w.ownsRow b 61 12 (.slice (some ⟨g, 0, none⟩) n c) n (L.flatMap strC)) {k : Nat} {f : Str} (hx : L[k]? = some f) : StrAt w g (k * 12) f :=
  ⟨(h.lt g rfl).2, fun j hj => row_cell h hx hj⟩
end Go.Proofs.YtjhkjbdpmianfaaDoor.iron

/-
  The order that takes always the piece that can be finished first, in plain words.
-/
namespace Go.Proofs.YtjhkjbdpmianfaaDoor.iron
open Go Go.RowKit sl stk errs row ins

/-- when a piece is finished that is taken next -/
def nxt (x : Iro) (ps : List Pie) (s : Sta) (k : Nat) : Int := (s.step x 0 (ptv ps k)).at_
/-- the first of the pieces below k that can be finished first -/
def pickK (x : Iro) (ps : List Pie) (os : List Int) (s : Sta) : Nat → Option Nat
  | 0 => none
  | k + 1 => if (k : Int) ∈ os then pickK x ps os s k else
    match pickK x ps os s k with
    | none => some k
    | some j => if nxt x ps s k < nxt x ps s j then some k else some j
theorem pickK_lt {x : Iro} {ps : List Pie} {os : List Int} {s : Sta} : ∀ {k j : Nat}, pickK x ps os s k = some j → j < k ∧ (j : Int) ∉ os
  | 0, j, h => by simp [pickK] at h
  | k + 1, j, h => by
    rw [pickK] at h
    split at h
    · have := pickK_lt h
      exact ⟨by omega, this.2⟩
    · rename_i hk
      cases hp : pickK x ps os s k with
      | none =>
        rw [hp] at h
        obtain rfl := Option.some.inj h
        exact ⟨by omega, hk⟩
      | some i =>
        rw [hp] at h
        have hi := pickK_lt hp
        simp only at h
        split at h
        · obtain rfl := Option.some.inj h
          exact ⟨by omega, hk⟩
        · obtain rfl := Option.some.inj h
          exact ⟨by omega, hi.2⟩
theorem pickK_some {x : Iro} {ps : List Pie} {os : List Int} {s : Sta} : ∀ {k : Nat}, (∃ i, i < k ∧ (i : Int) ∉ os) → ∃ j, pickK x ps os s k = some j
  | 0, ⟨i, h, _⟩ => absurd h (by omega)
  | k + 1, ⟨i, h, hi⟩ => by
    rw [pickK]
    split
    · rename_i hk
      refine pickK_some ⟨i, ?_, hi⟩
      rcases Nat.lt_or_ge i k with h1 | h1
      · exact h1
      · obtain rfl : i = k := by omega
        exact absurd hk hi
    · cases pickK x ps os s k with
      | none => exact ⟨k, rfl⟩
      | some j => simp only; split <;> exact ⟨_, rfl⟩
theorem minO_lon (x : Iro) (ps : List Pie) (os : List Int) (s : Sta) : ∀ k, minO (lonK x 0 ps os s k) = (pickK x ps os s k).map fun (i : Nat) => strOf (os ++ [(i : Int)]) (s.step x 0 (ptv ps (i : Int)))
  | 0 => rfl
  | k + 1 => by
    have ih := minO_lon x ps os s k
    rw [lonK, pickK]
    by_cases h : (k : Int) ∈ os
    · rw [if_pos h, if_pos h, List.append_nil]
      exact ih
    · rw [if_neg h, if_neg h, minO_snoc, ih]
      cases pickK x ps os s k with
      | none => rfl
      | some j =>
        by_cases hq : nxt x ps s k < nxt x ps s j
        · have hq2 : strOf (os ++ [(k : Int)]) (s.step x 0 (ptv ps (k : Int))) 10 < strOf (os ++ [(j : Int)]) (s.step x 0 (ptv ps (j : Int))) 10 := hq
          simp only [Option.map_some]
          rw [if_pos hq2, if_pos hq]
          rfl
        · have hq2 : ¬ strOf (os ++ [(k : Int)]) (s.step x 0 (ptv ps (k : Int))) 10 < strOf (os ++ [(j : Int)]) (s.step x 0 (ptv ps (j : Int))) 10 := hq
          simp only [Option.map_some]
          rw [if_neg hq2, if_neg hq]
          rfl
/-- a list of so many different indices is not all of them -/
theorem room : ∀ {n : Nat} {os : List Int}, os.Nodup → (∀ i ∈ os, 0 ≤ i ∧ i < n) → os.length < n → ∃ i : Nat, i < n ∧ (i : Int) ∉ os := by
  intro n
  induction n with
  | zero => intro os _ _ h; omega
  | succ n ih =>
    intro os hd hr hl
    by_cases hn : (n : Int) ∈ os
    · have h1 : (os.erase n).Nodup := hd.erase _
      have h2 : (os.erase (n : Int)).length = os.length - 1 := List.length_erase_of_mem hn
      have h0 : 0 < os.length := List.length_pos_of_mem hn
      obtain ⟨i, hi, hni⟩ := ih h1 (fun i hi => by
        have ⟨ha, hb⟩ := (List.Nodup.mem_erase_iff hd).1 hi
        have := hr i hb
        omega) (by omega)
      refine ⟨i, by omega, fun h => hni ((List.Nodup.mem_erase_iff hd).2 ⟨by omega, h⟩)⟩
    · exact ⟨n, by omega, hn⟩
/-- the order behind r pieces -/
def nearO (x : Iro) (ps : List Pie) : Nat → List Int
  | 0 => []
  | r + 1 => nearO x ps r ++ (match pickK x ps (nearO x ps r) (runs x 0 ps (nearO x ps r)) ps.length with | none => [] | some j => [(j : Int)])
structure NearOk (n : Nat) (os : List Int) (r : Nat) : Prop where
  len : os.length = r
  nd : os.Nodup
  rng : ∀ i ∈ os, 0 ≤ i ∧ i < n
theorem near_step {x : Iro} {ps : List Pie} {r : Nat} (h : NearOk ps.length (nearO x ps r) r) (hr : r < ps.length) :
    ∃ j, pickK x ps (nearO x ps r) (runs x 0 ps (nearO x ps r)) ps.length = some j ∧ j < ps.length ∧ (j : Int) ∉ nearO x ps r ∧ nearO x ps (r + 1) = nearO x ps r ++ [(j : Int)] ∧ NearOk ps.length (nearO x ps (r + 1)) (r + 1) := by
  obtain ⟨i, hi, hni⟩ := room h.nd h.rng (by rw [h.len]; exact hr)
  obtain ⟨j, hj⟩ := pickK_some (x := x) (ps := ps) (s := runs x 0 ps (nearO x ps r)) ⟨i, hi, hni⟩
  obtain ⟨hjl, hjn⟩ := pickK_lt hj
  have e : nearO x ps (r + 1) = nearO x ps r ++ [(j : Int)] := by rw [nearO, hj]
  refine ⟨j, hj, hjl, hjn, e, ?_⟩
  rw [e]
  refine ⟨by simp [h.len], List.nodup_append.2 ⟨h.nd, by simp, fun a ha b hb hab => ?_⟩, fun z hz => ?_⟩
  · rw [List.mem_singleton.1 hb] at hab
    exact hjn (hab ▸ ha)
  · rcases List.mem_append.1 hz with h1 | h1
    · exact h.rng z h1
    · rw [List.mem_singleton.1 h1]
      omega
theorem near_ok (x : Iro) (ps : List Pie) : ∀ r, r ≤ ps.length → NearOk ps.length (nearO x ps r) r
  | 0, _ => ⟨rfl, List.Pairwise.nil, fun i hi => by cases hi⟩
  | r + 1, h => by
    obtain ⟨_, _, _, _, _, h2⟩ := near_step (near_ok x ps r (by omega)) (by omega)
    exact h2
def nearR (x : Iro) (ps : List Pie) : List Int × Nat := if codeIr x ps = 0 then (nearO x ps ps.length, 0) else ([], codeIr x ps)
theorem near_yes {x : Iro} {ps : List Pie} {ys : List Int} {r1 : Nat} (h : nearR x ps = (ys, r1)) (hc : codeIr x ps = 0) : nearO x ps ps.length = ys ∧ r1 = 0 := by
  rw [nearR, if_pos hc] at h
  simp at h
  exact ⟨h.1, h.2.symm⟩
theorem near_no {x : Iro} {ps : List Pie} {ys : List Int} {r1 i : Nat} (h : nearR x ps = (ys, r1)) (hc : codeIr x ps = i + 1) : ys = [] ∧ r1 = i + 1 := by
  rw [nearR, if_neg (by omega), hc] at h
  simp at h
  exact ⟨h.1, h.2.symm⟩
theorem nearR_le {x : Iro} {ps : List Pie} {ys : List Int} {r1 : Nat} (h : nearR x ps = (ys, r1)) : ys.length ≤ 1048576 := by
  cases hc : codeIr x ps with
  | zero =>
    obtain ⟨_, _, h8⟩ := codeIr_zero hc
    rw [← (near_yes h hc).1, (near_ok x ps _ (Nat.le_refl _)).len]
    omega
  | succ i => rw [(near_no h hc).1]; simp
end Go.Proofs.YtjhkjbdpmianfaaDoor.iron

/-
  TotalTime, LatenessOf, WaitSum: the model's.
-/
namespace Go.Proofs.YtjhkjbdpmianfaaDoor.iron
open Go Go.RowKit sl stk errs row fold

theorem snoc_ind {α : Type} {P : List α → Prop} (h0 : P []) (h1 : ∀ xs x, P xs → P (xs ++ [x])) (xs : List α) : P xs := by
  have key : ∀ n (xs : List α), xs.length = n → P xs := fun n => by
    induction n with
    | zero => intro xs hx; rw [List.length_eq_zero_iff.1 hx]; exact h0
    | succ n ih =>
      intro xs hx
      have hne : xs ≠ [] := fun e => by rw [e] at hx; cases hx
      rw [← List.dropLast_concat_getLast hne]
      exact h1 _ _ (ih _ (by rw [List.length_dropLast, hx]; rfl))
  exact key _ xs rfl
theorem runs0_sum (x : Iro) (ps : List Pie) (os : List Int) : (runs x 0 ps os).sum = (runs x 0 ps os).at_ := by
  induction os using snoc_ind with
  | h0 => rfl
  | h1 os i ih => rw [runs_snoc]; rfl
theorem runs3_sum {x : Iro} {ps : List Pie} {os : List Int} {k : Nat} {i : Int} (h : os[k]? = some i) : (runs x 3 ps (os.take (k + 1))).sum = (runs x 3 ps (os.take k)).sum + (runs x 0 ps (os.take (k + 1))).at_ := by
  rw [← (runs_same x 3 0 ps (os.take (k + 1))).2, runs_take h]
  rfl
theorem runs2_sum {x : Iro} {ps : List Pie} {os : List Int} {k : Nat} {i : Int} (h : os[k]? = some i) : (runs x 2 ps (os.take (k + 1))).sum = (runs x 2 ps (os.take k)).sum + late (ptv ps i) (runs x 0 ps (os.take (k + 1))).at_ := by
  rw [← (runs_same x 2 0 ps (os.take (k + 1))).2, runs_take h]
  rfl
end Go.Proofs.YtjhkjbdpmianfaaDoor.iron

/-
  FinishTimes, the program's and the model's.
-/
namespace Go.Proofs.YtjhkjbdpmianfaaDoor.iron
open Go Go.RowKit sl stk errs row fold

/-- when pieces are finished, and the code -/
noncomputable def finR (x : Iro) (ps : List Pie) (os : List Int) : List Int × Nat := if codeOrd x ps os = 0 then (tims x ps os, 0) else ([], codeOrd x ps os)
theorem fin_ok {x : Iro} {ps : List Pie} {os ys : List Int} {r1 : Nat} (h : finR x ps os = (ys, r1)) (hc : codeOrd x ps os = 0) : tims x ps os = ys ∧ r1 = 0 := by
  rw [finR, if_pos hc] at h
  simp at h
  exact ⟨h.1, h.2.symm⟩
theorem fin_no {x : Iro} {ps : List Pie} {os ys : List Int} {r1 i : Nat} (h : finR x ps os = (ys, r1)) (hc : codeOrd x ps os = i + 1) : ys = [] ∧ r1 = i + 1 := by
  rw [finR, if_neg (by omega), hc] at h
  simp at h
  exact ⟨h.1, h.2.symm⟩
theorem tims_len (x : Iro) (ps : List Pie) (os : List Int) : (tims x ps os).length = os.length := timK_len x ps os _
theorem finR_le {x : Iro} {ps : List Pie} {os ys : List Int} {r1 : Nat} (h : finR x ps os = (ys, r1)) : ys.length ≤ 1048576 := by
  cases hc : codeOrd x ps os with
  | zero =>
    obtain ⟨_, _, h8, hl, _⟩ := codeOrd_zero hc
    rw [← (fin_ok h hc).1, tims_len]
    omega
  | succ i => rw [(fin_no h hc).1]; simp
end Go.Proofs.YtjhkjbdpmianfaaDoor.iron

/-
  The late pieces of an order, in plain words: as the program and as the model finds them.
-/
namespace Go.Proofs.YtjhkjbdpmianfaaDoor.ins
open Go Go.RowKit sl

theorem scanP_facts (xs : List Int) (x : Int) : ∀ j, j ≤ xs.length → (∀ i, j ≤ i → i < xs.length → x < xs.getD i 0) →
    (∀ q, scanP id xs x j = q + 1 → xs.getD q 0 ≤ x) ∧ (∀ i, scanP id xs x j ≤ i → i < xs.length → x < xs.getD i 0)
  | 0, _, h => ⟨fun q hq => by simp [scanP] at hq, fun i _ hi => h i (Nat.zero_le _) hi⟩
  | j + 1, hj, h => by
    rw [scanP]
    by_cases hlt : x < xs.getD j 0
    · rw [if_pos (by exact hlt)]
      exact scanP_facts xs x j (by omega) fun i h1 h2 => by
        rcases Nat.lt_or_ge j i with h3 | h3
        · exact h i h3 h2
        · obtain rfl : i = j := by omega
          exact hlt
    · rw [if_neg (by exact hlt)]
      refine ⟨fun q hq => ?_, fun i h1 h2 => h i h1 h2⟩
      obtain rfl : q = j := by omega
      omega
theorem pw_getD {xs : List Int} (h : xs.Pairwise (· ≤ ·)) {i j : Nat} (hij : i < j) (hj : j < xs.length) : xs.getD i 0 ≤ xs.getD j 0 := by
  have := List.pairwise_iff_getElem.1 h i j (by omega) hj hij
  rw [List.getD_eq_getElem?_getD, List.getD_eq_getElem?_getD, List.getElem?_eq_getElem (by omega), List.getElem?_eq_getElem hj]
  exact this
theorem insP_sorted {xs : List Int} (h : xs.Pairwise (· ≤ ·)) (x : Int) : (insP id xs x).Pairwise (· ≤ ·) := by
  obtain ⟨f1, f2⟩ := scanP_facts xs x xs.length (Nat.le_refl _) (fun i h1 h2 => by omega)
  have hle := scanP_le id xs x xs.length
  unfold insP
  generalize hp : scanP id xs x xs.length = p at f1 f2 hle
  rw [List.pairwise_append, List.pairwise_cons]
  refine ⟨h.sublist (List.take_sublist _ _), ⟨fun z hz => ?_, h.sublist (List.drop_sublist _ _)⟩, fun y hy z hz => ?_⟩
  · obtain ⟨i, hi⟩ := List.mem_iff_getElem?.1 hz
    rw [List.getElem?_drop] at hi
    have hl := (List.getElem?_eq_some_iff.1 hi).1
    have := f2 (p + i) (by omega) hl
    rw [List.getD_eq_getElem?_getD, hi] at this
    exact Int.le_of_lt this
  · obtain ⟨i, hi⟩ := List.mem_iff_getElem?.1 hy
    rw [List.getElem?_take] at hi
    split at hi
    · rename_i hip
      have hl := (List.getElem?_eq_some_iff.1 hi).1
      have hyx : y ≤ x := by
        obtain ⟨q, rfl⟩ : ∃ q, p = q + 1 := ⟨p - 1, by omega⟩
        have h1 := f1 q rfl
        have h2 : y = xs.getD i 0 := by rw [List.getD_eq_getElem?_getD, hi]; rfl
        rcases Nat.lt_or_ge i q with h3 | h3
        · have := pw_getD h h3 (by omega)
          omega
        · obtain rfl : i = q := by omega
          omega
      rcases List.mem_cons.1 hz with rfl | hz
      · exact hyx
      · obtain ⟨e, he⟩ := List.mem_iff_getElem?.1 hz
        rw [List.getElem?_drop] at he
        have hl2 := (List.getElem?_eq_some_iff.1 he).1
        have := f2 (p + e) (by omega) hl2
        rw [List.getD_eq_getElem?_getD, he] at this
        simp at this
        omega
    · cases hi
theorem srt_sorted (ys : List Int) : (srt id ys).Pairwise (· ≤ ·) := by
  have : ∀ (ys xs : List Int), xs.Pairwise (· ≤ ·) → (ys.foldl (insP id) xs).Pairwise (· ≤ ·) := by
    intro ys
    induction ys with
    | nil => intro xs h; exact h
    | cons y r ih => intro xs h; exact ih _ (insP_sorted h y)
  exact this ys [] List.Pairwise.nil
theorem insP_count (xs : List Int) (x z : Int) : (insP id xs x).count z = xs.count z + if x = z then 1 else 0 := by
  unfold insP
  have e := List.take_append_drop (scanP id xs x xs.length) xs
  rw [List.count_append, List.count_cons]
  have h2 : xs.count z = (xs.take (scanP id xs x xs.length)).count z + (xs.drop (scanP id xs x xs.length)).count z := by rw [← List.count_append, e]
  rw [h2]
  by_cases hxz : x = z
  · subst hxz; simp; omega
  · simp [hxz]
theorem srt_count (ys : List Int) (z : Int) : (srt id ys).count z = ys.count z := by
  have : ∀ (ys xs : List Int), (ys.foldl (insP id) xs).count z = xs.count z + ys.count z := by
    intro ys
    induction ys with
    | nil => intro xs; simp
    | cons y r ih =>
      intro xs
      rw [List.foldl_cons, ih, insP_count, List.count_cons]
      by_cases h : y = z
      · subst h; simp; omega
      · simp [h]
  simpa [srt] using this ys []
theorem srt_nodup {ys : List Int} (h : ys.Nodup) : (srt id ys).Nodup := by
  rw [List.nodup_iff_count] at h ⊢
  intro z
  rw [srt_count]
  exact h z
theorem srt_strict {ys : List Int} (h : ys.Nodup) : (srt id ys).Pairwise (· < ·) := by
  have h1 := srt_sorted ys
  have h2 := srt_nodup h
  refine (h1.and h2).imp ?_
  intro a b hab
  have := hab.1
  have := hab.2
  omega
/-- rising lists of the same numbers are the same -/
theorem strict_eq : ∀ {l m : List Int}, l.Pairwise (· < ·) → m.Pairwise (· < ·) → (∀ z, z ∈ l ↔ z ∈ m) → l = m
  | [], [], _, _, _ => rfl
  | [], b :: m, _, _, h => absurd ((h b).2 (List.mem_cons_self ..)) (by simp)
  | a :: l, [], _, _, h => absurd ((h a).1 (List.mem_cons_self ..)) (by simp)
  | a :: l, b :: m, hl, hm, h => by
    rw [List.pairwise_cons] at hl hm
    have hab : a = b := by
      rcases List.mem_cons.1 ((h a).1 (List.mem_cons_self ..)) with e | e
      · exact e
      · rcases List.mem_cons.1 ((h b).2 (List.mem_cons_self ..)) with e' | e'
        · exact e'.symm
        · have h1 := hl.1 b e'
          have h2 := hm.1 a e
          omega
    subst hab
    have : l = m := strict_eq hl.2 hm.2 fun z => by
      constructor
      · intro hz
        rcases List.mem_cons.1 ((h z).1 (List.mem_cons_of_mem _ hz)) with e | e
        · subst e; have := hl.1 z hz; omega
        · exact e
      · intro hz
        rcases List.mem_cons.1 ((h z).2 (List.mem_cons_of_mem _ hz)) with e | e
        · subst e; have := hm.1 z hz; omega
        · exact e
    rw [this]
end Go.Proofs.YtjhkjbdpmianfaaDoor.ins
namespace Go.Proofs.YtjhkjbdpmianfaaDoor.iron
open Go Go.RowKit sl stk errs ins

/-- is the piece at a place of an order late -/
def isLate (x : Iro) (ps : List Pie) (os : List Int) (q : Nat) : Bool := decide ((ptv ps (os.getD q 0)).due < (runs x 0 ps (os.take (q + 1))).at_)
/-- the late pieces, by the order -/
def latK (x : Iro) (ps : List Pie) (os : List Int) : Nat → List Int
  | 0 => []
  | q + 1 => latK x ps os q ++ (if isLate x ps os q = true then [os.getD q 0] else [])
/-- a piece, where it stands in the order and is late -/
def latI (x : Iro) (ps : List Pie) (os : List Int) (i : Nat) : Nat → List Int
  | 0 => []
  | q + 1 => latI x ps os i q ++ (if os.getD q 0 = (i : Int) ∧ isLate x ps os q = true then [(i : Int)] else [])
def latM (x : Iro) (ps : List Pie) (os : List Int) (m : Nat) : Nat → List Int
  | 0 => []
  | i + 1 => latM x ps os m i ++ latI x ps os i m
theorem latK_mem {x : Iro} {ps : List Pie} {os : List Int} {z : Int} : ∀ k, z ∈ latK x ps os k ↔ ∃ q, q < k ∧ os.getD q 0 = z ∧ isLate x ps os q = true
  | 0 => by simp [latK]
  | k + 1 => by
    rw [latK, List.mem_append, latK_mem k]
    constructor
    · rintro (⟨q, h1, h2⟩ | h)
      · exact ⟨q, by omega, h2⟩
      · split at h
        · rename_i hl
          exact ⟨k, by omega, (List.mem_singleton.1 h).symm, hl⟩
        · cases h
    · rintro ⟨q, h1, h2, h3⟩
      rcases Nat.lt_or_ge q k with h4 | h4
      · exact .inl ⟨q, h4, h2, h3⟩
      · obtain rfl : q = k := by omega
        right
        rw [if_pos h3, h2]
        exact List.mem_singleton.2 rfl
theorem latI_mem {x : Iro} {ps : List Pie} {os : List Int} {i : Nat} {z : Int} : ∀ k, z ∈ latI x ps os i k ↔ z = i ∧ ∃ q, q < k ∧ os.getD q 0 = (i : Int) ∧ isLate x ps os q = true
  | 0 => by simp [latI]
  | k + 1 => by
    rw [latI, List.mem_append, latI_mem k]
    constructor
    · rintro (⟨h0, q, h1, h2⟩ | h)
      · exact ⟨h0, q, by omega, h2⟩
      · split at h
        · rename_i hl
          exact ⟨List.mem_singleton.1 h, k, by omega, hl⟩
        · cases h
    · rintro ⟨h0, q, h1, h2, h3⟩
      rcases Nat.lt_or_ge q k with h4 | h4
      · exact .inl ⟨h0, q, h4, h2, h3⟩
      · obtain rfl : q = k := by omega
        right
        rw [if_pos ⟨h2, h3⟩, h0]
        exact List.mem_singleton.2 rfl
theorem latM_mem {x : Iro} {ps : List Pie} {os : List Int} {m : Nat} {z : Int} : ∀ k, z ∈ latM x ps os m k ↔ ∃ i : Nat, i < k ∧ z = i ∧ ∃ q, q < m ∧ os.getD q 0 = (i : Int) ∧ isLate x ps os q = true
  | 0 => by simp [latM]
  | k + 1 => by
    rw [latM, List.mem_append, latM_mem k, latI_mem m]
    constructor
    · rintro (⟨i, h1, h2⟩ | h)
      · exact ⟨i, by omega, h2⟩
      · exact ⟨k, by omega, h⟩
    · rintro ⟨i, h1, h2⟩
      rcases Nat.lt_or_ge i k with h4 | h4
      · exact .inl ⟨i, h4, h2⟩
      · obtain rfl : i = k := by omega
        exact .inr h2
theorem good_ne {n : Nat} {os : List Int} (h : goodP n os os.length) {p q : Nat} (hpq : p < q) (hq : q < os.length) : os.getD p 0 ≠ os.getD q 0 := by
  intro e
  rw [List.getD_eq_getElem?_getD, List.getD_eq_getElem?_getD, List.getElem?_eq_getElem (by omega), List.getElem?_eq_getElem hq] at e
  have := (h q os[q] hq (List.getElem?_eq_getElem hq)).2.2
  refine this (List.mem_iff_getElem?.2 ⟨p, ?_⟩)
  rw [List.getElem?_take_of_lt hpq, List.getElem?_eq_getElem (by omega)]
  exact congrArg some e
theorem latI_none {x : Iro} {ps : List Pie} {os : List Int} {i : Nat} : ∀ k, (∀ q, q < k → os.getD q 0 ≠ (i : Int)) → latI x ps os i k = []
  | 0, _ => rfl
  | k + 1, h => by
    rw [latI, latI_none k (fun q hq => h q (by omega)), if_neg (fun h2 => h k (by omega) h2.1)]
    rfl
theorem latI_one {n : Nat} {x : Iro} {ps : List Pie} {os : List Int} (hg : goodP n os os.length) {i : Nat} : ∀ k, k ≤ os.length → (latI x ps os i k).Pairwise (· < ·)
  | 0, _ => List.Pairwise.nil
  | k + 1, hk => by
    rw [latI]
    by_cases h : os.getD k 0 = (i : Int) ∧ isLate x ps os k = true
    · rw [if_pos h, latI_none k (fun q hq e => good_ne hg hq (by omega) (e.trans h.1.symm))]
      simp
    · rw [if_neg h, List.append_nil]
      exact latI_one hg k (by omega)
theorem latM_strict {n : Nat} {x : Iro} {ps : List Pie} {os : List Int} (hg : goodP n os os.length) {m : Nat} (hm : m ≤ os.length) : ∀ k, (latM x ps os m k).Pairwise (· < ·)
  | 0 => List.Pairwise.nil
  | k + 1 => by
    rw [latM, List.pairwise_append]
    refine ⟨latM_strict hg hm k, latI_one hg m hm, fun a ha b hb => ?_⟩
    obtain ⟨i, hi, rfl, _⟩ := (latM_mem k).1 ha
    rw [((latI_mem m).1 hb).1]
    omega
theorem latK_nodup {n : Nat} {x : Iro} {ps : List Pie} {os : List Int} (hg : goodP n os os.length) : ∀ k, k ≤ os.length → (latK x ps os k).Nodup
  | 0, _ => List.Pairwise.nil
  | k + 1, hk => by
    rw [latK]
    refine List.nodup_append.2 ⟨latK_nodup hg k (by omega), by split <;> simp, fun a ha b hb e => ?_⟩
    split at hb
    · obtain ⟨q, hq, h2, _⟩ := (latK_mem k).1 ha
      rw [List.mem_singleton.1 hb] at e
      exact good_ne hg hq (by omega) (h2.trans e)
    · cases hb
theorem lat_eq {n : Nat} {x : Iro} {ps : List Pie} {os : List Int} (hg : goodP n os os.length) : srt id (latK x ps os os.length) = latM x ps os os.length n := by
  refine strict_eq (srt_strict (latK_nodup hg _ (Nat.le_refl _))) (latM_strict hg (Nat.le_refl _) n) fun z => ?_
  rw [srt_mem, latK_mem, latM_mem]
  constructor
  · rintro ⟨q, h1, h2, h3⟩
    have h4 := hg q _ h1 (List.getElem?_eq_getElem h1)
    have h5 : os.getD q 0 = os[q] := by rw [List.getD_eq_getElem?_getD, List.getElem?_eq_getElem h1]; rfl
    rw [← h5, h2] at h4
    exact ⟨z.toNat, by omega, by omega, q, h1, by omega, h3⟩
  · rintro ⟨i, _, h2, q, h3, h4, h5⟩
    exact ⟨q, h3, by omega, h5⟩
theorem latK_len (x : Iro) (ps : List Pie) (os : List Int) : ∀ k, (latK x ps os k).length ≤ k
  | 0 => Nat.le_refl _
  | k + 1 => by
    have := latK_len x ps os k
    rw [latK, List.length_append]
    split <;> simp <;> omega
/-- by one late piece more the count rises, else it stays -/
theorem runs1_sum {x : Iro} {ps : List Pie} {os : List Int} {k : Nat} {i : Int} (h : os[k]? = some i) : (runs x 1 ps (os.take (k + 1))).sum = (runs x 1 ps (os.take k)).sum + if isLate x ps os k = true then 1 else 0 := by
  have e : (runs x 1 ps (os.take (k + 1))).sum = mea 1 (runs x 1 ps (os.take k)).sum (ptv ps i) (runs x 0 ps (os.take (k + 1))).at_ := by
    rw [← (runs_same x 1 0 ps (os.take (k + 1))).2, runs_take h]
    rfl
  have hg : os.getD k 0 = i := by rw [List.getD_eq_getElem?_getD, h]; rfl
  rw [e]
  unfold isLate mea late
  rw [hg]
  simp only [decide_eq_true_eq]
  split <;> split <;> split <;> omega
noncomputable def lateR (x : Iro) (ps : List Pie) (os : List Int) : List Int × Nat := if codeOrd x ps os = 0 then (latM x ps os os.length ps.length, 0) else ([], codeOrd x ps os)
theorem late_ok {x : Iro} {ps : List Pie} {os ys : List Int} {r1 : Nat} (h : lateR x ps os = (ys, r1)) (hc : codeOrd x ps os = 0) : latM x ps os os.length ps.length = ys ∧ r1 = 0 := by
  rw [lateR, if_pos hc] at h
  simp at h
  exact ⟨h.1, h.2.symm⟩
theorem late_no {x : Iro} {ps : List Pie} {os ys : List Int} {r1 i : Nat} (h : lateR x ps os = (ys, r1)) (hc : codeOrd x ps os = i + 1) : ys = [] ∧ r1 = i + 1 := by
  rw [lateR, if_neg (by omega), hc] at h
  simp at h
  exact ⟨h.1, h.2.symm⟩
theorem lateR_le {x : Iro} {ps : List Pie} {os ys : List Int} {r1 : Nat} (h : lateR x ps os = (ys, r1)) : ys.length ≤ 1048576 := by
  cases hc : codeOrd x ps os with
  | zero =>
    obtain ⟨_, _, h8, hl, hg⟩ := codeOrd_zero hc
    rw [← (late_ok h hc).1, ← lat_eq hg, srt_len]
    have := latK_len x ps os os.length
    omega
  | succ i => rw [(late_no h hc).1]; simp
end Go.Proofs.YtjhkjbdpmianfaaDoor.iron

/-
  The least order in plain words: all orders as they come as lists, the first of the least ones; a search that leaves what cannot be less, and one that leaves what is no better than what it has seen.
-/
namespace Go.Proofs.YtjhkjbdpmianfaaDoor.iron
open Go Go.RowKit sl stk errs row ins

/-- the pieces that an order has not -/
def leftP (n : Nat) (os : List Int) : List Nat := (List.range n).filter fun (k : Nat) => !(decide ((k : Int) ∈ os))
/-- all ways to go on for r pieces -/
def suf (n : Nat) : Nat → List Int → List (List Int)
  | 0, _ => [[]]
  | r + 1, os => (leftP n os).flatMap fun (k : Nat) => (suf n r (os ++ [(k : Int)])).map fun t => (k : Int) :: t
abbrev Bst := Option (List Int × Int)
def upd (b : Bst) (c : List Int × Int) : Bst := match b with | none => some c | some d => if c.2 < d.2 then some c else b
def cmpl (x : Iro) (a : Nat) (ps : List Pie) (r : Nat) (os : List Int) : List (List Int × Int) := (suf ps.length r os).map fun t => (os ++ t, (runs x a ps (os ++ t)).sum)
theorem cmpl_zero (x : Iro) (a : Nat) (ps : List Pie) (os : List Int) : cmpl x a ps 0 os = [(os, (runs x a ps os).sum)] := by simp [cmpl, suf]
theorem cmpl_succ (x : Iro) (a : Nat) (ps : List Pie) (r : Nat) (os : List Int) : cmpl x a ps (r + 1) os = (leftP ps.length os).flatMap fun (k : Nat) => cmpl x a ps r (os ++ [(k : Int)]) := by
  unfold cmpl
  rw [suf, List.map_flatMap]
  congr 1
  funext k
  rw [List.map_map]
  congr 1
  funext t
  simp
/-- no more than the best one -/
def Cls (b : Bst) (L : List (List Int × Int)) : Prop := ∀ c ∈ L, ∃ d, b = some d ∧ d.2 ≤ c.2
theorem upd_le {b : Bst} {d c : List Int × Int} (h : b = some d) : ∃ d', upd b c = some d' ∧ d'.2 ≤ d.2 := by
  subst h
  unfold upd
  simp only
  split
  · exact ⟨c, rfl, by omega⟩
  · exact ⟨d, rfl, Int.le_refl _⟩
theorem upd_new (b : Bst) (c : List Int × Int) : ∃ d', upd b c = some d' ∧ d'.2 ≤ c.2 := by
  unfold upd
  cases b with
  | none => exact ⟨c, rfl, Int.le_refl _⟩
  | some d =>
    simp only
    split
    · exact ⟨c, rfl, Int.le_refl _⟩
    · exact ⟨d, rfl, by omega⟩
theorem fold_le : ∀ (L : List (List Int × Int)) {b : Bst} {d : List Int × Int}, b = some d → ∃ d', L.foldl upd b = some d' ∧ d'.2 ≤ d.2
  | [], _, d, h => ⟨d, h, Int.le_refl _⟩
  | c :: L, b, d, h => by
    obtain ⟨d1, h1, l1⟩ := upd_le (c := c) h
    obtain ⟨d2, h2, l2⟩ := fold_le L h1
    exact ⟨d2, h2, by omega⟩
theorem fold_cls : ∀ (L : List (List Int × Int)) (b : Bst), Cls (L.foldl upd b) L
  | [], _, c, hc => by cases hc
  | c :: L, b, z, hz => by
    rcases List.mem_cons.1 hz with rfl | h
    · obtain ⟨d1, h1, l1⟩ := upd_new b z
      obtain ⟨d2, h2, l2⟩ := fold_le L h1
      exact ⟨d2, h2, by omega⟩
    · exact fold_cls L (upd b c) z h
theorem Cls.mono {b : Bst} {L : List (List Int × Int)} (h : Cls b L) (M : List (List Int × Int)) : Cls (M.foldl upd b) L := fun c hc => by
  obtain ⟨d, h1, h2⟩ := h c hc
  obtain ⟨d', h3, h4⟩ := fold_le M h1
  exact ⟨d', h3, by omega⟩
theorem Cls.fold : ∀ {L : List (List Int × Int)} {b : Bst}, Cls b L → L.foldl upd b = b
  | [], _, _ => rfl
  | c :: L, b, h => by
    obtain ⟨d, h1, h2⟩ := h c (List.mem_cons_self ..)
    have e : upd b c = b := by
      subst h1
      unfold upd
      simp only
      rw [if_neg (by omega)]
    rw [List.foldl_cons, e]
    exact Cls.fold fun z hz => h z (List.mem_cons_of_mem _ hz)
/-- a sum never becomes less -/
structure Sta.Mon (s : Sta) (a : Nat) : Prop where
  l0 : 0 ≤ s.lev
  l3 : s.lev ≤ 3
  a0 : 0 ≤ s.at_
  e : a = 0 → s.sum = s.at_
theorem Sta.Mon.step {s : Sta} {a : Nat} (h : s.Mon a) {x : Iro} {p : Pie} (hx : iroB x = true) (hp : pieB p = true) : (s.step x a p).Mon a ∧ s.sum ≤ (s.step x a p).sum := by
  obtain ⟨⟨p0, p1⟩, ⟨p2, p3⟩, p4, p5⟩ := pieB_iff.1 hp
  have hc := chg_bd (x := x) (a := s.lev) (b := p.lev) hx h.l0 h.l3 (by omega) p1
  have ha := h.a0
  obtain ⟨t, ht⟩ : ∃ t, t = s.at_ + chg x s.lev p.lev + p.mins := ⟨_, rfl⟩
  have hl := late_bd (p := p) (t := t) hp (by omega)
  unfold Sta.step
  rw [← ht]
  refine ⟨⟨by show 0 ≤ p.lev; omega, p1, by show 0 ≤ t; omega, fun e => by subst e; rfl⟩, ?_⟩
  show s.sum ≤ mea a s.sum p t
  unfold mea
  split
  · have := h.e rfl
    omega
  · split <;> omega
  · omega
  · omega
theorem mon_fold {x : Iro} {a : Nat} {ps : List Pie} (hx : iroB x = true) (hp : ps.all pieB = true) : ∀ (t : List Int) {s : Sta}, s.Mon a → (t.foldl (fun s i => s.step x a (ptv ps i)) s).Mon a ∧ s.sum ≤ (t.foldl (fun s i => s.step x a (ptv ps i)) s).sum
  | [], s, h => ⟨h, Int.le_refl _⟩
  | i :: t, s, h => by
    obtain ⟨h1, h2⟩ := h.step (p := ptv ps i) hx (ptv_valid hp i)
    obtain ⟨h3, h4⟩ := mon_fold hx hp t h1
    exact ⟨h3, Int.le_trans h2 h4⟩
theorem runs_app (x : Iro) (a : Nat) (ps : List Pie) (os t : List Int) : runs x a ps (os ++ t) = t.foldl (fun s i => s.step x a (ptv ps i)) (runs x a ps os) := by simp [runs]
theorem runs_mon {x : Iro} {a : Nat} {ps : List Pie} (hx : iroB x = true) (hp : ps.all pieB = true) (os : List Int) : (runs x a ps os).Mon a := (mon_fold hx hp os ⟨by decide, by decide, by decide, fun _ => rfl⟩).1
theorem sum_app {x : Iro} {a : Nat} {ps : List Pie} (hx : iroB x = true) (hp : ps.all pieB = true) (os t : List Int) : (runs x a ps os).sum ≤ (runs x a ps (os ++ t)).sum := by
  rw [runs_app]
  exact (mon_fold hx hp t (runs_mon hx hp os)).2
/-- what starts no later, with no greater sum, stays so -/
structure Sta.Le (s u : Sta) : Prop where
  l : s.lev = u.lev
  t : s.at_ ≤ u.at_
  s : s.sum ≤ u.sum
theorem Sta.Le.step {s u : Sta} (h : s.Le u) (x : Iro) (a : Nat) (p : Pie) : (s.step x a p).Le (u.step x a p) := by
  obtain ⟨t, ht⟩ : ∃ t, t = s.at_ + chg x s.lev p.lev + p.mins := ⟨_, rfl⟩
  obtain ⟨t', ht'⟩ : ∃ t, t = u.at_ + chg x u.lev p.lev + p.mins := ⟨_, rfl⟩
  have h1 := h.t
  have h2 := h.s
  have hl : t ≤ t' := by rw [ht, ht', h.l]; omega
  unfold Sta.step
  rw [← ht, ← ht']
  refine ⟨rfl, hl, ?_⟩
  show mea a s.sum p t ≤ mea a u.sum p t'
  have hd : late p t ≤ late p t' := by unfold late; split <;> split <;> omega
  unfold mea
  split
  · exact hl
  · split <;> split <;> omega
  · omega
  · omega
theorem Sta.Le.fold {x : Iro} {a : Nat} {ps : List Pie} : ∀ (t : List Int) {s u : Sta}, s.Le u → (t.foldl (fun s i => s.step x a (ptv ps i)) s).Le (t.foldl (fun s i => s.step x a (ptv ps i)) u)
  | [], _, _, h => h
  | i :: t, _, _, h => Sta.Le.fold t (h.step x a (ptv ps i))
/-- no order is behind a start that has none less -/
theorem cls_big {x : Iro} {a : Nat} {ps : List Pie} (hx : iroB x = true) (hp : ps.all pieB = true) {b : Bst} {d : List Int × Int} (hb : b = some d) {os : List Int} (h : d.2 ≤ (runs x a ps os).sum) (r : Nat) : Cls b (cmpl x a ps r os) := fun c hc => by
  obtain ⟨t, _, rfl⟩ := List.mem_map.1 hc
  exact ⟨d, hb, Int.le_trans h (sum_app hx hp os t)⟩
theorem leftP_same {n : Nat} {os es : List Int} (h : ∀ i, i ∈ os ↔ i ∈ es) : leftP n os = leftP n es := by
  unfold leftP
  congr 1
  funext k
  rw [decide_eq_decide.2 (h k)]
theorem suf_same {n : Nat} : ∀ (r : Nat) {os es : List Int}, (∀ i, i ∈ os ↔ i ∈ es) → suf n r os = suf n r es
  | 0, _, _, _ => rfl
  | r + 1, os, es, h => by
    rw [suf, suf, leftP_same h]
    congr 1
    funext k
    rw [suf_same r (os := os ++ [(k : Int)]) (es := es ++ [(k : Int)]) fun i => by simp [h i]]
theorem cls_seen {x : Iro} {a : Nat} {ps : List Pie} {b : Bst} {os es : List Int} (hm : ∀ i, i ∈ os ↔ i ∈ es) (hl : (runs x a ps es).Le (runs x a ps os)) {r : Nat} (h : Cls b (cmpl x a ps r es)) : Cls b (cmpl x a ps r os) := fun c hc => by
  obtain ⟨t, ht, rfl⟩ := List.mem_map.1 hc
  rw [suf_same r hm] at ht
  obtain ⟨d, h1, h2⟩ := h _ (List.mem_map.2 ⟨t, ht, rfl⟩)
  refine ⟨d, h1, Int.le_trans h2 ?_⟩
  show (runs x a ps (es ++ t)).sum ≤ (runs x a ps (os ++ t)).sum
  rw [runs_app, runs_app]
  exact (hl.fold t).s
/-- the search that leaves what is no less than the best one -/
def prnB (b : Bst) (s : Int) : Bool := match b with | none => false | some d => decide (d.2 ≤ s)
def dfsM (x : Iro) (a : Nat) (ps : List Pie) : Nat → List Int → Bst → Bst
  | 0, os, b => if prnB b (runs x a ps os).sum = true then b else some (os, (runs x a ps os).sum)
  | r + 1, os, b => if prnB b (runs x a ps os).sum = true then b else (leftP ps.length os).foldl (fun b (k : Nat) => dfsM x a ps r (os ++ [(k : Int)]) b) b
theorem prnB_cls {x : Iro} {a : Nat} {ps : List Pie} (hx : iroB x = true) (hp : ps.all pieB = true) {b : Bst} {os : List Int} (h : prnB b (runs x a ps os).sum = true) (r : Nat) : Cls b (cmpl x a ps r os) := by
  cases b with
  | none => cases h
  | some d => exact cls_big hx hp rfl (of_decide_eq_true h) r
theorem upd_not {b : Bst} {c : List Int × Int} (h : ¬ prnB b c.2 = true) : upd b c = some c := by
  cases b with
  | none => rfl
  | some d =>
    have : ¬ d.2 ≤ c.2 := fun e => h (decide_eq_true e)
    unfold upd
    simp only
    rw [if_pos (by omega)]
theorem fold_flat {α : Type} (f : α → List (List Int × Int)) : ∀ (L : List α) (b : Bst), (L.flatMap f).foldl upd b = L.foldl (fun b k => (f k).foldl upd b) b
  | [], _ => rfl
  | k :: L, b => by rw [List.flatMap_cons, List.foldl_append, List.foldl_cons]; exact fold_flat f L _
theorem dfsM_eq {x : Iro} {a : Nat} {ps : List Pie} (hx : iroB x = true) (hp : ps.all pieB = true) : ∀ (r : Nat) (os : List Int) (b : Bst), dfsM x a ps r os b = (cmpl x a ps r os).foldl upd b
  | 0, os, b => by
    rw [dfsM]
    split
    · rename_i h
      exact (prnB_cls hx hp h 0).fold.symm
    · rename_i h
      rw [cmpl_zero]
      exact (upd_not (c := (os, (runs x a ps os).sum)) h).symm
  | r + 1, os, b => by
    rw [dfsM]
    split
    · rename_i h
      exact (prnB_cls hx hp h (r + 1)).fold.symm
    · rw [cmpl_succ, fold_flat]
      congr 1
      funext b k
      exact dfsM_eq hx hp r _ _
end Go.Proofs.YtjhkjbdpmianfaaDoor.iron

/-
  The search that leaves what is no better than what it has seen, settled the same way; the least order as the laws need it.
-/
namespace Go.Proofs.YtjhkjbdpmianfaaDoor.iron
open Go Go.RowKit sl stk errs row ins

theorem nil_or_snoc {α : Type} (l : List α) : l = [] ∨ ∃ o i, l = o ++ [i] := by
  rcases List.eq_nil_or_concat l with h | ⟨o, i, h⟩
  · exact .inl h
  · exact .inr ⟨o, i, by rw [h, List.concat_eq_append]⟩
/-- the pieces, from 1 on, with all ahead of the last one ascending -/
def keyO (os : List Int) : List Int := srt id (os.dropLast.map (· + 1)) ++ os.getLast?.toList.map (· + 1)
theorem keyO_nil : keyO [] = [] := rfl
theorem keyO_snoc (os : List Int) (i : Int) : keyO (os ++ [i]) = srt id (os.map (· + 1)) ++ [i + 1] := by simp [keyO]
theorem keyO_len (os : List Int) : (keyO os).length = os.length := by
  rcases nil_or_snoc os with rfl | ⟨o, i, rfl⟩
  · rfl
  · rw [keyO_snoc]; simp [srt_len]
theorem keyO_mem (os : List Int) (z : Int) : z + 1 ∈ keyO os ↔ z ∈ os := by
  rcases nil_or_snoc os with rfl | ⟨o, i, rfl⟩
  · simp [keyO_nil]
  · rw [keyO_snoc, List.mem_append, List.mem_append, srt_mem, List.mem_map, List.mem_singleton, List.mem_singleton]
    refine or_congr ⟨fun ⟨a, ha, e⟩ => ?_, fun h => ⟨z, h, rfl⟩⟩ (by omega)
    have : a = z := by omega
    exact this ▸ ha
theorem keyO_last (os : List Int) : (keyO os).getLast? = os.getLast?.map (· + 1) := by
  rcases nil_or_snoc os with rfl | ⟨o, i, rfl⟩
  · rfl
  · rw [keyO_snoc]; simp
theorem last_of_key {os es : List Int} (h : keyO es = keyO os) : es.getLast? = os.getLast? := by
  have h1 := keyO_last es
  rw [h, keyO_last] at h1
  cases h2 : es.getLast? <;> cases h3 : os.getLast? <;> rw [h2, h3] at h1 <;> simp at h1
  · rw [h1]
theorem lev_last (x : Iro) (a : Nat) (ps : List Pie) (os : List Int) : (runs x a ps os).lev = match os.getLast? with | none => 0 | some i => (ptv ps i).lev := by
  rcases nil_or_snoc os with rfl | ⟨o, i, rfl⟩
  · rfl
  · rw [runs_snoc]; simp [Sta.step]
structure SeS where
  b : Bst
  seen : List Int → Option (List Int)
def prnS (x : Iro) (a : Nat) (ps : List Pie) (seen : List Int → Option (List Int)) (os : List Int) : Bool :=
  match seen (keyO os) with
  | none => false
  | some e => decide ((runs x a ps e).at_ ≤ (runs x a ps os).at_) && decide ((runs x a ps e).sum ≤ (runs x a ps os).sum)
def putS (seen : List Int → Option (List Int)) (os : List Int) : List Int → Option (List Int) := fun k => if k = keyO os then some os else seen k
def dfsP (x : Iro) (a : Nat) (ps : List Pie) : Nat → List Int → SeS → SeS
  | 0, os, S => if (prnB S.b (runs x a ps os).sum || prnS x a ps S.seen os) = true then S else ⟨some (os, (runs x a ps os).sum), putS S.seen os⟩
  | r + 1, os, S => if (prnB S.b (runs x a ps os).sum || prnS x a ps S.seen os) = true then S else (leftP ps.length os).foldl (fun S (k : Nat) => dfsP x a ps r (os ++ [(k : Int)]) S) ⟨S.b, putS S.seen os⟩
/-- of what has been seen, all is done but what is open -/
def Known (x : Iro) (a : Nat) (ps : List Pie) (S : SeS) (opn : List Int → Prop) : Prop :=
  ∀ k e, S.seen k = some e → keyO e = k ∧ e.length ≤ ps.length ∧ (Cls S.b (cmpl x a ps (ps.length - e.length) e) ∨ opn e)
theorem prn_cls {x : Iro} {a : Nat} {ps : List Pie} (hx : iroB x = true) (hp : ps.all pieB = true) {S : SeS} {os : List Int} {r : Nat} (hr : os.length + r = ps.length) (hk : Known x a ps S fun e => ∃ t, t ≠ [] ∧ os = e ++ t)
    (h : (prnB S.b (runs x a ps os).sum || prnS x a ps S.seen os) = true) : Cls S.b (cmpl x a ps r os) := by
  rcases Bool.or_eq_true_iff.1 h with h | h
  · exact prnB_cls hx hp h r
  · unfold prnS at h
    cases he : S.seen (keyO os) with
    | none => rw [he] at h; cases h
    | some e =>
      rw [he] at h
      obtain ⟨h1, h2⟩ := Bool.and_eq_true_iff.1 h
      have h1 := of_decide_eq_true h1
      have h2 := of_decide_eq_true h2
      obtain ⟨h3, h4, h5⟩ := hk _ _ he
      have hl : e.length = os.length := by rw [← keyO_len e, h3, keyO_len]
      have hm : ∀ i, i ∈ os ↔ i ∈ e := fun i => by rw [← keyO_mem os, ← keyO_mem e, h3]
      rcases h5 with h5 | ⟨t, ht, h5⟩
      · rw [hl, show ps.length - os.length = r by omega] at h5
        exact cls_seen hm ⟨by rw [lev_last, lev_last, last_of_key h3], h1, h2⟩ h5
      · have := congrArg List.length h5
        rw [List.length_append, hl] at this
        exact absurd (List.length_eq_zero_iff.1 (by omega)) ht
theorem dfsP_ok {x : Iro} {a : Nat} {ps : List Pie} (hx : iroB x = true) (hp : ps.all pieB = true) : ∀ (r : Nat) (os : List Int) (S : SeS), os.length + r = ps.length → (Known x a ps S fun e => ∃ t, t ≠ [] ∧ os = e ++ t) →
    (dfsP x a ps r os S).b = (cmpl x a ps r os).foldl upd S.b ∧ Known x a ps (dfsP x a ps r os S) fun e => ∃ t, t ≠ [] ∧ os = e ++ t
  | 0, os, S, hr, hk => by
    rw [dfsP]
    split
    · rename_i h
      exact ⟨(prn_cls hx hp hr hk h).fold.symm, hk⟩
    · rename_i h
      rw [Bool.or_eq_true, not_or] at h
      have hb : [(os, (runs x a ps os).sum)].foldl upd S.b = some (os, (runs x a ps os).sum) := upd_not (c := (os, (runs x a ps os).sum)) h.1
      rw [cmpl_zero]
      refine ⟨hb.symm, fun k e he => ?_⟩
      simp only [putS] at he
      split at he
      · rename_i hkk
        obtain rfl := Option.some.inj he
        refine ⟨hkk.symm, by omega, .inl ?_⟩
        rw [show ps.length - os.length = 0 by omega, cmpl_zero]
        intro c hc
        rw [List.mem_singleton.1 hc]
        exact ⟨_, rfl, Int.le_refl _⟩
      · obtain ⟨h1, h2, h3⟩ := hk _ _ he
        refine ⟨h1, h2, h3.imp (fun h3 => ?_) id⟩
        show Cls (some (os, (runs x a ps os).sum)) _
        rw [← hb]
        exact h3.mono _
  | r + 1, os, S, hr, hk => by
    rw [dfsP]
    split
    · rename_i h
      exact ⟨(prn_cls hx hp hr hk h).fold.symm, hk⟩
    · have key : ∀ (L : List Nat) (S : SeS), (Known x a ps S fun e => ∃ t, os = e ++ t) →
          (L.foldl (fun S (k : Nat) => dfsP x a ps r (os ++ [(k : Int)]) S) S).b = (L.flatMap fun (k : Nat) => cmpl x a ps r (os ++ [(k : Int)])).foldl upd S.b ∧ Known x a ps (L.foldl (fun S (k : Nat) => dfsP x a ps r (os ++ [(k : Int)]) S) S) fun e => ∃ t, os = e ++ t := by
        intro L
        induction L with
        | nil => intro S h; exact ⟨rfl, h⟩
        | cons k L ih =>
          intro S h
          obtain ⟨h1, h2⟩ := dfsP_ok hx hp r (os ++ [(k : Int)]) S (by simp; omega) (fun q e he => by
            obtain ⟨g1, g2, g3⟩ := h q e he
            exact ⟨g1, g2, g3.imp id fun ⟨t, ht⟩ => ⟨t ++ [(k : Int)], by simp, by rw [ht, List.append_assoc]⟩⟩)
          obtain ⟨h3, h4⟩ := ih (dfsP x a ps r (os ++ [(k : Int)]) S) (fun q e he => by
            obtain ⟨g1, g2, g3⟩ := h2 q e he
            refine ⟨g1, g2, g3.imp id fun ⟨t, ht, hte⟩ => ?_⟩
            rcases nil_or_snoc t with rfl | ⟨t', k', rfl⟩
            · exact absurd rfl ht
            · rw [← List.append_assoc] at hte
              exact ⟨t', (List.append_inj' hte rfl).1⟩)
          rw [List.foldl_cons, List.flatMap_cons, List.foldl_append, ← h1]
          exact ⟨h3, h4⟩
      obtain ⟨h1, h2⟩ := key (leftP ps.length os) ⟨S.b, putS S.seen os⟩ (fun q e he => by
        simp only [putS] at he
        split at he
        · rename_i hkk
          obtain rfl := Option.some.inj he
          exact ⟨hkk.symm, by omega, .inr ⟨[], by simp⟩⟩
        · obtain ⟨g1, g2, g3⟩ := hk _ _ he
          exact ⟨g1, g2, g3.imp id fun ⟨t, _, ht⟩ => ⟨t, ht⟩⟩)
      rw [← cmpl_succ] at h1
      refine ⟨h1, fun q e he => ?_⟩
      obtain ⟨g1, g2, g3⟩ := h2 q e he
      refine ⟨g1, g2, ?_⟩
      rcases g3 with g3 | ⟨t, ht⟩
      · exact .inl g3
      · by_cases htn : t = []
        · subst htn
          rw [List.append_nil] at ht
          subst ht
          rw [h1, show ps.length - os.length = r + 1 by omega]
          exact .inl (fold_cls _ _)
        · exact .inr ⟨t, htn, ht⟩
/-- the first of the least orders -/
def bestB (x : Iro) (a : Nat) (ps : List Pie) : Bst := (cmpl x a ps ps.length []).foldl upd none
theorem best_seen {x : Iro} {a : Nat} {ps : List Pie} (hx : iroB x = true) (hp : ps.all pieB = true) : (dfsP x a ps ps.length [] ⟨none, fun _ => none⟩).b = bestB x a ps :=
  (dfsP_ok hx hp ps.length [] ⟨none, fun _ => none⟩ (by simp) (fun k e he => by cases he)).1
theorem best_less {x : Iro} {a : Nat} {ps : List Pie} (hx : iroB x = true) (hp : ps.all pieB = true) : dfsM x a ps ps.length [] none = bestB x a ps := dfsM_eq hx hp _ _ _
theorem fold_mem : ∀ (L : List (List Int × Int)) {b : Bst} {d : List Int × Int}, L.foldl upd b = some d → b = some d ∨ d ∈ L
  | [], _, _, h => .inl h
  | c :: L, b, d, h => by
    rcases fold_mem L h with h | h
    · unfold upd at h
      cases b with
      | none => exact .inr (by rw [Option.some.inj h]; exact List.mem_cons_self ..)
      | some z =>
        simp only at h
        split at h
        · exact .inr (by rw [Option.some.inj h]; exact List.mem_cons_self ..)
        · exact .inl h
    · exact .inr (List.mem_cons_of_mem _ h)
theorem suf_len {n : Nat} : ∀ (r : Nat) {os t : List Int}, t ∈ suf n r os → t.length = r
  | 0, _, t, h => by rw [suf, List.mem_singleton] at h; rw [h]; rfl
  | r + 1, os, t, h => by
    rw [suf, List.mem_flatMap] at h
    obtain ⟨k, _, h⟩ := h
    obtain ⟨u, hu, rfl⟩ := List.mem_map.1 h
    rw [List.length_cons, suf_len r hu]
def bestR (a : Nat) (x : Iro) (ps : List Pie) : List Int × Int × Nat := if codeIr x ps = 0 then (match bestB x a ps with | none => ([], 0, 0) | some d => (d.1, d.2, 0)) else ([], 0, codeIr x ps)
theorem bestR_le {a : Nat} {x : Iro} {ps : List Pie} {ys : List Int} {r0 : Int} {r1 : Nat} (h : bestR a x ps = (ys, r0, r1)) : ys.length ≤ 1048576 := by
  unfold bestR at h
  split at h
  · rename_i hc
    obtain ⟨_, _, h8⟩ := codeIr_zero hc
    split at h
    · rw [← (Prod.mk.inj h).1]; simp
    · rename_i d hd
      rw [← (Prod.mk.inj h).1]
      rcases fold_mem _ hd with hd | hd
      · cases hd
      · obtain ⟨t, ht, rfl⟩ := List.mem_map.1 hd
        have := suf_len _ ht
        simp only [List.nil_append]
        omega
  · rw [← (Prod.mk.inj h).1]; simp
end Go.Proofs.YtjhkjbdpmianfaaDoor.iron

/-
  A start's pieces settled; whether a start is no better: the program's.
-/
namespace Go.Proofs.YtjhkjbdpmianfaaDoor.iron
open Go Go.RowKit sl stk errs row ins

/-- eight small numbers -/
def ordC (g : Nat → Int) (j : Nat) : Value := .int .i8 (g j)
def ordCs (g : Nat → Int) : Array Value := (lst 8 (ordC g)).toArray
abbrev ordV (g : Nat → Int) : Value := .agg (ordCs g)
theorem ordCs_size (g : Nat → Int) : (ordCs g).size = 8 := by simp [ordCs, lst_len]
theorem ordCs_one (g : Nat → Int) : (ordCs g).all (·.oneCell') = true := lst_one fun _ _ => rfl
theorem infoO : (Tryd.prog.info? 58).map (·.size) = some 8 := by kernel_rfl
theorem zeroOi : (Tryd.prog.info? 58).map (fun i => (i.zero, i.size)) = some (some (.agg (ordCs zeroR)), 8) := by kernel_rfl
/-- what a start is known by -/
def keyF (os : List Int) (j : Nat) : Int := (keyO os).getD j 0
abbrev OrdOwn (u : World) (b p : Nat) (g : Nat → Int) : Prop := RowOwn u b p 8 (ordC g)
section
variable {ops : Array Oper} {rest : List Oper} {op : Oper} {a : Act} {u : World} {Q : Exit → Act → World → Prop}
theorem wpl_load_ord (hgd : op.guard = none) (x : Operand) (ho : op.op = .load 58 x) (b p : Nat) (hx : a.eval x = .pointer (some ⟨b, p, none⟩))
    {f : Nat → Int} (h : RowAt u b p 8 (ordC f)) (hK : wpList Tryd.prog ops Q rest (a.put op.dst (ordV f)) u) : wpList Tryd.prog ops Q (op :: rest) a u :=
  wpList_load_mid hgd 58 x ho b p hx (lst 8 (ordC f)) _ h.range Tryd.underlying58 rfl (by rw [infoO, lst_len]) hK
theorem wpl_store_ord (hgd : op.guard = none) (x y : Operand) (ho : op.op = .store 58 x y) (b p : Nat) (hx : a.eval x = .pointer (some ⟨b, p, none⟩))
    {f g : Nat → Int} (hy : a.eval y = ordV f) (ht : OrdOwn u b p g) (hK : wpList Tryd.prog ops Q rest (a.put op.dst undef) (u.setCells b p (lst 8 (ordC f)))) : wpList Tryd.prog ops Q (op :: rest) a u :=
  wpList_store_mid hgd 58 x y ho b p (ordCs f) hx hy (by rw [ordCs_size]; exact ht.there) (by rw [infoO, ordCs_size]) (ordCs_one f) hK
end
def mixF (m : Nat) (L : List Int) (g : Nat → Int) (j : Nat) : Int := if j < m then L.getD j 0 else g j
theorem kept_arr (b m : Nat) (g : Nat → Int) (hm : m ≤ 8) : Kept (fun u L => OrdOwn u b 0 (mixF m L g) ∧ L.length = m) b m .i8 :=
  ⟨fun u L j x h hx => by
    have hj : j < m := by rw [← h.2]; exact (List.getElem?_eq_some_iff.1 hx).1
    have := h.1.cell j (by omega)
    rw [Nat.zero_add, ordC, mixF, if_pos hj, List.getD_eq_getElem?_getD, hx] at this
    exact this,
  fun u L j h hj => by have := h.1.free j (by omega); rwa [Nat.zero_add] at this,
  fun u L j x h hj => ⟨by
    have := RowOwn.set h.1 (j := j) (by omega) (.int .i8 x)
    rw [Nat.zero_add] at this
    refine this.to fun i hi => ?_
    have hl := h.2
    unfold ordC mixF
    by_cases e : i = j
    · subst e
      rw [if_pos rfl, if_pos hj]
      congr 1
      rw [List.getD_eq_getElem?_getD, List.getElem?_set_self (by omega)]
      rfl
    · rw [if_neg e]
      congr 1
      split
      · rw [List.getD_eq_getElem?_getD, List.getD_eq_getElem?_getD, List.getElem?_set_ne (Ne.symm e)]
      · rfl, by simp [h.2]⟩,
  fun u L h => ⟨h.1.next (Below.refl _ _).drew, h.2⟩⟩
theorem mix_start (os : List Int) (s : Sta) (h8 : os.length ≤ 8) : ∀ j, j < 8 → mixF (os.length - 1) (os.dropLast.map (· + 1)) (strOf os s) j = strOf os s j := fun j hj => by
  unfold mixF
  split
  · rename_i h
    unfold strOf
    rw [if_pos hj, List.getD_eq_getElem?_getD, List.getElem?_map, List.getElem?_dropLast, if_pos h, List.getElem?_eq_getElem (by omega)]
    rfl
  · rfl
theorem mix_end (os : List Int) (s : Sta) (h8 : os.length ≤ 8) : ∀ j, j < 8 → mixF (os.length - 1) (srt id (os.dropLast.map (· + 1))) (strOf os s) j = keyF os j := fun j hj => by
  unfold mixF keyF
  rcases nil_or_snoc os with rfl | ⟨o, i, rfl⟩
  · unfold strOf
    rw [keyO_nil]
    simp [hj]
  · have hl : (srt id (o.map (· + 1))).length = o.length := by rw [srt_len]; simp
    rw [keyO_snoc, List.getD_eq_getElem?_getD, List.getD_eq_getElem?_getD, List.dropLast_concat]
    split
    · rename_i h
      simp at h
      rw [List.getElem?_append_left (by omega)]
    · rename_i h
      simp at h
      unfold strOf
      rw [if_pos hj, List.getElem?_append_right (by omega), List.getElem?_append_right (by omega), hl]
      cases hd : j - o.length with
      | zero => rfl
      | succ k => rfl
set_option maxRecDepth 100000 in
set_option maxHeartbeats 2000000 in
theorem noBetter_any (f g : Str) (z : Bool) (hz : z = (decide (g 10 ≤ f 10) && decide (g 11 ≤ f 11))) (w : World) : Calls Tryd.prog 44 #[strV f, strV g] w fun o w' => o = .returned (.bool z) ∧ Below w.heap.size w w' := by
  have HZ := Lib.hid hz
  obtain ⟨u, hu⟩ : ∃ u, u = (w.alloc (.cells (strCs f) 61)).alloc (.cells (strCs g) 61) := ⟨_, rfl⟩
  have e : (w.alloc (.cells (strCs f) 61)).heap.size = w.heap.size + 1 := by simp
  have h1 := (StrOwn.new w f 61).next ((Below.refl _ _).alloc (Nat.le_refl _) (.cells (strCs g) 61))
  have h2 := StrOwn.new (w.alloc (.cells (strCs f) 61)) g 61
  rw [e] at h2
  rw [← hu] at h1 h2
  have c1 : u.cell? ⟨w.heap.size, 10, none⟩ = some (.int .i64 (f 10)) := by have := h1.cell 10 (by decide); rw [Nat.zero_add, cellR_10] at this; exact this
  have c2 : u.cell? ⟨w.heap.size + 1, 10, none⟩ = some (.int .i64 (g 10)) := by have := h2.cell 10 (by decide); rw [Nat.zero_add, cellR_10] at this; exact this
  have c3 : u.cell? ⟨w.heap.size, 11, none⟩ = some (.int .i64 (f 11)) := by have := h1.cell 11 (by decide); rw [Nat.zero_add, cellR_11] at this; exact this
  have c4 : u.cell? ⟨w.heap.size + 1, 11, none⟩ = some (.int .i64 (g 11)) := by have := h2.cell 11 (by decide); rw [Nat.zero_add, cellR_11] at this; exact this
  have HB : Hid (Below w.heap.size w u) := Lib.hid (by rw [hu]; exact ((Below.refl _ _).alloc (Nat.le_refl _) _).alloc (by rw [e]; omega) _)
  have HU := Lib.hid hu
  clear hz hu e h1 h2
  by_cases hd : g 10 ≤ f 10
  · have d1 : decide (g 10 ≤ f 10) = true := decide_eq_true hd
    have HQ : Hid (z = decide (g 11 ≤ f 11)) := Lib.hid (by rw [HZ.out, d1, Bool.true_and])
    clear hd
    go_enter Tryd.func44, Tryd.ntmps44
    go_wp2_with (first | (rw [← HU.out]) | fail)
    go_ret
    exact ⟨by rw [HQ.out]; first | rfl | simp, HB.out⟩
  · have d1 : decide (g 10 ≤ f 10) = false := decide_eq_false hd
    have HQ : Hid (z = false) := Lib.hid (by rw [HZ.out, d1, Bool.false_and])
    clear hd
    go_enter Tryd.func44, Tryd.ntmps44
    go_wp2_with (first | (rw [← HU.out]) | fail)
    go_ret
    exact ⟨by rw [HQ.out]; first | rfl | simp, HB.out⟩
set_option maxRecDepth 100000 in
set_option maxHeartbeats 4000000 in
theorem settled_any (os : List Int) (h8 : os.length ≤ 8) (s : Sta) (w : World) : Calls Tryd.prog 43 #[strV (strOf os s)] w fun o w' => o = .returned (ordV (keyF os)) ∧ Below w.heap.size w w' := by
  obtain ⟨f, hf⟩ : ∃ f, f = strOf os s := ⟨_, rfl⟩
  rw [← hf]
  obtain ⟨m, hm⟩ : ∃ m, m = os.length - 1 := ⟨_, rfl⟩
  obtain ⟨q, hq⟩ : ∃ q : Int, q = (os.length : Int) := ⟨_, rfl⟩
  have hmx : (if q - 1 < 0 then 0 else q - 1) = (m : Int) := by split <;> omega
  obtain ⟨u1, hu1⟩ : ∃ u, u = w.alloc (.cells (strCs f) 61) := ⟨_, rfl⟩
  have e1 : u1.heap.size = w.heap.size + 1 := by rw [hu1]; simp
  have R1 : StrOwn u1 w.heap.size 0 f := by rw [hu1]; exact StrOwn.new w f 61
  have b1 : Below w.heap.size w u1 := by rw [hu1]; exact (Below.refl _ _).alloc (Nat.le_refl _) _
  obtain ⟨u2, hu2⟩ : ∃ u, u = u1.alloc (.cells (ordCs zeroR) 58) := ⟨_, rfl⟩
  have e2 : u2.heap.size = w.heap.size + 2 := by rw [hu2]; simp [e1]
  have b2' : Below u1.heap.size u1 u2 := by rw [hu2]; exact (Below.refl _ _).alloc (Nat.le_refl _) _
  have O2 : OrdOwn u2 (w.heap.size + 1) 0 zeroR := by have := RowOwn.new u1 8 (ordC zeroR) 58; rw [e1] at this; rw [hu2]; exact this
  obtain ⟨u3, hu3⟩ : ∃ u, u = u2.alloc (.cells (ordCs zeroR) 58) := ⟨_, rfl⟩
  have e3 : u3.heap.size = w.heap.size + 3 := by rw [hu3]; simp [e2]
  have b3' : Below u2.heap.size u2 u3 := by rw [hu3]; exact (Below.refl _ _).alloc (Nat.le_refl _) _
  have N3 : OrdOwn u3 (w.heap.size + 2) 0 zeroR := by have := RowOwn.new u2 8 (ordC zeroR) 58; rw [e2] at this; rw [hu3]; exact this
  have A2 : Hid (RowAt u2 w.heap.size 0 8 (ordC f)) := Lib.hid (((R1.next b2').toRowAt.sub 0 8 (by omega)).to fun j hj => by rw [Nat.zero_add, cellR_low f hj]; rfl)
  obtain ⟨u4, hu4⟩ : ∃ u, u = u3.setCells (w.heap.size + 2) 0 (lst 8 (ordC f)) := ⟨_, rfl⟩
  have N4 : OrdOwn u4 (w.heap.size + 2) 0 (mixF m (os.dropLast.map (· + 1)) f) := by
    rw [hu4]
    refine (RowOwn.sets (o := 0) (m := 8) N3 (by omega) (ordC f)).to fun j hj => ?_
    rw [if_pos (by omega), Nat.sub_zero, ordC, ordC, hm, hf, mix_start os s h8 j hj]
  have O4 : Hid (OrdOwn u4 (w.heap.size + 1) 0 zeroR) := Lib.hid (by rw [hu4]; exact RowOwn.sets_other ((O2.next b3')) (by omega) _ _)
  have c8 : u4.cell? ⟨w.heap.size, 8, none⟩ = some (.int .i64 q) := by
    have := ((R1.next b2').next b3').cell 8 (by decide)
    rw [Nat.zero_add, cellR_8, hf, strOf_8, ← hq] at this
    rw [hu4]
    exact (World.cell?_setCells_out _ _ _ _ _ (fun e => absurd e (by show w.heap.size ≠ w.heap.size + 2; omega))).trans this
  have B4 : Hid (Below w.heap.size w u4) := Lib.hid (by rw [hu4]; exact below_cells ((b1.trans (b2'.mono (by omega))).trans (b3'.mono (by omega))) (by omega) _ _)
  have HN4 := Lib.hid N4
  have HN3 := Lib.hid N3
  have HM := Lib.hid hm
  have HF := Lib.hid hf
  have HU1 := Lib.hid hu1
  have HU2 := Lib.hid hu2
  have HU3 := Lib.hid hu3
  have HU4 := Lib.hid hu4
  have HE1 := Lib.hid e1
  have HE2 := Lib.hid e2
  have hm8 : m ≤ 8 := by omega
  have hm9 : (m : Int) ≤ 8 := by omega
  have hz4 : w.heap.size + 2 < u4.heap.size := N4.lt
  have q0 : 0 ≤ q := by omega
  have q8 : q ≤ 8 := by omega
  clear hf hm hq hu1 e1 R1 b1 hu2 e2 b2' O2 hu3 e3 b3' N3 hu4 N4
  have hzz : ∀ u : World, (zeroValue 58).run Tryd.prog u = .ok (.agg (ordCs zeroR)) u := (zero_of_info zeroOi).1
  go_enter Tryd.func43, Tryd.ntmps43
  go_wp2_with (first
    | (rw [← HU1.out])
    | (rw [← HU2.out, HE1.out])
    | (refine wpl_load_ord rfl (.tmp 4) rfl w.heap.size 0 rfl A2.out ?_)
    | (rw [← HU3.out, HE2.out])
    | (refine wpl_store_ord rfl (.tmp 3) (.tmp 5) rfl (w.heap.size + 2) 0 rfl rfl HN3.out ?_; rw [← HU4.out])
    | fail)
  refine (sort_i8 _ (w.heap.size + 2) m 8 (kept_arr (w.heap.size + 2) m f hm8) (by omega) (os.dropLast.map (· + 1)) (by rw [HM.out]; simp) u4 u4 (Below.refl _ _) ⟨HN4.out, by rw [HM.out]; simp⟩).mono ?_
  rintro o u5 ⟨rfl, ⟨N5, _⟩, b5⟩
  have HN5 := Lib.hid N5
  have HO5 := Lib.hid (O4.out.below b5 (by omega))
  have HB5 := Lib.hid (B4.out.trans (b5.mono (by omega)))
  have HR := Lib.hid (fun j hj => by have := mix_end os s h8 j hj; rw [← HM.out, ← HF.out] at this; exact this : ∀ j, j < 8 → mixF m (srt id (os.dropLast.map (· + 1))) f j = keyF os j)
  clear N5 b5 O4 c8 B4 HN4 HN3 HU1 HU2 HU3 HU4 A2
  go_wp2_with (first
    | (refine wpl_load_ord rfl (.tmp 3) rfl (w.heap.size + 2) 0 rfl HN5.out.toRowAt ?_)
    | (refine wpl_store_ord rfl (.tmp 2) (.tmp 12) rfl (w.heap.size + 1) 0 rfl rfl HO5.out ?_)
    | fail)
  refine bodyPost_ret (v := ordV (mixF m (srt id (os.dropLast.map (· + 1))) f)) (results_stored Tryd.results43 rfl (by rw [lst_len]; exact HO5.out.there) Tryd.underlying58 rfl (by rw [infoO, lst_len])) rfl ⟨?_, ?_⟩
  · have : ordV (mixF m (srt id (os.dropLast.map (· + 1))) f) = ordV (keyF os) := by
      unfold ordV ordCs
      rw [lst_congr (d := ordC (keyF os)) fun j hj => by unfold ordC; rw [HR.out j hj]]
    rw [this]
  · exact below_cells HB5.out (by omega) _ _
end Go.Proofs.YtjhkjbdpmianfaaDoor.iron

/-
  The program's search as it takes its starts from a stack, in plain words.
-/
namespace Go.Proofs.YtjhkjbdpmianfaaDoor.iron
open Go Go.RowKit sl stk errs row ins

abbrev visit (x : Iro) (a : Nat) (ps : List Pie) (os : List Int) (S : SeS) : SeS := dfsP x a ps (ps.length - os.length) os S
/-- all that is open, the last one first -/
def drain (x : Iro) (a : Nat) (ps : List Pie) (open_ : List (List Int)) (S : SeS) : SeS := open_.foldr (visit x a ps) S
theorem drain_nil (x : Iro) (a : Nat) (ps : List Pie) (S : SeS) : drain x a ps [] S = S := rfl
theorem drain_snoc (x : Iro) (a : Nat) (ps : List Pie) (L : List (List Int)) (os : List Int) (S : SeS) : drain x a ps (L ++ [os]) S = drain x a ps L (visit x a ps os S) := by simp [drain]
theorem drain_append (x : Iro) (a : Nat) (ps : List Pie) (L M : List (List Int)) (S : SeS) : drain x a ps (L ++ M) S = drain x a ps L (drain x a ps M S) := by simp [drain]
def nexts (n : Nat) (os : List Int) : List (List Int) := (leftP n os).map fun (k : Nat) => os ++ [(k : Int)]
def prnA (x : Iro) (a : Nat) (ps : List Pie) (S : SeS) (os : List Int) : Bool := prnB S.b (runs x a ps os).sum || prnS x a ps S.seen os
theorem visit_prn {x : Iro} {a : Nat} {ps : List Pie} {S : SeS} {os : List Int} (h : prnA x a ps S os = true) : visit x a ps os S = S := by
  unfold visit
  cases ps.length - os.length with
  | zero => rw [dfsP]; exact if_pos h
  | succ r => rw [dfsP]; exact if_pos h
theorem visit_all {x : Iro} {a : Nat} {ps : List Pie} {S : SeS} {os : List Int} (h : ¬ prnA x a ps S os = true) (hl : os.length = ps.length) : visit x a ps os S = ⟨some (os, (runs x a ps os).sum), putS S.seen os⟩ := by
  unfold visit
  rw [hl, Nat.sub_self, dfsP]
  exact if_neg h
theorem foldl_drain (x : Iro) (a : Nat) (ps : List Pie) (r : Nat) (os : List Int) (hr : os.length + (r + 1) = ps.length) : ∀ (L : List Nat) (S : SeS),
    L.foldl (fun S (k : Nat) => dfsP x a ps r (os ++ [(k : Int)]) S) S = drain x a ps (L.map fun (k : Nat) => os ++ [(k : Int)]).reverse S
  | [], _ => rfl
  | k :: L, S => by
    rw [List.foldl_cons, foldl_drain x a ps r os hr L, List.map_cons, List.reverse_cons, drain_snoc]
    unfold visit
    rw [show ps.length - (os ++ [(k : Int)]).length = r by simp; omega]
theorem visit_more {x : Iro} {a : Nat} {ps : List Pie} {S : SeS} {os : List Int} (h : ¬ prnA x a ps S os = true) (hl : os.length < ps.length) : visit x a ps os S = drain x a ps (nexts ps.length os).reverse ⟨S.b, putS S.seen os⟩ := by
  unfold visit
  obtain ⟨r, hr⟩ : ∃ r, ps.length - os.length = r + 1 := ⟨ps.length - os.length - 1, by omega⟩
  rw [hr, dfsP]
  refine (if_neg h).trans ?_
  exact foldl_drain x a ps r os (by omega) _ _
/-- longer's starts are those of what comes next -/
theorem leftP_succ (n : Nat) (os : List Int) : leftP (n + 1) os = leftP n os ++ (if (n : Int) ∈ os then [] else [n]) := by
  unfold leftP
  rw [List.range_succ, List.filter_append]
  congr 1
  by_cases h : (n : Int) ∈ os
  · rw [if_pos h]; simp [h]
  · rw [if_neg h]; simp [h]
theorem lonK_nexts (x : Iro) (a : Nat) (ps : List Pie) (os : List Int) : ∀ n, lonK x a ps os (runs x a ps os) n = (nexts n os).map fun o => strOf o (runs x a ps o)
  | 0 => rfl
  | n + 1 => by
    rw [lonK, lonK_nexts x a ps os n, nexts, nexts, leftP_succ, List.map_append, List.map_append]
    congr 1
    by_cases h : (n : Int) ∈ os
    · rw [if_pos h, if_pos h]; rfl
    · rw [if_neg h, if_neg h, List.map_cons, List.map_cons, runs_snoc]; rfl
/-- how many starts come at most -/
def wgt (n : Nat) : Nat → Nat
  | 0 => 1
  | r + 1 => 1 + n * wgt n r
def wgts (n : Nat) (L : List (List Int)) : Nat := (L.map fun os => wgt n (n - os.length)).sum
theorem wgts_append (n : Nat) (L M : List (List Int)) : wgts n (L ++ M) = wgts n L + wgts n M := by simp [wgts]
theorem wgt_pos (n r : Nat) : 0 < wgt n r := by cases r <;> simp [wgt] <;> omega
theorem wgts_rev (n : Nat) (L : List (List Int)) : wgts n L.reverse = wgts n L := by
  induction L with
  | nil => rfl
  | cons a L ih => rw [List.reverse_cons, wgts_append, ih]; simp [wgts]; omega
theorem leftP_len (n : Nat) (os : List Int) : (leftP n os).length ≤ n := by
  unfold leftP
  have := List.length_filter_le (fun (k : Nat) => !(decide ((k : Int) ∈ os))) (List.range n)
  rwa [List.length_range] at this
theorem wgts_nexts {n : Nat} {os : List Int} (h : os.length < n) : wgts n (nexts n os) + 1 ≤ wgt n (n - os.length) := by
  obtain ⟨r, hr⟩ : ∃ r, n - os.length = r + 1 := ⟨n - os.length - 1, by omega⟩
  have key : ∀ (L : List Nat), wgts n (L.map fun (k : Nat) => os ++ [(k : Int)]) = L.length * wgt n r := by
    intro L
    induction L with
    | nil => simp [wgts]
    | cons k L ih =>
      have e : wgts n ((k :: L).map fun (k : Nat) => os ++ [(k : Int)]) = wgt n (n - (os ++ [(k : Int)]).length) + wgts n (L.map fun (k : Nat) => os ++ [(k : Int)]) := by simp [wgts]
      rw [e, ih, show n - (os ++ [(k : Int)]).length = r by simp; omega, List.length_cons, Nat.add_mul]
      omega
  unfold nexts
  rw [key, hr, wgt]
  have := Nat.mul_le_mul_right (wgt n r) (leftP_len n os)
  omega
theorem wgt_8 {n : Nat} (h : n ≤ 8) : wgt n n ≤ 19173961 := by
  have key : ∀ n, n < 9 → wgt n n ≤ 19173961 := by decide
  exact key n (by omega)
end Go.Proofs.YtjhkjbdpmianfaaDoor.iron

/-
  Starts turned round: the program's slices.Reverse.
-/
namespace Go.Proofs.YtjhkjbdpmianfaaDoor.iron
open Go Go.RowKit sl stk errs row ins

theorem setList_behind : ∀ (vs A R : List Value) (o : Nat), setList (A ++ R) (A.length + o) vs = A ++ setList R o vs
  | [], _, _, _ => rfl
  | v :: r, A, R, o => by
    rw [setList, setList, List.set_append_right _ _ (by omega), show A.length + o - A.length = o by omega, Nat.add_assoc]
    exact setList_behind r A _ (o + 1)
theorem setList_head : ∀ (B A R : List Value), A.length = B.length → setList (A ++ R) 0 B = B ++ R
  | [], A, R, h => by rw [List.length_eq_zero_iff.1 h]; rfl
  | b :: B, A, R, h => by
    cases A with
    | nil => cases h
    | cons a A =>
      have h1 := setList_behind B [b] (A ++ R) 0
      rw [setList]
      show setList ([b] ++ (A ++ R)) (0 + 1) B = _
      rw [show 0 + 1 = [b].length + 0 from rfl, h1, setList_head B A R (by simpa using h)]
      rfl
theorem setList_str : ∀ (xs : List Str) (k : Nat) (f : Str), k < xs.length → setList (xs.flatMap strC) (k * 12) (strC f) = (xs.set k f).flatMap strC
  | [], k, f, h => by simp at h
  | x :: xs, 0, f, _ => by
    rw [List.flatMap_cons, List.set_cons_zero, List.flatMap_cons, Nat.zero_mul]
    exact setList_head (strC f) (strC x) _ (by simp [strC, lst_len])
  | x :: xs, k + 1, f, h => by
    rw [List.flatMap_cons, List.set_cons_succ, List.flatMap_cons, ← setList_str xs k f (by simpa using h), show (k + 1) * 12 = (strC x).length + k * 12 by rw [show (strC x).length = 12 from lst_len 12 _]; omega]
    exact setList_behind _ _ _ _
/-- turned round so far -/
def RevK (L R : List Str) (i : Nat) : Prop := R.length = L.length ∧ ∀ p, p < L.length → R[p]? = if p < i ∨ L.length - 1 - i < p then L[L.length - 1 - p]? else L[p]?
theorem RevK.zero (L : List Str) : RevK L L 0 := ⟨rfl, fun p hp => by rw [if_neg (by omega)]⟩
theorem RevK.step {L R : List Str} {i : Nat} (h : RevK L R i) (hi : i < L.length - 1 - i) {f g : Str} (hf : R[i]? = some f) (hg : R[L.length - 1 - i]? = some g) : RevK L ((R.set i g).set (L.length - 1 - i) f) (i + 1) := by
  have h1 := h.2 i (by omega)
  have h2 := h.2 (L.length - 1 - i) (by omega)
  rw [if_neg (by omega)] at h1 h2
  rw [hf] at h1
  rw [hg] at h2
  refine ⟨by simp [h.1], fun p hp => ?_⟩
  have hl := h.1
  by_cases e1 : p = L.length - 1 - i
  · subst e1
    rw [List.getElem?_set_self (by simp; omega), if_pos (by omega), show L.length - 1 - (L.length - 1 - i) = i by omega]
    exact h1
  · rw [List.getElem?_set_ne (Ne.symm e1)]
    by_cases e2 : p = i
    · subst e2
      rw [List.getElem?_set_self (by omega), if_pos (by omega)]
      exact h2
    · rw [List.getElem?_set_ne (Ne.symm e2), h.2 p hp]
      by_cases e3 : p < i ∨ L.length - 1 - i < p
      · rw [if_pos e3, if_pos (by omega)]
      · rw [if_neg e3, if_neg (by omega)]
theorem RevK.full {L R : List Str} {i : Nat} (h : RevK L R i) (hi : ¬ (i : Int) < (L.length : Int) - 1 - i) : R = L.reverse := by
  refine List.ext_getElem? fun p => ?_
  rcases Nat.lt_or_ge p L.length with hp | hp
  · rw [h.2 p hp, List.getElem?_reverse hp]
    split
    · rfl
    · rw [show L.length - 1 - p = p by omega]
  · rw [List.getElem?_eq_none (by rw [h.1]; exact hp), List.getElem?_eq_none (by simpa using hp)]
abbrev TT (_ : World) : Prop := True
set_option maxRecDepth 100000 in
set_option maxHeartbeats 4000000 in
theorem reverse_any (b g n c : Nat) (L : List Str) (en : n = L.length) (hn : n ≤ 1000) (w : World) (hP : w.ownsRow b 61 12 (.slice (some ⟨g, 0, none⟩) n c) n (L.flatMap strC)) :
    Calls Tryd.prog 46 #[.slice (some ⟨g, 0, none⟩) n c] w fun o w' => o = .returned (.tuple #[]) ∧ w'.ownsRow b 61 12 (.slice (some ⟨g, 0, none⟩) n c) n (L.reverse.flatMap strC) ∧ Below b w w' := by
  have En := Lib.hid en
  have HP := Lib.hid hP
  clear en hP
  go_enter Tryd.func46, Tryd.ntmps46
  go_wp2_with fail
  go_loopw [2, 3] (fun vi vj wr => ∃ (i : Nat) (R : List Str), i ≤ n ∧ vi = .int .i64 i ∧ vj = .int .i64 ((n : Int) - 1 - i) ∧ RevK L R i ∧ wr.ownsRow b 61 12 (.slice (some ⟨g, 0, none⟩) n c) n (R.flatMap strC) ∧ Below b w wr) (fun vi _ _ => n - (intOf vi).toNat)
  case atStart => exact ⟨0, L, by omega, rfl, by first | rfl | simp, RevK.zero L, HP.out, Below.refl _ _⟩
  case round =>
    clear HP
    obtain ⟨i, R, hi, rfl, rfl, hR, hP, hB⟩ := hrel
    have HR := Lib.hid hR
    have HP := Lib.hid hP
    have HB := Lib.hid hB
    clear hR hP hB
    by_cases hlt : (i : Int) < (n : Int) - 1 - i
    · obtain ⟨j, hj⟩ : ∃ j : Nat, j = n - 1 - i := ⟨_, rfl⟩
      have hji : (n : Int) - 1 - i = (j : Int) := by omega
      rw [hji] at hlt ⊢
      have HLT := Lib.hid hlt
      obtain ⟨fi, hfi⟩ : ∃ f, R[i]? = some f := ⟨R[i]'(by have := HR.out.1; have := En.out; omega), List.getElem?_eq_getElem _⟩
      obtain ⟨fj, hfj⟩ : ∃ f, R[j]? = some f := ⟨R[j]'(by have := HR.out.1; have := En.out; omega), List.getElem?_eq_getElem _⟩
      have HFI := Lib.hid hfi
      have HFJ := Lib.hid hfj
      have HJ := Lib.hid hj
      have hjn : j < n := by omega
      have x1 : (0 : Int) ≤ (i : Int) := by omega
      have x2 : (i : Int) < (n : Int) := by omega
      have x3 : (0 : Int) ≤ (j : Int) := by omega
      have x4 : (j : Int) < (n : Int) := by omega
      clear hfi hfj hj hji
      go_wp2_with fail
      refine wp_region_held_drew (S := TT) (by kernel_rfl) trivial (fun hHeld => ?_)
      have HP1 := Lib.hid (owns_next HP.out (Below.refl _ _).drew)
      have HB1 := Lib.hid (HB.out.trans (Below.refl b wr).drew)
      generalize wr.drew = v0 at HP1 HB1 hHeld ⊢
      have Ai := Lib.hid (row_at HP1.out HFI.out)
      have Aj := Lib.hid (row_at HP1.out HFJ.out)
      refine wpAnyH_take (i := 0) (v := ?_) rfl (by kernel_rfl) (by kernel_rfl) (by kernel_rfl) (fun _ _ _ h => h) (Or.inl ⟨by rfl, ?_⟩) (by assumption) ?_
      rotate_left
      · intro u hSu
        (try dsimp only at hSu)
        first | (go_simp; done) | (go_simp; with_reducible rfl)
      try simp only [Act.put, List.getElem_toArray, List.getElem_cons_zero, List.getElem_cons_succ, List.setIfInBounds_toArray, List.set_cons_zero, List.set_cons_succ]
      refine wpAnyH_take (i := 1) (v := ?_) rfl (by kernel_rfl) (by kernel_rfl) (by kernel_rfl) (fun _ _ _ h => h) (Or.inl ⟨by rfl, ?_⟩) (by assumption) ?_
      rotate_left
      · intro u hSu
        (try dsimp only at hSu)
        first | (go_simp; done) | (go_simp; with_reducible rfl)
      try simp only [Act.put, List.getElem_toArray, List.getElem_cons_zero, List.getElem_cons_succ, List.setIfInBounds_toArray, List.set_cons_zero, List.set_cons_succ]
      refine wpAnyH_take (i := 2) (v := ?_) rfl (by kernel_rfl) (by kernel_rfl) (by kernel_rfl) (fun _ _ _ h => h) (Or.inl ⟨by rfl, ?_⟩) (by assumption) ?_
      rotate_left
      · intro u hSu
        (try dsimp only at hSu)
        first | (go_simp; done) | (go_simp; with_reducible rfl)
      try simp only [Act.put, List.getElem_toArray, List.getElem_cons_zero, List.getElem_cons_succ, List.setIfInBounds_toArray, List.set_cons_zero, List.set_cons_succ]
      refine wpAnyH_take (i := 3) (v := ?_) rfl (by kernel_rfl) (by kernel_rfl) (by kernel_rfl) (fun _ _ _ h => h) (Or.inl ⟨by rfl, ?_⟩) (by assumption) ?_
      rotate_left
      · intro u hSu
        (try dsimp only at hSu)
        first | (go_simp; done) | (go_simp; with_reducible rfl)
      try simp only [Act.put, List.getElem_toArray, List.getElem_cons_zero, List.getElem_cons_succ, List.setIfInBounds_toArray, List.set_cons_zero, List.set_cons_succ]
      refine wpAnyH_take (i := 4) (v := ?_) rfl (by kernel_rfl) (by kernel_rfl) (by kernel_rfl) (fun _ _ _ h => h) (Or.inl ⟨by rfl, ?_⟩) (by assumption) ?_
      rotate_left
      · intro u hSu
        (try dsimp only at hSu)
        first | (go_simp; done) | (go_simp; with_reducible rfl)
      try simp only [Act.put, List.getElem_toArray, List.getElem_cons_zero, List.getElem_cons_succ, List.setIfInBounds_toArray, List.set_cons_zero, List.set_cons_succ]
      refine wpAnyH_take (i := 5) (v := ?_) rfl (by kernel_rfl) (by kernel_rfl) (by kernel_rfl) (fun _ _ _ h => h) (Or.inl ⟨by rfl, ?_⟩) (by assumption) ?_
      rotate_left
      · intro u hSu
        (try dsimp only at hSu)
        first | (go_simp; done) | (go_simp; with_reducible rfl)
      try simp only [Act.put, List.getElem_toArray, List.getElem_cons_zero, List.getElem_cons_succ, List.setIfInBounds_toArray, List.set_cons_zero, List.set_cons_succ]
      refine wpAnyH_take (i := 6) (v := ?_) rfl (by kernel_rfl) (by kernel_rfl) (by kernel_rfl) (fun _ _ _ h => h) (Or.inl ⟨by rfl, ?_⟩) (by assumption) ?_
      rotate_left
      · intro u hSu
        (try dsimp only at hSu)
        first | (go_simp; done) | (go_simp; with_reducible rfl)
      try simp only [Act.put, List.getElem_toArray, List.getElem_cons_zero, List.getElem_cons_succ, List.setIfInBounds_toArray, List.set_cons_zero, List.set_cons_succ]
      refine wpAnyH_take (i := 8) (v := ?_) rfl (by kernel_rfl) (by kernel_rfl) (by kernel_rfl) (fun _ _ _ h => h) (Or.inl ⟨by rfl, ?_⟩) (by assumption) ?_
      rotate_left
      · intro u hSu
        (try dsimp only at hSu)
        first | (go_simp; done) | (go_simp; with_reducible rfl)
      try simp only [Act.put, List.getElem_toArray, List.getElem_cons_zero, List.getElem_cons_succ, List.setIfInBounds_toArray, List.set_cons_zero, List.set_cons_succ]
      refine wpAnyH_take (i := 9) (v := ?_) rfl (by kernel_rfl) (by kernel_rfl) (by kernel_rfl) (fun _ _ _ h => h) (Or.inl ⟨by rfl, ?_⟩) (by assumption) ?_
      rotate_left
      · intro u hSu
        (try dsimp only at hSu)
        first | (go_simp; done) | (go_simp; with_reducible rfl)
      try simp only [Act.put, List.getElem_toArray, List.getElem_cons_zero, List.getElem_cons_succ, List.setIfInBounds_toArray, List.set_cons_zero, List.set_cons_succ]
      refine wpAnyH_take (i := 10) (v := ?_) rfl (by kernel_rfl) (by kernel_rfl) (by kernel_rfl) (fun _ _ _ h => h) (Or.inl ⟨by rfl, ?_⟩) (by assumption) ?_
      rotate_left
      · intro u hSu
        (try dsimp only at hSu)
        first | (go_simp; done) | (go_simp; with_reducible rfl)
      try simp only [Act.put, List.getElem_toArray, List.getElem_cons_zero, List.getElem_cons_succ, List.setIfInBounds_toArray, List.set_cons_zero, List.set_cons_succ]
      refine wpAnyH_ready (rs := [7, 11]) (by kernel_rfl) (by simp) ?_
      refine AllReadyH.cons rfl (fun K hK => ?_) (AllReadyH.cons rfl (fun K hK => ?_) AllReadyH.nil)
      · refine wp_load_mid 61 (.tmp 20) rfl g (j * 12) rfl (lst 12 (cellR fj)) _ Aj.out.range Tryd.underlying61 rfl (by rw [infoR, lst_len]) ?_
        refine hK.out _ _ (trivial) (fun hHeld2 => ?_)
        clear hK K hHeld
        have hHeld := hHeld2
        clear hHeld2
        try simp only [Act.put, List.getElem_toArray, List.getElem_cons_zero, List.getElem_cons_succ, List.setIfInBounds_toArray, List.set_cons_zero, List.set_cons_succ]
        refine wpAnyH_ready (rs := [11]) (by kernel_rfl) (by simp) ?_
        refine AllReadyH.cons rfl (fun K hK => ?_) AllReadyH.nil
        refine wp_load_mid 61 (.tmp 24) rfl g (i * 12) rfl (lst 12 (cellR fi)) _ Ai.out.range Tryd.underlying61 rfl (by rw [infoR, lst_len]) ?_
        refine hK.out _ _ (trivial) (fun hHeld2 => ?_)
        clear hK K hHeld
        have hHeld := hHeld2
        clear hHeld2
        try simp only [Act.put, List.getElem_toArray, List.getElem_cons_zero, List.getElem_cons_succ, List.setIfInBounds_toArray, List.set_cons_zero, List.set_cons_succ]
        refine wpAnyH_take (i := 12) (v := ?_) rfl (by kernel_rfl) (by kernel_rfl) (by kernel_rfl) (fun _ _ _ h => h) (Or.inl ⟨by rfl, ?_⟩) (by assumption) ?_
        rotate_left
        · intro u hSu
          (try dsimp only at hSu)
          first | (go_simp; done) | (go_simp; with_reducible rfl)
        try simp only [Act.put, List.getElem_toArray, List.getElem_cons_zero, List.getElem_cons_succ, List.setIfInBounds_toArray, List.set_cons_zero, List.set_cons_succ]
        refine wpAnyH_ready (rs := [13]) (by kernel_rfl) (by simp) ?_
        refine AllReadyH.cons rfl (fun K hK => ?_) AllReadyH.nil
        refine wp_store_mid 61 (.tmp 26) (.tmp 21) rfl g (i * 12) (strCs fj) rfl rfl (by rw [strCs_size]; exact str_there HP1.out (by omega)) (by rw [infoR, strCs_size]) (strCs_one _) ?_
        refine hK.out _ _ (trivial) (fun hHeld2 => ?_)
        clear hK K hHeld
        have hHeld := hHeld2
        clear hHeld2
        try simp only [Act.put, List.getElem_toArray, List.getElem_cons_zero, List.getElem_cons_succ, List.setIfInBounds_toArray, List.set_cons_zero, List.set_cons_succ]
        have hgb := (HP1.out.lt g rfl).1
        have HP2 : Hid ((v0.setCells g (i * 12) (strC fj)).ownsRow b 61 12 (.slice (some ⟨g, 0, none⟩) n c) n ((R.set i fj).flatMap strC)) := Lib.hid (by rw [← setList_str R i fj (by have := HR.out.1; have := En.out; omega)]; exact (owns_cells HP1.out).1)
        have HB2 := Lib.hid (below_cells HB1.out hgb (strC fj) (i * 12))
        rw [show v0.setCells g (i * 12) (strCs fj).toList = v0.setCells g (i * 12) (strC fj) from rfl]
        generalize v0.setCells g (i * 12) (strC fj) = v1 at HP2 HB2 ⊢
        refine wpAnyH_take (i := 14) (v := ?_) rfl (by kernel_rfl) (by kernel_rfl) (by kernel_rfl) (fun _ _ _ h => h) (Or.inl ⟨by rfl, ?_⟩) (by assumption) ?_
        rotate_left
        · intro u hSu
          (try dsimp only at hSu)
          first | (go_simp; done) | (go_simp; with_reducible rfl)
        try simp only [Act.put, List.getElem_toArray, List.getElem_cons_zero, List.getElem_cons_succ, List.setIfInBounds_toArray, List.set_cons_zero, List.set_cons_succ]
        refine wpAnyH_ready (rs := [15]) (by kernel_rfl) (by simp) ?_
        refine AllReadyH.cons rfl (fun K hK => ?_) AllReadyH.nil
        refine wp_store_mid 61 (.tmp 27) (.tmp 25) rfl g (j * 12) (strCs fi) rfl rfl (by rw [strCs_size]; exact str_there HP2.out (by omega)) (by rw [infoR, strCs_size]) (strCs_one _) ?_
        refine hK.out _ _ (trivial) (fun hHeld2 => ?_)
        clear hK K hHeld
        have hHeld := hHeld2
        clear hHeld2
        try simp only [Act.put, List.getElem_toArray, List.getElem_cons_zero, List.getElem_cons_succ, List.setIfInBounds_toArray, List.set_cons_zero, List.set_cons_succ]
        have HP3 : Hid ((v1.setCells g (j * 12) (strC fi)).ownsRow b 61 12 (.slice (some ⟨g, 0, none⟩) n c) n (((R.set i fj).set j fi).flatMap strC)) := Lib.hid (by rw [← setList_str (R.set i fj) j fi (by have := HR.out.1; have := En.out; simp; omega)]; exact (owns_cells HP2.out).1)
        have HB3 := Lib.hid (below_cells HB2.out hgb (strC fi) (j * 12))
        rw [show v1.setCells g (j * 12) (strCs fi).toList = v1.setCells g (j * 12) (strC fi) from rfl]
        generalize v1.setCells g (j * 12) (strC fi) = v2 at HP3 HB3 ⊢
        refine wpAnyH_done (by kernel_rfl) ?_ _
        clear hHeld HP1 HP2 HB1 HB2 Ai Aj
        have hst : RevK L ((R.set i fj).set j fi) (i + 1) := by
          have hjl : j = L.length - 1 - i := by rw [← En.out]; exact HJ.out
          have h2 := HFJ.out
          rw [hjl] at h2 ⊢
          exact HR.out.step (by have := En.out; have := HJ.out; have := HLT.out; omega) HFI.out h2
        have HST := Lib.hid hst
        have hw : IntKind.i64.wrap ((j : Int) - 1) = (j : Int) - 1 := IntWalk.i64_in _ (by omega)
        have hw2 : (j : Int) - 1 = (n : Int) - 1 - ((i : Int) + 1) := by have := HJ.out; omega
        have HW := Lib.hid hw2
        clear hst hw2
        go_wp2_with fail
        go_roundw
        case rel => exact ⟨i + 1, _, by omega, by go_num, by rw [HW.out]; first | rfl | go_num, HST.out, HP3.out, HB3.out⟩
        case measure => simp [intOf]; omega
      · refine wp_load_mid 61 (.tmp 24) rfl g (i * 12) rfl (lst 12 (cellR fi)) _ Ai.out.range Tryd.underlying61 rfl (by rw [infoR, lst_len]) ?_
        refine hK.out _ _ (trivial) (fun hHeld2 => ?_)
        clear hK K hHeld
        have hHeld := hHeld2
        clear hHeld2
        try simp only [Act.put, List.getElem_toArray, List.getElem_cons_zero, List.getElem_cons_succ, List.setIfInBounds_toArray, List.set_cons_zero, List.set_cons_succ]
        refine wpAnyH_ready (rs := [7]) (by kernel_rfl) (by simp) ?_
        refine AllReadyH.cons rfl (fun K hK => ?_) AllReadyH.nil
        refine wp_load_mid 61 (.tmp 20) rfl g (j * 12) rfl (lst 12 (cellR fj)) _ Aj.out.range Tryd.underlying61 rfl (by rw [infoR, lst_len]) ?_
        refine hK.out _ _ (trivial) (fun hHeld2 => ?_)
        clear hK K hHeld
        have hHeld := hHeld2
        clear hHeld2
        try simp only [Act.put, List.getElem_toArray, List.getElem_cons_zero, List.getElem_cons_succ, List.setIfInBounds_toArray, List.set_cons_zero, List.set_cons_succ]
        refine wpAnyH_take (i := 12) (v := ?_) rfl (by kernel_rfl) (by kernel_rfl) (by kernel_rfl) (fun _ _ _ h => h) (Or.inl ⟨by rfl, ?_⟩) (by assumption) ?_
        rotate_left
        · intro u hSu
          (try dsimp only at hSu)
          first | (go_simp; done) | (go_simp; with_reducible rfl)
        try simp only [Act.put, List.getElem_toArray, List.getElem_cons_zero, List.getElem_cons_succ, List.setIfInBounds_toArray, List.set_cons_zero, List.set_cons_succ]
        refine wpAnyH_ready (rs := [13]) (by kernel_rfl) (by simp) ?_
        refine AllReadyH.cons rfl (fun K hK => ?_) AllReadyH.nil
        refine wp_store_mid 61 (.tmp 26) (.tmp 21) rfl g (i * 12) (strCs fj) rfl rfl (by rw [strCs_size]; exact str_there HP1.out (by omega)) (by rw [infoR, strCs_size]) (strCs_one _) ?_
        refine hK.out _ _ (trivial) (fun hHeld2 => ?_)
        clear hK K hHeld
        have hHeld := hHeld2
        clear hHeld2
        try simp only [Act.put, List.getElem_toArray, List.getElem_cons_zero, List.getElem_cons_succ, List.setIfInBounds_toArray, List.set_cons_zero, List.set_cons_succ]
        have hgb := (HP1.out.lt g rfl).1
        have HP2 : Hid ((v0.setCells g (i * 12) (strC fj)).ownsRow b 61 12 (.slice (some ⟨g, 0, none⟩) n c) n ((R.set i fj).flatMap strC)) := Lib.hid (by rw [← setList_str R i fj (by have := HR.out.1; have := En.out; omega)]; exact (owns_cells HP1.out).1)
        have HB2 := Lib.hid (below_cells HB1.out hgb (strC fj) (i * 12))
        rw [show v0.setCells g (i * 12) (strCs fj).toList = v0.setCells g (i * 12) (strC fj) from rfl]
        generalize v0.setCells g (i * 12) (strC fj) = v1 at HP2 HB2 ⊢
        refine wpAnyH_take (i := 14) (v := ?_) rfl (by kernel_rfl) (by kernel_rfl) (by kernel_rfl) (fun _ _ _ h => h) (Or.inl ⟨by rfl, ?_⟩) (by assumption) ?_
        rotate_left
        · intro u hSu
          (try dsimp only at hSu)
          first | (go_simp; done) | (go_simp; with_reducible rfl)
        try simp only [Act.put, List.getElem_toArray, List.getElem_cons_zero, List.getElem_cons_succ, List.setIfInBounds_toArray, List.set_cons_zero, List.set_cons_succ]
        refine wpAnyH_ready (rs := [15]) (by kernel_rfl) (by simp) ?_
        refine AllReadyH.cons rfl (fun K hK => ?_) AllReadyH.nil
        refine wp_store_mid 61 (.tmp 27) (.tmp 25) rfl g (j * 12) (strCs fi) rfl rfl (by rw [strCs_size]; exact str_there HP2.out (by omega)) (by rw [infoR, strCs_size]) (strCs_one _) ?_
        refine hK.out _ _ (trivial) (fun hHeld2 => ?_)
        clear hK K hHeld
        have hHeld := hHeld2
        clear hHeld2
        try simp only [Act.put, List.getElem_toArray, List.getElem_cons_zero, List.getElem_cons_succ, List.setIfInBounds_toArray, List.set_cons_zero, List.set_cons_succ]
        have HP3 : Hid ((v1.setCells g (j * 12) (strC fi)).ownsRow b 61 12 (.slice (some ⟨g, 0, none⟩) n c) n (((R.set i fj).set j fi).flatMap strC)) := Lib.hid (by rw [← setList_str (R.set i fj) j fi (by have := HR.out.1; have := En.out; simp; omega)]; exact (owns_cells HP2.out).1)
        have HB3 := Lib.hid (below_cells HB2.out hgb (strC fi) (j * 12))
        rw [show v1.setCells g (j * 12) (strCs fi).toList = v1.setCells g (j * 12) (strC fi) from rfl]
        generalize v1.setCells g (j * 12) (strC fi) = v2 at HP3 HB3 ⊢
        refine wpAnyH_done (by kernel_rfl) ?_ _
        clear hHeld HP1 HP2 HB1 HB2 Ai Aj
        have hst : RevK L ((R.set i fj).set j fi) (i + 1) := by
          have hjl : j = L.length - 1 - i := by rw [← En.out]; exact HJ.out
          have h2 := HFJ.out
          rw [hjl] at h2 ⊢
          exact HR.out.step (by have := En.out; have := HJ.out; have := HLT.out; omega) HFI.out h2
        have HST := Lib.hid hst
        have hw : IntKind.i64.wrap ((j : Int) - 1) = (j : Int) - 1 := IntWalk.i64_in _ (by omega)
        have hw2 : (j : Int) - 1 = (n : Int) - 1 - ((i : Int) + 1) := by have := HJ.out; omega
        have HW := Lib.hid hw2
        clear hst hw2
        go_wp2_with fail
        go_roundw
        case rel => exact ⟨i + 1, _, by omega, by go_num, by rw [HW.out]; first | rfl | go_num, HST.out, HP3.out, HB3.out⟩
        case measure => simp [intOf]; omega
    · have HLT : Hid (¬ (i : Int) < (n : Int) - 1 - i) := Lib.hid hlt
      go_wp2_with fail
      go_end0
      exact ⟨rfl, by rw [← HR.out.full (by rw [← En.out]; have := HLT.out; omega)]; exact HP.out, HB.out⟩
end Go.Proofs.YtjhkjbdpmianfaaDoor.iron

/-
  What the model's search pays for a piece.
-/
namespace Go.Proofs.YtjhkjbdpmianfaaDoor.iron
open Go Go.RowKit sl stk errs row ins

def cst (a : Nat) (p : Pie) (b t : Int) : Int := match a with | 0 => t - b | 1 => if p.due < t then 1 else 0 | 2 => late p t | _ => t
theorem cst_mea {a : Nat} {s : Sta} (h : s.Mon a) (p : Pie) (t : Int) : s.sum + cst a p s.at_ t = mea a s.sum p t := by
  unfold cst mea
  split
  · have := h.e rfl
    show s.sum + (t - s.at_) = t
    omega
  · show s.sum + (if p.due < t then 1 else 0) = s.sum + _
    unfold late
    split <;> split <;> split <;> omega
  · rfl
  · split
    · rename_i h0 _ _; exact absurd rfl h0
    · rename_i h1 _; exact absurd rfl h1
    · rename_i h2; exact absurd rfl h2
    · rfl
set_option maxRecDepth 100000 in
set_option maxHeartbeats 2000000 in
theorem cost_0 (W : Nat) (p : Pie) (hp : pieB p = true) (b t : Int) (hb : 0 ≤ b) (hbt : b ≤ t) (ht : t ≤ 10000) (z : Int) (hz : cst 0 p b t = z) (w : World) (hW : W < w.heap.size) (h3 : w.cell? ⟨W, 3, none⟩ = some (.int .i64 0)) :
    Calls Tryd.prog 50 #[.pointer (some ⟨W, 0, none⟩), p.v, .int .i64 b, .int .i64 t] w fun o w' => o = .returned (.int .i64 z) ∧ Below w.heap.size w w' := by
  obtain ⟨_, _, y4, y5⟩ := pieB_iff.1 hp
  obtain ⟨u, hu⟩ : ∃ u, u = w.alloc (.cells #[.int .i8 p.lev, .int .i8 p.mins, .int .i16 p.due] 42) := ⟨_, rfl⟩
  have hb1 : Below w.heap.size w u := by rw [hu]; exact (Below.refl _ _).alloc (Nat.le_refl _) _
  have c3 : u.cell? ⟨W, 3, none⟩ = some (.int .i64 0) := (hb1.cell (p := ⟨W, 3, none⟩) hW).trans h3
  have d2 : u.cell? ⟨w.heap.size, 2, none⟩ = some (.int .i16 p.due) := by rw [hu]; exact cell_of_row _ _ _ _ _ _ (heap_alloc_new w _)
  have HB := Lib.hid hb1
  have HU := Lib.hid hu
  have HZ := Lib.hid hz
  clear hu hb1 h3 hz
  go_enter Tryd.func50, Tryd.ntmps50
  go_wp2_with (first | (rw [← HU.out]) | fail)
  go_ret
  exact ⟨by rw [← HZ.out]; rfl, HB.out⟩

set_option maxRecDepth 100000 in
set_option maxHeartbeats 2000000 in
theorem cost_1 (W : Nat) (p : Pie) (hp : pieB p = true) (b t : Int) (hb : 0 ≤ b) (hbt : b ≤ t) (ht : t ≤ 10000) (z : Int) (hz : cst 1 p b t = z) (w : World) (hW : W < w.heap.size) (h3 : w.cell? ⟨W, 3, none⟩ = some (.int .i64 1)) :
    Calls Tryd.prog 50 #[.pointer (some ⟨W, 0, none⟩), p.v, .int .i64 b, .int .i64 t] w fun o w' => o = .returned (.int .i64 z) ∧ Below w.heap.size w w' := by
  obtain ⟨_, _, y4, y5⟩ := pieB_iff.1 hp
  obtain ⟨u, hu⟩ : ∃ u, u = w.alloc (.cells #[.int .i8 p.lev, .int .i8 p.mins, .int .i16 p.due] 42) := ⟨_, rfl⟩
  have hb1 : Below w.heap.size w u := by rw [hu]; exact (Below.refl _ _).alloc (Nat.le_refl _) _
  have c3 : u.cell? ⟨W, 3, none⟩ = some (.int .i64 1) := (hb1.cell (p := ⟨W, 3, none⟩) hW).trans h3
  have d2 : u.cell? ⟨w.heap.size, 2, none⟩ = some (.int .i16 p.due) := by rw [hu]; exact cell_of_row _ _ _ _ _ _ (heap_alloc_new w _)
  have HB := Lib.hid hb1
  have HU := Lib.hid hu
  have HZ := Lib.hid hz
  clear hu hb1 h3 hz
  go_enter Tryd.func50, Tryd.ntmps50
  go_wp2_with (first | (rw [← HU.out]) | fail)
  · rename_i hlt
    have HQ : Hid (cst 1 p b t = 1) := Lib.hid (if_pos hlt)
    rw [← HZ.out, HQ.out]
    go_ret
    exact ⟨rfl, HB.out⟩
  · rename_i hlt
    have HQ : Hid (cst 1 p b t = 0) := Lib.hid (if_neg (by omega))
    rw [← HZ.out, HQ.out]
    go_ret
    exact ⟨rfl, HB.out⟩

set_option maxRecDepth 100000 in
set_option maxHeartbeats 2000000 in
theorem cost_2 (W : Nat) (p : Pie) (hp : pieB p = true) (b t : Int) (hb : 0 ≤ b) (hbt : b ≤ t) (ht : t ≤ 10000) (z : Int) (hz : cst 2 p b t = z) (w : World) (hW : W < w.heap.size) (h3 : w.cell? ⟨W, 3, none⟩ = some (.int .i64 2)) :
    Calls Tryd.prog 50 #[.pointer (some ⟨W, 0, none⟩), p.v, .int .i64 b, .int .i64 t] w fun o w' => o = .returned (.int .i64 z) ∧ Below w.heap.size w w' := by
  obtain ⟨_, _, y4, y5⟩ := pieB_iff.1 hp
  obtain ⟨u, hu⟩ : ∃ u, u = w.alloc (.cells #[.int .i8 p.lev, .int .i8 p.mins, .int .i16 p.due] 42) := ⟨_, rfl⟩
  have hb1 : Below w.heap.size w u := by rw [hu]; exact (Below.refl _ _).alloc (Nat.le_refl _) _
  have c3 : u.cell? ⟨W, 3, none⟩ = some (.int .i64 2) := (hb1.cell (p := ⟨W, 3, none⟩) hW).trans h3
  have d2 : u.cell? ⟨w.heap.size, 2, none⟩ = some (.int .i16 p.due) := by rw [hu]; exact cell_of_row _ _ _ _ _ _ (heap_alloc_new w _)
  have HB := Lib.hid hb1
  have HU := Lib.hid hu
  have HZ := Lib.hid hz
  clear hu hb1 h3 hz
  go_enter Tryd.func50, Tryd.ntmps50
  go_wp2_with (first | (rw [← HU.out]) | fail)
  have hq := l00Max_any 0 (t - p.due) u
  rw [show (if t - p.due < 0 then 0 else t - p.due) = z from HZ.out] at hq
  refine hq.mono ?_
  rintro o w1 ⟨rfl, rfl⟩
  go_wp2_with fail
  go_ret
  exact ⟨rfl, HB.out⟩

set_option maxRecDepth 100000 in
set_option maxHeartbeats 2000000 in
theorem cost_3 (W : Nat) (p : Pie) (hp : pieB p = true) (b t : Int) (hb : 0 ≤ b) (hbt : b ≤ t) (ht : t ≤ 10000) (z : Int) (hz : cst 3 p b t = z) (w : World) (hW : W < w.heap.size) (h3 : w.cell? ⟨W, 3, none⟩ = some (.int .i64 3)) :
    Calls Tryd.prog 50 #[.pointer (some ⟨W, 0, none⟩), p.v, .int .i64 b, .int .i64 t] w fun o w' => o = .returned (.int .i64 z) ∧ Below w.heap.size w w' := by
  obtain ⟨_, _, y4, y5⟩ := pieB_iff.1 hp
  obtain ⟨u, hu⟩ : ∃ u, u = w.alloc (.cells #[.int .i8 p.lev, .int .i8 p.mins, .int .i16 p.due] 42) := ⟨_, rfl⟩
  have hb1 : Below w.heap.size w u := by rw [hu]; exact (Below.refl _ _).alloc (Nat.le_refl _) _
  have c3 : u.cell? ⟨W, 3, none⟩ = some (.int .i64 3) := (hb1.cell (p := ⟨W, 3, none⟩) hW).trans h3
  have d2 : u.cell? ⟨w.heap.size, 2, none⟩ = some (.int .i16 p.due) := by rw [hu]; exact cell_of_row _ _ _ _ _ _ (heap_alloc_new w _)
  have HB := Lib.hid hb1
  have HU := Lib.hid hu
  have HZ := Lib.hid hz
  clear hu hb1 h3 hz
  go_enter Tryd.func50, Tryd.ntmps50
  go_wp2_with (first | (rw [← HU.out]) | fail)
  go_ret
  exact ⟨by rw [← HZ.out]; rfl, HB.out⟩

end Go.Proofs.YtjhkjbdpmianfaaDoor.iron
