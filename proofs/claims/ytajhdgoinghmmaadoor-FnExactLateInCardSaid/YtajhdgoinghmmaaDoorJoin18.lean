/-
  Several texts of this proof, joined.
-/
import Derived.Test.YtajhdgoinghmmaaDoorJoin17
import Derived.Laws.EntriesVeiled
import Derived.Test.YtajhdgoinghmmaaDoorJoin15
import Derived.Test.YtajhdgoinghmmaaDoorJoin14
/-
  What the program irons: newIroning, for each measure.
-/
namespace Go.Proofs.YtajhdgoinghmmaaDoor.iron
open Go Go.RowKit Go.Maps sl stk errs row

theorem infoG : (Tryd.prog.info? 89).map (·.size) = some 4 := by kernel_rfl
theorem zeroGi : (Tryd.prog.info? 89).map (fun i => (i.zero, i.size)) = some (some (.agg #[.int .i8 0, .int .i8 0, .slice none 0 0, .nilFunc]), 4) := by kernel_rfl
abbrev gCs (x : Iro) (A : Option Addr) (n c : Nat) (fm : Value) (j : Nat) : Value := (#[.int .i8 x.up, .int .i8 x.down, .slice A n c, fm] : Array Value)[j]?.getD undef
abbrev NH (x : Iro) (w : World) (u : World) : Prop := u.cell? ⟨w.heap.size, 0, none⟩ = some (.int .i8 x.up) ∧ u.cell? ⟨w.heap.size, 1, none⟩ = some (.int .i8 x.down)
/-- the iron, and the result's place -/
structure NS (x : Iro) (cf : Nat → Value) (w u : World) : Prop where
  c0 : u.cell? ⟨w.heap.size, 0, none⟩ = some (.int .i8 x.up)
  c1 : u.cell? ⟨w.heap.size, 1, none⟩ = some (.int .i8 x.down)
  r : RowOwn u (w.heap.size + 1) 0 4 cf
  b : Below w.heap.size w u
theorem NS.next {x : Iro} {cf : Nat → Value} {w u v : World} (h : NS x cf w u) (hb : Below u.heap.size u v) : NS x cf w v := by
  have hz := h.r.lt
  exact ⟨(hb.cell (p := ⟨_, 0, none⟩) (by show w.heap.size < _; omega)).trans h.c0, (hb.cell (p := ⟨_, 1, none⟩) (by show w.heap.size < _; omega)).trans h.c1, h.r.next hb, h.b.trans (hb.mono (by omega))⟩
def zg (j : Nat) : Value := match j with | 0 => .int .i8 0 | 1 => .int .i8 0 | 2 => .slice none 0 0 | _ => .nilFunc
theorem NS.new (x : Iro) (w : World) (T U : TypeId) : NS x zg w ((w.alloc (.cells #[.int .i8 x.up, .int .i8 x.down] T)).alloc (.cells #[.int .i8 0, .int .i8 0, .slice none 0 0, .nilFunc] U)) := by
  have e1 : (w.alloc (.cells #[.int .i8 x.up, .int .i8 x.down] T)).heap.size = w.heap.size + 1 := by simp
  have h := RowOwn.new (w.alloc (.cells #[.int .i8 x.up, .int .i8 x.down] T)) 4 zg U
  rw [e1] at h
  have h1 : ∀ i, ((w.alloc (.cells #[.int .i8 x.up, .int .i8 x.down] T)).alloc (.cells #[.int .i8 0, .int .i8 0, .slice none 0 0, .nilFunc] U)).cell? ⟨w.heap.size, i, none⟩ = (#[.int .i8 x.up, .int .i8 x.down] : Array Value)[i]? := fun i =>
    cell_of_row _ _ _ _ _ _ ((heap_alloc_old _ _ (by rw [e1]; omega)).trans (heap_alloc_new w _))
  exact ⟨h1 0, h1 1, h, by repeat (first | exact Below.refl _ _ | assumption | apply Below.drew | (refine Below.alloc ?_ (by first | (simp; done) | (simp; omega) | omega) _) | (refine Below.setCell ?_ (by first | (simp; done) | (simp; omega) | omega) _))⟩
theorem NS.at_ {x : Iro} {cf : Nat → Value} {w u : World} (h : NS x cf w u) {j : Nat} (hj : j < 4) : u.cell? ⟨w.heap.size + 1, j, none⟩ = some (cf j) := by
  have := h.r.cell j hj
  rw [Nat.zero_add] at this
  exact this
theorem NS.fz {x : Iro} {cf : Nat → Value} {w u : World} (h : NS x cf w u) {j : Nat} (hj : j < 4) : u.frozen? ⟨w.heap.size + 1, j, none⟩ = false := by
  have := h.r.free j hj
  rw [Nat.zero_add] at this
  exact this
theorem NS.stored {x : Iro} {A : Option Addr} {n c : Nat} {fm : Value} {w u : World} (h : NS x zg w u) :
    NH x w (u.setCells (w.heap.size + 1) 0 [.int .i8 x.up, .int .i8 x.down, .slice A n c, fm]) ∧ Below w.heap.size w (u.setCells (w.heap.size + 1) 0 [.int .i8 x.up, .int .i8 x.down, .slice A n c, fm]) ∧ u.there (w.heap.size + 1) 0 4 := by
  refine ⟨⟨?_, ?_⟩, below_cells h.b (by omega) _ _, h.r.there⟩
  · exact (World.cell?_setCells_out _ _ _ _ _ (fun e => absurd e (by show w.heap.size ≠ _; omega))).trans h.c0
  · exact (World.cell?_setCells_out _ _ _ _ _ (fun e => absurd e (by show w.heap.size ≠ _; omega))).trans h.c1

set_option maxRecDepth 100000 in
set_option maxHeartbeats 4000000 in
theorem newIroning_0 (x : Iro) (A : Option Addr) (n c : Nat) (w : World) :
    Calls Tryd.prog 77 #[x.v, .slice A n c, .int .u8 0] w fun o w' => o = .returned (gV x A n c (.func (.func 120) #[] #[])) ∧ Below w.heap.size w w' := by
  have hzz : ∀ u : World, (zeroValue 89).run Tryd.prog u = .ok (.agg #[.int .i8 0, .int .i8 0, .slice none 0 0, .nilFunc]) u := (zero_of_info zeroGi).1
  obtain ⟨u0, hu0⟩ : ∃ u, u = (w.alloc (.cells #[.int .i8 x.up, .int .i8 x.down] 27)).alloc (.cells #[.int .i8 0, .int .i8 0, .slice none 0 0, .nilFunc] 89) := ⟨_, rfl⟩
  have S0 : Hid (NS x zg w u0) := Lib.hid (by rw [hu0]; exact NS.new x w _ _)
  have HU := Lib.hid hu0
  clear hu0
  go_enter Tryd.func77, Tryd.ntmps77
  go_wp2_with (first | (rw [← HU.out]) | fail)
  refine wp_region_held_drew (S := NH x w) (by kernel_rfl) ⟨(S0.out.next (Below.refl _ _).drew).c0, (S0.out.next (Below.refl _ _).drew).c1⟩ (fun hHeld => ?_)
  have S1 := Lib.hid (S0.out.next (Below.refl _ _).drew)
  generalize u0.drew = v0 at S1 hHeld ⊢
  clear HU S0
  refine wpAnyH_take (i := 0) (v := ?_) rfl (by kernel_rfl) (by kernel_rfl) (by kernel_rfl) (fun _ _ _ h => h) (Or.inl ⟨by rfl, ?_⟩) (by assumption) ?_
  rotate_left
  · intro u hSu
    (try dsimp only at hSu)
    first | (go_simp; done) | (go_simp; with_reducible rfl)
  try simp only [Act.put, List.getElem_toArray, List.getElem_cons_zero, List.getElem_cons_succ, List.setIfInBounds_toArray, List.set_cons_zero, List.set_cons_succ]
  refine wpAnyH_take (i := 1) (v := ?_) rfl (by kernel_rfl) (by kernel_rfl) (by kernel_rfl) (fun _ _ _ h => h) (Or.inl ⟨by rfl, ?_⟩) (by assumption) ?_
  rotate_left
  · intro u hSu
    (try dsimp only at hSu)
    first | (go_simp; done) | (go_simp; with_reducible rfl)
  try simp only [Act.put, List.getElem_toArray, List.getElem_cons_zero, List.getElem_cons_succ, List.setIfInBounds_toArray, List.set_cons_zero, List.set_cons_succ]
  refine wpAnyH_take (i := 3) (v := ?_) rfl (by kernel_rfl) (by kernel_rfl) (by kernel_rfl) (fun _ _ _ h => h) (Or.inl ⟨by rfl, ?_⟩) (by assumption) ?_
  rotate_left
  · intro u hSu
    (try dsimp only at hSu)
    first | (go_simp; done) | (go_simp; with_reducible rfl)
  try simp only [Act.put, List.getElem_toArray, List.getElem_cons_zero, List.getElem_cons_succ, List.setIfInBounds_toArray, List.set_cons_zero, List.set_cons_succ]
  refine wpAnyH_ready (rs := [2]) (by kernel_rfl) (by simp) ?_
  refine AllReadyH.cons rfl (fun K hK => ?_) AllReadyH.nil
  go_simp
  refine (measures_any _).mono ?_
  rintro o v1 ⟨g, rfl, hm, hb⟩
  have S2 := Lib.hid (S1.out.next hb)
  obtain ⟨fv, psv, hrun, hR⟩ := hm.lookup keyedA undMA (zeroF v1) (zd := .lit (.bool false)) (zp := []) rfl keyA0
  rw [atF0] at hR
  obtain rfl := readF_inv hR
  clear hR hm hb S1
  refine hK.out _ _ (⟨S2.out.c0, S2.out.c1⟩) (fun hHeld2 => ?_)
  clear hK K hHeld
  have hHeld := hHeld2
  clear hHeld2
  try simp only [Act.put, List.getElem_toArray, List.getElem_cons_zero, List.getElem_cons_succ, List.setIfInBounds_toArray, List.set_cons_zero, List.set_cons_succ]
  refine wpAnyH_ready (rs := [4]) (by kernel_rfl) (by simp) ?_
  refine AllReadyH.cons rfl (fun K hK => ?_) AllReadyH.nil
  go_simp
  refine hK.out _ _ (hHeld) (fun hHeld2 => ?_)
  clear hK K hHeld
  have hHeld := hHeld2
  clear hHeld2
  try simp only [Act.put, List.getElem_toArray, List.getElem_cons_zero, List.getElem_cons_succ, List.setIfInBounds_toArray, List.set_cons_zero, List.set_cons_succ]
  clear hrun
  refine wpAnyH_take (i := 5) (v := ?_) rfl (by kernel_rfl) (by kernel_rfl) (by kernel_rfl) (fun _ _ _ h => h) (Or.inl ⟨by rfl, ?_⟩) (by assumption) ?_
  rotate_left
  · intro u hSu
    (try dsimp only at hSu)
    first | (go_simp; done) | (go_simp; with_reducible rfl)
  try simp only [Act.put, List.getElem_toArray, List.getElem_cons_zero, List.getElem_cons_succ, List.setIfInBounds_toArray, List.set_cons_zero, List.set_cons_succ]
  have z0 := S2.out.at_ (j := 0) (by decide)
  have z1 := S2.out.at_ (j := 1) (by decide)
  have z2 := S2.out.at_ (j := 2) (by decide)
  have z3 := S2.out.at_ (j := 3) (by decide)
  have f0 := S2.out.fz (j := 0) (by decide)
  have f1 := S2.out.fz (j := 1) (by decide)
  have f2 := S2.out.fz (j := 2) (by decide)
  have f3 := S2.out.fz (j := 3) (by decide)
  simp only [zg] at z0 z1 z2 z3
  refine wpAnyH_ready (rs := [6]) (by kernel_rfl) (by simp) ?_
  refine AllReadyH.cons rfl (fun K hK => ?_) AllReadyH.nil
  go_simp
  clear z0 z1 z2 z3 f0 f1 f2 f3
  change K _ (v1.setCells (w.heap.size + 1) 0 [.int .i8 x.up, .int .i8 x.down, .slice A n c, .func (.func 120) #[] #[]])
  have HST := NS.stored (A := A) (n := n) (c := c) (fm := .func (.func 120) #[] #[]) S2.out
  refine hK.out _ _ (HST.1) (fun hHeld2 => ?_)
  clear hK K hHeld
  have hHeld := hHeld2
  clear hHeld2
  try simp only [Act.put, List.getElem_toArray, List.getElem_cons_zero, List.getElem_cons_succ, List.setIfInBounds_toArray, List.set_cons_zero, List.set_cons_succ]
  refine wpAnyH_done (by kernel_rfl) ?_ _
  clear hHeld
  go_wp2_with fail
  refine bodyPost_ret (v := gV x A n c (.func (.func 120) #[] #[])) (results_stored Tryd.results77 rfl HST.2.2 Tryd.underlying89 rfl infoG) rfl ⟨rfl, HST.2.1⟩

set_option maxRecDepth 100000 in
set_option maxHeartbeats 4000000 in
theorem newIroning_1 (x : Iro) (A : Option Addr) (n c : Nat) (w : World) :
    Calls Tryd.prog 77 #[x.v, .slice A n c, .int .u8 1] w fun o w' => o = .returned (gV x A n c (.func (.func 121) #[] #[])) ∧ Below w.heap.size w w' := by
  have hzz : ∀ u : World, (zeroValue 89).run Tryd.prog u = .ok (.agg #[.int .i8 0, .int .i8 0, .slice none 0 0, .nilFunc]) u := (zero_of_info zeroGi).1
  obtain ⟨u0, hu0⟩ : ∃ u, u = (w.alloc (.cells #[.int .i8 x.up, .int .i8 x.down] 27)).alloc (.cells #[.int .i8 0, .int .i8 0, .slice none 0 0, .nilFunc] 89) := ⟨_, rfl⟩
  have S0 : Hid (NS x zg w u0) := Lib.hid (by rw [hu0]; exact NS.new x w _ _)
  have HU := Lib.hid hu0
  clear hu0
  go_enter Tryd.func77, Tryd.ntmps77
  go_wp2_with (first | (rw [← HU.out]) | fail)
  refine wp_region_held_drew (S := NH x w) (by kernel_rfl) ⟨(S0.out.next (Below.refl _ _).drew).c0, (S0.out.next (Below.refl _ _).drew).c1⟩ (fun hHeld => ?_)
  have S1 := Lib.hid (S0.out.next (Below.refl _ _).drew)
  generalize u0.drew = v0 at S1 hHeld ⊢
  clear HU S0
  refine wpAnyH_take (i := 0) (v := ?_) rfl (by kernel_rfl) (by kernel_rfl) (by kernel_rfl) (fun _ _ _ h => h) (Or.inl ⟨by rfl, ?_⟩) (by assumption) ?_
  rotate_left
  · intro u hSu
    (try dsimp only at hSu)
    first | (go_simp; done) | (go_simp; with_reducible rfl)
  try simp only [Act.put, List.getElem_toArray, List.getElem_cons_zero, List.getElem_cons_succ, List.setIfInBounds_toArray, List.set_cons_zero, List.set_cons_succ]
  refine wpAnyH_take (i := 1) (v := ?_) rfl (by kernel_rfl) (by kernel_rfl) (by kernel_rfl) (fun _ _ _ h => h) (Or.inl ⟨by rfl, ?_⟩) (by assumption) ?_
  rotate_left
  · intro u hSu
    (try dsimp only at hSu)
    first | (go_simp; done) | (go_simp; with_reducible rfl)
  try simp only [Act.put, List.getElem_toArray, List.getElem_cons_zero, List.getElem_cons_succ, List.setIfInBounds_toArray, List.set_cons_zero, List.set_cons_succ]
  refine wpAnyH_take (i := 3) (v := ?_) rfl (by kernel_rfl) (by kernel_rfl) (by kernel_rfl) (fun _ _ _ h => h) (Or.inl ⟨by rfl, ?_⟩) (by assumption) ?_
  rotate_left
  · intro u hSu
    (try dsimp only at hSu)
    first | (go_simp; done) | (go_simp; with_reducible rfl)
  try simp only [Act.put, List.getElem_toArray, List.getElem_cons_zero, List.getElem_cons_succ, List.setIfInBounds_toArray, List.set_cons_zero, List.set_cons_succ]
  refine wpAnyH_ready (rs := [2]) (by kernel_rfl) (by simp) ?_
  refine AllReadyH.cons rfl (fun K hK => ?_) AllReadyH.nil
  go_simp
  refine (measures_any _).mono ?_
  rintro o v1 ⟨g, rfl, hm, hb⟩
  have S2 := Lib.hid (S1.out.next hb)
  obtain ⟨fv, psv, hrun, hR⟩ := hm.lookup keyedA undMA (zeroF v1) (zd := .lit (.bool false)) (zp := []) rfl keyA1
  rw [atF1] at hR
  obtain rfl := readF_inv hR
  clear hR hm hb S1
  refine hK.out _ _ (⟨S2.out.c0, S2.out.c1⟩) (fun hHeld2 => ?_)
  clear hK K hHeld
  have hHeld := hHeld2
  clear hHeld2
  try simp only [Act.put, List.getElem_toArray, List.getElem_cons_zero, List.getElem_cons_succ, List.setIfInBounds_toArray, List.set_cons_zero, List.set_cons_succ]
  refine wpAnyH_ready (rs := [4]) (by kernel_rfl) (by simp) ?_
  refine AllReadyH.cons rfl (fun K hK => ?_) AllReadyH.nil
  go_simp
  refine hK.out _ _ (hHeld) (fun hHeld2 => ?_)
  clear hK K hHeld
  have hHeld := hHeld2
  clear hHeld2
  try simp only [Act.put, List.getElem_toArray, List.getElem_cons_zero, List.getElem_cons_succ, List.setIfInBounds_toArray, List.set_cons_zero, List.set_cons_succ]
  clear hrun
  refine wpAnyH_take (i := 5) (v := ?_) rfl (by kernel_rfl) (by kernel_rfl) (by kernel_rfl) (fun _ _ _ h => h) (Or.inl ⟨by rfl, ?_⟩) (by assumption) ?_
  rotate_left
  · intro u hSu
    (try dsimp only at hSu)
    first | (go_simp; done) | (go_simp; with_reducible rfl)
  try simp only [Act.put, List.getElem_toArray, List.getElem_cons_zero, List.getElem_cons_succ, List.setIfInBounds_toArray, List.set_cons_zero, List.set_cons_succ]
  have z0 := S2.out.at_ (j := 0) (by decide)
  have z1 := S2.out.at_ (j := 1) (by decide)
  have z2 := S2.out.at_ (j := 2) (by decide)
  have z3 := S2.out.at_ (j := 3) (by decide)
  have f0 := S2.out.fz (j := 0) (by decide)
  have f1 := S2.out.fz (j := 1) (by decide)
  have f2 := S2.out.fz (j := 2) (by decide)
  have f3 := S2.out.fz (j := 3) (by decide)
  simp only [zg] at z0 z1 z2 z3
  refine wpAnyH_ready (rs := [6]) (by kernel_rfl) (by simp) ?_
  refine AllReadyH.cons rfl (fun K hK => ?_) AllReadyH.nil
  go_simp
  clear z0 z1 z2 z3 f0 f1 f2 f3
  change K _ (v1.setCells (w.heap.size + 1) 0 [.int .i8 x.up, .int .i8 x.down, .slice A n c, .func (.func 121) #[] #[]])
  have HST := NS.stored (A := A) (n := n) (c := c) (fm := .func (.func 121) #[] #[]) S2.out
  refine hK.out _ _ (HST.1) (fun hHeld2 => ?_)
  clear hK K hHeld
  have hHeld := hHeld2
  clear hHeld2
  try simp only [Act.put, List.getElem_toArray, List.getElem_cons_zero, List.getElem_cons_succ, List.setIfInBounds_toArray, List.set_cons_zero, List.set_cons_succ]
  refine wpAnyH_done (by kernel_rfl) ?_ _
  clear hHeld
  go_wp2_with fail
  refine bodyPost_ret (v := gV x A n c (.func (.func 121) #[] #[])) (results_stored Tryd.results77 rfl HST.2.2 Tryd.underlying89 rfl infoG) rfl ⟨rfl, HST.2.1⟩

set_option maxRecDepth 100000 in
set_option maxHeartbeats 4000000 in
theorem newIroning_2 (x : Iro) (A : Option Addr) (n c : Nat) (w : World) :
    Calls Tryd.prog 77 #[x.v, .slice A n c, .int .u8 2] w fun o w' => o = .returned (gV x A n c (.func (.func 123) #[] #[])) ∧ Below w.heap.size w w' := by
  have hzz : ∀ u : World, (zeroValue 89).run Tryd.prog u = .ok (.agg #[.int .i8 0, .int .i8 0, .slice none 0 0, .nilFunc]) u := (zero_of_info zeroGi).1
  obtain ⟨u0, hu0⟩ : ∃ u, u = (w.alloc (.cells #[.int .i8 x.up, .int .i8 x.down] 27)).alloc (.cells #[.int .i8 0, .int .i8 0, .slice none 0 0, .nilFunc] 89) := ⟨_, rfl⟩
  have S0 : Hid (NS x zg w u0) := Lib.hid (by rw [hu0]; exact NS.new x w _ _)
  have HU := Lib.hid hu0
  clear hu0
  go_enter Tryd.func77, Tryd.ntmps77
  go_wp2_with (first | (rw [← HU.out]) | fail)
  refine wp_region_held_drew (S := NH x w) (by kernel_rfl) ⟨(S0.out.next (Below.refl _ _).drew).c0, (S0.out.next (Below.refl _ _).drew).c1⟩ (fun hHeld => ?_)
  have S1 := Lib.hid (S0.out.next (Below.refl _ _).drew)
  generalize u0.drew = v0 at S1 hHeld ⊢
  clear HU S0
  refine wpAnyH_take (i := 0) (v := ?_) rfl (by kernel_rfl) (by kernel_rfl) (by kernel_rfl) (fun _ _ _ h => h) (Or.inl ⟨by rfl, ?_⟩) (by assumption) ?_
  rotate_left
  · intro u hSu
    (try dsimp only at hSu)
    first | (go_simp; done) | (go_simp; with_reducible rfl)
  try simp only [Act.put, List.getElem_toArray, List.getElem_cons_zero, List.getElem_cons_succ, List.setIfInBounds_toArray, List.set_cons_zero, List.set_cons_succ]
  refine wpAnyH_take (i := 1) (v := ?_) rfl (by kernel_rfl) (by kernel_rfl) (by kernel_rfl) (fun _ _ _ h => h) (Or.inl ⟨by rfl, ?_⟩) (by assumption) ?_
  rotate_left
  · intro u hSu
    (try dsimp only at hSu)
    first | (go_simp; done) | (go_simp; with_reducible rfl)
  try simp only [Act.put, List.getElem_toArray, List.getElem_cons_zero, List.getElem_cons_succ, List.setIfInBounds_toArray, List.set_cons_zero, List.set_cons_succ]
  refine wpAnyH_take (i := 3) (v := ?_) rfl (by kernel_rfl) (by kernel_rfl) (by kernel_rfl) (fun _ _ _ h => h) (Or.inl ⟨by rfl, ?_⟩) (by assumption) ?_
  rotate_left
  · intro u hSu
    (try dsimp only at hSu)
    first | (go_simp; done) | (go_simp; with_reducible rfl)
  try simp only [Act.put, List.getElem_toArray, List.getElem_cons_zero, List.getElem_cons_succ, List.setIfInBounds_toArray, List.set_cons_zero, List.set_cons_succ]
  refine wpAnyH_ready (rs := [2]) (by kernel_rfl) (by simp) ?_
  refine AllReadyH.cons rfl (fun K hK => ?_) AllReadyH.nil
  go_simp
  refine (measures_any _).mono ?_
  rintro o v1 ⟨g, rfl, hm, hb⟩
  have S2 := Lib.hid (S1.out.next hb)
  obtain ⟨fv, psv, hrun, hR⟩ := hm.lookup keyedA undMA (zeroF v1) (zd := .lit (.bool false)) (zp := []) rfl keyA2
  rw [atF2] at hR
  obtain rfl := readF_inv hR
  clear hR hm hb S1
  refine hK.out _ _ (⟨S2.out.c0, S2.out.c1⟩) (fun hHeld2 => ?_)
  clear hK K hHeld
  have hHeld := hHeld2
  clear hHeld2
  try simp only [Act.put, List.getElem_toArray, List.getElem_cons_zero, List.getElem_cons_succ, List.setIfInBounds_toArray, List.set_cons_zero, List.set_cons_succ]
  refine wpAnyH_ready (rs := [4]) (by kernel_rfl) (by simp) ?_
  refine AllReadyH.cons rfl (fun K hK => ?_) AllReadyH.nil
  go_simp
  refine hK.out _ _ (hHeld) (fun hHeld2 => ?_)
  clear hK K hHeld
  have hHeld := hHeld2
  clear hHeld2
  try simp only [Act.put, List.getElem_toArray, List.getElem_cons_zero, List.getElem_cons_succ, List.setIfInBounds_toArray, List.set_cons_zero, List.set_cons_succ]
  clear hrun
  refine wpAnyH_take (i := 5) (v := ?_) rfl (by kernel_rfl) (by kernel_rfl) (by kernel_rfl) (fun _ _ _ h => h) (Or.inl ⟨by rfl, ?_⟩) (by assumption) ?_
  rotate_left
  · intro u hSu
    (try dsimp only at hSu)
    first | (go_simp; done) | (go_simp; with_reducible rfl)
  try simp only [Act.put, List.getElem_toArray, List.getElem_cons_zero, List.getElem_cons_succ, List.setIfInBounds_toArray, List.set_cons_zero, List.set_cons_succ]
  have z0 := S2.out.at_ (j := 0) (by decide)
  have z1 := S2.out.at_ (j := 1) (by decide)
  have z2 := S2.out.at_ (j := 2) (by decide)
  have z3 := S2.out.at_ (j := 3) (by decide)
  have f0 := S2.out.fz (j := 0) (by decide)
  have f1 := S2.out.fz (j := 1) (by decide)
  have f2 := S2.out.fz (j := 2) (by decide)
  have f3 := S2.out.fz (j := 3) (by decide)
  simp only [zg] at z0 z1 z2 z3
  refine wpAnyH_ready (rs := [6]) (by kernel_rfl) (by simp) ?_
  refine AllReadyH.cons rfl (fun K hK => ?_) AllReadyH.nil
  go_simp
  clear z0 z1 z2 z3 f0 f1 f2 f3
  change K _ (v1.setCells (w.heap.size + 1) 0 [.int .i8 x.up, .int .i8 x.down, .slice A n c, .func (.func 123) #[] #[]])
  have HST := NS.stored (A := A) (n := n) (c := c) (fm := .func (.func 123) #[] #[]) S2.out
  refine hK.out _ _ (HST.1) (fun hHeld2 => ?_)
  clear hK K hHeld
  have hHeld := hHeld2
  clear hHeld2
  try simp only [Act.put, List.getElem_toArray, List.getElem_cons_zero, List.getElem_cons_succ, List.setIfInBounds_toArray, List.set_cons_zero, List.set_cons_succ]
  refine wpAnyH_done (by kernel_rfl) ?_ _
  clear hHeld
  go_wp2_with fail
  refine bodyPost_ret (v := gV x A n c (.func (.func 123) #[] #[])) (results_stored Tryd.results77 rfl HST.2.2 Tryd.underlying89 rfl infoG) rfl ⟨rfl, HST.2.1⟩

set_option maxRecDepth 100000 in
set_option maxHeartbeats 4000000 in
theorem newIroning_3 (x : Iro) (A : Option Addr) (n c : Nat) (w : World) :
    Calls Tryd.prog 77 #[x.v, .slice A n c, .int .u8 3] w fun o w' => o = .returned (gV x A n c (.func (.func 124) #[] #[])) ∧ Below w.heap.size w w' := by
  have hzz : ∀ u : World, (zeroValue 89).run Tryd.prog u = .ok (.agg #[.int .i8 0, .int .i8 0, .slice none 0 0, .nilFunc]) u := (zero_of_info zeroGi).1
  obtain ⟨u0, hu0⟩ : ∃ u, u = (w.alloc (.cells #[.int .i8 x.up, .int .i8 x.down] 27)).alloc (.cells #[.int .i8 0, .int .i8 0, .slice none 0 0, .nilFunc] 89) := ⟨_, rfl⟩
  have S0 : Hid (NS x zg w u0) := Lib.hid (by rw [hu0]; exact NS.new x w _ _)
  have HU := Lib.hid hu0
  clear hu0
  go_enter Tryd.func77, Tryd.ntmps77
  go_wp2_with (first | (rw [← HU.out]) | fail)
  refine wp_region_held_drew (S := NH x w) (by kernel_rfl) ⟨(S0.out.next (Below.refl _ _).drew).c0, (S0.out.next (Below.refl _ _).drew).c1⟩ (fun hHeld => ?_)
  have S1 := Lib.hid (S0.out.next (Below.refl _ _).drew)
  generalize u0.drew = v0 at S1 hHeld ⊢
  clear HU S0
  refine wpAnyH_take (i := 0) (v := ?_) rfl (by kernel_rfl) (by kernel_rfl) (by kernel_rfl) (fun _ _ _ h => h) (Or.inl ⟨by rfl, ?_⟩) (by assumption) ?_
  rotate_left
  · intro u hSu
    (try dsimp only at hSu)
    first | (go_simp; done) | (go_simp; with_reducible rfl)
  try simp only [Act.put, List.getElem_toArray, List.getElem_cons_zero, List.getElem_cons_succ, List.setIfInBounds_toArray, List.set_cons_zero, List.set_cons_succ]
  refine wpAnyH_take (i := 1) (v := ?_) rfl (by kernel_rfl) (by kernel_rfl) (by kernel_rfl) (fun _ _ _ h => h) (Or.inl ⟨by rfl, ?_⟩) (by assumption) ?_
  rotate_left
  · intro u hSu
    (try dsimp only at hSu)
    first | (go_simp; done) | (go_simp; with_reducible rfl)
  try simp only [Act.put, List.getElem_toArray, List.getElem_cons_zero, List.getElem_cons_succ, List.setIfInBounds_toArray, List.set_cons_zero, List.set_cons_succ]
  refine wpAnyH_take (i := 3) (v := ?_) rfl (by kernel_rfl) (by kernel_rfl) (by kernel_rfl) (fun _ _ _ h => h) (Or.inl ⟨by rfl, ?_⟩) (by assumption) ?_
  rotate_left
  · intro u hSu
    (try dsimp only at hSu)
    first | (go_simp; done) | (go_simp; with_reducible rfl)
  try simp only [Act.put, List.getElem_toArray, List.getElem_cons_zero, List.getElem_cons_succ, List.setIfInBounds_toArray, List.set_cons_zero, List.set_cons_succ]
  refine wpAnyH_ready (rs := [2]) (by kernel_rfl) (by simp) ?_
  refine AllReadyH.cons rfl (fun K hK => ?_) AllReadyH.nil
  go_simp
  refine (measures_any _).mono ?_
  rintro o v1 ⟨g, rfl, hm, hb⟩
  have S2 := Lib.hid (S1.out.next hb)
  obtain ⟨fv, psv, hrun, hR⟩ := hm.lookup keyedA undMA (zeroF v1) (zd := .lit (.bool false)) (zp := []) rfl keyA3
  rw [atF3] at hR
  obtain rfl := readF_inv hR
  clear hR hm hb S1
  refine hK.out _ _ (⟨S2.out.c0, S2.out.c1⟩) (fun hHeld2 => ?_)
  clear hK K hHeld
  have hHeld := hHeld2
  clear hHeld2
  try simp only [Act.put, List.getElem_toArray, List.getElem_cons_zero, List.getElem_cons_succ, List.setIfInBounds_toArray, List.set_cons_zero, List.set_cons_succ]
  refine wpAnyH_ready (rs := [4]) (by kernel_rfl) (by simp) ?_
  refine AllReadyH.cons rfl (fun K hK => ?_) AllReadyH.nil
  go_simp
  refine hK.out _ _ (hHeld) (fun hHeld2 => ?_)
  clear hK K hHeld
  have hHeld := hHeld2
  clear hHeld2
  try simp only [Act.put, List.getElem_toArray, List.getElem_cons_zero, List.getElem_cons_succ, List.setIfInBounds_toArray, List.set_cons_zero, List.set_cons_succ]
  clear hrun
  refine wpAnyH_take (i := 5) (v := ?_) rfl (by kernel_rfl) (by kernel_rfl) (by kernel_rfl) (fun _ _ _ h => h) (Or.inl ⟨by rfl, ?_⟩) (by assumption) ?_
  rotate_left
  · intro u hSu
    (try dsimp only at hSu)
    first | (go_simp; done) | (go_simp; with_reducible rfl)
  try simp only [Act.put, List.getElem_toArray, List.getElem_cons_zero, List.getElem_cons_succ, List.setIfInBounds_toArray, List.set_cons_zero, List.set_cons_succ]
  have z0 := S2.out.at_ (j := 0) (by decide)
  have z1 := S2.out.at_ (j := 1) (by decide)
  have z2 := S2.out.at_ (j := 2) (by decide)
  have z3 := S2.out.at_ (j := 3) (by decide)
  have f0 := S2.out.fz (j := 0) (by decide)
  have f1 := S2.out.fz (j := 1) (by decide)
  have f2 := S2.out.fz (j := 2) (by decide)
  have f3 := S2.out.fz (j := 3) (by decide)
  simp only [zg] at z0 z1 z2 z3
  refine wpAnyH_ready (rs := [6]) (by kernel_rfl) (by simp) ?_
  refine AllReadyH.cons rfl (fun K hK => ?_) AllReadyH.nil
  go_simp
  clear z0 z1 z2 z3 f0 f1 f2 f3
  change K _ (v1.setCells (w.heap.size + 1) 0 [.int .i8 x.up, .int .i8 x.down, .slice A n c, .func (.func 124) #[] #[]])
  have HST := NS.stored (A := A) (n := n) (c := c) (fm := .func (.func 124) #[] #[]) S2.out
  refine hK.out _ _ (HST.1) (fun hHeld2 => ?_)
  clear hK K hHeld
  have hHeld := hHeld2
  clear hHeld2
  try simp only [Act.put, List.getElem_toArray, List.getElem_cons_zero, List.getElem_cons_succ, List.setIfInBounds_toArray, List.set_cons_zero, List.set_cons_succ]
  refine wpAnyH_done (by kernel_rfl) ?_ _
  clear hHeld
  go_wp2_with fail
  refine bodyPost_ret (v := gV x A n c (.func (.func 124) #[] #[])) (results_stored Tryd.results77 rfl HST.2.2 Tryd.underlying89 rfl infoG) rfl ⟨rfl, HST.2.1⟩

end Go.Proofs.YtajhdgoinghmmaaDoor.iron

/-
  Orders of pieces: the program's starts of one, and TotalTime, LatenessOf, WaitSum.
-/
namespace Go.Proofs.YtajhdgoinghmmaaDoor.iron
open Go Go.RowKit sl stk errs row

theorem owns_down {w : World} {b b' : Nat} {e : TypeId} {sz : Nat} {v : Value} {n : Nat} {L : List Value} (h : w.ownsRow b e sz v n L) (hb : b' ≤ b) : w.ownsRow b' e sz v n L := by
  refine ⟨h.1, ?_⟩
  rcases h.2 with h2 | ⟨g, cap, cur, h1, hg, rest⟩
  · exact .inl h2
  · exact .inr ⟨g, cap, cur, h1, Nat.le_trans hb hg, rest⟩
/-- a measure of an order, and the code -/
noncomputable def sumR (a : Nat) (x : Iro) (ps : List Pie) (os : List Int) : Int × Nat := if codeOrd x ps os = 0 then ((runs x a ps os).sum, 0) else (0, codeOrd x ps os)
theorem sum_ok {a : Nat} {x : Iro} {ps : List Pie} {os : List Int} {r0 : Int} {r1 : Nat} (h : sumR a x ps os = (r0, r1)) (hc : codeOrd x ps os = 0) : (runs x a ps os).sum = r0 ∧ r1 = 0 := by
  rw [sumR, if_pos hc] at h
  simp at h
  exact ⟨h.1, h.2.symm⟩
theorem sum_no {a : Nat} {x : Iro} {ps : List Pie} {os : List Int} {r0 : Int} {r1 i : Nat} (h : sumR a x ps os = (r0, r1)) (hc : codeOrd x ps os = i + 1) : r0 = 0 ∧ r1 = i + 1 := by
  rw [sumR, if_neg (by omega), hc] at h
  simp at h
  omega
set_option maxRecDepth 100000 in
set_option maxHeartbeats 4000000 in
theorem startsOf_ok0 (x : Iro) (hx : x.Fits) (A : Option Addr) (n c : Nat) (ps : List Pie) (en : n = ps.length) (hn : n ≤ 1048576) (hf : ∀ p ∈ ps, p.Fits) (A' : Option Addr) (m c' : Nat) (os : List Int) (em : m = os.length) (hm : m ≤ 1048576) (hk : codeOrd x ps os = 0) {w : World} {B : Nat} {e : Nat → Addr} (h : Errs w B e) (hB : B ≤ w.heap.size) (hg : Sl Pie.cells 3 w w.heap.size A ps) (hg' : Sl intS.C 1 w w.heap.size A' os) :
    Calls Tryd.prog 65 #[x.v, .slice A n c, .slice A' m c', .int .u8 0] w fun o w' => ∃ g, o = .returned (.tuple #[.slice (some ⟨g, 0, none⟩) (m + 1 : Nat) (m + 1 : Nat), .nilIface]) ∧
      w'.ownsRow w.heap.size 76 12 (.slice (some ⟨g, 0, none⟩) (m + 1) (m + 1)) (m + 1) ((stFs x 0 ps os).flatMap strC) ∧ Below w.heap.size w w' := by
  obtain ⟨k0, hk0⟩ : ∃ k : Nat, k = if iroB x = true then 0 else 1 := ⟨_, rfl⟩
  obtain ⟨k1, hk1⟩ : ∃ k : Nat, k = codePs ps := ⟨_, rfl⟩
  obtain ⟨k2, hk2⟩ : ∃ k : Nat, k = if ordB n os = true then 0 else 4 := ⟨_, rfl⟩
  have HF := Lib.hid (code3o x ps os n en k0 k1 k2 hk0 hk1 hk2)
  have HK0 := Lib.hid hk0
  have HK1 := Lib.hid hk1
  have HK2 := Lib.hid hk2
  have HK := Lib.hid hk
  have En := Lib.hid en
  have Em := Lib.hid em
  have HFT := Lib.hid hf
  have S0 := Lib.hid (HotS.new x w 27)
  have c0 := S0.out.c0
  have c1 := S0.out.c1
  clear hk0 hk1 hk2 hk en em hf
  go_enter Tryd.func65, Tryd.ntmps65
  go_wp2_with fail
  refine (checkIron_any x hx (h.below (S0.out.b.mono hB)) (Nat.le_trans hB S0.out.b.size) k0 HK0.out).mono ?_
  rintro o w1 ⟨rfl, hb1⟩
  have S1 := Lib.hid (S0.out.next hb1)
  clear c0 c1 hb1
  go_wp2_with fail
  refine (checkIroned_any A n c ps En.out hn HFT.out (h.below (S1.out.b.mono hB)) (Nat.le_trans hB S1.out.b.size) ((hg.below S1.out.b).more S1.out.b.size) k1 HK1.out).mono ?_
  rintro o w2 ⟨rfl, hb2⟩
  have S2 := Lib.hid (S1.out.next hb2)
  clear hb2
  go_wp2_with fail
  refine (checkOrder_any n hn A' m c' os Em.out hm (h.below (S2.out.b.mono hB)) (Nat.le_trans hB S2.out.b.size) ((hg'.below S2.out.b).more S2.out.b.size) k2 HK2.out).mono ?_
  rintro o w3 ⟨rfl, hb3⟩
  have S3 := Lib.hid (S2.out.next hb3)
  clear hb3
  go_wp2_with (refine wpList_listed rfl 98 3 _ rfl #[(0, errOf e k0), (1, errOf e k1), (2, errOf e k2)] ?hp (buildSlice3 e k0 k1 k2 _) ?_; case hp => simp [Act.eval])
  refine (firstOf_any e [k0, k1, k2] _ 3 3 rfl (by decide) _ (cells_errs3 e k0 k1 k2 w3 55)).mono ?_
  rintro o w4 ⟨rfl, rfl⟩
  rw [HF.out, HK.out]
  obtain ⟨w4, hw4⟩ : ∃ w4, w4 = w3.alloc (.cells #[errOf e k0, errOf e k1, errOf e k2] 55) := ⟨_, rfl⟩
  have S4 := Lib.hid (S3.out.next ((Below.refl _ _).alloc (Nat.le_refl _) (.cells #[errOf e k0, errOf e k1, errOf e k2] 55)))
  rw [← hw4] at S4 ⊢
  have H4 := Lib.hid (h.below (S4.out.b.mono hB))
  have c0 := S4.out.c0
  have c1 := S4.out.c1
  clear hw4
  obtain ⟨hv, hp, h8, hl, hgd⟩ := codeOrd_zero HK.out
  rw [← En.out] at h8 hl hgd
  rw [← Em.out] at hl hgd
  have HV := Lib.hid hv
  have HP := Lib.hid hp
  have HO := Lib.hid (good_in (by rw [← Em.out]; exact hgd))
  have hm8 : m ≤ 8 := by omega
  clear hv hp hgd hl
  rw [show errOf e 0 = .nilIface from rfl]
  go_wp2_with fail
  refine (newIroning_0 x A n c _).mono ?_
  rintro o w5 ⟨rfl, hb5⟩
  have S5 := Lib.hid (S4.out.next hb5)
  clear hb5 c0 c1
  go_wp2_with fail
  refine (along_0 x HV.out A n c ps En.out h8 HP.out A' m c' os Em.out hm8 HO.out _ ((hg.below S5.out.b).more S5.out.b.size) ((hg'.below S5.out.b).more S5.out.b.size)).mono ?_
  rintro o w6 ⟨g, rfl, hP, hb6⟩
  have S6 := Lib.hid (S5.out.next hb6)
  have HPP := Lib.hid (owns_down hP S5.out.b.size)
  clear hb6 hP
  go_wp2_with fail
  go_ret2
  exact ⟨g, rfl, HPP.out, S6.out.b⟩

set_option maxRecDepth 100000 in
set_option maxHeartbeats 4000000 in
theorem startsOf_no0 (x : Iro) (hx : x.Fits) (A : Option Addr) (n c : Nat) (ps : List Pie) (en : n = ps.length) (hn : n ≤ 1048576) (hf : ∀ p ∈ ps, p.Fits) (A' : Option Addr) (m c' : Nat) (os : List Int) (em : m = os.length) (hm : m ≤ 1048576) (i : Nat) (hk : codeOrd x ps os = i + 1) {w : World} {B : Nat} {e : Nat → Addr} (h : Errs w B e) (hB : B ≤ w.heap.size) (hg : Sl Pie.cells 3 w w.heap.size A ps) (hg' : Sl intS.C 1 w w.heap.size A' os) :
    Calls Tryd.prog 65 #[x.v, .slice A n c, .slice A' m c', .int .u8 0] w fun o w' => o = .returned (.tuple #[.slice none 0 0, errOf e (i + 1)]) ∧ Below w.heap.size w w' := by
  obtain ⟨k0, hk0⟩ : ∃ k : Nat, k = if iroB x = true then 0 else 1 := ⟨_, rfl⟩
  obtain ⟨k1, hk1⟩ : ∃ k : Nat, k = codePs ps := ⟨_, rfl⟩
  obtain ⟨k2, hk2⟩ : ∃ k : Nat, k = if ordB n os = true then 0 else 4 := ⟨_, rfl⟩
  have HF := Lib.hid (code3o x ps os n en k0 k1 k2 hk0 hk1 hk2)
  have HK0 := Lib.hid hk0
  have HK1 := Lib.hid hk1
  have HK2 := Lib.hid hk2
  have HK := Lib.hid hk
  have En := Lib.hid en
  have Em := Lib.hid em
  have HFT := Lib.hid hf
  have S0 := Lib.hid (HotS.new x w 27)
  have c0 := S0.out.c0
  have c1 := S0.out.c1
  clear hk0 hk1 hk2 hk en em hf
  go_enter Tryd.func65, Tryd.ntmps65
  go_wp2_with fail
  refine (checkIron_any x hx (h.below (S0.out.b.mono hB)) (Nat.le_trans hB S0.out.b.size) k0 HK0.out).mono ?_
  rintro o w1 ⟨rfl, hb1⟩
  have S1 := Lib.hid (S0.out.next hb1)
  clear c0 c1 hb1
  go_wp2_with fail
  refine (checkIroned_any A n c ps En.out hn HFT.out (h.below (S1.out.b.mono hB)) (Nat.le_trans hB S1.out.b.size) ((hg.below S1.out.b).more S1.out.b.size) k1 HK1.out).mono ?_
  rintro o w2 ⟨rfl, hb2⟩
  have S2 := Lib.hid (S1.out.next hb2)
  clear hb2
  go_wp2_with fail
  refine (checkOrder_any n hn A' m c' os Em.out hm (h.below (S2.out.b.mono hB)) (Nat.le_trans hB S2.out.b.size) ((hg'.below S2.out.b).more S2.out.b.size) k2 HK2.out).mono ?_
  rintro o w3 ⟨rfl, hb3⟩
  have S3 := Lib.hid (S2.out.next hb3)
  clear hb3
  go_wp2_with (refine wpList_listed rfl 98 3 _ rfl #[(0, errOf e k0), (1, errOf e k1), (2, errOf e k2)] ?hp (buildSlice3 e k0 k1 k2 _) ?_; case hp => simp [Act.eval])
  refine (firstOf_any e [k0, k1, k2] _ 3 3 rfl (by decide) _ (cells_errs3 e k0 k1 k2 w3 55)).mono ?_
  rintro o w4 ⟨rfl, rfl⟩
  rw [HF.out, HK.out]
  obtain ⟨w4, hw4⟩ : ∃ w4, w4 = w3.alloc (.cells #[errOf e k0, errOf e k1, errOf e k2] 55) := ⟨_, rfl⟩
  have S4 := Lib.hid (S3.out.next ((Below.refl _ _).alloc (Nat.le_refl _) (.cells #[errOf e k0, errOf e k1, errOf e k2] 55)))
  rw [← hw4] at S4 ⊢
  have H4 := Lib.hid (h.below (S4.out.b.mono hB))
  have c0 := S4.out.c0
  have c1 := S4.out.c1
  clear hw4
  rw [show errOf e (i + 1) = errV (e i) from rfl]
  go_wp2_with fail
  go_ret2
  exact ⟨rfl, S4.out.b⟩

set_option maxRecDepth 100000 in
set_option maxHeartbeats 4000000 in
theorem startsOf_ok1 (x : Iro) (hx : x.Fits) (A : Option Addr) (n c : Nat) (ps : List Pie) (en : n = ps.length) (hn : n ≤ 1048576) (hf : ∀ p ∈ ps, p.Fits) (A' : Option Addr) (m c' : Nat) (os : List Int) (em : m = os.length) (hm : m ≤ 1048576) (hk : codeOrd x ps os = 0) {w : World} {B : Nat} {e : Nat → Addr} (h : Errs w B e) (hB : B ≤ w.heap.size) (hg : Sl Pie.cells 3 w w.heap.size A ps) (hg' : Sl intS.C 1 w w.heap.size A' os) :
    Calls Tryd.prog 65 #[x.v, .slice A n c, .slice A' m c', .int .u8 1] w fun o w' => ∃ g, o = .returned (.tuple #[.slice (some ⟨g, 0, none⟩) (m + 1 : Nat) (m + 1 : Nat), .nilIface]) ∧
      w'.ownsRow w.heap.size 76 12 (.slice (some ⟨g, 0, none⟩) (m + 1) (m + 1)) (m + 1) ((stFs x 1 ps os).flatMap strC) ∧ Below w.heap.size w w' := by
  obtain ⟨k0, hk0⟩ : ∃ k : Nat, k = if iroB x = true then 0 else 1 := ⟨_, rfl⟩
  obtain ⟨k1, hk1⟩ : ∃ k : Nat, k = codePs ps := ⟨_, rfl⟩
  obtain ⟨k2, hk2⟩ : ∃ k : Nat, k = if ordB n os = true then 0 else 4 := ⟨_, rfl⟩
  have HF := Lib.hid (code3o x ps os n en k0 k1 k2 hk0 hk1 hk2)
  have HK0 := Lib.hid hk0
  have HK1 := Lib.hid hk1
  have HK2 := Lib.hid hk2
  have HK := Lib.hid hk
  have En := Lib.hid en
  have Em := Lib.hid em
  have HFT := Lib.hid hf
  have S0 := Lib.hid (HotS.new x w 27)
  have c0 := S0.out.c0
  have c1 := S0.out.c1
  clear hk0 hk1 hk2 hk en em hf
  go_enter Tryd.func65, Tryd.ntmps65
  go_wp2_with fail
  refine (checkIron_any x hx (h.below (S0.out.b.mono hB)) (Nat.le_trans hB S0.out.b.size) k0 HK0.out).mono ?_
  rintro o w1 ⟨rfl, hb1⟩
  have S1 := Lib.hid (S0.out.next hb1)
  clear c0 c1 hb1
  go_wp2_with fail
  refine (checkIroned_any A n c ps En.out hn HFT.out (h.below (S1.out.b.mono hB)) (Nat.le_trans hB S1.out.b.size) ((hg.below S1.out.b).more S1.out.b.size) k1 HK1.out).mono ?_
  rintro o w2 ⟨rfl, hb2⟩
  have S2 := Lib.hid (S1.out.next hb2)
  clear hb2
  go_wp2_with fail
  refine (checkOrder_any n hn A' m c' os Em.out hm (h.below (S2.out.b.mono hB)) (Nat.le_trans hB S2.out.b.size) ((hg'.below S2.out.b).more S2.out.b.size) k2 HK2.out).mono ?_
  rintro o w3 ⟨rfl, hb3⟩
  have S3 := Lib.hid (S2.out.next hb3)
  clear hb3
  go_wp2_with (refine wpList_listed rfl 98 3 _ rfl #[(0, errOf e k0), (1, errOf e k1), (2, errOf e k2)] ?hp (buildSlice3 e k0 k1 k2 _) ?_; case hp => simp [Act.eval])
  refine (firstOf_any e [k0, k1, k2] _ 3 3 rfl (by decide) _ (cells_errs3 e k0 k1 k2 w3 55)).mono ?_
  rintro o w4 ⟨rfl, rfl⟩
  rw [HF.out, HK.out]
  obtain ⟨w4, hw4⟩ : ∃ w4, w4 = w3.alloc (.cells #[errOf e k0, errOf e k1, errOf e k2] 55) := ⟨_, rfl⟩
  have S4 := Lib.hid (S3.out.next ((Below.refl _ _).alloc (Nat.le_refl _) (.cells #[errOf e k0, errOf e k1, errOf e k2] 55)))
  rw [← hw4] at S4 ⊢
  have H4 := Lib.hid (h.below (S4.out.b.mono hB))
  have c0 := S4.out.c0
  have c1 := S4.out.c1
  clear hw4
  obtain ⟨hv, hp, h8, hl, hgd⟩ := codeOrd_zero HK.out
  rw [← En.out] at h8 hl hgd
  rw [← Em.out] at hl hgd
  have HV := Lib.hid hv
  have HP := Lib.hid hp
  have HO := Lib.hid (good_in (by rw [← Em.out]; exact hgd))
  have hm8 : m ≤ 8 := by omega
  clear hv hp hgd hl
  rw [show errOf e 0 = .nilIface from rfl]
  go_wp2_with fail
  refine (newIroning_1 x A n c _).mono ?_
  rintro o w5 ⟨rfl, hb5⟩
  have S5 := Lib.hid (S4.out.next hb5)
  clear hb5 c0 c1
  go_wp2_with fail
  refine (along_1 x HV.out A n c ps En.out h8 HP.out A' m c' os Em.out hm8 HO.out _ ((hg.below S5.out.b).more S5.out.b.size) ((hg'.below S5.out.b).more S5.out.b.size)).mono ?_
  rintro o w6 ⟨g, rfl, hP, hb6⟩
  have S6 := Lib.hid (S5.out.next hb6)
  have HPP := Lib.hid (owns_down hP S5.out.b.size)
  clear hb6 hP
  go_wp2_with fail
  go_ret2
  exact ⟨g, rfl, HPP.out, S6.out.b⟩

set_option maxRecDepth 100000 in
set_option maxHeartbeats 4000000 in
theorem startsOf_no1 (x : Iro) (hx : x.Fits) (A : Option Addr) (n c : Nat) (ps : List Pie) (en : n = ps.length) (hn : n ≤ 1048576) (hf : ∀ p ∈ ps, p.Fits) (A' : Option Addr) (m c' : Nat) (os : List Int) (em : m = os.length) (hm : m ≤ 1048576) (i : Nat) (hk : codeOrd x ps os = i + 1) {w : World} {B : Nat} {e : Nat → Addr} (h : Errs w B e) (hB : B ≤ w.heap.size) (hg : Sl Pie.cells 3 w w.heap.size A ps) (hg' : Sl intS.C 1 w w.heap.size A' os) :
    Calls Tryd.prog 65 #[x.v, .slice A n c, .slice A' m c', .int .u8 1] w fun o w' => o = .returned (.tuple #[.slice none 0 0, errOf e (i + 1)]) ∧ Below w.heap.size w w' := by
  obtain ⟨k0, hk0⟩ : ∃ k : Nat, k = if iroB x = true then 0 else 1 := ⟨_, rfl⟩
  obtain ⟨k1, hk1⟩ : ∃ k : Nat, k = codePs ps := ⟨_, rfl⟩
  obtain ⟨k2, hk2⟩ : ∃ k : Nat, k = if ordB n os = true then 0 else 4 := ⟨_, rfl⟩
  have HF := Lib.hid (code3o x ps os n en k0 k1 k2 hk0 hk1 hk2)
  have HK0 := Lib.hid hk0
  have HK1 := Lib.hid hk1
  have HK2 := Lib.hid hk2
  have HK := Lib.hid hk
  have En := Lib.hid en
  have Em := Lib.hid em
  have HFT := Lib.hid hf
  have S0 := Lib.hid (HotS.new x w 27)
  have c0 := S0.out.c0
  have c1 := S0.out.c1
  clear hk0 hk1 hk2 hk en em hf
  go_enter Tryd.func65, Tryd.ntmps65
  go_wp2_with fail
  refine (checkIron_any x hx (h.below (S0.out.b.mono hB)) (Nat.le_trans hB S0.out.b.size) k0 HK0.out).mono ?_
  rintro o w1 ⟨rfl, hb1⟩
  have S1 := Lib.hid (S0.out.next hb1)
  clear c0 c1 hb1
  go_wp2_with fail
  refine (checkIroned_any A n c ps En.out hn HFT.out (h.below (S1.out.b.mono hB)) (Nat.le_trans hB S1.out.b.size) ((hg.below S1.out.b).more S1.out.b.size) k1 HK1.out).mono ?_
  rintro o w2 ⟨rfl, hb2⟩
  have S2 := Lib.hid (S1.out.next hb2)
  clear hb2
  go_wp2_with fail
  refine (checkOrder_any n hn A' m c' os Em.out hm (h.below (S2.out.b.mono hB)) (Nat.le_trans hB S2.out.b.size) ((hg'.below S2.out.b).more S2.out.b.size) k2 HK2.out).mono ?_
  rintro o w3 ⟨rfl, hb3⟩
  have S3 := Lib.hid (S2.out.next hb3)
  clear hb3
  go_wp2_with (refine wpList_listed rfl 98 3 _ rfl #[(0, errOf e k0), (1, errOf e k1), (2, errOf e k2)] ?hp (buildSlice3 e k0 k1 k2 _) ?_; case hp => simp [Act.eval])
  refine (firstOf_any e [k0, k1, k2] _ 3 3 rfl (by decide) _ (cells_errs3 e k0 k1 k2 w3 55)).mono ?_
  rintro o w4 ⟨rfl, rfl⟩
  rw [HF.out, HK.out]
  obtain ⟨w4, hw4⟩ : ∃ w4, w4 = w3.alloc (.cells #[errOf e k0, errOf e k1, errOf e k2] 55) := ⟨_, rfl⟩
  have S4 := Lib.hid (S3.out.next ((Below.refl _ _).alloc (Nat.le_refl _) (.cells #[errOf e k0, errOf e k1, errOf e k2] 55)))
  rw [← hw4] at S4 ⊢
  have H4 := Lib.hid (h.below (S4.out.b.mono hB))
  have c0 := S4.out.c0
  have c1 := S4.out.c1
  clear hw4
  rw [show errOf e (i + 1) = errV (e i) from rfl]
  go_wp2_with fail
  go_ret2
  exact ⟨rfl, S4.out.b⟩

set_option maxRecDepth 100000 in
set_option maxHeartbeats 4000000 in
theorem startsOf_ok2 (x : Iro) (hx : x.Fits) (A : Option Addr) (n c : Nat) (ps : List Pie) (en : n = ps.length) (hn : n ≤ 1048576) (hf : ∀ p ∈ ps, p.Fits) (A' : Option Addr) (m c' : Nat) (os : List Int) (em : m = os.length) (hm : m ≤ 1048576) (hk : codeOrd x ps os = 0) {w : World} {B : Nat} {e : Nat → Addr} (h : Errs w B e) (hB : B ≤ w.heap.size) (hg : Sl Pie.cells 3 w w.heap.size A ps) (hg' : Sl intS.C 1 w w.heap.size A' os) :
    Calls Tryd.prog 65 #[x.v, .slice A n c, .slice A' m c', .int .u8 2] w fun o w' => ∃ g, o = .returned (.tuple #[.slice (some ⟨g, 0, none⟩) (m + 1 : Nat) (m + 1 : Nat), .nilIface]) ∧
      w'.ownsRow w.heap.size 76 12 (.slice (some ⟨g, 0, none⟩) (m + 1) (m + 1)) (m + 1) ((stFs x 2 ps os).flatMap strC) ∧ Below w.heap.size w w' := by
  obtain ⟨k0, hk0⟩ : ∃ k : Nat, k = if iroB x = true then 0 else 1 := ⟨_, rfl⟩
  obtain ⟨k1, hk1⟩ : ∃ k : Nat, k = codePs ps := ⟨_, rfl⟩
  obtain ⟨k2, hk2⟩ : ∃ k : Nat, k = if ordB n os = true then 0 else 4 := ⟨_, rfl⟩
  have HF := Lib.hid (code3o x ps os n en k0 k1 k2 hk0 hk1 hk2)
  have HK0 := Lib.hid hk0
  have HK1 := Lib.hid hk1
  have HK2 := Lib.hid hk2
  have HK := Lib.hid hk
  have En := Lib.hid en
  have Em := Lib.hid em
  have HFT := Lib.hid hf
  have S0 := Lib.hid (HotS.new x w 27)
  have c0 := S0.out.c0
  have c1 := S0.out.c1
  clear hk0 hk1 hk2 hk en em hf
  go_enter Tryd.func65, Tryd.ntmps65
  go_wp2_with fail
  refine (checkIron_any x hx (h.below (S0.out.b.mono hB)) (Nat.le_trans hB S0.out.b.size) k0 HK0.out).mono ?_
  rintro o w1 ⟨rfl, hb1⟩
  have S1 := Lib.hid (S0.out.next hb1)
  clear c0 c1 hb1
  go_wp2_with fail
  refine (checkIroned_any A n c ps En.out hn HFT.out (h.below (S1.out.b.mono hB)) (Nat.le_trans hB S1.out.b.size) ((hg.below S1.out.b).more S1.out.b.size) k1 HK1.out).mono ?_
  rintro o w2 ⟨rfl, hb2⟩
  have S2 := Lib.hid (S1.out.next hb2)
  clear hb2
  go_wp2_with fail
  refine (checkOrder_any n hn A' m c' os Em.out hm (h.below (S2.out.b.mono hB)) (Nat.le_trans hB S2.out.b.size) ((hg'.below S2.out.b).more S2.out.b.size) k2 HK2.out).mono ?_
  rintro o w3 ⟨rfl, hb3⟩
  have S3 := Lib.hid (S2.out.next hb3)
  clear hb3
  go_wp2_with (refine wpList_listed rfl 98 3 _ rfl #[(0, errOf e k0), (1, errOf e k1), (2, errOf e k2)] ?hp (buildSlice3 e k0 k1 k2 _) ?_; case hp => simp [Act.eval])
  refine (firstOf_any e [k0, k1, k2] _ 3 3 rfl (by decide) _ (cells_errs3 e k0 k1 k2 w3 55)).mono ?_
  rintro o w4 ⟨rfl, rfl⟩
  rw [HF.out, HK.out]
  obtain ⟨w4, hw4⟩ : ∃ w4, w4 = w3.alloc (.cells #[errOf e k0, errOf e k1, errOf e k2] 55) := ⟨_, rfl⟩
  have S4 := Lib.hid (S3.out.next ((Below.refl _ _).alloc (Nat.le_refl _) (.cells #[errOf e k0, errOf e k1, errOf e k2] 55)))
  rw [← hw4] at S4 ⊢
  have H4 := Lib.hid (h.below (S4.out.b.mono hB))
  have c0 := S4.out.c0
  have c1 := S4.out.c1
  clear hw4
  obtain ⟨hv, hp, h8, hl, hgd⟩ := codeOrd_zero HK.out
  rw [← En.out] at h8 hl hgd
  rw [← Em.out] at hl hgd
  have HV := Lib.hid hv
  have HP := Lib.hid hp
  have HO := Lib.hid (good_in (by rw [← Em.out]; exact hgd))
  have hm8 : m ≤ 8 := by omega
  clear hv hp hgd hl
  rw [show errOf e 0 = .nilIface from rfl]
  go_wp2_with fail
  refine (newIroning_2 x A n c _).mono ?_
  rintro o w5 ⟨rfl, hb5⟩
  have S5 := Lib.hid (S4.out.next hb5)
  clear hb5 c0 c1
  go_wp2_with fail
  refine (along_2 x HV.out A n c ps En.out h8 HP.out A' m c' os Em.out hm8 HO.out _ ((hg.below S5.out.b).more S5.out.b.size) ((hg'.below S5.out.b).more S5.out.b.size)).mono ?_
  rintro o w6 ⟨g, rfl, hP, hb6⟩
  have S6 := Lib.hid (S5.out.next hb6)
  have HPP := Lib.hid (owns_down hP S5.out.b.size)
  clear hb6 hP
  go_wp2_with fail
  go_ret2
  exact ⟨g, rfl, HPP.out, S6.out.b⟩

set_option maxRecDepth 100000 in
set_option maxHeartbeats 4000000 in
theorem startsOf_no2 (x : Iro) (hx : x.Fits) (A : Option Addr) (n c : Nat) (ps : List Pie) (en : n = ps.length) (hn : n ≤ 1048576) (hf : ∀ p ∈ ps, p.Fits) (A' : Option Addr) (m c' : Nat) (os : List Int) (em : m = os.length) (hm : m ≤ 1048576) (i : Nat) (hk : codeOrd x ps os = i + 1) {w : World} {B : Nat} {e : Nat → Addr} (h : Errs w B e) (hB : B ≤ w.heap.size) (hg : Sl Pie.cells 3 w w.heap.size A ps) (hg' : Sl intS.C 1 w w.heap.size A' os) :
    Calls Tryd.prog 65 #[x.v, .slice A n c, .slice A' m c', .int .u8 2] w fun o w' => o = .returned (.tuple #[.slice none 0 0, errOf e (i + 1)]) ∧ Below w.heap.size w w' := by
  obtain ⟨k0, hk0⟩ : ∃ k : Nat, k = if iroB x = true then 0 else 1 := ⟨_, rfl⟩
  obtain ⟨k1, hk1⟩ : ∃ k : Nat, k = codePs ps := ⟨_, rfl⟩
  obtain ⟨k2, hk2⟩ : ∃ k : Nat, k = if ordB n os = true then 0 else 4 := ⟨_, rfl⟩
  have HF := Lib.hid (code3o x ps os n en k0 k1 k2 hk0 hk1 hk2)
  have HK0 := Lib.hid hk0
  have HK1 := Lib.hid hk1
  have HK2 := Lib.hid hk2
  have HK := Lib.hid hk
  have En := Lib.hid en
  have Em := Lib.hid em
  have HFT := Lib.hid hf
  have S0 := Lib.hid (HotS.new x w 27)
  have c0 := S0.out.c0
  have c1 := S0.out.c1
  clear hk0 hk1 hk2 hk en em hf
  go_enter Tryd.func65, Tryd.ntmps65
  go_wp2_with fail
  refine (checkIron_any x hx (h.below (S0.out.b.mono hB)) (Nat.le_trans hB S0.out.b.size) k0 HK0.out).mono ?_
  rintro o w1 ⟨rfl, hb1⟩
  have S1 := Lib.hid (S0.out.next hb1)
  clear c0 c1 hb1
  go_wp2_with fail
  refine (checkIroned_any A n c ps En.out hn HFT.out (h.below (S1.out.b.mono hB)) (Nat.le_trans hB S1.out.b.size) ((hg.below S1.out.b).more S1.out.b.size) k1 HK1.out).mono ?_
  rintro o w2 ⟨rfl, hb2⟩
  have S2 := Lib.hid (S1.out.next hb2)
  clear hb2
  go_wp2_with fail
  refine (checkOrder_any n hn A' m c' os Em.out hm (h.below (S2.out.b.mono hB)) (Nat.le_trans hB S2.out.b.size) ((hg'.below S2.out.b).more S2.out.b.size) k2 HK2.out).mono ?_
  rintro o w3 ⟨rfl, hb3⟩
  have S3 := Lib.hid (S2.out.next hb3)
  clear hb3
  go_wp2_with (refine wpList_listed rfl 98 3 _ rfl #[(0, errOf e k0), (1, errOf e k1), (2, errOf e k2)] ?hp (buildSlice3 e k0 k1 k2 _) ?_; case hp => simp [Act.eval])
  refine (firstOf_any e [k0, k1, k2] _ 3 3 rfl (by decide) _ (cells_errs3 e k0 k1 k2 w3 55)).mono ?_
  rintro o w4 ⟨rfl, rfl⟩
  rw [HF.out, HK.out]
  obtain ⟨w4, hw4⟩ : ∃ w4, w4 = w3.alloc (.cells #[errOf e k0, errOf e k1, errOf e k2] 55) := ⟨_, rfl⟩
  have S4 := Lib.hid (S3.out.next ((Below.refl _ _).alloc (Nat.le_refl _) (.cells #[errOf e k0, errOf e k1, errOf e k2] 55)))
  rw [← hw4] at S4 ⊢
  have H4 := Lib.hid (h.below (S4.out.b.mono hB))
  have c0 := S4.out.c0
  have c1 := S4.out.c1
  clear hw4
  rw [show errOf e (i + 1) = errV (e i) from rfl]
  go_wp2_with fail
  go_ret2
  exact ⟨rfl, S4.out.b⟩

set_option maxRecDepth 100000 in
set_option maxHeartbeats 4000000 in
theorem startsOf_ok3 (x : Iro) (hx : x.Fits) (A : Option Addr) (n c : Nat) (ps : List Pie) (en : n = ps.length) (hn : n ≤ 1048576) (hf : ∀ p ∈ ps, p.Fits) (A' : Option Addr) (m c' : Nat) (os : List Int) (em : m = os.length) (hm : m ≤ 1048576) (hk : codeOrd x ps os = 0) {w : World} {B : Nat} {e : Nat → Addr} (h : Errs w B e) (hB : B ≤ w.heap.size) (hg : Sl Pie.cells 3 w w.heap.size A ps) (hg' : Sl intS.C 1 w w.heap.size A' os) :
    Calls Tryd.prog 65 #[x.v, .slice A n c, .slice A' m c', .int .u8 3] w fun o w' => ∃ g, o = .returned (.tuple #[.slice (some ⟨g, 0, none⟩) (m + 1 : Nat) (m + 1 : Nat), .nilIface]) ∧
      w'.ownsRow w.heap.size 76 12 (.slice (some ⟨g, 0, none⟩) (m + 1) (m + 1)) (m + 1) ((stFs x 3 ps os).flatMap strC) ∧ Below w.heap.size w w' := by
  obtain ⟨k0, hk0⟩ : ∃ k : Nat, k = if iroB x = true then 0 else 1 := ⟨_, rfl⟩
  obtain ⟨k1, hk1⟩ : ∃ k : Nat, k = codePs ps := ⟨_, rfl⟩
  obtain ⟨k2, hk2⟩ : ∃ k : Nat, k = if ordB n os = true then 0 else 4 := ⟨_, rfl⟩
  have HF := Lib.hid (code3o x ps os n en k0 k1 k2 hk0 hk1 hk2)
  have HK0 := Lib.hid hk0
  have HK1 := Lib.hid hk1
  have HK2 := Lib.hid hk2
  have HK := Lib.hid hk
  have En := Lib.hid en
  have Em := Lib.hid em
  have HFT := Lib.hid hf
  have S0 := Lib.hid (HotS.new x w 27)
  have c0 := S0.out.c0
  have c1 := S0.out.c1
  clear hk0 hk1 hk2 hk en em hf
  go_enter Tryd.func65, Tryd.ntmps65
  go_wp2_with fail
  refine (checkIron_any x hx (h.below (S0.out.b.mono hB)) (Nat.le_trans hB S0.out.b.size) k0 HK0.out).mono ?_
  rintro o w1 ⟨rfl, hb1⟩
  have S1 := Lib.hid (S0.out.next hb1)
  clear c0 c1 hb1
  go_wp2_with fail
  refine (checkIroned_any A n c ps En.out hn HFT.out (h.below (S1.out.b.mono hB)) (Nat.le_trans hB S1.out.b.size) ((hg.below S1.out.b).more S1.out.b.size) k1 HK1.out).mono ?_
  rintro o w2 ⟨rfl, hb2⟩
  have S2 := Lib.hid (S1.out.next hb2)
  clear hb2
  go_wp2_with fail
  refine (checkOrder_any n hn A' m c' os Em.out hm (h.below (S2.out.b.mono hB)) (Nat.le_trans hB S2.out.b.size) ((hg'.below S2.out.b).more S2.out.b.size) k2 HK2.out).mono ?_
  rintro o w3 ⟨rfl, hb3⟩
  have S3 := Lib.hid (S2.out.next hb3)
  clear hb3
  go_wp2_with (refine wpList_listed rfl 98 3 _ rfl #[(0, errOf e k0), (1, errOf e k1), (2, errOf e k2)] ?hp (buildSlice3 e k0 k1 k2 _) ?_; case hp => simp [Act.eval])
  refine (firstOf_any e [k0, k1, k2] _ 3 3 rfl (by decide) _ (cells_errs3 e k0 k1 k2 w3 55)).mono ?_
  rintro o w4 ⟨rfl, rfl⟩
  rw [HF.out, HK.out]
  obtain ⟨w4, hw4⟩ : ∃ w4, w4 = w3.alloc (.cells #[errOf e k0, errOf e k1, errOf e k2] 55) := ⟨_, rfl⟩
  have S4 := Lib.hid (S3.out.next ((Below.refl _ _).alloc (Nat.le_refl _) (.cells #[errOf e k0, errOf e k1, errOf e k2] 55)))
  rw [← hw4] at S4 ⊢
  have H4 := Lib.hid (h.below (S4.out.b.mono hB))
  have c0 := S4.out.c0
  have c1 := S4.out.c1
  clear hw4
  obtain ⟨hv, hp, h8, hl, hgd⟩ := codeOrd_zero HK.out
  rw [← En.out] at h8 hl hgd
  rw [← Em.out] at hl hgd
  have HV := Lib.hid hv
  have HP := Lib.hid hp
  have HO := Lib.hid (good_in (by rw [← Em.out]; exact hgd))
  have hm8 : m ≤ 8 := by omega
  clear hv hp hgd hl
  rw [show errOf e 0 = .nilIface from rfl]
  go_wp2_with fail
  refine (newIroning_3 x A n c _).mono ?_
  rintro o w5 ⟨rfl, hb5⟩
  have S5 := Lib.hid (S4.out.next hb5)
  clear hb5 c0 c1
  go_wp2_with fail
  refine (along_3 x HV.out A n c ps En.out h8 HP.out A' m c' os Em.out hm8 HO.out _ ((hg.below S5.out.b).more S5.out.b.size) ((hg'.below S5.out.b).more S5.out.b.size)).mono ?_
  rintro o w6 ⟨g, rfl, hP, hb6⟩
  have S6 := Lib.hid (S5.out.next hb6)
  have HPP := Lib.hid (owns_down hP S5.out.b.size)
  clear hb6 hP
  go_wp2_with fail
  go_ret2
  exact ⟨g, rfl, HPP.out, S6.out.b⟩

set_option maxRecDepth 100000 in
set_option maxHeartbeats 4000000 in
theorem startsOf_no3 (x : Iro) (hx : x.Fits) (A : Option Addr) (n c : Nat) (ps : List Pie) (en : n = ps.length) (hn : n ≤ 1048576) (hf : ∀ p ∈ ps, p.Fits) (A' : Option Addr) (m c' : Nat) (os : List Int) (em : m = os.length) (hm : m ≤ 1048576) (i : Nat) (hk : codeOrd x ps os = i + 1) {w : World} {B : Nat} {e : Nat → Addr} (h : Errs w B e) (hB : B ≤ w.heap.size) (hg : Sl Pie.cells 3 w w.heap.size A ps) (hg' : Sl intS.C 1 w w.heap.size A' os) :
    Calls Tryd.prog 65 #[x.v, .slice A n c, .slice A' m c', .int .u8 3] w fun o w' => o = .returned (.tuple #[.slice none 0 0, errOf e (i + 1)]) ∧ Below w.heap.size w w' := by
  obtain ⟨k0, hk0⟩ : ∃ k : Nat, k = if iroB x = true then 0 else 1 := ⟨_, rfl⟩
  obtain ⟨k1, hk1⟩ : ∃ k : Nat, k = codePs ps := ⟨_, rfl⟩
  obtain ⟨k2, hk2⟩ : ∃ k : Nat, k = if ordB n os = true then 0 else 4 := ⟨_, rfl⟩
  have HF := Lib.hid (code3o x ps os n en k0 k1 k2 hk0 hk1 hk2)
  have HK0 := Lib.hid hk0
  have HK1 := Lib.hid hk1
  have HK2 := Lib.hid hk2
  have HK := Lib.hid hk
  have En := Lib.hid en
  have Em := Lib.hid em
  have HFT := Lib.hid hf
  have S0 := Lib.hid (HotS.new x w 27)
  have c0 := S0.out.c0
  have c1 := S0.out.c1
  clear hk0 hk1 hk2 hk en em hf
  go_enter Tryd.func65, Tryd.ntmps65
  go_wp2_with fail
  refine (checkIron_any x hx (h.below (S0.out.b.mono hB)) (Nat.le_trans hB S0.out.b.size) k0 HK0.out).mono ?_
  rintro o w1 ⟨rfl, hb1⟩
  have S1 := Lib.hid (S0.out.next hb1)
  clear c0 c1 hb1
  go_wp2_with fail
  refine (checkIroned_any A n c ps En.out hn HFT.out (h.below (S1.out.b.mono hB)) (Nat.le_trans hB S1.out.b.size) ((hg.below S1.out.b).more S1.out.b.size) k1 HK1.out).mono ?_
  rintro o w2 ⟨rfl, hb2⟩
  have S2 := Lib.hid (S1.out.next hb2)
  clear hb2
  go_wp2_with fail
  refine (checkOrder_any n hn A' m c' os Em.out hm (h.below (S2.out.b.mono hB)) (Nat.le_trans hB S2.out.b.size) ((hg'.below S2.out.b).more S2.out.b.size) k2 HK2.out).mono ?_
  rintro o w3 ⟨rfl, hb3⟩
  have S3 := Lib.hid (S2.out.next hb3)
  clear hb3
  go_wp2_with (refine wpList_listed rfl 98 3 _ rfl #[(0, errOf e k0), (1, errOf e k1), (2, errOf e k2)] ?hp (buildSlice3 e k0 k1 k2 _) ?_; case hp => simp [Act.eval])
  refine (firstOf_any e [k0, k1, k2] _ 3 3 rfl (by decide) _ (cells_errs3 e k0 k1 k2 w3 55)).mono ?_
  rintro o w4 ⟨rfl, rfl⟩
  rw [HF.out, HK.out]
  obtain ⟨w4, hw4⟩ : ∃ w4, w4 = w3.alloc (.cells #[errOf e k0, errOf e k1, errOf e k2] 55) := ⟨_, rfl⟩
  have S4 := Lib.hid (S3.out.next ((Below.refl _ _).alloc (Nat.le_refl _) (.cells #[errOf e k0, errOf e k1, errOf e k2] 55)))
  rw [← hw4] at S4 ⊢
  have H4 := Lib.hid (h.below (S4.out.b.mono hB))
  have c0 := S4.out.c0
  have c1 := S4.out.c1
  clear hw4
  rw [show errOf e (i + 1) = errV (e i) from rfl]
  go_wp2_with fail
  go_ret2
  exact ⟨rfl, S4.out.b⟩

/-- the cells of a start in a row of them -/
theorem row_cell {w : World} {b G n c : Nat} {xs : List Str} {k : Nat} {f : Str} (h : w.ownsRow b 76 12 (.slice (some ⟨G, 0, none⟩) n c) n (xs.flatMap strC)) (hx : xs[k]? = some f) {j : Nat} (hj : j < 12) : w.cell? ⟨G, k * 12 + j, none⟩ = some (cellR f j) := by
  obtain ⟨a, e, _, hat⟩ := (Sl.of_owns h (strC_len xs) (by decide)).at_ k f hx
  obtain rfl := Option.some.inj e
  have := hat j _ (lst_get (cellR f) hj)
  rw [add_lit, add_at] at this
  exact this
set_option maxRecDepth 100000 in
set_option maxHeartbeats 4000000 in
theorem sumOver_0 (x : Iro) (hx : x.Fits) (A : Option Addr) (n c : Nat) (ps : List Pie) (en : n = ps.length) (hn : n ≤ 1048576) (hf : ∀ p ∈ ps, p.Fits) (A' : Option Addr) (m c' : Nat) (os : List Int) (em : m = os.length) (hm : m ≤ 1048576) (r0 : Int) (r1 : Nat) (hr : sumR 0 x ps os = (r0, r1)) {w : World} {B : Nat} {e : Nat → Addr} (h : Errs w B e) (hB : B ≤ w.heap.size) (hg : Sl Pie.cells 3 w w.heap.size A ps) (hg' : Sl intS.C 1 w w.heap.size A' os) :
    Calls Tryd.prog 67 #[x.v, .slice A n c, .slice A' m c', .int .u8 0] w fun o w' => o = .returned (.tuple #[.int .i64 r0, .int .i64 r1]) ∧ Below w.heap.size w w' := by
  have HR := Lib.hid hr
  have En := Lib.hid en
  have Em := Lib.hid em
  have HFT := Lib.hid hf
  have S0 := Lib.hid (HotS.new x w 27)
  have c0 := S0.out.c0
  have c1 := S0.out.c1
  clear hr en em hf
  cases hc : codeOrd x ps os with
  | zero =>
    have HC := Lib.hid hc
    obtain ⟨hz, rfl⟩ := sum_ok HR.out hc
    have HZ := Lib.hid hz
    clear hc hz
    go_enter Tryd.func67, Tryd.ntmps67
    go_wp2_with fail
    refine (startsOf_ok0 x hx A n c ps En.out hn HFT.out A' m c' os Em.out hm HC.out (h.below (S0.out.b.mono hB)) (Nat.le_trans hB S0.out.b.size) ((hg.below S0.out.b).more S0.out.b.size) ((hg'.below S0.out.b).more S0.out.b.size)).mono ?_
    rintro o w1 ⟨g, rfl, hP, hb1⟩
    have q0 : w1.cell? ⟨g, m * 12 + 11, none⟩ = some (.int .i64 r0) := by
      have := row_cell hP (stFs_at (x := x) (a := 0) (ps := ps) (os := os) (k := m) (by rw [Em.out]; exact Nat.le_refl _)) (j := 11) (by decide)
      rw [this, cellR_11, stF, strOf_11, List.take_of_length_le (by rw [Em.out]; exact Nat.le_refl _), HZ.out]
    have S1 := Lib.hid (S0.out.next hb1)
    have x1 : (m : Int) < (m : Int) + 1 := by omega
    clear c0 c1 hP hb1
    go_wp2_with fail
    go_ret2
    exact ⟨rfl, S1.out.b⟩
  | succ i =>
    have HC := Lib.hid hc
    obtain ⟨rfl, rfl⟩ := sum_no HR.out hc
    have hi := codeOrd_le x ps os
    rw [hc] at hi
    have hi6 : i + 1 ≤ 6 := by omega
    clear hc hi
    go_enter Tryd.func67, Tryd.ntmps67
    go_wp2_with fail
    refine (startsOf_no0 x hx A n c ps En.out hn HFT.out A' m c' os Em.out hm i HC.out (h.below (S0.out.b.mono hB)) (Nat.le_trans hB S0.out.b.size) ((hg.below S0.out.b).more S0.out.b.size) ((hg'.below S0.out.b).more S0.out.b.size)).mono ?_
    rintro o w1 ⟨rfl, hb1⟩
    have S1 := Lib.hid (S0.out.next hb1)
    have HQ := Lib.hid (codeOf_any (h.below (S1.out.b.mono hB)) (i + 1) (by omega))
    rw [show errOf e (i + 1) = errV (e i) from rfl] at HQ ⊢
    clear c0 c1 hb1
    go_wp2_with fail
    refine HQ.out.mono ?_
    rintro o w2 ⟨rfl, rfl⟩
    go_wp2_with fail
    go_ret2
    exact ⟨rfl, S1.out.b⟩

set_option maxRecDepth 100000 in
set_option maxHeartbeats 4000000 in
theorem sumOver_1 (x : Iro) (hx : x.Fits) (A : Option Addr) (n c : Nat) (ps : List Pie) (en : n = ps.length) (hn : n ≤ 1048576) (hf : ∀ p ∈ ps, p.Fits) (A' : Option Addr) (m c' : Nat) (os : List Int) (em : m = os.length) (hm : m ≤ 1048576) (r0 : Int) (r1 : Nat) (hr : sumR 1 x ps os = (r0, r1)) {w : World} {B : Nat} {e : Nat → Addr} (h : Errs w B e) (hB : B ≤ w.heap.size) (hg : Sl Pie.cells 3 w w.heap.size A ps) (hg' : Sl intS.C 1 w w.heap.size A' os) :
    Calls Tryd.prog 67 #[x.v, .slice A n c, .slice A' m c', .int .u8 1] w fun o w' => o = .returned (.tuple #[.int .i64 r0, .int .i64 r1]) ∧ Below w.heap.size w w' := by
  have HR := Lib.hid hr
  have En := Lib.hid en
  have Em := Lib.hid em
  have HFT := Lib.hid hf
  have S0 := Lib.hid (HotS.new x w 27)
  have c0 := S0.out.c0
  have c1 := S0.out.c1
  clear hr en em hf
  cases hc : codeOrd x ps os with
  | zero =>
    have HC := Lib.hid hc
    obtain ⟨hz, rfl⟩ := sum_ok HR.out hc
    have HZ := Lib.hid hz
    clear hc hz
    go_enter Tryd.func67, Tryd.ntmps67
    go_wp2_with fail
    refine (startsOf_ok1 x hx A n c ps En.out hn HFT.out A' m c' os Em.out hm HC.out (h.below (S0.out.b.mono hB)) (Nat.le_trans hB S0.out.b.size) ((hg.below S0.out.b).more S0.out.b.size) ((hg'.below S0.out.b).more S0.out.b.size)).mono ?_
    rintro o w1 ⟨g, rfl, hP, hb1⟩
    have q0 : w1.cell? ⟨g, m * 12 + 11, none⟩ = some (.int .i64 r0) := by
      have := row_cell hP (stFs_at (x := x) (a := 1) (ps := ps) (os := os) (k := m) (by rw [Em.out]; exact Nat.le_refl _)) (j := 11) (by decide)
      rw [this, cellR_11, stF, strOf_11, List.take_of_length_le (by rw [Em.out]; exact Nat.le_refl _), HZ.out]
    have S1 := Lib.hid (S0.out.next hb1)
    have x1 : (m : Int) < (m : Int) + 1 := by omega
    clear c0 c1 hP hb1
    go_wp2_with fail
    go_ret2
    exact ⟨rfl, S1.out.b⟩
  | succ i =>
    have HC := Lib.hid hc
    obtain ⟨rfl, rfl⟩ := sum_no HR.out hc
    have hi := codeOrd_le x ps os
    rw [hc] at hi
    have hi6 : i + 1 ≤ 6 := by omega
    clear hc hi
    go_enter Tryd.func67, Tryd.ntmps67
    go_wp2_with fail
    refine (startsOf_no1 x hx A n c ps En.out hn HFT.out A' m c' os Em.out hm i HC.out (h.below (S0.out.b.mono hB)) (Nat.le_trans hB S0.out.b.size) ((hg.below S0.out.b).more S0.out.b.size) ((hg'.below S0.out.b).more S0.out.b.size)).mono ?_
    rintro o w1 ⟨rfl, hb1⟩
    have S1 := Lib.hid (S0.out.next hb1)
    have HQ := Lib.hid (codeOf_any (h.below (S1.out.b.mono hB)) (i + 1) (by omega))
    rw [show errOf e (i + 1) = errV (e i) from rfl] at HQ ⊢
    clear c0 c1 hb1
    go_wp2_with fail
    refine HQ.out.mono ?_
    rintro o w2 ⟨rfl, rfl⟩
    go_wp2_with fail
    go_ret2
    exact ⟨rfl, S1.out.b⟩

set_option maxRecDepth 100000 in
set_option maxHeartbeats 4000000 in
theorem sumOver_2 (x : Iro) (hx : x.Fits) (A : Option Addr) (n c : Nat) (ps : List Pie) (en : n = ps.length) (hn : n ≤ 1048576) (hf : ∀ p ∈ ps, p.Fits) (A' : Option Addr) (m c' : Nat) (os : List Int) (em : m = os.length) (hm : m ≤ 1048576) (r0 : Int) (r1 : Nat) (hr : sumR 2 x ps os = (r0, r1)) {w : World} {B : Nat} {e : Nat → Addr} (h : Errs w B e) (hB : B ≤ w.heap.size) (hg : Sl Pie.cells 3 w w.heap.size A ps) (hg' : Sl intS.C 1 w w.heap.size A' os) :
    Calls Tryd.prog 67 #[x.v, .slice A n c, .slice A' m c', .int .u8 2] w fun o w' => o = .returned (.tuple #[.int .i64 r0, .int .i64 r1]) ∧ Below w.heap.size w w' := by
  have HR := Lib.hid hr
  have En := Lib.hid en
  have Em := Lib.hid em
  have HFT := Lib.hid hf
  have S0 := Lib.hid (HotS.new x w 27)
  have c0 := S0.out.c0
  have c1 := S0.out.c1
  clear hr en em hf
  cases hc : codeOrd x ps os with
  | zero =>
    have HC := Lib.hid hc
    obtain ⟨hz, rfl⟩ := sum_ok HR.out hc
    have HZ := Lib.hid hz
    clear hc hz
    go_enter Tryd.func67, Tryd.ntmps67
    go_wp2_with fail
    refine (startsOf_ok2 x hx A n c ps En.out hn HFT.out A' m c' os Em.out hm HC.out (h.below (S0.out.b.mono hB)) (Nat.le_trans hB S0.out.b.size) ((hg.below S0.out.b).more S0.out.b.size) ((hg'.below S0.out.b).more S0.out.b.size)).mono ?_
    rintro o w1 ⟨g, rfl, hP, hb1⟩
    have q0 : w1.cell? ⟨g, m * 12 + 11, none⟩ = some (.int .i64 r0) := by
      have := row_cell hP (stFs_at (x := x) (a := 2) (ps := ps) (os := os) (k := m) (by rw [Em.out]; exact Nat.le_refl _)) (j := 11) (by decide)
      rw [this, cellR_11, stF, strOf_11, List.take_of_length_le (by rw [Em.out]; exact Nat.le_refl _), HZ.out]
    have S1 := Lib.hid (S0.out.next hb1)
    have x1 : (m : Int) < (m : Int) + 1 := by omega
    clear c0 c1 hP hb1
    go_wp2_with fail
    go_ret2
    exact ⟨rfl, S1.out.b⟩
  | succ i =>
    have HC := Lib.hid hc
    obtain ⟨rfl, rfl⟩ := sum_no HR.out hc
    have hi := codeOrd_le x ps os
    rw [hc] at hi
    have hi6 : i + 1 ≤ 6 := by omega
    clear hc hi
    go_enter Tryd.func67, Tryd.ntmps67
    go_wp2_with fail
    refine (startsOf_no2 x hx A n c ps En.out hn HFT.out A' m c' os Em.out hm i HC.out (h.below (S0.out.b.mono hB)) (Nat.le_trans hB S0.out.b.size) ((hg.below S0.out.b).more S0.out.b.size) ((hg'.below S0.out.b).more S0.out.b.size)).mono ?_
    rintro o w1 ⟨rfl, hb1⟩
    have S1 := Lib.hid (S0.out.next hb1)
    have HQ := Lib.hid (codeOf_any (h.below (S1.out.b.mono hB)) (i + 1) (by omega))
    rw [show errOf e (i + 1) = errV (e i) from rfl] at HQ ⊢
    clear c0 c1 hb1
    go_wp2_with fail
    refine HQ.out.mono ?_
    rintro o w2 ⟨rfl, rfl⟩
    go_wp2_with fail
    go_ret2
    exact ⟨rfl, S1.out.b⟩

set_option maxRecDepth 100000 in
set_option maxHeartbeats 4000000 in
theorem sumOver_3 (x : Iro) (hx : x.Fits) (A : Option Addr) (n c : Nat) (ps : List Pie) (en : n = ps.length) (hn : n ≤ 1048576) (hf : ∀ p ∈ ps, p.Fits) (A' : Option Addr) (m c' : Nat) (os : List Int) (em : m = os.length) (hm : m ≤ 1048576) (r0 : Int) (r1 : Nat) (hr : sumR 3 x ps os = (r0, r1)) {w : World} {B : Nat} {e : Nat → Addr} (h : Errs w B e) (hB : B ≤ w.heap.size) (hg : Sl Pie.cells 3 w w.heap.size A ps) (hg' : Sl intS.C 1 w w.heap.size A' os) :
    Calls Tryd.prog 67 #[x.v, .slice A n c, .slice A' m c', .int .u8 3] w fun o w' => o = .returned (.tuple #[.int .i64 r0, .int .i64 r1]) ∧ Below w.heap.size w w' := by
  have HR := Lib.hid hr
  have En := Lib.hid en
  have Em := Lib.hid em
  have HFT := Lib.hid hf
  have S0 := Lib.hid (HotS.new x w 27)
  have c0 := S0.out.c0
  have c1 := S0.out.c1
  clear hr en em hf
  cases hc : codeOrd x ps os with
  | zero =>
    have HC := Lib.hid hc
    obtain ⟨hz, rfl⟩ := sum_ok HR.out hc
    have HZ := Lib.hid hz
    clear hc hz
    go_enter Tryd.func67, Tryd.ntmps67
    go_wp2_with fail
    refine (startsOf_ok3 x hx A n c ps En.out hn HFT.out A' m c' os Em.out hm HC.out (h.below (S0.out.b.mono hB)) (Nat.le_trans hB S0.out.b.size) ((hg.below S0.out.b).more S0.out.b.size) ((hg'.below S0.out.b).more S0.out.b.size)).mono ?_
    rintro o w1 ⟨g, rfl, hP, hb1⟩
    have q0 : w1.cell? ⟨g, m * 12 + 11, none⟩ = some (.int .i64 r0) := by
      have := row_cell hP (stFs_at (x := x) (a := 3) (ps := ps) (os := os) (k := m) (by rw [Em.out]; exact Nat.le_refl _)) (j := 11) (by decide)
      rw [this, cellR_11, stF, strOf_11, List.take_of_length_le (by rw [Em.out]; exact Nat.le_refl _), HZ.out]
    have S1 := Lib.hid (S0.out.next hb1)
    have x1 : (m : Int) < (m : Int) + 1 := by omega
    clear c0 c1 hP hb1
    go_wp2_with fail
    go_ret2
    exact ⟨rfl, S1.out.b⟩
  | succ i =>
    have HC := Lib.hid hc
    obtain ⟨rfl, rfl⟩ := sum_no HR.out hc
    have hi := codeOrd_le x ps os
    rw [hc] at hi
    have hi6 : i + 1 ≤ 6 := by omega
    clear hc hi
    go_enter Tryd.func67, Tryd.ntmps67
    go_wp2_with fail
    refine (startsOf_no3 x hx A n c ps En.out hn HFT.out A' m c' os Em.out hm i HC.out (h.below (S0.out.b.mono hB)) (Nat.le_trans hB S0.out.b.size) ((hg.below S0.out.b).more S0.out.b.size) ((hg'.below S0.out.b).more S0.out.b.size)).mono ?_
    rintro o w1 ⟨rfl, hb1⟩
    have S1 := Lib.hid (S0.out.next hb1)
    have HQ := Lib.hid (codeOf_any (h.below (S1.out.b.mono hB)) (i + 1) (by omega))
    rw [show errOf e (i + 1) = errV (e i) from rfl] at HQ ⊢
    clear c0 c1 hb1
    go_wp2_with fail
    refine HQ.out.mono ?_
    rintro o w2 ⟨rfl, rfl⟩
    go_wp2_with fail
    go_ret2
    exact ⟨rfl, S1.out.b⟩

set_option maxRecDepth 100000 in
set_option maxHeartbeats 2000000 in
theorem TotalTime_any (x : Iro) (hx : x.Fits) (A : Option Addr) (n c : Nat) (ps : List Pie) (en : n = ps.length) (hn : n ≤ 1048576) (hf : ∀ p ∈ ps, p.Fits) (A' : Option Addr) (m c' : Nat) (os : List Int) (em : m = os.length) (hm : m ≤ 1048576) (r0 : Int) (r1 : Nat) (hr : sumR 0 x ps os = (r0, r1)) {w : World} {B : Nat} {e : Nat → Addr} (h : Errs w B e) (hB : B ≤ w.heap.size) (hg : Sl Pie.cells 3 w w.heap.size A ps) (hg' : Sl intS.C 1 w w.heap.size A' os) :
    Calls Tryd.prog 31 #[x.v, .slice A n c, .slice A' m c'] w fun o w' => o = .returned (.tuple #[.int .i64 r0, .int .i64 r1]) ∧ Below w.heap.size w w' := by
  have HR := Lib.hid hr
  have En := Lib.hid en
  have Em := Lib.hid em
  have HFT := Lib.hid hf
  have S0 := Lib.hid (HotS.new x w 27)
  have c0 := S0.out.c0
  have c1 := S0.out.c1
  clear hr en em hf
  go_enter Tryd.func31, Tryd.ntmps31
  go_wp2_with fail
  refine (sumOver_0 x hx A n c ps En.out hn HFT.out A' m c' os Em.out hm r0 r1 HR.out (h.below (S0.out.b.mono hB)) (Nat.le_trans hB S0.out.b.size) ((hg.below S0.out.b).more S0.out.b.size) ((hg'.below S0.out.b).more S0.out.b.size)).mono ?_
  rintro o w1 ⟨rfl, hb1⟩
  have S1 := Lib.hid (S0.out.next hb1)
  clear c0 c1 hb1
  go_wp2_with fail
  go_ret2
  exact ⟨rfl, S1.out.b⟩

set_option maxRecDepth 100000 in
set_option maxHeartbeats 2000000 in
theorem LatenessOf_any (x : Iro) (hx : x.Fits) (A : Option Addr) (n c : Nat) (ps : List Pie) (en : n = ps.length) (hn : n ≤ 1048576) (hf : ∀ p ∈ ps, p.Fits) (A' : Option Addr) (m c' : Nat) (os : List Int) (em : m = os.length) (hm : m ≤ 1048576) (r0 : Int) (r1 : Nat) (hr : sumR 2 x ps os = (r0, r1)) {w : World} {B : Nat} {e : Nat → Addr} (h : Errs w B e) (hB : B ≤ w.heap.size) (hg : Sl Pie.cells 3 w w.heap.size A ps) (hg' : Sl intS.C 1 w w.heap.size A' os) :
    Calls Tryd.prog 35 #[x.v, .slice A n c, .slice A' m c'] w fun o w' => o = .returned (.tuple #[.int .i64 r0, .int .i64 r1]) ∧ Below w.heap.size w w' := by
  have HR := Lib.hid hr
  have En := Lib.hid en
  have Em := Lib.hid em
  have HFT := Lib.hid hf
  have S0 := Lib.hid (HotS.new x w 27)
  have c0 := S0.out.c0
  have c1 := S0.out.c1
  clear hr en em hf
  go_enter Tryd.func35, Tryd.ntmps35
  go_wp2_with fail
  refine (sumOver_2 x hx A n c ps En.out hn HFT.out A' m c' os Em.out hm r0 r1 HR.out (h.below (S0.out.b.mono hB)) (Nat.le_trans hB S0.out.b.size) ((hg.below S0.out.b).more S0.out.b.size) ((hg'.below S0.out.b).more S0.out.b.size)).mono ?_
  rintro o w1 ⟨rfl, hb1⟩
  have S1 := Lib.hid (S0.out.next hb1)
  clear c0 c1 hb1
  go_wp2_with fail
  go_ret2
  exact ⟨rfl, S1.out.b⟩

set_option maxRecDepth 100000 in
set_option maxHeartbeats 2000000 in
theorem WaitSum_any (x : Iro) (hx : x.Fits) (A : Option Addr) (n c : Nat) (ps : List Pie) (en : n = ps.length) (hn : n ≤ 1048576) (hf : ∀ p ∈ ps, p.Fits) (A' : Option Addr) (m c' : Nat) (os : List Int) (em : m = os.length) (hm : m ≤ 1048576) (r0 : Int) (r1 : Nat) (hr : sumR 3 x ps os = (r0, r1)) {w : World} {B : Nat} {e : Nat → Addr} (h : Errs w B e) (hB : B ≤ w.heap.size) (hg : Sl Pie.cells 3 w w.heap.size A ps) (hg' : Sl intS.C 1 w w.heap.size A' os) :
    Calls Tryd.prog 45 #[x.v, .slice A n c, .slice A' m c'] w fun o w' => o = .returned (.tuple #[.int .i64 r0, .int .i64 r1]) ∧ Below w.heap.size w w' := by
  have HR := Lib.hid hr
  have En := Lib.hid en
  have Em := Lib.hid em
  have HFT := Lib.hid hf
  have S0 := Lib.hid (HotS.new x w 27)
  have c0 := S0.out.c0
  have c1 := S0.out.c1
  clear hr en em hf
  go_enter Tryd.func45, Tryd.ntmps45
  go_wp2_with fail
  refine (sumOver_3 x hx A n c ps En.out hn HFT.out A' m c' os Em.out hm r0 r1 HR.out (h.below (S0.out.b.mono hB)) (Nat.le_trans hB S0.out.b.size) ((hg.below S0.out.b).more S0.out.b.size) ((hg'.below S0.out.b).more S0.out.b.size)).mono ?_
  rintro o w1 ⟨rfl, hb1⟩
  have S1 := Lib.hid (S0.out.next hb1)
  clear c0 c1 hb1
  go_wp2_with fail
  go_ret2
  exact ⟨rfl, S1.out.b⟩

end Go.Proofs.YtajhdgoinghmmaaDoor.iron

/-
  TotalTime, LatenessOf, WaitSum: the model's.
-/
namespace Go.Proofs.YtajhdgoinghmmaaDoor.iron
open Go Go.RowKit sl stk errs row fold

theorem snoc_ind {α : Type} {P : List α → Prop} (h0 : P []) (h1 : ∀ xs x, P xs → P (xs ++ [x])) (xs : List α) : P xs := by
  have key : ∀ n (xs : List α), xs.length = n → P xs := fun n => by
    induction n with
    | zero => intro xs hx; rw [List.length_eq_zero_iff.1 hx]; exact h0
    | succ n ih =>
      intro xs hx
      have hne : xs ≠ [] := fun e => by rw [e] at hx; cases hx
      rw [← List.dropLast_concat_getLast hne]
      exact h1 _ _ (ih _ (by rw [List.length_dropLast, hx]; rfl))
  exact key _ xs rfl
theorem runs0_sum (x : Iro) (ps : List Pie) (os : List Int) : (runs x 0 ps os).sum = (runs x 0 ps os).at_ := by
  induction os using snoc_ind with
  | h0 => rfl
  | h1 os i ih => rw [runs_snoc]; rfl
theorem runs3_sum {x : Iro} {ps : List Pie} {os : List Int} {k : Nat} {i : Int} (h : os[k]? = some i) : (runs x 3 ps (os.take (k + 1))).sum = (runs x 3 ps (os.take k)).sum + (runs x 0 ps (os.take (k + 1))).at_ := by
  rw [← (runs_same x 3 0 ps (os.take (k + 1))).2, runs_take h]
  rfl
theorem runs2_sum {x : Iro} {ps : List Pie} {os : List Int} {k : Nat} {i : Int} (h : os[k]? = some i) : (runs x 2 ps (os.take (k + 1))).sum = (runs x 2 ps (os.take k)).sum + late (ptv ps i) (runs x 0 ps (os.take (k + 1))).at_ := by
  rw [← (runs_same x 2 0 ps (os.take (k + 1))).2, runs_take h]
  rfl
set_option maxRecDepth 100000 in
set_option maxHeartbeats 4000000 in
theorem TotalTime_spec (x : Iro) (hx : x.Fits) (A : Option Addr) (n c : Nat) (ps : List Pie) (en : n = ps.length) (hn : n ≤ 1048576) (hf : ∀ p ∈ ps, p.Fits) (A' : Option Addr) (m : Nat) (os : List Int) (em : m = os.length) (hm : m ≤ 1048576) (r0 : Int) (r1 : Nat) (hr : sumR 0 x ps os = (r0, r1)) (w : World) (hg : Sl Pie.cells 3 w w.heap.size A ps) (hg' : Sl intS.C 1 w w.heap.size A' os) :
    Calls Tryd.prog 30 #[x.v, .slice A n c, .slice A' m m] w fun o w' => o = .returned (.tuple #[.int .i64 r0, .int .i64 r1]) ∧ Below w.heap.size w w' := by
  obtain ⟨k0, hk0⟩ : ∃ k : Nat, codeOrd x ps os = k := ⟨_, rfl⟩
  have HK0 := Lib.hid hk0
  have HR := Lib.hid hr
  have En := Lib.hid en
  have Em := Lib.hid em
  have HFT := Lib.hid hf
  have S0 := Lib.hid (HotS.new x w 27)
  have c0 := S0.out.c0
  have c1 := S0.out.c1
  clear hk0 hr en em hf
  go_enter Tryd.func30, Tryd.ntmps30
  go_wp2_with fail
  refine (l07Ordered_any x hx A n c ps En.out hn HFT.out A' m os Em.out hm k0 HK0.out _ ((hg.below S0.out.b).more S0.out.b.size) ((hg'.below S0.out.b).more S0.out.b.size)).mono ?_
  rintro o w1 ⟨rfl, hb1⟩
  have S1 := Lib.hid (S0.out.next hb1)
  clear c0 c1 hb1
  have c0 := S1.out.c0
  have c1 := S1.out.c1
  cases k0 with
  | zero =>
    obtain ⟨hz, rfl⟩ := sum_ok HR.out HK0.out
    have HZ := Lib.hid hz
    clear hz
    obtain ⟨hv, hp, h8, hl, hgd⟩ := codeOrd_zero HK0.out
    rw [← En.out] at h8 hl hgd
    rw [← Em.out] at hl hgd
    have HV := Lib.hid hv
    have HP := Lib.hid hp
    have HO := Lib.hid (good_in (by rw [← Em.out]; exact hgd))
    have hm8 : m ≤ 8 := by omega
    have HMN := Lib.hid hl
    clear hv hp hgd hl
    go_wp2_with fail
    refine (l07Times_any x HV.out A n c ps En.out h8 HP.out A' m os Em.out hm8 HO.out _ ((hg.below S1.out.b).more S1.out.b.size) ((hg'.below S1.out.b).more S1.out.b.size)).mono ?_
    rintro o w2 ⟨v, rfl, hT, hb2⟩
    obtain ⟨At, ct, rfl, _⟩ := owns_slice hT
    have S2 := Lib.hid (S1.out.next hb2)
    have HTT := Lib.hid hT
    have ST := Lib.hid (Sl.of_owns hT (intS.len _) (by decide))
    clear c0 c1 hb2 hT
    cases m with
    | zero =>
      have E : Hid (r0 = 0) := Lib.hid (by rw [← HZ.out, List.length_eq_zero_iff.1 Em.out.symm]; rfl)
      go_wp2_with fail
      go_ret2
      rw [E.out]
      exact ⟨rfl, S2.out.b⟩
    | succ q =>
      obtain ⟨a, rfl, hab, hat⟩ := ST.out.at_ q _ (tims_at (x := x) (ps := ps) (os := os) (k := q) (by rw [← Em.out]; omega))
      have q0 := intS.at_ hat
      rw [List.take_of_length_le (by rw [← Em.out]; exact Nat.le_refl _), ← runs0_sum, HZ.out] at q0
      have hne : ((q : Int) + 1 == 0) = false := by rw [beq_eq_false_iff_ne]; omega
      have x1 : (q : Int) + 1 - 1 = (q : Int) := by omega
      clear hat
      go_wp2_with fail
      go_ret2
      exact ⟨rfl, S2.out.b⟩
  | succ i =>
    obtain ⟨rfl, rfl⟩ := sum_no HR.out HK0.out
    have hne : (((i + 1 : Nat) : Int) != 0) = true := by rw [bne_iff_ne]; omega
    have hne2 : (((i : Int) + 1) != 0) = true := by rw [bne_iff_ne]; omega
    go_wp2_with fail
    go_ret2
    exact ⟨by simp, S1.out.b⟩
set_option maxRecDepth 100000 in
set_option maxHeartbeats 4000000 in
theorem WaitSum_spec (x : Iro) (hx : x.Fits) (A : Option Addr) (n c : Nat) (ps : List Pie) (en : n = ps.length) (hn : n ≤ 1048576) (hf : ∀ p ∈ ps, p.Fits) (A' : Option Addr) (m : Nat) (os : List Int) (em : m = os.length) (hm : m ≤ 1048576) (r0 : Int) (r1 : Nat) (hr : sumR 3 x ps os = (r0, r1)) (w : World) (hg : Sl Pie.cells 3 w w.heap.size A ps) (hg' : Sl intS.C 1 w w.heap.size A' os) :
    Calls Tryd.prog 44 #[x.v, .slice A n c, .slice A' m m] w fun o w' => o = .returned (.tuple #[.int .i64 r0, .int .i64 r1]) ∧ Below w.heap.size w w' := by
  obtain ⟨k0, hk0⟩ : ∃ k : Nat, codeOrd x ps os = k := ⟨_, rfl⟩
  have HK0 := Lib.hid hk0
  have HR := Lib.hid hr
  have En := Lib.hid en
  have Em := Lib.hid em
  have HFT := Lib.hid hf
  have S0 := Lib.hid (HotS.new x w 27)
  have c0 := S0.out.c0
  have c1 := S0.out.c1
  clear hk0 hr en em hf
  go_enter Tryd.func44, Tryd.ntmps44
  go_wp2_with fail
  refine (l07Ordered_any x hx A n c ps En.out hn HFT.out A' m os Em.out hm k0 HK0.out _ ((hg.below S0.out.b).more S0.out.b.size) ((hg'.below S0.out.b).more S0.out.b.size)).mono ?_
  rintro o w1 ⟨rfl, hb1⟩
  have S1 := Lib.hid (S0.out.next hb1)
  clear c0 c1 hb1
  have c0 := S1.out.c0
  have c1 := S1.out.c1
  cases k0 with
  | zero =>
    obtain ⟨hz, rfl⟩ := sum_ok HR.out HK0.out
    have HZ := Lib.hid hz
    clear hz
    obtain ⟨hv, hp, h8, hl, hgd⟩ := codeOrd_zero HK0.out
    rw [← En.out] at h8 hl hgd
    rw [← Em.out] at hl hgd
    have HV := Lib.hid hv
    have HP := Lib.hid hp
    have HO := Lib.hid (good_in (by rw [← Em.out]; exact hgd))
    have hm8 : m ≤ 8 := by omega
    have HMN := Lib.hid hl
    clear hv hp hgd hl
    go_wp2_with fail
    refine (l07Times_any x HV.out A n c ps En.out h8 HP.out A' m os Em.out hm8 HO.out _ ((hg.below S1.out.b).more S1.out.b.size) ((hg'.below S1.out.b).more S1.out.b.size)).mono ?_
    rintro o w2 ⟨v, rfl, hT, hb2⟩
    obtain ⟨At, ct, rfl, _⟩ := owns_slice hT
    have S2 := Lib.hid (S1.out.next hb2)
    have HTT := Lib.hid hT
    have ST := Lib.hid (Sl.of_owns hT (intS.len _) (by decide))
    clear c0 c1 hb2 hT
    go_wp2_with fail
    go_loop [10, 11] (fun vs vi => ∃ k : Nat, k ≤ m ∧ vi = .int .i64 k ∧ vs = .int .i64 (runs x 3 ps (os.take k)).sum) (fun _ vi => m - (intOf vi).toNat)
    case atStart => exact ⟨0, by omega, rfl, rfl⟩
    case round =>
      obtain ⟨k, hk, rfl, rfl⟩ := hrel
      have ok := runs_ok (x := x) 3 HV.out HP.out (os := os) k (by have := Em.out; omega) (by omega)
      obtain ⟨z, hz⟩ : ∃ z, (runs x 3 ps (os.take k)).sum = z := ⟨_, rfl⟩
      have z0 := ok.s0
      have z1 := ok.s1
      rw [hz] at z0 z1 ⊢
      have HSZ := Lib.hid hz
      clear ok hz
      by_cases hlt : k < m
      · obtain ⟨i, hi⟩ : ∃ i, os[k]? = some i := ⟨os[k]'(by have := Em.out; omega), List.getElem?_eq_getElem _⟩
        obtain ⟨a, rfl, hab, hat⟩ := ST.out.at_ k _ (tims_at (x := x) (ps := ps) (os := os) (k := k) (by rw [← Em.out]; omega))
        have q0 := intS.at_ hat
        have ok := runs_ok (x := x) 0 HV.out HP.out (os := os) (k + 1) (by have := Em.out; omega) (by omega)
        obtain ⟨t, ht⟩ : ∃ t, (runs x 0 ps (os.take (k + 1))).at_ = t := ⟨_, rfl⟩
        have t0 := ok.a0
        have t1 := ok.a1
        rw [ht] at q0 t0 t1
        have HN : Hid ((runs x 3 ps (os.take (k + 1))).sum = z + t) := Lib.hid (by rw [runs3_sum hi, HSZ.out, ht])
        clear hi hat ok ht
        go_wp2_with fail
        go_round
        case rel => exact ⟨k + 1, by omega, by go_num, by rw [HN.out]⟩
        case measure => simp [intOf]; omega
      · obtain rfl : k = m := by omega
        have HN : Hid (z = r0) := Lib.hid (by rw [← HSZ.out, List.take_of_length_le (by rw [← Em.out]; exact Nat.le_refl _)]; exact HZ.out)
        go_wp2_with fail
        go_ret2
        rw [HN.out]
        exact ⟨rfl, S2.out.b⟩
  | succ i =>
    obtain ⟨rfl, rfl⟩ := sum_no HR.out HK0.out
    have hne : (((i + 1 : Nat) : Int) != 0) = true := by rw [bne_iff_ne]; omega
    have hne2 : (((i : Int) + 1) != 0) = true := by rw [bne_iff_ne]; omega
    go_wp2_with fail
    go_ret2
    exact ⟨by simp, S1.out.b⟩
theorem l00Max_q (a b z : Int) (hz : (if b < a then a else b) = z) (w : World) :
    Calls Tryd.prog 69 #[.int .i64 a, .int .i64 b] w fun e w' => e = .returned (.int .i64 z) ∧ w' = w := by
  subst hz
  exact (l00Max_any a b w).mono fun _ _ h => ⟨h.1, h.2.symm⟩
set_option maxRecDepth 100000 in
set_option maxHeartbeats 4000000 in
theorem LatenessOf_spec (x : Iro) (hx : x.Fits) (A : Option Addr) (n c : Nat) (ps : List Pie) (en : n = ps.length) (hn : n ≤ 1048576) (hf : ∀ p ∈ ps, p.Fits) (A' : Option Addr) (m : Nat) (os : List Int) (em : m = os.length) (hm : m ≤ 1048576) (r0 : Int) (r1 : Nat) (hr : sumR 2 x ps os = (r0, r1)) (w : World) (hg : Sl Pie.cells 3 w w.heap.size A ps) (hg' : Sl intS.C 1 w w.heap.size A' os) :
    Calls Tryd.prog 34 #[x.v, .slice A n c, .slice A' m m] w fun o w' => o = .returned (.tuple #[.int .i64 r0, .int .i64 r1]) ∧ Below w.heap.size w w' := by
  obtain ⟨k0, hk0⟩ : ∃ k : Nat, codeOrd x ps os = k := ⟨_, rfl⟩
  have HK0 := Lib.hid hk0
  have HR := Lib.hid hr
  have En := Lib.hid en
  have Em := Lib.hid em
  have HFT := Lib.hid hf
  have S0 := Lib.hid (HotS.new x w 27)
  have c0 := S0.out.c0
  have c1 := S0.out.c1
  clear hk0 hr en em hf
  go_enter Tryd.func34, Tryd.ntmps34
  go_wp2_with fail
  refine (l07Ordered_any x hx A n c ps En.out hn HFT.out A' m os Em.out hm k0 HK0.out _ ((hg.below S0.out.b).more S0.out.b.size) ((hg'.below S0.out.b).more S0.out.b.size)).mono ?_
  rintro o w1 ⟨rfl, hb1⟩
  have S1 := Lib.hid (S0.out.next hb1)
  clear c0 c1 hb1
  have c0 := S1.out.c0
  have c1 := S1.out.c1
  cases k0 with
  | zero =>
    obtain ⟨hz, rfl⟩ := sum_ok HR.out HK0.out
    have HZ := Lib.hid hz
    clear hz
    obtain ⟨hv, hp, h8, hl, hgd⟩ := codeOrd_zero HK0.out
    rw [← En.out] at h8 hl hgd
    rw [← Em.out] at hl hgd
    have HV := Lib.hid hv
    have HP := Lib.hid hp
    have HO := Lib.hid (good_in (by rw [← Em.out]; exact hgd))
    have hm8 : m ≤ 8 := by omega
    have HMN := Lib.hid hl
    clear hv hp hgd hl
    go_wp2_with fail
    refine (l07Times_any x HV.out A n c ps En.out h8 HP.out A' m os Em.out hm8 HO.out _ ((hg.below S1.out.b).more S1.out.b.size) ((hg'.below S1.out.b).more S1.out.b.size)).mono ?_
    rintro o w2 ⟨v, rfl, hT, hb2⟩
    obtain ⟨At, ct, rfl, _⟩ := owns_slice hT
    have S2 := Lib.hid (S1.out.next hb2)
    have HTT := Lib.hid hT
    have ST := Lib.hid (Sl.of_owns hT (intS.len _) (by decide))
    clear c0 c1 hb2 hT
    go_wp2_with fail
    go_loopw [10, 11] (fun vs vi wr => ∃ k : Nat, k ≤ m ∧ vi = .int .i64 k ∧ vs = .int .i64 (runs x 2 ps (os.take k)).sum ∧ Below w2.heap.size w2 wr) (fun _ vi _ => m - (intOf vi).toNat)
    case atStart => exact ⟨0, by omega, rfl, rfl, Below.refl _ _⟩
    case round =>
      obtain ⟨k, hk, rfl, rfl, hBr⟩ := hrel
      have S3 := Lib.hid (S2.out.next hBr)
      have HBR := Lib.hid hBr
      clear hBr
      have ok := runs_ok (x := x) 2 HV.out HP.out (os := os) k (by have := Em.out; omega) (by omega)
      obtain ⟨z, hz⟩ : ∃ z, (runs x 2 ps (os.take k)).sum = z := ⟨_, rfl⟩
      have z0 := ok.s0
      have z1 := ok.s1
      rw [hz] at z0 z1 ⊢
      have HSZ := Lib.hid hz
      clear ok hz
      by_cases hlt : k < m
      · obtain ⟨i, hi⟩ : ∃ i, os[k]? = some i := ⟨os[k]'(by have := Em.out; omega), List.getElem?_eq_getElem _⟩
        obtain ⟨j, rfl⟩ := Int.eq_ofNat_of_zero_le (HO.out i (List.mem_of_getElem? hi)).1
        have hjn : j < n := by have := (HO.out _ (List.mem_of_getElem? hi)).2; omega
        obtain ⟨y, hy⟩ : ∃ y, ps[j]? = some y := ⟨ps[j]'(by have := En.out; omega), List.getElem?_eq_getElem _⟩
        have hptv : ptv ps (j : Int) = y := by unfold ptv; rw [List.getD_eq_getElem?_getD, Int.toNat_natCast, hy]; rfl
        obtain ⟨_, _, y4, y5⟩ := pieB_iff.1 (List.all_eq_true.1 HP.out _ (List.mem_of_getElem? hy))
        obtain ⟨a, rfl, hab, hat⟩ := (ST.out.next HBR.out).at_ k _ (tims_at (x := x) (ps := ps) (os := os) (k := k) (by rw [← Em.out]; omega))
        have q0 := intS.at_ hat
        obtain ⟨a', rfl, hab', hat'⟩ := ((hg'.below S3.out.b).more S3.out.b.size).at_ k _ hi
        have q1 := intS.at_ hat'
        obtain ⟨a'', rfl, hab'', hat''⟩ := ((hg.below S3.out.b).more S3.out.b.size).at_ j y hy
        obtain ⟨_, _, p2⟩ := pieS.at_ hat''
        have ok := runs_ok (x := x) 0 HV.out HP.out (os := os) (k + 1) (by have := Em.out; omega) (by omega)
        obtain ⟨t, ht⟩ : ∃ t, (runs x 0 ps (os.take (k + 1))).at_ = t := ⟨_, rfl⟩
        have t0 := ok.a0
        have t1 := ok.a1
        rw [ht] at q0 t0 t1
        have hlb := late_bd (p := y) (t := t) (List.all_eq_true.1 HP.out _ (List.mem_of_getElem? hy)) t0
        obtain ⟨lt, hlt'⟩ : ∃ lt, late y t = lt := ⟨_, rfl⟩
        rw [hlt'] at hlb
        obtain ⟨lb0, lb1⟩ := hlb
        have HN : Hid ((runs x 2 ps (os.take (k + 1))).sum = z + lt) := Lib.hid (by rw [runs2_sum hi, HSZ.out, ht, hptv, hlt'])
        have HLT : Hid ((if t - y.due < 0 then 0 else t - y.due) = lt) := Lib.hid hlt'
        have x1 : IntKind.i64.wrap y.due = y.due := IntWalk.i64_in _ (by omega)
        have x2 : IntKind.i64.wrap (t - y.due) = t - y.due := IntWalk.i64_in _ (by omega)
        have x3 : IntKind.i64.wrap (z + lt) = z + lt := IntWalk.i64_in _ (by omega)
        have x4 : (0 : Int) ≤ (k : Int) := by omega
        have x5 : (k : Int) < (m : Int) := by omega
        have x6 : (0 : Int) ≤ (j : Int) := by omega
        have x7 : (j : Int) < (n : Int) := by omega
        clear hi hat hat' hat'' ok ht hptv hy hlt'
        go_wp2_with fail
        go_quiet ((go_at_call 69; exact Calls.quiet_of_same (l00Max_q 0 (t - y.due) lt HLT.out _)))
        clear x1 x2 x3 x4 x5 x6 x7
        go_wp2_with fail
        go_roundw
        case rel => exact ⟨k + 1, by omega, by go_num, by rw [HN.out], HBR.out.trans (below_drewN _ _ _)⟩
        case measure => simp [intOf]; omega
      · obtain rfl : k = m := by omega
        have HN : Hid (z = r0) := Lib.hid (by rw [← HSZ.out, List.take_of_length_le (by rw [← Em.out]; exact Nat.le_refl _)]; exact HZ.out)
        go_wp2_with fail
        go_ret2
        rw [HN.out]
        exact ⟨rfl, S3.out.b⟩
  | succ i =>
    obtain ⟨rfl, rfl⟩ := sum_no HR.out HK0.out
    have hne : (((i + 1 : Nat) : Int) != 0) = true := by rw [bne_iff_ne]; omega
    have hne2 : (((i : Int) + 1) != 0) = true := by rw [bne_iff_ne]; omega
    go_wp2_with fail
    go_ret2
    exact ⟨by simp, S1.out.b⟩
end Go.Proofs.YtajhdgoinghmmaaDoor.iron

/-
  FinishTimes, the program's and the model's.
-/
namespace Go.Proofs.YtajhdgoinghmmaaDoor.iron
open Go Go.RowKit sl stk errs row fold

/-- when pieces are finished, and the code -/
noncomputable def finR (x : Iro) (ps : List Pie) (os : List Int) : List Int × Nat := if codeOrd x ps os = 0 then (tims x ps os, 0) else ([], codeOrd x ps os)
theorem fin_ok {x : Iro} {ps : List Pie} {os ys : List Int} {r1 : Nat} (h : finR x ps os = (ys, r1)) (hc : codeOrd x ps os = 0) : tims x ps os = ys ∧ r1 = 0 := by
  rw [finR, if_pos hc] at h
  simp at h
  exact ⟨h.1, h.2.symm⟩
theorem fin_no {x : Iro} {ps : List Pie} {os ys : List Int} {r1 i : Nat} (h : finR x ps os = (ys, r1)) (hc : codeOrd x ps os = i + 1) : ys = [] ∧ r1 = i + 1 := by
  rw [finR, if_neg (by omega), hc] at h
  simp at h
  exact ⟨h.1, h.2.symm⟩
theorem tims_len (x : Iro) (ps : List Pie) (os : List Int) : (tims x ps os).length = os.length := timK_len x ps os _
theorem finR_le {x : Iro} {ps : List Pie} {os ys : List Int} {r1 : Nat} (h : finR x ps os = (ys, r1)) : ys.length ≤ 1048576 := by
  cases hc : codeOrd x ps os with
  | zero =>
    obtain ⟨_, _, h8, hl, _⟩ := codeOrd_zero hc
    rw [← (fin_ok h hc).1, tims_len]
    omega
  | succ i => rw [(fin_no h hc).1]; simp
set_option maxRecDepth 100000 in
set_option maxHeartbeats 4000000 in
theorem FinishTimes_spec (x : Iro) (hx : x.Fits) (A : Option Addr) (n c : Nat) (ps : List Pie) (en : n = ps.length) (hn : n ≤ 1048576) (hf : ∀ p ∈ ps, p.Fits) (A' : Option Addr) (m : Nat) (os : List Int) (em : m = os.length) (hm : m ≤ 1048576) (ys : List Int) (r1 : Nat) (hr : finR x ps os = (ys, r1)) (w : World) (hg : Sl Pie.cells 3 w w.heap.size A ps) (hg' : Sl intS.C 1 w w.heap.size A' os) :
    Calls Tryd.prog 21 #[x.v, .slice A n c, .slice A' m m] w fun o w' => ∃ v, o = .returned (.tuple #[v, .int .i64 r1]) ∧ w'.ownsRow w.heap.size 2 1 v ys.length (ys.flatMap intS.C) ∧ Below w.heap.size w w' := by
  obtain ⟨k0, hk0⟩ : ∃ k : Nat, codeOrd x ps os = k := ⟨_, rfl⟩
  have HK0 := Lib.hid hk0
  have HR := Lib.hid hr
  have En := Lib.hid en
  have Em := Lib.hid em
  have HFT := Lib.hid hf
  have S0 := Lib.hid (HotS.new x w 27)
  have c0 := S0.out.c0
  have c1 := S0.out.c1
  clear hk0 hr en em hf
  go_enter Tryd.func21, Tryd.ntmps21
  go_wp2_with fail
  refine (l07Ordered_any x hx A n c ps En.out hn HFT.out A' m os Em.out hm k0 HK0.out _ ((hg.below S0.out.b).more S0.out.b.size) ((hg'.below S0.out.b).more S0.out.b.size)).mono ?_
  rintro o w1 ⟨rfl, hb1⟩
  have S1 := Lib.hid (S0.out.next hb1)
  clear c0 c1 hb1
  have c0 := S1.out.c0
  have c1 := S1.out.c1
  cases k0 with
  | zero =>
    obtain ⟨hz, rfl⟩ := fin_ok HR.out HK0.out
    have HZ := Lib.hid hz
    clear hz
    obtain ⟨hv, hp, h8, hl, hgd⟩ := codeOrd_zero HK0.out
    rw [← En.out] at h8 hl hgd
    rw [← Em.out] at hl hgd
    have HV := Lib.hid hv
    have HP := Lib.hid hp
    have HO := Lib.hid (good_in (by rw [← Em.out]; exact hgd))
    have hm8 : m ≤ 8 := by omega
    have HMN := Lib.hid hl
    clear hv hp hgd hl
    go_wp2_with fail
    refine (l07Times_any x HV.out A n c ps En.out h8 HP.out A' m os Em.out hm8 HO.out _ ((hg.below S1.out.b).more S1.out.b.size) ((hg'.below S1.out.b).more S1.out.b.size)).mono ?_
    rintro o w2 ⟨v, rfl, hT, hb2⟩
    obtain ⟨At, ct, rfl, _⟩ := owns_slice hT
    have S2 := Lib.hid (S1.out.next hb2)
    have HTT := Lib.hid hT
    have ST := Lib.hid (Sl.of_owns hT (intS.len _) (by decide))
    clear c0 c1 hb2 hT
    have hys : ys.length = m := by rw [← HZ.out, tims_len, Em.out]
    have HYS := Lib.hid hys
    clear hys
    go_wp2_with fail
    go_ret2
    refine ⟨_, rfl, ?_, S2.out.b⟩
    rw [HYS.out, ← HZ.out]
    exact owns_below HTT.out S1.out.b.size
  | succ i =>
    obtain ⟨rfl, rfl⟩ := fin_no HR.out HK0.out
    have hne : (((i + 1 : Nat) : Int) != 0) = true := by rw [bne_iff_ne]; omega
    have hne2 : (((i : Int) + 1) != 0) = true := by rw [bne_iff_ne]; omega
    go_wp2_with fail
    go_ret2
    exact ⟨_, by first | (simp; done) | (simp; rfl), own_noI S1.out.b.size, S1.out.b.alloc S1.out.b.size _⟩
set_option maxRecDepth 100000 in
set_option maxHeartbeats 4000000 in
theorem FinishTimes_any (x : Iro) (hx : x.Fits) (A : Option Addr) (n c : Nat) (ps : List Pie) (en : n = ps.length) (hn : n ≤ 1048576) (hf : ∀ p ∈ ps, p.Fits) (A' : Option Addr) (m c' : Nat) (os : List Int) (em : m = os.length) (hm : m ≤ 1048576) (ys : List Int) (r1 : Nat) (hr : finR x ps os = (ys, r1)) {w : World} {B : Nat} {e : Nat → Addr} (h : Errs w B e) (hB : B ≤ w.heap.size) (hg : Sl Pie.cells 3 w w.heap.size A ps) (hg' : Sl intS.C 1 w w.heap.size A' os) :
    Calls Tryd.prog 24 #[x.v, .slice A n c, .slice A' m c'] w fun o w' => ∃ v, o = .returned (.tuple #[v, .int .i64 r1]) ∧ w'.ownsRow w.heap.size 2 1 v ys.length (ys.flatMap intS.C) ∧ Below w.heap.size w w' := by
  have HR := Lib.hid hr
  have En := Lib.hid en
  have Em := Lib.hid em
  have HFT := Lib.hid hf
  have S0 := Lib.hid (HotS.new x w 27)
  have c0 := S0.out.c0
  have c1 := S0.out.c1
  clear hr en em hf
  cases hc : codeOrd x ps os with
  | zero =>
    have HC := Lib.hid hc
    obtain ⟨hz, rfl⟩ := fin_ok HR.out hc
    have HZ := Lib.hid hz
    obtain ⟨i0, hI, hz0, hz1, hz2⟩ := info_parts intS.info
    have hmk : ∀ u : World, (Instr.makeSlice 31 (.int .i64 (m : Int)) (.int .i64 (m : Int))).run Tryd.prog u =
        .ok (.slice (some ⟨u.heap.size, 0, none⟩) m m) (u.alloc (.cells (madeCells #[.int .i64 0] m) 2)) := fun u => by
      have h := run_make (P := Tryd.prog) u 31 2 i0 _ Tryd.underlying31 hI hz0 .i64 .i64 (m : Int) (m : Int) (by omega) (Int.le_refl _) (by rw [hz2]; omega) (by omega)
      have e : ((m : Int)).toNat = m := by omega
      rw [e] at h
      simpa [hz1, Value.cells] using h
    clear hc hz hI hz0 hz1 hz2
    go_enter Tryd.func24, Tryd.ntmps24
    go_wp2_with fail
    refine (startsOf_ok0 x hx A n c ps En.out hn HFT.out A' m c' os Em.out hm HC.out (h.below (S0.out.b.mono hB)) (Nat.le_trans hB S0.out.b.size) ((hg.below S0.out.b).more S0.out.b.size) ((hg'.below S0.out.b).more S0.out.b.size)).mono ?_
    rintro o w1 ⟨g, rfl, hP, hb1⟩
    have S1 := Lib.hid (S0.out.next hb1)
    have HP1 := Lib.hid hP
    have hlg := (hP.lt g rfl).2
    obtain ⟨w2, hw2⟩ : ∃ u, u = w1.alloc (.cells (madeCells #[.int .i64 0] m) 2) := ⟨_, rfl⟩
    have hT0 : w2.ownsRow (w.heap.size + 1) 2 1 (.slice (some ⟨w1.heap.size, 0, none⟩) m m) m (madeCells #[.int .i64 0] m).toList := by
      rw [hw2]
      exact World.ownsRow_lit w1 (madeCells #[.int .i64 0] m) m S1.out.z (by unfold maxLen; omega) (by rw [size_madeCells, Nat.mul_one])
    have hb2 : Below w1.heap.size w1 w2 := by rw [hw2]; exact (Below.refl _ _).alloc (Nat.le_refl _) _
    have S2 := Lib.hid (S1.out.next hb2)
    have HT0 := Lib.hid hT0
    have HBB2 := Lib.hid hb2
    have HW := Lib.hid hw2
    clear c0 c1 hb1 hP hw2 hT0 hb2
    go_wp2_with (first | (rw [← HW.out]) | fail)
    go_loopw [28, 11] (fun vi _ wr => ∃ (k : Nat) (L : List Value), k ≤ m ∧ vi = .int .i64 (k : Nat) ∧ wr.ownsRow (w.heap.size + 1) 2 1 (.slice (some ⟨w1.heap.size, 0, none⟩) m m) m L ∧ Done intS.C 1 (tims x ps os) k L ∧ Below w1.heap.size w1 wr) (fun vi _ _ => m - (intOf vi).toNat)
    case atStart => exact ⟨0, _, by omega, rfl, HT0.out, Done.zero _ _ _ _, HBB2.out⟩
    case round =>
      clear HT0 S2 HBB2 HW hmk
      obtain ⟨k, L, hk, rfl, hP, hD, hB1⟩ := hrel
      have HPk := Lib.hid hP
      have HDk := Lib.hid hD
      have HBk := Lib.hid hB1
      clear hP hD hB1
      by_cases hlt : k < m
      · have q0 : wr.cell? ⟨g, (k + 1) * 12 + 10, none⟩ = some (.int .i64 (runs x 0 ps (os.take (k + 1))).at_) := by
          have := row_cell HP1.out (stFs_at (x := x) (a := 0) (ps := ps) (os := os) (k := k + 1) (by rw [← Em.out]; omega)) (j := 10) (by decide)
          rw [cellR_10, stF, strOf_10] at this
          exact (HBk.out.cell (p := ⟨g, (k + 1) * 12 + 10, none⟩) hlg).trans this
        have hte := tims_at (x := x) (ps := ps) (os := os) (k := k) (by rw [← Em.out]; exact hlt)
        obtain ⟨t, ht⟩ : ∃ t, (runs x 0 ps (os.take (k + 1))).at_ = t := ⟨_, rfl⟩
        rw [ht] at q0 hte
        have HTE := Lib.hid hte
        have hLL := HPk.out.1
        obtain ⟨v0, s0⟩ : ∃ v, wr.cell? ⟨w1.heap.size, k, none⟩ = some v := ⟨L[k]'(by omega), (HPk.out.cellAt k (by omega)).trans (List.getElem?_eq_getElem _)⟩
        have f0 := HPk.out.frozenAt k
        have HLL := Lib.hid hLL
        have x1 : (k : Int) + 1 < (m : Int) + 1 := by omega
        clear hLL hte ht
        go_wp2_with fail
        go_roundw
        case rel =>
          have hP3 := (HPk.out.stored k (.int .i64 t)).1
          refine ⟨k + 1, _, by omega, by go_num, hP3, ?_, HBk.out.setCell (p := ⟨w1.heap.size, k, none⟩) (Nat.le_refl _) _⟩
          have hd := HDk.out.step (intS.len _) HTE.out (by rw [HLL.out, tims_len, Em.out])
          rw [Nat.mul_one] at hd
          exact hd
        case measure => simp [intOf]; omega
      · obtain rfl : k = m := by omega
        have e1 : Hid (L = ys.flatMap intS.C) := Lib.hid (by
          rw [← HZ.out]
          exact Done.full (by rw [tims_len, ← Em.out]; exact HDk.out) (intS.len _) (by omega) (by rw [HPk.out.1, tims_len, Em.out]))
        have hyl : Hid (ys.length = k) := Lib.hid (by rw [← HZ.out, tims_len, Em.out])
        go_wp2_with fail
        go_ret2
        refine ⟨_, rfl, ?_, (S1.out.next HBk.out).b⟩
        rw [hyl.out, ← e1.out]
        exact owns_below HPk.out (by omega)
  | succ i =>
    have HC := Lib.hid hc
    obtain ⟨rfl, rfl⟩ := fin_no HR.out hc
    have hi := codeOrd_le x ps os
    rw [hc] at hi
    have hi6 : i + 1 ≤ 6 := by omega
    clear hc hi
    go_enter Tryd.func24, Tryd.ntmps24
    go_wp2_with fail
    refine (startsOf_no0 x hx A n c ps En.out hn HFT.out A' m c' os Em.out hm i HC.out (h.below (S0.out.b.mono hB)) (Nat.le_trans hB S0.out.b.size) ((hg.below S0.out.b).more S0.out.b.size) ((hg'.below S0.out.b).more S0.out.b.size)).mono ?_
    rintro o w1 ⟨rfl, hb1⟩
    have S1 := Lib.hid (S0.out.next hb1)
    have HQ := Lib.hid (codeOf_any (h.below (S1.out.b.mono hB)) (i + 1) (by omega))
    rw [show errOf e (i + 1) = errV (e i) from rfl] at HQ ⊢
    clear c0 c1 hb1
    go_wp2_with fail
    refine HQ.out.mono ?_
    rintro o w2 ⟨rfl, rfl⟩
    go_wp2_with fail
    go_ret2
    exact ⟨_, rfl, World.ownsRow_nil _ _ _ _, S1.out.b⟩
end Go.Proofs.YtajhdgoinghmmaaDoor.iron

/-
  The late pieces of an order, in plain words: as the program and as the model finds them.
-/
namespace Go.Proofs.YtajhdgoinghmmaaDoor.ins
open Go Go.RowKit sl

theorem scanP_facts (xs : List Int) (x : Int) : ∀ j, j ≤ xs.length → (∀ i, j ≤ i → i < xs.length → x < xs.getD i 0) →
    (∀ q, scanP id xs x j = q + 1 → xs.getD q 0 ≤ x) ∧ (∀ i, scanP id xs x j ≤ i → i < xs.length → x < xs.getD i 0)
  | 0, _, h => ⟨fun q hq => by simp [scanP] at hq, fun i _ hi => h i (Nat.zero_le _) hi⟩
  | j + 1, hj, h => by
    rw [scanP]
    by_cases hlt : x < xs.getD j 0
    · rw [if_pos (by exact hlt)]
      exact scanP_facts xs x j (by omega) fun i h1 h2 => by
        rcases Nat.lt_or_ge j i with h3 | h3
        · exact h i h3 h2
        · obtain rfl : i = j := by omega
          exact hlt
    · rw [if_neg (by exact hlt)]
      refine ⟨fun q hq => ?_, fun i h1 h2 => h i h1 h2⟩
      obtain rfl : q = j := by omega
      omega
theorem pw_getD {xs : List Int} (h : xs.Pairwise (· ≤ ·)) {i j : Nat} (hij : i < j) (hj : j < xs.length) : xs.getD i 0 ≤ xs.getD j 0 := by
  have := List.pairwise_iff_getElem.1 h i j (by omega) hj hij
  rw [List.getD_eq_getElem?_getD, List.getD_eq_getElem?_getD, List.getElem?_eq_getElem (by omega), List.getElem?_eq_getElem hj]
  exact this
theorem insP_sorted {xs : List Int} (h : xs.Pairwise (· ≤ ·)) (x : Int) : (insP id xs x).Pairwise (· ≤ ·) := by
  obtain ⟨f1, f2⟩ := scanP_facts xs x xs.length (Nat.le_refl _) (fun i h1 h2 => by omega)
  have hle := scanP_le id xs x xs.length
  unfold insP
  generalize hp : scanP id xs x xs.length = p at f1 f2 hle
  rw [List.pairwise_append, List.pairwise_cons]
  refine ⟨h.sublist (List.take_sublist _ _), ⟨fun z hz => ?_, h.sublist (List.drop_sublist _ _)⟩, fun y hy z hz => ?_⟩
  · obtain ⟨i, hi⟩ := List.mem_iff_getElem?.1 hz
    rw [List.getElem?_drop] at hi
    have hl := (List.getElem?_eq_some_iff.1 hi).1
    have := f2 (p + i) (by omega) hl
    rw [List.getD_eq_getElem?_getD, hi] at this
    exact Int.le_of_lt this
  · obtain ⟨i, hi⟩ := List.mem_iff_getElem?.1 hy
    rw [List.getElem?_take] at hi
    split at hi
    · rename_i hip
      have hl := (List.getElem?_eq_some_iff.1 hi).1
      have hyx : y ≤ x := by
        obtain ⟨q, rfl⟩ : ∃ q, p = q + 1 := ⟨p - 1, by omega⟩
        have h1 := f1 q rfl
        have h2 : y = xs.getD i 0 := by rw [List.getD_eq_getElem?_getD, hi]; rfl
        rcases Nat.lt_or_ge i q with h3 | h3
        · have := pw_getD h h3 (by omega)
          omega
        · obtain rfl : i = q := by omega
          omega
      rcases List.mem_cons.1 hz with rfl | hz
      · exact hyx
      · obtain ⟨e, he⟩ := List.mem_iff_getElem?.1 hz
        rw [List.getElem?_drop] at he
        have hl2 := (List.getElem?_eq_some_iff.1 he).1
        have := f2 (p + e) (by omega) hl2
        rw [List.getD_eq_getElem?_getD, he] at this
        simp at this
        omega
    · cases hi
theorem srt_sorted (ys : List Int) : (srt id ys).Pairwise (· ≤ ·) := by
  have : ∀ (ys xs : List Int), xs.Pairwise (· ≤ ·) → (ys.foldl (insP id) xs).Pairwise (· ≤ ·) := by
    intro ys
    induction ys with
    | nil => intro xs h; exact h
    | cons y r ih => intro xs h; exact ih _ (insP_sorted h y)
  exact this ys [] List.Pairwise.nil
theorem insP_count (xs : List Int) (x z : Int) : (insP id xs x).count z = xs.count z + if x = z then 1 else 0 := by
  unfold insP
  have e := List.take_append_drop (scanP id xs x xs.length) xs
  rw [List.count_append, List.count_cons]
  have h2 : xs.count z = (xs.take (scanP id xs x xs.length)).count z + (xs.drop (scanP id xs x xs.length)).count z := by rw [← List.count_append, e]
  rw [h2]
  by_cases hxz : x = z
  · subst hxz; simp; omega
  · simp [hxz]
theorem srt_count (ys : List Int) (z : Int) : (srt id ys).count z = ys.count z := by
  have : ∀ (ys xs : List Int), (ys.foldl (insP id) xs).count z = xs.count z + ys.count z := by
    intro ys
    induction ys with
    | nil => intro xs; simp
    | cons y r ih =>
      intro xs
      rw [List.foldl_cons, ih, insP_count, List.count_cons]
      by_cases h : y = z
      · subst h; simp; omega
      · simp [h]
  simpa [srt] using this ys []
theorem srt_nodup {ys : List Int} (h : ys.Nodup) : (srt id ys).Nodup := by
  rw [List.nodup_iff_count] at h ⊢
  intro z
  rw [srt_count]
  exact h z
theorem srt_strict {ys : List Int} (h : ys.Nodup) : (srt id ys).Pairwise (· < ·) := by
  have h1 := srt_sorted ys
  have h2 := srt_nodup h
  refine (h1.and h2).imp ?_
  intro a b hab
  have := hab.1
  have := hab.2
  omega
/-- rising lists of the same numbers are the same -/
theorem strict_eq : ∀ {l m : List Int}, l.Pairwise (· < ·) → m.Pairwise (· < ·) → (∀ z, z ∈ l ↔ z ∈ m) → l = m
  | [], [], _, _, _ => rfl
  | [], b :: m, _, _, h => absurd ((h b).2 (List.mem_cons_self ..)) (by simp)
  | a :: l, [], _, _, h => absurd ((h a).1 (List.mem_cons_self ..)) (by simp)
  | a :: l, b :: m, hl, hm, h => by
    rw [List.pairwise_cons] at hl hm
    have hab : a = b := by
      rcases List.mem_cons.1 ((h a).1 (List.mem_cons_self ..)) with e | e
      · exact e
      · rcases List.mem_cons.1 ((h b).2 (List.mem_cons_self ..)) with e' | e'
        · exact e'.symm
        · have h1 := hl.1 b e'
          have h2 := hm.1 a e
          omega
    subst hab
    have : l = m := strict_eq hl.2 hm.2 fun z => by
      constructor
      · intro hz
        rcases List.mem_cons.1 ((h z).1 (List.mem_cons_of_mem _ hz)) with e | e
        · subst e; have := hl.1 z hz; omega
        · exact e
      · intro hz
        rcases List.mem_cons.1 ((h z).2 (List.mem_cons_of_mem _ hz)) with e | e
        · subst e; have := hm.1 z hz; omega
        · exact e
    rw [this]
end Go.Proofs.YtajhdgoinghmmaaDoor.ins
namespace Go.Proofs.YtajhdgoinghmmaaDoor.iron
open Go Go.RowKit sl stk errs ins

/-- is the piece at a place of an order late -/
def isLate (x : Iro) (ps : List Pie) (os : List Int) (q : Nat) : Bool := decide ((ptv ps (os.getD q 0)).due < (runs x 0 ps (os.take (q + 1))).at_)
/-- the late pieces, by the order -/
def latK (x : Iro) (ps : List Pie) (os : List Int) : Nat → List Int
  | 0 => []
  | q + 1 => latK x ps os q ++ (if isLate x ps os q = true then [os.getD q 0] else [])
/-- a piece, where it stands in the order and is late -/
def latI (x : Iro) (ps : List Pie) (os : List Int) (i : Nat) : Nat → List Int
  | 0 => []
  | q + 1 => latI x ps os i q ++ (if os.getD q 0 = (i : Int) ∧ isLate x ps os q = true then [(i : Int)] else [])
def latM (x : Iro) (ps : List Pie) (os : List Int) (m : Nat) : Nat → List Int
  | 0 => []
  | i + 1 => latM x ps os m i ++ latI x ps os i m
theorem latK_mem {x : Iro} {ps : List Pie} {os : List Int} {z : Int} : ∀ k, z ∈ latK x ps os k ↔ ∃ q, q < k ∧ os.getD q 0 = z ∧ isLate x ps os q = true
  | 0 => by simp [latK]
  | k + 1 => by
    rw [latK, List.mem_append, latK_mem k]
    constructor
    · rintro (⟨q, h1, h2⟩ | h)
      · exact ⟨q, by omega, h2⟩
      · split at h
        · rename_i hl
          exact ⟨k, by omega, (List.mem_singleton.1 h).symm, hl⟩
        · cases h
    · rintro ⟨q, h1, h2, h3⟩
      rcases Nat.lt_or_ge q k with h4 | h4
      · exact .inl ⟨q, h4, h2, h3⟩
      · obtain rfl : q = k := by omega
        right
        rw [if_pos h3, h2]
        exact List.mem_singleton.2 rfl
theorem latI_mem {x : Iro} {ps : List Pie} {os : List Int} {i : Nat} {z : Int} : ∀ k, z ∈ latI x ps os i k ↔ z = i ∧ ∃ q, q < k ∧ os.getD q 0 = (i : Int) ∧ isLate x ps os q = true
  | 0 => by simp [latI]
  | k + 1 => by
    rw [latI, List.mem_append, latI_mem k]
    constructor
    · rintro (⟨h0, q, h1, h2⟩ | h)
      · exact ⟨h0, q, by omega, h2⟩
      · split at h
        · rename_i hl
          exact ⟨List.mem_singleton.1 h, k, by omega, hl⟩
        · cases h
    · rintro ⟨h0, q, h1, h2, h3⟩
      rcases Nat.lt_or_ge q k with h4 | h4
      · exact .inl ⟨h0, q, h4, h2, h3⟩
      · obtain rfl : q = k := by omega
        right
        rw [if_pos ⟨h2, h3⟩, h0]
        exact List.mem_singleton.2 rfl
theorem latM_mem {x : Iro} {ps : List Pie} {os : List Int} {m : Nat} {z : Int} : ∀ k, z ∈ latM x ps os m k ↔ ∃ i : Nat, i < k ∧ z = i ∧ ∃ q, q < m ∧ os.getD q 0 = (i : Int) ∧ isLate x ps os q = true
  | 0 => by simp [latM]
  | k + 1 => by
    rw [latM, List.mem_append, latM_mem k, latI_mem m]
    constructor
    · rintro (⟨i, h1, h2⟩ | h)
      · exact ⟨i, by omega, h2⟩
      · exact ⟨k, by omega, h⟩
    · rintro ⟨i, h1, h2⟩
      rcases Nat.lt_or_ge i k with h4 | h4
      · exact .inl ⟨i, h4, h2⟩
      · obtain rfl : i = k := by omega
        exact .inr h2
theorem good_ne {n : Nat} {os : List Int} (h : goodP n os os.length) {p q : Nat} (hpq : p < q) (hq : q < os.length) : os.getD p 0 ≠ os.getD q 0 := by
  intro e
  rw [List.getD_eq_getElem?_getD, List.getD_eq_getElem?_getD, List.getElem?_eq_getElem (by omega), List.getElem?_eq_getElem hq] at e
  have := (h q os[q] hq (List.getElem?_eq_getElem hq)).2.2
  refine this (List.mem_iff_getElem?.2 ⟨p, ?_⟩)
  rw [List.getElem?_take_of_lt hpq, List.getElem?_eq_getElem (by omega)]
  exact congrArg some e
theorem latI_none {x : Iro} {ps : List Pie} {os : List Int} {i : Nat} : ∀ k, (∀ q, q < k → os.getD q 0 ≠ (i : Int)) → latI x ps os i k = []
  | 0, _ => rfl
  | k + 1, h => by
    rw [latI, latI_none k (fun q hq => h q (by omega)), if_neg (fun h2 => h k (by omega) h2.1)]
    rfl
theorem latI_one {n : Nat} {x : Iro} {ps : List Pie} {os : List Int} (hg : goodP n os os.length) {i : Nat} : ∀ k, k ≤ os.length → (latI x ps os i k).Pairwise (· < ·)
  | 0, _ => List.Pairwise.nil
  | k + 1, hk => by
    rw [latI]
    by_cases h : os.getD k 0 = (i : Int) ∧ isLate x ps os k = true
    · rw [if_pos h, latI_none k (fun q hq e => good_ne hg hq (by omega) (e.trans h.1.symm))]
      simp
    · rw [if_neg h, List.append_nil]
      exact latI_one hg k (by omega)
theorem latM_strict {n : Nat} {x : Iro} {ps : List Pie} {os : List Int} (hg : goodP n os os.length) {m : Nat} (hm : m ≤ os.length) : ∀ k, (latM x ps os m k).Pairwise (· < ·)
  | 0 => List.Pairwise.nil
  | k + 1 => by
    rw [latM, List.pairwise_append]
    refine ⟨latM_strict hg hm k, latI_one hg m hm, fun a ha b hb => ?_⟩
    obtain ⟨i, hi, rfl, _⟩ := (latM_mem k).1 ha
    rw [((latI_mem m).1 hb).1]
    omega
theorem latK_nodup {n : Nat} {x : Iro} {ps : List Pie} {os : List Int} (hg : goodP n os os.length) : ∀ k, k ≤ os.length → (latK x ps os k).Nodup
  | 0, _ => List.Pairwise.nil
  | k + 1, hk => by
    rw [latK]
    refine List.nodup_append.2 ⟨latK_nodup hg k (by omega), by split <;> simp, fun a ha b hb e => ?_⟩
    split at hb
    · obtain ⟨q, hq, h2, _⟩ := (latK_mem k).1 ha
      rw [List.mem_singleton.1 hb] at e
      exact good_ne hg hq (by omega) (h2.trans e)
    · cases hb
theorem lat_eq {n : Nat} {x : Iro} {ps : List Pie} {os : List Int} (hg : goodP n os os.length) : srt id (latK x ps os os.length) = latM x ps os os.length n := by
  refine strict_eq (srt_strict (latK_nodup hg _ (Nat.le_refl _))) (latM_strict hg (Nat.le_refl _) n) fun z => ?_
  rw [srt_mem, latK_mem, latM_mem]
  constructor
  · rintro ⟨q, h1, h2, h3⟩
    have h4 := hg q _ h1 (List.getElem?_eq_getElem h1)
    have h5 : os.getD q 0 = os[q] := by rw [List.getD_eq_getElem?_getD, List.getElem?_eq_getElem h1]; rfl
    rw [← h5, h2] at h4
    exact ⟨z.toNat, by omega, by omega, q, h1, by omega, h3⟩
  · rintro ⟨i, _, h2, q, h3, h4, h5⟩
    exact ⟨q, h3, by omega, h5⟩
theorem latK_len (x : Iro) (ps : List Pie) (os : List Int) : ∀ k, (latK x ps os k).length ≤ k
  | 0 => Nat.le_refl _
  | k + 1 => by
    have := latK_len x ps os k
    rw [latK, List.length_append]
    split <;> simp <;> omega
/-- by one late piece more the count rises, else it stays -/
theorem runs1_sum {x : Iro} {ps : List Pie} {os : List Int} {k : Nat} {i : Int} (h : os[k]? = some i) : (runs x 1 ps (os.take (k + 1))).sum = (runs x 1 ps (os.take k)).sum + if isLate x ps os k = true then 1 else 0 := by
  have e : (runs x 1 ps (os.take (k + 1))).sum = mea 1 (runs x 1 ps (os.take k)).sum (ptv ps i) (runs x 0 ps (os.take (k + 1))).at_ := by
    rw [← (runs_same x 1 0 ps (os.take (k + 1))).2, runs_take h]
    rfl
  have hg : os.getD k 0 = i := by rw [List.getD_eq_getElem?_getD, h]; rfl
  rw [e]
  unfold isLate mea late
  rw [hg]
  simp only [decide_eq_true_eq]
  split <;> split <;> split <;> omega
noncomputable def lateR (x : Iro) (ps : List Pie) (os : List Int) : List Int × Nat := if codeOrd x ps os = 0 then (latM x ps os os.length ps.length, 0) else ([], codeOrd x ps os)
theorem late_ok {x : Iro} {ps : List Pie} {os ys : List Int} {r1 : Nat} (h : lateR x ps os = (ys, r1)) (hc : codeOrd x ps os = 0) : latM x ps os os.length ps.length = ys ∧ r1 = 0 := by
  rw [lateR, if_pos hc] at h
  simp at h
  exact ⟨h.1, h.2.symm⟩
theorem late_no {x : Iro} {ps : List Pie} {os ys : List Int} {r1 i : Nat} (h : lateR x ps os = (ys, r1)) (hc : codeOrd x ps os = i + 1) : ys = [] ∧ r1 = i + 1 := by
  rw [lateR, if_neg (by omega), hc] at h
  simp at h
  exact ⟨h.1, h.2.symm⟩
theorem lateR_le {x : Iro} {ps : List Pie} {os ys : List Int} {r1 : Nat} (h : lateR x ps os = (ys, r1)) : ys.length ≤ 1048576 := by
  cases hc : codeOrd x ps os with
  | zero =>
    obtain ⟨_, _, h8, hl, hg⟩ := codeOrd_zero hc
    rw [← (late_ok h hc).1, ← lat_eq hg, srt_len]
    have := latK_len x ps os os.length
    omega
  | succ i => rw [(late_no h hc).1]; simp
end Go.Proofs.YtajhdgoinghmmaaDoor.iron
