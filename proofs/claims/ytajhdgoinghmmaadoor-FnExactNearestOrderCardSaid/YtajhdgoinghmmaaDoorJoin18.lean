/-
  Several texts of this proof, joined.
-/
import Derived.Test.YtajhdgoinghmmaaDoorJoin17
import Derived.Laws.EntriesVeiled
import Derived.Test.YtajhdgoinghmmaaDoorJoin15
import Derived.Test.YtajhdgoinghmmaaDoorJoin14
/-
  What the program irons: newIroning, for each measure.
-/
namespace Go.Proofs.YtajhdgoinghmmaaDoor.iron
open Go Go.RowKit Go.Maps sl stk errs row

theorem infoG : (Tryd.prog.info? 89).map (·.size) = some 4 := by kernel_rfl
theorem zeroGi : (Tryd.prog.info? 89).map (fun i => (i.zero, i.size)) = some (some (.agg #[.int .i8 0, .int .i8 0, .slice none 0 0, .nilFunc]), 4) := by kernel_rfl
abbrev gCs (x : Iro) (A : Option Addr) (n c : Nat) (fm : Value) (j : Nat) : Value := (#[.int .i8 x.up, .int .i8 x.down, .slice A n c, fm] : Array Value)[j]?.getD undef
abbrev NH (x : Iro) (w : World) (u : World) : Prop := u.cell? ⟨w.heap.size, 0, none⟩ = some (.int .i8 x.up) ∧ u.cell? ⟨w.heap.size, 1, none⟩ = some (.int .i8 x.down)
/-- the iron, and the result's place -/
structure NS (x : Iro) (cf : Nat → Value) (w u : World) : Prop where
  c0 : u.cell? ⟨w.heap.size, 0, none⟩ = some (.int .i8 x.up)
  c1 : u.cell? ⟨w.heap.size, 1, none⟩ = some (.int .i8 x.down)
  r : RowOwn u (w.heap.size + 1) 0 4 cf
  b : Below w.heap.size w u
theorem NS.next {x : Iro} {cf : Nat → Value} {w u v : World} (h : NS x cf w u) (hb : Below u.heap.size u v) : NS x cf w v := by
  have hz := h.r.lt
  exact ⟨(hb.cell (p := ⟨_, 0, none⟩) (by show w.heap.size < _; omega)).trans h.c0, (hb.cell (p := ⟨_, 1, none⟩) (by show w.heap.size < _; omega)).trans h.c1, h.r.next hb, h.b.trans (hb.mono (by omega))⟩
def zg (j : Nat) : Value := match j with | 0 => .int .i8 0 | 1 => .int .i8 0 | 2 => .slice none 0 0 | _ => .nilFunc
theorem NS.new (x : Iro) (w : World) (T U : TypeId) : NS x zg w ((w.alloc (.cells #[.int .i8 x.up, .int .i8 x.down] T)).alloc (.cells #[.int .i8 0, .int .i8 0, .slice none 0 0, .nilFunc] U)) := by
  have e1 : (w.alloc (.cells #[.int .i8 x.up, .int .i8 x.down] T)).heap.size = w.heap.size + 1 := by simp
  have h := RowOwn.new (w.alloc (.cells #[.int .i8 x.up, .int .i8 x.down] T)) 4 zg U
  rw [e1] at h
  have h1 : ∀ i, ((w.alloc (.cells #[.int .i8 x.up, .int .i8 x.down] T)).alloc (.cells #[.int .i8 0, .int .i8 0, .slice none 0 0, .nilFunc] U)).cell? ⟨w.heap.size, i, none⟩ = (#[.int .i8 x.up, .int .i8 x.down] : Array Value)[i]? := fun i =>
    cell_of_row _ _ _ _ _ _ ((heap_alloc_old _ _ (by rw [e1]; omega)).trans (heap_alloc_new w _))
  exact ⟨h1 0, h1 1, h, by repeat (first | exact Below.refl _ _ | assumption | apply Below.drew | (refine Below.alloc ?_ (by first | (simp; done) | (simp; omega) | omega) _) | (refine Below.setCell ?_ (by first | (simp; done) | (simp; omega) | omega) _))⟩
theorem NS.at_ {x : Iro} {cf : Nat → Value} {w u : World} (h : NS x cf w u) {j : Nat} (hj : j < 4) : u.cell? ⟨w.heap.size + 1, j, none⟩ = some (cf j) := by
  have := h.r.cell j hj
  rw [Nat.zero_add] at this
  exact this
theorem NS.fz {x : Iro} {cf : Nat → Value} {w u : World} (h : NS x cf w u) {j : Nat} (hj : j < 4) : u.frozen? ⟨w.heap.size + 1, j, none⟩ = false := by
  have := h.r.free j hj
  rw [Nat.zero_add] at this
  exact this
theorem NS.stored {x : Iro} {A : Option Addr} {n c : Nat} {fm : Value} {w u : World} (h : NS x zg w u) :
    NH x w (u.setCells (w.heap.size + 1) 0 [.int .i8 x.up, .int .i8 x.down, .slice A n c, fm]) ∧ Below w.heap.size w (u.setCells (w.heap.size + 1) 0 [.int .i8 x.up, .int .i8 x.down, .slice A n c, fm]) ∧ u.there (w.heap.size + 1) 0 4 := by
  refine ⟨⟨?_, ?_⟩, below_cells h.b (by omega) _ _, h.r.there⟩
  · exact (World.cell?_setCells_out _ _ _ _ _ (fun e => absurd e (by show w.heap.size ≠ _; omega))).trans h.c0
  · exact (World.cell?_setCells_out _ _ _ _ _ (fun e => absurd e (by show w.heap.size ≠ _; omega))).trans h.c1

set_option maxRecDepth 100000 in
set_option maxHeartbeats 4000000 in
theorem newIroning_0 (x : Iro) (A : Option Addr) (n c : Nat) (w : World) :
    Calls Tryd.prog 77 #[x.v, .slice A n c, .int .u8 0] w fun o w' => o = .returned (gV x A n c (.func (.func 120) #[] #[])) ∧ Below w.heap.size w w' := by
  have hzz : ∀ u : World, (zeroValue 89).run Tryd.prog u = .ok (.agg #[.int .i8 0, .int .i8 0, .slice none 0 0, .nilFunc]) u := (zero_of_info zeroGi).1
  obtain ⟨u0, hu0⟩ : ∃ u, u = (w.alloc (.cells #[.int .i8 x.up, .int .i8 x.down] 27)).alloc (.cells #[.int .i8 0, .int .i8 0, .slice none 0 0, .nilFunc] 89) := ⟨_, rfl⟩
  have S0 : Hid (NS x zg w u0) := Lib.hid (by rw [hu0]; exact NS.new x w _ _)
  have HU := Lib.hid hu0
  clear hu0
  go_enter Tryd.func77, Tryd.ntmps77
  go_wp2_with (first | (rw [← HU.out]) | fail)
  refine wp_region_held_drew (S := NH x w) (by kernel_rfl) ⟨(S0.out.next (Below.refl _ _).drew).c0, (S0.out.next (Below.refl _ _).drew).c1⟩ (fun hHeld => ?_)
  have S1 := Lib.hid (S0.out.next (Below.refl _ _).drew)
  generalize u0.drew = v0 at S1 hHeld ⊢
  clear HU S0
  refine wpAnyH_take (i := 0) (v := ?_) rfl (by kernel_rfl) (by kernel_rfl) (by kernel_rfl) (fun _ _ _ h => h) (Or.inl ⟨by rfl, ?_⟩) (by assumption) ?_
  rotate_left
  · intro u hSu
    (try dsimp only at hSu)
    first | (go_simp; done) | (go_simp; with_reducible rfl)
  try simp only [Act.put, List.getElem_toArray, List.getElem_cons_zero, List.getElem_cons_succ, List.setIfInBounds_toArray, List.set_cons_zero, List.set_cons_succ]
  refine wpAnyH_take (i := 1) (v := ?_) rfl (by kernel_rfl) (by kernel_rfl) (by kernel_rfl) (fun _ _ _ h => h) (Or.inl ⟨by rfl, ?_⟩) (by assumption) ?_
  rotate_left
  · intro u hSu
    (try dsimp only at hSu)
    first | (go_simp; done) | (go_simp; with_reducible rfl)
  try simp only [Act.put, List.getElem_toArray, List.getElem_cons_zero, List.getElem_cons_succ, List.setIfInBounds_toArray, List.set_cons_zero, List.set_cons_succ]
  refine wpAnyH_take (i := 3) (v := ?_) rfl (by kernel_rfl) (by kernel_rfl) (by kernel_rfl) (fun _ _ _ h => h) (Or.inl ⟨by rfl, ?_⟩) (by assumption) ?_
  rotate_left
  · intro u hSu
    (try dsimp only at hSu)
    first | (go_simp; done) | (go_simp; with_reducible rfl)
  try simp only [Act.put, List.getElem_toArray, List.getElem_cons_zero, List.getElem_cons_succ, List.setIfInBounds_toArray, List.set_cons_zero, List.set_cons_succ]
  refine wpAnyH_ready (rs := [2]) (by kernel_rfl) (by simp) ?_
  refine AllReadyH.cons rfl (fun K hK => ?_) AllReadyH.nil
  go_simp
  refine (measures_any _).mono ?_
  rintro o v1 ⟨g, rfl, hm, hb⟩
  have S2 := Lib.hid (S1.out.next hb)
  obtain ⟨fv, psv, hrun, hR⟩ := hm.lookup keyedA undMA (zeroF v1) (zd := .lit (.bool false)) (zp := []) rfl keyA0
  rw [atF0] at hR
  obtain rfl := readF_inv hR
  clear hR hm hb S1
  refine hK.out _ _ (⟨S2.out.c0, S2.out.c1⟩) (fun hHeld2 => ?_)
  clear hK K hHeld
  have hHeld := hHeld2
  clear hHeld2
  try simp only [Act.put, List.getElem_toArray, List.getElem_cons_zero, List.getElem_cons_succ, List.setIfInBounds_toArray, List.set_cons_zero, List.set_cons_succ]
  refine wpAnyH_ready (rs := [4]) (by kernel_rfl) (by simp) ?_
  refine AllReadyH.cons rfl (fun K hK => ?_) AllReadyH.nil
  go_simp
  refine hK.out _ _ (hHeld) (fun hHeld2 => ?_)
  clear hK K hHeld
  have hHeld := hHeld2
  clear hHeld2
  try simp only [Act.put, List.getElem_toArray, List.getElem_cons_zero, List.getElem_cons_succ, List.setIfInBounds_toArray, List.set_cons_zero, List.set_cons_succ]
  clear hrun
  refine wpAnyH_take (i := 5) (v := ?_) rfl (by kernel_rfl) (by kernel_rfl) (by kernel_rfl) (fun _ _ _ h => h) (Or.inl ⟨by rfl, ?_⟩) (by assumption) ?_
  rotate_left
  · intro u hSu
    (try dsimp only at hSu)
    first | (go_simp; done) | (go_simp; with_reducible rfl)
  try simp only [Act.put, List.getElem_toArray, List.getElem_cons_zero, List.getElem_cons_succ, List.setIfInBounds_toArray, List.set_cons_zero, List.set_cons_succ]
  have z0 := S2.out.at_ (j := 0) (by decide)
  have z1 := S2.out.at_ (j := 1) (by decide)
  have z2 := S2.out.at_ (j := 2) (by decide)
  have z3 := S2.out.at_ (j := 3) (by decide)
  have f0 := S2.out.fz (j := 0) (by decide)
  have f1 := S2.out.fz (j := 1) (by decide)
  have f2 := S2.out.fz (j := 2) (by decide)
  have f3 := S2.out.fz (j := 3) (by decide)
  simp only [zg] at z0 z1 z2 z3
  refine wpAnyH_ready (rs := [6]) (by kernel_rfl) (by simp) ?_
  refine AllReadyH.cons rfl (fun K hK => ?_) AllReadyH.nil
  go_simp
  clear z0 z1 z2 z3 f0 f1 f2 f3
  change K _ (v1.setCells (w.heap.size + 1) 0 [.int .i8 x.up, .int .i8 x.down, .slice A n c, .func (.func 120) #[] #[]])
  have HST := NS.stored (A := A) (n := n) (c := c) (fm := .func (.func 120) #[] #[]) S2.out
  refine hK.out _ _ (HST.1) (fun hHeld2 => ?_)
  clear hK K hHeld
  have hHeld := hHeld2
  clear hHeld2
  try simp only [Act.put, List.getElem_toArray, List.getElem_cons_zero, List.getElem_cons_succ, List.setIfInBounds_toArray, List.set_cons_zero, List.set_cons_succ]
  refine wpAnyH_done (by kernel_rfl) ?_ _
  clear hHeld
  go_wp2_with fail
  refine bodyPost_ret (v := gV x A n c (.func (.func 120) #[] #[])) (results_stored Tryd.results77 rfl HST.2.2 Tryd.underlying89 rfl infoG) rfl ⟨rfl, HST.2.1⟩

set_option maxRecDepth 100000 in
set_option maxHeartbeats 4000000 in
theorem newIroning_1 (x : Iro) (A : Option Addr) (n c : Nat) (w : World) :
    Calls Tryd.prog 77 #[x.v, .slice A n c, .int .u8 1] w fun o w' => o = .returned (gV x A n c (.func (.func 121) #[] #[])) ∧ Below w.heap.size w w' := by
  have hzz : ∀ u : World, (zeroValue 89).run Tryd.prog u = .ok (.agg #[.int .i8 0, .int .i8 0, .slice none 0 0, .nilFunc]) u := (zero_of_info zeroGi).1
  obtain ⟨u0, hu0⟩ : ∃ u, u = (w.alloc (.cells #[.int .i8 x.up, .int .i8 x.down] 27)).alloc (.cells #[.int .i8 0, .int .i8 0, .slice none 0 0, .nilFunc] 89) := ⟨_, rfl⟩
  have S0 : Hid (NS x zg w u0) := Lib.hid (by rw [hu0]; exact NS.new x w _ _)
  have HU := Lib.hid hu0
  clear hu0
  go_enter Tryd.func77, Tryd.ntmps77
  go_wp2_with (first | (rw [← HU.out]) | fail)
  refine wp_region_held_drew (S := NH x w) (by kernel_rfl) ⟨(S0.out.next (Below.refl _ _).drew).c0, (S0.out.next (Below.refl _ _).drew).c1⟩ (fun hHeld => ?_)
  have S1 := Lib.hid (S0.out.next (Below.refl _ _).drew)
  generalize u0.drew = v0 at S1 hHeld ⊢
  clear HU S0
  refine wpAnyH_take (i := 0) (v := ?_) rfl (by kernel_rfl) (by kernel_rfl) (by kernel_rfl) (fun _ _ _ h => h) (Or.inl ⟨by rfl, ?_⟩) (by assumption) ?_
  rotate_left
  · intro u hSu
    (try dsimp only at hSu)
    first | (go_simp; done) | (go_simp; with_reducible rfl)
  try simp only [Act.put, List.getElem_toArray, List.getElem_cons_zero, List.getElem_cons_succ, List.setIfInBounds_toArray, List.set_cons_zero, List.set_cons_succ]
  refine wpAnyH_take (i := 1) (v := ?_) rfl (by kernel_rfl) (by kernel_rfl) (by kernel_rfl) (fun _ _ _ h => h) (Or.inl ⟨by rfl, ?_⟩) (by assumption) ?_
  rotate_left
  · intro u hSu
    (try dsimp only at hSu)
    first | (go_simp; done) | (go_simp; with_reducible rfl)
  try simp only [Act.put, List.getElem_toArray, List.getElem_cons_zero, List.getElem_cons_succ, List.setIfInBounds_toArray, List.set_cons_zero, List.set_cons_succ]
  refine wpAnyH_take (i := 3) (v := ?_) rfl (by kernel_rfl) (by kernel_rfl) (by kernel_rfl) (fun _ _ _ h => h) (Or.inl ⟨by rfl, ?_⟩) (by assumption) ?_
  rotate_left
  · intro u hSu
    (try dsimp only at hSu)
    first | (go_simp; done) | (go_simp; with_reducible rfl)
  try simp only [Act.put, List.getElem_toArray, List.getElem_cons_zero, List.getElem_cons_succ, List.setIfInBounds_toArray, List.set_cons_zero, List.set_cons_succ]
  refine wpAnyH_ready (rs := [2]) (by kernel_rfl) (by simp) ?_
  refine AllReadyH.cons rfl (fun K hK => ?_) AllReadyH.nil
  go_simp
  refine (measures_any _).mono ?_
  rintro o v1 ⟨g, rfl, hm, hb⟩
  have S2 := Lib.hid (S1.out.next hb)
  obtain ⟨fv, psv, hrun, hR⟩ := hm.lookup keyedA undMA (zeroF v1) (zd := .lit (.bool false)) (zp := []) rfl keyA1
  rw [atF1] at hR
  obtain rfl := readF_inv hR
  clear hR hm hb S1
  refine hK.out _ _ (⟨S2.out.c0, S2.out.c1⟩) (fun hHeld2 => ?_)
  clear hK K hHeld
  have hHeld := hHeld2
  clear hHeld2
  try simp only [Act.put, List.getElem_toArray, List.getElem_cons_zero, List.getElem_cons_succ, List.setIfInBounds_toArray, List.set_cons_zero, List.set_cons_succ]
  refine wpAnyH_ready (rs := [4]) (by kernel_rfl) (by simp) ?_
  refine AllReadyH.cons rfl (fun K hK => ?_) AllReadyH.nil
  go_simp
  refine hK.out _ _ (hHeld) (fun hHeld2 => ?_)
  clear hK K hHeld
  have hHeld := hHeld2
  clear hHeld2
  try simp only [Act.put, List.getElem_toArray, List.getElem_cons_zero, List.getElem_cons_succ, List.setIfInBounds_toArray, List.set_cons_zero, List.set_cons_succ]
  clear hrun
  refine wpAnyH_take (i := 5) (v := ?_) rfl (by kernel_rfl) (by kernel_rfl) (by kernel_rfl) (fun _ _ _ h => h) (Or.inl ⟨by rfl, ?_⟩) (by assumption) ?_
  rotate_left
  · intro u hSu
    (try dsimp only at hSu)
    first | (go_simp; done) | (go_simp; with_reducible rfl)
  try simp only [Act.put, List.getElem_toArray, List.getElem_cons_zero, List.getElem_cons_succ, List.setIfInBounds_toArray, List.set_cons_zero, List.set_cons_succ]
  have z0 := S2.out.at_ (j := 0) (by decide)
  have z1 := S2.out.at_ (j := 1) (by decide)
  have z2 := S2.out.at_ (j := 2) (by decide)
  have z3 := S2.out.at_ (j := 3) (by decide)
  have f0 := S2.out.fz (j := 0) (by decide)
  have f1 := S2.out.fz (j := 1) (by decide)
  have f2 := S2.out.fz (j := 2) (by decide)
  have f3 := S2.out.fz (j := 3) (by decide)
  simp only [zg] at z0 z1 z2 z3
  refine wpAnyH_ready (rs := [6]) (by kernel_rfl) (by simp) ?_
  refine AllReadyH.cons rfl (fun K hK => ?_) AllReadyH.nil
  go_simp
  clear z0 z1 z2 z3 f0 f1 f2 f3
  change K _ (v1.setCells (w.heap.size + 1) 0 [.int .i8 x.up, .int .i8 x.down, .slice A n c, .func (.func 121) #[] #[]])
  have HST := NS.stored (A := A) (n := n) (c := c) (fm := .func (.func 121) #[] #[]) S2.out
  refine hK.out _ _ (HST.1) (fun hHeld2 => ?_)
  clear hK K hHeld
  have hHeld := hHeld2
  clear hHeld2
  try simp only [Act.put, List.getElem_toArray, List.getElem_cons_zero, List.getElem_cons_succ, List.setIfInBounds_toArray, List.set_cons_zero, List.set_cons_succ]
  refine wpAnyH_done (by kernel_rfl) ?_ _
  clear hHeld
  go_wp2_with fail
  refine bodyPost_ret (v := gV x A n c (.func (.func 121) #[] #[])) (results_stored Tryd.results77 rfl HST.2.2 Tryd.underlying89 rfl infoG) rfl ⟨rfl, HST.2.1⟩

set_option maxRecDepth 100000 in
set_option maxHeartbeats 4000000 in
theorem newIroning_2 (x : Iro) (A : Option Addr) (n c : Nat) (w : World) :
    Calls Tryd.prog 77 #[x.v, .slice A n c, .int .u8 2] w fun o w' => o = .returned (gV x A n c (.func (.func 123) #[] #[])) ∧ Below w.heap.size w w' := by
  have hzz : ∀ u : World, (zeroValue 89).run Tryd.prog u = .ok (.agg #[.int .i8 0, .int .i8 0, .slice none 0 0, .nilFunc]) u := (zero_of_info zeroGi).1
  obtain ⟨u0, hu0⟩ : ∃ u, u = (w.alloc (.cells #[.int .i8 x.up, .int .i8 x.down] 27)).alloc (.cells #[.int .i8 0, .int .i8 0, .slice none 0 0, .nilFunc] 89) := ⟨_, rfl⟩
  have S0 : Hid (NS x zg w u0) := Lib.hid (by rw [hu0]; exact NS.new x w _ _)
  have HU := Lib.hid hu0
  clear hu0
  go_enter Tryd.func77, Tryd.ntmps77
  go_wp2_with (first | (rw [← HU.out]) | fail)
  refine wp_region_held_drew (S := NH x w) (by kernel_rfl) ⟨(S0.out.next (Below.refl _ _).drew).c0, (S0.out.next (Below.refl _ _).drew).c1⟩ (fun hHeld => ?_)
  have S1 := Lib.hid (S0.out.next (Below.refl _ _).drew)
  generalize u0.drew = v0 at S1 hHeld ⊢
  clear HU S0
  refine wpAnyH_take (i := 0) (v := ?_) rfl (by kernel_rfl) (by kernel_rfl) (by kernel_rfl) (fun _ _ _ h => h) (Or.inl ⟨by rfl, ?_⟩) (by assumption) ?_
  rotate_left
  · intro u hSu
    (try dsimp only at hSu)
    first | (go_simp; done) | (go_simp; with_reducible rfl)
  try simp only [Act.put, List.getElem_toArray, List.getElem_cons_zero, List.getElem_cons_succ, List.setIfInBounds_toArray, List.set_cons_zero, List.set_cons_succ]
  refine wpAnyH_take (i := 1) (v := ?_) rfl (by kernel_rfl) (by kernel_rfl) (by kernel_rfl) (fun _ _ _ h => h) (Or.inl ⟨by rfl, ?_⟩) (by assumption) ?_
  rotate_left
  · intro u hSu
    (try dsimp only at hSu)
    first | (go_simp; done) | (go_simp; with_reducible rfl)
  try simp only [Act.put, List.getElem_toArray, List.getElem_cons_zero, List.getElem_cons_succ, List.setIfInBounds_toArray, List.set_cons_zero, List.set_cons_succ]
  refine wpAnyH_take (i := 3) (v := ?_) rfl (by kernel_rfl) (by kernel_rfl) (by kernel_rfl) (fun _ _ _ h => h) (Or.inl ⟨by rfl, ?_⟩) (by assumption) ?_
  rotate_left
  · intro u hSu
    (try dsimp only at hSu)
    first | (go_simp; done) | (go_simp; with_reducible rfl)
  try simp only [Act.put, List.getElem_toArray, List.getElem_cons_zero, List.getElem_cons_succ, List.setIfInBounds_toArray, List.set_cons_zero, List.set_cons_succ]
  refine wpAnyH_ready (rs := [2]) (by kernel_rfl) (by simp) ?_
  refine AllReadyH.cons rfl (fun K hK => ?_) AllReadyH.nil
  go_simp
  refine (measures_any _).mono ?_
  rintro o v1 ⟨g, rfl, hm, hb⟩
  have S2 := Lib.hid (S1.out.next hb)
  obtain ⟨fv, psv, hrun, hR⟩ := hm.lookup keyedA undMA (zeroF v1) (zd := .lit (.bool false)) (zp := []) rfl keyA2
  rw [atF2] at hR
  obtain rfl := readF_inv hR
  clear hR hm hb S1
  refine hK.out _ _ (⟨S2.out.c0, S2.out.c1⟩) (fun hHeld2 => ?_)
  clear hK K hHeld
  have hHeld := hHeld2
  clear hHeld2
  try simp only [Act.put, List.getElem_toArray, List.getElem_cons_zero, List.getElem_cons_succ, List.setIfInBounds_toArray, List.set_cons_zero, List.set_cons_succ]
  refine wpAnyH_ready (rs := [4]) (by kernel_rfl) (by simp) ?_
  refine AllReadyH.cons rfl (fun K hK => ?_) AllReadyH.nil
  go_simp
  refine hK.out _ _ (hHeld) (fun hHeld2 => ?_)
  clear hK K hHeld
  have hHeld := hHeld2
  clear hHeld2
  try simp only [Act.put, List.getElem_toArray, List.getElem_cons_zero, List.getElem_cons_succ, List.setIfInBounds_toArray, List.set_cons_zero, List.set_cons_succ]
  clear hrun
  refine wpAnyH_take (i := 5) (v := ?_) rfl (by kernel_rfl) (by kernel_rfl) (by kernel_rfl) (fun _ _ _ h => h) (Or.inl ⟨by rfl, ?_⟩) (by assumption) ?_
  rotate_left
  · intro u hSu
    (try dsimp only at hSu)
    first | (go_simp; done) | (go_simp; with_reducible rfl)
  try simp only [Act.put, List.getElem_toArray, List.getElem_cons_zero, List.getElem_cons_succ, List.setIfInBounds_toArray, List.set_cons_zero, List.set_cons_succ]
  have z0 := S2.out.at_ (j := 0) (by decide)
  have z1 := S2.out.at_ (j := 1) (by decide)
  have z2 := S2.out.at_ (j := 2) (by decide)
  have z3 := S2.out.at_ (j := 3) (by decide)
  have f0 := S2.out.fz (j := 0) (by decide)
  have f1 := S2.out.fz (j := 1) (by decide)
  have f2 := S2.out.fz (j := 2) (by decide)
  have f3 := S2.out.fz (j := 3) (by decide)
  simp only [zg] at z0 z1 z2 z3
  refine wpAnyH_ready (rs := [6]) (by kernel_rfl) (by simp) ?_
  refine AllReadyH.cons rfl (fun K hK => ?_) AllReadyH.nil
  go_simp
  clear z0 z1 z2 z3 f0 f1 f2 f3
  change K _ (v1.setCells (w.heap.size + 1) 0 [.int .i8 x.up, .int .i8 x.down, .slice A n c, .func (.func 123) #[] #[]])
  have HST := NS.stored (A := A) (n := n) (c := c) (fm := .func (.func 123) #[] #[]) S2.out
  refine hK.out _ _ (HST.1) (fun hHeld2 => ?_)
  clear hK K hHeld
  have hHeld := hHeld2
  clear hHeld2
  try simp only [Act.put, List.getElem_toArray, List.getElem_cons_zero, List.getElem_cons_succ, List.setIfInBounds_toArray, List.set_cons_zero, List.set_cons_succ]
  refine wpAnyH_done (by kernel_rfl) ?_ _
  clear hHeld
  go_wp2_with fail
  refine bodyPost_ret (v := gV x A n c (.func (.func 123) #[] #[])) (results_stored Tryd.results77 rfl HST.2.2 Tryd.underlying89 rfl infoG) rfl ⟨rfl, HST.2.1⟩

set_option maxRecDepth 100000 in
set_option maxHeartbeats 4000000 in
theorem newIroning_3 (x : Iro) (A : Option Addr) (n c : Nat) (w : World) :
    Calls Tryd.prog 77 #[x.v, .slice A n c, .int .u8 3] w fun o w' => o = .returned (gV x A n c (.func (.func 124) #[] #[])) ∧ Below w.heap.size w w' := by
  have hzz : ∀ u : World, (zeroValue 89).run Tryd.prog u = .ok (.agg #[.int .i8 0, .int .i8 0, .slice none 0 0, .nilFunc]) u := (zero_of_info zeroGi).1
  obtain ⟨u0, hu0⟩ : ∃ u, u = (w.alloc (.cells #[.int .i8 x.up, .int .i8 x.down] 27)).alloc (.cells #[.int .i8 0, .int .i8 0, .slice none 0 0, .nilFunc] 89) := ⟨_, rfl⟩
  have S0 : Hid (NS x zg w u0) := Lib.hid (by rw [hu0]; exact NS.new x w _ _)
  have HU := Lib.hid hu0
  clear hu0
  go_enter Tryd.func77, Tryd.ntmps77
  go_wp2_with (first | (rw [← HU.out]) | fail)
  refine wp_region_held_drew (S := NH x w) (by kernel_rfl) ⟨(S0.out.next (Below.refl _ _).drew).c0, (S0.out.next (Below.refl _ _).drew).c1⟩ (fun hHeld => ?_)
  have S1 := Lib.hid (S0.out.next (Below.refl _ _).drew)
  generalize u0.drew = v0 at S1 hHeld ⊢
  clear HU S0
  refine wpAnyH_take (i := 0) (v := ?_) rfl (by kernel_rfl) (by kernel_rfl) (by kernel_rfl) (fun _ _ _ h => h) (Or.inl ⟨by rfl, ?_⟩) (by assumption) ?_
  rotate_left
  · intro u hSu
    (try dsimp only at hSu)
    first | (go_simp; done) | (go_simp; with_reducible rfl)
  try simp only [Act.put, List.getElem_toArray, List.getElem_cons_zero, List.getElem_cons_succ, List.setIfInBounds_toArray, List.set_cons_zero, List.set_cons_succ]
  refine wpAnyH_take (i := 1) (v := ?_) rfl (by kernel_rfl) (by kernel_rfl) (by kernel_rfl) (fun _ _ _ h => h) (Or.inl ⟨by rfl, ?_⟩) (by assumption) ?_
  rotate_left
  · intro u hSu
    (try dsimp only at hSu)
    first | (go_simp; done) | (go_simp; with_reducible rfl)
  try simp only [Act.put, List.getElem_toArray, List.getElem_cons_zero, List.getElem_cons_succ, List.setIfInBounds_toArray, List.set_cons_zero, List.set_cons_succ]
  refine wpAnyH_take (i := 3) (v := ?_) rfl (by kernel_rfl) (by kernel_rfl) (by kernel_rfl) (fun _ _ _ h => h) (Or.inl ⟨by rfl, ?_⟩) (by assumption) ?_
  rotate_left
  · intro u hSu
    (try dsimp only at hSu)
    first | (go_simp; done) | (go_simp; with_reducible rfl)
  try simp only [Act.put, List.getElem_toArray, List.getElem_cons_zero, List.getElem_cons_succ, List.setIfInBounds_toArray, List.set_cons_zero, List.set_cons_succ]
  refine wpAnyH_ready (rs := [2]) (by kernel_rfl) (by simp) ?_
  refine AllReadyH.cons rfl (fun K hK => ?_) AllReadyH.nil
  go_simp
  refine (measures_any _).mono ?_
  rintro o v1 ⟨g, rfl, hm, hb⟩
  have S2 := Lib.hid (S1.out.next hb)
  obtain ⟨fv, psv, hrun, hR⟩ := hm.lookup keyedA undMA (zeroF v1) (zd := .lit (.bool false)) (zp := []) rfl keyA3
  rw [atF3] at hR
  obtain rfl := readF_inv hR
  clear hR hm hb S1
  refine hK.out _ _ (⟨S2.out.c0, S2.out.c1⟩) (fun hHeld2 => ?_)
  clear hK K hHeld
  have hHeld := hHeld2
  clear hHeld2
  try simp only [Act.put, List.getElem_toArray, List.getElem_cons_zero, List.getElem_cons_succ, List.setIfInBounds_toArray, List.set_cons_zero, List.set_cons_succ]
  refine wpAnyH_ready (rs := [4]) (by kernel_rfl) (by simp) ?_
  refine AllReadyH.cons rfl (fun K hK => ?_) AllReadyH.nil
  go_simp
  refine hK.out _ _ (hHeld) (fun hHeld2 => ?_)
  clear hK K hHeld
  have hHeld := hHeld2
  clear hHeld2
  try simp only [Act.put, List.getElem_toArray, List.getElem_cons_zero, List.getElem_cons_succ, List.setIfInBounds_toArray, List.set_cons_zero, List.set_cons_succ]
  clear hrun
  refine wpAnyH_take (i := 5) (v := ?_) rfl (by kernel_rfl) (by kernel_rfl) (by kernel_rfl) (fun _ _ _ h => h) (Or.inl ⟨by rfl, ?_⟩) (by assumption) ?_
  rotate_left
  · intro u hSu
    (try dsimp only at hSu)
    first | (go_simp; done) | (go_simp; with_reducible rfl)
  try simp only [Act.put, List.getElem_toArray, List.getElem_cons_zero, List.getElem_cons_succ, List.setIfInBounds_toArray, List.set_cons_zero, List.set_cons_succ]
  have z0 := S2.out.at_ (j := 0) (by decide)
  have z1 := S2.out.at_ (j := 1) (by decide)
  have z2 := S2.out.at_ (j := 2) (by decide)
  have z3 := S2.out.at_ (j := 3) (by decide)
  have f0 := S2.out.fz (j := 0) (by decide)
  have f1 := S2.out.fz (j := 1) (by decide)
  have f2 := S2.out.fz (j := 2) (by decide)
  have f3 := S2.out.fz (j := 3) (by decide)
  simp only [zg] at z0 z1 z2 z3
  refine wpAnyH_ready (rs := [6]) (by kernel_rfl) (by simp) ?_
  refine AllReadyH.cons rfl (fun K hK => ?_) AllReadyH.nil
  go_simp
  clear z0 z1 z2 z3 f0 f1 f2 f3
  change K _ (v1.setCells (w.heap.size + 1) 0 [.int .i8 x.up, .int .i8 x.down, .slice A n c, .func (.func 124) #[] #[]])
  have HST := NS.stored (A := A) (n := n) (c := c) (fm := .func (.func 124) #[] #[]) S2.out
  refine hK.out _ _ (HST.1) (fun hHeld2 => ?_)
  clear hK K hHeld
  have hHeld := hHeld2
  clear hHeld2
  try simp only [Act.put, List.getElem_toArray, List.getElem_cons_zero, List.getElem_cons_succ, List.setIfInBounds_toArray, List.set_cons_zero, List.set_cons_succ]
  refine wpAnyH_done (by kernel_rfl) ?_ _
  clear hHeld
  go_wp2_with fail
  refine bodyPost_ret (v := gV x A n c (.func (.func 124) #[] #[])) (results_stored Tryd.results77 rfl HST.2.2 Tryd.underlying89 rfl infoG) rfl ⟨rfl, HST.2.1⟩

end Go.Proofs.YtajhdgoinghmmaaDoor.iron

/-
  Orders of pieces: the program's starts of one, and TotalTime, LatenessOf, WaitSum.
-/
namespace Go.Proofs.YtajhdgoinghmmaaDoor.iron
open Go Go.RowKit sl stk errs row

theorem owns_down {w : World} {b b' : Nat} {e : TypeId} {sz : Nat} {v : Value} {n : Nat} {L : List Value} (h : w.ownsRow b e sz v n L) (hb : b' ≤ b) : w.ownsRow b' e sz v n L := by
  refine ⟨h.1, ?_⟩
  rcases h.2 with h2 | ⟨g, cap, cur, h1, hg, rest⟩
  · exact .inl h2
  · exact .inr ⟨g, cap, cur, h1, Nat.le_trans hb hg, rest⟩
/-- a measure of an order, and the code -/
noncomputable def sumR (a : Nat) (x : Iro) (ps : List Pie) (os : List Int) : Int × Nat := if codeOrd x ps os = 0 then ((runs x a ps os).sum, 0) else (0, codeOrd x ps os)
theorem sum_ok {a : Nat} {x : Iro} {ps : List Pie} {os : List Int} {r0 : Int} {r1 : Nat} (h : sumR a x ps os = (r0, r1)) (hc : codeOrd x ps os = 0) : (runs x a ps os).sum = r0 ∧ r1 = 0 := by
  rw [sumR, if_pos hc] at h
  simp at h
  exact ⟨h.1, h.2.symm⟩
theorem sum_no {a : Nat} {x : Iro} {ps : List Pie} {os : List Int} {r0 : Int} {r1 i : Nat} (h : sumR a x ps os = (r0, r1)) (hc : codeOrd x ps os = i + 1) : r0 = 0 ∧ r1 = i + 1 := by
  rw [sumR, if_neg (by omega), hc] at h
  simp at h
  omega
set_option maxRecDepth 100000 in
set_option maxHeartbeats 4000000 in
theorem startsOf_ok0 (x : Iro) (hx : x.Fits) (A : Option Addr) (n c : Nat) (ps : List Pie) (en : n = ps.length) (hn : n ≤ 1048576) (hf : ∀ p ∈ ps, p.Fits) (A' : Option Addr) (m c' : Nat) (os : List Int) (em : m = os.length) (hm : m ≤ 1048576) (hk : codeOrd x ps os = 0) {w : World} {B : Nat} {e : Nat → Addr} (h : Errs w B e) (hB : B ≤ w.heap.size) (hg : Sl Pie.cells 3 w w.heap.size A ps) (hg' : Sl intS.C 1 w w.heap.size A' os) :
    Calls Tryd.prog 65 #[x.v, .slice A n c, .slice A' m c', .int .u8 0] w fun o w' => ∃ g, o = .returned (.tuple #[.slice (some ⟨g, 0, none⟩) (m + 1 : Nat) (m + 1 : Nat), .nilIface]) ∧
      w'.ownsRow w.heap.size 76 12 (.slice (some ⟨g, 0, none⟩) (m + 1) (m + 1)) (m + 1) ((stFs x 0 ps os).flatMap strC) ∧ Below w.heap.size w w' := by
  obtain ⟨k0, hk0⟩ : ∃ k : Nat, k = if iroB x = true then 0 else 1 := ⟨_, rfl⟩
  obtain ⟨k1, hk1⟩ : ∃ k : Nat, k = codePs ps := ⟨_, rfl⟩
  obtain ⟨k2, hk2⟩ : ∃ k : Nat, k = if ordB n os = true then 0 else 4 := ⟨_, rfl⟩
  have HF := Lib.hid (code3o x ps os n en k0 k1 k2 hk0 hk1 hk2)
  have HK0 := Lib.hid hk0
  have HK1 := Lib.hid hk1
  have HK2 := Lib.hid hk2
  have HK := Lib.hid hk
  have En := Lib.hid en
  have Em := Lib.hid em
  have HFT := Lib.hid hf
  have S0 := Lib.hid (HotS.new x w 27)
  have c0 := S0.out.c0
  have c1 := S0.out.c1
  clear hk0 hk1 hk2 hk en em hf
  go_enter Tryd.func65, Tryd.ntmps65
  go_wp2_with fail
  refine (checkIron_any x hx (h.below (S0.out.b.mono hB)) (Nat.le_trans hB S0.out.b.size) k0 HK0.out).mono ?_
  rintro o w1 ⟨rfl, hb1⟩
  have S1 := Lib.hid (S0.out.next hb1)
  clear c0 c1 hb1
  go_wp2_with fail
  refine (checkIroned_any A n c ps En.out hn HFT.out (h.below (S1.out.b.mono hB)) (Nat.le_trans hB S1.out.b.size) ((hg.below S1.out.b).more S1.out.b.size) k1 HK1.out).mono ?_
  rintro o w2 ⟨rfl, hb2⟩
  have S2 := Lib.hid (S1.out.next hb2)
  clear hb2
  go_wp2_with fail
  refine (checkOrder_any n hn A' m c' os Em.out hm (h.below (S2.out.b.mono hB)) (Nat.le_trans hB S2.out.b.size) ((hg'.below S2.out.b).more S2.out.b.size) k2 HK2.out).mono ?_
  rintro o w3 ⟨rfl, hb3⟩
  have S3 := Lib.hid (S2.out.next hb3)
  clear hb3
  go_wp2_with (refine wpList_listed rfl 98 3 _ rfl #[(0, errOf e k0), (1, errOf e k1), (2, errOf e k2)] ?hp (buildSlice3 e k0 k1 k2 _) ?_; case hp => simp [Act.eval])
  refine (firstOf_any e [k0, k1, k2] _ 3 3 rfl (by decide) _ (cells_errs3 e k0 k1 k2 w3 55)).mono ?_
  rintro o w4 ⟨rfl, rfl⟩
  rw [HF.out, HK.out]
  obtain ⟨w4, hw4⟩ : ∃ w4, w4 = w3.alloc (.cells #[errOf e k0, errOf e k1, errOf e k2] 55) := ⟨_, rfl⟩
  have S4 := Lib.hid (S3.out.next ((Below.refl _ _).alloc (Nat.le_refl _) (.cells #[errOf e k0, errOf e k1, errOf e k2] 55)))
  rw [← hw4] at S4 ⊢
  have H4 := Lib.hid (h.below (S4.out.b.mono hB))
  have c0 := S4.out.c0
  have c1 := S4.out.c1
  clear hw4
  obtain ⟨hv, hp, h8, hl, hgd⟩ := codeOrd_zero HK.out
  rw [← En.out] at h8 hl hgd
  rw [← Em.out] at hl hgd
  have HV := Lib.hid hv
  have HP := Lib.hid hp
  have HO := Lib.hid (good_in (by rw [← Em.out]; exact hgd))
  have hm8 : m ≤ 8 := by omega
  clear hv hp hgd hl
  rw [show errOf e 0 = .nilIface from rfl]
  go_wp2_with fail
  refine (newIroning_0 x A n c _).mono ?_
  rintro o w5 ⟨rfl, hb5⟩
  have S5 := Lib.hid (S4.out.next hb5)
  clear hb5 c0 c1
  go_wp2_with fail
  refine (along_0 x HV.out A n c ps En.out h8 HP.out A' m c' os Em.out hm8 HO.out _ ((hg.below S5.out.b).more S5.out.b.size) ((hg'.below S5.out.b).more S5.out.b.size)).mono ?_
  rintro o w6 ⟨g, rfl, hP, hb6⟩
  have S6 := Lib.hid (S5.out.next hb6)
  have HPP := Lib.hid (owns_down hP S5.out.b.size)
  clear hb6 hP
  go_wp2_with fail
  go_ret2
  exact ⟨g, rfl, HPP.out, S6.out.b⟩

set_option maxRecDepth 100000 in
set_option maxHeartbeats 4000000 in
theorem startsOf_no0 (x : Iro) (hx : x.Fits) (A : Option Addr) (n c : Nat) (ps : List Pie) (en : n = ps.length) (hn : n ≤ 1048576) (hf : ∀ p ∈ ps, p.Fits) (A' : Option Addr) (m c' : Nat) (os : List Int) (em : m = os.length) (hm : m ≤ 1048576) (i : Nat) (hk : codeOrd x ps os = i + 1) {w : World} {B : Nat} {e : Nat → Addr} (h : Errs w B e) (hB : B ≤ w.heap.size) (hg : Sl Pie.cells 3 w w.heap.size A ps) (hg' : Sl intS.C 1 w w.heap.size A' os) :
    Calls Tryd.prog 65 #[x.v, .slice A n c, .slice A' m c', .int .u8 0] w fun o w' => o = .returned (.tuple #[.slice none 0 0, errOf e (i + 1)]) ∧ Below w.heap.size w w' := by
  obtain ⟨k0, hk0⟩ : ∃ k : Nat, k = if iroB x = true then 0 else 1 := ⟨_, rfl⟩
  obtain ⟨k1, hk1⟩ : ∃ k : Nat, k = codePs ps := ⟨_, rfl⟩
  obtain ⟨k2, hk2⟩ : ∃ k : Nat, k = if ordB n os = true then 0 else 4 := ⟨_, rfl⟩
  have HF := Lib.hid (code3o x ps os n en k0 k1 k2 hk0 hk1 hk2)
  have HK0 := Lib.hid hk0
  have HK1 := Lib.hid hk1
  have HK2 := Lib.hid hk2
  have HK := Lib.hid hk
  have En := Lib.hid en
  have Em := Lib.hid em
  have HFT := Lib.hid hf
  have S0 := Lib.hid (HotS.new x w 27)
  have c0 := S0.out.c0
  have c1 := S0.out.c1
  clear hk0 hk1 hk2 hk en em hf
  go_enter Tryd.func65, Tryd.ntmps65
  go_wp2_with fail
  refine (checkIron_any x hx (h.below (S0.out.b.mono hB)) (Nat.le_trans hB S0.out.b.size) k0 HK0.out).mono ?_
  rintro o w1 ⟨rfl, hb1⟩
  have S1 := Lib.hid (S0.out.next hb1)
  clear c0 c1 hb1
  go_wp2_with fail
  refine (checkIroned_any A n c ps En.out hn HFT.out (h.below (S1.out.b.mono hB)) (Nat.le_trans hB S1.out.b.size) ((hg.below S1.out.b).more S1.out.b.size) k1 HK1.out).mono ?_
  rintro o w2 ⟨rfl, hb2⟩
  have S2 := Lib.hid (S1.out.next hb2)
  clear hb2
  go_wp2_with fail
  refine (checkOrder_any n hn A' m c' os Em.out hm (h.below (S2.out.b.mono hB)) (Nat.le_trans hB S2.out.b.size) ((hg'.below S2.out.b).more S2.out.b.size) k2 HK2.out).mono ?_
  rintro o w3 ⟨rfl, hb3⟩
  have S3 := Lib.hid (S2.out.next hb3)
  clear hb3
  go_wp2_with (refine wpList_listed rfl 98 3 _ rfl #[(0, errOf e k0), (1, errOf e k1), (2, errOf e k2)] ?hp (buildSlice3 e k0 k1 k2 _) ?_; case hp => simp [Act.eval])
  refine (firstOf_any e [k0, k1, k2] _ 3 3 rfl (by decide) _ (cells_errs3 e k0 k1 k2 w3 55)).mono ?_
  rintro o w4 ⟨rfl, rfl⟩
  rw [HF.out, HK.out]
  obtain ⟨w4, hw4⟩ : ∃ w4, w4 = w3.alloc (.cells #[errOf e k0, errOf e k1, errOf e k2] 55) := ⟨_, rfl⟩
  have S4 := Lib.hid (S3.out.next ((Below.refl _ _).alloc (Nat.le_refl _) (.cells #[errOf e k0, errOf e k1, errOf e k2] 55)))
  rw [← hw4] at S4 ⊢
  have H4 := Lib.hid (h.below (S4.out.b.mono hB))
  have c0 := S4.out.c0
  have c1 := S4.out.c1
  clear hw4
  rw [show errOf e (i + 1) = errV (e i) from rfl]
  go_wp2_with fail
  go_ret2
  exact ⟨rfl, S4.out.b⟩

set_option maxRecDepth 100000 in
set_option maxHeartbeats 4000000 in
theorem startsOf_ok1 (x : Iro) (hx : x.Fits) (A : Option Addr) (n c : Nat) (ps : List Pie) (en : n = ps.length) (hn : n ≤ 1048576) (hf : ∀ p ∈ ps, p.Fits) (A' : Option Addr) (m c' : Nat) (os : List Int) (em : m = os.length) (hm : m ≤ 1048576) (hk : codeOrd x ps os = 0) {w : World} {B : Nat} {e : Nat → Addr} (h : Errs w B e) (hB : B ≤ w.heap.size) (hg : Sl Pie.cells 3 w w.heap.size A ps) (hg' : Sl intS.C 1 w w.heap.size A' os) :
    Calls Tryd.prog 65 #[x.v, .slice A n c, .slice A' m c', .int .u8 1] w fun o w' => ∃ g, o = .returned (.tuple #[.slice (some ⟨g, 0, none⟩) (m + 1 : Nat) (m + 1 : Nat), .nilIface]) ∧
      w'.ownsRow w.heap.size 76 12 (.slice (some ⟨g, 0, none⟩) (m + 1) (m + 1)) (m + 1) ((stFs x 1 ps os).flatMap strC) ∧ Below w.heap.size w w' := by
  obtain ⟨k0, hk0⟩ : ∃ k : Nat, k = if iroB x = true then 0 else 1 := ⟨_, rfl⟩
  obtain ⟨k1, hk1⟩ : ∃ k : Nat, k = codePs ps := ⟨_, rfl⟩
  obtain ⟨k2, hk2⟩ : ∃ k : Nat, k = if ordB n os = true then 0 else 4 := ⟨_, rfl⟩
  have HF := Lib.hid (code3o x ps os n en k0 k1 k2 hk0 hk1 hk2)
  have HK0 := Lib.hid hk0
  have HK1 := Lib.hid hk1
  have HK2 := Lib.hid hk2
  have HK := Lib.hid hk
  have En := Lib.hid en
  have Em := Lib.hid em
  have HFT := Lib.hid hf
  have S0 := Lib.hid (HotS.new x w 27)
  have c0 := S0.out.c0
  have c1 := S0.out.c1
  clear hk0 hk1 hk2 hk en em hf
  go_enter Tryd.func65, Tryd.ntmps65
  go_wp2_with fail
  refine (checkIron_any x hx (h.below (S0.out.b.mono hB)) (Nat.le_trans hB S0.out.b.size) k0 HK0.out).mono ?_
  rintro o w1 ⟨rfl, hb1⟩
  have S1 := Lib.hid (S0.out.next hb1)
  clear c0 c1 hb1
  go_wp2_with fail
  refine (checkIroned_any A n c ps En.out hn HFT.out (h.below (S1.out.b.mono hB)) (Nat.le_trans hB S1.out.b.size) ((hg.below S1.out.b).more S1.out.b.size) k1 HK1.out).mono ?_
  rintro o w2 ⟨rfl, hb2⟩
  have S2 := Lib.hid (S1.out.next hb2)
  clear hb2
  go_wp2_with fail
  refine (checkOrder_any n hn A' m c' os Em.out hm (h.below (S2.out.b.mono hB)) (Nat.le_trans hB S2.out.b.size) ((hg'.below S2.out.b).more S2.out.b.size) k2 HK2.out).mono ?_
  rintro o w3 ⟨rfl, hb3⟩
  have S3 := Lib.hid (S2.out.next hb3)
  clear hb3
  go_wp2_with (refine wpList_listed rfl 98 3 _ rfl #[(0, errOf e k0), (1, errOf e k1), (2, errOf e k2)] ?hp (buildSlice3 e k0 k1 k2 _) ?_; case hp => simp [Act.eval])
  refine (firstOf_any e [k0, k1, k2] _ 3 3 rfl (by decide) _ (cells_errs3 e k0 k1 k2 w3 55)).mono ?_
  rintro o w4 ⟨rfl, rfl⟩
  rw [HF.out, HK.out]
  obtain ⟨w4, hw4⟩ : ∃ w4, w4 = w3.alloc (.cells #[errOf e k0, errOf e k1, errOf e k2] 55) := ⟨_, rfl⟩
  have S4 := Lib.hid (S3.out.next ((Below.refl _ _).alloc (Nat.le_refl _) (.cells #[errOf e k0, errOf e k1, errOf e k2] 55)))
  rw [← hw4] at S4 ⊢
  have H4 := Lib.hid (h.below (S4.out.b.mono hB))
  have c0 := S4.out.c0
  have c1 := S4.out.c1
  clear hw4
  obtain ⟨hv, hp, h8, hl, hgd⟩ := codeOrd_zero HK.out
  rw [← En.out] at h8 hl hgd
  rw [← Em.out] at hl hgd
  have HV := Lib.hid hv
  have HP := Lib.hid hp
  have HO := Lib.hid (good_in (by rw [← Em.out]; exact hgd))
  have hm8 : m ≤ 8 := by omega
  clear hv hp hgd hl
  rw [show errOf e 0 = .nilIface from rfl]
  go_wp2_with fail
  refine (newIroning_1 x A n c _).mono ?_
  rintro o w5 ⟨rfl, hb5⟩
  have S5 := Lib.hid (S4.out.next hb5)
  clear hb5 c0 c1
  go_wp2_with fail
  refine (along_1 x HV.out A n c ps En.out h8 HP.out A' m c' os Em.out hm8 HO.out _ ((hg.below S5.out.b).more S5.out.b.size) ((hg'.below S5.out.b).more S5.out.b.size)).mono ?_
  rintro o w6 ⟨g, rfl, hP, hb6⟩
  have S6 := Lib.hid (S5.out.next hb6)
  have HPP := Lib.hid (owns_down hP S5.out.b.size)
  clear hb6 hP
  go_wp2_with fail
  go_ret2
  exact ⟨g, rfl, HPP.out, S6.out.b⟩

set_option maxRecDepth 100000 in
set_option maxHeartbeats 4000000 in
theorem startsOf_no1 (x : Iro) (hx : x.Fits) (A : Option Addr) (n c : Nat) (ps : List Pie) (en : n = ps.length) (hn : n ≤ 1048576) (hf : ∀ p ∈ ps, p.Fits) (A' : Option Addr) (m c' : Nat) (os : List Int) (em : m = os.length) (hm : m ≤ 1048576) (i : Nat) (hk : codeOrd x ps os = i + 1) {w : World} {B : Nat} {e : Nat → Addr} (h : Errs w B e) (hB : B ≤ w.heap.size) (hg : Sl Pie.cells 3 w w.heap.size A ps) (hg' : Sl intS.C 1 w w.heap.size A' os) :
    Calls Tryd.prog 65 #[x.v, .slice A n c, .slice A' m c', .int .u8 1] w fun o w' => o = .returned (.tuple #[.slice none 0 0, errOf e (i + 1)]) ∧ Below w.heap.size w w' := by
  obtain ⟨k0, hk0⟩ : ∃ k : Nat, k = if iroB x = true then 0 else 1 := ⟨_, rfl⟩
  obtain ⟨k1, hk1⟩ : ∃ k : Nat, k = codePs ps := ⟨_, rfl⟩
  obtain ⟨k2, hk2⟩ : ∃ k : Nat, k = if ordB n os = true then 0 else 4 := ⟨_, rfl⟩
  have HF := Lib.hid (code3o x ps os n en k0 k1 k2 hk0 hk1 hk2)
  have HK0 := Lib.hid hk0
  have HK1 := Lib.hid hk1
  have HK2 := Lib.hid hk2
  have HK := Lib.hid hk
  have En := Lib.hid en
  have Em := Lib.hid em
  have HFT := Lib.hid hf
  have S0 := Lib.hid (HotS.new x w 27)
  have c0 := S0.out.c0
  have c1 := S0.out.c1
  clear hk0 hk1 hk2 hk en em hf
  go_enter Tryd.func65, Tryd.ntmps65
  go_wp2_with fail
  refine (checkIron_any x hx (h.below (S0.out.b.mono hB)) (Nat.le_trans hB S0.out.b.size) k0 HK0.out).mono ?_
  rintro o w1 ⟨rfl, hb1⟩
  have S1 := Lib.hid (S0.out.next hb1)
  clear c0 c1 hb1
  go_wp2_with fail
  refine (checkIroned_any A n c ps En.out hn HFT.out (h.below (S1.out.b.mono hB)) (Nat.le_trans hB S1.out.b.size) ((hg.below S1.out.b).more S1.out.b.size) k1 HK1.out).mono ?_
  rintro o w2 ⟨rfl, hb2⟩
  have S2 := Lib.hid (S1.out.next hb2)
  clear hb2
  go_wp2_with fail
  refine (checkOrder_any n hn A' m c' os Em.out hm (h.below (S2.out.b.mono hB)) (Nat.le_trans hB S2.out.b.size) ((hg'.below S2.out.b).more S2.out.b.size) k2 HK2.out).mono ?_
  rintro o w3 ⟨rfl, hb3⟩
  have S3 := Lib.hid (S2.out.next hb3)
  clear hb3
  go_wp2_with (refine wpList_listed rfl 98 3 _ rfl #[(0, errOf e k0), (1, errOf e k1), (2, errOf e k2)] ?hp (buildSlice3 e k0 k1 k2 _) ?_; case hp => simp [Act.eval])
  refine (firstOf_any e [k0, k1, k2] _ 3 3 rfl (by decide) _ (cells_errs3 e k0 k1 k2 w3 55)).mono ?_
  rintro o w4 ⟨rfl, rfl⟩
  rw [HF.out, HK.out]
  obtain ⟨w4, hw4⟩ : ∃ w4, w4 = w3.alloc (.cells #[errOf e k0, errOf e k1, errOf e k2] 55) := ⟨_, rfl⟩
  have S4 := Lib.hid (S3.out.next ((Below.refl _ _).alloc (Nat.le_refl _) (.cells #[errOf e k0, errOf e k1, errOf e k2] 55)))
  rw [← hw4] at S4 ⊢
  have H4 := Lib.hid (h.below (S4.out.b.mono hB))
  have c0 := S4.out.c0
  have c1 := S4.out.c1
  clear hw4
  rw [show errOf e (i + 1) = errV (e i) from rfl]
  go_wp2_with fail
  go_ret2
  exact ⟨rfl, S4.out.b⟩

set_option maxRecDepth 100000 in
set_option maxHeartbeats 4000000 in
theorem startsOf_ok2 (x : Iro) (hx : x.Fits) (A : Option Addr) (n c : Nat) (ps : List Pie) (en : n = ps.length) (hn : n ≤ 1048576) (hf : ∀ p ∈ ps, p.Fits) (A' : Option Addr) (m c' : Nat) (os : List Int) (em : m = os.length) (hm : m ≤ 1048576) (hk : codeOrd x ps os = 0) {w : World} {B : Nat} {e : Nat → Addr} (h : Errs w B e) (hB : B ≤ w.heap.size) (hg : Sl Pie.cells 3 w w.heap.size A ps) (hg' : Sl intS.C 1 w w.heap.size A' os) :
    Calls Tryd.prog 65 #[x.v, .slice A n c, .slice A' m c', .int .u8 2] w fun o w' => ∃ g, o = .returned (.tuple #[.slice (some ⟨g, 0, none⟩) (m + 1 : Nat) (m + 1 : Nat), .nilIface]) ∧
      w'.ownsRow w.heap.size 76 12 (.slice (some ⟨g, 0, none⟩) (m + 1) (m + 1)) (m + 1) ((stFs x 2 ps os).flatMap strC) ∧ Below w.heap.size w w' := by
  obtain ⟨k0, hk0⟩ : ∃ k : Nat, k = if iroB x = true then 0 else 1 := ⟨_, rfl⟩
  obtain ⟨k1, hk1⟩ : ∃ k : Nat, k = codePs ps := ⟨_, rfl⟩
  obtain ⟨k2, hk2⟩ : ∃ k : Nat, k = if ordB n os = true then 0 else 4 := ⟨_, rfl⟩
  have HF := Lib.hid (code3o x ps os n en k0 k1 k2 hk0 hk1 hk2)
  have HK0 := Lib.hid hk0
  have HK1 := Lib.hid hk1
  have HK2 := Lib.hid hk2
  have HK := Lib.hid hk
  have En := Lib.hid en
  have Em := Lib.hid em
  have HFT := Lib.hid hf
  have S0 := Lib.hid (HotS.new x w 27)
  have c0 := S0.out.c0
  have c1 := S0.out.c1
  clear hk0 hk1 hk2 hk en em hf
  go_enter Tryd.func65, Tryd.ntmps65
  go_wp2_with fail
  refine (checkIron_any x hx (h.below (S0.out.b.mono hB)) (Nat.le_trans hB S0.out.b.size) k0 HK0.out).mono ?_
  rintro o w1 ⟨rfl, hb1⟩
  have S1 := Lib.hid (S0.out.next hb1)
  clear c0 c1 hb1
  go_wp2_with fail
  refine (checkIroned_any A n c ps En.out hn HFT.out (h.below (S1.out.b.mono hB)) (Nat.le_trans hB S1.out.b.size) ((hg.below S1.out.b).more S1.out.b.size) k1 HK1.out).mono ?_
  rintro o w2 ⟨rfl, hb2⟩
  have S2 := Lib.hid (S1.out.next hb2)
  clear hb2
  go_wp2_with fail
  refine (checkOrder_any n hn A' m c' os Em.out hm (h.below (S2.out.b.mono hB)) (Nat.le_trans hB S2.out.b.size) ((hg'.below S2.out.b).more S2.out.b.size) k2 HK2.out).mono ?_
  rintro o w3 ⟨rfl, hb3⟩
  have S3 := Lib.hid (S2.out.next hb3)
  clear hb3
  go_wp2_with (refine wpList_listed rfl 98 3 _ rfl #[(0, errOf e k0), (1, errOf e k1), (2, errOf e k2)] ?hp (buildSlice3 e k0 k1 k2 _) ?_; case hp => simp [Act.eval])
  refine (firstOf_any e [k0, k1, k2] _ 3 3 rfl (by decide) _ (cells_errs3 e k0 k1 k2 w3 55)).mono ?_
  rintro o w4 ⟨rfl, rfl⟩
  rw [HF.out, HK.out]
  obtain ⟨w4, hw4⟩ : ∃ w4, w4 = w3.alloc (.cells #[errOf e k0, errOf e k1, errOf e k2] 55) := ⟨_, rfl⟩
  have S4 := Lib.hid (S3.out.next ((Below.refl _ _).alloc (Nat.le_refl _) (.cells #[errOf e k0, errOf e k1, errOf e k2] 55)))
  rw [← hw4] at S4 ⊢
  have H4 := Lib.hid (h.below (S4.out.b.mono hB))
  have c0 := S4.out.c0
  have c1 := S4.out.c1
  clear hw4
  obtain ⟨hv, hp, h8, hl, hgd⟩ := codeOrd_zero HK.out
  rw [← En.out] at h8 hl hgd
  rw [← Em.out] at hl hgd
  have HV := Lib.hid hv
  have HP := Lib.hid hp
  have HO := Lib.hid (good_in (by rw [← Em.out]; exact hgd))
  have hm8 : m ≤ 8 := by omega
  clear hv hp hgd hl
  rw [show errOf e 0 = .nilIface from rfl]
  go_wp2_with fail
  refine (newIroning_2 x A n c _).mono ?_
  rintro o w5 ⟨rfl, hb5⟩
  have S5 := Lib.hid (S4.out.next hb5)
  clear hb5 c0 c1
  go_wp2_with fail
  refine (along_2 x HV.out A n c ps En.out h8 HP.out A' m c' os Em.out hm8 HO.out _ ((hg.below S5.out.b).more S5.out.b.size) ((hg'.below S5.out.b).more S5.out.b.size)).mono ?_
  rintro o w6 ⟨g, rfl, hP, hb6⟩
  have S6 := Lib.hid (S5.out.next hb6)
  have HPP := Lib.hid (owns_down hP S5.out.b.size)
  clear hb6 hP
  go_wp2_with fail
  go_ret2
  exact ⟨g, rfl, HPP.out, S6.out.b⟩

set_option maxRecDepth 100000 in
set_option maxHeartbeats 4000000 in
theorem startsOf_no2 (x : Iro) (hx : x.Fits) (A : Option Addr) (n c : Nat) (ps : List Pie) (en : n = ps.length) (hn : n ≤ 1048576) (hf : ∀ p ∈ ps, p.Fits) (A' : Option Addr) (m c' : Nat) (os : List Int) (em : m = os.length) (hm : m ≤ 1048576) (i : Nat) (hk : codeOrd x ps os = i + 1) {w : World} {B : Nat} {e : Nat → Addr} (h : Errs w B e) (hB : B ≤ w.heap.size) (hg : Sl Pie.cells 3 w w.heap.size A ps) (hg' : Sl intS.C 1 w w.heap.size A' os) :
    Calls Tryd.prog 65 #[x.v, .slice A n c, .slice A' m c', .int .u8 2] w fun o w' => o = .returned (.tuple #[.slice none 0 0, errOf e (i + 1)]) ∧ Below w.heap.size w w' := by
  obtain ⟨k0, hk0⟩ : ∃ k : Nat, k = if iroB x = true then 0 else 1 := ⟨_, rfl⟩
  obtain ⟨k1, hk1⟩ : ∃ k : Nat, k = codePs ps := ⟨_, rfl⟩
  obtain ⟨k2, hk2⟩ : ∃ k : Nat, k = if ordB n os = true then 0 else 4 := ⟨_, rfl⟩
  have HF := Lib.hid (code3o x ps os n en k0 k1 k2 hk0 hk1 hk2)
  have HK0 := Lib.hid hk0
  have HK1 := Lib.hid hk1
  have HK2 := Lib.hid hk2
  have HK := Lib.hid hk
  have En := Lib.hid en
  have Em := Lib.hid em
  have HFT := Lib.hid hf
  have S0 := Lib.hid (HotS.new x w 27)
  have c0 := S0.out.c0
  have c1 := S0.out.c1
  clear hk0 hk1 hk2 hk en em hf
  go_enter Tryd.func65, Tryd.ntmps65
  go_wp2_with fail
  refine (checkIron_any x hx (h.below (S0.out.b.mono hB)) (Nat.le_trans hB S0.out.b.size) k0 HK0.out).mono ?_
  rintro o w1 ⟨rfl, hb1⟩
  have S1 := Lib.hid (S0.out.next hb1)
  clear c0 c1 hb1
  go_wp2_with fail
  refine (checkIroned_any A n c ps En.out hn HFT.out (h.below (S1.out.b.mono hB)) (Nat.le_trans hB S1.out.b.size) ((hg.below S1.out.b).more S1.out.b.size) k1 HK1.out).mono ?_
  rintro o w2 ⟨rfl, hb2⟩
  have S2 := Lib.hid (S1.out.next hb2)
  clear hb2
  go_wp2_with fail
  refine (checkOrder_any n hn A' m c' os Em.out hm (h.below (S2.out.b.mono hB)) (Nat.le_trans hB S2.out.b.size) ((hg'.below S2.out.b).more S2.out.b.size) k2 HK2.out).mono ?_
  rintro o w3 ⟨rfl, hb3⟩
  have S3 := Lib.hid (S2.out.next hb3)
  clear hb3
  go_wp2_with (refine wpList_listed rfl 98 3 _ rfl #[(0, errOf e k0), (1, errOf e k1), (2, errOf e k2)] ?hp (buildSlice3 e k0 k1 k2 _) ?_; case hp => simp [Act.eval])
  refine (firstOf_any e [k0, k1, k2] _ 3 3 rfl (by decide) _ (cells_errs3 e k0 k1 k2 w3 55)).mono ?_
  rintro o w4 ⟨rfl, rfl⟩
  rw [HF.out, HK.out]
  obtain ⟨w4, hw4⟩ : ∃ w4, w4 = w3.alloc (.cells #[errOf e k0, errOf e k1, errOf e k2] 55) := ⟨_, rfl⟩
  have S4 := Lib.hid (S3.out.next ((Below.refl _ _).alloc (Nat.le_refl _) (.cells #[errOf e k0, errOf e k1, errOf e k2] 55)))
  rw [← hw4] at S4 ⊢
  have H4 := Lib.hid (h.below (S4.out.b.mono hB))
  have c0 := S4.out.c0
  have c1 := S4.out.c1
  clear hw4
  rw [show errOf e (i + 1) = errV (e i) from rfl]
  go_wp2_with fail
  go_ret2
  exact ⟨rfl, S4.out.b⟩

set_option maxRecDepth 100000 in
set_option maxHeartbeats 4000000 in
theorem startsOf_ok3 (x : Iro) (hx : x.Fits) (A : Option Addr) (n c : Nat) (ps : List Pie) (en : n = ps.length) (hn : n ≤ 1048576) (hf : ∀ p ∈ ps, p.Fits) (A' : Option Addr) (m c' : Nat) (os : List Int) (em : m = os.length) (hm : m ≤ 1048576) (hk : codeOrd x ps os = 0) {w : World} {B : Nat} {e : Nat → Addr} (h : Errs w B e) (hB : B ≤ w.heap.size) (hg : Sl Pie.cells 3 w w.heap.size A ps) (hg' : Sl intS.C 1 w w.heap.size A' os) :
    Calls Tryd.prog 65 #[x.v, .slice A n c, .slice A' m c', .int .u8 3] w fun o w' => ∃ g, o = .returned (.tuple #[.slice (some ⟨g, 0, none⟩) (m + 1 : Nat) (m + 1 : Nat), .nilIface]) ∧
      w'.ownsRow w.heap.size 76 12 (.slice (some ⟨g, 0, none⟩) (m + 1) (m + 1)) (m + 1) ((stFs x 3 ps os).flatMap strC) ∧ Below w.heap.size w w' := by
  obtain ⟨k0, hk0⟩ : ∃ k : Nat, k = if iroB x = true then 0 else 1 := ⟨_, rfl⟩
  obtain ⟨k1, hk1⟩ : ∃ k : Nat, k = codePs ps := ⟨_, rfl⟩
  obtain ⟨k2, hk2⟩ : ∃ k : Nat, k = if ordB n os = true then 0 else 4 := ⟨_, rfl⟩
  have HF := Lib.hid (code3o x ps os n en k0 k1 k2 hk0 hk1 hk2)
  have HK0 := Lib.hid hk0
  have HK1 := Lib.hid hk1
  have HK2 := Lib.hid hk2
  have HK := Lib.hid hk
  have En := Lib.hid en
  have Em := Lib.hid em
  have HFT := Lib.hid hf
  have S0 := Lib.hid (HotS.new x w 27)
  have c0 := S0.out.c0
  have c1 := S0.out.c1
  clear hk0 hk1 hk2 hk en em hf
  go_enter Tryd.func65, Tryd.ntmps65
  go_wp2_with fail
  refine (checkIron_any x hx (h.below (S0.out.b.mono hB)) (Nat.le_trans hB S0.out.b.size) k0 HK0.out).mono ?_
  rintro o w1 ⟨rfl, hb1⟩
  have S1 := Lib.hid (S0.out.next hb1)
  clear c0 c1 hb1
  go_wp2_with fail
  refine (checkIroned_any A n c ps En.out hn HFT.out (h.below (S1.out.b.mono hB)) (Nat.le_trans hB S1.out.b.size) ((hg.below S1.out.b).more S1.out.b.size) k1 HK1.out).mono ?_
  rintro o w2 ⟨rfl, hb2⟩
  have S2 := Lib.hid (S1.out.next hb2)
  clear hb2
  go_wp2_with fail
  refine (checkOrder_any n hn A' m c' os Em.out hm (h.below (S2.out.b.mono hB)) (Nat.le_trans hB S2.out.b.size) ((hg'.below S2.out.b).more S2.out.b.size) k2 HK2.out).mono ?_
  rintro o w3 ⟨rfl, hb3⟩
  have S3 := Lib.hid (S2.out.next hb3)
  clear hb3
  go_wp2_with (refine wpList_listed rfl 98 3 _ rfl #[(0, errOf e k0), (1, errOf e k1), (2, errOf e k2)] ?hp (buildSlice3 e k0 k1 k2 _) ?_; case hp => simp [Act.eval])
  refine (firstOf_any e [k0, k1, k2] _ 3 3 rfl (by decide) _ (cells_errs3 e k0 k1 k2 w3 55)).mono ?_
  rintro o w4 ⟨rfl, rfl⟩
  rw [HF.out, HK.out]
  obtain ⟨w4, hw4⟩ : ∃ w4, w4 = w3.alloc (.cells #[errOf e k0, errOf e k1, errOf e k2] 55) := ⟨_, rfl⟩
  have S4 := Lib.hid (S3.out.next ((Below.refl _ _).alloc (Nat.le_refl _) (.cells #[errOf e k0, errOf e k1, errOf e k2] 55)))
  rw [← hw4] at S4 ⊢
  have H4 := Lib.hid (h.below (S4.out.b.mono hB))
  have c0 := S4.out.c0
  have c1 := S4.out.c1
  clear hw4
  obtain ⟨hv, hp, h8, hl, hgd⟩ := codeOrd_zero HK.out
  rw [← En.out] at h8 hl hgd
  rw [← Em.out] at hl hgd
  have HV := Lib.hid hv
  have HP := Lib.hid hp
  have HO := Lib.hid (good_in (by rw [← Em.out]; exact hgd))
  have hm8 : m ≤ 8 := by omega
  clear hv hp hgd hl
  rw [show errOf e 0 = .nilIface from rfl]
  go_wp2_with fail
  refine (newIroning_3 x A n c _).mono ?_
  rintro o w5 ⟨rfl, hb5⟩
  have S5 := Lib.hid (S4.out.next hb5)
  clear hb5 c0 c1
  go_wp2_with fail
  refine (along_3 x HV.out A n c ps En.out h8 HP.out A' m c' os Em.out hm8 HO.out _ ((hg.below S5.out.b).more S5.out.b.size) ((hg'.below S5.out.b).more S5.out.b.size)).mono ?_
  rintro o w6 ⟨g, rfl, hP, hb6⟩
  have S6 := Lib.hid (S5.out.next hb6)
  have HPP := Lib.hid (owns_down hP S5.out.b.size)
  clear hb6 hP
  go_wp2_with fail
  go_ret2
  exact ⟨g, rfl, HPP.out, S6.out.b⟩

set_option maxRecDepth 100000 in
set_option maxHeartbeats 4000000 in
theorem startsOf_no3 (x : Iro) (hx : x.Fits) (A : Option Addr) (n c : Nat) (ps : List Pie) (en : n = ps.length) (hn : n ≤ 1048576) (hf : ∀ p ∈ ps, p.Fits) (A' : Option Addr) (m c' : Nat) (os : List Int) (em : m = os.length) (hm : m ≤ 1048576) (i : Nat) (hk : codeOrd x ps os = i + 1) {w : World} {B : Nat} {e : Nat → Addr} (h : Errs w B e) (hB : B ≤ w.heap.size) (hg : Sl Pie.cells 3 w w.heap.size A ps) (hg' : Sl intS.C 1 w w.heap.size A' os) :
    Calls Tryd.prog 65 #[x.v, .slice A n c, .slice A' m c', .int .u8 3] w fun o w' => o = .returned (.tuple #[.slice none 0 0, errOf e (i + 1)]) ∧ Below w.heap.size w w' := by
  obtain ⟨k0, hk0⟩ : ∃ k : Nat, k = if iroB x = true then 0 else 1 := ⟨_, rfl⟩
  obtain ⟨k1, hk1⟩ : ∃ k : Nat, k = codePs ps := ⟨_, rfl⟩
  obtain ⟨k2, hk2⟩ : ∃ k : Nat, k = if ordB n os = true then 0 else 4 := ⟨_, rfl⟩
  have HF := Lib.hid (code3o x ps os n en k0 k1 k2 hk0 hk1 hk2)
  have HK0 := Lib.hid hk0
  have HK1 := Lib.hid hk1
  have HK2 := Lib.hid hk2
  have HK := Lib.hid hk
  have En := Lib.hid en
  have Em := Lib.hid em
  have HFT := Lib.hid hf
  have S0 := Lib.hid (HotS.new x w 27)
  have c0 := S0.out.c0
  have c1 := S0.out.c1
  clear hk0 hk1 hk2 hk en em hf
  go_enter Tryd.func65, Tryd.ntmps65
  go_wp2_with fail
  refine (checkIron_any x hx (h.below (S0.out.b.mono hB)) (Nat.le_trans hB S0.out.b.size) k0 HK0.out).mono ?_
  rintro o w1 ⟨rfl, hb1⟩
  have S1 := Lib.hid (S0.out.next hb1)
  clear c0 c1 hb1
  go_wp2_with fail
  refine (checkIroned_any A n c ps En.out hn HFT.out (h.below (S1.out.b.mono hB)) (Nat.le_trans hB S1.out.b.size) ((hg.below S1.out.b).more S1.out.b.size) k1 HK1.out).mono ?_
  rintro o w2 ⟨rfl, hb2⟩
  have S2 := Lib.hid (S1.out.next hb2)
  clear hb2
  go_wp2_with fail
  refine (checkOrder_any n hn A' m c' os Em.out hm (h.below (S2.out.b.mono hB)) (Nat.le_trans hB S2.out.b.size) ((hg'.below S2.out.b).more S2.out.b.size) k2 HK2.out).mono ?_
  rintro o w3 ⟨rfl, hb3⟩
  have S3 := Lib.hid (S2.out.next hb3)
  clear hb3
  go_wp2_with (refine wpList_listed rfl 98 3 _ rfl #[(0, errOf e k0), (1, errOf e k1), (2, errOf e k2)] ?hp (buildSlice3 e k0 k1 k2 _) ?_; case hp => simp [Act.eval])
  refine (firstOf_any e [k0, k1, k2] _ 3 3 rfl (by decide) _ (cells_errs3 e k0 k1 k2 w3 55)).mono ?_
  rintro o w4 ⟨rfl, rfl⟩
  rw [HF.out, HK.out]
  obtain ⟨w4, hw4⟩ : ∃ w4, w4 = w3.alloc (.cells #[errOf e k0, errOf e k1, errOf e k2] 55) := ⟨_, rfl⟩
  have S4 := Lib.hid (S3.out.next ((Below.refl _ _).alloc (Nat.le_refl _) (.cells #[errOf e k0, errOf e k1, errOf e k2] 55)))
  rw [← hw4] at S4 ⊢
  have H4 := Lib.hid (h.below (S4.out.b.mono hB))
  have c0 := S4.out.c0
  have c1 := S4.out.c1
  clear hw4
  rw [show errOf e (i + 1) = errV (e i) from rfl]
  go_wp2_with fail
  go_ret2
  exact ⟨rfl, S4.out.b⟩

/-- the cells of a start in a row of them -/
theorem row_cell {w : World} {b G n c : Nat} {xs : List Str} {k : Nat} {f : Str} (h : w.ownsRow b 76 12 (.slice (some ⟨G, 0, none⟩) n c) n (xs.flatMap strC)) (hx : xs[k]? = some f) {j : Nat} (hj : j < 12) : w.cell? ⟨G, k * 12 + j, none⟩ = some (cellR f j) := by
  obtain ⟨a, e, _, hat⟩ := (Sl.of_owns h (strC_len xs) (by decide)).at_ k f hx
  obtain rfl := Option.some.inj e
  have := hat j _ (lst_get (cellR f) hj)
  rw [add_lit, add_at] at this
  exact this
set_option maxRecDepth 100000 in
set_option maxHeartbeats 4000000 in
theorem sumOver_0 (x : Iro) (hx : x.Fits) (A : Option Addr) (n c : Nat) (ps : List Pie) (en : n = ps.length) (hn : n ≤ 1048576) (hf : ∀ p ∈ ps, p.Fits) (A' : Option Addr) (m c' : Nat) (os : List Int) (em : m = os.length) (hm : m ≤ 1048576) (r0 : Int) (r1 : Nat) (hr : sumR 0 x ps os = (r0, r1)) {w : World} {B : Nat} {e : Nat → Addr} (h : Errs w B e) (hB : B ≤ w.heap.size) (hg : Sl Pie.cells 3 w w.heap.size A ps) (hg' : Sl intS.C 1 w w.heap.size A' os) :
    Calls Tryd.prog 67 #[x.v, .slice A n c, .slice A' m c', .int .u8 0] w fun o w' => o = .returned (.tuple #[.int .i64 r0, .int .i64 r1]) ∧ Below w.heap.size w w' := by
  have HR := Lib.hid hr
  have En := Lib.hid en
  have Em := Lib.hid em
  have HFT := Lib.hid hf
  have S0 := Lib.hid (HotS.new x w 27)
  have c0 := S0.out.c0
  have c1 := S0.out.c1
  clear hr en em hf
  cases hc : codeOrd x ps os with
  | zero =>
    have HC := Lib.hid hc
    obtain ⟨hz, rfl⟩ := sum_ok HR.out hc
    have HZ := Lib.hid hz
    clear hc hz
    go_enter Tryd.func67, Tryd.ntmps67
    go_wp2_with fail
    refine (startsOf_ok0 x hx A n c ps En.out hn HFT.out A' m c' os Em.out hm HC.out (h.below (S0.out.b.mono hB)) (Nat.le_trans hB S0.out.b.size) ((hg.below S0.out.b).more S0.out.b.size) ((hg'.below S0.out.b).more S0.out.b.size)).mono ?_
    rintro o w1 ⟨g, rfl, hP, hb1⟩
    have q0 : w1.cell? ⟨g, m * 12 + 11, none⟩ = some (.int .i64 r0) := by
      have := row_cell hP (stFs_at (x := x) (a := 0) (ps := ps) (os := os) (k := m) (by rw [Em.out]; exact Nat.le_refl _)) (j := 11) (by decide)
      rw [this, cellR_11, stF, strOf_11, List.take_of_length_le (by rw [Em.out]; exact Nat.le_refl _), HZ.out]
    have S1 := Lib.hid (S0.out.next hb1)
    have x1 : (m : Int) < (m : Int) + 1 := by omega
    clear c0 c1 hP hb1
    go_wp2_with fail
    go_ret2
    exact ⟨rfl, S1.out.b⟩
  | succ i =>
    have HC := Lib.hid hc
    obtain ⟨rfl, rfl⟩ := sum_no HR.out hc
    have hi := codeOrd_le x ps os
    rw [hc] at hi
    have hi6 : i + 1 ≤ 6 := by omega
    clear hc hi
    go_enter Tryd.func67, Tryd.ntmps67
    go_wp2_with fail
    refine (startsOf_no0 x hx A n c ps En.out hn HFT.out A' m c' os Em.out hm i HC.out (h.below (S0.out.b.mono hB)) (Nat.le_trans hB S0.out.b.size) ((hg.below S0.out.b).more S0.out.b.size) ((hg'.below S0.out.b).more S0.out.b.size)).mono ?_
    rintro o w1 ⟨rfl, hb1⟩
    have S1 := Lib.hid (S0.out.next hb1)
    have HQ := Lib.hid (codeOf_any (h.below (S1.out.b.mono hB)) (i + 1) (by omega))
    rw [show errOf e (i + 1) = errV (e i) from rfl] at HQ ⊢
    clear c0 c1 hb1
    go_wp2_with fail
    refine HQ.out.mono ?_
    rintro o w2 ⟨rfl, rfl⟩
    go_wp2_with fail
    go_ret2
    exact ⟨rfl, S1.out.b⟩

set_option maxRecDepth 100000 in
set_option maxHeartbeats 4000000 in
theorem sumOver_1 (x : Iro) (hx : x.Fits) (A : Option Addr) (n c : Nat) (ps : List Pie) (en : n = ps.length) (hn : n ≤ 1048576) (hf : ∀ p ∈ ps, p.Fits) (A' : Option Addr) (m c' : Nat) (os : List Int) (em : m = os.length) (hm : m ≤ 1048576) (r0 : Int) (r1 : Nat) (hr : sumR 1 x ps os = (r0, r1)) {w : World} {B : Nat} {e : Nat → Addr} (h : Errs w B e) (hB : B ≤ w.heap.size) (hg : Sl Pie.cells 3 w w.heap.size A ps) (hg' : Sl intS.C 1 w w.heap.size A' os) :
    Calls Tryd.prog 67 #[x.v, .slice A n c, .slice A' m c', .int .u8 1] w fun o w' => o = .returned (.tuple #[.int .i64 r0, .int .i64 r1]) ∧ Below w.heap.size w w' := by
  have HR := Lib.hid hr
  have En := Lib.hid en
  have Em := Lib.hid em
  have HFT := Lib.hid hf
  have S0 := Lib.hid (HotS.new x w 27)
  have c0 := S0.out.c0
  have c1 := S0.out.c1
  clear hr en em hf
  cases hc : codeOrd x ps os with
  | zero =>
    have HC := Lib.hid hc
    obtain ⟨hz, rfl⟩ := sum_ok HR.out hc
    have HZ := Lib.hid hz
    clear hc hz
    go_enter Tryd.func67, Tryd.ntmps67
    go_wp2_with fail
    refine (startsOf_ok1 x hx A n c ps En.out hn HFT.out A' m c' os Em.out hm HC.out (h.below (S0.out.b.mono hB)) (Nat.le_trans hB S0.out.b.size) ((hg.below S0.out.b).more S0.out.b.size) ((hg'.below S0.out.b).more S0.out.b.size)).mono ?_
    rintro o w1 ⟨g, rfl, hP, hb1⟩
    have q0 : w1.cell? ⟨g, m * 12 + 11, none⟩ = some (.int .i64 r0) := by
      have := row_cell hP (stFs_at (x := x) (a := 1) (ps := ps) (os := os) (k := m) (by rw [Em.out]; exact Nat.le_refl _)) (j := 11) (by decide)
      rw [this, cellR_11, stF, strOf_11, List.take_of_length_le (by rw [Em.out]; exact Nat.le_refl _), HZ.out]
    have S1 := Lib.hid (S0.out.next hb1)
    have x1 : (m : Int) < (m : Int) + 1 := by omega
    clear c0 c1 hP hb1
    go_wp2_with fail
    go_ret2
    exact ⟨rfl, S1.out.b⟩
  | succ i =>
    have HC := Lib.hid hc
    obtain ⟨rfl, rfl⟩ := sum_no HR.out hc
    have hi := codeOrd_le x ps os
    rw [hc] at hi
    have hi6 : i + 1 ≤ 6 := by omega
    clear hc hi
    go_enter Tryd.func67, Tryd.ntmps67
    go_wp2_with fail
    refine (startsOf_no1 x hx A n c ps En.out hn HFT.out A' m c' os Em.out hm i HC.out (h.below (S0.out.b.mono hB)) (Nat.le_trans hB S0.out.b.size) ((hg.below S0.out.b).more S0.out.b.size) ((hg'.below S0.out.b).more S0.out.b.size)).mono ?_
    rintro o w1 ⟨rfl, hb1⟩
    have S1 := Lib.hid (S0.out.next hb1)
    have HQ := Lib.hid (codeOf_any (h.below (S1.out.b.mono hB)) (i + 1) (by omega))
    rw [show errOf e (i + 1) = errV (e i) from rfl] at HQ ⊢
    clear c0 c1 hb1
    go_wp2_with fail
    refine HQ.out.mono ?_
    rintro o w2 ⟨rfl, rfl⟩
    go_wp2_with fail
    go_ret2
    exact ⟨rfl, S1.out.b⟩

set_option maxRecDepth 100000 in
set_option maxHeartbeats 4000000 in
theorem sumOver_2 (x : Iro) (hx : x.Fits) (A : Option Addr) (n c : Nat) (ps : List Pie) (en : n = ps.length) (hn : n ≤ 1048576) (hf : ∀ p ∈ ps, p.Fits) (A' : Option Addr) (m c' : Nat) (os : List Int) (em : m = os.length) (hm : m ≤ 1048576) (r0 : Int) (r1 : Nat) (hr : sumR 2 x ps os = (r0, r1)) {w : World} {B : Nat} {e : Nat → Addr} (h : Errs w B e) (hB : B ≤ w.heap.size) (hg : Sl Pie.cells 3 w w.heap.size A ps) (hg' : Sl intS.C 1 w w.heap.size A' os) :
    Calls Tryd.prog 67 #[x.v, .slice A n c, .slice A' m c', .int .u8 2] w fun o w' => o = .returned (.tuple #[.int .i64 r0, .int .i64 r1]) ∧ Below w.heap.size w w' := by
  have HR := Lib.hid hr
  have En := Lib.hid en
  have Em := Lib.hid em
  have HFT := Lib.hid hf
  have S0 := Lib.hid (HotS.new x w 27)
  have c0 := S0.out.c0
  have c1 := S0.out.c1
  clear hr en em hf
  cases hc : codeOrd x ps os with
  | zero =>
    have HC := Lib.hid hc
    obtain ⟨hz, rfl⟩ := sum_ok HR.out hc
    have HZ := Lib.hid hz
    clear hc hz
    go_enter Tryd.func67, Tryd.ntmps67
    go_wp2_with fail
    refine (startsOf_ok2 x hx A n c ps En.out hn HFT.out A' m c' os Em.out hm HC.out (h.below (S0.out.b.mono hB)) (Nat.le_trans hB S0.out.b.size) ((hg.below S0.out.b).more S0.out.b.size) ((hg'.below S0.out.b).more S0.out.b.size)).mono ?_
    rintro o w1 ⟨g, rfl, hP, hb1⟩
    have q0 : w1.cell? ⟨g, m * 12 + 11, none⟩ = some (.int .i64 r0) := by
      have := row_cell hP (stFs_at (x := x) (a := 2) (ps := ps) (os := os) (k := m) (by rw [Em.out]; exact Nat.le_refl _)) (j := 11) (by decide)
      rw [this, cellR_11, stF, strOf_11, List.take_of_length_le (by rw [Em.out]; exact Nat.le_refl _), HZ.out]
    have S1 := Lib.hid (S0.out.next hb1)
    have x1 : (m : Int) < (m : Int) + 1 := by omega
    clear c0 c1 hP hb1
    go_wp2_with fail
    go_ret2
    exact ⟨rfl, S1.out.b⟩
  | succ i =>
    have HC := Lib.hid hc
    obtain ⟨rfl, rfl⟩ := sum_no HR.out hc
    have hi := codeOrd_le x ps os
    rw [hc] at hi
    have hi6 : i + 1 ≤ 6 := by omega
    clear hc hi
    go_enter Tryd.func67, Tryd.ntmps67
    go_wp2_with fail
    refine (startsOf_no2 x hx A n c ps En.out hn HFT.out A' m c' os Em.out hm i HC.out (h.below (S0.out.b.mono hB)) (Nat.le_trans hB S0.out.b.size) ((hg.below S0.out.b).more S0.out.b.size) ((hg'.below S0.out.b).more S0.out.b.size)).mono ?_
    rintro o w1 ⟨rfl, hb1⟩
    have S1 := Lib.hid (S0.out.next hb1)
    have HQ := Lib.hid (codeOf_any (h.below (S1.out.b.mono hB)) (i + 1) (by omega))
    rw [show errOf e (i + 1) = errV (e i) from rfl] at HQ ⊢
    clear c0 c1 hb1
    go_wp2_with fail
    refine HQ.out.mono ?_
    rintro o w2 ⟨rfl, rfl⟩
    go_wp2_with fail
    go_ret2
    exact ⟨rfl, S1.out.b⟩

set_option maxRecDepth 100000 in
set_option maxHeartbeats 4000000 in
theorem sumOver_3 (x : Iro) (hx : x.Fits) (A : Option Addr) (n c : Nat) (ps : List Pie) (en : n = ps.length) (hn : n ≤ 1048576) (hf : ∀ p ∈ ps, p.Fits) (A' : Option Addr) (m c' : Nat) (os : List Int) (em : m = os.length) (hm : m ≤ 1048576) (r0 : Int) (r1 : Nat) (hr : sumR 3 x ps os = (r0, r1)) {w : World} {B : Nat} {e : Nat → Addr} (h : Errs w B e) (hB : B ≤ w.heap.size) (hg : Sl Pie.cells 3 w w.heap.size A ps) (hg' : Sl intS.C 1 w w.heap.size A' os) :
    Calls Tryd.prog 67 #[x.v, .slice A n c, .slice A' m c', .int .u8 3] w fun o w' => o = .returned (.tuple #[.int .i64 r0, .int .i64 r1]) ∧ Below w.heap.size w w' := by
  have HR := Lib.hid hr
  have En := Lib.hid en
  have Em := Lib.hid em
  have HFT := Lib.hid hf
  have S0 := Lib.hid (HotS.new x w 27)
  have c0 := S0.out.c0
  have c1 := S0.out.c1
  clear hr en em hf
  cases hc : codeOrd x ps os with
  | zero =>
    have HC := Lib.hid hc
    obtain ⟨hz, rfl⟩ := sum_ok HR.out hc
    have HZ := Lib.hid hz
    clear hc hz
    go_enter Tryd.func67, Tryd.ntmps67
    go_wp2_with fail
    refine (startsOf_ok3 x hx A n c ps En.out hn HFT.out A' m c' os Em.out hm HC.out (h.below (S0.out.b.mono hB)) (Nat.le_trans hB S0.out.b.size) ((hg.below S0.out.b).more S0.out.b.size) ((hg'.below S0.out.b).more S0.out.b.size)).mono ?_
    rintro o w1 ⟨g, rfl, hP, hb1⟩
    have q0 : w1.cell? ⟨g, m * 12 + 11, none⟩ = some (.int .i64 r0) := by
      have := row_cell hP (stFs_at (x := x) (a := 3) (ps := ps) (os := os) (k := m) (by rw [Em.out]; exact Nat.le_refl _)) (j := 11) (by decide)
      rw [this, cellR_11, stF, strOf_11, List.take_of_length_le (by rw [Em.out]; exact Nat.le_refl _), HZ.out]
    have S1 := Lib.hid (S0.out.next hb1)
    have x1 : (m : Int) < (m : Int) + 1 := by omega
    clear c0 c1 hP hb1
    go_wp2_with fail
    go_ret2
    exact ⟨rfl, S1.out.b⟩
  | succ i =>
    have HC := Lib.hid hc
    obtain ⟨rfl, rfl⟩ := sum_no HR.out hc
    have hi := codeOrd_le x ps os
    rw [hc] at hi
    have hi6 : i + 1 ≤ 6 := by omega
    clear hc hi
    go_enter Tryd.func67, Tryd.ntmps67
    go_wp2_with fail
    refine (startsOf_no3 x hx A n c ps En.out hn HFT.out A' m c' os Em.out hm i HC.out (h.below (S0.out.b.mono hB)) (Nat.le_trans hB S0.out.b.size) ((hg.below S0.out.b).more S0.out.b.size) ((hg'.below S0.out.b).more S0.out.b.size)).mono ?_
    rintro o w1 ⟨rfl, hb1⟩
    have S1 := Lib.hid (S0.out.next hb1)
    have HQ := Lib.hid (codeOf_any (h.below (S1.out.b.mono hB)) (i + 1) (by omega))
    rw [show errOf e (i + 1) = errV (e i) from rfl] at HQ ⊢
    clear c0 c1 hb1
    go_wp2_with fail
    refine HQ.out.mono ?_
    rintro o w2 ⟨rfl, rfl⟩
    go_wp2_with fail
    go_ret2
    exact ⟨rfl, S1.out.b⟩

set_option maxRecDepth 100000 in
set_option maxHeartbeats 2000000 in
theorem TotalTime_any (x : Iro) (hx : x.Fits) (A : Option Addr) (n c : Nat) (ps : List Pie) (en : n = ps.length) (hn : n ≤ 1048576) (hf : ∀ p ∈ ps, p.Fits) (A' : Option Addr) (m c' : Nat) (os : List Int) (em : m = os.length) (hm : m ≤ 1048576) (r0 : Int) (r1 : Nat) (hr : sumR 0 x ps os = (r0, r1)) {w : World} {B : Nat} {e : Nat → Addr} (h : Errs w B e) (hB : B ≤ w.heap.size) (hg : Sl Pie.cells 3 w w.heap.size A ps) (hg' : Sl intS.C 1 w w.heap.size A' os) :
    Calls Tryd.prog 31 #[x.v, .slice A n c, .slice A' m c'] w fun o w' => o = .returned (.tuple #[.int .i64 r0, .int .i64 r1]) ∧ Below w.heap.size w w' := by
  have HR := Lib.hid hr
  have En := Lib.hid en
  have Em := Lib.hid em
  have HFT := Lib.hid hf
  have S0 := Lib.hid (HotS.new x w 27)
  have c0 := S0.out.c0
  have c1 := S0.out.c1
  clear hr en em hf
  go_enter Tryd.func31, Tryd.ntmps31
  go_wp2_with fail
  refine (sumOver_0 x hx A n c ps En.out hn HFT.out A' m c' os Em.out hm r0 r1 HR.out (h.below (S0.out.b.mono hB)) (Nat.le_trans hB S0.out.b.size) ((hg.below S0.out.b).more S0.out.b.size) ((hg'.below S0.out.b).more S0.out.b.size)).mono ?_
  rintro o w1 ⟨rfl, hb1⟩
  have S1 := Lib.hid (S0.out.next hb1)
  clear c0 c1 hb1
  go_wp2_with fail
  go_ret2
  exact ⟨rfl, S1.out.b⟩

set_option maxRecDepth 100000 in
set_option maxHeartbeats 2000000 in
theorem LatenessOf_any (x : Iro) (hx : x.Fits) (A : Option Addr) (n c : Nat) (ps : List Pie) (en : n = ps.length) (hn : n ≤ 1048576) (hf : ∀ p ∈ ps, p.Fits) (A' : Option Addr) (m c' : Nat) (os : List Int) (em : m = os.length) (hm : m ≤ 1048576) (r0 : Int) (r1 : Nat) (hr : sumR 2 x ps os = (r0, r1)) {w : World} {B : Nat} {e : Nat → Addr} (h : Errs w B e) (hB : B ≤ w.heap.size) (hg : Sl Pie.cells 3 w w.heap.size A ps) (hg' : Sl intS.C 1 w w.heap.size A' os) :
    Calls Tryd.prog 35 #[x.v, .slice A n c, .slice A' m c'] w fun o w' => o = .returned (.tuple #[.int .i64 r0, .int .i64 r1]) ∧ Below w.heap.size w w' := by
  have HR := Lib.hid hr
  have En := Lib.hid en
  have Em := Lib.hid em
  have HFT := Lib.hid hf
  have S0 := Lib.hid (HotS.new x w 27)
  have c0 := S0.out.c0
  have c1 := S0.out.c1
  clear hr en em hf
  go_enter Tryd.func35, Tryd.ntmps35
  go_wp2_with fail
  refine (sumOver_2 x hx A n c ps En.out hn HFT.out A' m c' os Em.out hm r0 r1 HR.out (h.below (S0.out.b.mono hB)) (Nat.le_trans hB S0.out.b.size) ((hg.below S0.out.b).more S0.out.b.size) ((hg'.below S0.out.b).more S0.out.b.size)).mono ?_
  rintro o w1 ⟨rfl, hb1⟩
  have S1 := Lib.hid (S0.out.next hb1)
  clear c0 c1 hb1
  go_wp2_with fail
  go_ret2
  exact ⟨rfl, S1.out.b⟩

set_option maxRecDepth 100000 in
set_option maxHeartbeats 2000000 in
theorem WaitSum_any (x : Iro) (hx : x.Fits) (A : Option Addr) (n c : Nat) (ps : List Pie) (en : n = ps.length) (hn : n ≤ 1048576) (hf : ∀ p ∈ ps, p.Fits) (A' : Option Addr) (m c' : Nat) (os : List Int) (em : m = os.length) (hm : m ≤ 1048576) (r0 : Int) (r1 : Nat) (hr : sumR 3 x ps os = (r0, r1)) {w : World} {B : Nat} {e : Nat → Addr} (h : Errs w B e) (hB : B ≤ w.heap.size) (hg : Sl Pie.cells 3 w w.heap.size A ps) (hg' : Sl intS.C 1 w w.heap.size A' os) :
    Calls Tryd.prog 45 #[x.v, .slice A n c, .slice A' m c'] w fun o w' => o = .returned (.tuple #[.int .i64 r0, .int .i64 r1]) ∧ Below w.heap.size w w' := by
  have HR := Lib.hid hr
  have En := Lib.hid en
  have Em := Lib.hid em
  have HFT := Lib.hid hf
  have S0 := Lib.hid (HotS.new x w 27)
  have c0 := S0.out.c0
  have c1 := S0.out.c1
  clear hr en em hf
  go_enter Tryd.func45, Tryd.ntmps45
  go_wp2_with fail
  refine (sumOver_3 x hx A n c ps En.out hn HFT.out A' m c' os Em.out hm r0 r1 HR.out (h.below (S0.out.b.mono hB)) (Nat.le_trans hB S0.out.b.size) ((hg.below S0.out.b).more S0.out.b.size) ((hg'.below S0.out.b).more S0.out.b.size)).mono ?_
  rintro o w1 ⟨rfl, hb1⟩
  have S1 := Lib.hid (S0.out.next hb1)
  clear c0 c1 hb1
  go_wp2_with fail
  go_ret2
  exact ⟨rfl, S1.out.b⟩

end Go.Proofs.YtajhdgoinghmmaaDoor.iron

/-
  The first start that is finished earliest: the program's slices.MinFunc.
-/
namespace Go.Proofs.YtajhdgoinghmmaaDoor.iron
open Go Go.RowKit sl stk errs row ins

/-- the first of the starts that are finished earliest -/
def minO (L : List Str) : Option Str := L.foldl (fun m f => match m with | none => some f | some g => if f 10 < g 10 then some f else some g) none
theorem minO_snoc (L : List Str) (f : Str) : minO (L ++ [f]) = match minO L with | none => some f | some g => if f 10 < g 10 then some f else some g := by simp [minO]
theorem minO_some {L : List Str} (h : L ≠ []) : ∃ m, minO L = some m := by
  have : ∀ (L : List Str) (o : Option Str), (o ≠ none ∨ L ≠ []) → ∃ m, L.foldl (fun m f => match m with | none => some f | some g => if f 10 < g 10 then some f else some g) o = some m := by
    intro L
    induction L with
    | nil =>
      intro o ho
      cases o with
      | none => rcases ho with h | h <;> exact absurd rfl h
      | some m => exact ⟨m, rfl⟩
    | cons f r ih =>
      intro o _
      refine ih _ (.inl ?_)
      cases o with
      | none => simp
      | some g => simp only; split <;> simp
  exact this L none (.inr h)
theorem minO_take {L : List Str} {k : Nat} {f : Str} (h : L[k]? = some f) : minO (L.take (k + 1)) = match minO (L.take k) with | none => some f | some g => if f 10 < g 10 then some f else some g := by rw [take_snoc h, minO_snoc]
set_option maxHeartbeats 1000000 in
theorem isNaN64_any (x : Int) (w : World) : Calls Tryd.prog 102 #[.int .i64 x] w fun o w' => o = .returned (.bool false) ∧ w = w' := by
  go_enter Tryd.func102, Tryd.ntmps102
  go_wp2_with fail
  go_ret
  exact ⟨ret_bool (by simp), rfl⟩
set_option maxHeartbeats 2000000 in
theorem compare64_any (x y : Int) (z : Int) (hz : cmpI x y = z) (w : World) : Calls Tryd.prog 81 #[.int .i64 x, .int .i64 y] w fun o w' => o = .returned (.int .i64 z) ∧ w = w' := by
  subst hz
  rcases Int.lt_trichotomy x y with h | h | h
  · have e : cmpI x y = -1 := by unfold cmpI; rw [if_pos h]
    rw [e]
    clear e
    go_enter Tryd.func81, Tryd.ntmps81
    go_wp2_with (first | (go_at_call 102; refine (isNaN64_any _ _).mono ?_; rintro o w1 ⟨rfl, rfl⟩) | fail)
    go_ret
    exact ⟨rfl, rfl⟩
  · subst h
    have e : cmpI x x = 0 := by unfold cmpI; rw [if_neg (by omega), if_neg (by omega)]
    rw [e]
    clear e
    go_enter Tryd.func81, Tryd.ntmps81
    go_wp2_with (first | (go_at_call 102; refine (isNaN64_any _ _).mono ?_; rintro o w1 ⟨rfl, rfl⟩) | fail)
    go_ret
    exact ⟨rfl, rfl⟩
  · have e : cmpI x y = 1 := by unfold cmpI; rw [if_neg (by omega), if_pos h]
    have h2 : ¬ x < y := by omega
    rw [e]
    clear e
    go_enter Tryd.func81, Tryd.ntmps81
    go_wp2_with (first | (go_at_call 102; refine (isNaN64_any _ _).mono ?_; rintro o w1 ⟨rfl, rfl⟩) | fail)
    go_ret
    exact ⟨rfl, rfl⟩
set_option maxRecDepth 100000 in
set_option maxHeartbeats 2000000 in
theorem earlier_any (f g : Str) (z : Int) (hz : cmpI (f 10) (g 10) = z) (w : World) : Calls Tryd.prog 80 #[strV f, strV g] w fun o w' => o = .returned (.int .i64 z) ∧ Below w.heap.size w w' := by
  have HZ := Lib.hid hz
  obtain ⟨u, hu⟩ : ∃ u, u = (w.alloc (.cells (strCs f) 76)).alloc (.cells (strCs g) 76) := ⟨_, rfl⟩
  have e : (w.alloc (.cells (strCs f) 76)).heap.size = w.heap.size + 1 := by simp
  have h1 := (StrOwn.new w f 76).next ((Below.refl _ _).alloc (Nat.le_refl _) (.cells (strCs g) 76))
  have h2 := StrOwn.new (w.alloc (.cells (strCs f) 76)) g 76
  rw [e] at h2
  rw [← hu] at h1 h2
  have c1 : u.cell? ⟨w.heap.size, 10, none⟩ = some (.int .i64 (f 10)) := by have := h1.cell 10 (by decide); rw [Nat.zero_add, cellR_10] at this; exact this
  have c2 : u.cell? ⟨w.heap.size + 1, 10, none⟩ = some (.int .i64 (g 10)) := by have := h2.cell 10 (by decide); rw [Nat.zero_add, cellR_10] at this; exact this
  have HB : Hid (Below w.heap.size w u) := Lib.hid (by rw [hu]; exact ((Below.refl _ _).alloc (Nat.le_refl _) _).alloc (by rw [e]; omega) _)
  have HU := Lib.hid hu
  clear hz hu e h1 h2
  go_enter Tryd.func80, Tryd.ntmps80
  go_wp2_with (first | (rw [← HU.out]) | fail)
  refine (compare64_any _ _ _ HZ.out _).mono ?_
  rintro o w1 ⟨rfl, rfl⟩
  go_wp2_with fail
  go_ret
  exact ⟨rfl, HB.out⟩
/-- what MinFunc has: the result, the least one so far -/
structure MNS (m : Str) (w u : World) : Prop where
  r : StrOwn u w.heap.size 0 zeroR
  m : StrOwn u (w.heap.size + 1) 0 m
  b : Below w.heap.size w u
theorem MNS.next {m : Str} {w u v : World} (h : MNS m w u) (hb : Below u.heap.size u v) : MNS m w v := ⟨h.r.next hb, h.m.next hb, h.b.trans (hb.mono (by have := h.m.lt; omega))⟩
theorem MNS.store {m : Str} {w u : World} (h : MNS m w u) (f : Str) : MNS f w (u.setCells (w.heap.size + 1) 0 (lst 12 (cellR f))) :=
  ⟨RowOwn.sets_other h.r (by omega) _ _, StrOwn.stored h.m f, below_cells h.b (by omega) _ _⟩
theorem row_at {w : World} {b g n c : Nat} {L : List Str} (h : w.ownsRow b 76 12 (.slice (some ⟨g, 0, none⟩) n c) n (L.flatMap strC)) {k : Nat} {f : Str} (hx : L[k]? = some f) : StrAt w g (k * 12) f :=
  ⟨(h.lt g rfl).2, fun j hj => row_cell h hx hj⟩
set_option maxRecDepth 100000 in
set_option maxHeartbeats 4000000 in
theorem minFunc_any (b g n c : Nat) (L : List Str) (en : n = L.length) (h0 : 0 < n) (hn : n ≤ 1000) (mm : Str) (hmm : minO L = some mm) (w : World) (hP : w.ownsRow b 76 12 (.slice (some ⟨g, 0, none⟩) n c) n (L.flatMap strC)) :
    Calls Tryd.prog 78 #[.slice (some ⟨g, 0, none⟩) n c, .func (.func 80) #[] #[]] w fun o w' => o = .returned (strV mm) ∧ Below w.heap.size w w' := by
  have En := Lib.hid en
  have HM := Lib.hid hmm
  have HP := Lib.hid hP
  obtain ⟨f0, hf0⟩ : ∃ f, L[0]? = some f := ⟨L[0]'(by omega), List.getElem?_eq_getElem _⟩
  have hzz : ∀ u : World, (zeroValue 76).run Tryd.prog u = .ok (.agg (strCs zeroR)) u := (zero_of_info zeroRi).1
  obtain ⟨u1, hu1⟩ : ∃ u, u = w.alloc (.cells (strCs zeroR) 76) := ⟨_, rfl⟩
  have hb1 : Below w.heap.size w u1 := by rw [hu1]; exact (Below.refl _ _).alloc (Nat.le_refl _) _
  have e1 : u1.heap.size = w.heap.size + 1 := by rw [hu1]; simp
  have R1 : StrOwn u1 w.heap.size 0 zeroR := by rw [hu1]; exact StrOwn.new w zeroR 76
  have A1 : StrAt u1 g 0 f0 := by have := row_at (owns_next hP hb1) hf0; rwa [Nat.zero_mul] at this
  obtain ⟨u2, hu2⟩ : ∃ u, u = u1.alloc (.cells (strCs zeroR) 76) := ⟨_, rfl⟩
  have hb2 : Below u1.heap.size u1 u2 := by rw [hu2]; exact (Below.refl _ _).alloc (Nat.le_refl _) _
  have M2 : StrOwn u2 (w.heap.size + 1) 0 zeroR := by have := StrOwn.new u1 zeroR 76; rw [e1] at this; rw [hu2]; exact this
  have S2 : MNS zeroR w u2 := ⟨R1.next hb2, M2, hb1.trans (hb2.mono (by omega))⟩
  obtain ⟨u3, hu3⟩ : ∃ u, u = u2.setCells (w.heap.size + 1) 0 (lst 12 (cellR f0)) := ⟨_, rfl⟩
  have S3 : Hid (MNS f0 w u3) := Lib.hid (by rw [hu3]; exact S2.store f0)
  have hm1 : Hid (minO (L.take 1) = some f0) := Lib.hid (by rw [minO_take hf0]; rfl)
  have HA1 := Lib.hid A1
  have HM2 := Lib.hid M2
  have HU1 := Lib.hid hu1
  have HU2 := Lib.hid hu2
  have HU3 := Lib.hid hu3
  have HE1 := Lib.hid e1
  have d0 : ¬ ((n : Int) < 1) := by omega
  have d1 : (0 : Int) < (n : Int) := by omega
  clear en hmm hP hf0 hu1 hb1 e1 R1 A1 hu2 hb2 M2 S2 hu3
  go_enter Tryd.func78, Tryd.ntmps78
  go_wp2_with (first
    | (rw [← HU1.out])
    | (refine wpl_load_str rfl (.tmp 12) rfl g 0 rfl HA1.out ?_)
    | (rw [← HU2.out, HE1.out])
    | (refine wpl_store_str rfl (.tmp 5) (.tmp 13) rfl (w.heap.size + 1) 0 rfl rfl HM2.out ?_; rw [← HU3.out])
    | fail)
  clear hzz
  go_loopw [6] (fun vi wr => ∃ (i : Nat) (m : Str), 1 ≤ i ∧ i ≤ n ∧ vi = .int .i64 i ∧ minO (L.take i) = some m ∧ MNS m w wr) (fun vi _ => n - (intOf vi).toNat)
  case atStart => exact ⟨1, f0, by omega, by omega, rfl, hm1.out, S3.out⟩
  case round =>
    clear HA1 HM2 HU1 HU2 HU3 HE1 S3 hm1
    obtain ⟨i, m, h1, hi, rfl, hmi, hS⟩ := hrel
    have HMI := Lib.hid hmi
    have HS := Lib.hid hS
    clear hmi hS
    by_cases hlt : i < n
    · obtain ⟨f, hf⟩ : ∃ f, L[i]? = some f := ⟨L[i]'(by have := En.out; omega), List.getElem?_eq_getElem _⟩
      have hAt := row_at (owns_next HP.out ((Below.refl _ _))) hf
      have hgl := (HP.out.lt g rfl).2
      obtain ⟨z, hz⟩ : ∃ z, cmpI (f 10) (m 10) = z := ⟨_, rfl⟩
      have hst : minO (L.take (i + 1)) = if f 10 < m 10 then some f else some m := by rw [minO_take hf, HMI.out]
      have HST := Lib.hid hst
      have HZ := Lib.hid hz
      have HAT := Lib.hid hAt
      have HAR : Hid (StrAt wr g (i * 12) f) := Lib.hid (hAt.below HS.out.b hgl)
      have x1 : (0 : Int) ≤ (i : Int) := by omega
      have x2 : (i : Int) < (n : Int) := by omega
      clear hf hAt hst hz
      go_wp2_with fail
      refine wp_region_held_drew (S := fun u => StrAt u g (i * 12) f ∧ StrAt u (w.heap.size + 1) 0 m) (by kernel_rfl) ⟨HAR.out.next (Below.refl _ _).drew, HS.out.m.toRowAt.next (Below.refl _ _).drew⟩ (fun hHeld => ?_)
      have S1 := Lib.hid (HS.out.next (Below.refl _ wr).drew)
      generalize wr.drew = v0 at S1 hHeld ⊢
      clear HS HAR
      refine wpAnyH_take (i := 0) (v := ?_) rfl (by kernel_rfl) (by kernel_rfl) (by kernel_rfl) (fun _ _ _ h => h) (Or.inl ⟨by rfl, ?_⟩) (by assumption) ?_
      rotate_left
      · intro u hSu
        (try dsimp only at hSu)
        first | (go_simp; done) | (go_simp; with_reducible rfl)
      try simp only [Act.put, List.getElem_toArray, List.getElem_cons_zero, List.getElem_cons_succ, List.setIfInBounds_toArray, List.set_cons_zero, List.set_cons_succ]
      refine wpAnyH_take (i := 1) (v := ?_) rfl (by kernel_rfl) (by kernel_rfl) (by kernel_rfl) (fun _ _ _ h => h) (Or.inl ⟨by rfl, ?_⟩) (by assumption) ?_
      rotate_left
      · intro u hSu
        (try dsimp only at hSu)
        first | (go_simp; done) | (go_simp; with_reducible rfl)
      try simp only [Act.put, List.getElem_toArray, List.getElem_cons_zero, List.getElem_cons_succ, List.setIfInBounds_toArray, List.set_cons_zero, List.set_cons_succ]
      refine wpAnyH_take (i := 2) (v := ?_) rfl (by kernel_rfl) (by kernel_rfl) (by kernel_rfl) (fun _ _ _ h => h) (Or.inl ⟨by rfl, ?_⟩) (by assumption) ?_
      rotate_left
      · intro u hSu
        (try dsimp only at hSu)
        first | (go_simp; done) | (go_simp; with_reducible rfl)
      try simp only [Act.put, List.getElem_toArray, List.getElem_cons_zero, List.getElem_cons_succ, List.setIfInBounds_toArray, List.set_cons_zero, List.set_cons_succ]
      refine wpAnyH_take (i := 3) (v := ?_) rfl (by kernel_rfl) (by kernel_rfl) (by kernel_rfl) (fun _ _ _ h => h) (Or.inl ⟨by rfl, ?_⟩) (by assumption) ?_
      rotate_left
      · intro u hSu
        (try dsimp only at hSu)
        first | (go_simp; done) | (go_simp; with_reducible rfl)
      try simp only [Act.put, List.getElem_toArray, List.getElem_cons_zero, List.getElem_cons_succ, List.setIfInBounds_toArray, List.set_cons_zero, List.set_cons_succ]
      refine wpAnyH_take (i := 4) (v := strV f) rfl (by kernel_rfl) (by kernel_rfl) (by kernel_rfl) (fun _ _ _ h => h) (yieldsIf_load_mid (by rfl) 76 (.tmp 23) rfl g (i * 12) rfl (lst 12 (cellR f)) _ (fun u h => h.1.range) Tryd.underlying76 rfl (by rw [infoR, lst_len])) hHeld ?_
      (try simp only [Act.put, List.getElem_toArray, List.getElem_cons_zero, List.getElem_cons_succ, List.setIfInBounds_toArray, List.set_cons_zero, List.set_cons_succ])
      refine wpAnyH_take (i := 5) (v := strV m) rfl (by kernel_rfl) (by kernel_rfl) (by kernel_rfl) (fun _ _ _ h => h) (yieldsIf_load_mid (by rfl) 76 (.tmp 5) rfl (w.heap.size + 1) 0 rfl (lst 12 (cellR m)) _ (fun u h => h.2.range) Tryd.underlying76 rfl (by rw [infoR, lst_len])) hHeld ?_
      (try simp only [Act.put, List.getElem_toArray, List.getElem_cons_zero, List.getElem_cons_succ, List.setIfInBounds_toArray, List.set_cons_zero, List.set_cons_succ])
      refine wpAnyH_ready (rs := [6]) (by kernel_rfl) (by simp) ?_
      refine AllReadyH.cons rfl (fun K hK => ?_) AllReadyH.nil
      go_simp
      refine (earlier_any f m z HZ.out _).mono ?_
      rintro o v1 ⟨rfl, hb1⟩
      have S2 := Lib.hid (S1.out.next hb1)
      have hh : StrAt v1 g (i * 12) f ∧ StrAt v1 (w.heap.size + 1) 0 m := ⟨hHeld.1.next hb1, hHeld.2.next hb1⟩
      clear hb1 S1
      refine hK.out _ _ (hh) (fun hHeld2 => ?_)
      clear hK K hHeld
      have hHeld := hHeld2
      clear hHeld2
      try simp only [Act.put, List.getElem_toArray, List.getElem_cons_zero, List.getElem_cons_succ, List.setIfInBounds_toArray, List.set_cons_zero, List.set_cons_succ]
      clear hh
      by_cases hlz : f 10 < m 10
      · have hz0 : decide (z < 0) = true := decide_eq_true (by rw [← HZ.out]; exact (cmpI_neg _ _).2 hlz)
        have HN : Hid (minO (L.take (i + 1)) = some f) := Lib.hid (by rw [HST.out, if_pos hlz])
        refine wpAnyH_take (i := 7) (v := ?_) rfl (by kernel_rfl) (by kernel_rfl) (by kernel_rfl) (fun _ _ _ h => h) (Or.inl ⟨by rfl, ?_⟩) (by assumption) ?_
        rotate_left
        · intro u hSu
          (try dsimp only at hSu)
          first | (go_simp; done) | (go_simp; with_reducible rfl)
        try simp only [Act.put, List.getElem_toArray, List.getElem_cons_zero, List.getElem_cons_succ, List.setIfInBounds_toArray, List.set_cons_zero, List.set_cons_succ]
        refine wpAnyH_done (by kernel_rfl) ?_ _
        have HAF := Lib.hid hHeld.1
        have S3 := Lib.hid (S2.out.store f)
        obtain ⟨v2, hv2⟩ : ∃ u, u = v1.setCells (w.heap.size + 1) 0 (lst 12 (cellR f)) := ⟨_, rfl⟩
        rw [← hv2] at S3
        have HV := Lib.hid hv2
        clear hHeld hz0 hlz HZ HST hv2
        go_wp2_with (first
          | (refine wpl_load_str rfl (.tmp 30) rfl g (i * 12) rfl HAF.out ?_)
          | (refine wpl_store_str rfl (.tmp 5) (.tmp 31) rfl (w.heap.size + 1) 0 rfl rfl S2.out.m ?_; rw [← HV.out])
          | fail)
        go_roundw
        case rel => exact ⟨i + 1, f, by omega, by omega, by go_num, HN.out, S3.out⟩
        case measure => simp [intOf]; omega
      · have hz0 : decide (z < 0) = false := decide_eq_false (by rw [← HZ.out]; exact fun h => hlz ((cmpI_neg _ _).1 h))
        have HN : Hid (minO (L.take (i + 1)) = some m) := Lib.hid (by rw [HST.out, if_neg hlz])
        refine wpAnyH_take (i := 7) (v := ?_) rfl (by kernel_rfl) (by kernel_rfl) (by kernel_rfl) (fun _ _ _ h => h) (Or.inl ⟨by rfl, ?_⟩) (by assumption) ?_
        rotate_left
        · intro u hSu
          (try dsimp only at hSu)
          first | (go_simp; done) | (go_simp; with_reducible rfl)
        try simp only [Act.put, List.getElem_toArray, List.getElem_cons_zero, List.getElem_cons_succ, List.setIfInBounds_toArray, List.set_cons_zero, List.set_cons_succ]
        refine wpAnyH_done (by kernel_rfl) ?_ _
        clear hHeld hz0 hlz HZ HST
        go_wp2_with fail
        go_roundw
        case rel => exact ⟨i + 1, m, by omega, by omega, by go_num, HN.out, S2.out⟩
        case measure => simp [intOf]; omega
    · obtain rfl : i = n := by omega
      have hmf : m = mm := by
        have h := HMI.out
        rw [List.take_of_length_le (by have := En.out; omega), HM.out] at h
        exact (Option.some.inj h).symm
      have HMF := Lib.hid hmf
      clear hmf
      go_wp2_with (first
        | (refine wpl_load_str rfl (.tmp 5) rfl (w.heap.size + 1) 0 rfl HS.out.m.toRowAt ?_)
        | (refine wpl_store_str rfl (.tmp 4) (.tmp 32) rfl w.heap.size 0 rfl rfl HS.out.r ?_)
        | fail)
      refine bodyPost_ret (v := strV m) (results_stored Tryd.results78 rfl (by rw [lst_len]; exact HS.out.r.there) Tryd.underlying76 rfl (by rw [infoR, lst_len])) rfl ⟨by rw [HMF.out], ?_⟩
      exact below_cells HS.out.b (Nat.le_refl _) _ _
end Go.Proofs.YtajhdgoinghmmaaDoor.iron

/-
  The order that takes always the piece that can be finished first, in plain words.
-/
namespace Go.Proofs.YtajhdgoinghmmaaDoor.iron
open Go Go.RowKit sl stk errs row ins

/-- when a piece is finished that is taken next -/
def nxt (x : Iro) (ps : List Pie) (s : Sta) (k : Nat) : Int := (s.step x 0 (ptv ps k)).at_
/-- the first of the pieces below k that can be finished first -/
def pickK (x : Iro) (ps : List Pie) (os : List Int) (s : Sta) : Nat → Option Nat
  | 0 => none
  | k + 1 => if (k : Int) ∈ os then pickK x ps os s k else
    match pickK x ps os s k with
    | none => some k
    | some j => if nxt x ps s k < nxt x ps s j then some k else some j
theorem pickK_lt {x : Iro} {ps : List Pie} {os : List Int} {s : Sta} : ∀ {k j : Nat}, pickK x ps os s k = some j → j < k ∧ (j : Int) ∉ os
  | 0, j, h => by simp [pickK] at h
  | k + 1, j, h => by
    rw [pickK] at h
    split at h
    · have := pickK_lt h
      exact ⟨by omega, this.2⟩
    · rename_i hk
      cases hp : pickK x ps os s k with
      | none =>
        rw [hp] at h
        obtain rfl := Option.some.inj h
        exact ⟨by omega, hk⟩
      | some i =>
        rw [hp] at h
        have hi := pickK_lt hp
        simp only at h
        split at h
        · obtain rfl := Option.some.inj h
          exact ⟨by omega, hk⟩
        · obtain rfl := Option.some.inj h
          exact ⟨by omega, hi.2⟩
theorem pickK_some {x : Iro} {ps : List Pie} {os : List Int} {s : Sta} : ∀ {k : Nat}, (∃ i, i < k ∧ (i : Int) ∉ os) → ∃ j, pickK x ps os s k = some j
  | 0, ⟨i, h, _⟩ => absurd h (by omega)
  | k + 1, ⟨i, h, hi⟩ => by
    rw [pickK]
    split
    · rename_i hk
      refine pickK_some ⟨i, ?_, hi⟩
      rcases Nat.lt_or_ge i k with h1 | h1
      · exact h1
      · obtain rfl : i = k := by omega
        exact absurd hk hi
    · cases pickK x ps os s k with
      | none => exact ⟨k, rfl⟩
      | some j => simp only; split <;> exact ⟨_, rfl⟩
theorem minO_lon (x : Iro) (ps : List Pie) (os : List Int) (s : Sta) : ∀ k, minO (lonK x 0 ps os s k) = (pickK x ps os s k).map fun (i : Nat) => strOf (os ++ [(i : Int)]) (s.step x 0 (ptv ps (i : Int)))
  | 0 => rfl
  | k + 1 => by
    have ih := minO_lon x ps os s k
    rw [lonK, pickK]
    by_cases h : (k : Int) ∈ os
    · rw [if_pos h, if_pos h, List.append_nil]
      exact ih
    · rw [if_neg h, if_neg h, minO_snoc, ih]
      cases pickK x ps os s k with
      | none => rfl
      | some j =>
        by_cases hq : nxt x ps s k < nxt x ps s j
        · have hq2 : strOf (os ++ [(k : Int)]) (s.step x 0 (ptv ps (k : Int))) 10 < strOf (os ++ [(j : Int)]) (s.step x 0 (ptv ps (j : Int))) 10 := hq
          simp only [Option.map_some]
          rw [if_pos hq2, if_pos hq]
          rfl
        · have hq2 : ¬ strOf (os ++ [(k : Int)]) (s.step x 0 (ptv ps (k : Int))) 10 < strOf (os ++ [(j : Int)]) (s.step x 0 (ptv ps (j : Int))) 10 := hq
          simp only [Option.map_some]
          rw [if_neg hq2, if_neg hq]
          rfl
/-- a list of so many different indices is not all of them -/
theorem room : ∀ {n : Nat} {os : List Int}, os.Nodup → (∀ i ∈ os, 0 ≤ i ∧ i < n) → os.length < n → ∃ i : Nat, i < n ∧ (i : Int) ∉ os := by
  intro n
  induction n with
  | zero => intro os _ _ h; omega
  | succ n ih =>
    intro os hd hr hl
    by_cases hn : (n : Int) ∈ os
    · have h1 : (os.erase n).Nodup := hd.erase _
      have h2 : (os.erase (n : Int)).length = os.length - 1 := List.length_erase_of_mem hn
      have h0 : 0 < os.length := List.length_pos_of_mem hn
      obtain ⟨i, hi, hni⟩ := ih h1 (fun i hi => by
        have ⟨ha, hb⟩ := (List.Nodup.mem_erase_iff hd).1 hi
        have := hr i hb
        omega) (by omega)
      refine ⟨i, by omega, fun h => hni ((List.Nodup.mem_erase_iff hd).2 ⟨by omega, h⟩)⟩
    · exact ⟨n, by omega, hn⟩
/-- the order behind r pieces -/
def nearO (x : Iro) (ps : List Pie) : Nat → List Int
  | 0 => []
  | r + 1 => nearO x ps r ++ (match pickK x ps (nearO x ps r) (runs x 0 ps (nearO x ps r)) ps.length with | none => [] | some j => [(j : Int)])
structure NearOk (n : Nat) (os : List Int) (r : Nat) : Prop where
  len : os.length = r
  nd : os.Nodup
  rng : ∀ i ∈ os, 0 ≤ i ∧ i < n
theorem near_step {x : Iro} {ps : List Pie} {r : Nat} (h : NearOk ps.length (nearO x ps r) r) (hr : r < ps.length) :
    ∃ j, pickK x ps (nearO x ps r) (runs x 0 ps (nearO x ps r)) ps.length = some j ∧ j < ps.length ∧ (j : Int) ∉ nearO x ps r ∧ nearO x ps (r + 1) = nearO x ps r ++ [(j : Int)] ∧ NearOk ps.length (nearO x ps (r + 1)) (r + 1) := by
  obtain ⟨i, hi, hni⟩ := room h.nd h.rng (by rw [h.len]; exact hr)
  obtain ⟨j, hj⟩ := pickK_some (x := x) (ps := ps) (s := runs x 0 ps (nearO x ps r)) ⟨i, hi, hni⟩
  obtain ⟨hjl, hjn⟩ := pickK_lt hj
  have e : nearO x ps (r + 1) = nearO x ps r ++ [(j : Int)] := by rw [nearO, hj]
  refine ⟨j, hj, hjl, hjn, e, ?_⟩
  rw [e]
  refine ⟨by simp [h.len], List.nodup_append.2 ⟨h.nd, by simp, fun a ha b hb hab => ?_⟩, fun z hz => ?_⟩
  · rw [List.mem_singleton.1 hb] at hab
    exact hjn (hab ▸ ha)
  · rcases List.mem_append.1 hz with h1 | h1
    · exact h.rng z h1
    · rw [List.mem_singleton.1 h1]
      omega
theorem near_ok (x : Iro) (ps : List Pie) : ∀ r, r ≤ ps.length → NearOk ps.length (nearO x ps r) r
  | 0, _ => ⟨rfl, List.Pairwise.nil, fun i hi => by cases hi⟩
  | r + 1, h => by
    obtain ⟨_, _, _, _, _, h2⟩ := near_step (near_ok x ps r (by omega)) (by omega)
    exact h2
def nearR (x : Iro) (ps : List Pie) : List Int × Nat := if codeIr x ps = 0 then (nearO x ps ps.length, 0) else ([], codeIr x ps)
theorem near_yes {x : Iro} {ps : List Pie} {ys : List Int} {r1 : Nat} (h : nearR x ps = (ys, r1)) (hc : codeIr x ps = 0) : nearO x ps ps.length = ys ∧ r1 = 0 := by
  rw [nearR, if_pos hc] at h
  simp at h
  exact ⟨h.1, h.2.symm⟩
theorem near_no {x : Iro} {ps : List Pie} {ys : List Int} {r1 i : Nat} (h : nearR x ps = (ys, r1)) (hc : codeIr x ps = i + 1) : ys = [] ∧ r1 = i + 1 := by
  rw [nearR, if_neg (by omega), hc] at h
  simp at h
  exact ⟨h.1, h.2.symm⟩
theorem nearR_le {x : Iro} {ps : List Pie} {ys : List Int} {r1 : Nat} (h : nearR x ps = (ys, r1)) : ys.length ≤ 1048576 := by
  cases hc : codeIr x ps with
  | zero =>
    obtain ⟨_, _, h8⟩ := codeIr_zero hc
    rw [← (near_yes h hc).1, (near_ok x ps _ (Nat.le_refl _)).len]
    omega
  | succ i => rw [(near_no h hc).1]; simp
end Go.Proofs.YtajhdgoinghmmaaDoor.iron
