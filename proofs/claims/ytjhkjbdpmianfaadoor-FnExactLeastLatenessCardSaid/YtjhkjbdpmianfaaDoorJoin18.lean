/-
  Several texts of this proof, joined.
-/
import Derived.Test.YtjhkjbdpmianfaaDoorJoin16
import Derived.Test.YtjhkjbdpmianfaaDoorRowAt
import Derived.Test.YtjhkjbdpmianfaaDoorStill
import Derived.Test.YtjhkjbdpmianfaaDoorJoin17
import Derived.Deep.RegionHeld3
import Derived.Test.YtjhkjbdpmianfaaDoorJoin15
import Derived.Maps.Keyed
import Derived.Maps.Own
import Derived.Maps.OwnOps
import Derived.Maps.OwnSet
/-
  What is measured of pieces in an order: the program's measures, one by one.
-/
namespace Go.Proofs.YtjhkjbdpmianfaaDoor.iron
open Go Go.RowKit sl stk errs

set_option maxHeartbeats 1000000 in
theorem lateBy_any (p : Pie) (hp : pieB p = true) (t : Int) (h0 : 0 ≤ t) (h1 : t ≤ 10000) (z : Int) (hz : late p t = z) (w : World) :
    Calls Tryd.prog 55 #[p.v, .int .i64 t] w fun o w' => o = .returned (.int .i64 z) ∧ Below w.heap.size w w' := by
  subst hz
  obtain ⟨_, _, d0, d1⟩ := pieB_iff.1 hp
  obtain ⟨l, m, d⟩ := p
  simp only at d0 d1
  go_enter Tryd.func55, Tryd.ntmps55
  go_wp2_with fail
  all_goals go_ret
  all_goals exact ⟨ret_int (by unfold late; simp only; first | rfl | (split <;> omega)), by repeat (first | exact Below.refl _ _ | assumption | apply Below.drew | (refine Below.alloc ?_ (by first | (simp; done) | (simp; omega) | omega) _) | (refine Below.setCell ?_ (by first | (simp; done) | (simp; omega) | omega) _))⟩
/-- the program's function for each measure -/
def meaV : Nat → Value
  | 0 => .func (.func 53) #[] #[]
  | 1 => .func (.func 54) #[] #[]
  | 2 => .func (.func 56) #[] #[]
  | _ => .func (.func 57) #[] #[]
set_option maxHeartbeats 1000000 in
theorem mea_0 (sum : Int) (p : Pie) (hp : pieB p = true) (t : Int) (s0 : 0 ≤ sum) (s1 : sum ≤ 100000) (h0 : 0 ≤ t) (h1 : t ≤ 10000) (z : Int) (hz : mea 0 sum p t = z) (w : World) :
    Calls Tryd.prog 53 #[.int .i64 sum, p.v, .int .i64 t] w fun o w' => o = .returned (.int .i64 z) ∧ Below w.heap.size w w' := by
  subst hz
  obtain ⟨pl, pm, pd⟩ := p
  go_enter Tryd.func53, Tryd.ntmps53
  go_wp2_with fail
  go_ret
  exact ⟨ret_int rfl, by repeat (first | exact Below.refl _ _ | assumption | apply Below.drew | (refine Below.alloc ?_ (by first | (simp; done) | (simp; omega) | omega) _) | (refine Below.setCell ?_ (by first | (simp; done) | (simp; omega) | omega) _))⟩

set_option maxHeartbeats 1000000 in
theorem mea_1 (sum : Int) (p : Pie) (hp : pieB p = true) (t : Int) (s0 : 0 ≤ sum) (s1 : sum ≤ 100000) (h0 : 0 ≤ t) (h1 : t ≤ 10000) (z : Int) (hz : mea 1 sum p t = z) (w : World) :
    Calls Tryd.prog 54 #[.int .i64 sum, p.v, .int .i64 t] w fun o w' => o = .returned (.int .i64 z) ∧ Below w.heap.size w w' := by
  subst hz
  have hl := late_bd hp h0
  obtain ⟨q, hq⟩ : ∃ q, late p t = q := ⟨_, rfl⟩
  rw [hq] at hl
  obtain ⟨l0, l1⟩ := hl
  have HQ := Lib.hid hq
  have HP := Lib.hid hp
  clear hq hp
  obtain ⟨pl, pm, pd⟩ := p
  go_enter Tryd.func54, Tryd.ntmps54
  go_wp2_with fail
  refine (lateBy_any ⟨pl, pm, pd⟩ HP.out t h0 h1 _ HQ.out _).mono ?_
  rintro o w1 ⟨rfl, hb⟩
  have HB := Lib.hid (((Below.refl w.heap.size w).alloc (Nat.le_refl _) (.cells #[.int .i8 pl, .int .i8 pm, .int .i16 pd] 42)).trans (hb.mono (by simp)))
  clear hb
  go_wp2_with fail
  all_goals go_ret
  all_goals exact ⟨ret_int (by first | (simp only [mea, HQ.out]; done) | (simp only [mea, HQ.out]; rfl) | (simp only [mea, HQ.out]; split <;> omega)), HB.out⟩

set_option maxHeartbeats 1000000 in
theorem mea_2 (sum : Int) (p : Pie) (hp : pieB p = true) (t : Int) (s0 : 0 ≤ sum) (s1 : sum ≤ 100000) (h0 : 0 ≤ t) (h1 : t ≤ 10000) (z : Int) (hz : mea 2 sum p t = z) (w : World) :
    Calls Tryd.prog 56 #[.int .i64 sum, p.v, .int .i64 t] w fun o w' => o = .returned (.int .i64 z) ∧ Below w.heap.size w w' := by
  subst hz
  have hl := late_bd hp h0
  obtain ⟨q, hq⟩ : ∃ q, late p t = q := ⟨_, rfl⟩
  rw [hq] at hl
  obtain ⟨l0, l1⟩ := hl
  have HQ := Lib.hid hq
  have HP := Lib.hid hp
  clear hq hp
  obtain ⟨pl, pm, pd⟩ := p
  go_enter Tryd.func56, Tryd.ntmps56
  go_wp2_with fail
  refine (lateBy_any ⟨pl, pm, pd⟩ HP.out t h0 h1 _ HQ.out _).mono ?_
  rintro o w1 ⟨rfl, hb⟩
  have HB := Lib.hid (((Below.refl w.heap.size w).alloc (Nat.le_refl _) (.cells #[.int .i8 pl, .int .i8 pm, .int .i16 pd] 42)).trans (hb.mono (by simp)))
  clear hb
  go_wp2_with fail
  all_goals go_ret
  all_goals exact ⟨ret_int (by first | (simp only [mea, HQ.out]; done) | (simp only [mea, HQ.out]; rfl) | (simp only [mea, HQ.out]; split <;> omega)), HB.out⟩

set_option maxHeartbeats 1000000 in
theorem mea_3 (sum : Int) (p : Pie) (hp : pieB p = true) (t : Int) (s0 : 0 ≤ sum) (s1 : sum ≤ 100000) (h0 : 0 ≤ t) (h1 : t ≤ 10000) (z : Int) (hz : mea 3 sum p t = z) (w : World) :
    Calls Tryd.prog 57 #[.int .i64 sum, p.v, .int .i64 t] w fun o w' => o = .returned (.int .i64 z) ∧ Below w.heap.size w w' := by
  subst hz
  obtain ⟨pl, pm, pd⟩ := p
  go_enter Tryd.func57, Tryd.ntmps57
  go_wp2_with fail
  go_ret
  exact ⟨ret_int rfl, by repeat (first | exact Below.refl _ _ | assumption | apply Below.drew | (refine Below.alloc ?_ (by first | (simp; done) | (simp; omega) | omega) _) | (refine Below.setCell ?_ (by first | (simp; done) | (simp; omega) | omega) _))⟩

end Go.Proofs.YtjhkjbdpmianfaaDoor.iron

/-
  One piece more behind the start of an order: the program's with, for each measure.
-/
namespace Go.Proofs.YtjhkjbdpmianfaaDoor.iron
open Go Go.RowKit sl stk errs row

abbrev gV (x : Iro) (A : Option Addr) (n c : Nat) (fm : Value) : Value := .agg #[.int .i8 x.up, .int .i8 x.down, .slice A n c, fm]
/-- what with has: what it irons, the start, the result, and the piece -/
structure WS (x : Iro) (A : Option Addr) (n c : Nat) (fm : Value) (p : Pie) (w : World) (cf : Nat → Value) (u : World) : Prop where
  g0 : u.cell? ⟨w.heap.size, 0, none⟩ = some (.int .i8 x.up)
  g1 : u.cell? ⟨w.heap.size, 1, none⟩ = some (.int .i8 x.down)
  g3 : u.cell? ⟨w.heap.size, 3, none⟩ = some fm
  s : RowOwn u (w.heap.size + 1) 0 12 cf
  r : RowOwn u (w.heap.size + 1 + 1) 0 12 (cellR zeroR)
  p0 : u.cell? ⟨w.heap.size + 1 + 1 + 1, 0, none⟩ = some (.int .i8 p.lev)
  p1 : u.cell? ⟨w.heap.size + 1 + 1 + 1, 1, none⟩ = some (.int .i8 p.mins)
  p2 : u.cell? ⟨w.heap.size + 1 + 1 + 1, 2, none⟩ = some (.int .i16 p.due)
  b : Below w.heap.size w u
  z : w.heap.size + 1 + 1 + 1 < u.heap.size
theorem WS.next {x : Iro} {A : Option Addr} {n c : Nat} {fm : Value} {p : Pie} {w : World} {cf : Nat → Value} {u v : World} (h : WS x A n c fm p w cf u) (hb : Below u.heap.size u v) : WS x A n c fm p w cf v := by
  have hz := h.z
  exact ⟨(hb.cell (p := ⟨_, 0, none⟩) (by show w.heap.size < _; omega)).trans h.g0, (hb.cell (p := ⟨_, 1, none⟩) (by show w.heap.size < _; omega)).trans h.g1, (hb.cell (p := ⟨_, 3, none⟩) (by show w.heap.size < _; omega)).trans h.g3,
    h.s.next hb, h.r.next hb, (hb.cell (p := ⟨_, 0, none⟩) hz).trans h.p0, (hb.cell (p := ⟨_, 1, none⟩) hz).trans h.p1, (hb.cell (p := ⟨_, 2, none⟩) hz).trans h.p2, h.b.trans (hb.mono (by omega)), Nat.lt_of_lt_of_le hz hb.size⟩
theorem WS.set {x : Iro} {A : Option Addr} {n c : Nat} {fm : Value} {p : Pie} {w : World} {cf : Nat → Value} {u : World} (h : WS x A n c fm p w cf u) {j : Nat} (hj : j < 12) (v : Value) :
    WS x A n c fm p w (fun i => if i = j then v else cf i) (u.setCell ⟨w.heap.size + 1, j, none⟩ v) := by
  have far : ∀ q : Addr, q.block ≠ w.heap.size + 1 → (u.setCell ⟨w.heap.size + 1, j, none⟩ v).cell? q = u.cell? q := fun q hq => World.cell?_setCell_far _ _ _ _ (by show w.heap.size + 1 ≠ q.block; exact fun e => hq e.symm)
  have hs := RowOwn.set h.s hj v
  rw [Nat.zero_add] at hs
  exact ⟨(far _ (by show w.heap.size ≠ _; omega)).trans h.g0, (far _ (by show w.heap.size ≠ _; omega)).trans h.g1, (far _ (by show w.heap.size ≠ _; omega)).trans h.g3, hs, RowOwn.set_other h.r (by simp) _,
    (far _ (by show w.heap.size + 1 + 1 + 1 ≠ _; omega)).trans h.p0, (far _ (by show w.heap.size + 1 + 1 + 1 ≠ _; omega)).trans h.p1, (far _ (by show w.heap.size + 1 + 1 + 1 ≠ _; omega)).trans h.p2, h.b.setCell (by show w.heap.size ≤ w.heap.size + 1; omega) _, by simpa [World.setCell] using h.z⟩
theorem WS.new (x : Iro) (A : Option Addr) (n c : Nat) (fm : Value) (p : Pie) (w : World) (f : Str) (T1 T2 T3 T4 : TypeId) :
    WS x A n c fm p w (cellR f) ((((w.alloc (.cells #[.int .i8 x.up, .int .i8 x.down, .slice A n c, fm] T1)).alloc (.cells (strCs f) T2)).alloc (.cells (strCs zeroR) T3)).alloc (.cells #[.int .i8 p.lev, .int .i8 p.mins, .int .i16 p.due] T4)) := by
  have e1 : (w.alloc (.cells #[.int .i8 x.up, .int .i8 x.down, .slice A n c, fm] T1)).heap.size = w.heap.size + 1 := by simp
  have e2 : ((w.alloc (.cells #[.int .i8 x.up, .int .i8 x.down, .slice A n c, fm] T1)).alloc (.cells (strCs f) T2)).heap.size = w.heap.size + 1 + 1 := by simp
  have e3 : (((w.alloc (.cells #[.int .i8 x.up, .int .i8 x.down, .slice A n c, fm] T1)).alloc (.cells (strCs f) T2)).alloc (.cells (strCs zeroR) T3)).heap.size = w.heap.size + 1 + 1 + 1 := by simp
  have h2 := StrOwn.new (w.alloc (.cells #[.int .i8 x.up, .int .i8 x.down, .slice A n c, fm] T1)) f T2
  have h3 := StrOwn.new ((w.alloc (.cells #[.int .i8 x.up, .int .i8 x.down, .slice A n c, fm] T1)).alloc (.cells (strCs f) T2)) zeroR T3
  rw [e1] at h2
  rw [e2] at h3
  have nx : ∀ (v : World) (cs : Array Value) (T : TypeId), Below v.heap.size v (v.alloc (.cells cs T)) := fun v cs T => (Below.refl _ _).alloc (Nat.le_refl _) _
  have h4 := heap_alloc_new (((w.alloc (.cells #[.int .i8 x.up, .int .i8 x.down, .slice A n c, fm] T1)).alloc (.cells (strCs f) T2)).alloc (.cells (strCs zeroR) T3)) (.cells #[.int .i8 p.lev, .int .i8 p.mins, .int .i16 p.due] T4)
  rw [e3] at h4
  have h1 : ∀ i, ((((w.alloc (.cells #[.int .i8 x.up, .int .i8 x.down, .slice A n c, fm] T1)).alloc (.cells (strCs f) T2)).alloc (.cells (strCs zeroR) T3)).alloc (.cells #[.int .i8 p.lev, .int .i8 p.mins, .int .i16 p.due] T4)).cell? ⟨w.heap.size, i, none⟩ = (#[.int .i8 x.up, .int .i8 x.down, .slice A n c, fm] : Array Value)[i]? := fun i =>
    cell_of_row _ _ _ _ _ _ ((heap_alloc_old _ _ (by rw [e3]; omega)).trans ((heap_alloc_old _ _ (by rw [e2]; omega)).trans ((heap_alloc_old _ _ (by rw [e1]; omega)).trans (heap_alloc_new w _))))
  exact ⟨h1 0, h1 1, h1 3, (h2.next (nx _ _ _)).next (nx _ _ _), h3.next (nx _ _ _), cell_of_row _ _ _ _ _ _ h4, cell_of_row _ _ _ _ _ _ h4, cell_of_row _ _ _ _ _ _ h4,
    by repeat (first | exact Below.refl _ _ | assumption | apply Below.drew | (refine Below.alloc ?_ (by first | (simp; done) | (simp; omega) | omega) _) | (refine Below.setCell ?_ (by first | (simp; done) | (simp; omega) | omega) _)), by simp⟩

abbrev WH (x : Iro) (y : Pie) (l : Int) (w : World) (u : World) : Prop := u.cell? ⟨w.heap.size, 0, none⟩ = some (.int .i8 x.up) ∧ u.cell? ⟨w.heap.size, 1, none⟩ = some (.int .i8 x.down) ∧ u.cell? ⟨w.heap.size + 1, 9, none⟩ = some (.int .i8 l) ∧ u.cell? ⟨w.heap.size + 1 + 1 + 1, 1, none⟩ = some (.int .i8 y.mins)
theorem WS.wh {x : Iro} {A : Option Addr} {n c : Nat} {fm : Value} {p : Pie} {w : World} {os : List Int} {s : Sta} {u : World} (h : WS x A n c fm p w (cellR (strOf os s)) u) : WH x p s.lev w u :=
  ⟨h.g0, h.g1, by have := h.s.cell 9 (by decide); rw [Nat.zero_add, cellR_9, strOf_9] at this; exact this, h.p1⟩
theorem WS.at_ {x : Iro} {A : Option Addr} {n c : Nat} {fm : Value} {p : Pie} {w : World} {cf : Nat → Value} {u : World} (h : WS x A n c fm p w cf u) {j : Nat} (hj : j < 12) {v : Value} (hv : cf j = v) : u.cell? ⟨w.heap.size + 1, j, none⟩ = some v := by
  have := h.s.cell j hj
  rw [Nat.zero_add, hv] at this
  exact this
theorem WS.fz {x : Iro} {A : Option Addr} {n c : Nat} {fm : Value} {p : Pie} {w : World} {cf : Nat → Value} {u : World} (h : WS x A n c fm p w cf u) {j : Nat} (hj : j < 12) : u.frozen? ⟨w.heap.size + 1, j, none⟩ = false := by
  have := h.s.free j hj
  rw [Nat.zero_add] at this
  exact this

set_option maxRecDepth 100000 in
set_option maxHeartbeats 4000000 in
theorem with_0 (x : Iro) (hv : iroB x = true) (A : Option Addr) (n c : Nat) (ps : List Pie) (en : n = ps.length) (hn : n ≤ 8) (hp : ps.all pieB = true) (os : List Int) (h8 : os.length < 8) (s : Sta) (hs : s.Ok os.length) (i : Nat) (hi : i < n) (w : World) (hg : Sl Pie.cells 3 w w.heap.size A ps) :
    Calls Tryd.prog 60 #[gV x A n c (.func (.func 53) #[] #[]), strV (strOf os s), .int .i64 i] w fun o w' => o = .returned (strV (strOf (os ++ [(i : Int)]) (s.step x 0 (ptv ps i)))) ∧ Below w.heap.size w w' := by
  have En := Lib.hid en
  have HV := Lib.hid hv
  have hzz : ∀ u : World, (zeroValue 61).run Tryd.prog u = .ok (.agg (strCs zeroR)) u := (zero_of_info zeroRi).1
  obtain ⟨y, hy⟩ : ∃ y, ps[i]? = some y := ⟨ps[i]'(by omega), List.getElem?_eq_getElem _⟩
  have hyv := List.all_eq_true.1 hp _ (List.mem_of_getElem? hy)
  have hptv : ptv ps (i : Int) = y := by unfold ptv; rw [List.getD_eq_getElem?_getD, Int.toNat_natCast, hy]; rfl
  rw [hptv]
  obtain ⟨⟨y0, y1⟩, ⟨y2, y3⟩, y4, y5⟩ := pieB_iff.1 hyv
  obtain ⟨a, rfl, hab, hat⟩ := hg.at_ i y hy
  obtain ⟨q0, q1, q2⟩ := pieS.at_ hat
  obtain ⟨s0, s1, s2, s3, s4, s5⟩ := hs
  obtain ⟨cz, hcz⟩ : ∃ z, chg x s.lev y.lev = z := ⟨_, rfl⟩
  have hcb := chg_bd (x := x) (a := s.lev) (b := y.lev) hv s0 s1 (by omega) y1
  rw [hcz] at hcb
  obtain ⟨hc0, hc1⟩ := hcb
  obtain ⟨t, ht⟩ : ∃ t, t = s.at_ + (cz + y.mins) := ⟨_, rfl⟩
  obtain ⟨mz, hmz⟩ : ∃ z, mea 0 s.sum y t = z := ⟨_, rfl⟩
  have ok := Sta.Ok.step (s := s) ⟨s0, s1, s2, s3, s4, s5⟩ h8 0 hv hyv
  have hst : s.step x 0 y = ⟨y.lev, t, mz⟩ := by
    unfold Sta.step
    rw [hcz, Int.add_assoc, ← ht, hmz]
  rw [hst] at ok ⊢
  have t0 : 0 ≤ t := ok.a0
  have t1 : t ≤ 240 * ((os.length + 1 : Nat) : Int) := ok.a1
  have m0 : 0 ≤ mz := ok.s0
  have m1 : mz ≤ 1920 * ((os.length + 1 : Nat) : Int) := ok.s1
  have w1 : IntKind.i64.wrap (cz + y.mins) = cz + y.mins := IntWalk.i64_in _ (by omega)
  have w2 : IntKind.i64.wrap (s.at_ + (cz + y.mins)) = t := by rw [ht]; exact IntWalk.i64_in _ (by omega)
  have w3 : IntKind.i64.wrap y.mins = y.mins := IntWalk.i64_in _ (by omega)
  have W1 := Lib.hid w1
  have W2 := Lib.hid w2
  have W3 := Lib.hid w3
  have CZ := Lib.hid hcz
  have MZ := Lib.hid hmz
  have HT := Lib.hid ht
  have HYV := Lib.hid hyv
  have HY := Lib.hid hy
  obtain ⟨m, hm⟩ : ∃ m, m = os.length := ⟨_, rfl⟩
  have HM := Lib.hid hm
  obtain ⟨u3, hu3⟩ : ∃ u, u = ((w.alloc (.cells #[.int .i8 x.up, .int .i8 x.down, .slice (some a) n c, .func (.func 53) #[] #[]] 65)).alloc (.cells (strCs (strOf os s)) 61)).alloc (.cells (strCs zeroR) 61) := ⟨_, rfl⟩
  have G3 : u3.cell? ⟨w.heap.size, 2, none⟩ = some (.slice (some a) n c) := by
    rw [hu3]
    have e1 : (w.alloc (.cells #[.int .i8 x.up, .int .i8 x.down, .slice (some a) n c, .func (.func 53) #[] #[]] 65)).heap.size = w.heap.size + 1 := by simp
    exact cell_of_row _ _ 2 _ _ _ ((heap_alloc_old _ _ (by simp; omega)).trans ((heap_alloc_old _ _ (by rw [e1]; omega)).trans (heap_alloc_new w _)))
  have B3 : Below w.heap.size w u3 := by rw [hu3]; repeat (first | exact Below.refl _ _ | assumption | apply Below.drew | (refine Below.alloc ?_ (by first | (simp; done) | (simp; omega) | omega) _) | (refine Below.setCell ?_ (by first | (simp; done) | (simp; omega) | omega) _))
  have q0 : u3.cell? (a.add (i * 3)) = some (.int .i8 y.lev) := (B3.cell (by rw [block_add]; exact hab)).trans q0
  have q1 : u3.cell? ⟨(a.add (i * 3)).block, (a.add (i * 3)).off + 1, none⟩ = some (.int .i8 y.mins) := (B3.cell (by show (a.add (i * 3)).block < _; rw [block_add]; exact hab)).trans q1
  have q2 : u3.cell? ⟨(a.add (i * 3)).block, (a.add (i * 3)).off + 2, none⟩ = some (.int .i16 y.due) := (B3.cell (by show (a.add (i * 3)).block < _; rw [block_add]; exact hab)).trans q2
  obtain ⟨u0, hu0⟩ : ∃ u, u = u3.alloc (.cells #[.int .i8 y.lev, .int .i8 y.mins, .int .i16 y.due] 42) := ⟨_, rfl⟩
  have S0 : Hid (WS x (some a) n c (.func (.func 53) #[] #[]) y w (cellR (strOf os s)) u0) := Lib.hid (by rw [hu0, hu3]; exact WS.new ..)
  have pp0 : u0.cell? ⟨u3.heap.size, 0, none⟩ = some (.int .i8 y.lev) := by rw [hu0]; exact cell_of_row _ _ _ _ _ _ (heap_alloc_new u3 _)
  have HU := Lib.hid hu0
  have HU3 := Lib.hid hu3
  have hz3 : u3.heap.size = w.heap.size + 1 + 1 + 1 := by rw [hu3]; simp
  have HZ3 := Lib.hid hz3
  clear en hv hp hy hyv hptv hat hcz hmz ht hst ok w1 w2 w3 hm hu0 hu3 hz3 B3
  go_enter Tryd.func60, Tryd.ntmps60
  go_wp2_with (first | (rw [← HU3.out]) | (rw [← HU.out]) | fail)
  rw [HZ3.out]
  clear pp0 q0 q1 q2 G3
  refine wp_region_held_drew (S := WH x y s.lev w) (by kernel_rfl) (S0.out.next (Below.refl _ _).drew).wh (fun hHeld => ?_)
  have S1 := Lib.hid (S0.out.next (Below.refl _ _).drew)
  generalize u0.drew = v0 at S1 hHeld ⊢
  clear HU HU3 HZ3 S0
  have w3 := W3.out
  refine wpAnyH_take (i := 0) (v := ?_) rfl (by kernel_rfl) (by kernel_rfl) (by kernel_rfl) (fun _ _ _ h => h) (Or.inl ⟨by rfl, ?_⟩) (by assumption) ?_
  rotate_left
  · intro u hSu
    (try dsimp only at hSu)
    first | (go_simp; done) | (go_simp; with_reducible rfl)
  try simp only [Act.put, List.getElem_toArray, List.getElem_cons_zero, List.getElem_cons_succ, List.setIfInBounds_toArray, List.set_cons_zero, List.set_cons_succ]
  refine wpAnyH_take (i := 2) (v := ?_) rfl (by kernel_rfl) (by kernel_rfl) (by kernel_rfl) (fun _ _ _ h => h) (Or.inl ⟨by rfl, ?_⟩) (by assumption) ?_
  rotate_left
  · intro u hSu
    (try dsimp only at hSu)
    first | (go_simp; done) | (go_simp; with_reducible rfl)
  try simp only [Act.put, List.getElem_toArray, List.getElem_cons_zero, List.getElem_cons_succ, List.setIfInBounds_toArray, List.set_cons_zero, List.set_cons_succ]
  refine wpAnyH_take (i := 3) (v := ?_) rfl (by kernel_rfl) (by kernel_rfl) (by kernel_rfl) (fun _ _ _ h => h) (Or.inl ⟨by rfl, ?_⟩) (by assumption) ?_
  rotate_left
  · intro u hSu
    (try dsimp only at hSu)
    first | (go_simp; done) | (go_simp; with_reducible rfl)
  try simp only [Act.put, List.getElem_toArray, List.getElem_cons_zero, List.getElem_cons_succ, List.setIfInBounds_toArray, List.set_cons_zero, List.set_cons_succ]
  refine wpAnyH_take (i := 4) (v := ?_) rfl (by kernel_rfl) (by kernel_rfl) (by kernel_rfl) (fun _ _ _ h => h) (Or.inl ⟨by rfl, ?_⟩) (by assumption) ?_
  rotate_left
  · intro u hSu
    (try dsimp only at hSu)
    first | (go_simp; done) | (go_simp; with_reducible rfl)
  try simp only [Act.put, List.getElem_toArray, List.getElem_cons_zero, List.getElem_cons_succ, List.setIfInBounds_toArray, List.set_cons_zero, List.set_cons_succ]
  refine wpAnyH_take (i := 5) (v := ?_) rfl (by kernel_rfl) (by kernel_rfl) (by kernel_rfl) (fun _ _ _ h => h) (Or.inl ⟨by rfl, ?_⟩) (by assumption) ?_
  rotate_left
  · intro u hSu
    (try dsimp only at hSu)
    first | (go_simp; done) | (go_simp; with_reducible rfl)
  try simp only [Act.put, List.getElem_toArray, List.getElem_cons_zero, List.getElem_cons_succ, List.setIfInBounds_toArray, List.set_cons_zero, List.set_cons_succ]
  refine wpAnyH_take (i := 6) (v := ?_) rfl (by kernel_rfl) (by kernel_rfl) (by kernel_rfl) (fun _ _ _ h => h) (Or.inl ⟨by rfl, ?_⟩) (by assumption) ?_
  rotate_left
  · intro u hSu
    (try dsimp only at hSu)
    first | (go_simp; done) | (go_simp; with_reducible rfl)
  try simp only [Act.put, List.getElem_toArray, List.getElem_cons_zero, List.getElem_cons_succ, List.setIfInBounds_toArray, List.set_cons_zero, List.set_cons_succ]
  refine wpAnyH_take (i := 8) (v := ?_) rfl (by kernel_rfl) (by kernel_rfl) (by kernel_rfl) (fun _ _ _ h => h) (Or.inl ⟨by rfl, ?_⟩) (by assumption) ?_
  rotate_left
  · intro u hSu
    (try dsimp only at hSu)
    first | (go_simp; done) | (go_simp; with_reducible rfl)
  try simp only [Act.put, List.getElem_toArray, List.getElem_cons_zero, List.getElem_cons_succ, List.setIfInBounds_toArray, List.set_cons_zero, List.set_cons_succ]
  refine wpAnyH_take (i := 9) (v := ?_) rfl (by kernel_rfl) (by kernel_rfl) (by kernel_rfl) (fun _ _ _ h => h) (Or.inl ⟨by rfl, ?_⟩) (by assumption) ?_
  rotate_left
  · intro u hSu
    (try dsimp only at hSu)
    first | (go_simp; done) | (go_simp; with_reducible rfl)
  try simp only [Act.put, List.getElem_toArray, List.getElem_cons_zero, List.getElem_cons_succ, List.setIfInBounds_toArray, List.set_cons_zero, List.set_cons_succ]
  refine wpAnyH_take (i := 10) (v := ?_) rfl (by kernel_rfl) (by kernel_rfl) (by kernel_rfl) (fun _ _ _ h => h) (Or.inl ⟨by rfl, ?_⟩) (by assumption) ?_
  rotate_left
  · intro u hSu
    (try dsimp only at hSu)
    first | (go_simp; done) | (go_simp; with_reducible rfl)
  try simp only [Act.put, List.getElem_toArray, List.getElem_cons_zero, List.getElem_cons_succ, List.setIfInBounds_toArray, List.set_cons_zero, List.set_cons_succ]
  clear w3
  have c10 : v0.cell? ⟨w.heap.size + 1, 10, none⟩ = some (.int .i64 s.at_) := S1.out.at_ (by decide) rfl
  refine wpAnyH_ready (rs := [1, 7]) (by kernel_rfl) (by simp) ?_
  refine AllReadyH.cons rfl (fun K hK => ?_) (AllReadyH.cons rfl (fun K hK => ?_) AllReadyH.nil)
  · go_simp
    refine hK.out _ _ (hHeld) (fun hHeld2 => ?_)
    clear hK K hHeld
    have hHeld := hHeld2
    clear hHeld2
    try simp only [Act.put, List.getElem_toArray, List.getElem_cons_zero, List.getElem_cons_succ, List.setIfInBounds_toArray, List.set_cons_zero, List.set_cons_succ]
    refine wpAnyH_ready (rs := [7]) (by kernel_rfl) (by simp) ?_
    refine AllReadyH.cons rfl (fun K hK => ?_) AllReadyH.nil
    go_simp
    refine (timeTo_any x HV.out s.lev y.lev s0 s1 (by omega) y1 _ CZ.out _).mono ?_
    rintro o v1 ⟨rfl, hb1⟩
    have S2 := Lib.hid (S1.out.next hb1)
    clear hb1 c10
    refine hK.out _ _ (S2.out.wh) (fun hHeld2 => ?_)
    clear hK K hHeld
    have hHeld := hHeld2
    clear hHeld2
    try simp only [Act.put, List.getElem_toArray, List.getElem_cons_zero, List.getElem_cons_succ, List.setIfInBounds_toArray, List.set_cons_zero, List.set_cons_succ]
    have w1 := W1.out
    refine wpAnyH_take (i := 11) (v := ?_) rfl (by kernel_rfl) (by kernel_rfl) (by kernel_rfl) (fun _ _ _ h => h) (Or.inl ⟨by rfl, ?_⟩) (by assumption) ?_
    rotate_left
    · intro u hSu
      (try dsimp only at hSu)
      first | (go_simp; done) | (go_simp; with_reducible rfl)
    try simp only [Act.put, List.getElem_toArray, List.getElem_cons_zero, List.getElem_cons_succ, List.setIfInBounds_toArray, List.set_cons_zero, List.set_cons_succ]
    clear w1
    have w2 := W2.out
    refine wpAnyH_take (i := 12) (v := ?_) rfl (by kernel_rfl) (by kernel_rfl) (by kernel_rfl) (fun _ _ _ h => h) (Or.inl ⟨by rfl, ?_⟩) (by assumption) ?_
    rotate_left
    · intro u hSu
      (try dsimp only at hSu)
      first | (go_simp; done) | (go_simp; with_reducible rfl)
    try simp only [Act.put, List.getElem_toArray, List.getElem_cons_zero, List.getElem_cons_succ, List.setIfInBounds_toArray, List.set_cons_zero, List.set_cons_succ]
    clear w2
    refine wpAnyH_take (i := 13) (v := ?_) rfl (by kernel_rfl) (by kernel_rfl) (by kernel_rfl) (fun _ _ _ h => h) (Or.inl ⟨by rfl, ?_⟩) (by assumption) ?_
    rotate_left
    · intro u hSu
      (try dsimp only at hSu)
      first | (go_simp; done) | (go_simp; with_reducible rfl)
    try simp only [Act.put, List.getElem_toArray, List.getElem_cons_zero, List.getElem_cons_succ, List.setIfInBounds_toArray, List.set_cons_zero, List.set_cons_succ]
    have c10 : v1.cell? ⟨w.heap.size + 1, 10, none⟩ = some (.int .i64 s.at_) := S2.out.at_ (by decide) rfl
    have f10 := S2.out.fz (j := 10) (by decide)
    refine wpAnyH_ready (rs := [14]) (by kernel_rfl) (by simp) ?_
    refine AllReadyH.cons rfl (fun K hK => ?_) AllReadyH.nil
    go_simp
    have S3 := Lib.hid (S2.out.set (j := 10) (by decide) (.int .i64 t))
    generalize v1.setCell ⟨w.heap.size + 1, 10, none⟩ (.int .i64 t) = v2 at S3 ⊢
    clear c10 f10 S1 S2
    refine hK.out _ _ (⟨S3.out.g0, S3.out.g1, S3.out.at_ (by decide) rfl, S3.out.p1⟩) (fun hHeld2 => ?_)
    clear hK K hHeld
    have hHeld := hHeld2
    clear hHeld2
    try simp only [Act.put, List.getElem_toArray, List.getElem_cons_zero, List.getElem_cons_succ, List.setIfInBounds_toArray, List.set_cons_zero, List.set_cons_succ]
    refine wpAnyH_done (by kernel_rfl) ?_ _
    clear hHeld
    have c10 : v2.cell? ⟨w.heap.size + 1, 10, none⟩ = some (.int .i64 t) := S3.out.at_ (by decide) rfl
    have c11 : v2.cell? ⟨w.heap.size + 1, 11, none⟩ = some (.int .i64 s.sum) := S3.out.at_ (by decide) rfl
    have g3 := S3.out.g3
    have p0 := S3.out.p0
    have p1 := S3.out.p1
    have p2 := S3.out.p2
    go_wp2_with fail
    refine (mea_0 s.sum y HYV.out t s4 (by omega) t0 (by omega) _ MZ.out _).mono ?_
    rintro o v3 ⟨rfl, hb3⟩
    have S4 := Lib.hid (S3.out.next hb3)
    clear c10 c11 g3 p0 p1 p2 hb3 S3
    have c11 : v3.cell? ⟨w.heap.size + 1, 11, none⟩ = some (.int .i64 s.sum) := S4.out.at_ (by decide) rfl
    have f11 := S4.out.fz (j := 11) (by decide)
    have S5 := Lib.hid (S4.out.set (j := 11) (by decide) (.int .i64 mz))
    obtain ⟨v4, hv4⟩ : ∃ u, u = v3.setCell ⟨w.heap.size + 1, 11, none⟩ (.int .i64 mz) := ⟨_, rfl⟩
    rw [← hv4] at S5
    have c9 : v4.cell? ⟨w.heap.size + 1, 9, none⟩ = some (.int .i8 s.lev) := S5.out.at_ (by decide) rfl
    have f9 := S5.out.fz (j := 9) (by decide)
    have S6 := Lib.hid (S5.out.set (j := 9) (by decide) (.int .i8 y.lev))
    obtain ⟨v5, hv5⟩ : ∃ u, u = v4.setCell ⟨w.heap.size + 1, 9, none⟩ (.int .i8 y.lev) := ⟨_, rfl⟩
    rw [← hv5] at S6
    have c8 : v5.cell? ⟨w.heap.size + 1, 8, none⟩ = some (.int .i64 (m : Int)) := S6.out.at_ (by decide) (by rw [HM.out]; rfl)
    have cm : v5.cell? ⟨w.heap.size + 1, m, none⟩ = some (cellR (strOf os s) m) := S6.out.at_ (by have := HM.out; omega) (by rw [if_neg (by have := HM.out; omega), if_neg (by have := HM.out; omega), if_neg (by have := HM.out; omega)])
    have fm := S6.out.fz (j := m) (by have := HM.out; omega)
    have S7 := Lib.hid (S6.out.set (j := m) (by have := HM.out; omega) (.int .i8 ((i : Int) + 1)))
    obtain ⟨v6, hv6⟩ : ∃ u, u = v5.setCell ⟨w.heap.size + 1, m, none⟩ (.int .i8 ((i : Int) + 1)) := ⟨_, rfl⟩
    rw [← hv6] at S7
    have d8 : v6.cell? ⟨w.heap.size + 1, 8, none⟩ = some (.int .i64 (m : Int)) := S7.out.at_ (by decide) (by rw [if_neg (by have := HM.out; omega), HM.out]; rfl)
    have f8 := S7.out.fz (j := 8) (by decide)
    have S8 := Lib.hid (S7.out.set (j := 8) (by decide) (.int .i64 ((m : Int) + 1)))
    obtain ⟨v7, hv7⟩ : ∃ u, u = v6.setCell ⟨w.heap.size + 1, 8, none⟩ (.int .i64 ((m : Int) + 1)) := ⟨_, rfl⟩
    rw [← hv7] at S8
    have h8m : m < 8 := by have := HM.out; omega
    have h8i : (m : Int) < 8 := by omega
    have FIN : Hid (StrOwn v7 (w.heap.size + 1) 0 (strOf (os ++ [(i : Int)]) ⟨y.lev, t, mz⟩)) := Lib.hid (S8.out.s.to (by rw [HM.out]; exact strOf_snoc os h8 s ⟨y.lev, t, mz⟩ i))
    have HV4 := Lib.hid hv4
    have HV5 := Lib.hid hv5
    have HV6 := Lib.hid hv6
    have HV7 := Lib.hid hv7
    have HR := Lib.hid S8.out.r
    have HBB := Lib.hid S8.out.b
    clear hv4 hv5 hv6 hv7 S4 S5 S6 S7 S8
    go_wp2_with (first
      | (rw [← HV4.out])
      | (rw [← HV5.out])
      | (rw [← HV6.out])
      | (rw [← HV7.out])
      | (refine wpl_load_str rfl (.tmp 4) rfl (w.heap.size + 1) 0 rfl FIN.out.toRowAt ?_)
      | (refine wpl_store_str rfl (.tmp 6) (.tmp 52) rfl (w.heap.size + 1 + 1) 0 rfl rfl HR.out ?_)
      | fail)
    refine bodyPost_ret (v := strV (strOf (os ++ [(i : Int)]) ⟨y.lev, t, mz⟩)) (results_stored Tryd.results60 rfl (by rw [lst_len]; exact HR.out.there) Tryd.underlying61 rfl (by rw [infoR, lst_len])) rfl ⟨rfl, ?_⟩
    exact below_cells HBB.out (by omega) _ _
  · go_simp
    refine (timeTo_any x HV.out s.lev y.lev s0 s1 (by omega) y1 _ CZ.out _).mono ?_
    rintro o v1 ⟨rfl, hb1⟩
    have S2 := Lib.hid (S1.out.next hb1)
    clear hb1 c10
    refine hK.out _ _ (S2.out.wh) (fun hHeld2 => ?_)
    clear hK K hHeld
    have hHeld := hHeld2
    clear hHeld2
    try simp only [Act.put, List.getElem_toArray, List.getElem_cons_zero, List.getElem_cons_succ, List.setIfInBounds_toArray, List.set_cons_zero, List.set_cons_succ]
    have w1 := W1.out
    refine wpAnyH_take (i := 11) (v := ?_) rfl (by kernel_rfl) (by kernel_rfl) (by kernel_rfl) (fun _ _ _ h => h) (Or.inl ⟨by rfl, ?_⟩) (by assumption) ?_
    rotate_left
    · intro u hSu
      (try dsimp only at hSu)
      first | (go_simp; done) | (go_simp; with_reducible rfl)
    try simp only [Act.put, List.getElem_toArray, List.getElem_cons_zero, List.getElem_cons_succ, List.setIfInBounds_toArray, List.set_cons_zero, List.set_cons_succ]
    clear w1
    have c10 : v1.cell? ⟨w.heap.size + 1, 10, none⟩ = some (.int .i64 s.at_) := S2.out.at_ (by decide) rfl
    refine wpAnyH_ready (rs := [1]) (by kernel_rfl) (by simp) ?_
    refine AllReadyH.cons rfl (fun K hK => ?_) AllReadyH.nil
    go_simp
    refine hK.out _ _ (hHeld) (fun hHeld2 => ?_)
    clear hK K hHeld
    have hHeld := hHeld2
    clear hHeld2
    try simp only [Act.put, List.getElem_toArray, List.getElem_cons_zero, List.getElem_cons_succ, List.setIfInBounds_toArray, List.set_cons_zero, List.set_cons_succ]
    clear c10
    have w2 := W2.out
    refine wpAnyH_take (i := 12) (v := ?_) rfl (by kernel_rfl) (by kernel_rfl) (by kernel_rfl) (fun _ _ _ h => h) (Or.inl ⟨by rfl, ?_⟩) (by assumption) ?_
    rotate_left
    · intro u hSu
      (try dsimp only at hSu)
      first | (go_simp; done) | (go_simp; with_reducible rfl)
    try simp only [Act.put, List.getElem_toArray, List.getElem_cons_zero, List.getElem_cons_succ, List.setIfInBounds_toArray, List.set_cons_zero, List.set_cons_succ]
    clear w2
    refine wpAnyH_take (i := 13) (v := ?_) rfl (by kernel_rfl) (by kernel_rfl) (by kernel_rfl) (fun _ _ _ h => h) (Or.inl ⟨by rfl, ?_⟩) (by assumption) ?_
    rotate_left
    · intro u hSu
      (try dsimp only at hSu)
      first | (go_simp; done) | (go_simp; with_reducible rfl)
    try simp only [Act.put, List.getElem_toArray, List.getElem_cons_zero, List.getElem_cons_succ, List.setIfInBounds_toArray, List.set_cons_zero, List.set_cons_succ]
    have c10 : v1.cell? ⟨w.heap.size + 1, 10, none⟩ = some (.int .i64 s.at_) := S2.out.at_ (by decide) rfl
    have f10 := S2.out.fz (j := 10) (by decide)
    refine wpAnyH_ready (rs := [14]) (by kernel_rfl) (by simp) ?_
    refine AllReadyH.cons rfl (fun K hK => ?_) AllReadyH.nil
    go_simp
    have S3 := Lib.hid (S2.out.set (j := 10) (by decide) (.int .i64 t))
    generalize v1.setCell ⟨w.heap.size + 1, 10, none⟩ (.int .i64 t) = v2 at S3 ⊢
    clear c10 f10 S1 S2
    refine hK.out _ _ (⟨S3.out.g0, S3.out.g1, S3.out.at_ (by decide) rfl, S3.out.p1⟩) (fun hHeld2 => ?_)
    clear hK K hHeld
    have hHeld := hHeld2
    clear hHeld2
    try simp only [Act.put, List.getElem_toArray, List.getElem_cons_zero, List.getElem_cons_succ, List.setIfInBounds_toArray, List.set_cons_zero, List.set_cons_succ]
    refine wpAnyH_done (by kernel_rfl) ?_ _
    clear hHeld
    have c10 : v2.cell? ⟨w.heap.size + 1, 10, none⟩ = some (.int .i64 t) := S3.out.at_ (by decide) rfl
    have c11 : v2.cell? ⟨w.heap.size + 1, 11, none⟩ = some (.int .i64 s.sum) := S3.out.at_ (by decide) rfl
    have g3 := S3.out.g3
    have p0 := S3.out.p0
    have p1 := S3.out.p1
    have p2 := S3.out.p2
    go_wp2_with fail
    refine (mea_0 s.sum y HYV.out t s4 (by omega) t0 (by omega) _ MZ.out _).mono ?_
    rintro o v3 ⟨rfl, hb3⟩
    have S4 := Lib.hid (S3.out.next hb3)
    clear c10 c11 g3 p0 p1 p2 hb3 S3
    have c11 : v3.cell? ⟨w.heap.size + 1, 11, none⟩ = some (.int .i64 s.sum) := S4.out.at_ (by decide) rfl
    have f11 := S4.out.fz (j := 11) (by decide)
    have S5 := Lib.hid (S4.out.set (j := 11) (by decide) (.int .i64 mz))
    obtain ⟨v4, hv4⟩ : ∃ u, u = v3.setCell ⟨w.heap.size + 1, 11, none⟩ (.int .i64 mz) := ⟨_, rfl⟩
    rw [← hv4] at S5
    have c9 : v4.cell? ⟨w.heap.size + 1, 9, none⟩ = some (.int .i8 s.lev) := S5.out.at_ (by decide) rfl
    have f9 := S5.out.fz (j := 9) (by decide)
    have S6 := Lib.hid (S5.out.set (j := 9) (by decide) (.int .i8 y.lev))
    obtain ⟨v5, hv5⟩ : ∃ u, u = v4.setCell ⟨w.heap.size + 1, 9, none⟩ (.int .i8 y.lev) := ⟨_, rfl⟩
    rw [← hv5] at S6
    have c8 : v5.cell? ⟨w.heap.size + 1, 8, none⟩ = some (.int .i64 (m : Int)) := S6.out.at_ (by decide) (by rw [HM.out]; rfl)
    have cm : v5.cell? ⟨w.heap.size + 1, m, none⟩ = some (cellR (strOf os s) m) := S6.out.at_ (by have := HM.out; omega) (by rw [if_neg (by have := HM.out; omega), if_neg (by have := HM.out; omega), if_neg (by have := HM.out; omega)])
    have fm := S6.out.fz (j := m) (by have := HM.out; omega)
    have S7 := Lib.hid (S6.out.set (j := m) (by have := HM.out; omega) (.int .i8 ((i : Int) + 1)))
    obtain ⟨v6, hv6⟩ : ∃ u, u = v5.setCell ⟨w.heap.size + 1, m, none⟩ (.int .i8 ((i : Int) + 1)) := ⟨_, rfl⟩
    rw [← hv6] at S7
    have d8 : v6.cell? ⟨w.heap.size + 1, 8, none⟩ = some (.int .i64 (m : Int)) := S7.out.at_ (by decide) (by rw [if_neg (by have := HM.out; omega), HM.out]; rfl)
    have f8 := S7.out.fz (j := 8) (by decide)
    have S8 := Lib.hid (S7.out.set (j := 8) (by decide) (.int .i64 ((m : Int) + 1)))
    obtain ⟨v7, hv7⟩ : ∃ u, u = v6.setCell ⟨w.heap.size + 1, 8, none⟩ (.int .i64 ((m : Int) + 1)) := ⟨_, rfl⟩
    rw [← hv7] at S8
    have h8m : m < 8 := by have := HM.out; omega
    have h8i : (m : Int) < 8 := by omega
    have FIN : Hid (StrOwn v7 (w.heap.size + 1) 0 (strOf (os ++ [(i : Int)]) ⟨y.lev, t, mz⟩)) := Lib.hid (S8.out.s.to (by rw [HM.out]; exact strOf_snoc os h8 s ⟨y.lev, t, mz⟩ i))
    have HV4 := Lib.hid hv4
    have HV5 := Lib.hid hv5
    have HV6 := Lib.hid hv6
    have HV7 := Lib.hid hv7
    have HR := Lib.hid S8.out.r
    have HBB := Lib.hid S8.out.b
    clear hv4 hv5 hv6 hv7 S4 S5 S6 S7 S8
    go_wp2_with (first
      | (rw [← HV4.out])
      | (rw [← HV5.out])
      | (rw [← HV6.out])
      | (rw [← HV7.out])
      | (refine wpl_load_str rfl (.tmp 4) rfl (w.heap.size + 1) 0 rfl FIN.out.toRowAt ?_)
      | (refine wpl_store_str rfl (.tmp 6) (.tmp 52) rfl (w.heap.size + 1 + 1) 0 rfl rfl HR.out ?_)
      | fail)
    refine bodyPost_ret (v := strV (strOf (os ++ [(i : Int)]) ⟨y.lev, t, mz⟩)) (results_stored Tryd.results60 rfl (by rw [lst_len]; exact HR.out.there) Tryd.underlying61 rfl (by rw [infoR, lst_len])) rfl ⟨rfl, ?_⟩
    exact below_cells HBB.out (by omega) _ _

set_option maxRecDepth 100000 in
set_option maxHeartbeats 4000000 in
theorem with_1 (x : Iro) (hv : iroB x = true) (A : Option Addr) (n c : Nat) (ps : List Pie) (en : n = ps.length) (hn : n ≤ 8) (hp : ps.all pieB = true) (os : List Int) (h8 : os.length < 8) (s : Sta) (hs : s.Ok os.length) (i : Nat) (hi : i < n) (w : World) (hg : Sl Pie.cells 3 w w.heap.size A ps) :
    Calls Tryd.prog 60 #[gV x A n c (.func (.func 54) #[] #[]), strV (strOf os s), .int .i64 i] w fun o w' => o = .returned (strV (strOf (os ++ [(i : Int)]) (s.step x 1 (ptv ps i)))) ∧ Below w.heap.size w w' := by
  have En := Lib.hid en
  have HV := Lib.hid hv
  have hzz : ∀ u : World, (zeroValue 61).run Tryd.prog u = .ok (.agg (strCs zeroR)) u := (zero_of_info zeroRi).1
  obtain ⟨y, hy⟩ : ∃ y, ps[i]? = some y := ⟨ps[i]'(by omega), List.getElem?_eq_getElem _⟩
  have hyv := List.all_eq_true.1 hp _ (List.mem_of_getElem? hy)
  have hptv : ptv ps (i : Int) = y := by unfold ptv; rw [List.getD_eq_getElem?_getD, Int.toNat_natCast, hy]; rfl
  rw [hptv]
  obtain ⟨⟨y0, y1⟩, ⟨y2, y3⟩, y4, y5⟩ := pieB_iff.1 hyv
  obtain ⟨a, rfl, hab, hat⟩ := hg.at_ i y hy
  obtain ⟨q0, q1, q2⟩ := pieS.at_ hat
  obtain ⟨s0, s1, s2, s3, s4, s5⟩ := hs
  obtain ⟨cz, hcz⟩ : ∃ z, chg x s.lev y.lev = z := ⟨_, rfl⟩
  have hcb := chg_bd (x := x) (a := s.lev) (b := y.lev) hv s0 s1 (by omega) y1
  rw [hcz] at hcb
  obtain ⟨hc0, hc1⟩ := hcb
  obtain ⟨t, ht⟩ : ∃ t, t = s.at_ + (cz + y.mins) := ⟨_, rfl⟩
  obtain ⟨mz, hmz⟩ : ∃ z, mea 1 s.sum y t = z := ⟨_, rfl⟩
  have ok := Sta.Ok.step (s := s) ⟨s0, s1, s2, s3, s4, s5⟩ h8 1 hv hyv
  have hst : s.step x 1 y = ⟨y.lev, t, mz⟩ := by
    unfold Sta.step
    rw [hcz, Int.add_assoc, ← ht, hmz]
  rw [hst] at ok ⊢
  have t0 : 0 ≤ t := ok.a0
  have t1 : t ≤ 240 * ((os.length + 1 : Nat) : Int) := ok.a1
  have m0 : 0 ≤ mz := ok.s0
  have m1 : mz ≤ 1920 * ((os.length + 1 : Nat) : Int) := ok.s1
  have w1 : IntKind.i64.wrap (cz + y.mins) = cz + y.mins := IntWalk.i64_in _ (by omega)
  have w2 : IntKind.i64.wrap (s.at_ + (cz + y.mins)) = t := by rw [ht]; exact IntWalk.i64_in _ (by omega)
  have w3 : IntKind.i64.wrap y.mins = y.mins := IntWalk.i64_in _ (by omega)
  have W1 := Lib.hid w1
  have W2 := Lib.hid w2
  have W3 := Lib.hid w3
  have CZ := Lib.hid hcz
  have MZ := Lib.hid hmz
  have HT := Lib.hid ht
  have HYV := Lib.hid hyv
  have HY := Lib.hid hy
  obtain ⟨m, hm⟩ : ∃ m, m = os.length := ⟨_, rfl⟩
  have HM := Lib.hid hm
  obtain ⟨u3, hu3⟩ : ∃ u, u = ((w.alloc (.cells #[.int .i8 x.up, .int .i8 x.down, .slice (some a) n c, .func (.func 54) #[] #[]] 65)).alloc (.cells (strCs (strOf os s)) 61)).alloc (.cells (strCs zeroR) 61) := ⟨_, rfl⟩
  have G3 : u3.cell? ⟨w.heap.size, 2, none⟩ = some (.slice (some a) n c) := by
    rw [hu3]
    have e1 : (w.alloc (.cells #[.int .i8 x.up, .int .i8 x.down, .slice (some a) n c, .func (.func 54) #[] #[]] 65)).heap.size = w.heap.size + 1 := by simp
    exact cell_of_row _ _ 2 _ _ _ ((heap_alloc_old _ _ (by simp; omega)).trans ((heap_alloc_old _ _ (by rw [e1]; omega)).trans (heap_alloc_new w _)))
  have B3 : Below w.heap.size w u3 := by rw [hu3]; repeat (first | exact Below.refl _ _ | assumption | apply Below.drew | (refine Below.alloc ?_ (by first | (simp; done) | (simp; omega) | omega) _) | (refine Below.setCell ?_ (by first | (simp; done) | (simp; omega) | omega) _))
  have q0 : u3.cell? (a.add (i * 3)) = some (.int .i8 y.lev) := (B3.cell (by rw [block_add]; exact hab)).trans q0
  have q1 : u3.cell? ⟨(a.add (i * 3)).block, (a.add (i * 3)).off + 1, none⟩ = some (.int .i8 y.mins) := (B3.cell (by show (a.add (i * 3)).block < _; rw [block_add]; exact hab)).trans q1
  have q2 : u3.cell? ⟨(a.add (i * 3)).block, (a.add (i * 3)).off + 2, none⟩ = some (.int .i16 y.due) := (B3.cell (by show (a.add (i * 3)).block < _; rw [block_add]; exact hab)).trans q2
  obtain ⟨u0, hu0⟩ : ∃ u, u = u3.alloc (.cells #[.int .i8 y.lev, .int .i8 y.mins, .int .i16 y.due] 42) := ⟨_, rfl⟩
  have S0 : Hid (WS x (some a) n c (.func (.func 54) #[] #[]) y w (cellR (strOf os s)) u0) := Lib.hid (by rw [hu0, hu3]; exact WS.new ..)
  have pp0 : u0.cell? ⟨u3.heap.size, 0, none⟩ = some (.int .i8 y.lev) := by rw [hu0]; exact cell_of_row _ _ _ _ _ _ (heap_alloc_new u3 _)
  have HU := Lib.hid hu0
  have HU3 := Lib.hid hu3
  have hz3 : u3.heap.size = w.heap.size + 1 + 1 + 1 := by rw [hu3]; simp
  have HZ3 := Lib.hid hz3
  clear en hv hp hy hyv hptv hat hcz hmz ht hst ok w1 w2 w3 hm hu0 hu3 hz3 B3
  go_enter Tryd.func60, Tryd.ntmps60
  go_wp2_with (first | (rw [← HU3.out]) | (rw [← HU.out]) | fail)
  rw [HZ3.out]
  clear pp0 q0 q1 q2 G3
  refine wp_region_held_drew (S := WH x y s.lev w) (by kernel_rfl) (S0.out.next (Below.refl _ _).drew).wh (fun hHeld => ?_)
  have S1 := Lib.hid (S0.out.next (Below.refl _ _).drew)
  generalize u0.drew = v0 at S1 hHeld ⊢
  clear HU HU3 HZ3 S0
  have w3 := W3.out
  refine wpAnyH_take (i := 0) (v := ?_) rfl (by kernel_rfl) (by kernel_rfl) (by kernel_rfl) (fun _ _ _ h => h) (Or.inl ⟨by rfl, ?_⟩) (by assumption) ?_
  rotate_left
  · intro u hSu
    (try dsimp only at hSu)
    first | (go_simp; done) | (go_simp; with_reducible rfl)
  try simp only [Act.put, List.getElem_toArray, List.getElem_cons_zero, List.getElem_cons_succ, List.setIfInBounds_toArray, List.set_cons_zero, List.set_cons_succ]
  refine wpAnyH_take (i := 2) (v := ?_) rfl (by kernel_rfl) (by kernel_rfl) (by kernel_rfl) (fun _ _ _ h => h) (Or.inl ⟨by rfl, ?_⟩) (by assumption) ?_
  rotate_left
  · intro u hSu
    (try dsimp only at hSu)
    first | (go_simp; done) | (go_simp; with_reducible rfl)
  try simp only [Act.put, List.getElem_toArray, List.getElem_cons_zero, List.getElem_cons_succ, List.setIfInBounds_toArray, List.set_cons_zero, List.set_cons_succ]
  refine wpAnyH_take (i := 3) (v := ?_) rfl (by kernel_rfl) (by kernel_rfl) (by kernel_rfl) (fun _ _ _ h => h) (Or.inl ⟨by rfl, ?_⟩) (by assumption) ?_
  rotate_left
  · intro u hSu
    (try dsimp only at hSu)
    first | (go_simp; done) | (go_simp; with_reducible rfl)
  try simp only [Act.put, List.getElem_toArray, List.getElem_cons_zero, List.getElem_cons_succ, List.setIfInBounds_toArray, List.set_cons_zero, List.set_cons_succ]
  refine wpAnyH_take (i := 4) (v := ?_) rfl (by kernel_rfl) (by kernel_rfl) (by kernel_rfl) (fun _ _ _ h => h) (Or.inl ⟨by rfl, ?_⟩) (by assumption) ?_
  rotate_left
  · intro u hSu
    (try dsimp only at hSu)
    first | (go_simp; done) | (go_simp; with_reducible rfl)
  try simp only [Act.put, List.getElem_toArray, List.getElem_cons_zero, List.getElem_cons_succ, List.setIfInBounds_toArray, List.set_cons_zero, List.set_cons_succ]
  refine wpAnyH_take (i := 5) (v := ?_) rfl (by kernel_rfl) (by kernel_rfl) (by kernel_rfl) (fun _ _ _ h => h) (Or.inl ⟨by rfl, ?_⟩) (by assumption) ?_
  rotate_left
  · intro u hSu
    (try dsimp only at hSu)
    first | (go_simp; done) | (go_simp; with_reducible rfl)
  try simp only [Act.put, List.getElem_toArray, List.getElem_cons_zero, List.getElem_cons_succ, List.setIfInBounds_toArray, List.set_cons_zero, List.set_cons_succ]
  refine wpAnyH_take (i := 6) (v := ?_) rfl (by kernel_rfl) (by kernel_rfl) (by kernel_rfl) (fun _ _ _ h => h) (Or.inl ⟨by rfl, ?_⟩) (by assumption) ?_
  rotate_left
  · intro u hSu
    (try dsimp only at hSu)
    first | (go_simp; done) | (go_simp; with_reducible rfl)
  try simp only [Act.put, List.getElem_toArray, List.getElem_cons_zero, List.getElem_cons_succ, List.setIfInBounds_toArray, List.set_cons_zero, List.set_cons_succ]
  refine wpAnyH_take (i := 8) (v := ?_) rfl (by kernel_rfl) (by kernel_rfl) (by kernel_rfl) (fun _ _ _ h => h) (Or.inl ⟨by rfl, ?_⟩) (by assumption) ?_
  rotate_left
  · intro u hSu
    (try dsimp only at hSu)
    first | (go_simp; done) | (go_simp; with_reducible rfl)
  try simp only [Act.put, List.getElem_toArray, List.getElem_cons_zero, List.getElem_cons_succ, List.setIfInBounds_toArray, List.set_cons_zero, List.set_cons_succ]
  refine wpAnyH_take (i := 9) (v := ?_) rfl (by kernel_rfl) (by kernel_rfl) (by kernel_rfl) (fun _ _ _ h => h) (Or.inl ⟨by rfl, ?_⟩) (by assumption) ?_
  rotate_left
  · intro u hSu
    (try dsimp only at hSu)
    first | (go_simp; done) | (go_simp; with_reducible rfl)
  try simp only [Act.put, List.getElem_toArray, List.getElem_cons_zero, List.getElem_cons_succ, List.setIfInBounds_toArray, List.set_cons_zero, List.set_cons_succ]
  refine wpAnyH_take (i := 10) (v := ?_) rfl (by kernel_rfl) (by kernel_rfl) (by kernel_rfl) (fun _ _ _ h => h) (Or.inl ⟨by rfl, ?_⟩) (by assumption) ?_
  rotate_left
  · intro u hSu
    (try dsimp only at hSu)
    first | (go_simp; done) | (go_simp; with_reducible rfl)
  try simp only [Act.put, List.getElem_toArray, List.getElem_cons_zero, List.getElem_cons_succ, List.setIfInBounds_toArray, List.set_cons_zero, List.set_cons_succ]
  clear w3
  have c10 : v0.cell? ⟨w.heap.size + 1, 10, none⟩ = some (.int .i64 s.at_) := S1.out.at_ (by decide) rfl
  refine wpAnyH_ready (rs := [1, 7]) (by kernel_rfl) (by simp) ?_
  refine AllReadyH.cons rfl (fun K hK => ?_) (AllReadyH.cons rfl (fun K hK => ?_) AllReadyH.nil)
  · go_simp
    refine hK.out _ _ (hHeld) (fun hHeld2 => ?_)
    clear hK K hHeld
    have hHeld := hHeld2
    clear hHeld2
    try simp only [Act.put, List.getElem_toArray, List.getElem_cons_zero, List.getElem_cons_succ, List.setIfInBounds_toArray, List.set_cons_zero, List.set_cons_succ]
    refine wpAnyH_ready (rs := [7]) (by kernel_rfl) (by simp) ?_
    refine AllReadyH.cons rfl (fun K hK => ?_) AllReadyH.nil
    go_simp
    refine (timeTo_any x HV.out s.lev y.lev s0 s1 (by omega) y1 _ CZ.out _).mono ?_
    rintro o v1 ⟨rfl, hb1⟩
    have S2 := Lib.hid (S1.out.next hb1)
    clear hb1 c10
    refine hK.out _ _ (S2.out.wh) (fun hHeld2 => ?_)
    clear hK K hHeld
    have hHeld := hHeld2
    clear hHeld2
    try simp only [Act.put, List.getElem_toArray, List.getElem_cons_zero, List.getElem_cons_succ, List.setIfInBounds_toArray, List.set_cons_zero, List.set_cons_succ]
    have w1 := W1.out
    refine wpAnyH_take (i := 11) (v := ?_) rfl (by kernel_rfl) (by kernel_rfl) (by kernel_rfl) (fun _ _ _ h => h) (Or.inl ⟨by rfl, ?_⟩) (by assumption) ?_
    rotate_left
    · intro u hSu
      (try dsimp only at hSu)
      first | (go_simp; done) | (go_simp; with_reducible rfl)
    try simp only [Act.put, List.getElem_toArray, List.getElem_cons_zero, List.getElem_cons_succ, List.setIfInBounds_toArray, List.set_cons_zero, List.set_cons_succ]
    clear w1
    have w2 := W2.out
    refine wpAnyH_take (i := 12) (v := ?_) rfl (by kernel_rfl) (by kernel_rfl) (by kernel_rfl) (fun _ _ _ h => h) (Or.inl ⟨by rfl, ?_⟩) (by assumption) ?_
    rotate_left
    · intro u hSu
      (try dsimp only at hSu)
      first | (go_simp; done) | (go_simp; with_reducible rfl)
    try simp only [Act.put, List.getElem_toArray, List.getElem_cons_zero, List.getElem_cons_succ, List.setIfInBounds_toArray, List.set_cons_zero, List.set_cons_succ]
    clear w2
    refine wpAnyH_take (i := 13) (v := ?_) rfl (by kernel_rfl) (by kernel_rfl) (by kernel_rfl) (fun _ _ _ h => h) (Or.inl ⟨by rfl, ?_⟩) (by assumption) ?_
    rotate_left
    · intro u hSu
      (try dsimp only at hSu)
      first | (go_simp; done) | (go_simp; with_reducible rfl)
    try simp only [Act.put, List.getElem_toArray, List.getElem_cons_zero, List.getElem_cons_succ, List.setIfInBounds_toArray, List.set_cons_zero, List.set_cons_succ]
    have c10 : v1.cell? ⟨w.heap.size + 1, 10, none⟩ = some (.int .i64 s.at_) := S2.out.at_ (by decide) rfl
    have f10 := S2.out.fz (j := 10) (by decide)
    refine wpAnyH_ready (rs := [14]) (by kernel_rfl) (by simp) ?_
    refine AllReadyH.cons rfl (fun K hK => ?_) AllReadyH.nil
    go_simp
    have S3 := Lib.hid (S2.out.set (j := 10) (by decide) (.int .i64 t))
    generalize v1.setCell ⟨w.heap.size + 1, 10, none⟩ (.int .i64 t) = v2 at S3 ⊢
    clear c10 f10 S1 S2
    refine hK.out _ _ (⟨S3.out.g0, S3.out.g1, S3.out.at_ (by decide) rfl, S3.out.p1⟩) (fun hHeld2 => ?_)
    clear hK K hHeld
    have hHeld := hHeld2
    clear hHeld2
    try simp only [Act.put, List.getElem_toArray, List.getElem_cons_zero, List.getElem_cons_succ, List.setIfInBounds_toArray, List.set_cons_zero, List.set_cons_succ]
    refine wpAnyH_done (by kernel_rfl) ?_ _
    clear hHeld
    have c10 : v2.cell? ⟨w.heap.size + 1, 10, none⟩ = some (.int .i64 t) := S3.out.at_ (by decide) rfl
    have c11 : v2.cell? ⟨w.heap.size + 1, 11, none⟩ = some (.int .i64 s.sum) := S3.out.at_ (by decide) rfl
    have g3 := S3.out.g3
    have p0 := S3.out.p0
    have p1 := S3.out.p1
    have p2 := S3.out.p2
    go_wp2_with fail
    refine (mea_1 s.sum y HYV.out t s4 (by omega) t0 (by omega) _ MZ.out _).mono ?_
    rintro o v3 ⟨rfl, hb3⟩
    have S4 := Lib.hid (S3.out.next hb3)
    clear c10 c11 g3 p0 p1 p2 hb3 S3
    have c11 : v3.cell? ⟨w.heap.size + 1, 11, none⟩ = some (.int .i64 s.sum) := S4.out.at_ (by decide) rfl
    have f11 := S4.out.fz (j := 11) (by decide)
    have S5 := Lib.hid (S4.out.set (j := 11) (by decide) (.int .i64 mz))
    obtain ⟨v4, hv4⟩ : ∃ u, u = v3.setCell ⟨w.heap.size + 1, 11, none⟩ (.int .i64 mz) := ⟨_, rfl⟩
    rw [← hv4] at S5
    have c9 : v4.cell? ⟨w.heap.size + 1, 9, none⟩ = some (.int .i8 s.lev) := S5.out.at_ (by decide) rfl
    have f9 := S5.out.fz (j := 9) (by decide)
    have S6 := Lib.hid (S5.out.set (j := 9) (by decide) (.int .i8 y.lev))
    obtain ⟨v5, hv5⟩ : ∃ u, u = v4.setCell ⟨w.heap.size + 1, 9, none⟩ (.int .i8 y.lev) := ⟨_, rfl⟩
    rw [← hv5] at S6
    have c8 : v5.cell? ⟨w.heap.size + 1, 8, none⟩ = some (.int .i64 (m : Int)) := S6.out.at_ (by decide) (by rw [HM.out]; rfl)
    have cm : v5.cell? ⟨w.heap.size + 1, m, none⟩ = some (cellR (strOf os s) m) := S6.out.at_ (by have := HM.out; omega) (by rw [if_neg (by have := HM.out; omega), if_neg (by have := HM.out; omega), if_neg (by have := HM.out; omega)])
    have fm := S6.out.fz (j := m) (by have := HM.out; omega)
    have S7 := Lib.hid (S6.out.set (j := m) (by have := HM.out; omega) (.int .i8 ((i : Int) + 1)))
    obtain ⟨v6, hv6⟩ : ∃ u, u = v5.setCell ⟨w.heap.size + 1, m, none⟩ (.int .i8 ((i : Int) + 1)) := ⟨_, rfl⟩
    rw [← hv6] at S7
    have d8 : v6.cell? ⟨w.heap.size + 1, 8, none⟩ = some (.int .i64 (m : Int)) := S7.out.at_ (by decide) (by rw [if_neg (by have := HM.out; omega), HM.out]; rfl)
    have f8 := S7.out.fz (j := 8) (by decide)
    have S8 := Lib.hid (S7.out.set (j := 8) (by decide) (.int .i64 ((m : Int) + 1)))
    obtain ⟨v7, hv7⟩ : ∃ u, u = v6.setCell ⟨w.heap.size + 1, 8, none⟩ (.int .i64 ((m : Int) + 1)) := ⟨_, rfl⟩
    rw [← hv7] at S8
    have h8m : m < 8 := by have := HM.out; omega
    have h8i : (m : Int) < 8 := by omega
    have FIN : Hid (StrOwn v7 (w.heap.size + 1) 0 (strOf (os ++ [(i : Int)]) ⟨y.lev, t, mz⟩)) := Lib.hid (S8.out.s.to (by rw [HM.out]; exact strOf_snoc os h8 s ⟨y.lev, t, mz⟩ i))
    have HV4 := Lib.hid hv4
    have HV5 := Lib.hid hv5
    have HV6 := Lib.hid hv6
    have HV7 := Lib.hid hv7
    have HR := Lib.hid S8.out.r
    have HBB := Lib.hid S8.out.b
    clear hv4 hv5 hv6 hv7 S4 S5 S6 S7 S8
    go_wp2_with (first
      | (rw [← HV4.out])
      | (rw [← HV5.out])
      | (rw [← HV6.out])
      | (rw [← HV7.out])
      | (refine wpl_load_str rfl (.tmp 4) rfl (w.heap.size + 1) 0 rfl FIN.out.toRowAt ?_)
      | (refine wpl_store_str rfl (.tmp 6) (.tmp 52) rfl (w.heap.size + 1 + 1) 0 rfl rfl HR.out ?_)
      | fail)
    refine bodyPost_ret (v := strV (strOf (os ++ [(i : Int)]) ⟨y.lev, t, mz⟩)) (results_stored Tryd.results60 rfl (by rw [lst_len]; exact HR.out.there) Tryd.underlying61 rfl (by rw [infoR, lst_len])) rfl ⟨rfl, ?_⟩
    exact below_cells HBB.out (by omega) _ _
  · go_simp
    refine (timeTo_any x HV.out s.lev y.lev s0 s1 (by omega) y1 _ CZ.out _).mono ?_
    rintro o v1 ⟨rfl, hb1⟩
    have S2 := Lib.hid (S1.out.next hb1)
    clear hb1 c10
    refine hK.out _ _ (S2.out.wh) (fun hHeld2 => ?_)
    clear hK K hHeld
    have hHeld := hHeld2
    clear hHeld2
    try simp only [Act.put, List.getElem_toArray, List.getElem_cons_zero, List.getElem_cons_succ, List.setIfInBounds_toArray, List.set_cons_zero, List.set_cons_succ]
    have w1 := W1.out
    refine wpAnyH_take (i := 11) (v := ?_) rfl (by kernel_rfl) (by kernel_rfl) (by kernel_rfl) (fun _ _ _ h => h) (Or.inl ⟨by rfl, ?_⟩) (by assumption) ?_
    rotate_left
    · intro u hSu
      (try dsimp only at hSu)
      first | (go_simp; done) | (go_simp; with_reducible rfl)
    try simp only [Act.put, List.getElem_toArray, List.getElem_cons_zero, List.getElem_cons_succ, List.setIfInBounds_toArray, List.set_cons_zero, List.set_cons_succ]
    clear w1
    have c10 : v1.cell? ⟨w.heap.size + 1, 10, none⟩ = some (.int .i64 s.at_) := S2.out.at_ (by decide) rfl
    refine wpAnyH_ready (rs := [1]) (by kernel_rfl) (by simp) ?_
    refine AllReadyH.cons rfl (fun K hK => ?_) AllReadyH.nil
    go_simp
    refine hK.out _ _ (hHeld) (fun hHeld2 => ?_)
    clear hK K hHeld
    have hHeld := hHeld2
    clear hHeld2
    try simp only [Act.put, List.getElem_toArray, List.getElem_cons_zero, List.getElem_cons_succ, List.setIfInBounds_toArray, List.set_cons_zero, List.set_cons_succ]
    clear c10
    have w2 := W2.out
    refine wpAnyH_take (i := 12) (v := ?_) rfl (by kernel_rfl) (by kernel_rfl) (by kernel_rfl) (fun _ _ _ h => h) (Or.inl ⟨by rfl, ?_⟩) (by assumption) ?_
    rotate_left
    · intro u hSu
      (try dsimp only at hSu)
      first | (go_simp; done) | (go_simp; with_reducible rfl)
    try simp only [Act.put, List.getElem_toArray, List.getElem_cons_zero, List.getElem_cons_succ, List.setIfInBounds_toArray, List.set_cons_zero, List.set_cons_succ]
    clear w2
    refine wpAnyH_take (i := 13) (v := ?_) rfl (by kernel_rfl) (by kernel_rfl) (by kernel_rfl) (fun _ _ _ h => h) (Or.inl ⟨by rfl, ?_⟩) (by assumption) ?_
    rotate_left
    · intro u hSu
      (try dsimp only at hSu)
      first | (go_simp; done) | (go_simp; with_reducible rfl)
    try simp only [Act.put, List.getElem_toArray, List.getElem_cons_zero, List.getElem_cons_succ, List.setIfInBounds_toArray, List.set_cons_zero, List.set_cons_succ]
    have c10 : v1.cell? ⟨w.heap.size + 1, 10, none⟩ = some (.int .i64 s.at_) := S2.out.at_ (by decide) rfl
    have f10 := S2.out.fz (j := 10) (by decide)
    refine wpAnyH_ready (rs := [14]) (by kernel_rfl) (by simp) ?_
    refine AllReadyH.cons rfl (fun K hK => ?_) AllReadyH.nil
    go_simp
    have S3 := Lib.hid (S2.out.set (j := 10) (by decide) (.int .i64 t))
    generalize v1.setCell ⟨w.heap.size + 1, 10, none⟩ (.int .i64 t) = v2 at S3 ⊢
    clear c10 f10 S1 S2
    refine hK.out _ _ (⟨S3.out.g0, S3.out.g1, S3.out.at_ (by decide) rfl, S3.out.p1⟩) (fun hHeld2 => ?_)
    clear hK K hHeld
    have hHeld := hHeld2
    clear hHeld2
    try simp only [Act.put, List.getElem_toArray, List.getElem_cons_zero, List.getElem_cons_succ, List.setIfInBounds_toArray, List.set_cons_zero, List.set_cons_succ]
    refine wpAnyH_done (by kernel_rfl) ?_ _
    clear hHeld
    have c10 : v2.cell? ⟨w.heap.size + 1, 10, none⟩ = some (.int .i64 t) := S3.out.at_ (by decide) rfl
    have c11 : v2.cell? ⟨w.heap.size + 1, 11, none⟩ = some (.int .i64 s.sum) := S3.out.at_ (by decide) rfl
    have g3 := S3.out.g3
    have p0 := S3.out.p0
    have p1 := S3.out.p1
    have p2 := S3.out.p2
    go_wp2_with fail
    refine (mea_1 s.sum y HYV.out t s4 (by omega) t0 (by omega) _ MZ.out _).mono ?_
    rintro o v3 ⟨rfl, hb3⟩
    have S4 := Lib.hid (S3.out.next hb3)
    clear c10 c11 g3 p0 p1 p2 hb3 S3
    have c11 : v3.cell? ⟨w.heap.size + 1, 11, none⟩ = some (.int .i64 s.sum) := S4.out.at_ (by decide) rfl
    have f11 := S4.out.fz (j := 11) (by decide)
    have S5 := Lib.hid (S4.out.set (j := 11) (by decide) (.int .i64 mz))
    obtain ⟨v4, hv4⟩ : ∃ u, u = v3.setCell ⟨w.heap.size + 1, 11, none⟩ (.int .i64 mz) := ⟨_, rfl⟩
    rw [← hv4] at S5
    have c9 : v4.cell? ⟨w.heap.size + 1, 9, none⟩ = some (.int .i8 s.lev) := S5.out.at_ (by decide) rfl
    have f9 := S5.out.fz (j := 9) (by decide)
    have S6 := Lib.hid (S5.out.set (j := 9) (by decide) (.int .i8 y.lev))
    obtain ⟨v5, hv5⟩ : ∃ u, u = v4.setCell ⟨w.heap.size + 1, 9, none⟩ (.int .i8 y.lev) := ⟨_, rfl⟩
    rw [← hv5] at S6
    have c8 : v5.cell? ⟨w.heap.size + 1, 8, none⟩ = some (.int .i64 (m : Int)) := S6.out.at_ (by decide) (by rw [HM.out]; rfl)
    have cm : v5.cell? ⟨w.heap.size + 1, m, none⟩ = some (cellR (strOf os s) m) := S6.out.at_ (by have := HM.out; omega) (by rw [if_neg (by have := HM.out; omega), if_neg (by have := HM.out; omega), if_neg (by have := HM.out; omega)])
    have fm := S6.out.fz (j := m) (by have := HM.out; omega)
    have S7 := Lib.hid (S6.out.set (j := m) (by have := HM.out; omega) (.int .i8 ((i : Int) + 1)))
    obtain ⟨v6, hv6⟩ : ∃ u, u = v5.setCell ⟨w.heap.size + 1, m, none⟩ (.int .i8 ((i : Int) + 1)) := ⟨_, rfl⟩
    rw [← hv6] at S7
    have d8 : v6.cell? ⟨w.heap.size + 1, 8, none⟩ = some (.int .i64 (m : Int)) := S7.out.at_ (by decide) (by rw [if_neg (by have := HM.out; omega), HM.out]; rfl)
    have f8 := S7.out.fz (j := 8) (by decide)
    have S8 := Lib.hid (S7.out.set (j := 8) (by decide) (.int .i64 ((m : Int) + 1)))
    obtain ⟨v7, hv7⟩ : ∃ u, u = v6.setCell ⟨w.heap.size + 1, 8, none⟩ (.int .i64 ((m : Int) + 1)) := ⟨_, rfl⟩
    rw [← hv7] at S8
    have h8m : m < 8 := by have := HM.out; omega
    have h8i : (m : Int) < 8 := by omega
    have FIN : Hid (StrOwn v7 (w.heap.size + 1) 0 (strOf (os ++ [(i : Int)]) ⟨y.lev, t, mz⟩)) := Lib.hid (S8.out.s.to (by rw [HM.out]; exact strOf_snoc os h8 s ⟨y.lev, t, mz⟩ i))
    have HV4 := Lib.hid hv4
    have HV5 := Lib.hid hv5
    have HV6 := Lib.hid hv6
    have HV7 := Lib.hid hv7
    have HR := Lib.hid S8.out.r
    have HBB := Lib.hid S8.out.b
    clear hv4 hv5 hv6 hv7 S4 S5 S6 S7 S8
    go_wp2_with (first
      | (rw [← HV4.out])
      | (rw [← HV5.out])
      | (rw [← HV6.out])
      | (rw [← HV7.out])
      | (refine wpl_load_str rfl (.tmp 4) rfl (w.heap.size + 1) 0 rfl FIN.out.toRowAt ?_)
      | (refine wpl_store_str rfl (.tmp 6) (.tmp 52) rfl (w.heap.size + 1 + 1) 0 rfl rfl HR.out ?_)
      | fail)
    refine bodyPost_ret (v := strV (strOf (os ++ [(i : Int)]) ⟨y.lev, t, mz⟩)) (results_stored Tryd.results60 rfl (by rw [lst_len]; exact HR.out.there) Tryd.underlying61 rfl (by rw [infoR, lst_len])) rfl ⟨rfl, ?_⟩
    exact below_cells HBB.out (by omega) _ _

set_option maxRecDepth 100000 in
set_option maxHeartbeats 4000000 in
theorem with_2 (x : Iro) (hv : iroB x = true) (A : Option Addr) (n c : Nat) (ps : List Pie) (en : n = ps.length) (hn : n ≤ 8) (hp : ps.all pieB = true) (os : List Int) (h8 : os.length < 8) (s : Sta) (hs : s.Ok os.length) (i : Nat) (hi : i < n) (w : World) (hg : Sl Pie.cells 3 w w.heap.size A ps) :
    Calls Tryd.prog 60 #[gV x A n c (.func (.func 56) #[] #[]), strV (strOf os s), .int .i64 i] w fun o w' => o = .returned (strV (strOf (os ++ [(i : Int)]) (s.step x 2 (ptv ps i)))) ∧ Below w.heap.size w w' := by
  have En := Lib.hid en
  have HV := Lib.hid hv
  have hzz : ∀ u : World, (zeroValue 61).run Tryd.prog u = .ok (.agg (strCs zeroR)) u := (zero_of_info zeroRi).1
  obtain ⟨y, hy⟩ : ∃ y, ps[i]? = some y := ⟨ps[i]'(by omega), List.getElem?_eq_getElem _⟩
  have hyv := List.all_eq_true.1 hp _ (List.mem_of_getElem? hy)
  have hptv : ptv ps (i : Int) = y := by unfold ptv; rw [List.getD_eq_getElem?_getD, Int.toNat_natCast, hy]; rfl
  rw [hptv]
  obtain ⟨⟨y0, y1⟩, ⟨y2, y3⟩, y4, y5⟩ := pieB_iff.1 hyv
  obtain ⟨a, rfl, hab, hat⟩ := hg.at_ i y hy
  obtain ⟨q0, q1, q2⟩ := pieS.at_ hat
  obtain ⟨s0, s1, s2, s3, s4, s5⟩ := hs
  obtain ⟨cz, hcz⟩ : ∃ z, chg x s.lev y.lev = z := ⟨_, rfl⟩
  have hcb := chg_bd (x := x) (a := s.lev) (b := y.lev) hv s0 s1 (by omega) y1
  rw [hcz] at hcb
  obtain ⟨hc0, hc1⟩ := hcb
  obtain ⟨t, ht⟩ : ∃ t, t = s.at_ + (cz + y.mins) := ⟨_, rfl⟩
  obtain ⟨mz, hmz⟩ : ∃ z, mea 2 s.sum y t = z := ⟨_, rfl⟩
  have ok := Sta.Ok.step (s := s) ⟨s0, s1, s2, s3, s4, s5⟩ h8 2 hv hyv
  have hst : s.step x 2 y = ⟨y.lev, t, mz⟩ := by
    unfold Sta.step
    rw [hcz, Int.add_assoc, ← ht, hmz]
  rw [hst] at ok ⊢
  have t0 : 0 ≤ t := ok.a0
  have t1 : t ≤ 240 * ((os.length + 1 : Nat) : Int) := ok.a1
  have m0 : 0 ≤ mz := ok.s0
  have m1 : mz ≤ 1920 * ((os.length + 1 : Nat) : Int) := ok.s1
  have w1 : IntKind.i64.wrap (cz + y.mins) = cz + y.mins := IntWalk.i64_in _ (by omega)
  have w2 : IntKind.i64.wrap (s.at_ + (cz + y.mins)) = t := by rw [ht]; exact IntWalk.i64_in _ (by omega)
  have w3 : IntKind.i64.wrap y.mins = y.mins := IntWalk.i64_in _ (by omega)
  have W1 := Lib.hid w1
  have W2 := Lib.hid w2
  have W3 := Lib.hid w3
  have CZ := Lib.hid hcz
  have MZ := Lib.hid hmz
  have HT := Lib.hid ht
  have HYV := Lib.hid hyv
  have HY := Lib.hid hy
  obtain ⟨m, hm⟩ : ∃ m, m = os.length := ⟨_, rfl⟩
  have HM := Lib.hid hm
  obtain ⟨u3, hu3⟩ : ∃ u, u = ((w.alloc (.cells #[.int .i8 x.up, .int .i8 x.down, .slice (some a) n c, .func (.func 56) #[] #[]] 65)).alloc (.cells (strCs (strOf os s)) 61)).alloc (.cells (strCs zeroR) 61) := ⟨_, rfl⟩
  have G3 : u3.cell? ⟨w.heap.size, 2, none⟩ = some (.slice (some a) n c) := by
    rw [hu3]
    have e1 : (w.alloc (.cells #[.int .i8 x.up, .int .i8 x.down, .slice (some a) n c, .func (.func 56) #[] #[]] 65)).heap.size = w.heap.size + 1 := by simp
    exact cell_of_row _ _ 2 _ _ _ ((heap_alloc_old _ _ (by simp; omega)).trans ((heap_alloc_old _ _ (by rw [e1]; omega)).trans (heap_alloc_new w _)))
  have B3 : Below w.heap.size w u3 := by rw [hu3]; repeat (first | exact Below.refl _ _ | assumption | apply Below.drew | (refine Below.alloc ?_ (by first | (simp; done) | (simp; omega) | omega) _) | (refine Below.setCell ?_ (by first | (simp; done) | (simp; omega) | omega) _))
  have q0 : u3.cell? (a.add (i * 3)) = some (.int .i8 y.lev) := (B3.cell (by rw [block_add]; exact hab)).trans q0
  have q1 : u3.cell? ⟨(a.add (i * 3)).block, (a.add (i * 3)).off + 1, none⟩ = some (.int .i8 y.mins) := (B3.cell (by show (a.add (i * 3)).block < _; rw [block_add]; exact hab)).trans q1
  have q2 : u3.cell? ⟨(a.add (i * 3)).block, (a.add (i * 3)).off + 2, none⟩ = some (.int .i16 y.due) := (B3.cell (by show (a.add (i * 3)).block < _; rw [block_add]; exact hab)).trans q2
  obtain ⟨u0, hu0⟩ : ∃ u, u = u3.alloc (.cells #[.int .i8 y.lev, .int .i8 y.mins, .int .i16 y.due] 42) := ⟨_, rfl⟩
  have S0 : Hid (WS x (some a) n c (.func (.func 56) #[] #[]) y w (cellR (strOf os s)) u0) := Lib.hid (by rw [hu0, hu3]; exact WS.new ..)
  have pp0 : u0.cell? ⟨u3.heap.size, 0, none⟩ = some (.int .i8 y.lev) := by rw [hu0]; exact cell_of_row _ _ _ _ _ _ (heap_alloc_new u3 _)
  have HU := Lib.hid hu0
  have HU3 := Lib.hid hu3
  have hz3 : u3.heap.size = w.heap.size + 1 + 1 + 1 := by rw [hu3]; simp
  have HZ3 := Lib.hid hz3
  clear en hv hp hy hyv hptv hat hcz hmz ht hst ok w1 w2 w3 hm hu0 hu3 hz3 B3
  go_enter Tryd.func60, Tryd.ntmps60
  go_wp2_with (first | (rw [← HU3.out]) | (rw [← HU.out]) | fail)
  rw [HZ3.out]
  clear pp0 q0 q1 q2 G3
  refine wp_region_held_drew (S := WH x y s.lev w) (by kernel_rfl) (S0.out.next (Below.refl _ _).drew).wh (fun hHeld => ?_)
  have S1 := Lib.hid (S0.out.next (Below.refl _ _).drew)
  generalize u0.drew = v0 at S1 hHeld ⊢
  clear HU HU3 HZ3 S0
  have w3 := W3.out
  refine wpAnyH_take (i := 0) (v := ?_) rfl (by kernel_rfl) (by kernel_rfl) (by kernel_rfl) (fun _ _ _ h => h) (Or.inl ⟨by rfl, ?_⟩) (by assumption) ?_
  rotate_left
  · intro u hSu
    (try dsimp only at hSu)
    first | (go_simp; done) | (go_simp; with_reducible rfl)
  try simp only [Act.put, List.getElem_toArray, List.getElem_cons_zero, List.getElem_cons_succ, List.setIfInBounds_toArray, List.set_cons_zero, List.set_cons_succ]
  refine wpAnyH_take (i := 2) (v := ?_) rfl (by kernel_rfl) (by kernel_rfl) (by kernel_rfl) (fun _ _ _ h => h) (Or.inl ⟨by rfl, ?_⟩) (by assumption) ?_
  rotate_left
  · intro u hSu
    (try dsimp only at hSu)
    first | (go_simp; done) | (go_simp; with_reducible rfl)
  try simp only [Act.put, List.getElem_toArray, List.getElem_cons_zero, List.getElem_cons_succ, List.setIfInBounds_toArray, List.set_cons_zero, List.set_cons_succ]
  refine wpAnyH_take (i := 3) (v := ?_) rfl (by kernel_rfl) (by kernel_rfl) (by kernel_rfl) (fun _ _ _ h => h) (Or.inl ⟨by rfl, ?_⟩) (by assumption) ?_
  rotate_left
  · intro u hSu
    (try dsimp only at hSu)
    first | (go_simp; done) | (go_simp; with_reducible rfl)
  try simp only [Act.put, List.getElem_toArray, List.getElem_cons_zero, List.getElem_cons_succ, List.setIfInBounds_toArray, List.set_cons_zero, List.set_cons_succ]
  refine wpAnyH_take (i := 4) (v := ?_) rfl (by kernel_rfl) (by kernel_rfl) (by kernel_rfl) (fun _ _ _ h => h) (Or.inl ⟨by rfl, ?_⟩) (by assumption) ?_
  rotate_left
  · intro u hSu
    (try dsimp only at hSu)
    first | (go_simp; done) | (go_simp; with_reducible rfl)
  try simp only [Act.put, List.getElem_toArray, List.getElem_cons_zero, List.getElem_cons_succ, List.setIfInBounds_toArray, List.set_cons_zero, List.set_cons_succ]
  refine wpAnyH_take (i := 5) (v := ?_) rfl (by kernel_rfl) (by kernel_rfl) (by kernel_rfl) (fun _ _ _ h => h) (Or.inl ⟨by rfl, ?_⟩) (by assumption) ?_
  rotate_left
  · intro u hSu
    (try dsimp only at hSu)
    first | (go_simp; done) | (go_simp; with_reducible rfl)
  try simp only [Act.put, List.getElem_toArray, List.getElem_cons_zero, List.getElem_cons_succ, List.setIfInBounds_toArray, List.set_cons_zero, List.set_cons_succ]
  refine wpAnyH_take (i := 6) (v := ?_) rfl (by kernel_rfl) (by kernel_rfl) (by kernel_rfl) (fun _ _ _ h => h) (Or.inl ⟨by rfl, ?_⟩) (by assumption) ?_
  rotate_left
  · intro u hSu
    (try dsimp only at hSu)
    first | (go_simp; done) | (go_simp; with_reducible rfl)
  try simp only [Act.put, List.getElem_toArray, List.getElem_cons_zero, List.getElem_cons_succ, List.setIfInBounds_toArray, List.set_cons_zero, List.set_cons_succ]
  refine wpAnyH_take (i := 8) (v := ?_) rfl (by kernel_rfl) (by kernel_rfl) (by kernel_rfl) (fun _ _ _ h => h) (Or.inl ⟨by rfl, ?_⟩) (by assumption) ?_
  rotate_left
  · intro u hSu
    (try dsimp only at hSu)
    first | (go_simp; done) | (go_simp; with_reducible rfl)
  try simp only [Act.put, List.getElem_toArray, List.getElem_cons_zero, List.getElem_cons_succ, List.setIfInBounds_toArray, List.set_cons_zero, List.set_cons_succ]
  refine wpAnyH_take (i := 9) (v := ?_) rfl (by kernel_rfl) (by kernel_rfl) (by kernel_rfl) (fun _ _ _ h => h) (Or.inl ⟨by rfl, ?_⟩) (by assumption) ?_
  rotate_left
  · intro u hSu
    (try dsimp only at hSu)
    first | (go_simp; done) | (go_simp; with_reducible rfl)
  try simp only [Act.put, List.getElem_toArray, List.getElem_cons_zero, List.getElem_cons_succ, List.setIfInBounds_toArray, List.set_cons_zero, List.set_cons_succ]
  refine wpAnyH_take (i := 10) (v := ?_) rfl (by kernel_rfl) (by kernel_rfl) (by kernel_rfl) (fun _ _ _ h => h) (Or.inl ⟨by rfl, ?_⟩) (by assumption) ?_
  rotate_left
  · intro u hSu
    (try dsimp only at hSu)
    first | (go_simp; done) | (go_simp; with_reducible rfl)
  try simp only [Act.put, List.getElem_toArray, List.getElem_cons_zero, List.getElem_cons_succ, List.setIfInBounds_toArray, List.set_cons_zero, List.set_cons_succ]
  clear w3
  have c10 : v0.cell? ⟨w.heap.size + 1, 10, none⟩ = some (.int .i64 s.at_) := S1.out.at_ (by decide) rfl
  refine wpAnyH_ready (rs := [1, 7]) (by kernel_rfl) (by simp) ?_
  refine AllReadyH.cons rfl (fun K hK => ?_) (AllReadyH.cons rfl (fun K hK => ?_) AllReadyH.nil)
  · go_simp
    refine hK.out _ _ (hHeld) (fun hHeld2 => ?_)
    clear hK K hHeld
    have hHeld := hHeld2
    clear hHeld2
    try simp only [Act.put, List.getElem_toArray, List.getElem_cons_zero, List.getElem_cons_succ, List.setIfInBounds_toArray, List.set_cons_zero, List.set_cons_succ]
    refine wpAnyH_ready (rs := [7]) (by kernel_rfl) (by simp) ?_
    refine AllReadyH.cons rfl (fun K hK => ?_) AllReadyH.nil
    go_simp
    refine (timeTo_any x HV.out s.lev y.lev s0 s1 (by omega) y1 _ CZ.out _).mono ?_
    rintro o v1 ⟨rfl, hb1⟩
    have S2 := Lib.hid (S1.out.next hb1)
    clear hb1 c10
    refine hK.out _ _ (S2.out.wh) (fun hHeld2 => ?_)
    clear hK K hHeld
    have hHeld := hHeld2
    clear hHeld2
    try simp only [Act.put, List.getElem_toArray, List.getElem_cons_zero, List.getElem_cons_succ, List.setIfInBounds_toArray, List.set_cons_zero, List.set_cons_succ]
    have w1 := W1.out
    refine wpAnyH_take (i := 11) (v := ?_) rfl (by kernel_rfl) (by kernel_rfl) (by kernel_rfl) (fun _ _ _ h => h) (Or.inl ⟨by rfl, ?_⟩) (by assumption) ?_
    rotate_left
    · intro u hSu
      (try dsimp only at hSu)
      first | (go_simp; done) | (go_simp; with_reducible rfl)
    try simp only [Act.put, List.getElem_toArray, List.getElem_cons_zero, List.getElem_cons_succ, List.setIfInBounds_toArray, List.set_cons_zero, List.set_cons_succ]
    clear w1
    have w2 := W2.out
    refine wpAnyH_take (i := 12) (v := ?_) rfl (by kernel_rfl) (by kernel_rfl) (by kernel_rfl) (fun _ _ _ h => h) (Or.inl ⟨by rfl, ?_⟩) (by assumption) ?_
    rotate_left
    · intro u hSu
      (try dsimp only at hSu)
      first | (go_simp; done) | (go_simp; with_reducible rfl)
    try simp only [Act.put, List.getElem_toArray, List.getElem_cons_zero, List.getElem_cons_succ, List.setIfInBounds_toArray, List.set_cons_zero, List.set_cons_succ]
    clear w2
    refine wpAnyH_take (i := 13) (v := ?_) rfl (by kernel_rfl) (by kernel_rfl) (by kernel_rfl) (fun _ _ _ h => h) (Or.inl ⟨by rfl, ?_⟩) (by assumption) ?_
    rotate_left
    · intro u hSu
      (try dsimp only at hSu)
      first | (go_simp; done) | (go_simp; with_reducible rfl)
    try simp only [Act.put, List.getElem_toArray, List.getElem_cons_zero, List.getElem_cons_succ, List.setIfInBounds_toArray, List.set_cons_zero, List.set_cons_succ]
    have c10 : v1.cell? ⟨w.heap.size + 1, 10, none⟩ = some (.int .i64 s.at_) := S2.out.at_ (by decide) rfl
    have f10 := S2.out.fz (j := 10) (by decide)
    refine wpAnyH_ready (rs := [14]) (by kernel_rfl) (by simp) ?_
    refine AllReadyH.cons rfl (fun K hK => ?_) AllReadyH.nil
    go_simp
    have S3 := Lib.hid (S2.out.set (j := 10) (by decide) (.int .i64 t))
    generalize v1.setCell ⟨w.heap.size + 1, 10, none⟩ (.int .i64 t) = v2 at S3 ⊢
    clear c10 f10 S1 S2
    refine hK.out _ _ (⟨S3.out.g0, S3.out.g1, S3.out.at_ (by decide) rfl, S3.out.p1⟩) (fun hHeld2 => ?_)
    clear hK K hHeld
    have hHeld := hHeld2
    clear hHeld2
    try simp only [Act.put, List.getElem_toArray, List.getElem_cons_zero, List.getElem_cons_succ, List.setIfInBounds_toArray, List.set_cons_zero, List.set_cons_succ]
    refine wpAnyH_done (by kernel_rfl) ?_ _
    clear hHeld
    have c10 : v2.cell? ⟨w.heap.size + 1, 10, none⟩ = some (.int .i64 t) := S3.out.at_ (by decide) rfl
    have c11 : v2.cell? ⟨w.heap.size + 1, 11, none⟩ = some (.int .i64 s.sum) := S3.out.at_ (by decide) rfl
    have g3 := S3.out.g3
    have p0 := S3.out.p0
    have p1 := S3.out.p1
    have p2 := S3.out.p2
    go_wp2_with fail
    refine (mea_2 s.sum y HYV.out t s4 (by omega) t0 (by omega) _ MZ.out _).mono ?_
    rintro o v3 ⟨rfl, hb3⟩
    have S4 := Lib.hid (S3.out.next hb3)
    clear c10 c11 g3 p0 p1 p2 hb3 S3
    have c11 : v3.cell? ⟨w.heap.size + 1, 11, none⟩ = some (.int .i64 s.sum) := S4.out.at_ (by decide) rfl
    have f11 := S4.out.fz (j := 11) (by decide)
    have S5 := Lib.hid (S4.out.set (j := 11) (by decide) (.int .i64 mz))
    obtain ⟨v4, hv4⟩ : ∃ u, u = v3.setCell ⟨w.heap.size + 1, 11, none⟩ (.int .i64 mz) := ⟨_, rfl⟩
    rw [← hv4] at S5
    have c9 : v4.cell? ⟨w.heap.size + 1, 9, none⟩ = some (.int .i8 s.lev) := S5.out.at_ (by decide) rfl
    have f9 := S5.out.fz (j := 9) (by decide)
    have S6 := Lib.hid (S5.out.set (j := 9) (by decide) (.int .i8 y.lev))
    obtain ⟨v5, hv5⟩ : ∃ u, u = v4.setCell ⟨w.heap.size + 1, 9, none⟩ (.int .i8 y.lev) := ⟨_, rfl⟩
    rw [← hv5] at S6
    have c8 : v5.cell? ⟨w.heap.size + 1, 8, none⟩ = some (.int .i64 (m : Int)) := S6.out.at_ (by decide) (by rw [HM.out]; rfl)
    have cm : v5.cell? ⟨w.heap.size + 1, m, none⟩ = some (cellR (strOf os s) m) := S6.out.at_ (by have := HM.out; omega) (by rw [if_neg (by have := HM.out; omega), if_neg (by have := HM.out; omega), if_neg (by have := HM.out; omega)])
    have fm := S6.out.fz (j := m) (by have := HM.out; omega)
    have S7 := Lib.hid (S6.out.set (j := m) (by have := HM.out; omega) (.int .i8 ((i : Int) + 1)))
    obtain ⟨v6, hv6⟩ : ∃ u, u = v5.setCell ⟨w.heap.size + 1, m, none⟩ (.int .i8 ((i : Int) + 1)) := ⟨_, rfl⟩
    rw [← hv6] at S7
    have d8 : v6.cell? ⟨w.heap.size + 1, 8, none⟩ = some (.int .i64 (m : Int)) := S7.out.at_ (by decide) (by rw [if_neg (by have := HM.out; omega), HM.out]; rfl)
    have f8 := S7.out.fz (j := 8) (by decide)
    have S8 := Lib.hid (S7.out.set (j := 8) (by decide) (.int .i64 ((m : Int) + 1)))
    obtain ⟨v7, hv7⟩ : ∃ u, u = v6.setCell ⟨w.heap.size + 1, 8, none⟩ (.int .i64 ((m : Int) + 1)) := ⟨_, rfl⟩
    rw [← hv7] at S8
    have h8m : m < 8 := by have := HM.out; omega
    have h8i : (m : Int) < 8 := by omega
    have FIN : Hid (StrOwn v7 (w.heap.size + 1) 0 (strOf (os ++ [(i : Int)]) ⟨y.lev, t, mz⟩)) := Lib.hid (S8.out.s.to (by rw [HM.out]; exact strOf_snoc os h8 s ⟨y.lev, t, mz⟩ i))
    have HV4 := Lib.hid hv4
    have HV5 := Lib.hid hv5
    have HV6 := Lib.hid hv6
    have HV7 := Lib.hid hv7
    have HR := Lib.hid S8.out.r
    have HBB := Lib.hid S8.out.b
    clear hv4 hv5 hv6 hv7 S4 S5 S6 S7 S8
    go_wp2_with (first
      | (rw [← HV4.out])
      | (rw [← HV5.out])
      | (rw [← HV6.out])
      | (rw [← HV7.out])
      | (refine wpl_load_str rfl (.tmp 4) rfl (w.heap.size + 1) 0 rfl FIN.out.toRowAt ?_)
      | (refine wpl_store_str rfl (.tmp 6) (.tmp 52) rfl (w.heap.size + 1 + 1) 0 rfl rfl HR.out ?_)
      | fail)
    refine bodyPost_ret (v := strV (strOf (os ++ [(i : Int)]) ⟨y.lev, t, mz⟩)) (results_stored Tryd.results60 rfl (by rw [lst_len]; exact HR.out.there) Tryd.underlying61 rfl (by rw [infoR, lst_len])) rfl ⟨rfl, ?_⟩
    exact below_cells HBB.out (by omega) _ _
  · go_simp
    refine (timeTo_any x HV.out s.lev y.lev s0 s1 (by omega) y1 _ CZ.out _).mono ?_
    rintro o v1 ⟨rfl, hb1⟩
    have S2 := Lib.hid (S1.out.next hb1)
    clear hb1 c10
    refine hK.out _ _ (S2.out.wh) (fun hHeld2 => ?_)
    clear hK K hHeld
    have hHeld := hHeld2
    clear hHeld2
    try simp only [Act.put, List.getElem_toArray, List.getElem_cons_zero, List.getElem_cons_succ, List.setIfInBounds_toArray, List.set_cons_zero, List.set_cons_succ]
    have w1 := W1.out
    refine wpAnyH_take (i := 11) (v := ?_) rfl (by kernel_rfl) (by kernel_rfl) (by kernel_rfl) (fun _ _ _ h => h) (Or.inl ⟨by rfl, ?_⟩) (by assumption) ?_
    rotate_left
    · intro u hSu
      (try dsimp only at hSu)
      first | (go_simp; done) | (go_simp; with_reducible rfl)
    try simp only [Act.put, List.getElem_toArray, List.getElem_cons_zero, List.getElem_cons_succ, List.setIfInBounds_toArray, List.set_cons_zero, List.set_cons_succ]
    clear w1
    have c10 : v1.cell? ⟨w.heap.size + 1, 10, none⟩ = some (.int .i64 s.at_) := S2.out.at_ (by decide) rfl
    refine wpAnyH_ready (rs := [1]) (by kernel_rfl) (by simp) ?_
    refine AllReadyH.cons rfl (fun K hK => ?_) AllReadyH.nil
    go_simp
    refine hK.out _ _ (hHeld) (fun hHeld2 => ?_)
    clear hK K hHeld
    have hHeld := hHeld2
    clear hHeld2
    try simp only [Act.put, List.getElem_toArray, List.getElem_cons_zero, List.getElem_cons_succ, List.setIfInBounds_toArray, List.set_cons_zero, List.set_cons_succ]
    clear c10
    have w2 := W2.out
    refine wpAnyH_take (i := 12) (v := ?_) rfl (by kernel_rfl) (by kernel_rfl) (by kernel_rfl) (fun _ _ _ h => h) (Or.inl ⟨by rfl, ?_⟩) (by assumption) ?_
    rotate_left
    · intro u hSu
      (try dsimp only at hSu)
      first | (go_simp; done) | (go_simp; with_reducible rfl)
    try simp only [Act.put, List.getElem_toArray, List.getElem_cons_zero, List.getElem_cons_succ, List.setIfInBounds_toArray, List.set_cons_zero, List.set_cons_succ]
    clear w2
    refine wpAnyH_take (i := 13) (v := ?_) rfl (by kernel_rfl) (by kernel_rfl) (by kernel_rfl) (fun _ _ _ h => h) (Or.inl ⟨by rfl, ?_⟩) (by assumption) ?_
    rotate_left
    · intro u hSu
      (try dsimp only at hSu)
      first | (go_simp; done) | (go_simp; with_reducible rfl)
    try simp only [Act.put, List.getElem_toArray, List.getElem_cons_zero, List.getElem_cons_succ, List.setIfInBounds_toArray, List.set_cons_zero, List.set_cons_succ]
    have c10 : v1.cell? ⟨w.heap.size + 1, 10, none⟩ = some (.int .i64 s.at_) := S2.out.at_ (by decide) rfl
    have f10 := S2.out.fz (j := 10) (by decide)
    refine wpAnyH_ready (rs := [14]) (by kernel_rfl) (by simp) ?_
    refine AllReadyH.cons rfl (fun K hK => ?_) AllReadyH.nil
    go_simp
    have S3 := Lib.hid (S2.out.set (j := 10) (by decide) (.int .i64 t))
    generalize v1.setCell ⟨w.heap.size + 1, 10, none⟩ (.int .i64 t) = v2 at S3 ⊢
    clear c10 f10 S1 S2
    refine hK.out _ _ (⟨S3.out.g0, S3.out.g1, S3.out.at_ (by decide) rfl, S3.out.p1⟩) (fun hHeld2 => ?_)
    clear hK K hHeld
    have hHeld := hHeld2
    clear hHeld2
    try simp only [Act.put, List.getElem_toArray, List.getElem_cons_zero, List.getElem_cons_succ, List.setIfInBounds_toArray, List.set_cons_zero, List.set_cons_succ]
    refine wpAnyH_done (by kernel_rfl) ?_ _
    clear hHeld
    have c10 : v2.cell? ⟨w.heap.size + 1, 10, none⟩ = some (.int .i64 t) := S3.out.at_ (by decide) rfl
    have c11 : v2.cell? ⟨w.heap.size + 1, 11, none⟩ = some (.int .i64 s.sum) := S3.out.at_ (by decide) rfl
    have g3 := S3.out.g3
    have p0 := S3.out.p0
    have p1 := S3.out.p1
    have p2 := S3.out.p2
    go_wp2_with fail
    refine (mea_2 s.sum y HYV.out t s4 (by omega) t0 (by omega) _ MZ.out _).mono ?_
    rintro o v3 ⟨rfl, hb3⟩
    have S4 := Lib.hid (S3.out.next hb3)
    clear c10 c11 g3 p0 p1 p2 hb3 S3
    have c11 : v3.cell? ⟨w.heap.size + 1, 11, none⟩ = some (.int .i64 s.sum) := S4.out.at_ (by decide) rfl
    have f11 := S4.out.fz (j := 11) (by decide)
    have S5 := Lib.hid (S4.out.set (j := 11) (by decide) (.int .i64 mz))
    obtain ⟨v4, hv4⟩ : ∃ u, u = v3.setCell ⟨w.heap.size + 1, 11, none⟩ (.int .i64 mz) := ⟨_, rfl⟩
    rw [← hv4] at S5
    have c9 : v4.cell? ⟨w.heap.size + 1, 9, none⟩ = some (.int .i8 s.lev) := S5.out.at_ (by decide) rfl
    have f9 := S5.out.fz (j := 9) (by decide)
    have S6 := Lib.hid (S5.out.set (j := 9) (by decide) (.int .i8 y.lev))
    obtain ⟨v5, hv5⟩ : ∃ u, u = v4.setCell ⟨w.heap.size + 1, 9, none⟩ (.int .i8 y.lev) := ⟨_, rfl⟩
    rw [← hv5] at S6
    have c8 : v5.cell? ⟨w.heap.size + 1, 8, none⟩ = some (.int .i64 (m : Int)) := S6.out.at_ (by decide) (by rw [HM.out]; rfl)
    have cm : v5.cell? ⟨w.heap.size + 1, m, none⟩ = some (cellR (strOf os s) m) := S6.out.at_ (by have := HM.out; omega) (by rw [if_neg (by have := HM.out; omega), if_neg (by have := HM.out; omega), if_neg (by have := HM.out; omega)])
    have fm := S6.out.fz (j := m) (by have := HM.out; omega)
    have S7 := Lib.hid (S6.out.set (j := m) (by have := HM.out; omega) (.int .i8 ((i : Int) + 1)))
    obtain ⟨v6, hv6⟩ : ∃ u, u = v5.setCell ⟨w.heap.size + 1, m, none⟩ (.int .i8 ((i : Int) + 1)) := ⟨_, rfl⟩
    rw [← hv6] at S7
    have d8 : v6.cell? ⟨w.heap.size + 1, 8, none⟩ = some (.int .i64 (m : Int)) := S7.out.at_ (by decide) (by rw [if_neg (by have := HM.out; omega), HM.out]; rfl)
    have f8 := S7.out.fz (j := 8) (by decide)
    have S8 := Lib.hid (S7.out.set (j := 8) (by decide) (.int .i64 ((m : Int) + 1)))
    obtain ⟨v7, hv7⟩ : ∃ u, u = v6.setCell ⟨w.heap.size + 1, 8, none⟩ (.int .i64 ((m : Int) + 1)) := ⟨_, rfl⟩
    rw [← hv7] at S8
    have h8m : m < 8 := by have := HM.out; omega
    have h8i : (m : Int) < 8 := by omega
    have FIN : Hid (StrOwn v7 (w.heap.size + 1) 0 (strOf (os ++ [(i : Int)]) ⟨y.lev, t, mz⟩)) := Lib.hid (S8.out.s.to (by rw [HM.out]; exact strOf_snoc os h8 s ⟨y.lev, t, mz⟩ i))
    have HV4 := Lib.hid hv4
    have HV5 := Lib.hid hv5
    have HV6 := Lib.hid hv6
    have HV7 := Lib.hid hv7
    have HR := Lib.hid S8.out.r
    have HBB := Lib.hid S8.out.b
    clear hv4 hv5 hv6 hv7 S4 S5 S6 S7 S8
    go_wp2_with (first
      | (rw [← HV4.out])
      | (rw [← HV5.out])
      | (rw [← HV6.out])
      | (rw [← HV7.out])
      | (refine wpl_load_str rfl (.tmp 4) rfl (w.heap.size + 1) 0 rfl FIN.out.toRowAt ?_)
      | (refine wpl_store_str rfl (.tmp 6) (.tmp 52) rfl (w.heap.size + 1 + 1) 0 rfl rfl HR.out ?_)
      | fail)
    refine bodyPost_ret (v := strV (strOf (os ++ [(i : Int)]) ⟨y.lev, t, mz⟩)) (results_stored Tryd.results60 rfl (by rw [lst_len]; exact HR.out.there) Tryd.underlying61 rfl (by rw [infoR, lst_len])) rfl ⟨rfl, ?_⟩
    exact below_cells HBB.out (by omega) _ _

set_option maxRecDepth 100000 in
set_option maxHeartbeats 4000000 in
theorem with_3 (x : Iro) (hv : iroB x = true) (A : Option Addr) (n c : Nat) (ps : List Pie) (en : n = ps.length) (hn : n ≤ 8) (hp : ps.all pieB = true) (os : List Int) (h8 : os.length < 8) (s : Sta) (hs : s.Ok os.length) (i : Nat) (hi : i < n) (w : World) (hg : Sl Pie.cells 3 w w.heap.size A ps) :
    Calls Tryd.prog 60 #[gV x A n c (.func (.func 57) #[] #[]), strV (strOf os s), .int .i64 i] w fun o w' => o = .returned (strV (strOf (os ++ [(i : Int)]) (s.step x 3 (ptv ps i)))) ∧ Below w.heap.size w w' := by
  have En := Lib.hid en
  have HV := Lib.hid hv
  have hzz : ∀ u : World, (zeroValue 61).run Tryd.prog u = .ok (.agg (strCs zeroR)) u := (zero_of_info zeroRi).1
  obtain ⟨y, hy⟩ : ∃ y, ps[i]? = some y := ⟨ps[i]'(by omega), List.getElem?_eq_getElem _⟩
  have hyv := List.all_eq_true.1 hp _ (List.mem_of_getElem? hy)
  have hptv : ptv ps (i : Int) = y := by unfold ptv; rw [List.getD_eq_getElem?_getD, Int.toNat_natCast, hy]; rfl
  rw [hptv]
  obtain ⟨⟨y0, y1⟩, ⟨y2, y3⟩, y4, y5⟩ := pieB_iff.1 hyv
  obtain ⟨a, rfl, hab, hat⟩ := hg.at_ i y hy
  obtain ⟨q0, q1, q2⟩ := pieS.at_ hat
  obtain ⟨s0, s1, s2, s3, s4, s5⟩ := hs
  obtain ⟨cz, hcz⟩ : ∃ z, chg x s.lev y.lev = z := ⟨_, rfl⟩
  have hcb := chg_bd (x := x) (a := s.lev) (b := y.lev) hv s0 s1 (by omega) y1
  rw [hcz] at hcb
  obtain ⟨hc0, hc1⟩ := hcb
  obtain ⟨t, ht⟩ : ∃ t, t = s.at_ + (cz + y.mins) := ⟨_, rfl⟩
  obtain ⟨mz, hmz⟩ : ∃ z, mea 3 s.sum y t = z := ⟨_, rfl⟩
  have ok := Sta.Ok.step (s := s) ⟨s0, s1, s2, s3, s4, s5⟩ h8 3 hv hyv
  have hst : s.step x 3 y = ⟨y.lev, t, mz⟩ := by
    unfold Sta.step
    rw [hcz, Int.add_assoc, ← ht, hmz]
  rw [hst] at ok ⊢
  have t0 : 0 ≤ t := ok.a0
  have t1 : t ≤ 240 * ((os.length + 1 : Nat) : Int) := ok.a1
  have m0 : 0 ≤ mz := ok.s0
  have m1 : mz ≤ 1920 * ((os.length + 1 : Nat) : Int) := ok.s1
  have w1 : IntKind.i64.wrap (cz + y.mins) = cz + y.mins := IntWalk.i64_in _ (by omega)
  have w2 : IntKind.i64.wrap (s.at_ + (cz + y.mins)) = t := by rw [ht]; exact IntWalk.i64_in _ (by omega)
  have w3 : IntKind.i64.wrap y.mins = y.mins := IntWalk.i64_in _ (by omega)
  have W1 := Lib.hid w1
  have W2 := Lib.hid w2
  have W3 := Lib.hid w3
  have CZ := Lib.hid hcz
  have MZ := Lib.hid hmz
  have HT := Lib.hid ht
  have HYV := Lib.hid hyv
  have HY := Lib.hid hy
  obtain ⟨m, hm⟩ : ∃ m, m = os.length := ⟨_, rfl⟩
  have HM := Lib.hid hm
  obtain ⟨u3, hu3⟩ : ∃ u, u = ((w.alloc (.cells #[.int .i8 x.up, .int .i8 x.down, .slice (some a) n c, .func (.func 57) #[] #[]] 65)).alloc (.cells (strCs (strOf os s)) 61)).alloc (.cells (strCs zeroR) 61) := ⟨_, rfl⟩
  have G3 : u3.cell? ⟨w.heap.size, 2, none⟩ = some (.slice (some a) n c) := by
    rw [hu3]
    have e1 : (w.alloc (.cells #[.int .i8 x.up, .int .i8 x.down, .slice (some a) n c, .func (.func 57) #[] #[]] 65)).heap.size = w.heap.size + 1 := by simp
    exact cell_of_row _ _ 2 _ _ _ ((heap_alloc_old _ _ (by simp; omega)).trans ((heap_alloc_old _ _ (by rw [e1]; omega)).trans (heap_alloc_new w _)))
  have B3 : Below w.heap.size w u3 := by rw [hu3]; repeat (first | exact Below.refl _ _ | assumption | apply Below.drew | (refine Below.alloc ?_ (by first | (simp; done) | (simp; omega) | omega) _) | (refine Below.setCell ?_ (by first | (simp; done) | (simp; omega) | omega) _))
  have q0 : u3.cell? (a.add (i * 3)) = some (.int .i8 y.lev) := (B3.cell (by rw [block_add]; exact hab)).trans q0
  have q1 : u3.cell? ⟨(a.add (i * 3)).block, (a.add (i * 3)).off + 1, none⟩ = some (.int .i8 y.mins) := (B3.cell (by show (a.add (i * 3)).block < _; rw [block_add]; exact hab)).trans q1
  have q2 : u3.cell? ⟨(a.add (i * 3)).block, (a.add (i * 3)).off + 2, none⟩ = some (.int .i16 y.due) := (B3.cell (by show (a.add (i * 3)).block < _; rw [block_add]; exact hab)).trans q2
  obtain ⟨u0, hu0⟩ : ∃ u, u = u3.alloc (.cells #[.int .i8 y.lev, .int .i8 y.mins, .int .i16 y.due] 42) := ⟨_, rfl⟩
  have S0 : Hid (WS x (some a) n c (.func (.func 57) #[] #[]) y w (cellR (strOf os s)) u0) := Lib.hid (by rw [hu0, hu3]; exact WS.new ..)
  have pp0 : u0.cell? ⟨u3.heap.size, 0, none⟩ = some (.int .i8 y.lev) := by rw [hu0]; exact cell_of_row _ _ _ _ _ _ (heap_alloc_new u3 _)
  have HU := Lib.hid hu0
  have HU3 := Lib.hid hu3
  have hz3 : u3.heap.size = w.heap.size + 1 + 1 + 1 := by rw [hu3]; simp
  have HZ3 := Lib.hid hz3
  clear en hv hp hy hyv hptv hat hcz hmz ht hst ok w1 w2 w3 hm hu0 hu3 hz3 B3
  go_enter Tryd.func60, Tryd.ntmps60
  go_wp2_with (first | (rw [← HU3.out]) | (rw [← HU.out]) | fail)
  rw [HZ3.out]
  clear pp0 q0 q1 q2 G3
  refine wp_region_held_drew (S := WH x y s.lev w) (by kernel_rfl) (S0.out.next (Below.refl _ _).drew).wh (fun hHeld => ?_)
  have S1 := Lib.hid (S0.out.next (Below.refl _ _).drew)
  generalize u0.drew = v0 at S1 hHeld ⊢
  clear HU HU3 HZ3 S0
  have w3 := W3.out
  refine wpAnyH_take (i := 0) (v := ?_) rfl (by kernel_rfl) (by kernel_rfl) (by kernel_rfl) (fun _ _ _ h => h) (Or.inl ⟨by rfl, ?_⟩) (by assumption) ?_
  rotate_left
  · intro u hSu
    (try dsimp only at hSu)
    first | (go_simp; done) | (go_simp; with_reducible rfl)
  try simp only [Act.put, List.getElem_toArray, List.getElem_cons_zero, List.getElem_cons_succ, List.setIfInBounds_toArray, List.set_cons_zero, List.set_cons_succ]
  refine wpAnyH_take (i := 2) (v := ?_) rfl (by kernel_rfl) (by kernel_rfl) (by kernel_rfl) (fun _ _ _ h => h) (Or.inl ⟨by rfl, ?_⟩) (by assumption) ?_
  rotate_left
  · intro u hSu
    (try dsimp only at hSu)
    first | (go_simp; done) | (go_simp; with_reducible rfl)
  try simp only [Act.put, List.getElem_toArray, List.getElem_cons_zero, List.getElem_cons_succ, List.setIfInBounds_toArray, List.set_cons_zero, List.set_cons_succ]
  refine wpAnyH_take (i := 3) (v := ?_) rfl (by kernel_rfl) (by kernel_rfl) (by kernel_rfl) (fun _ _ _ h => h) (Or.inl ⟨by rfl, ?_⟩) (by assumption) ?_
  rotate_left
  · intro u hSu
    (try dsimp only at hSu)
    first | (go_simp; done) | (go_simp; with_reducible rfl)
  try simp only [Act.put, List.getElem_toArray, List.getElem_cons_zero, List.getElem_cons_succ, List.setIfInBounds_toArray, List.set_cons_zero, List.set_cons_succ]
  refine wpAnyH_take (i := 4) (v := ?_) rfl (by kernel_rfl) (by kernel_rfl) (by kernel_rfl) (fun _ _ _ h => h) (Or.inl ⟨by rfl, ?_⟩) (by assumption) ?_
  rotate_left
  · intro u hSu
    (try dsimp only at hSu)
    first | (go_simp; done) | (go_simp; with_reducible rfl)
  try simp only [Act.put, List.getElem_toArray, List.getElem_cons_zero, List.getElem_cons_succ, List.setIfInBounds_toArray, List.set_cons_zero, List.set_cons_succ]
  refine wpAnyH_take (i := 5) (v := ?_) rfl (by kernel_rfl) (by kernel_rfl) (by kernel_rfl) (fun _ _ _ h => h) (Or.inl ⟨by rfl, ?_⟩) (by assumption) ?_
  rotate_left
  · intro u hSu
    (try dsimp only at hSu)
    first | (go_simp; done) | (go_simp; with_reducible rfl)
  try simp only [Act.put, List.getElem_toArray, List.getElem_cons_zero, List.getElem_cons_succ, List.setIfInBounds_toArray, List.set_cons_zero, List.set_cons_succ]
  refine wpAnyH_take (i := 6) (v := ?_) rfl (by kernel_rfl) (by kernel_rfl) (by kernel_rfl) (fun _ _ _ h => h) (Or.inl ⟨by rfl, ?_⟩) (by assumption) ?_
  rotate_left
  · intro u hSu
    (try dsimp only at hSu)
    first | (go_simp; done) | (go_simp; with_reducible rfl)
  try simp only [Act.put, List.getElem_toArray, List.getElem_cons_zero, List.getElem_cons_succ, List.setIfInBounds_toArray, List.set_cons_zero, List.set_cons_succ]
  refine wpAnyH_take (i := 8) (v := ?_) rfl (by kernel_rfl) (by kernel_rfl) (by kernel_rfl) (fun _ _ _ h => h) (Or.inl ⟨by rfl, ?_⟩) (by assumption) ?_
  rotate_left
  · intro u hSu
    (try dsimp only at hSu)
    first | (go_simp; done) | (go_simp; with_reducible rfl)
  try simp only [Act.put, List.getElem_toArray, List.getElem_cons_zero, List.getElem_cons_succ, List.setIfInBounds_toArray, List.set_cons_zero, List.set_cons_succ]
  refine wpAnyH_take (i := 9) (v := ?_) rfl (by kernel_rfl) (by kernel_rfl) (by kernel_rfl) (fun _ _ _ h => h) (Or.inl ⟨by rfl, ?_⟩) (by assumption) ?_
  rotate_left
  · intro u hSu
    (try dsimp only at hSu)
    first | (go_simp; done) | (go_simp; with_reducible rfl)
  try simp only [Act.put, List.getElem_toArray, List.getElem_cons_zero, List.getElem_cons_succ, List.setIfInBounds_toArray, List.set_cons_zero, List.set_cons_succ]
  refine wpAnyH_take (i := 10) (v := ?_) rfl (by kernel_rfl) (by kernel_rfl) (by kernel_rfl) (fun _ _ _ h => h) (Or.inl ⟨by rfl, ?_⟩) (by assumption) ?_
  rotate_left
  · intro u hSu
    (try dsimp only at hSu)
    first | (go_simp; done) | (go_simp; with_reducible rfl)
  try simp only [Act.put, List.getElem_toArray, List.getElem_cons_zero, List.getElem_cons_succ, List.setIfInBounds_toArray, List.set_cons_zero, List.set_cons_succ]
  clear w3
  have c10 : v0.cell? ⟨w.heap.size + 1, 10, none⟩ = some (.int .i64 s.at_) := S1.out.at_ (by decide) rfl
  refine wpAnyH_ready (rs := [1, 7]) (by kernel_rfl) (by simp) ?_
  refine AllReadyH.cons rfl (fun K hK => ?_) (AllReadyH.cons rfl (fun K hK => ?_) AllReadyH.nil)
  · go_simp
    refine hK.out _ _ (hHeld) (fun hHeld2 => ?_)
    clear hK K hHeld
    have hHeld := hHeld2
    clear hHeld2
    try simp only [Act.put, List.getElem_toArray, List.getElem_cons_zero, List.getElem_cons_succ, List.setIfInBounds_toArray, List.set_cons_zero, List.set_cons_succ]
    refine wpAnyH_ready (rs := [7]) (by kernel_rfl) (by simp) ?_
    refine AllReadyH.cons rfl (fun K hK => ?_) AllReadyH.nil
    go_simp
    refine (timeTo_any x HV.out s.lev y.lev s0 s1 (by omega) y1 _ CZ.out _).mono ?_
    rintro o v1 ⟨rfl, hb1⟩
    have S2 := Lib.hid (S1.out.next hb1)
    clear hb1 c10
    refine hK.out _ _ (S2.out.wh) (fun hHeld2 => ?_)
    clear hK K hHeld
    have hHeld := hHeld2
    clear hHeld2
    try simp only [Act.put, List.getElem_toArray, List.getElem_cons_zero, List.getElem_cons_succ, List.setIfInBounds_toArray, List.set_cons_zero, List.set_cons_succ]
    have w1 := W1.out
    refine wpAnyH_take (i := 11) (v := ?_) rfl (by kernel_rfl) (by kernel_rfl) (by kernel_rfl) (fun _ _ _ h => h) (Or.inl ⟨by rfl, ?_⟩) (by assumption) ?_
    rotate_left
    · intro u hSu
      (try dsimp only at hSu)
      first | (go_simp; done) | (go_simp; with_reducible rfl)
    try simp only [Act.put, List.getElem_toArray, List.getElem_cons_zero, List.getElem_cons_succ, List.setIfInBounds_toArray, List.set_cons_zero, List.set_cons_succ]
    clear w1
    have w2 := W2.out
    refine wpAnyH_take (i := 12) (v := ?_) rfl (by kernel_rfl) (by kernel_rfl) (by kernel_rfl) (fun _ _ _ h => h) (Or.inl ⟨by rfl, ?_⟩) (by assumption) ?_
    rotate_left
    · intro u hSu
      (try dsimp only at hSu)
      first | (go_simp; done) | (go_simp; with_reducible rfl)
    try simp only [Act.put, List.getElem_toArray, List.getElem_cons_zero, List.getElem_cons_succ, List.setIfInBounds_toArray, List.set_cons_zero, List.set_cons_succ]
    clear w2
    refine wpAnyH_take (i := 13) (v := ?_) rfl (by kernel_rfl) (by kernel_rfl) (by kernel_rfl) (fun _ _ _ h => h) (Or.inl ⟨by rfl, ?_⟩) (by assumption) ?_
    rotate_left
    · intro u hSu
      (try dsimp only at hSu)
      first | (go_simp; done) | (go_simp; with_reducible rfl)
    try simp only [Act.put, List.getElem_toArray, List.getElem_cons_zero, List.getElem_cons_succ, List.setIfInBounds_toArray, List.set_cons_zero, List.set_cons_succ]
    have c10 : v1.cell? ⟨w.heap.size + 1, 10, none⟩ = some (.int .i64 s.at_) := S2.out.at_ (by decide) rfl
    have f10 := S2.out.fz (j := 10) (by decide)
    refine wpAnyH_ready (rs := [14]) (by kernel_rfl) (by simp) ?_
    refine AllReadyH.cons rfl (fun K hK => ?_) AllReadyH.nil
    go_simp
    have S3 := Lib.hid (S2.out.set (j := 10) (by decide) (.int .i64 t))
    generalize v1.setCell ⟨w.heap.size + 1, 10, none⟩ (.int .i64 t) = v2 at S3 ⊢
    clear c10 f10 S1 S2
    refine hK.out _ _ (⟨S3.out.g0, S3.out.g1, S3.out.at_ (by decide) rfl, S3.out.p1⟩) (fun hHeld2 => ?_)
    clear hK K hHeld
    have hHeld := hHeld2
    clear hHeld2
    try simp only [Act.put, List.getElem_toArray, List.getElem_cons_zero, List.getElem_cons_succ, List.setIfInBounds_toArray, List.set_cons_zero, List.set_cons_succ]
    refine wpAnyH_done (by kernel_rfl) ?_ _
    clear hHeld
    have c10 : v2.cell? ⟨w.heap.size + 1, 10, none⟩ = some (.int .i64 t) := S3.out.at_ (by decide) rfl
    have c11 : v2.cell? ⟨w.heap.size + 1, 11, none⟩ = some (.int .i64 s.sum) := S3.out.at_ (by decide) rfl
    have g3 := S3.out.g3
    have p0 := S3.out.p0
    have p1 := S3.out.p1
    have p2 := S3.out.p2
    go_wp2_with fail
    refine (mea_3 s.sum y HYV.out t s4 (by omega) t0 (by omega) _ MZ.out _).mono ?_
    rintro o v3 ⟨rfl, hb3⟩
    have S4 := Lib.hid (S3.out.next hb3)
    clear c10 c11 g3 p0 p1 p2 hb3 S3
    have c11 : v3.cell? ⟨w.heap.size + 1, 11, none⟩ = some (.int .i64 s.sum) := S4.out.at_ (by decide) rfl
    have f11 := S4.out.fz (j := 11) (by decide)
    have S5 := Lib.hid (S4.out.set (j := 11) (by decide) (.int .i64 mz))
    obtain ⟨v4, hv4⟩ : ∃ u, u = v3.setCell ⟨w.heap.size + 1, 11, none⟩ (.int .i64 mz) := ⟨_, rfl⟩
    rw [← hv4] at S5
    have c9 : v4.cell? ⟨w.heap.size + 1, 9, none⟩ = some (.int .i8 s.lev) := S5.out.at_ (by decide) rfl
    have f9 := S5.out.fz (j := 9) (by decide)
    have S6 := Lib.hid (S5.out.set (j := 9) (by decide) (.int .i8 y.lev))
    obtain ⟨v5, hv5⟩ : ∃ u, u = v4.setCell ⟨w.heap.size + 1, 9, none⟩ (.int .i8 y.lev) := ⟨_, rfl⟩
    rw [← hv5] at S6
    have c8 : v5.cell? ⟨w.heap.size + 1, 8, none⟩ = some (.int .i64 (m : Int)) := S6.out.at_ (by decide) (by rw [HM.out]; rfl)
    have cm : v5.cell? ⟨w.heap.size + 1, m, none⟩ = some (cellR (strOf os s) m) := S6.out.at_ (by have := HM.out; omega) (by rw [if_neg (by have := HM.out; omega), if_neg (by have := HM.out; omega), if_neg (by have := HM.out; omega)])
    have fm := S6.out.fz (j := m) (by have := HM.out; omega)
    have S7 := Lib.hid (S6.out.set (j := m) (by have := HM.out; omega) (.int .i8 ((i : Int) + 1)))
    obtain ⟨v6, hv6⟩ : ∃ u, u = v5.setCell ⟨w.heap.size + 1, m, none⟩ (.int .i8 ((i : Int) + 1)) := ⟨_, rfl⟩
    rw [← hv6] at S7
    have d8 : v6.cell? ⟨w.heap.size + 1, 8, none⟩ = some (.int .i64 (m : Int)) := S7.out.at_ (by decide) (by rw [if_neg (by have := HM.out; omega), HM.out]; rfl)
    have f8 := S7.out.fz (j := 8) (by decide)
    have S8 := Lib.hid (S7.out.set (j := 8) (by decide) (.int .i64 ((m : Int) + 1)))
    obtain ⟨v7, hv7⟩ : ∃ u, u = v6.setCell ⟨w.heap.size + 1, 8, none⟩ (.int .i64 ((m : Int) + 1)) := ⟨_, rfl⟩
    rw [← hv7] at S8
    have h8m : m < 8 := by have := HM.out; omega
    have h8i : (m : Int) < 8 := by omega
    have FIN : Hid (StrOwn v7 (w.heap.size + 1) 0 (strOf (os ++ [(i : Int)]) ⟨y.lev, t, mz⟩)) := Lib.hid (S8.out.s.to (by rw [HM.out]; exact strOf_snoc os h8 s ⟨y.lev, t, mz⟩ i))
    have HV4 := Lib.hid hv4
    have HV5 := Lib.hid hv5
    have HV6 := Lib.hid hv6
    have HV7 := Lib.hid hv7
    have HR := Lib.hid S8.out.r
    have HBB := Lib.hid S8.out.b
    clear hv4 hv5 hv6 hv7 S4 S5 S6 S7 S8
    go_wp2_with (first
      | (rw [← HV4.out])
      | (rw [← HV5.out])
      | (rw [← HV6.out])
      | (rw [← HV7.out])
      | (refine wpl_load_str rfl (.tmp 4) rfl (w.heap.size + 1) 0 rfl FIN.out.toRowAt ?_)
      | (refine wpl_store_str rfl (.tmp 6) (.tmp 52) rfl (w.heap.size + 1 + 1) 0 rfl rfl HR.out ?_)
      | fail)
    refine bodyPost_ret (v := strV (strOf (os ++ [(i : Int)]) ⟨y.lev, t, mz⟩)) (results_stored Tryd.results60 rfl (by rw [lst_len]; exact HR.out.there) Tryd.underlying61 rfl (by rw [infoR, lst_len])) rfl ⟨rfl, ?_⟩
    exact below_cells HBB.out (by omega) _ _
  · go_simp
    refine (timeTo_any x HV.out s.lev y.lev s0 s1 (by omega) y1 _ CZ.out _).mono ?_
    rintro o v1 ⟨rfl, hb1⟩
    have S2 := Lib.hid (S1.out.next hb1)
    clear hb1 c10
    refine hK.out _ _ (S2.out.wh) (fun hHeld2 => ?_)
    clear hK K hHeld
    have hHeld := hHeld2
    clear hHeld2
    try simp only [Act.put, List.getElem_toArray, List.getElem_cons_zero, List.getElem_cons_succ, List.setIfInBounds_toArray, List.set_cons_zero, List.set_cons_succ]
    have w1 := W1.out
    refine wpAnyH_take (i := 11) (v := ?_) rfl (by kernel_rfl) (by kernel_rfl) (by kernel_rfl) (fun _ _ _ h => h) (Or.inl ⟨by rfl, ?_⟩) (by assumption) ?_
    rotate_left
    · intro u hSu
      (try dsimp only at hSu)
      first | (go_simp; done) | (go_simp; with_reducible rfl)
    try simp only [Act.put, List.getElem_toArray, List.getElem_cons_zero, List.getElem_cons_succ, List.setIfInBounds_toArray, List.set_cons_zero, List.set_cons_succ]
    clear w1
    have c10 : v1.cell? ⟨w.heap.size + 1, 10, none⟩ = some (.int .i64 s.at_) := S2.out.at_ (by decide) rfl
    refine wpAnyH_ready (rs := [1]) (by kernel_rfl) (by simp) ?_
    refine AllReadyH.cons rfl (fun K hK => ?_) AllReadyH.nil
    go_simp
    refine hK.out _ _ (hHeld) (fun hHeld2 => ?_)
    clear hK K hHeld
    have hHeld := hHeld2
    clear hHeld2
    try simp only [Act.put, List.getElem_toArray, List.getElem_cons_zero, List.getElem_cons_succ, List.setIfInBounds_toArray, List.set_cons_zero, List.set_cons_succ]
    clear c10
    have w2 := W2.out
    refine wpAnyH_take (i := 12) (v := ?_) rfl (by kernel_rfl) (by kernel_rfl) (by kernel_rfl) (fun _ _ _ h => h) (Or.inl ⟨by rfl, ?_⟩) (by assumption) ?_
    rotate_left
    · intro u hSu
      (try dsimp only at hSu)
      first | (go_simp; done) | (go_simp; with_reducible rfl)
    try simp only [Act.put, List.getElem_toArray, List.getElem_cons_zero, List.getElem_cons_succ, List.setIfInBounds_toArray, List.set_cons_zero, List.set_cons_succ]
    clear w2
    refine wpAnyH_take (i := 13) (v := ?_) rfl (by kernel_rfl) (by kernel_rfl) (by kernel_rfl) (fun _ _ _ h => h) (Or.inl ⟨by rfl, ?_⟩) (by assumption) ?_
    rotate_left
    · intro u hSu
      (try dsimp only at hSu)
      first | (go_simp; done) | (go_simp; with_reducible rfl)
    try simp only [Act.put, List.getElem_toArray, List.getElem_cons_zero, List.getElem_cons_succ, List.setIfInBounds_toArray, List.set_cons_zero, List.set_cons_succ]
    have c10 : v1.cell? ⟨w.heap.size + 1, 10, none⟩ = some (.int .i64 s.at_) := S2.out.at_ (by decide) rfl
    have f10 := S2.out.fz (j := 10) (by decide)
    refine wpAnyH_ready (rs := [14]) (by kernel_rfl) (by simp) ?_
    refine AllReadyH.cons rfl (fun K hK => ?_) AllReadyH.nil
    go_simp
    have S3 := Lib.hid (S2.out.set (j := 10) (by decide) (.int .i64 t))
    generalize v1.setCell ⟨w.heap.size + 1, 10, none⟩ (.int .i64 t) = v2 at S3 ⊢
    clear c10 f10 S1 S2
    refine hK.out _ _ (⟨S3.out.g0, S3.out.g1, S3.out.at_ (by decide) rfl, S3.out.p1⟩) (fun hHeld2 => ?_)
    clear hK K hHeld
    have hHeld := hHeld2
    clear hHeld2
    try simp only [Act.put, List.getElem_toArray, List.getElem_cons_zero, List.getElem_cons_succ, List.setIfInBounds_toArray, List.set_cons_zero, List.set_cons_succ]
    refine wpAnyH_done (by kernel_rfl) ?_ _
    clear hHeld
    have c10 : v2.cell? ⟨w.heap.size + 1, 10, none⟩ = some (.int .i64 t) := S3.out.at_ (by decide) rfl
    have c11 : v2.cell? ⟨w.heap.size + 1, 11, none⟩ = some (.int .i64 s.sum) := S3.out.at_ (by decide) rfl
    have g3 := S3.out.g3
    have p0 := S3.out.p0
    have p1 := S3.out.p1
    have p2 := S3.out.p2
    go_wp2_with fail
    refine (mea_3 s.sum y HYV.out t s4 (by omega) t0 (by omega) _ MZ.out _).mono ?_
    rintro o v3 ⟨rfl, hb3⟩
    have S4 := Lib.hid (S3.out.next hb3)
    clear c10 c11 g3 p0 p1 p2 hb3 S3
    have c11 : v3.cell? ⟨w.heap.size + 1, 11, none⟩ = some (.int .i64 s.sum) := S4.out.at_ (by decide) rfl
    have f11 := S4.out.fz (j := 11) (by decide)
    have S5 := Lib.hid (S4.out.set (j := 11) (by decide) (.int .i64 mz))
    obtain ⟨v4, hv4⟩ : ∃ u, u = v3.setCell ⟨w.heap.size + 1, 11, none⟩ (.int .i64 mz) := ⟨_, rfl⟩
    rw [← hv4] at S5
    have c9 : v4.cell? ⟨w.heap.size + 1, 9, none⟩ = some (.int .i8 s.lev) := S5.out.at_ (by decide) rfl
    have f9 := S5.out.fz (j := 9) (by decide)
    have S6 := Lib.hid (S5.out.set (j := 9) (by decide) (.int .i8 y.lev))
    obtain ⟨v5, hv5⟩ : ∃ u, u = v4.setCell ⟨w.heap.size + 1, 9, none⟩ (.int .i8 y.lev) := ⟨_, rfl⟩
    rw [← hv5] at S6
    have c8 : v5.cell? ⟨w.heap.size + 1, 8, none⟩ = some (.int .i64 (m : Int)) := S6.out.at_ (by decide) (by rw [HM.out]; rfl)
    have cm : v5.cell? ⟨w.heap.size + 1, m, none⟩ = some (cellR (strOf os s) m) := S6.out.at_ (by have := HM.out; omega) (by rw [if_neg (by have := HM.out; omega), if_neg (by have := HM.out; omega), if_neg (by have := HM.out; omega)])
    have fm := S6.out.fz (j := m) (by have := HM.out; omega)
    have S7 := Lib.hid (S6.out.set (j := m) (by have := HM.out; omega) (.int .i8 ((i : Int) + 1)))
    obtain ⟨v6, hv6⟩ : ∃ u, u = v5.setCell ⟨w.heap.size + 1, m, none⟩ (.int .i8 ((i : Int) + 1)) := ⟨_, rfl⟩
    rw [← hv6] at S7
    have d8 : v6.cell? ⟨w.heap.size + 1, 8, none⟩ = some (.int .i64 (m : Int)) := S7.out.at_ (by decide) (by rw [if_neg (by have := HM.out; omega), HM.out]; rfl)
    have f8 := S7.out.fz (j := 8) (by decide)
    have S8 := Lib.hid (S7.out.set (j := 8) (by decide) (.int .i64 ((m : Int) + 1)))
    obtain ⟨v7, hv7⟩ : ∃ u, u = v6.setCell ⟨w.heap.size + 1, 8, none⟩ (.int .i64 ((m : Int) + 1)) := ⟨_, rfl⟩
    rw [← hv7] at S8
    have h8m : m < 8 := by have := HM.out; omega
    have h8i : (m : Int) < 8 := by omega
    have FIN : Hid (StrOwn v7 (w.heap.size + 1) 0 (strOf (os ++ [(i : Int)]) ⟨y.lev, t, mz⟩)) := Lib.hid (S8.out.s.to (by rw [HM.out]; exact strOf_snoc os h8 s ⟨y.lev, t, mz⟩ i))
    have HV4 := Lib.hid hv4
    have HV5 := Lib.hid hv5
    have HV6 := Lib.hid hv6
    have HV7 := Lib.hid hv7
    have HR := Lib.hid S8.out.r
    have HBB := Lib.hid S8.out.b
    clear hv4 hv5 hv6 hv7 S4 S5 S6 S7 S8
    go_wp2_with (first
      | (rw [← HV4.out])
      | (rw [← HV5.out])
      | (rw [← HV6.out])
      | (rw [← HV7.out])
      | (refine wpl_load_str rfl (.tmp 4) rfl (w.heap.size + 1) 0 rfl FIN.out.toRowAt ?_)
      | (refine wpl_store_str rfl (.tmp 6) (.tmp 52) rfl (w.heap.size + 1 + 1) 0 rfl rfl HR.out ?_)
      | fail)
    refine bodyPost_ret (v := strV (strOf (os ++ [(i : Int)]) ⟨y.lev, t, mz⟩)) (results_stored Tryd.results60 rfl (by rw [lst_len]; exact HR.out.there) Tryd.underlying61 rfl (by rw [infoR, lst_len])) rfl ⟨rfl, ?_⟩
    exact below_cells HBB.out (by omega) _ _

end Go.Proofs.YtjhkjbdpmianfaaDoor.iron

/-
  The starts of an order, from that without pieces up to that with all: the program's along, for each measure.
-/
namespace Go.Proofs.YtjhkjbdpmianfaaDoor.iron
open Go Go.RowKit sl stk errs row

def strC (f : Str) : List Value := lst 12 (cellR f)
theorem strC_len (xs : List Str) : ∀ f ∈ xs, (strC f).length = 12 := fun f _ => lst_len 12 _
/-- the start with the first k pieces -/
def stF (x : Iro) (a : Nat) (ps : List Pie) (os : List Int) (k : Nat) : Str := strOf (os.take k) (runs x a ps (os.take k))
def stFs (x : Iro) (a : Nat) (ps : List Pie) (os : List Int) : List Str := (List.range (os.length + 1)).map (stF x a ps os)
theorem stFs_len (x : Iro) (a : Nat) (ps : List Pie) (os : List Int) : (stFs x a ps os).length = os.length + 1 := by simp [stFs]
theorem stFs_at {x : Iro} {a : Nat} {ps : List Pie} {os : List Int} {k : Nat} (h : k ≤ os.length) : (stFs x a ps os)[k]? = some (stF x a ps os k) := by simp [stFs, show k < os.length + 1 by omega]
theorem stF_zero (x : Iro) (a : Nat) (ps : List Pie) (os : List Int) : stF x a ps os 0 = zeroR := by
  unfold stF
  rw [List.take_zero]
  exact strOf_zero
theorem stF_succ {x : Iro} {a : Nat} {ps : List Pie} {os : List Int} {k : Nat} {i : Int} (h : os[k]? = some i) : strOf (os.take k ++ [i]) ((runs x a ps (os.take k)).step x a (ptv ps i)) = stF x a ps os (k + 1) := by
  unfold stF
  rw [runs_take h, take_snoc h]
theorem made_str (n : Nat) (h : 0 < n) (xs : List Str) (h0 : xs[0]? = some zeroR) : Done strC 12 xs 1 (madeCells (strCs zeroR) (n * 12)).toList := by
  intro i f hi hf j v hv
  obtain rfl : i = 0 := by omega
  rw [h0] at hf
  obtain rfl := Option.some.inj hf
  obtain ⟨hj, rfl⟩ := lst_some hv
  have h2 : (strCs zeroR)[j]? = some (cellR zeroR j) := by simpa [strCs] using lst_get (cellR zeroR) hj
  have h3 : (madeCells (strCs zeroR) (n * 12)).toList[0 * 12 + j]? = some ((strCs zeroR)[(0 * 12 + j) % (strCs zeroR).size]!) := by
    simp [madeCells, show j < n * 12 by omega]
  rw [h3, strCs_size, Nat.zero_mul, Nat.zero_add, Nat.mod_eq_of_lt hj, Array.getElem!_eq_getD, Array.getD_eq_getD_getElem?, h2]
  rfl
theorem infoStr : (Tryd.prog.info? 61).map (fun i => (i.zero, i.size, i.bytes)) = some (some (.agg (strCs zeroR)), 12, 40) := by kernel_rfl
theorem str_at {w : World} {base G n c : Nat} {L : List Value} {xs : List Str} {k : Nat} {f : Str} (h : w.ownsRow base 61 12 (.slice (some ⟨G, 0, none⟩) n c) n L) (hD : Done strC 12 xs (k + 1) L) (hx : xs[k]? = some f) : StrAt w G (k * 12) f := by
  refine ⟨(h.lt G rfl).2, fun j hj => ?_⟩
  have h1 := hD k f (by omega) hx j _ (lst_get (cellR f) hj)
  have hlt := (List.getElem?_eq_some_iff.1 h1).1
  have hl := h.1
  exact (h.cellAt (k * 12 + j) (by omega)).trans h1
theorem str_there {w : World} {base G n c : Nat} {L : List Value} {k : Nat} (h : w.ownsRow base 61 12 (.slice (some ⟨G, 0, none⟩) n c) n L) (hk : k < n) : w.there G (k * 12) 12 := by
  intro j hj
  have hl := h.1
  have hlt : k * 12 + j < L.length := by omega
  refine ⟨?_, h.frozenAt _⟩
  rw [h.cellAt _ (by omega), List.getElem?_eq_getElem hlt]
  rfl
/-- what along's rounds keep: what it irons, and the row of a start -/
abbrev AH (x : Iro) (A : Option Addr) (n c : Nat) (fm : Value) (G k : Nat) (f : Str) (w : World) (u : World) : Prop :=
  u.cell? ⟨w.heap.size, 0, none⟩ = some (.int .i8 x.up) ∧ u.cell? ⟨w.heap.size, 1, none⟩ = some (.int .i8 x.down) ∧ u.cell? ⟨w.heap.size, 2, none⟩ = some (.slice A n c) ∧ u.cell? ⟨w.heap.size, 3, none⟩ = some fm ∧ StrAt u G (k * 12) f
theorem AH.next {x : Iro} {A : Option Addr} {n c : Nat} {fm : Value} {G k : Nat} {f : Str} {w u v : World} (h : AH x A n c fm G k f w u) (hz : w.heap.size < u.heap.size) (hb : Below u.heap.size u v) : AH x A n c fm G k f w v :=
  ⟨(hb.cell (p := ⟨_, 0, none⟩) hz).trans h.1, (hb.cell (p := ⟨_, 1, none⟩) hz).trans h.2.1, (hb.cell (p := ⟨_, 2, none⟩) hz).trans h.2.2.1, (hb.cell (p := ⟨_, 3, none⟩) hz).trans h.2.2.2.1, h.2.2.2.2.next hb⟩
theorem AH.mk' {x : Iro} {A : Option Addr} {n c : Nat} {fm : Value} {G k : Nat} {f : Str} {w u : World} {T : TypeId} (hb : Below (w.heap.size + 1) (w.alloc (.cells #[.int .i8 x.up, .int .i8 x.down, .slice A n c, fm] T)) u) (hs : StrAt u G (k * 12) f) : AH x A n c fm G k f w u := by
  have h1 : ∀ i, u.cell? ⟨w.heap.size, i, none⟩ = (#[.int .i8 x.up, .int .i8 x.down, .slice A n c, fm] : Array Value)[i]? := fun i => (hb.cell (p := ⟨_, i, none⟩) (Nat.lt_succ_self _)).trans (cell_of_row _ _ _ _ _ _ (heap_alloc_new w _))
  exact ⟨h1 0, h1 1, h1 2, h1 3, hs⟩
/-- the store behind the round -/
theorem AH.stored {x : Iro} {A : Option Addr} {n c : Nat} {fm : Value} {G k : Nat} {f : Str} {w u : World} (h : AH x A n c fm G k f w u) (hG : w.heap.size ≠ G) (g : Str) : AH x A n c fm G k f w (u.setCells G ((k + 1) * 12) (lst 12 (cellR g))) := by
  have far : ∀ q : Addr, q.block ≠ G → (u.setCells G ((k + 1) * 12) (lst 12 (cellR g))).cell? q = u.cell? q := fun q hq => World.cell?_setCells_out _ _ _ _ _ (fun e => absurd e hq)
  refine ⟨(far _ hG).trans h.1, (far _ hG).trans h.2.1, (far _ hG).trans h.2.2.1, (far _ hG).trans h.2.2.2.1, ⟨by rw [size_setCells]; exact h.2.2.2.2.lt, fun j hj => ?_⟩⟩
  rw [World.cell?_setCells_out _ _ _ _ _ (fun _ _ => .inl (by show k * 12 + j < (k + 1) * 12; omega))]
  exact h.2.2.2.2.cell j hj
end Go.Proofs.YtjhkjbdpmianfaaDoor.iron

/-
  All starts with one piece more: the program's longer, for each measure.
-/
namespace Go.Proofs.YtjhkjbdpmianfaaDoor.iron
open Go Go.RowKit sl stk errs row fold

/-- the starts with one of the first k pieces more -/
def lonK (x : Iro) (a : Nat) (ps : List Pie) (os : List Int) (s : Sta) : Nat → List Str
  | 0 => []
  | k + 1 => lonK x a ps os s k ++ (if (k : Int) ∈ os then [] else [strOf (os ++ [(k : Int)]) (s.step x a (ptv ps k))])
theorem lonK_len (x : Iro) (a : Nat) (ps : List Pie) (os : List Int) (s : Sta) : ∀ k, (lonK x a ps os s k).length ≤ k
  | 0 => Nat.le_refl _
  | k + 1 => by
    have := lonK_len x a ps os s k
    rw [lonK, List.length_append]
    split <;> simp <;> omega
set_option maxRecDepth 100000 in
theorem build_str (f : Str) (u : World) : (Instr.buildSlice 80 1 #[(0, strV f)]).run Tryd.prog u = .ok (.slice (some ⟨u.heap.size, 0, none⟩) 1 1) (u.alloc (.cells (strCs f) 61)) := by kernel_rfl
theorem str_new (u : World) (g : Nat) (f : Str) (T : TypeId) (hg : g = u.heap.size) : ∀ (j : Nat) v, (strC f)[j]? = some v → (u.alloc (.cells (strCs f) T)).cell? ((⟨g, 0, none⟩ : Addr).add j) = some v := by
  subst hg
  intro j v hv
  rw [add_lit, cell_of_row _ _ _ _ _ _ (heap_alloc_new u _), ← Array.getElem?_toList]
  exact hv
theorem str_ones (f : Str) : ∀ u ∈ strC f, u.oneCell' = true := fun u hu => by
  obtain ⟨j, _, rfl⟩ := List.mem_map.1 hu
  exact cellR_one f j
theorem flat_str (xs : List Str) (f : Str) : (xs ++ [f]).flatMap strC = xs.flatMap strC ++ strC f := by simp
/-- what longer has: what it irons, and the start -/
structure LGS (x : Iro) (A : Option Addr) (n c : Nat) (fm : Value) (f : Str) (w u : World) : Prop where
  g0 : u.cell? ⟨w.heap.size, 0, none⟩ = some (.int .i8 x.up)
  g1 : u.cell? ⟨w.heap.size, 1, none⟩ = some (.int .i8 x.down)
  g2 : u.cell? ⟨w.heap.size, 2, none⟩ = some (.slice A n c)
  g3 : u.cell? ⟨w.heap.size, 3, none⟩ = some fm
  s : StrAt u (w.heap.size + 1) 0 f
  b : Below w.heap.size w u
  z : w.heap.size + 2 ≤ u.heap.size
theorem LGS.next {x : Iro} {A : Option Addr} {n c : Nat} {fm : Value} {f : Str} {w u v : World} (h : LGS x A n c fm f w u) (hb : Below (w.heap.size + 2) u v) : LGS x A n c fm f w v :=
  ⟨(hb.cell (p := ⟨_, 0, none⟩) (by show w.heap.size < w.heap.size + 2; omega)).trans h.g0, (hb.cell (p := ⟨_, 1, none⟩) (by show w.heap.size < w.heap.size + 2; omega)).trans h.g1, (hb.cell (p := ⟨_, 2, none⟩) (by show w.heap.size < w.heap.size + 2; omega)).trans h.g2, (hb.cell (p := ⟨_, 3, none⟩) (by show w.heap.size < w.heap.size + 2; omega)).trans h.g3,
   h.s.below hb (by omega), h.b.trans (hb.mono (by omega)), Nat.le_trans h.z hb.size⟩
theorem LGS.new (x : Iro) (A : Option Addr) (n c : Nat) (fm : Value) (f : Str) (w : World) (T U : TypeId) : LGS x A n c fm f w ((w.alloc (.cells #[.int .i8 x.up, .int .i8 x.down, .slice A n c, fm] T)).alloc (.cells (strCs f) U)) := by
  have e : (w.alloc (.cells #[.int .i8 x.up, .int .i8 x.down, .slice A n c, fm] T)).heap.size = w.heap.size + 1 := by simp
  have hs := StrOwn.new (w.alloc (.cells #[.int .i8 x.up, .int .i8 x.down, .slice A n c, fm] T)) f U
  rw [e] at hs
  have h1 : ∀ i, ((w.alloc (.cells #[.int .i8 x.up, .int .i8 x.down, .slice A n c, fm] T)).alloc (.cells (strCs f) U)).cell? ⟨w.heap.size, i, none⟩ = (#[.int .i8 x.up, .int .i8 x.down, .slice A n c, fm] : Array Value)[i]? := fun i =>
    cell_of_row _ _ _ _ _ _ ((heap_alloc_old _ _ (by rw [e]; omega)).trans (heap_alloc_new w _))
  exact ⟨h1 0, h1 1, h1 2, h1 3, hs.toRowAt, ((Below.refl _ _).alloc (Nat.le_refl _) _).alloc (by rw [e]; omega) _, by simp⟩
set_option maxRecDepth 100000 in
set_option maxHeartbeats 4000000 in
theorem longer_0 (x : Iro) (hv : iroB x = true) (A : Option Addr) (n c : Nat) (ps : List Pie) (en : n = ps.length) (hn : n ≤ 8) (hp : ps.all pieB = true) (os : List Int) (h8 : os.length ≤ 8) (hroom : ∀ i : Nat, i < n → (i : Int) ∉ os → os.length < 8) (s : Sta) (hs : s.Ok os.length) (w : World) (hg : Sl Pie.cells 3 w w.heap.size A ps) :
    Calls Tryd.prog 45 #[gV x A n c (.func (.func 53) #[] #[]), strV (strOf os s)] w fun o w' => ∃ v, o = .returned v ∧ w'.ownsRow w.heap.size 61 12 v (lonK x 0 ps os s n).length ((lonK x 0 ps os s n).flatMap strC) ∧ Below w.heap.size w w' := by
  obtain ⟨i0, hI, hz0, hz1, hz2⟩ := info_parts infoStr
  have En := Lib.hid en
  have HV := Lib.hid hv
  have HP := Lib.hid hp
  have HR := Lib.hid hroom
  have HSO := Lib.hid hs
  obtain ⟨f, hf⟩ : ∃ f, f = strOf os s := ⟨_, rfl⟩
  rw [← hf]
  obtain ⟨u0, hu0⟩ : ∃ u, u = (w.alloc (.cells #[.int .i8 x.up, .int .i8 x.down, .slice A n c, .func (.func 53) #[] #[]] 65)).alloc (.cells (strCs f) 61) := ⟨_, rfl⟩
  have S0 : Hid (LGS x A n c (.func (.func 53) #[] #[]) f w u0) := Lib.hid (by rw [hu0]; exact LGS.new ..)
  have HN0 : Hid (u0.ownsRow (w.heap.size + 2) 61 12 (.slice none 0 0) (lonK x 0 ps os s 0).length ((lonK x 0 ps os s 0).flatMap strC)) := Lib.hid (World.ownsRow_nil _ _ _ _)
  have HU := Lib.hid hu0
  have HF := Lib.hid hf
  have HZC := Lib.hid (strCs_size zeroR)
  have g2 := S0.out.g2
  clear en hv hp hroom hs hu0 hf
  go_enter Tryd.func45, Tryd.ntmps45
  go_wp2_with (first | (rw [← HU.out]) | fail)
  clear g2
  go_loopw [10, 6, 5] (fun vi _ vo wr => ∃ k : Nat, k ≤ n ∧ vi = .int .i64 k ∧ wr.ownsRow (w.heap.size + 2) 61 12 vo (lonK x 0 ps os s k).length ((lonK x 0 ps os s k).flatMap strC) ∧ LGS x A n c (.func (.func 53) #[] #[]) f w wr) (fun vi _ _ _ => n - (intOf vi).toNat)
  case atStart => exact ⟨0, by omega, rfl, HN0.out, S0.out⟩
  case round =>
    clear HN0 S0 HU
    obtain ⟨k, hk, rfl, hP, hS⟩ := hrel
    have HPk := Lib.hid hP
    have HS := Lib.hid hS
    clear hP hS
    by_cases hlt : k < n
    · have hll := lonK_len x 0 ps os s k
      by_cases hin : (k : Int) ∈ os
      · have HLK : Hid (lonK x 0 ps os s (k + 1) = lonK x 0 ps os s k) := Lib.hid (by rw [lonK, if_pos hin, List.append_nil])
        have HIN := Lib.hid hin
        clear hin
        go_wp2_with (refine wpl_load_str rfl (.tmp 3) rfl (w.heap.size + 1) 0 rfl HS.out.s ?_)
        have HT := Lib.hid (fun u => has_any os h8 s k (by omega) true (by simp [HIN.out]) u)
        rw [← HF.out] at HT
        refine (HT.out _).mono ?_
        rintro o w2 ⟨rfl, hb2⟩
        have S2 := Lib.hid (HS.out.next (hb2.mono HS.out.z))
        have HP2 := Lib.hid (owns_next HPk.out hb2)
        clear hb2
        go_wp2_with fail
        go_roundw
        case rel => exact ⟨k + 1, by omega, by go_num, by rw [HLK.out]; exact HP2.out, S2.out⟩
        case measure => simp [intOf]; omega
      · have HLK : Hid (lonK x 0 ps os s (k + 1) = lonK x 0 ps os s k ++ [strOf (os ++ [(k : Int)]) (s.step x 0 (ptv ps k))]) := Lib.hid (by rw [lonK, if_neg hin])
        have HIN := Lib.hid hin
        have h8' := HR.out k hlt hin
        clear hin
        go_wp2_with (refine wpl_load_str rfl (.tmp 3) rfl (w.heap.size + 1) 0 rfl HS.out.s ?_)
        have HT := Lib.hid (fun u => has_any os h8 s k (by omega) false (by simp [HIN.out]) u)
        rw [← HF.out] at HT
        refine (HT.out _).mono ?_
        rintro o w2 ⟨rfl, hb2⟩
        have S2 := Lib.hid (HS.out.next (hb2.mono HS.out.z))
        have HP2 := Lib.hid (owns_next HPk.out hb2)
        clear hb2 HT
        have g0 := S2.out.g0
        have g1 := S2.out.g1
        have g2 := S2.out.g2
        have g3 := S2.out.g3
        have HT := Lib.hid (with_0 x HV.out A n c ps En.out hn HP.out os h8' s HSO.out k hlt w2 ((hg.below S2.out.b).more S2.out.b.size))
        rw [← HF.out] at HT
        go_wp2_with (refine wpl_load_str rfl (.tmp 3) rfl (w.heap.size + 1) 0 rfl S2.out.s ?_)
        refine HT.out.mono ?_
        rintro o w3 ⟨rfl, hb3⟩
        have S3 := Lib.hid (S2.out.next (hb3.mono S2.out.z))
        have HP3 := Lib.hid (owns_next HP2.out hb3)
        obtain ⟨fn, hfn⟩ : ∃ fn, strOf (os ++ [(k : Int)]) (s.step x 0 (ptv ps k)) = fn := ⟨_, rfl⟩
        rw [hfn] at HLK ⊢
        have HFN := Lib.hid hfn
        have hz3 := S3.out.z
        clear hb3 HT g0 g1 g2 g3 hfn S2 HP2
        go_wp2_with (first
          | (refine wpList_listed rfl 80 1 _ rfl #[(0, strV fn)] ?hp (build_str fn _) ?_; case hp => simp [Act.eval])
          | (at_builtin; refine wpList_append_own _ rfl (.tmp 17) (.tmp 22) 80 rfl (w.heap.size + 2) 61 i0 (.agg (strCs zeroR)) 12 40 Tryd.underlying80 hI hz0 hz1 hz2 HZC.out (by decide) _ _ _ rfl (HP3.out.alloc _) ⟨_, 0, none⟩ 1 1 (strC fn) rfl (lst_len 12 _) (str_new _ _ _ _ (by simp)) (str_ones fn) (by unfold maxLen; omega) (by omega) (by simp; omega) ?_; intro v3 w5 hP5 hgr _; have S5 := Lib.hid ((S3.out.next (((Below.refl _ _).alloc (Nat.le_refl _) (.cells (strCs fn) 61)).mono hz3)).next (Below.grown (Below.refl _ _) hgr (by simp; omega) (fun g hg => (HP3.out.lt g hg).1))); have HP5 := Lib.hid hP5; clear hP5 hgr)
          | fail)
        go_roundw
        case rel => exact ⟨k + 1, by omega, by go_num, by rw [HLK.out, flat_str, List.length_append]; exact HP5.out, S5.out⟩
        case measure => simp [intOf]; omega
    · obtain rfl : k = n := by omega
      go_wp2_with fail
      go_ret
      exact ⟨_, rfl, owns_below HPk.out (by omega), HS.out.b⟩

set_option maxRecDepth 100000 in
set_option maxHeartbeats 4000000 in
theorem longer_1 (x : Iro) (hv : iroB x = true) (A : Option Addr) (n c : Nat) (ps : List Pie) (en : n = ps.length) (hn : n ≤ 8) (hp : ps.all pieB = true) (os : List Int) (h8 : os.length ≤ 8) (hroom : ∀ i : Nat, i < n → (i : Int) ∉ os → os.length < 8) (s : Sta) (hs : s.Ok os.length) (w : World) (hg : Sl Pie.cells 3 w w.heap.size A ps) :
    Calls Tryd.prog 45 #[gV x A n c (.func (.func 54) #[] #[]), strV (strOf os s)] w fun o w' => ∃ v, o = .returned v ∧ w'.ownsRow w.heap.size 61 12 v (lonK x 1 ps os s n).length ((lonK x 1 ps os s n).flatMap strC) ∧ Below w.heap.size w w' := by
  obtain ⟨i0, hI, hz0, hz1, hz2⟩ := info_parts infoStr
  have En := Lib.hid en
  have HV := Lib.hid hv
  have HP := Lib.hid hp
  have HR := Lib.hid hroom
  have HSO := Lib.hid hs
  obtain ⟨f, hf⟩ : ∃ f, f = strOf os s := ⟨_, rfl⟩
  rw [← hf]
  obtain ⟨u0, hu0⟩ : ∃ u, u = (w.alloc (.cells #[.int .i8 x.up, .int .i8 x.down, .slice A n c, .func (.func 54) #[] #[]] 65)).alloc (.cells (strCs f) 61) := ⟨_, rfl⟩
  have S0 : Hid (LGS x A n c (.func (.func 54) #[] #[]) f w u0) := Lib.hid (by rw [hu0]; exact LGS.new ..)
  have HN0 : Hid (u0.ownsRow (w.heap.size + 2) 61 12 (.slice none 0 0) (lonK x 1 ps os s 0).length ((lonK x 1 ps os s 0).flatMap strC)) := Lib.hid (World.ownsRow_nil _ _ _ _)
  have HU := Lib.hid hu0
  have HF := Lib.hid hf
  have HZC := Lib.hid (strCs_size zeroR)
  have g2 := S0.out.g2
  clear en hv hp hroom hs hu0 hf
  go_enter Tryd.func45, Tryd.ntmps45
  go_wp2_with (first | (rw [← HU.out]) | fail)
  clear g2
  go_loopw [10, 6, 5] (fun vi _ vo wr => ∃ k : Nat, k ≤ n ∧ vi = .int .i64 k ∧ wr.ownsRow (w.heap.size + 2) 61 12 vo (lonK x 1 ps os s k).length ((lonK x 1 ps os s k).flatMap strC) ∧ LGS x A n c (.func (.func 54) #[] #[]) f w wr) (fun vi _ _ _ => n - (intOf vi).toNat)
  case atStart => exact ⟨0, by omega, rfl, HN0.out, S0.out⟩
  case round =>
    clear HN0 S0 HU
    obtain ⟨k, hk, rfl, hP, hS⟩ := hrel
    have HPk := Lib.hid hP
    have HS := Lib.hid hS
    clear hP hS
    by_cases hlt : k < n
    · have hll := lonK_len x 1 ps os s k
      by_cases hin : (k : Int) ∈ os
      · have HLK : Hid (lonK x 1 ps os s (k + 1) = lonK x 1 ps os s k) := Lib.hid (by rw [lonK, if_pos hin, List.append_nil])
        have HIN := Lib.hid hin
        clear hin
        go_wp2_with (refine wpl_load_str rfl (.tmp 3) rfl (w.heap.size + 1) 0 rfl HS.out.s ?_)
        have HT := Lib.hid (fun u => has_any os h8 s k (by omega) true (by simp [HIN.out]) u)
        rw [← HF.out] at HT
        refine (HT.out _).mono ?_
        rintro o w2 ⟨rfl, hb2⟩
        have S2 := Lib.hid (HS.out.next (hb2.mono HS.out.z))
        have HP2 := Lib.hid (owns_next HPk.out hb2)
        clear hb2
        go_wp2_with fail
        go_roundw
        case rel => exact ⟨k + 1, by omega, by go_num, by rw [HLK.out]; exact HP2.out, S2.out⟩
        case measure => simp [intOf]; omega
      · have HLK : Hid (lonK x 1 ps os s (k + 1) = lonK x 1 ps os s k ++ [strOf (os ++ [(k : Int)]) (s.step x 1 (ptv ps k))]) := Lib.hid (by rw [lonK, if_neg hin])
        have HIN := Lib.hid hin
        have h8' := HR.out k hlt hin
        clear hin
        go_wp2_with (refine wpl_load_str rfl (.tmp 3) rfl (w.heap.size + 1) 0 rfl HS.out.s ?_)
        have HT := Lib.hid (fun u => has_any os h8 s k (by omega) false (by simp [HIN.out]) u)
        rw [← HF.out] at HT
        refine (HT.out _).mono ?_
        rintro o w2 ⟨rfl, hb2⟩
        have S2 := Lib.hid (HS.out.next (hb2.mono HS.out.z))
        have HP2 := Lib.hid (owns_next HPk.out hb2)
        clear hb2 HT
        have g0 := S2.out.g0
        have g1 := S2.out.g1
        have g2 := S2.out.g2
        have g3 := S2.out.g3
        have HT := Lib.hid (with_1 x HV.out A n c ps En.out hn HP.out os h8' s HSO.out k hlt w2 ((hg.below S2.out.b).more S2.out.b.size))
        rw [← HF.out] at HT
        go_wp2_with (refine wpl_load_str rfl (.tmp 3) rfl (w.heap.size + 1) 0 rfl S2.out.s ?_)
        refine HT.out.mono ?_
        rintro o w3 ⟨rfl, hb3⟩
        have S3 := Lib.hid (S2.out.next (hb3.mono S2.out.z))
        have HP3 := Lib.hid (owns_next HP2.out hb3)
        obtain ⟨fn, hfn⟩ : ∃ fn, strOf (os ++ [(k : Int)]) (s.step x 1 (ptv ps k)) = fn := ⟨_, rfl⟩
        rw [hfn] at HLK ⊢
        have HFN := Lib.hid hfn
        have hz3 := S3.out.z
        clear hb3 HT g0 g1 g2 g3 hfn S2 HP2
        go_wp2_with (first
          | (refine wpList_listed rfl 80 1 _ rfl #[(0, strV fn)] ?hp (build_str fn _) ?_; case hp => simp [Act.eval])
          | (at_builtin; refine wpList_append_own _ rfl (.tmp 17) (.tmp 22) 80 rfl (w.heap.size + 2) 61 i0 (.agg (strCs zeroR)) 12 40 Tryd.underlying80 hI hz0 hz1 hz2 HZC.out (by decide) _ _ _ rfl (HP3.out.alloc _) ⟨_, 0, none⟩ 1 1 (strC fn) rfl (lst_len 12 _) (str_new _ _ _ _ (by simp)) (str_ones fn) (by unfold maxLen; omega) (by omega) (by simp; omega) ?_; intro v3 w5 hP5 hgr _; have S5 := Lib.hid ((S3.out.next (((Below.refl _ _).alloc (Nat.le_refl _) (.cells (strCs fn) 61)).mono hz3)).next (Below.grown (Below.refl _ _) hgr (by simp; omega) (fun g hg => (HP3.out.lt g hg).1))); have HP5 := Lib.hid hP5; clear hP5 hgr)
          | fail)
        go_roundw
        case rel => exact ⟨k + 1, by omega, by go_num, by rw [HLK.out, flat_str, List.length_append]; exact HP5.out, S5.out⟩
        case measure => simp [intOf]; omega
    · obtain rfl : k = n := by omega
      go_wp2_with fail
      go_ret
      exact ⟨_, rfl, owns_below HPk.out (by omega), HS.out.b⟩

set_option maxRecDepth 100000 in
set_option maxHeartbeats 4000000 in
theorem longer_2 (x : Iro) (hv : iroB x = true) (A : Option Addr) (n c : Nat) (ps : List Pie) (en : n = ps.length) (hn : n ≤ 8) (hp : ps.all pieB = true) (os : List Int) (h8 : os.length ≤ 8) (hroom : ∀ i : Nat, i < n → (i : Int) ∉ os → os.length < 8) (s : Sta) (hs : s.Ok os.length) (w : World) (hg : Sl Pie.cells 3 w w.heap.size A ps) :
    Calls Tryd.prog 45 #[gV x A n c (.func (.func 56) #[] #[]), strV (strOf os s)] w fun o w' => ∃ v, o = .returned v ∧ w'.ownsRow w.heap.size 61 12 v (lonK x 2 ps os s n).length ((lonK x 2 ps os s n).flatMap strC) ∧ Below w.heap.size w w' := by
  obtain ⟨i0, hI, hz0, hz1, hz2⟩ := info_parts infoStr
  have En := Lib.hid en
  have HV := Lib.hid hv
  have HP := Lib.hid hp
  have HR := Lib.hid hroom
  have HSO := Lib.hid hs
  obtain ⟨f, hf⟩ : ∃ f, f = strOf os s := ⟨_, rfl⟩
  rw [← hf]
  obtain ⟨u0, hu0⟩ : ∃ u, u = (w.alloc (.cells #[.int .i8 x.up, .int .i8 x.down, .slice A n c, .func (.func 56) #[] #[]] 65)).alloc (.cells (strCs f) 61) := ⟨_, rfl⟩
  have S0 : Hid (LGS x A n c (.func (.func 56) #[] #[]) f w u0) := Lib.hid (by rw [hu0]; exact LGS.new ..)
  have HN0 : Hid (u0.ownsRow (w.heap.size + 2) 61 12 (.slice none 0 0) (lonK x 2 ps os s 0).length ((lonK x 2 ps os s 0).flatMap strC)) := Lib.hid (World.ownsRow_nil _ _ _ _)
  have HU := Lib.hid hu0
  have HF := Lib.hid hf
  have HZC := Lib.hid (strCs_size zeroR)
  have g2 := S0.out.g2
  clear en hv hp hroom hs hu0 hf
  go_enter Tryd.func45, Tryd.ntmps45
  go_wp2_with (first | (rw [← HU.out]) | fail)
  clear g2
  go_loopw [10, 6, 5] (fun vi _ vo wr => ∃ k : Nat, k ≤ n ∧ vi = .int .i64 k ∧ wr.ownsRow (w.heap.size + 2) 61 12 vo (lonK x 2 ps os s k).length ((lonK x 2 ps os s k).flatMap strC) ∧ LGS x A n c (.func (.func 56) #[] #[]) f w wr) (fun vi _ _ _ => n - (intOf vi).toNat)
  case atStart => exact ⟨0, by omega, rfl, HN0.out, S0.out⟩
  case round =>
    clear HN0 S0 HU
    obtain ⟨k, hk, rfl, hP, hS⟩ := hrel
    have HPk := Lib.hid hP
    have HS := Lib.hid hS
    clear hP hS
    by_cases hlt : k < n
    · have hll := lonK_len x 2 ps os s k
      by_cases hin : (k : Int) ∈ os
      · have HLK : Hid (lonK x 2 ps os s (k + 1) = lonK x 2 ps os s k) := Lib.hid (by rw [lonK, if_pos hin, List.append_nil])
        have HIN := Lib.hid hin
        clear hin
        go_wp2_with (refine wpl_load_str rfl (.tmp 3) rfl (w.heap.size + 1) 0 rfl HS.out.s ?_)
        have HT := Lib.hid (fun u => has_any os h8 s k (by omega) true (by simp [HIN.out]) u)
        rw [← HF.out] at HT
        refine (HT.out _).mono ?_
        rintro o w2 ⟨rfl, hb2⟩
        have S2 := Lib.hid (HS.out.next (hb2.mono HS.out.z))
        have HP2 := Lib.hid (owns_next HPk.out hb2)
        clear hb2
        go_wp2_with fail
        go_roundw
        case rel => exact ⟨k + 1, by omega, by go_num, by rw [HLK.out]; exact HP2.out, S2.out⟩
        case measure => simp [intOf]; omega
      · have HLK : Hid (lonK x 2 ps os s (k + 1) = lonK x 2 ps os s k ++ [strOf (os ++ [(k : Int)]) (s.step x 2 (ptv ps k))]) := Lib.hid (by rw [lonK, if_neg hin])
        have HIN := Lib.hid hin
        have h8' := HR.out k hlt hin
        clear hin
        go_wp2_with (refine wpl_load_str rfl (.tmp 3) rfl (w.heap.size + 1) 0 rfl HS.out.s ?_)
        have HT := Lib.hid (fun u => has_any os h8 s k (by omega) false (by simp [HIN.out]) u)
        rw [← HF.out] at HT
        refine (HT.out _).mono ?_
        rintro o w2 ⟨rfl, hb2⟩
        have S2 := Lib.hid (HS.out.next (hb2.mono HS.out.z))
        have HP2 := Lib.hid (owns_next HPk.out hb2)
        clear hb2 HT
        have g0 := S2.out.g0
        have g1 := S2.out.g1
        have g2 := S2.out.g2
        have g3 := S2.out.g3
        have HT := Lib.hid (with_2 x HV.out A n c ps En.out hn HP.out os h8' s HSO.out k hlt w2 ((hg.below S2.out.b).more S2.out.b.size))
        rw [← HF.out] at HT
        go_wp2_with (refine wpl_load_str rfl (.tmp 3) rfl (w.heap.size + 1) 0 rfl S2.out.s ?_)
        refine HT.out.mono ?_
        rintro o w3 ⟨rfl, hb3⟩
        have S3 := Lib.hid (S2.out.next (hb3.mono S2.out.z))
        have HP3 := Lib.hid (owns_next HP2.out hb3)
        obtain ⟨fn, hfn⟩ : ∃ fn, strOf (os ++ [(k : Int)]) (s.step x 2 (ptv ps k)) = fn := ⟨_, rfl⟩
        rw [hfn] at HLK ⊢
        have HFN := Lib.hid hfn
        have hz3 := S3.out.z
        clear hb3 HT g0 g1 g2 g3 hfn S2 HP2
        go_wp2_with (first
          | (refine wpList_listed rfl 80 1 _ rfl #[(0, strV fn)] ?hp (build_str fn _) ?_; case hp => simp [Act.eval])
          | (at_builtin; refine wpList_append_own _ rfl (.tmp 17) (.tmp 22) 80 rfl (w.heap.size + 2) 61 i0 (.agg (strCs zeroR)) 12 40 Tryd.underlying80 hI hz0 hz1 hz2 HZC.out (by decide) _ _ _ rfl (HP3.out.alloc _) ⟨_, 0, none⟩ 1 1 (strC fn) rfl (lst_len 12 _) (str_new _ _ _ _ (by simp)) (str_ones fn) (by unfold maxLen; omega) (by omega) (by simp; omega) ?_; intro v3 w5 hP5 hgr _; have S5 := Lib.hid ((S3.out.next (((Below.refl _ _).alloc (Nat.le_refl _) (.cells (strCs fn) 61)).mono hz3)).next (Below.grown (Below.refl _ _) hgr (by simp; omega) (fun g hg => (HP3.out.lt g hg).1))); have HP5 := Lib.hid hP5; clear hP5 hgr)
          | fail)
        go_roundw
        case rel => exact ⟨k + 1, by omega, by go_num, by rw [HLK.out, flat_str, List.length_append]; exact HP5.out, S5.out⟩
        case measure => simp [intOf]; omega
    · obtain rfl : k = n := by omega
      go_wp2_with fail
      go_ret
      exact ⟨_, rfl, owns_below HPk.out (by omega), HS.out.b⟩

set_option maxRecDepth 100000 in
set_option maxHeartbeats 4000000 in
theorem longer_3 (x : Iro) (hv : iroB x = true) (A : Option Addr) (n c : Nat) (ps : List Pie) (en : n = ps.length) (hn : n ≤ 8) (hp : ps.all pieB = true) (os : List Int) (h8 : os.length ≤ 8) (hroom : ∀ i : Nat, i < n → (i : Int) ∉ os → os.length < 8) (s : Sta) (hs : s.Ok os.length) (w : World) (hg : Sl Pie.cells 3 w w.heap.size A ps) :
    Calls Tryd.prog 45 #[gV x A n c (.func (.func 57) #[] #[]), strV (strOf os s)] w fun o w' => ∃ v, o = .returned v ∧ w'.ownsRow w.heap.size 61 12 v (lonK x 3 ps os s n).length ((lonK x 3 ps os s n).flatMap strC) ∧ Below w.heap.size w w' := by
  obtain ⟨i0, hI, hz0, hz1, hz2⟩ := info_parts infoStr
  have En := Lib.hid en
  have HV := Lib.hid hv
  have HP := Lib.hid hp
  have HR := Lib.hid hroom
  have HSO := Lib.hid hs
  obtain ⟨f, hf⟩ : ∃ f, f = strOf os s := ⟨_, rfl⟩
  rw [← hf]
  obtain ⟨u0, hu0⟩ : ∃ u, u = (w.alloc (.cells #[.int .i8 x.up, .int .i8 x.down, .slice A n c, .func (.func 57) #[] #[]] 65)).alloc (.cells (strCs f) 61) := ⟨_, rfl⟩
  have S0 : Hid (LGS x A n c (.func (.func 57) #[] #[]) f w u0) := Lib.hid (by rw [hu0]; exact LGS.new ..)
  have HN0 : Hid (u0.ownsRow (w.heap.size + 2) 61 12 (.slice none 0 0) (lonK x 3 ps os s 0).length ((lonK x 3 ps os s 0).flatMap strC)) := Lib.hid (World.ownsRow_nil _ _ _ _)
  have HU := Lib.hid hu0
  have HF := Lib.hid hf
  have HZC := Lib.hid (strCs_size zeroR)
  have g2 := S0.out.g2
  clear en hv hp hroom hs hu0 hf
  go_enter Tryd.func45, Tryd.ntmps45
  go_wp2_with (first | (rw [← HU.out]) | fail)
  clear g2
  go_loopw [10, 6, 5] (fun vi _ vo wr => ∃ k : Nat, k ≤ n ∧ vi = .int .i64 k ∧ wr.ownsRow (w.heap.size + 2) 61 12 vo (lonK x 3 ps os s k).length ((lonK x 3 ps os s k).flatMap strC) ∧ LGS x A n c (.func (.func 57) #[] #[]) f w wr) (fun vi _ _ _ => n - (intOf vi).toNat)
  case atStart => exact ⟨0, by omega, rfl, HN0.out, S0.out⟩
  case round =>
    clear HN0 S0 HU
    obtain ⟨k, hk, rfl, hP, hS⟩ := hrel
    have HPk := Lib.hid hP
    have HS := Lib.hid hS
    clear hP hS
    by_cases hlt : k < n
    · have hll := lonK_len x 3 ps os s k
      by_cases hin : (k : Int) ∈ os
      · have HLK : Hid (lonK x 3 ps os s (k + 1) = lonK x 3 ps os s k) := Lib.hid (by rw [lonK, if_pos hin, List.append_nil])
        have HIN := Lib.hid hin
        clear hin
        go_wp2_with (refine wpl_load_str rfl (.tmp 3) rfl (w.heap.size + 1) 0 rfl HS.out.s ?_)
        have HT := Lib.hid (fun u => has_any os h8 s k (by omega) true (by simp [HIN.out]) u)
        rw [← HF.out] at HT
        refine (HT.out _).mono ?_
        rintro o w2 ⟨rfl, hb2⟩
        have S2 := Lib.hid (HS.out.next (hb2.mono HS.out.z))
        have HP2 := Lib.hid (owns_next HPk.out hb2)
        clear hb2
        go_wp2_with fail
        go_roundw
        case rel => exact ⟨k + 1, by omega, by go_num, by rw [HLK.out]; exact HP2.out, S2.out⟩
        case measure => simp [intOf]; omega
      · have HLK : Hid (lonK x 3 ps os s (k + 1) = lonK x 3 ps os s k ++ [strOf (os ++ [(k : Int)]) (s.step x 3 (ptv ps k))]) := Lib.hid (by rw [lonK, if_neg hin])
        have HIN := Lib.hid hin
        have h8' := HR.out k hlt hin
        clear hin
        go_wp2_with (refine wpl_load_str rfl (.tmp 3) rfl (w.heap.size + 1) 0 rfl HS.out.s ?_)
        have HT := Lib.hid (fun u => has_any os h8 s k (by omega) false (by simp [HIN.out]) u)
        rw [← HF.out] at HT
        refine (HT.out _).mono ?_
        rintro o w2 ⟨rfl, hb2⟩
        have S2 := Lib.hid (HS.out.next (hb2.mono HS.out.z))
        have HP2 := Lib.hid (owns_next HPk.out hb2)
        clear hb2 HT
        have g0 := S2.out.g0
        have g1 := S2.out.g1
        have g2 := S2.out.g2
        have g3 := S2.out.g3
        have HT := Lib.hid (with_3 x HV.out A n c ps En.out hn HP.out os h8' s HSO.out k hlt w2 ((hg.below S2.out.b).more S2.out.b.size))
        rw [← HF.out] at HT
        go_wp2_with (refine wpl_load_str rfl (.tmp 3) rfl (w.heap.size + 1) 0 rfl S2.out.s ?_)
        refine HT.out.mono ?_
        rintro o w3 ⟨rfl, hb3⟩
        have S3 := Lib.hid (S2.out.next (hb3.mono S2.out.z))
        have HP3 := Lib.hid (owns_next HP2.out hb3)
        obtain ⟨fn, hfn⟩ : ∃ fn, strOf (os ++ [(k : Int)]) (s.step x 3 (ptv ps k)) = fn := ⟨_, rfl⟩
        rw [hfn] at HLK ⊢
        have HFN := Lib.hid hfn
        have hz3 := S3.out.z
        clear hb3 HT g0 g1 g2 g3 hfn S2 HP2
        go_wp2_with (first
          | (refine wpList_listed rfl 80 1 _ rfl #[(0, strV fn)] ?hp (build_str fn _) ?_; case hp => simp [Act.eval])
          | (at_builtin; refine wpList_append_own _ rfl (.tmp 17) (.tmp 22) 80 rfl (w.heap.size + 2) 61 i0 (.agg (strCs zeroR)) 12 40 Tryd.underlying80 hI hz0 hz1 hz2 HZC.out (by decide) _ _ _ rfl (HP3.out.alloc _) ⟨_, 0, none⟩ 1 1 (strC fn) rfl (lst_len 12 _) (str_new _ _ _ _ (by simp)) (str_ones fn) (by unfold maxLen; omega) (by omega) (by simp; omega) ?_; intro v3 w5 hP5 hgr _; have S5 := Lib.hid ((S3.out.next (((Below.refl _ _).alloc (Nat.le_refl _) (.cells (strCs fn) 61)).mono hz3)).next (Below.grown (Below.refl _ _) hgr (by simp; omega) (fun g hg => (HP3.out.lt g hg).1))); have HP5 := Lib.hid hP5; clear hP5 hgr)
          | fail)
        go_roundw
        case rel => exact ⟨k + 1, by omega, by go_num, by rw [HLK.out, flat_str, List.length_append]; exact HP5.out, S5.out⟩
        case measure => simp [intOf]; omega
    · obtain rfl : k = n := by omega
      go_wp2_with fail
      go_ret
      exact ⟨_, rfl, owns_below HPk.out (by omega), HS.out.b⟩

end Go.Proofs.YtjhkjbdpmianfaaDoor.iron

/-
  The program's map of measures, and what it irons: newIroning.
-/
namespace Go.Proofs.YtjhkjbdpmianfaaDoor.iron
open Go Go.RowKit Go.Maps sl stk errs row

/-- how a function reads: by its number -/
def readF : Value → Option (DataW Unit × List MemPlace)
  | .func (.func k) ⟨[]⟩ ⟨[]⟩ => some (.lit (.int .i64 k), [])
  | _ => some (.lit (.bool false), [])
theorem readF_inv {v : Value} {k : Nat} {ps : List MemPlace} (h : readF v = some (.lit (.int .i64 k), ps)) : v = .func (.func k) #[] #[] := by
  unfold readF at h
  split at h
  · injection h with h
    injection h with h _
    injection h with h
    injection h with _ h
    rw [Int.ofNat.inj h]
  · injection h with h
    injection h with h _
    injection h with h
    cases h
theorem keyedA : Keyed Tryd.prog 46 := int_keyed Tryd.underlying46
theorem undMA : Tryd.prog.underlying 77 = some (.map 46 63) := by kernel_rfl
theorem keyA0 : keyOf Tryd.prog 46 (.int .u8 0) = some (.int .u8 0) := by kernel_rfl
theorem keyA1 : keyOf Tryd.prog 46 (.int .u8 1) = some (.int .u8 1) := by kernel_rfl
theorem keyA2 : keyOf Tryd.prog 46 (.int .u8 2) = some (.int .u8 2) := by kernel_rfl
theorem keyA3 : keyOf Tryd.prog 46 (.int .u8 3) = some (.int .u8 3) := by kernel_rfl
theorem zeroF (w : World) : (zeroValue 63).run Tryd.prog w = .ok .nilFunc w := by kernel_rfl
def fnum : Nat → Nat
  | 0 => 53
  | 1 => 54
  | 2 => 56
  | _ => 57
abbrev putF (D : DataW Unit) (a : Nat) : DataW Unit := D.put (.int .u8 a) (.lit (.int .i64 (fnum a)))
abbrev allF : DataW Unit := putF (putF (putF (putF (.map []) 0) 1) 2) 3
theorem atF0 : allF.atKey (.int .u8 0) (.lit (.bool false)) = .lit (.int .i64 53) := by kernel_rfl
theorem atF1 : allF.atKey (.int .u8 1) (.lit (.bool false)) = .lit (.int .i64 54) := by kernel_rfl
theorem atF2 : allF.atKey (.int .u8 2) (.lit (.bool false)) = .lit (.int .i64 56) := by kernel_rfl
theorem atF3 : allF.atKey (.int .u8 3) (.lit (.bool false)) = .lit (.int .i64 57) := by kernel_rfl
/-- an entry of a map that is written out -/
theorem wpList_insert_own {H : Type} {P : Program} (w : World) {ops : Array Oper} {rest : List Oper} {o : Oper} {a : Act} {Q : Exit → Act → World → Prop}
    (hg : o.guard = none) (m x v : Operand) (t : TypeId) (hop : o.op = Op.insert t m x v)
    (k e : TypeId) (K : Keyed P k) (ht : P.underlying t = some (.map k e)) (R : Value → Option (DataW H × List MemPlace)) (b n : Nat) (D : DataW H)
    (hm : a.eval m = .map (some b)) (hown : w.ownsMap P k R b n D) (hn : n < maxLen) (key val : Value) (kl : Lit) (hx : a.eval x = key) (hv : a.eval v = val) (hkey : keyOf P k key = some kl)
    (d : DataW H) (ps : List MemPlace) (hval : R val = some (d, ps))
    (hK : ∀ w', w'.ownsMap P k R b (n + 1) (D.put kl d) → w.grownBy w' (some b) → wpList P ops Q rest (a.put o.dst undef) w') :
    wpList P ops Q (o :: rest) a w := by
  refine wpList_plain hg fun K' hK' => ?_
  obtain ⟨w', hrun, r1, r2⟩ := hown.update K ht hn hkey hval
  unfold Oper.wp
  simp [execOp, hop, hm, hx, hv, hrun, Result.andThen]
  exact hK' _ _ (hK w' r1 r2)
abbrev ownsF (w : World) (b n : Nat) (D : DataW Unit) : Prop := w.ownsMap Tryd.prog 46 readF b n D
set_option maxRecDepth 100000 in
set_option maxHeartbeats 1000000 in
theorem measures_any (w : World) :
    Calls Tryd.prog 42 #[] w fun o w' => ∃ g, o = .returned (.map (some g)) ∧ ownsF w' g 4 allF ∧ Below w.heap.size w w' := by
  have hmm := @run_makeMap Tryd.prog
  have H0 := Lib.hid (World.ownsMap_made w Tryd.prog 46 readF)
  have B0 := Lib.hid ((Below.refl w.heap.size w).alloc (Nat.le_refl _) (.map #[] 0))
  go_enter Tryd.func42, Tryd.ntmps42
  go_wp2_with (first
    | (refine wpList_insert_own _ rfl (.tmp 1) (.const (.int .u8 0)) (.func 53) 77 rfl 46 63 keyedA undMA readF w.heap.size 0 _ rfl H0.out (by unfold maxLen; omega) (.int .u8 0) (.func (.func 53) #[] #[]) (.int .u8 0) rfl rfl keyA0 (.lit (.int .i64 (fnum 0))) [] rfl ?_; intro w1 h1 g1; have H1 := Lib.hid h1; have B1 := Lib.hid (B0.out.trans (grownBy_below g1 B0.out.size (Nat.le_refl _))); clear h1 g1 H0 B0)
    | (refine wpList_insert_own _ rfl (.tmp 1) (.const (.int .u8 1)) (.func 54) 77 rfl 46 63 keyedA undMA readF w.heap.size 1 _ rfl H1.out (by unfold maxLen; omega) (.int .u8 1) (.func (.func 54) #[] #[]) (.int .u8 1) rfl rfl keyA1 (.lit (.int .i64 (fnum 1))) [] rfl ?_; intro w2 h2 g2; have H2 := Lib.hid h2; have B2 := Lib.hid (B1.out.trans (grownBy_below g2 B1.out.size (Nat.le_refl _))); clear h2 g2 H1 B1)
    | (refine wpList_insert_own _ rfl (.tmp 1) (.const (.int .u8 2)) (.func 56) 77 rfl 46 63 keyedA undMA readF w.heap.size 2 _ rfl H2.out (by unfold maxLen; omega) (.int .u8 2) (.func (.func 56) #[] #[]) (.int .u8 2) rfl rfl keyA2 (.lit (.int .i64 (fnum 2))) [] rfl ?_; intro w3 h3 g3; have H3 := Lib.hid h3; have B3 := Lib.hid (B2.out.trans (grownBy_below g3 B2.out.size (Nat.le_refl _))); clear h3 g3 H2 B2)
    | (refine wpList_insert_own _ rfl (.tmp 1) (.const (.int .u8 3)) (.func 57) 77 rfl 46 63 keyedA undMA readF w.heap.size 3 _ rfl H3.out (by unfold maxLen; omega) (.int .u8 3) (.func (.func 57) #[] #[]) (.int .u8 3) rfl rfl keyA3 (.lit (.int .i64 (fnum 3))) [] rfl ?_; intro w4 h4 g4; have H4 := Lib.hid h4; have B4 := Lib.hid (B3.out.trans (grownBy_below g4 B3.out.size (Nat.le_refl _))); clear h4 g4 H3 B3)
    | fail)
  go_ret
  exact ⟨_, rfl, H4.out, B4.out⟩
end Go.Proofs.YtjhkjbdpmianfaaDoor.iron

/-
  When pieces are finished in an order: the model's l07Times.
-/
namespace Go.Proofs.YtjhkjbdpmianfaaDoor.iron
open Go Go.RowKit sl stk errs row fold

/-- when each piece is finished, by the order -/
def timK (x : Iro) (ps : List Pie) (os : List Int) (k : Nat) : List Int := (List.range k).map fun i => (runs x 0 ps (os.take (i + 1))).at_
def tims (x : Iro) (ps : List Pie) (os : List Int) : List Int := timK x ps os os.length
theorem timK_len (x : Iro) (ps : List Pie) (os : List Int) (k : Nat) : (timK x ps os k).length = k := by simp [timK]
theorem timK_succ (x : Iro) (ps : List Pie) (os : List Int) (k : Nat) : timK x ps os (k + 1) = timK x ps os k ++ [(runs x 0 ps (os.take (k + 1))).at_] := by simp [timK, List.range_succ]
theorem tims_at {x : Iro} {ps : List Pie} {os : List Int} {k : Nat} (h : k < os.length) : (tims x ps os)[k]? = some (runs x 0 ps (os.take (k + 1))).at_ := by simp [tims, timK, h]
abbrev TH (x : Iro) (p : Pie) (b : Nat) (w u : World) : Prop := u.cell? ⟨w.heap.size, 0, none⟩ = some (.int .i8 x.up) ∧ u.cell? ⟨w.heap.size, 1, none⟩ = some (.int .i8 x.down) ∧ u.cell? ⟨b, 0, none⟩ = some (.int .i8 p.lev) ∧ u.cell? ⟨b, 1, none⟩ = some (.int .i8 p.mins)
theorem TH.next {x : Iro} {p : Pie} {b : Nat} {w u v : World} (h : TH x p b w u) (hz : w.heap.size < u.heap.size) (hbz : b < u.heap.size) (hb : Below u.heap.size u v) : TH x p b w v :=
  ⟨(hb.cell (p := ⟨_, 0, none⟩) hz).trans h.1, (hb.cell (p := ⟨_, 1, none⟩) hz).trans h.2.1, (hb.cell (p := ⟨_, 0, none⟩) hbz).trans h.2.2.1, (hb.cell (p := ⟨_, 1, none⟩) hbz).trans h.2.2.2⟩
theorem own_noI {u : World} {b : Nat} (h : b ≤ u.heap.size) : (u.alloc (.cells #[] 2)).ownsRow b 2 1 (.slice (some ⟨u.heap.size, 0, none⟩) 0 0) 0 (([] : List Int).flatMap intS.C) :=
  World.ownsRow_lit u #[] 0 h (by unfold maxLen; simp) rfl
end Go.Proofs.YtjhkjbdpmianfaaDoor.iron

/-
  RisingOrder and DueOrder: the program's.
-/
namespace Go.Proofs.YtjhkjbdpmianfaaDoor.iron
open Go Go.RowKit sl stk errs ins fold

/-- the indices below n -/
def idx (n : Nat) : List Int := (List.range n).map Int.ofNat
theorem idx_len (n : Nat) : (idx n).length = n := by simp [idx]
theorem idx_at {n k : Nat} (h : k < n) : (idx n)[k]? = some (k : Int) := by simp [idx, h]
theorem idx_in {n : Nat} : ∀ i ∈ idx n, 0 ≤ i ∧ i < n := fun i hi => by
  obtain ⟨k, hk, rfl⟩ := List.mem_map.1 hi
  have := List.mem_range.1 hk
  exact ⟨Int.natCast_nonneg k, Int.ofNat_lt.2 this⟩
def keyK (k : Nat) (ps : List Pie) (i : Int) : Int := if k = 0 then (ptv ps i).lev else (ptv ps i).due
def ordK (k : Nat) (ps : List Pie) : List Int × Nat := if codePs ps = 0 then (srt (keyK k ps) (idx ps.length), 0) else ([], codePs ps)
abbrev riseR (ps : List Pie) := ordK 0 ps
abbrev dueR (ps : List Pie) := ordK 1 ps
theorem ord_ok {k : Nat} {ps : List Pie} {ys : List Int} {r1 : Nat} (h : ordK k ps = (ys, r1)) (hc : codePs ps = 0) : srt (keyK k ps) (idx ps.length) = ys ∧ r1 = 0 := by
  rw [ordK, if_pos hc] at h
  simp at h
  exact ⟨h.1, h.2.symm⟩
theorem ord_no {k : Nat} {ps : List Pie} {ys : List Int} {r1 i : Nat} (h : ordK k ps = (ys, r1)) (hc : codePs ps = i + 1) : ys = [] ∧ r1 = i + 1 := by
  rw [ordK, if_neg (by omega), hc] at h
  simp at h
  exact ⟨h.1, h.2.symm⟩
theorem ordR_le {k : Nat} {ps : List Pie} {ys : List Int} {r1 : Nat} (h : ordK k ps = (ys, r1)) : ys.length ≤ 1048576 := by
  cases hc : codePs ps with
  | zero =>
    obtain ⟨_, h8⟩ := codePs_zero hc
    rw [← (ord_ok h hc).1, srt_len, idx_len]
    omega
  | succ i => rw [(ord_no h hc).1]; simp
/-- the list and the function in their boxes -/
structure BX (A : Option Addr) (n c : Nat) (fv : Value) (w u : World) : Prop where
  c2 : u.cell? ⟨w.heap.size, 0, none⟩ = some (.slice A n c)
  c3 : u.cell? ⟨w.heap.size + 1, 0, none⟩ = some fv
  b : Below w.heap.size w u
  z : w.heap.size + 1 < u.heap.size
theorem BX.new (A : Option Addr) (n c : Nat) (fv : Value) (w : World) (T U : TypeId) : BX A n c fv w ((w.alloc (.cells #[.slice A n c] T)).alloc (.cells #[fv] U)) := by
  have e : (w.alloc (.cells #[.slice A n c] T)).heap.size = w.heap.size + 1 := by simp
  have h1 := heap_alloc_new (w.alloc (.cells #[.slice A n c] T)) (.cells #[fv] U)
  rw [e] at h1
  exact ⟨cell_of_row _ _ 0 _ _ _ ((heap_alloc_old _ _ (by rw [e]; omega)).trans (heap_alloc_new w _)), cell_of_row _ _ 0 _ _ _ h1, ((Below.refl _ _).alloc (Nat.le_refl _) _).alloc (by rw [e]; omega) _, by simp⟩
theorem BX.next {A : Option Addr} {n c : Nat} {fv : Value} {w u v : World} (h : BX A n c fv w u) {B : Nat} (hB : w.heap.size + 1 < B) (hb : Below B u v) : BX A n c fv w v :=
  ⟨(hb.cell (p := ⟨_, 0, none⟩) (by show w.heap.size < B; omega)).trans h.c2, (hb.cell (p := ⟨_, 0, none⟩) hB).trans h.c3, h.b.trans (hb.mono (by omega)), Nat.lt_of_lt_of_le h.z hb.size⟩
end Go.Proofs.YtjhkjbdpmianfaaDoor.iron
