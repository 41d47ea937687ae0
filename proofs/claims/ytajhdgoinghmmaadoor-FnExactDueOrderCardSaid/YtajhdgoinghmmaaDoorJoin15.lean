/-
  Several texts of this proof, joined.
-/
import Derived.Test.YtajhdgoinghmmaaDoorJoin14
import Derived.Test.YtajhdgoinghmmaaDoorRowAt
import Derived.Test.YtajhdgoinghmmaaDoorStill
import Derived.Test.YtajhdgoinghmmaaDoorJoin13
import Derived.Deep.RegionHeld3
/-
  What is measured of pieces in an order: the program's measures, one by one.
-/
namespace Go.Proofs.YtajhdgoinghmmaaDoor.iron
open Go Go.RowKit sl stk errs

set_option maxHeartbeats 1000000 in
theorem lateBy_any (p : Pie) (hp : pieB p = true) (t : Int) (h0 : 0 ≤ t) (h1 : t ≤ 10000) (z : Int) (hz : late p t = z) (w : World) :
    Calls Tryd.prog 122 #[p.v, .int .i64 t] w fun o w' => o = .returned (.int .i64 z) ∧ Below w.heap.size w w' := by
  subst hz
  obtain ⟨_, _, d0, d1⟩ := pieB_iff.1 hp
  obtain ⟨l, m, d⟩ := p
  simp only at d0 d1
  go_enter Tryd.func122, Tryd.ntmps122
  go_wp2_with fail
  all_goals go_ret
  all_goals exact ⟨ret_int (by unfold late; simp only; first | rfl | (split <;> omega)), by repeat (first | exact Below.refl _ _ | assumption | apply Below.drew | (refine Below.alloc ?_ (by first | (simp; done) | (simp; omega) | omega) _) | (refine Below.setCell ?_ (by first | (simp; done) | (simp; omega) | omega) _))⟩
/-- the program's function for each measure -/
def meaV : Nat → Value
  | 0 => .func (.func 120) #[] #[]
  | 1 => .func (.func 121) #[] #[]
  | 2 => .func (.func 123) #[] #[]
  | _ => .func (.func 124) #[] #[]
set_option maxHeartbeats 1000000 in
theorem mea_0 (sum : Int) (p : Pie) (hp : pieB p = true) (t : Int) (s0 : 0 ≤ sum) (s1 : sum ≤ 100000) (h0 : 0 ≤ t) (h1 : t ≤ 10000) (z : Int) (hz : mea 0 sum p t = z) (w : World) :
    Calls Tryd.prog 120 #[.int .i64 sum, p.v, .int .i64 t] w fun o w' => o = .returned (.int .i64 z) ∧ Below w.heap.size w w' := by
  subst hz
  obtain ⟨pl, pm, pd⟩ := p
  go_enter Tryd.func120, Tryd.ntmps120
  go_wp2_with fail
  go_ret
  exact ⟨ret_int rfl, by repeat (first | exact Below.refl _ _ | assumption | apply Below.drew | (refine Below.alloc ?_ (by first | (simp; done) | (simp; omega) | omega) _) | (refine Below.setCell ?_ (by first | (simp; done) | (simp; omega) | omega) _))⟩

set_option maxHeartbeats 1000000 in
theorem mea_1 (sum : Int) (p : Pie) (hp : pieB p = true) (t : Int) (s0 : 0 ≤ sum) (s1 : sum ≤ 100000) (h0 : 0 ≤ t) (h1 : t ≤ 10000) (z : Int) (hz : mea 1 sum p t = z) (w : World) :
    Calls Tryd.prog 121 #[.int .i64 sum, p.v, .int .i64 t] w fun o w' => o = .returned (.int .i64 z) ∧ Below w.heap.size w w' := by
  subst hz
  have hl := late_bd hp h0
  obtain ⟨q, hq⟩ : ∃ q, late p t = q := ⟨_, rfl⟩
  rw [hq] at hl
  obtain ⟨l0, l1⟩ := hl
  have HQ := Lib.hid hq
  have HP := Lib.hid hp
  clear hq hp
  obtain ⟨pl, pm, pd⟩ := p
  go_enter Tryd.func121, Tryd.ntmps121
  go_wp2_with fail
  refine (lateBy_any ⟨pl, pm, pd⟩ HP.out t h0 h1 _ HQ.out _).mono ?_
  rintro o w1 ⟨rfl, hb⟩
  have HB := Lib.hid (((Below.refl w.heap.size w).alloc (Nat.le_refl _) (.cells #[.int .i8 pl, .int .i8 pm, .int .i16 pd] 66)).trans (hb.mono (by simp)))
  clear hb
  go_wp2_with fail
  all_goals go_ret
  all_goals exact ⟨ret_int (by first | (simp only [mea, HQ.out]; done) | (simp only [mea, HQ.out]; rfl) | (simp only [mea, HQ.out]; split <;> omega)), HB.out⟩

set_option maxHeartbeats 1000000 in
theorem mea_2 (sum : Int) (p : Pie) (hp : pieB p = true) (t : Int) (s0 : 0 ≤ sum) (s1 : sum ≤ 100000) (h0 : 0 ≤ t) (h1 : t ≤ 10000) (z : Int) (hz : mea 2 sum p t = z) (w : World) :
    Calls Tryd.prog 123 #[.int .i64 sum, p.v, .int .i64 t] w fun o w' => o = .returned (.int .i64 z) ∧ Below w.heap.size w w' := by
  subst hz
  have hl := late_bd hp h0
  obtain ⟨q, hq⟩ : ∃ q, late p t = q := ⟨_, rfl⟩
  rw [hq] at hl
  obtain ⟨l0, l1⟩ := hl
  have HQ := Lib.hid hq
  have HP := Lib.hid hp
  clear hq hp
  obtain ⟨pl, pm, pd⟩ := p
  go_enter Tryd.func123, Tryd.ntmps123
  go_wp2_with fail
  refine (lateBy_any ⟨pl, pm, pd⟩ HP.out t h0 h1 _ HQ.out _).mono ?_
  rintro o w1 ⟨rfl, hb⟩
  have HB := Lib.hid (((Below.refl w.heap.size w).alloc (Nat.le_refl _) (.cells #[.int .i8 pl, .int .i8 pm, .int .i16 pd] 66)).trans (hb.mono (by simp)))
  clear hb
  go_wp2_with fail
  all_goals go_ret
  all_goals exact ⟨ret_int (by first | (simp only [mea, HQ.out]; done) | (simp only [mea, HQ.out]; rfl) | (simp only [mea, HQ.out]; split <;> omega)), HB.out⟩

set_option maxHeartbeats 1000000 in
theorem mea_3 (sum : Int) (p : Pie) (hp : pieB p = true) (t : Int) (s0 : 0 ≤ sum) (s1 : sum ≤ 100000) (h0 : 0 ≤ t) (h1 : t ≤ 10000) (z : Int) (hz : mea 3 sum p t = z) (w : World) :
    Calls Tryd.prog 124 #[.int .i64 sum, p.v, .int .i64 t] w fun o w' => o = .returned (.int .i64 z) ∧ Below w.heap.size w w' := by
  subst hz
  obtain ⟨pl, pm, pd⟩ := p
  go_enter Tryd.func124, Tryd.ntmps124
  go_wp2_with fail
  go_ret
  exact ⟨ret_int rfl, by repeat (first | exact Below.refl _ _ | assumption | apply Below.drew | (refine Below.alloc ?_ (by first | (simp; done) | (simp; omega) | omega) _) | (refine Below.setCell ?_ (by first | (simp; done) | (simp; omega) | omega) _))⟩

end Go.Proofs.YtajhdgoinghmmaaDoor.iron

/-
  When pieces are finished in an order: the model's l07Times.
-/
namespace Go.Proofs.YtajhdgoinghmmaaDoor.iron
open Go Go.RowKit sl stk errs row fold

/-- when each piece is finished, by the order -/
def timK (x : Iro) (ps : List Pie) (os : List Int) (k : Nat) : List Int := (List.range k).map fun i => (runs x 0 ps (os.take (i + 1))).at_
def tims (x : Iro) (ps : List Pie) (os : List Int) : List Int := timK x ps os os.length
theorem timK_len (x : Iro) (ps : List Pie) (os : List Int) (k : Nat) : (timK x ps os k).length = k := by simp [timK]
theorem timK_succ (x : Iro) (ps : List Pie) (os : List Int) (k : Nat) : timK x ps os (k + 1) = timK x ps os k ++ [(runs x 0 ps (os.take (k + 1))).at_] := by simp [timK, List.range_succ]
theorem tims_at {x : Iro} {ps : List Pie} {os : List Int} {k : Nat} (h : k < os.length) : (tims x ps os)[k]? = some (runs x 0 ps (os.take (k + 1))).at_ := by simp [tims, timK, h]
abbrev TH (x : Iro) (p : Pie) (b : Nat) (w u : World) : Prop := u.cell? ⟨w.heap.size, 0, none⟩ = some (.int .i8 x.up) ∧ u.cell? ⟨w.heap.size, 1, none⟩ = some (.int .i8 x.down) ∧ u.cell? ⟨b, 0, none⟩ = some (.int .i8 p.lev) ∧ u.cell? ⟨b, 1, none⟩ = some (.int .i8 p.mins)
theorem TH.next {x : Iro} {p : Pie} {b : Nat} {w u v : World} (h : TH x p b w u) (hz : w.heap.size < u.heap.size) (hbz : b < u.heap.size) (hb : Below u.heap.size u v) : TH x p b w v :=
  ⟨(hb.cell (p := ⟨_, 0, none⟩) hz).trans h.1, (hb.cell (p := ⟨_, 1, none⟩) hz).trans h.2.1, (hb.cell (p := ⟨_, 0, none⟩) hbz).trans h.2.2.1, (hb.cell (p := ⟨_, 1, none⟩) hbz).trans h.2.2.2⟩
theorem own_noI {u : World} {b : Nat} (h : b ≤ u.heap.size) : (u.alloc (.cells #[] 2)).ownsRow b 2 1 (.slice (some ⟨u.heap.size, 0, none⟩) 0 0) 0 (([] : List Int).flatMap intS.C) :=
  World.ownsRow_lit u #[] 0 h (by unfold maxLen; simp) rfl
set_option maxRecDepth 100000 in
set_option maxHeartbeats 4000000 in
theorem l07Times_any (x : Iro) (hv : iroB x = true) (A : Option Addr) (n c : Nat) (ps : List Pie) (en : n = ps.length) (hn : n ≤ 8) (hp : ps.all pieB = true) (A' : Option Addr) (m : Nat) (os : List Int) (em : m = os.length) (hm : m ≤ 8) (ho : ∀ i ∈ os, 0 ≤ i ∧ i < n) (w : World) (hg : Sl Pie.cells 3 w w.heap.size A ps) (hg' : Sl intS.C 1 w w.heap.size A' os) :
    Calls Tryd.prog 63 #[x.v, .slice A n c, .slice A' m m] w fun o w' => ∃ v, o = .returned v ∧ w'.ownsRow w.heap.size 2 1 v m ((tims x ps os).flatMap intS.C) ∧ Below w.heap.size w w' := by
  obtain ⟨i0, hI, hz0, hz1, hz2⟩ := info_parts intS.info
  have En := Lib.hid en
  have Em := Lib.hid em
  have HV := Lib.hid hv
  have HP := Lib.hid hp
  have HO := Lib.hid ho
  have S0 := Lib.hid (HotS.new x w 27)
  have e0 : (w.alloc (.cells #[.int .i8 x.up, .int .i8 x.down] 27)).heap.size = w.heap.size + 1 := by simp
  have HP0 := Lib.hid (own_noI (u := w.alloc (.cells #[.int .i8 x.up, .int .i8 x.down] 27)) (b := w.heap.size + 1) (by rw [e0]; exact Nat.le_refl _))
  have S1 := Lib.hid (S0.out.next ((Below.refl _ _).alloc (Nat.le_refl _) (.cells #[] 2)))
  rw [e0] at HP0
  clear en em hv hp ho e0
  go_enter Tryd.func63, Tryd.ntmps63
  go_wp2_with fail
  go_loopw [7, 8, 9, 10, 11] (fun vo vl va vi _ wr => ∃ k : Nat, k ≤ m ∧ vi = .int .i64 k ∧ vl = .int .i64 (runs x 0 ps (os.take k)).lev ∧ va = .int .i64 (runs x 0 ps (os.take k)).at_ ∧ wr.ownsRow (w.heap.size + 1) 2 1 vo k ((timK x ps os k).flatMap intS.C) ∧ HotS x w wr) (fun _ _ _ vi _ _ => m - (intOf vi).toNat)
  case atStart => exact ⟨0, by omega, rfl, rfl, rfl, HP0.out, S1.out⟩
  case round =>
    clear HP0 S0 S1
    obtain ⟨k, hk, rfl, rfl, rfl, hP, hS⟩ := hrel
    have HPk := Lib.hid hP
    have HS := Lib.hid hS
    clear hP hS
    by_cases hlt : k < m
    · obtain ⟨i, hi⟩ : ∃ i, os[k]? = some i := ⟨os[k]'(by have := Em.out; omega), List.getElem?_eq_getElem _⟩
      obtain ⟨j, rfl⟩ := Int.eq_ofNat_of_zero_le (HO.out i (List.mem_of_getElem? hi)).1
      have hjn : j < n := by have := (HO.out _ (List.mem_of_getElem? hi)).2; omega
      obtain ⟨y, hy⟩ : ∃ y, ps[j]? = some y := ⟨ps[j]'(by have := En.out; omega), List.getElem?_eq_getElem _⟩
      have hptv : ptv ps (j : Int) = y := by unfold ptv; rw [List.getD_eq_getElem?_getD, Int.toNat_natCast, hy]; rfl
      have ok := runs_ok (x := x) 0 HV.out HP.out (os := os) k (by have := Em.out; omega) (by omega)
      have hrun := runs_take (x := x) (a := 0) (ps := ps) hi
      rw [hptv] at hrun
      obtain ⟨s, hs⟩ : ∃ s, runs x 0 ps (os.take k) = s := ⟨_, rfl⟩
      rw [hs] at ok hrun ⊢
      have hyv := List.all_eq_true.1 HP.out _ (List.mem_of_getElem? hy)
      obtain ⟨⟨y0, y1⟩, ⟨y2, y3⟩, y4, y5⟩ := pieB_iff.1 hyv
      obtain ⟨s0, s1, s2, s3, _, _⟩ := ok
      obtain ⟨cz, hcz⟩ : ∃ z, chg x s.lev y.lev = z := ⟨_, rfl⟩
      have hcb := chg_bd (x := x) (a := s.lev) (b := y.lev) HV.out s0 s1 (by omega) y1
      rw [hcz] at hcb
      obtain ⟨hc0, hc1⟩ := hcb
      obtain ⟨t, ht⟩ : ∃ t, t = s.at_ + (cz + y.mins) := ⟨_, rfl⟩
      have hrl : (runs x 0 ps (os.take (k + 1))).lev = y.lev := by rw [hrun]; rfl
      have hra : (runs x 0 ps (os.take (k + 1))).at_ = t := by rw [hrun, ht, ← hcz]; simp only [Sta.step]; omega
      have hts : timK x ps os (k + 1) = timK x ps os k ++ [t] := by rw [timK_succ, hra]
      have HRL := Lib.hid hrl
      have HRA := Lib.hid hra
      have HTS := Lib.hid hts
      have CZ := Lib.hid hcz
      have HT := Lib.hid ht
      obtain ⟨a', rfl, hab', hat'⟩ := (hg'.below HS.out.b).at_ k _ hi
      have q0 := intS.at_ hat'
      obtain ⟨a, rfl, hab, hat⟩ := (hg.below HS.out.b).at_ j y hy
      obtain ⟨p0, p1, p2⟩ := pieS.at_ hat
      obtain ⟨u0, hu0⟩ : ∃ u, u = wr.alloc (.cells #[.int .i8 y.lev, .int .i8 y.mins, .int .i16 y.due] 66) := ⟨_, rfl⟩
      have hb0 : Below wr.heap.size wr u0 := by rw [hu0]; exact (Below.refl _ _).alloc (Nat.le_refl _) _
      have hz0' : wr.heap.size < u0.heap.size := by rw [hu0]; simp
      have S2 := Lib.hid (HS.out.next hb0)
      have HT2 : Hid (TH x y wr.heap.size w u0) := Lib.hid ⟨S2.out.c0, S2.out.c1, by rw [hu0]; exact cell_of_row _ _ _ _ _ _ (heap_alloc_new wr _), by rw [hu0]; exact cell_of_row _ _ _ _ _ _ (heap_alloc_new wr _)⟩
      have HP2 := Lib.hid (owns_next HPk.out hb0)
      have HU := Lib.hid hu0
      have hwz := HS.out.z
      clear hi hy hptv hrun hs hyv hcz ht hrl hra hts hat hat' hu0 hb0
      go_wp2_with (first | (rw [← HU.out]) | fail)
      refine wp_region_held_drew (S := TH x y wr.heap.size w) (by kernel_rfl) (HT2.out.next (by omega) hz0' (Below.refl _ _).drew) (fun hHeld => ?_)
      have S3 := Lib.hid (S2.out.next (Below.refl _ _).drew)
      have HP3 := Lib.hid (owns_next HP2.out (Below.refl _ _).drew)
      have hz3 : wr.heap.size < u0.drew.heap.size := hz0'
      generalize u0.drew = v0 at S3 HP3 hHeld hz3 ⊢
      clear HT2 S2 HP2 HU q0 p0 p1 p2 hz0'
      have w3 : IntKind.i64.wrap y.mins = y.mins := IntWalk.i64_in _ (by omega)
      have w4 : IntKind.i64.wrap y.lev = y.lev := IntWalk.i64_in _ (by omega)
      refine wpAnyH_take (i := 0) (v := ?_) rfl (by kernel_rfl) (by kernel_rfl) (by kernel_rfl) (fun _ _ _ h => h) (Or.inl ⟨by rfl, ?_⟩) (by assumption) ?_
      rotate_left
      · intro u hSu
        (try dsimp only at hSu)
        first | (go_simp; done) | (go_simp; with_reducible rfl)
      try simp only [Act.put, List.getElem_toArray, List.getElem_cons_zero, List.getElem_cons_succ, List.setIfInBounds_toArray, List.set_cons_zero, List.set_cons_succ]
      refine wpAnyH_take (i := 1) (v := ?_) rfl (by kernel_rfl) (by kernel_rfl) (by kernel_rfl) (fun _ _ _ h => h) (Or.inl ⟨by rfl, ?_⟩) (by assumption) ?_
      rotate_left
      · intro u hSu
        (try dsimp only at hSu)
        first | (go_simp; done) | (go_simp; with_reducible rfl)
      try simp only [Act.put, List.getElem_toArray, List.getElem_cons_zero, List.getElem_cons_succ, List.setIfInBounds_toArray, List.set_cons_zero, List.set_cons_succ]
      refine wpAnyH_take (i := 2) (v := ?_) rfl (by kernel_rfl) (by kernel_rfl) (by kernel_rfl) (fun _ _ _ h => h) (Or.inl ⟨by rfl, ?_⟩) (by assumption) ?_
      rotate_left
      · intro u hSu
        (try dsimp only at hSu)
        first | (go_simp; done) | (go_simp; with_reducible rfl)
      try simp only [Act.put, List.getElem_toArray, List.getElem_cons_zero, List.getElem_cons_succ, List.setIfInBounds_toArray, List.set_cons_zero, List.set_cons_succ]
      refine wpAnyH_take (i := 3) (v := ?_) rfl (by kernel_rfl) (by kernel_rfl) (by kernel_rfl) (fun _ _ _ h => h) (Or.inl ⟨by rfl, ?_⟩) (by assumption) ?_
      rotate_left
      · intro u hSu
        (try dsimp only at hSu)
        first | (go_simp; done) | (go_simp; with_reducible rfl)
      try simp only [Act.put, List.getElem_toArray, List.getElem_cons_zero, List.getElem_cons_succ, List.setIfInBounds_toArray, List.set_cons_zero, List.set_cons_succ]
      refine wpAnyH_take (i := 4) (v := ?_) rfl (by kernel_rfl) (by kernel_rfl) (by kernel_rfl) (fun _ _ _ h => h) (Or.inl ⟨by rfl, ?_⟩) (by assumption) ?_
      rotate_left
      · intro u hSu
        (try dsimp only at hSu)
        first | (go_simp; done) | (go_simp; with_reducible rfl)
      try simp only [Act.put, List.getElem_toArray, List.getElem_cons_zero, List.getElem_cons_succ, List.setIfInBounds_toArray, List.set_cons_zero, List.set_cons_succ]
      refine wpAnyH_take (i := 5) (v := ?_) rfl (by kernel_rfl) (by kernel_rfl) (by kernel_rfl) (fun _ _ _ h => h) (Or.inl ⟨by rfl, ?_⟩) (by assumption) ?_
      rotate_left
      · intro u hSu
        (try dsimp only at hSu)
        first | (go_simp; done) | (go_simp; with_reducible rfl)
      try simp only [Act.put, List.getElem_toArray, List.getElem_cons_zero, List.getElem_cons_succ, List.setIfInBounds_toArray, List.set_cons_zero, List.set_cons_succ]
      refine wpAnyH_take (i := 7) (v := ?_) rfl (by kernel_rfl) (by kernel_rfl) (by kernel_rfl) (fun _ _ _ h => h) (Or.inl ⟨by rfl, ?_⟩) (by assumption) ?_
      rotate_left
      · intro u hSu
        (try dsimp only at hSu)
        first | (go_simp; done) | (go_simp; with_reducible rfl)
      try simp only [Act.put, List.getElem_toArray, List.getElem_cons_zero, List.getElem_cons_succ, List.setIfInBounds_toArray, List.set_cons_zero, List.set_cons_succ]
      refine wpAnyH_take (i := 8) (v := ?_) rfl (by kernel_rfl) (by kernel_rfl) (by kernel_rfl) (fun _ _ _ h => h) (Or.inl ⟨by rfl, ?_⟩) (by assumption) ?_
      rotate_left
      · intro u hSu
        (try dsimp only at hSu)
        first | (go_simp; done) | (go_simp; with_reducible rfl)
      try simp only [Act.put, List.getElem_toArray, List.getElem_cons_zero, List.getElem_cons_succ, List.setIfInBounds_toArray, List.set_cons_zero, List.set_cons_succ]
      refine wpAnyH_take (i := 9) (v := ?_) rfl (by kernel_rfl) (by kernel_rfl) (by kernel_rfl) (fun _ _ _ h => h) (Or.inl ⟨by rfl, ?_⟩) (by assumption) ?_
      rotate_left
      · intro u hSu
        (try dsimp only at hSu)
        first | (go_simp; done) | (go_simp; with_reducible rfl)
      try simp only [Act.put, List.getElem_toArray, List.getElem_cons_zero, List.getElem_cons_succ, List.setIfInBounds_toArray, List.set_cons_zero, List.set_cons_succ]
      clear w3 w4
      refine wpAnyH_ready (rs := [6]) (by kernel_rfl) (by simp) ?_
      refine AllReadyH.cons rfl (fun K hK => ?_) AllReadyH.nil
      go_simp
      refine (l07Change_any x HV.out s.lev y.lev s0 s1 (by omega) y1 _ CZ.out _).mono ?_
      rintro o v1 ⟨rfl, hb1⟩
      have S4 := Lib.hid (S3.out.next hb1)
      have HP4 := Lib.hid (owns_next HP3.out hb1)
      have hh := hHeld.next S3.out.z hz3 hb1
      clear hb1 S3 HP3
      refine hK.out _ _ (hh) (fun hHeld2 => ?_)
      clear hK K hHeld
      have hHeld := hHeld2
      clear hHeld2
      try simp only [Act.put, List.getElem_toArray, List.getElem_cons_zero, List.getElem_cons_succ, List.setIfInBounds_toArray, List.set_cons_zero, List.set_cons_succ]
      clear hh
      have w1 : IntKind.i64.wrap (cz + y.mins) = cz + y.mins := IntWalk.i64_in _ (by omega)
      refine wpAnyH_take (i := 10) (v := ?_) rfl (by kernel_rfl) (by kernel_rfl) (by kernel_rfl) (fun _ _ _ h => h) (Or.inl ⟨by rfl, ?_⟩) (by assumption) ?_
      rotate_left
      · intro u hSu
        (try dsimp only at hSu)
        first | (go_simp; done) | (go_simp; with_reducible rfl)
      try simp only [Act.put, List.getElem_toArray, List.getElem_cons_zero, List.getElem_cons_succ, List.setIfInBounds_toArray, List.set_cons_zero, List.set_cons_succ]
      clear w1
      have w2 : IntKind.i64.wrap (s.at_ + (cz + y.mins)) = t := by rw [HT.out]; exact IntWalk.i64_in _ (by omega)
      refine wpAnyH_take (i := 11) (v := ?_) rfl (by kernel_rfl) (by kernel_rfl) (by kernel_rfl) (fun _ _ _ h => h) (Or.inl ⟨by rfl, ?_⟩) (by assumption) ?_
      rotate_left
      · intro u hSu
        (try dsimp only at hSu)
        first | (go_simp; done) | (go_simp; with_reducible rfl)
      try simp only [Act.put, List.getElem_toArray, List.getElem_cons_zero, List.getElem_cons_succ, List.setIfInBounds_toArray, List.set_cons_zero, List.set_cons_succ]
      clear w2
      refine wpAnyH_take (i := 12) (v := ?_) rfl (by kernel_rfl) (by kernel_rfl) (by kernel_rfl) (fun _ _ _ h => h) (Or.inl ⟨by rfl, ?_⟩) (by assumption) ?_
      rotate_left
      · intro u hSu
        (try dsimp only at hSu)
        first | (go_simp; done) | (go_simp; with_reducible rfl)
      try simp only [Act.put, List.getElem_toArray, List.getElem_cons_zero, List.getElem_cons_succ, List.setIfInBounds_toArray, List.set_cons_zero, List.set_cons_succ]
      refine wpAnyH_done (by kernel_rfl) ?_ _
      have l0 := hHeld.2.2.1
      clear hHeld
      go_wp2_with (first | (at_builtin; refine wpList_append_own _ rfl (.tmp 41) (.tmp 43) 31 rfl (w.heap.size + 1) 2 i0 (.int .i64 0) 1 8 Tryd.underlying31 hI hz0 hz1 hz2 rfl (by decide) _ _ _ rfl (HP4.out.alloc _) ⟨_, 0, none⟩ 1 1 [.int .i64 t] rfl rfl (one_newB _ _ _ _ (by simp)) (one_cellI (by rfl)) (by unfold maxLen; omega) (by omega) (by have := S4.out.z; simp; omega) ?_; intro v3 w5 hP5 hgr _; have S5 := Lib.hid (((S4.out.next ((Below.refl _ _).alloc (Nat.le_refl _) (.cells #[.int .i64 t] 2))).grow hgr (fun g hg => (HP4.out.lt g hg).1))); have HP5 := Lib.hid hP5; clear hP5 hgr) | fail)
      go_roundw
      case rel => exact ⟨k + 1, by omega, by go_num, by rw [HRL.out], by rw [HRA.out], by rw [HTS.out, flat_snoc]; exact HP5.out, S5.out⟩
      case measure => simp [intOf]; omega
    · obtain rfl : k = m := by omega
      go_wp2_with fail
      go_ret
      exact ⟨_, rfl, by unfold tims; rw [← Em.out]; exact owns_below HPk.out (by omega), HS.out.b⟩
end Go.Proofs.YtajhdgoinghmmaaDoor.iron

/-
  RisingOrder and DueOrder: the program's.
-/
namespace Go.Proofs.YtajhdgoinghmmaaDoor.iron
open Go Go.RowKit sl stk errs ins fold

/-- the indices below n -/
def idx (n : Nat) : List Int := (List.range n).map Int.ofNat
theorem idx_len (n : Nat) : (idx n).length = n := by simp [idx]
theorem idx_at {n k : Nat} (h : k < n) : (idx n)[k]? = some (k : Int) := by simp [idx, h]
theorem idx_in {n : Nat} : ∀ i ∈ idx n, 0 ≤ i ∧ i < n := fun i hi => by
  obtain ⟨k, hk, rfl⟩ := List.mem_map.1 hi
  have := List.mem_range.1 hk
  exact ⟨Int.natCast_nonneg k, Int.ofNat_lt.2 this⟩
def keyK (k : Nat) (ps : List Pie) (i : Int) : Int := if k = 0 then (ptv ps i).lev else (ptv ps i).due
def ordK (k : Nat) (ps : List Pie) : List Int × Nat := if codePs ps = 0 then (srt (keyK k ps) (idx ps.length), 0) else ([], codePs ps)
abbrev riseR (ps : List Pie) := ordK 0 ps
abbrev dueR (ps : List Pie) := ordK 1 ps
theorem ord_ok {k : Nat} {ps : List Pie} {ys : List Int} {r1 : Nat} (h : ordK k ps = (ys, r1)) (hc : codePs ps = 0) : srt (keyK k ps) (idx ps.length) = ys ∧ r1 = 0 := by
  rw [ordK, if_pos hc] at h
  simp at h
  exact ⟨h.1, h.2.symm⟩
theorem ord_no {k : Nat} {ps : List Pie} {ys : List Int} {r1 i : Nat} (h : ordK k ps = (ys, r1)) (hc : codePs ps = i + 1) : ys = [] ∧ r1 = i + 1 := by
  rw [ordK, if_neg (by omega), hc] at h
  simp at h
  exact ⟨h.1, h.2.symm⟩
theorem ordR_le {k : Nat} {ps : List Pie} {ys : List Int} {r1 : Nat} (h : ordK k ps = (ys, r1)) : ys.length ≤ 1048576 := by
  cases hc : codePs ps with
  | zero =>
    obtain ⟨_, h8⟩ := codePs_zero hc
    rw [← (ord_ok h hc).1, srt_len, idx_len]
    omega
  | succ i => rw [(ord_no h hc).1]; simp
set_option maxRecDepth 100000 in
set_option maxHeartbeats 4000000 in
theorem stable_any (key : Int → Int) (n c D p2 p3 : Nat) (W0 : World) (hcmp : ∀ (u : World), Below D W0 u → D < u.heap.size → ∀ a b : Nat, a < n → b < n → ∀ z, cmpI (key a) (key b) = z → Calls Tryd.prog 96 #[.int .i64 a, .int .i64 b, .pointer (some ⟨p3, 0, none⟩), .pointer (some ⟨p2, 0, none⟩)] u fun o w' => o = .returned (.int .i64 z) ∧ Below u.heap.size u w')
    (hn : n ≤ 8) (ys : List Int) (hys : ys.length = n) (hin : ∀ i ∈ ys, 0 ≤ i ∧ i < n) (w : World) (hB : Below D W0 w) (hP : ownI w D n c ys) :
    Calls Tryd.prog 118 #[.slice (some ⟨D, 0, none⟩) n c, .int .i64 n, .func (.func 96) #[] #[.pointer (some ⟨p3, 0, none⟩), .pointer (some ⟨p2, 0, none⟩)]] w fun o w' => o = .returned (.tuple #[]) ∧ ownI w' D n c (srt key ys) ∧ Below D W0 w' := by
  have HI := Lib.hid (insertion_any key n c D p2 p3 W0 hcmp hn ys hys hin w hB hP)
  have d1 : decide ((20 : Int) ≤ (n : Int)) = false := decide_eq_false (by omega)
  have d2 : decide ((20 : Int) < (n : Int)) = false := decide_eq_false (by omega)
  clear hcmp hys hin hB hP
  go_enter Tryd.func118, Tryd.ntmps118
  go_wp2_with fail
  refine wp_loop_rounds 1 ?_
  rw [rounds_succ]
  go_wp2_with fail
  refine HI.out.mono ?_
  rintro o w1 ⟨rfl, hP1, hB1⟩
  have H1 := Lib.hid hP1
  have H2 := Lib.hid hB1
  clear hP1 hB1
  go_wp2_with fail
  refine wp_loop_rounds 1 ?_
  rw [rounds_succ]
  go_wp2_with fail
  go_end0
  exact ⟨rfl, H1.out, H2.out⟩
set_option maxRecDepth 100000 in
set_option maxHeartbeats 2000000 in
theorem sortStable_any (key : Int → Int) (n c D p2 p3 : Nat) (W0 : World) (hcmp : ∀ (u : World), Below D W0 u → D < u.heap.size → ∀ a b : Nat, a < n → b < n → ∀ z, cmpI (key a) (key b) = z → Calls Tryd.prog 96 #[.int .i64 a, .int .i64 b, .pointer (some ⟨p3, 0, none⟩), .pointer (some ⟨p2, 0, none⟩)] u fun o w' => o = .returned (.int .i64 z) ∧ Below u.heap.size u w')
    (hn : n ≤ 8) (ys : List Int) (hys : ys.length = n) (hin : ∀ i ∈ ys, 0 ≤ i ∧ i < n) (w : World) (hB : Below D W0 w) (hP : ownI w D n c ys) :
    Calls Tryd.prog 95 #[.slice (some ⟨D, 0, none⟩) n c, .func (.func 96) #[] #[.pointer (some ⟨p3, 0, none⟩), .pointer (some ⟨p2, 0, none⟩)]] w fun o w' => o = .returned (.tuple #[]) ∧ ownI w' D n c (srt key ys) ∧ Below D W0 w' := by
  have HI := Lib.hid (stable_any key n c D p2 p3 W0 hcmp hn ys hys hin w hB hP)
  clear hcmp hys hin hB hP
  go_enter Tryd.func95, Tryd.ntmps95
  go_wp2_with fail
  refine HI.out.mono ?_
  rintro o w1 ⟨rfl, hP1, hB1⟩
  have H1 := Lib.hid hP1
  have H2 := Lib.hid hB1
  clear hP1 hB1
  go_wp2_with fail
  go_end0
  exact ⟨rfl, H1.out, H2.out⟩
/-- the list and the function in their boxes -/
structure BX (A : Option Addr) (n c : Nat) (fv : Value) (w u : World) : Prop where
  c2 : u.cell? ⟨w.heap.size, 0, none⟩ = some (.slice A n c)
  c3 : u.cell? ⟨w.heap.size + 1, 0, none⟩ = some fv
  b : Below w.heap.size w u
  z : w.heap.size + 1 < u.heap.size
theorem BX.new (A : Option Addr) (n c : Nat) (fv : Value) (w : World) (T U : TypeId) : BX A n c fv w ((w.alloc (.cells #[.slice A n c] T)).alloc (.cells #[fv] U)) := by
  have e : (w.alloc (.cells #[.slice A n c] T)).heap.size = w.heap.size + 1 := by simp
  have h1 := heap_alloc_new (w.alloc (.cells #[.slice A n c] T)) (.cells #[fv] U)
  rw [e] at h1
  exact ⟨cell_of_row _ _ 0 _ _ _ ((heap_alloc_old _ _ (by rw [e]; omega)).trans (heap_alloc_new w _)), cell_of_row _ _ 0 _ _ _ h1, ((Below.refl _ _).alloc (Nat.le_refl _) _).alloc (by rw [e]; omega) _, by simp⟩
theorem BX.next {A : Option Addr} {n c : Nat} {fv : Value} {w u v : World} (h : BX A n c fv w u) {B : Nat} (hB : w.heap.size + 1 < B) (hb : Below B u v) : BX A n c fv w v :=
  ⟨(hb.cell (p := ⟨_, 0, none⟩) (by show w.heap.size < B; omega)).trans h.c2, (hb.cell (p := ⟨_, 0, none⟩) hB).trans h.c3, h.b.trans (hb.mono (by omega)), Nat.lt_of_lt_of_le h.z hb.size⟩
set_option maxRecDepth 100000 in
set_option maxHeartbeats 4000000 in
theorem sortedBy_0 (A : Option Addr) (n c : Nat) (ps : List Pie) (en : n = ps.length) (hn : n ≤ 1048576) (hf : ∀ p ∈ ps, p.Fits) (ys : List Int) (r1 : Nat) (hr : ordK 0 ps = (ys, r1)) {w : World} {B : Nat} {e : Nat → Addr} (h : Errs w B e) (hB : B ≤ w.heap.size) (hg : Sl Pie.cells 3 w w.heap.size A ps) :
    Calls Tryd.prog 72 #[.slice A n c, .func (.func 73) #[] #[]] w fun o w' => ∃ v, o = .returned (.tuple #[v, .int .i64 r1]) ∧ w'.ownsRow w.heap.size 2 1 v ys.length (ys.flatMap intS.C) ∧ Below w.heap.size w w' := by
  obtain ⟨k1, hk1⟩ : ∃ k : Nat, k = codePs ps := ⟨_, rfl⟩
  have HK1 := Lib.hid hk1
  have HR := Lib.hid hr
  have En := Lib.hid en
  have HFT := Lib.hid hf
  have S0 := Lib.hid (BX.new A n c (.func (.func 73) #[] #[]) w 35 83)
  have c2 := S0.out.c2
  clear hk1 hr en hf
  go_enter Tryd.func72, Tryd.ntmps72
  go_wp2_with fail
  refine (checkIroned_any A n c ps En.out hn HFT.out (h.below (S0.out.b.mono hB)) (Nat.le_trans hB S0.out.b.size) ((hg.below S0.out.b).more S0.out.b.size) k1 HK1.out).mono ?_
  rintro o w1 ⟨rfl, hb1⟩
  have S1 := Lib.hid (S0.out.next S0.out.z hb1)
  have H1 := Lib.hid (h.below (S1.out.b.mono hB))
  clear c2 hb1
  have c2 := S1.out.c2
  cases k1 with
  | succ i =>
    obtain ⟨rfl, rfl⟩ := ord_no HR.out HK1.out.symm
    have hi := codePs_le ps
    rw [← HK1.out] at hi
    have HQ := Lib.hid (codeOf_any H1.out (i + 1) (by omega))
    rw [show errOf e (i + 1) = errV (e i) from rfl] at HQ ⊢
    clear hi
    go_wp2_with fail
    refine HQ.out.mono ?_
    rintro o w2 ⟨rfl, rfl⟩
    go_wp2_with fail
    go_ret2
    exact ⟨_, rfl, World.ownsRow_nil _ _ _ _, S1.out.b⟩
  | zero =>
    obtain ⟨hz, rfl⟩ := ord_ok HR.out HK1.out.symm
    obtain ⟨hp, h8⟩ := codePs_zero HK1.out.symm
    rw [← En.out] at h8 hz
    have HZ := Lib.hid hz
    have HP := Lib.hid hp
    clear hz hp
    rw [show errOf e 0 = .nilIface from rfl]
    obtain ⟨i0, hI, hz0, hz1, hz2⟩ := info_parts intS.info
    have hmk : ∀ u : World, (Instr.makeSlice 31 (.int .i64 (n : Int)) (.int .i64 (n : Int))).run Tryd.prog u =
        .ok (.slice (some ⟨u.heap.size, 0, none⟩) n n) (u.alloc (.cells (madeCells #[.int .i64 0] n) 2)) := fun u => by
      have h := run_make (P := Tryd.prog) u 31 2 i0 _ Tryd.underlying31 hI hz0 .i64 .i64 (n : Int) (n : Int) (by omega) (Int.le_refl _) (by rw [hz2]; omega) (by omega)
      have e : ((n : Int)).toNat = n := by omega
      rw [e] at h
      simpa [hz1, Value.cells] using h
    clear hI hz0 hz1 hz2
    obtain ⟨D, hD⟩ : ∃ D, D = w1.heap.size := ⟨_, rfl⟩
    obtain ⟨w2, hw2⟩ : ∃ u, u = w1.alloc (.cells (madeCells #[.int .i64 0] n) 2) := ⟨_, rfl⟩
    have hT0 : w2.ownsRow D 2 1 (.slice (some ⟨D, 0, none⟩) n n) n (madeCells #[.int .i64 0] n).toList := by
      rw [hw2, hD]
      exact World.ownsRow_lit w1 (madeCells #[.int .i64 0] n) n (Nat.le_refl _) (by unfold maxLen; omega) (by rw [size_madeCells, Nat.mul_one])
    have hb2 : Below D w1 w2 := by rw [hw2]; exact (Below.refl _ _).alloc (by rw [hD]; exact Nat.le_refl _) _
    have hDz : w.heap.size + 1 < D := by have := S1.out.z; omega
    have HT0 := Lib.hid hT0
    have HBB2 := Lib.hid hb2
    have HW := Lib.hid hw2
    have HDD := Lib.hid hD.symm
    clear hw2 hT0 hb2 hD
    go_wp2_with (first | (rw [← HW.out, HDD.out]) | fail)
    clear hmk
    go_loopw [20, 8] (fun vi _ wr => ∃ (k : Nat) (L : List Value), k ≤ n ∧ vi = .int .i64 (k : Nat) ∧ wr.ownsRow D 2 1 (.slice (some ⟨D, 0, none⟩) n n) n L ∧ Done intS.C 1 (idx n) k L ∧ Below D w1 wr) (fun vi _ _ => n - (intOf vi).toNat)
    case atStart => exact ⟨0, _, by omega, rfl, HT0.out, Done.zero _ _ _ _, HBB2.out⟩
    case round =>
      clear HT0 HBB2 HW c2
      obtain ⟨k, L, hk, rfl, hP, hD, hB1⟩ := hrel
      have HPk := Lib.hid hP
      have HDk := Lib.hid hD
      have HBk := Lib.hid hB1
      clear hP hD hB1
      by_cases hlt : k < n
      · have hLL := HPk.out.1
        obtain ⟨v0, s0⟩ : ∃ v, wr.cell? ⟨D, k, none⟩ = some v := ⟨L[k]'(by omega), (HPk.out.cellAt k (by omega)).trans (List.getElem?_eq_getElem _)⟩
        have f0 := HPk.out.frozenAt k
        have HLL := Lib.hid hLL
        have HTE := Lib.hid (idx_at hlt)
        clear hLL
        go_wp2_with fail
        go_roundw
        case rel =>
          have hP3 := (HPk.out.stored k (.int .i64 k)).1
          refine ⟨k + 1, _, by omega, by go_num, hP3, ?_, HBk.out.setCell (p := ⟨D, k, none⟩) (Nat.le_refl _) _⟩
          have hd := HDk.out.step (intS.len _) HTE.out (by rw [HLL.out, idx_len])
          rw [Nat.mul_one] at hd
          exact hd
        case measure => simp [intOf]; omega
      · obtain rfl : k = n := by omega
        have HO : Hid (ownI wr D k k (idx k)) := Lib.hid (by
          have e : L = (idx k).flatMap intS.C := Done.full (by rw [idx_len]; exact HDk.out) (intS.len _) (by omega) (by rw [HPk.out.1, idx_len])
          have := HPk.out
          rw [e] at this
          exact this)
        have HSRT := Lib.hid (sortStable_any (keyK 0 ps) k k D w.heap.size (w.heap.size + 1) w1 (fun u hu hDu a b ha hb z hz => by
          have S2 := S1.out.next hDz hu
          exact cmp_0 A k c ps En.out h8 HP.out w.heap.size (w.heap.size + 1) a b ha hb u S2.c2 S2.c3 (by omega) (by omega) ((hg.below S2.b).more S2.b.size) z (by simpa [keyK] using hz)) h8 (idx k) (idx_len k) idx_in wr HBk.out HO.out)
        clear HPk HDk
        go_wp2_with fail
        refine HSRT.out.mono ?_
        rintro o w5 ⟨rfl, hP5, hB5⟩
        have HP5 := Lib.hid hP5
        have S5 := Lib.hid (S1.out.next hDz hB5)
        have hyl : Hid (ys.length = k) := Lib.hid (by rw [← HZ.out, srt_len, idx_len])
        clear hP5 hB5
        go_wp2_with fail
        go_ret2
        refine ⟨_, rfl, ?_, S5.out.b⟩
        rw [hyl.out, ← HZ.out]
        exact owns_below HP5.out (by omega)

set_option maxHeartbeats 2000000 in
theorem RisingOrder_any (A : Option Addr) (n c : Nat) (ps : List Pie) (en : n = ps.length) (hn : n ≤ 1048576) (hf : ∀ p ∈ ps, p.Fits) (ys : List Int) (r1 : Nat) (hr : ordK 0 ps = (ys, r1)) {w : World} {B : Nat} {e : Nat → Addr} (h : Errs w B e) (hB : B ≤ w.heap.size) (hg : Sl Pie.cells 3 w w.heap.size A ps) :
    Calls Tryd.prog 37 #[.slice A n c] w fun o w' => ∃ v, o = .returned (.tuple #[v, .int .i64 r1]) ∧ w'.ownsRow w.heap.size 2 1 v ys.length (ys.flatMap intS.C) ∧ Below w.heap.size w w' := by
  have HS := Lib.hid (sortedBy_0 A n c ps en hn hf ys r1 hr h hB hg)
  clear en hf hr
  go_enter Tryd.func37, Tryd.ntmps37
  go_wp2_with fail
  refine HS.out.mono ?_
  rintro o w1 ⟨v, rfl, hP, hb⟩
  have HP := Lib.hid hP
  have HB := Lib.hid hb
  clear hP hb
  go_wp2_with fail
  go_ret2
  exact ⟨_, rfl, HP.out, HB.out⟩

set_option maxRecDepth 100000 in
set_option maxHeartbeats 4000000 in
theorem sortedBy_1 (A : Option Addr) (n c : Nat) (ps : List Pie) (en : n = ps.length) (hn : n ≤ 1048576) (hf : ∀ p ∈ ps, p.Fits) (ys : List Int) (r1 : Nat) (hr : ordK 1 ps = (ys, r1)) {w : World} {B : Nat} {e : Nat → Addr} (h : Errs w B e) (hB : B ≤ w.heap.size) (hg : Sl Pie.cells 3 w w.heap.size A ps) :
    Calls Tryd.prog 72 #[.slice A n c, .func (.func 74) #[] #[]] w fun o w' => ∃ v, o = .returned (.tuple #[v, .int .i64 r1]) ∧ w'.ownsRow w.heap.size 2 1 v ys.length (ys.flatMap intS.C) ∧ Below w.heap.size w w' := by
  obtain ⟨k1, hk1⟩ : ∃ k : Nat, k = codePs ps := ⟨_, rfl⟩
  have HK1 := Lib.hid hk1
  have HR := Lib.hid hr
  have En := Lib.hid en
  have HFT := Lib.hid hf
  have S0 := Lib.hid (BX.new A n c (.func (.func 74) #[] #[]) w 35 83)
  have c2 := S0.out.c2
  clear hk1 hr en hf
  go_enter Tryd.func72, Tryd.ntmps72
  go_wp2_with fail
  refine (checkIroned_any A n c ps En.out hn HFT.out (h.below (S0.out.b.mono hB)) (Nat.le_trans hB S0.out.b.size) ((hg.below S0.out.b).more S0.out.b.size) k1 HK1.out).mono ?_
  rintro o w1 ⟨rfl, hb1⟩
  have S1 := Lib.hid (S0.out.next S0.out.z hb1)
  have H1 := Lib.hid (h.below (S1.out.b.mono hB))
  clear c2 hb1
  have c2 := S1.out.c2
  cases k1 with
  | succ i =>
    obtain ⟨rfl, rfl⟩ := ord_no HR.out HK1.out.symm
    have hi := codePs_le ps
    rw [← HK1.out] at hi
    have HQ := Lib.hid (codeOf_any H1.out (i + 1) (by omega))
    rw [show errOf e (i + 1) = errV (e i) from rfl] at HQ ⊢
    clear hi
    go_wp2_with fail
    refine HQ.out.mono ?_
    rintro o w2 ⟨rfl, rfl⟩
    go_wp2_with fail
    go_ret2
    exact ⟨_, rfl, World.ownsRow_nil _ _ _ _, S1.out.b⟩
  | zero =>
    obtain ⟨hz, rfl⟩ := ord_ok HR.out HK1.out.symm
    obtain ⟨hp, h8⟩ := codePs_zero HK1.out.symm
    rw [← En.out] at h8 hz
    have HZ := Lib.hid hz
    have HP := Lib.hid hp
    clear hz hp
    rw [show errOf e 0 = .nilIface from rfl]
    obtain ⟨i0, hI, hz0, hz1, hz2⟩ := info_parts intS.info
    have hmk : ∀ u : World, (Instr.makeSlice 31 (.int .i64 (n : Int)) (.int .i64 (n : Int))).run Tryd.prog u =
        .ok (.slice (some ⟨u.heap.size, 0, none⟩) n n) (u.alloc (.cells (madeCells #[.int .i64 0] n) 2)) := fun u => by
      have h := run_make (P := Tryd.prog) u 31 2 i0 _ Tryd.underlying31 hI hz0 .i64 .i64 (n : Int) (n : Int) (by omega) (Int.le_refl _) (by rw [hz2]; omega) (by omega)
      have e : ((n : Int)).toNat = n := by omega
      rw [e] at h
      simpa [hz1, Value.cells] using h
    clear hI hz0 hz1 hz2
    obtain ⟨D, hD⟩ : ∃ D, D = w1.heap.size := ⟨_, rfl⟩
    obtain ⟨w2, hw2⟩ : ∃ u, u = w1.alloc (.cells (madeCells #[.int .i64 0] n) 2) := ⟨_, rfl⟩
    have hT0 : w2.ownsRow D 2 1 (.slice (some ⟨D, 0, none⟩) n n) n (madeCells #[.int .i64 0] n).toList := by
      rw [hw2, hD]
      exact World.ownsRow_lit w1 (madeCells #[.int .i64 0] n) n (Nat.le_refl _) (by unfold maxLen; omega) (by rw [size_madeCells, Nat.mul_one])
    have hb2 : Below D w1 w2 := by rw [hw2]; exact (Below.refl _ _).alloc (by rw [hD]; exact Nat.le_refl _) _
    have hDz : w.heap.size + 1 < D := by have := S1.out.z; omega
    have HT0 := Lib.hid hT0
    have HBB2 := Lib.hid hb2
    have HW := Lib.hid hw2
    have HDD := Lib.hid hD.symm
    clear hw2 hT0 hb2 hD
    go_wp2_with (first | (rw [← HW.out, HDD.out]) | fail)
    clear hmk
    go_loopw [20, 8] (fun vi _ wr => ∃ (k : Nat) (L : List Value), k ≤ n ∧ vi = .int .i64 (k : Nat) ∧ wr.ownsRow D 2 1 (.slice (some ⟨D, 0, none⟩) n n) n L ∧ Done intS.C 1 (idx n) k L ∧ Below D w1 wr) (fun vi _ _ => n - (intOf vi).toNat)
    case atStart => exact ⟨0, _, by omega, rfl, HT0.out, Done.zero _ _ _ _, HBB2.out⟩
    case round =>
      clear HT0 HBB2 HW c2
      obtain ⟨k, L, hk, rfl, hP, hD, hB1⟩ := hrel
      have HPk := Lib.hid hP
      have HDk := Lib.hid hD
      have HBk := Lib.hid hB1
      clear hP hD hB1
      by_cases hlt : k < n
      · have hLL := HPk.out.1
        obtain ⟨v0, s0⟩ : ∃ v, wr.cell? ⟨D, k, none⟩ = some v := ⟨L[k]'(by omega), (HPk.out.cellAt k (by omega)).trans (List.getElem?_eq_getElem _)⟩
        have f0 := HPk.out.frozenAt k
        have HLL := Lib.hid hLL
        have HTE := Lib.hid (idx_at hlt)
        clear hLL
        go_wp2_with fail
        go_roundw
        case rel =>
          have hP3 := (HPk.out.stored k (.int .i64 k)).1
          refine ⟨k + 1, _, by omega, by go_num, hP3, ?_, HBk.out.setCell (p := ⟨D, k, none⟩) (Nat.le_refl _) _⟩
          have hd := HDk.out.step (intS.len _) HTE.out (by rw [HLL.out, idx_len])
          rw [Nat.mul_one] at hd
          exact hd
        case measure => simp [intOf]; omega
      · obtain rfl : k = n := by omega
        have HO : Hid (ownI wr D k k (idx k)) := Lib.hid (by
          have e : L = (idx k).flatMap intS.C := Done.full (by rw [idx_len]; exact HDk.out) (intS.len _) (by omega) (by rw [HPk.out.1, idx_len])
          have := HPk.out
          rw [e] at this
          exact this)
        have HSRT := Lib.hid (sortStable_any (keyK 1 ps) k k D w.heap.size (w.heap.size + 1) w1 (fun u hu hDu a b ha hb z hz => by
          have S2 := S1.out.next hDz hu
          exact cmp_1 A k c ps En.out h8 HP.out w.heap.size (w.heap.size + 1) a b ha hb u S2.c2 S2.c3 (by omega) (by omega) ((hg.below S2.b).more S2.b.size) z (by simpa [keyK] using hz)) h8 (idx k) (idx_len k) idx_in wr HBk.out HO.out)
        clear HPk HDk
        go_wp2_with fail
        refine HSRT.out.mono ?_
        rintro o w5 ⟨rfl, hP5, hB5⟩
        have HP5 := Lib.hid hP5
        have S5 := Lib.hid (S1.out.next hDz hB5)
        have hyl : Hid (ys.length = k) := Lib.hid (by rw [← HZ.out, srt_len, idx_len])
        clear hP5 hB5
        go_wp2_with fail
        go_ret2
        refine ⟨_, rfl, ?_, S5.out.b⟩
        rw [hyl.out, ← HZ.out]
        exact owns_below HP5.out (by omega)

set_option maxHeartbeats 2000000 in
theorem DueOrder_any (A : Option Addr) (n c : Nat) (ps : List Pie) (en : n = ps.length) (hn : n ≤ 1048576) (hf : ∀ p ∈ ps, p.Fits) (ys : List Int) (r1 : Nat) (hr : ordK 1 ps = (ys, r1)) {w : World} {B : Nat} {e : Nat → Addr} (h : Errs w B e) (hB : B ≤ w.heap.size) (hg : Sl Pie.cells 3 w w.heap.size A ps) :
    Calls Tryd.prog 39 #[.slice A n c] w fun o w' => ∃ v, o = .returned (.tuple #[v, .int .i64 r1]) ∧ w'.ownsRow w.heap.size 2 1 v ys.length (ys.flatMap intS.C) ∧ Below w.heap.size w w' := by
  have HS := Lib.hid (sortedBy_1 A n c ps en hn hf ys r1 hr h hB hg)
  clear en hf hr
  go_enter Tryd.func39, Tryd.ntmps39
  go_wp2_with fail
  refine HS.out.mono ?_
  rintro o w1 ⟨v, rfl, hP, hb⟩
  have HP := Lib.hid hP
  have HB := Lib.hid hb
  clear hP hb
  go_wp2_with fail
  go_ret2
  exact ⟨_, rfl, HP.out, HB.out⟩

end Go.Proofs.YtajhdgoinghmmaaDoor.iron
