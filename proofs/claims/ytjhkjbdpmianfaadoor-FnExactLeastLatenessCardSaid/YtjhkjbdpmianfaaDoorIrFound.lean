/-
  The least order by each measure, the model's.
-/
import Derived.Test.YtjhkjbdpmianfaaDoorIrFrom
import Derived.Test.YtjhkjbdpmianfaaDoorJoin22
namespace Go.Proofs.YtjhkjbdpmianfaaDoor.iron
open Go Go.RowKit sl stk errs row fold ins

set_option maxRecDepth 100000 in
theorem build_search (x : Iro) (A : Option Addr) (n c : Nat) (a : Int) (u : World) : (Instr.build 73 #[(0, x.v), (1, .slice A n c), (2, .int .i64 a)]).run Tryd.prog u = .ok (.agg #[.int .i8 x.up, .int .i8 x.down, .slice A n c, .int .i64 a, .slice none 0 0, .int .i64 0, .bool false]) u := by kernel_rfl
theorem WF.new (x : Iro) (a : Nat) (A : Option Addr) (n c : Nat) (w : World) (T : TypeId) : WF x a A n c w.heap.size none (w.alloc (.cells #[.int .i8 x.up, .int .i8 x.down, .slice A n c, .int .i64 a, .slice none 0 0, .int .i64 0, .bool false] T)) := by
  have h : ∀ i, (w.alloc (.cells #[.int .i8 x.up, .int .i8 x.down, .slice A n c, .int .i64 a, .slice none 0 0, .int .i64 0, .bool false] T)).cell? ⟨w.heap.size, i, none⟩ = (#[.int .i8 x.up, .int .i8 x.down, .slice A n c, .int .i64 a, .slice none 0 0, .int .i64 0, .bool false] : Array Value)[i]? := fun i => cell_of_row _ _ _ _ _ _ (heap_alloc_new w _)
  exact ⟨h 0, h 1, h 2, h 3, ⟨_, h 4, World.ownsRow_nil _ _ _ _⟩, h 5, h 6, fun i => frozen_of_row _ _ _ _ _ (heap_alloc_new w _), by simp⟩
set_option maxRecDepth 100000 in
set_option maxHeartbeats 4000000 in
theorem l07Best_any (x : Iro) (a : Nat) (hv : iroB x = true) (A : Option Addr) (n c : Nat) (ps : List Pie) (en : n = ps.length) (hn : n ≤ 8) (hp : ps.all pieB = true)
    (hcost : ∀ (W : Nat) (p : Pie), pieB p = true → ∀ (b t : Int), 0 ≤ b → b ≤ t → t ≤ 10000 → ∀ (z : Int), cst a p b t = z → ∀ (w : World), W < w.heap.size → w.cell? ⟨W, 3, none⟩ = some (.int .i64 a) →
      Calls Tryd.prog 50 #[.pointer (some ⟨W, 0, none⟩), p.v, .int .i64 b, .int .i64 t] w fun o w' => o = .returned (.int .i64 z) ∧ Below w.heap.size w w')
    (ys : List Int) (r0 : Int) (hb : bestB x a ps = some (ys, r0)) (w : World) (hg : Sl Pie.cells 3 w w.heap.size A ps) :
    Calls Tryd.prog 28 #[x.v, .slice A n c, .int .i64 a] w fun o w' => ∃ v, o = .returned (.tuple #[v, .int .i64 r0]) ∧ w'.ownsRow w.heap.size 2 1 v ys.length (ys.flatMap intS.C) ∧ Below w.heap.size w w' := by
  obtain ⟨u0, hu0⟩ : ∃ u, u = w.alloc (.cells #[.int .i8 x.up, .int .i8 x.down] 30) := ⟨_, rfl⟩
  have b0 : Below w.heap.size w u0 := by rw [hu0]; exact (Below.refl _ _).alloc (Nat.le_refl _) _
  have c0 : u0.cell? ⟨w.heap.size, 0, none⟩ = some (.int .i8 x.up) := by rw [hu0]; exact cell_of_row _ _ _ _ _ _ (heap_alloc_new w _)
  have c1 : u0.cell? ⟨w.heap.size, 1, none⟩ = some (.int .i8 x.down) := by rw [hu0]; exact cell_of_row _ _ _ _ _ _ (heap_alloc_new w _)
  have e0 : u0.heap.size = w.heap.size + 1 := by rw [hu0]; simp
  obtain ⟨W, hW⟩ : ∃ W, W = u0.heap.size := ⟨_, rfl⟩
  obtain ⟨u1, hu1⟩ : ∃ u, u = u0.alloc (.cells #[.int .i8 x.up, .int .i8 x.down, .slice A n c, .int .i64 a, .slice none 0 0, .int .i64 0, .bool false] 73) := ⟨_, rfl⟩
  have b1 : Below u0.heap.size u0 u1 := by rw [hu1]; exact (Below.refl _ _).alloc (Nat.le_refl _) _
  have S1 : WF x a A n c W none u1 := by rw [hu1, hW]; exact WF.new ..
  have z1 : u1.heap.size = W + 1 := by rw [hu1, hW]; simp
  obtain ⟨u2, hu2⟩ : ∃ u, u = u1.alloc (.cells #[] 2) := ⟨_, rfl⟩
  have b2 : Below u1.heap.size u1 u2 := by rw [hu2]; exact (Below.refl _ _).alloc (Nat.le_refl _) _
  have HO2 : u2.ownsRow (W + 1) 2 1 (.slice (some ⟨W + 1, 0, none⟩) 0 0) 0 (([] : List Int).flatMap intS.C) := by
    have := World.ownsRow_made (e := 2) (size := 1) u1 #[] 0 (Nat.le_refl _) (Nat.zero_le _) rfl
    rw [z1] at this
    rw [hu2]
    exact this
  have B2 : Below w.heap.size w u2 := (b0.trans (b1.mono (by omega))).trans (b2.mono (by omega))
  have hbl := best_less (x := x) (a := a) hv hp
  have hfr := from_any x a hv A n c W ps en hn hp (fun p h1 b t h2 h3 h4 z h5 u h6 h7 => hcost W p h1 b t h2 h3 h4 z h5 u h6 h7) n 0 [] rfl (by omega) none (W + 1) 0 u2 (S1.next b2) ((hg.below B2).more (by omega)) HO2
  rw [en, hbl, hb, ← en] at hfr
  have hfr2 : Calls Tryd.prog 38 #[.pointer (some ⟨W, 0, none⟩), .slice (some ⟨W + 1, 0, none⟩) 0 0, .int .i64 0, .int .i64 0, .int .i64 0] u2 fun o w' => o = .returned (.tuple #[]) ∧ WF x a A n c W (some (ys, r0)) w' ∧ u2.grownBy w' (some W) := hfr
  have HFR := Lib.hid hfr2
  have HB2 := Lib.hid B2
  have HU0 := Lib.hid hu0
  have HU1 := Lib.hid hu1
  have HU2 := Lib.hid hu2
  have HW := Lib.hid hW.symm
  have HZ1 := Lib.hid z1
  have hwW : w.heap.size ≤ W := by omega
  have hWz : W ≤ u2.heap.size := by have := b2.size; omega
  clear hfr hfr2 hb hbl hg hcost en hn hv hp b0 e0 b1 S1 b2 HO2 B2 hu0 hu1 hu2 hW z1
  go_enter Tryd.func28, Tryd.ntmps28
  go_wp2_with (first
    | (rw [← HU0.out])
    | (refine wpl_built rfl 73 _ rfl #[(0, x.v), (1, .slice A n c), (2, .int .i64 a)] ?hp (build_search x A n c a _) ?_; case hp => simp [Act.eval, Act.put])
    | ((rw [← HU1.out]); try rw [HW.out])
    | ((rw [← HU2.out]); try rw [HZ1.out])
    | fail)
  refine HFR.out.mono ?_
  rintro o w5 ⟨rfl, hS5, hG5⟩
  obtain ⟨vb, c4, ho5⟩ := hS5.c4
  have c5 := hS5.c5
  have HB5 : Hid (Below w.heap.size w w5) := Lib.hid (below_grown HB2.out hG5 (by omega) hwW)
  have HO5 := Lib.hid ho5
  obtain ⟨A5, n5, rfl, _⟩ := owns_slice ho5
  simp only [lstL, ordL] at c4 c5 HO5
  clear hS5 hG5 ho5 HFR
  go_wp2_with fail
  go_quiet (fail)
  go_wp2_with fail
  go_ret2
  exact ⟨_, rfl, owns_next (owns_below HO5.out (by omega)) (below_drewN _ _ _), HB5.out.trans (below_drewN _ _ _)⟩

set_option maxRecDepth 100000 in
set_option maxHeartbeats 4000000 in
theorem l07Found_0 (x : Iro) (hx : x.Fits) (A : Option Addr) (n c : Nat) (ps : List Pie) (en : n = ps.length) (hn : n ≤ 1048576) (hf : ∀ p ∈ ps, p.Fits) (ys : List Int) (r0 : Int) (r1 : Nat) (hr : bestR 0 x ps = (ys, r0, r1)) (w : World) (hg : Sl Pie.cells 3 w w.heap.size A ps) :
    Calls Tryd.prog 23 #[x.v, .slice A n c, .int .i64 0] w fun o w' => ∃ v, o = .returned (.tuple #[v, .int .i64 r0, .int .i64 r1]) ∧ w'.ownsRow w.heap.size 2 1 v ys.length (ys.flatMap intS.C) ∧ Below w.heap.size w w' := by
  obtain ⟨k0, hk0⟩ : ∃ k : Nat, k = codeIr x ps := ⟨_, rfl⟩
  have HK0 := Lib.hid hk0
  have HR := Lib.hid hr
  have En := Lib.hid en
  have HFT := Lib.hid hf
  have S0 := Lib.hid (HotS.new x w 30)
  have c0 := S0.out.c0
  have c1 := S0.out.c1
  clear hk0 hr en hf
  go_enter Tryd.func23, Tryd.ntmps23
  go_wp2_with fail
  refine (l07Asked_any x hx A n c ps En.out hn HFT.out _ ((hg.below S0.out.b).more S0.out.b.size) k0 HK0.out).mono ?_
  rintro o w1 ⟨rfl, hb1⟩
  have S1 := Lib.hid (S0.out.next hb1)
  clear c0 c1 hb1
  have c0 := S1.out.c0
  have c1 := S1.out.c1
  cases hc : codeIr x ps with
  | zero =>
    have HC := Lib.hid hc
    obtain ⟨hv, hp, h8⟩ := codeIr_zero HC.out
    rw [← En.out] at h8
    have HV := Lib.hid hv
    have HP := Lib.hid hp
    obtain rfl : k0 = 0 := HK0.out.trans hc
    clear hv hp hc
    obtain ⟨hbb, _, rfl⟩ := best_yes HR.out HC.out
    have HBB := Lib.hid hbb
    have HT := Lib.hid (l07Best_any x 0 HV.out A n c ps En.out h8 HP.out (fun W p h1 b t h2 h3 h4 z h5 u h6 h7 => cost_0 W p h1 b t h2 h3 h4 z h5 u h6 h7) ys r0 HBB.out w1 ((hg.below S1.out.b).more S1.out.b.size))
    clear hbb
    go_wp2_with fail
    refine HT.out.mono ?_
    rintro o w2 ⟨v, rfl, hP, hb⟩
    have S2 := Lib.hid (S1.out.next hb)
    have HP2 := Lib.hid hP
    have hz := S1.out.b.size
    clear hP hb HT c0 c1
    go_wp2_with fail
    go_ret3
    exact ⟨_, rfl, owns_below HP2.out hz, S2.out.b⟩
  | succ i =>
    obtain ⟨rfl, rfl, rfl⟩ := best_no HR.out hc
    obtain rfl : k0 = i + 1 := HK0.out.trans hc
    have hne : (((i + 1 : Nat) : Int) != 0) = true := by rw [bne_iff_ne]; omega
    have hne2 : (((i : Int) + 1) != 0) = true := by rw [bne_iff_ne]; omega
    clear hc
    go_wp2_with fail
    go_ret3
    exact ⟨_, by first | (simp; done) | (simp; rfl), owns_below (World.ownsRow_made (e := 2) (size := 1) w1 #[] 0 (Nat.le_refl _) (Nat.zero_le _) rfl) S1.out.b.size, (S1.out.next ((Below.refl _ _).alloc (Nat.le_refl _) _)).b⟩
set_option maxRecDepth 100000 in
set_option maxHeartbeats 2000000 in
theorem ShortestOrder_spec (x : Iro) (hx : x.Fits) (A : Option Addr) (n c : Nat) (ps : List Pie) (en : n = ps.length) (hn : n ≤ 1048576) (hf : ∀ p ∈ ps, p.Fits) (ys : List Int) (r0 : Int) (r1 : Nat) (hr : bestR 0 x ps = (ys, r0, r1)) (w : World) (hg : Sl Pie.cells 3 w w.heap.size A ps) :
    Calls Tryd.prog 8 #[x.v, .slice A n c] w fun o w' => ∃ v, o = .returned (.tuple #[v, .int .i64 r0, .int .i64 r1]) ∧ w'.ownsRow w.heap.size 2 1 v ys.length (ys.flatMap intS.C) ∧ Below w.heap.size w w' := by
  have S0 := Lib.hid (HotS.new x w 30)
  have c0 := S0.out.c0
  have c1 := S0.out.c1
  have HT := Lib.hid (l07Found_0 x hx A n c ps en hn hf ys r0 r1 hr _ ((hg.below S0.out.b).more S0.out.b.size))
  clear en hn hf hr
  go_enter Tryd.func8, Tryd.ntmps8
  go_wp2_with fail
  refine HT.out.mono ?_
  rintro o w2 ⟨v, rfl, hP, hb⟩
  have S1 := Lib.hid (S0.out.next hb)
  have HP := Lib.hid hP
  have hz := S0.out.b.size
  clear hP hb HT S0
  go_wp2_with fail
  go_ret3
  exact ⟨_, rfl, owns_below HP.out hz, S1.out.b⟩
set_option maxRecDepth 100000 in
set_option maxHeartbeats 4000000 in
theorem l07Found_1 (x : Iro) (hx : x.Fits) (A : Option Addr) (n c : Nat) (ps : List Pie) (en : n = ps.length) (hn : n ≤ 1048576) (hf : ∀ p ∈ ps, p.Fits) (ys : List Int) (r0 : Int) (r1 : Nat) (hr : bestR 1 x ps = (ys, r0, r1)) (w : World) (hg : Sl Pie.cells 3 w w.heap.size A ps) :
    Calls Tryd.prog 23 #[x.v, .slice A n c, .int .i64 1] w fun o w' => ∃ v, o = .returned (.tuple #[v, .int .i64 r0, .int .i64 r1]) ∧ w'.ownsRow w.heap.size 2 1 v ys.length (ys.flatMap intS.C) ∧ Below w.heap.size w w' := by
  obtain ⟨k0, hk0⟩ : ∃ k : Nat, k = codeIr x ps := ⟨_, rfl⟩
  have HK0 := Lib.hid hk0
  have HR := Lib.hid hr
  have En := Lib.hid en
  have HFT := Lib.hid hf
  have S0 := Lib.hid (HotS.new x w 30)
  have c0 := S0.out.c0
  have c1 := S0.out.c1
  clear hk0 hr en hf
  go_enter Tryd.func23, Tryd.ntmps23
  go_wp2_with fail
  refine (l07Asked_any x hx A n c ps En.out hn HFT.out _ ((hg.below S0.out.b).more S0.out.b.size) k0 HK0.out).mono ?_
  rintro o w1 ⟨rfl, hb1⟩
  have S1 := Lib.hid (S0.out.next hb1)
  clear c0 c1 hb1
  have c0 := S1.out.c0
  have c1 := S1.out.c1
  cases hc : codeIr x ps with
  | zero =>
    have HC := Lib.hid hc
    obtain ⟨hv, hp, h8⟩ := codeIr_zero HC.out
    rw [← En.out] at h8
    have HV := Lib.hid hv
    have HP := Lib.hid hp
    obtain rfl : k0 = 0 := HK0.out.trans hc
    clear hv hp hc
    obtain ⟨hbb, _, rfl⟩ := best_yes HR.out HC.out
    have HBB := Lib.hid hbb
    have HT := Lib.hid (l07Best_any x 1 HV.out A n c ps En.out h8 HP.out (fun W p h1 b t h2 h3 h4 z h5 u h6 h7 => cost_1 W p h1 b t h2 h3 h4 z h5 u h6 h7) ys r0 HBB.out w1 ((hg.below S1.out.b).more S1.out.b.size))
    clear hbb
    go_wp2_with fail
    refine HT.out.mono ?_
    rintro o w2 ⟨v, rfl, hP, hb⟩
    have S2 := Lib.hid (S1.out.next hb)
    have HP2 := Lib.hid hP
    have hz := S1.out.b.size
    clear hP hb HT c0 c1
    go_wp2_with fail
    go_ret3
    exact ⟨_, rfl, owns_below HP2.out hz, S2.out.b⟩
  | succ i =>
    obtain ⟨rfl, rfl, rfl⟩ := best_no HR.out hc
    obtain rfl : k0 = i + 1 := HK0.out.trans hc
    have hne : (((i + 1 : Nat) : Int) != 0) = true := by rw [bne_iff_ne]; omega
    have hne2 : (((i : Int) + 1) != 0) = true := by rw [bne_iff_ne]; omega
    clear hc
    go_wp2_with fail
    go_ret3
    exact ⟨_, by first | (simp; done) | (simp; rfl), owns_below (World.ownsRow_made (e := 2) (size := 1) w1 #[] 0 (Nat.le_refl _) (Nat.zero_le _) rfl) S1.out.b.size, (S1.out.next ((Below.refl _ _).alloc (Nat.le_refl _) _)).b⟩
set_option maxRecDepth 100000 in
set_option maxHeartbeats 2000000 in
theorem FewestLate_spec (x : Iro) (hx : x.Fits) (A : Option Addr) (n c : Nat) (ps : List Pie) (en : n = ps.length) (hn : n ≤ 1048576) (hf : ∀ p ∈ ps, p.Fits) (ys : List Int) (r0 : Int) (r1 : Nat) (hr : bestR 1 x ps = (ys, r0, r1)) (w : World) (hg : Sl Pie.cells 3 w w.heap.size A ps) :
    Calls Tryd.prog 17 #[x.v, .slice A n c] w fun o w' => ∃ v, o = .returned (.tuple #[v, .int .i64 r0, .int .i64 r1]) ∧ w'.ownsRow w.heap.size 2 1 v ys.length (ys.flatMap intS.C) ∧ Below w.heap.size w w' := by
  have S0 := Lib.hid (HotS.new x w 30)
  have c0 := S0.out.c0
  have c1 := S0.out.c1
  have HT := Lib.hid (l07Found_1 x hx A n c ps en hn hf ys r0 r1 hr _ ((hg.below S0.out.b).more S0.out.b.size))
  clear en hn hf hr
  go_enter Tryd.func17, Tryd.ntmps17
  go_wp2_with fail
  refine HT.out.mono ?_
  rintro o w2 ⟨v, rfl, hP, hb⟩
  have S1 := Lib.hid (S0.out.next hb)
  have HP := Lib.hid hP
  have hz := S0.out.b.size
  clear hP hb HT S0
  go_wp2_with fail
  go_ret3
  exact ⟨_, rfl, owns_below HP.out hz, S1.out.b⟩
set_option maxRecDepth 100000 in
set_option maxHeartbeats 4000000 in
theorem l07Found_2 (x : Iro) (hx : x.Fits) (A : Option Addr) (n c : Nat) (ps : List Pie) (en : n = ps.length) (hn : n ≤ 1048576) (hf : ∀ p ∈ ps, p.Fits) (ys : List Int) (r0 : Int) (r1 : Nat) (hr : bestR 2 x ps = (ys, r0, r1)) (w : World) (hg : Sl Pie.cells 3 w w.heap.size A ps) :
    Calls Tryd.prog 23 #[x.v, .slice A n c, .int .i64 2] w fun o w' => ∃ v, o = .returned (.tuple #[v, .int .i64 r0, .int .i64 r1]) ∧ w'.ownsRow w.heap.size 2 1 v ys.length (ys.flatMap intS.C) ∧ Below w.heap.size w w' := by
  obtain ⟨k0, hk0⟩ : ∃ k : Nat, k = codeIr x ps := ⟨_, rfl⟩
  have HK0 := Lib.hid hk0
  have HR := Lib.hid hr
  have En := Lib.hid en
  have HFT := Lib.hid hf
  have S0 := Lib.hid (HotS.new x w 30)
  have c0 := S0.out.c0
  have c1 := S0.out.c1
  clear hk0 hr en hf
  go_enter Tryd.func23, Tryd.ntmps23
  go_wp2_with fail
  refine (l07Asked_any x hx A n c ps En.out hn HFT.out _ ((hg.below S0.out.b).more S0.out.b.size) k0 HK0.out).mono ?_
  rintro o w1 ⟨rfl, hb1⟩
  have S1 := Lib.hid (S0.out.next hb1)
  clear c0 c1 hb1
  have c0 := S1.out.c0
  have c1 := S1.out.c1
  cases hc : codeIr x ps with
  | zero =>
    have HC := Lib.hid hc
    obtain ⟨hv, hp, h8⟩ := codeIr_zero HC.out
    rw [← En.out] at h8
    have HV := Lib.hid hv
    have HP := Lib.hid hp
    obtain rfl : k0 = 0 := HK0.out.trans hc
    clear hv hp hc
    obtain ⟨hbb, _, rfl⟩ := best_yes HR.out HC.out
    have HBB := Lib.hid hbb
    have HT := Lib.hid (l07Best_any x 2 HV.out A n c ps En.out h8 HP.out (fun W p h1 b t h2 h3 h4 z h5 u h6 h7 => cost_2 W p h1 b t h2 h3 h4 z h5 u h6 h7) ys r0 HBB.out w1 ((hg.below S1.out.b).more S1.out.b.size))
    clear hbb
    go_wp2_with fail
    refine HT.out.mono ?_
    rintro o w2 ⟨v, rfl, hP, hb⟩
    have S2 := Lib.hid (S1.out.next hb)
    have HP2 := Lib.hid hP
    have hz := S1.out.b.size
    clear hP hb HT c0 c1
    go_wp2_with fail
    go_ret3
    exact ⟨_, rfl, owns_below HP2.out hz, S2.out.b⟩
  | succ i =>
    obtain ⟨rfl, rfl, rfl⟩ := best_no HR.out hc
    obtain rfl : k0 = i + 1 := HK0.out.trans hc
    have hne : (((i + 1 : Nat) : Int) != 0) = true := by rw [bne_iff_ne]; omega
    have hne2 : (((i : Int) + 1) != 0) = true := by rw [bne_iff_ne]; omega
    clear hc
    go_wp2_with fail
    go_ret3
    exact ⟨_, by first | (simp; done) | (simp; rfl), owns_below (World.ownsRow_made (e := 2) (size := 1) w1 #[] 0 (Nat.le_refl _) (Nat.zero_le _) rfl) S1.out.b.size, (S1.out.next ((Below.refl _ _).alloc (Nat.le_refl _) _)).b⟩
set_option maxRecDepth 100000 in
set_option maxHeartbeats 2000000 in
theorem LeastLateness_spec (x : Iro) (hx : x.Fits) (A : Option Addr) (n c : Nat) (ps : List Pie) (en : n = ps.length) (hn : n ≤ 1048576) (hf : ∀ p ∈ ps, p.Fits) (ys : List Int) (r0 : Int) (r1 : Nat) (hr : bestR 2 x ps = (ys, r0, r1)) (w : World) (hg : Sl Pie.cells 3 w w.heap.size A ps) :
    Calls Tryd.prog 19 #[x.v, .slice A n c] w fun o w' => ∃ v, o = .returned (.tuple #[v, .int .i64 r0, .int .i64 r1]) ∧ w'.ownsRow w.heap.size 2 1 v ys.length (ys.flatMap intS.C) ∧ Below w.heap.size w w' := by
  have S0 := Lib.hid (HotS.new x w 30)
  have c0 := S0.out.c0
  have c1 := S0.out.c1
  have HT := Lib.hid (l07Found_2 x hx A n c ps en hn hf ys r0 r1 hr _ ((hg.below S0.out.b).more S0.out.b.size))
  clear en hn hf hr
  go_enter Tryd.func19, Tryd.ntmps19
  go_wp2_with fail
  refine HT.out.mono ?_
  rintro o w2 ⟨v, rfl, hP, hb⟩
  have S1 := Lib.hid (S0.out.next hb)
  have HP := Lib.hid hP
  have hz := S0.out.b.size
  clear hP hb HT S0
  go_wp2_with fail
  go_ret3
  exact ⟨_, rfl, owns_below HP.out hz, S1.out.b⟩
set_option maxRecDepth 100000 in
set_option maxHeartbeats 4000000 in
theorem l07Found_3 (x : Iro) (hx : x.Fits) (A : Option Addr) (n c : Nat) (ps : List Pie) (en : n = ps.length) (hn : n ≤ 1048576) (hf : ∀ p ∈ ps, p.Fits) (ys : List Int) (r0 : Int) (r1 : Nat) (hr : bestR 3 x ps = (ys, r0, r1)) (w : World) (hg : Sl Pie.cells 3 w w.heap.size A ps) :
    Calls Tryd.prog 23 #[x.v, .slice A n c, .int .i64 3] w fun o w' => ∃ v, o = .returned (.tuple #[v, .int .i64 r0, .int .i64 r1]) ∧ w'.ownsRow w.heap.size 2 1 v ys.length (ys.flatMap intS.C) ∧ Below w.heap.size w w' := by
  obtain ⟨k0, hk0⟩ : ∃ k : Nat, k = codeIr x ps := ⟨_, rfl⟩
  have HK0 := Lib.hid hk0
  have HR := Lib.hid hr
  have En := Lib.hid en
  have HFT := Lib.hid hf
  have S0 := Lib.hid (HotS.new x w 30)
  have c0 := S0.out.c0
  have c1 := S0.out.c1
  clear hk0 hr en hf
  go_enter Tryd.func23, Tryd.ntmps23
  go_wp2_with fail
  refine (l07Asked_any x hx A n c ps En.out hn HFT.out _ ((hg.below S0.out.b).more S0.out.b.size) k0 HK0.out).mono ?_
  rintro o w1 ⟨rfl, hb1⟩
  have S1 := Lib.hid (S0.out.next hb1)
  clear c0 c1 hb1
  have c0 := S1.out.c0
  have c1 := S1.out.c1
  cases hc : codeIr x ps with
  | zero =>
    have HC := Lib.hid hc
    obtain ⟨hv, hp, h8⟩ := codeIr_zero HC.out
    rw [← En.out] at h8
    have HV := Lib.hid hv
    have HP := Lib.hid hp
    obtain rfl : k0 = 0 := HK0.out.trans hc
    clear hv hp hc
    obtain ⟨hbb, _, rfl⟩ := best_yes HR.out HC.out
    have HBB := Lib.hid hbb
    have HT := Lib.hid (l07Best_any x 3 HV.out A n c ps En.out h8 HP.out (fun W p h1 b t h2 h3 h4 z h5 u h6 h7 => cost_3 W p h1 b t h2 h3 h4 z h5 u h6 h7) ys r0 HBB.out w1 ((hg.below S1.out.b).more S1.out.b.size))
    clear hbb
    go_wp2_with fail
    refine HT.out.mono ?_
    rintro o w2 ⟨v, rfl, hP, hb⟩
    have S2 := Lib.hid (S1.out.next hb)
    have HP2 := Lib.hid hP
    have hz := S1.out.b.size
    clear hP hb HT c0 c1
    go_wp2_with fail
    go_ret3
    exact ⟨_, rfl, owns_below HP2.out hz, S2.out.b⟩
  | succ i =>
    obtain ⟨rfl, rfl, rfl⟩ := best_no HR.out hc
    obtain rfl : k0 = i + 1 := HK0.out.trans hc
    have hne : (((i + 1 : Nat) : Int) != 0) = true := by rw [bne_iff_ne]; omega
    have hne2 : (((i : Int) + 1) != 0) = true := by rw [bne_iff_ne]; omega
    clear hc
    go_wp2_with fail
    go_ret3
    exact ⟨_, by first | (simp; done) | (simp; rfl), owns_below (World.ownsRow_made (e := 2) (size := 1) w1 #[] 0 (Nat.le_refl _) (Nat.zero_le _) rfl) S1.out.b.size, (S1.out.next ((Below.refl _ _).alloc (Nat.le_refl _) _)).b⟩
set_option maxRecDepth 100000 in
set_option maxHeartbeats 2000000 in
theorem LeastWait_spec (x : Iro) (hx : x.Fits) (A : Option Addr) (n c : Nat) (ps : List Pie) (en : n = ps.length) (hn : n ≤ 1048576) (hf : ∀ p ∈ ps, p.Fits) (ys : List Int) (r0 : Int) (r1 : Nat) (hr : bestR 3 x ps = (ys, r0, r1)) (w : World) (hg : Sl Pie.cells 3 w w.heap.size A ps) :
    Calls Tryd.prog 21 #[x.v, .slice A n c] w fun o w' => ∃ v, o = .returned (.tuple #[v, .int .i64 r0, .int .i64 r1]) ∧ w'.ownsRow w.heap.size 2 1 v ys.length (ys.flatMap intS.C) ∧ Below w.heap.size w w' := by
  have S0 := Lib.hid (HotS.new x w 30)
  have c0 := S0.out.c0
  have c1 := S0.out.c1
  have HT := Lib.hid (l07Found_3 x hx A n c ps en hn hf ys r0 r1 hr _ ((hg.below S0.out.b).more S0.out.b.size))
  clear en hn hf hr
  go_enter Tryd.func21, Tryd.ntmps21
  go_wp2_with fail
  refine HT.out.mono ?_
  rintro o w2 ⟨v, rfl, hP, hb⟩
  have S1 := Lib.hid (S0.out.next hb)
  have HP := Lib.hid hP
  have hz := S0.out.b.size
  clear hP hb HT S0
  go_wp2_with fail
  go_ret3
  exact ⟨_, rfl, owns_below HP.out hz, S1.out.b⟩
end Go.Proofs.YtjhkjbdpmianfaaDoor.iron
