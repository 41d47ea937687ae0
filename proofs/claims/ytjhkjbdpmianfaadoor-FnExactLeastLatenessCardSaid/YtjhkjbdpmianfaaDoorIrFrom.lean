/-
  The model's search: its method that calls itself.
-/
import Derived.Test.YtjhkjbdpmianfaaDoorJoin19
import Derived.Test.YtjhkjbdpmianfaaDoorJoin20
import Derived.Test.YtjhkjbdpmianfaaDoorJoin16
import Derived.Test.YtjhkjbdpmianfaaDoorStill
import Derived.Laws.AppendOwnNone
import Derived.Deep.LoopGhost
import Derived.Outline
import Derived.Deep.CutRange
namespace Go.Proofs.YtjhkjbdpmianfaaDoor.iron
open Go Go.RowKit sl stk errs row fold ins

/-- the best so far behind the first k pieces -/
def frK (x : Iro) (a : Nat) (ps : List Pie) (r : Nat) (os : List Int) (b : Bst) : Nat → Bst
  | 0 => b
  | k + 1 => if (k : Int) ∈ os then frK x a ps r os b k else dfsM x a ps r (os ++ [(k : Int)]) (frK x a ps r os b k)
theorem frK_fold (x : Iro) (a : Nat) (ps : List Pie) (r : Nat) (os : List Int) (b : Bst) : ∀ k, (leftP k os).foldl (fun b (k : Nat) => dfsM x a ps r (os ++ [(k : Int)]) b) b = frK x a ps r os b k
  | 0 => rfl
  | k + 1 => by
    have h : leftP (k + 1) os = leftP k os ++ (if (k : Int) ∈ os then [] else [k]) := by
      unfold leftP
      rw [List.range_succ, List.filter_append]
      congr 1
      by_cases h : (k : Int) ∈ os
      · rw [if_pos h]; simp [h]
      · rw [if_neg h]; simp [h]
    rw [h, List.foldl_append, frK_fold x a ps r os b k, frK]
    by_cases h : (k : Int) ∈ os
    · rw [if_pos h, if_pos h]; rfl
    · rw [if_neg h, if_neg h]; rfl
theorem dfsM_more {x : Iro} {a : Nat} {ps : List Pie} {r : Nat} {os : List Int} {b : Bst} (h : prnB b (runs x a ps os).sum = false) : dfsM x a ps (r + 1) os b = frK x a ps r os b ps.length := by
  rw [dfsM, if_neg (by rw [h]; simp), frK_fold]
theorem dfsM_prn {x : Iro} {a : Nat} {ps : List Pie} {r : Nat} {os : List Int} {b : Bst} (h : prnB b (runs x a ps os).sum = true) : dfsM x a ps r os b = b := by
  cases r <;> rw [dfsM, if_pos h]
theorem dfsM_end {x : Iro} {a : Nat} {ps : List Pie} {os : List Int} {b : Bst} (h : prnB b (runs x a ps os).sum = false) : dfsM x a ps 0 os b = some (os, (runs x a ps os).sum) := by
  rw [dfsM, if_neg (by rw [h]; simp)]
def ordL : Bst → List Int
  | none => []
  | some d => d.1
def lstL : Bst → Int
  | none => 0
  | some d => d.2
/-- the model's search as it lies in its block -/
structure WF (x : Iro) (a : Nat) (A : Option Addr) (n c : Nat) (W : Nat) (b : Bst) (u : World) : Prop where
  c0 : u.cell? ⟨W, 0, none⟩ = some (.int .i8 x.up)
  c1 : u.cell? ⟨W, 1, none⟩ = some (.int .i8 x.down)
  c2 : u.cell? ⟨W, 2, none⟩ = some (.slice A n c)
  c3 : u.cell? ⟨W, 3, none⟩ = some (.int .i64 a)
  c4 : ∃ vb, u.cell? ⟨W, 4, none⟩ = some vb ∧ u.ownsRow (W + 1) 2 1 vb (ordL b).length ((ordL b).flatMap intS.C)
  c5 : u.cell? ⟨W, 5, none⟩ = some (.int .i64 (lstL b))
  c6 : u.cell? ⟨W, 6, none⟩ = some (.bool b.isSome)
  fz : ∀ i, u.frozen? ⟨W, i, none⟩ = false
  z : W < u.heap.size
theorem WF.next {x : Iro} {a : Nat} {A : Option Addr} {n c W : Nat} {b : Bst} {u v : World} (h : WF x a A n c W b u) (hb : Below u.heap.size u v) : WF x a A n c W b v := by
  have g : ∀ i, v.cell? ⟨W, i, none⟩ = u.cell? ⟨W, i, none⟩ := fun i => hb.cell (p := ⟨W, i, none⟩) h.z
  obtain ⟨vb, h4, h5⟩ := h.c4
  exact ⟨(g 0).trans h.c0, (g 1).trans h.c1, (g 2).trans h.c2, (g 3).trans h.c3, ⟨vb, (g 4).trans h4, owns_next h5 hb⟩, (g 5).trans h.c5, (g 6).trans h.c6, fun i => (hb.frozen (p := ⟨W, i, none⟩) h.z).trans (h.fz i), Nat.lt_of_lt_of_le h.z hb.size⟩
/-- the three stores that keep an order -/
theorem WF.keep {x : Iro} {a : Nat} {A : Option Addr} {n c W : Nat} {b : Bst} {u : World} (h : WF x a A n c W b u) (os : List Int) (s : Int) {vb : Value} (ho : u.ownsRow (W + 1) 2 1 vb os.length (os.flatMap intS.C)) :
    WF x a A n c W (some (os, s)) (((u.setCell ⟨W, 4, none⟩ vb).setCell ⟨W, 5, none⟩ (.int .i64 s)).setCell ⟨W, 6, none⟩ (.bool true)) ∧ u.grownBy (((u.setCell ⟨W, 4, none⟩ vb).setCell ⟨W, 5, none⟩ (.int .i64 s)).setCell ⟨W, 6, none⟩ (.bool true)) (some W) := by
  have g1 : u.grownBy (u.setCell ⟨W, 4, none⟩ vb) (some W) := grownBy_set (grownBy_refl _ _) rfl _
  have g2 : u.grownBy ((u.setCell ⟨W, 4, none⟩ vb).setCell ⟨W, 5, none⟩ (.int .i64 s)) (some W) := grownBy_set g1 rfl _
  have g3 : u.grownBy (((u.setCell ⟨W, 4, none⟩ vb).setCell ⟨W, 5, none⟩ (.int .i64 s)).setCell ⟨W, 6, none⟩ (.bool true)) (some W) := grownBy_set g2 rfl _
  obtain ⟨vb0, h4, _⟩ := h.c4
  obtain ⟨u1, hu1⟩ : ∃ v, v = u.setCell ⟨W, 4, none⟩ vb := ⟨_, rfl⟩
  have a1 : ∀ i, i ≠ 4 → u1.cell? ⟨W, i, none⟩ = u.cell? ⟨W, i, none⟩ := fun i hi => by rw [hu1]; exact World.cell?_setCell_other _ _ _ _ (fun e => by have := congrArg Addr.off e; simp only at this; omega)
  have b1 : u1.cell? ⟨W, 4, none⟩ = some vb := by rw [hu1]; exact World.cell?_setCell_same _ _ _ h4
  rw [← hu1] at g2 g3 ⊢
  obtain ⟨u2, hu2⟩ : ∃ v, v = u1.setCell ⟨W, 5, none⟩ (.int .i64 s) := ⟨_, rfl⟩
  have a2 : ∀ i, i ≠ 5 → u2.cell? ⟨W, i, none⟩ = u1.cell? ⟨W, i, none⟩ := fun i hi => by rw [hu2]; exact World.cell?_setCell_other _ _ _ _ (fun e => by have := congrArg Addr.off e; simp only at this; omega)
  have b2 : u2.cell? ⟨W, 5, none⟩ = some (.int .i64 s) := by rw [hu2]; exact World.cell?_setCell_same _ _ _ ((a1 5 (by omega)).trans h.c5)
  rw [← hu2] at g3 ⊢
  obtain ⟨u3, hu3⟩ : ∃ v, v = u2.setCell ⟨W, 6, none⟩ (.bool true) := ⟨_, rfl⟩
  have a3 : ∀ i, i ≠ 6 → u3.cell? ⟨W, i, none⟩ = u2.cell? ⟨W, i, none⟩ := fun i hi => by rw [hu3]; exact World.cell?_setCell_other _ _ _ _ (fun e => by have := congrArg Addr.off e; simp only at this; omega)
  have b3 : u3.cell? ⟨W, 6, none⟩ = some (.bool true) := by rw [hu3]; exact World.cell?_setCell_same _ _ _ (((a2 6 (by omega)).trans (a1 6 (by omega))).trans h.c6)
  rw [← hu3] at g3 ⊢
  have far : ∀ i, i < 4 → u3.cell? ⟨W, i, none⟩ = u.cell? ⟨W, i, none⟩ := fun i hi => ((a3 i (by omega)).trans (a2 i (by omega))).trans (a1 i (by omega))
  refine ⟨⟨(far 0 (by omega)).trans h.c0, (far 1 (by omega)).trans h.c1, (far 2 (by omega)).trans h.c2, (far 3 (by omega)).trans h.c3, ⟨vb, ((a3 4 (by omega)).trans (a2 4 (by omega))).trans b1, owns_other ho g3 fun k hk => by have := (ho.lt k hk).1; omega⟩, (a3 5 (by omega)).trans b2, b3, fun i => ?_, Nat.lt_of_lt_of_le h.z g3.size⟩, g3⟩
  rw [hu3, hu2, hu1, World.frozen?_setCell, World.frozen?_setCell, World.frozen?_setCell]
  exact h.fz i
theorem grownBy_trans {a b c : World} {r : Option Nat} (h : a.grownBy b r) (k : b.grownBy c r) : a.grownBy c r :=
  ⟨k.os.trans h.os, k.tape.trans h.tape, k.output.trans h.output, Nat.le_trans h.size k.size, fun i hi hne => (k.block i (Nat.lt_of_lt_of_le hi h.size) hne).trans (h.block i hi hne)⟩
abbrev TQ (x : Iro) (y : Pie) (W b : Nat) (u : World) : Prop := u.cell? ⟨W, 0, none⟩ = some (.int .i8 x.up) ∧ u.cell? ⟨W, 1, none⟩ = some (.int .i8 x.down) ∧ u.cell? ⟨b, 0, none⟩ = some (.int .i8 y.lev) ∧ u.cell? ⟨b, 1, none⟩ = some (.int .i8 y.mins) ∧ u.cell? ⟨b, 2, none⟩ = some (.int .i16 y.due)
theorem TQ.next {x : Iro} {y : Pie} {W b : Nat} {u v : World} (h : TQ x y W b u) (hW : W < u.heap.size) (hb : b < u.heap.size) (hbl : Below u.heap.size u v) : TQ x y W b v :=
  ⟨(hbl.cell (p := ⟨W, 0, none⟩) hW).trans h.1, (hbl.cell (p := ⟨W, 1, none⟩) hW).trans h.2.1, (hbl.cell (p := ⟨b, 0, none⟩) hb).trans h.2.2.1, (hbl.cell (p := ⟨b, 1, none⟩) hb).trans h.2.2.2.1, (hbl.cell (p := ⟨b, 2, none⟩) hb).trans h.2.2.2.2⟩
theorem wp_listedI {P : Program} {o : Oper} {a : Act} {w w' : World} {v : Value} {K : Act → World → Prop} {Q : Exit → Act → World → Prop} (t : TypeId) (len : Nat) (parts : Array (Nat × Operand)) (ho : o.op = .buildSlice t len parts)
    (vals : Array (Nat × Value)) (hp : (parts.map fun (i, x) => (i, a.eval x)) = vals) (hrun : (Instr.buildSlice t len vals).run P w = .ok v w') (h : K (a.put o.dst v) w') : o.wp P a w K Q := by
  unfold Oper.wp execOp
  simp only [ho, hp, hrun, Sem.run_bind, Sem.run_pure, Result.andThen_ok]
  exact h
theorem build_oneI (p : Int) (u : World) : (Instr.buildSlice 27 1 #[(0, .int .i64 p)]).run Tryd.prog u = .ok (.slice (some ⟨u.heap.size, 0, none⟩) 1 1) (u.alloc (.cells #[.int .i64 p] 2)) := by kernel_rfl
theorem build_nonI (u : World) : (Instr.buildSlice 27 0 #[]).run Tryd.prog u = .ok (.slice (some ⟨u.heap.size, 0, none⟩) 0 0) (u.alloc (.cells #[] 2)) := by kernel_rfl
theorem cells_ones (xs : List Int) : ∀ u ∈ xs.flatMap intS.C, u.oneCell' = true := by
  intro u hu
  obtain ⟨x, _, hx⟩ := List.mem_flatMap.1 hu
  rw [List.mem_singleton.1 hx]
  rfl

theorem runs_sum_in0 {x : Iro} {a : Nat} {ps : List Pie} (hv : iroB x = true) (hp : ps.all pieB = true) {os : List Int} (h8 : os.length ≤ 8) : (runs x a ps os).Ok os.length := by
  have := runs_ok a hv hp (os := os) os.length (Nat.le_refl _) h8
  rwa [List.take_of_length_le (Nat.le_refl _)] at this
set_option maxRecDepth 100000 in
set_option maxHeartbeats 16000000 in
theorem from_any (x : Iro) (a : Nat) (hv : iroB x = true) (A : Option Addr) (n c W : Nat) (ps : List Pie) (en : n = ps.length) (hn : n ≤ 8) (hp : ps.all pieB = true)
    (hcost : ∀ (p : Pie), pieB p = true → ∀ (b t : Int), 0 ≤ b → b ≤ t → t ≤ 10000 → ∀ (z : Int), cst a p b t = z → ∀ (w : World), W < w.heap.size → w.cell? ⟨W, 3, none⟩ = some (.int .i64 a) →
      Calls Tryd.prog 50 #[.pointer (some ⟨W, 0, none⟩), p.v, .int .i64 b, .int .i64 t] w fun o w' => o = .returned (.int .i64 z) ∧ Below w.heap.size w w') :
    ∀ (r m : Nat) (os : List Int), m = os.length → m + r = n → ∀ (b : Bst) (go co : Nat) (w : World), WF x a A n c W b w → Sl Pie.cells 3 w W A ps → w.ownsRow (W + 1) 2 1 (.slice (some ⟨go, 0, none⟩) m co) m (os.flatMap intS.C) →
    Calls Tryd.prog 38 #[.pointer (some ⟨W, 0, none⟩), .slice (some ⟨go, 0, none⟩) m co, .int .i64 (runs x a ps os).lev, .int .i64 (runs x a ps os).at_, .int .i64 (runs x a ps os).sum] w fun o w' => o = .returned (.tuple #[]) ∧ WF x a A n c W (dfsM x a ps r os b) w' ∧ w.grownBy w' (some W) := by
  obtain ⟨i0, hI, hz0, hz1, hz2⟩ := info_parts intS.info
  have En := Lib.hid en
  have HV := Lib.hid hv
  have HP := Lib.hid hp
  have HC := Lib.hid hcost
  clear en hv hp hcost
  intro r
  induction r with
  | zero =>
    intro m os em hmr b go co w hS hg hO
    obtain rfl : m = n := by omega
    obtain ⟨s, hs⟩ : ∃ s, runs x a ps os = s := ⟨_, rfl⟩
    have hok := runs_sum_in0 (a := a) HV.out HP.out (os := os) (by omega)
    rw [hs] at hok ⊢
    obtain ⟨vb, h4, _⟩ := hS.c4
    have h5 := hS.c5
    have h6 := hS.c6
    have h2 := hS.c2
    have hf := hS.fz
    have hz := hS.z
    have HS := Lib.hid hS
    have HO := Lib.hid hO
    have HRS := Lib.hid hs
    have Em := Lib.hid em
    have hq0 := hok.s0
    have hq1 := hok.s1
    clear hS hO hs em hok hg
    cases hpb : prnB b s.sum with
    | true =>
      have HD : Hid (dfsM x a ps 0 os b = b) := Lib.hid (dfsM_prn (by rw [HRS.out]; exact hpb))
      rw [HD.out]
      cases b with
      | none => cases hpb
      | some d =>
        have hle : d.2 ≤ s.sum := of_decide_eq_true hpb
        simp only [lstL, Option.isSome] at h5 h6
        clear hpb
        go_enter Tryd.func38, Tryd.ntmps38
        go_wp2_with fail
        refine bodyPost_ret (v := .tuple #[]) (results_none Tryd.results38 _ _ _) rfl ⟨rfl, HS.out, grownBy_refl _ _⟩
    | false =>
      have HD : Hid (dfsM x a ps 0 os b = some (os, s.sum)) := Lib.hid (by rw [dfsM_end (by rw [HRS.out]; exact hpb), HRS.out])
      rw [HD.out]
      have hown := World.ownsRow_made (e := 2) (size := 1) w #[] 0 (Nat.le_refl _) (Nat.zero_le _) rfl
      have hcells := (HO.out.alloc (.cells #[] 2)).cells rfl
      have hlen := HO.out.1
      have HOWN := Lib.hid hown
      have HCELLS := Lib.hid hcells
      have HLEN := Lib.hid hlen
      have HONES := Lib.hid (cells_ones os)
      clear hown hcells hlen
      have key : ∀ (v5 : Value) (w5 : World), w5.ownsRow w.heap.size 2 1 v5 m ([] ++ os.flatMap intS.C) → (w.alloc (.cells #[] 2)).grownBy w5 (some w.heap.size) → WF x a A m c W b w5 ∧ w.grownBy w5 (some W) ∧ w5.ownsRow (W + 1) 2 1 v5 os.length (os.flatMap intS.C) := fun v5 w5 hP hgr => by
        have hb : Below w.heap.size w w5 := Below.grown ((Below.refl _ _).alloc (Nat.le_refl _) _) hgr (by simp) (fun g hg => by have := Option.some.inj hg; omega)
        rw [List.nil_append, Em.out] at hP
        exact ⟨HS.out.next hb, grownBy_below hb, owns_below hP (by omega)⟩
      have HKEY := Lib.hid key
      clear key
      have walkd : b = none ∨ ∃ d, b = some d ∧ ¬ d.2 ≤ s.sum := by
        cases b with
        | none => exact .inl rfl
        | some d => exact .inr ⟨d, rfl, of_decide_eq_false hpb⟩
      clear hpb
      rcases walkd with rfl | ⟨d, rfl, hle⟩
      all_goals
        simp only [lstL, Option.isSome] at h5 h6
        have hf4 := hf 4
        have hf5 := hf 5
        have hf6 := hf 6
        clear hf
        go_enter Tryd.func38, Tryd.ntmps38
        go_wp2_with (first
          | (at_builtin; refine wpList_append_own _ rfl (.tmp 34) (.tmp 35) 27 rfl w.heap.size 2 i0 (.int .i64 0) 1 8 Tryd.underlying27 hI hz0 hz1 hz2 rfl (by decide) _ 0 [] rfl HOWN.out ⟨go, 0, none⟩ m co (os.flatMap intS.C) rfl HLEN.out HCELLS.out HONES.out (by unfold maxLen; omega) (by omega) (by simp) ?_; intro v5 w5 hP5 hgr5 _; rw [Nat.zero_add] at hP5; obtain ⟨A5, c5, rfl, _⟩ := owns_slice hP5; obtain ⟨k1, k2, k3⟩ := HKEY.out _ w5 hP5 hgr5; obtain ⟨vb5, k4, _⟩ := k1.c4; have k5 := k1.c5; have k6 := k1.c6; have kf4 := k1.fz 4; have kf5 := k1.fz 5; have kf6 := k1.fz 6; have K1 := Lib.hid k1; have K2 := Lib.hid k2; have K3 := Lib.hid k3; clear k1 k2 k3 hP5 hgr5 h4 h5 h6 h2 hf4 hf5 hf6; simp only [lstL, Option.isSome] at k5 k6)
          | fail)
        have hkk := K1.out.keep os s.sum K3.out
        refine bodyPost_ret (v := .tuple #[]) (results_none Tryd.results38 _ _ _) rfl ⟨rfl, hkk.1, grownBy_trans K2.out hkk.2⟩
  | succ r ih =>
    intro m os em hmr b go co w hS hg hO
    obtain ⟨s, hs⟩ : ∃ s, runs x a ps os = s := ⟨_, rfl⟩
    have hok := runs_sum_in0 (a := a) HV.out HP.out (os := os) (by omega)
    rw [hs] at hok ⊢
    have h5 := hS.c5
    have h6 := hS.c6
    have h2 := hS.c2
    have hz := hS.z
    have HS := Lib.hid hS
    have HO := Lib.hid hO
    have HRS := Lib.hid hs
    have Em := Lib.hid em
    have HOK := Lib.hid hok
    have hq0 := hok.s0
    have hq1 := hok.s1
    clear hS hO hs em hok
    cases hpb : prnB b s.sum with
    | true =>
      have HD : Hid (dfsM x a ps (r + 1) os b = b) := Lib.hid (dfsM_prn (by rw [HRS.out]; exact hpb))
      rw [HD.out]
      cases b with
      | none => cases hpb
      | some d =>
        have hle : d.2 ≤ s.sum := of_decide_eq_true hpb
        simp only [lstL, Option.isSome] at h5 h6
        clear hpb ih hg
        go_enter Tryd.func38, Tryd.ntmps38
        go_wp2_with fail
        refine bodyPost_ret (v := .tuple #[]) (results_none Tryd.results38 _ _ _) rfl ⟨rfl, HS.out, grownBy_refl _ _⟩
    | false =>
      have HD : Hid (dfsM x a ps (r + 1) os b = frK x a ps r os b n) := Lib.hid (by rw [dfsM_more (by rw [HRS.out]; exact hpb), En.out])
      rw [HD.out]
      have walkd : b = none ∨ ∃ d, b = some d ∧ ¬ d.2 ≤ s.sum := by
        cases b with
        | none => exact .inl rfl
        | some d => exact .inr ⟨d, rfl, of_decide_eq_false hpb⟩
      have WD := Lib.hid walkd
      have hmn : ((m : Int) == (n : Int)) = false := by rw [beq_eq_false_iff_ne]; omega
      have hmn2 : ¬ m = n := by omega
      have HG := Lib.hid hg
      have IH := Lib.hid ih
      clear hpb walkd hg ih
      go_enter Tryd.func38, Tryd.ntmps38
      go_upto_region 0 with fail
      go_cut [24] from 13 to 24 (fun v24 wx => v24 = .bool false ∧ wx = w)
      case first =>
        rcases WD.out with rfl | ⟨d, rfl, hle⟩
        all_goals
          simp only [lstL, Option.isSome] at h5 h6
          go_wp2_with fail
          go_meet
          case rel => exact ⟨rfl, rfl⟩
      case rest =>
        obtain ⟨rfl, rfl⟩ := hcut
        clear h5 h6
        go_wp2_with fail
        go_loopg [10, 11, 12] n (fun gk vk _ _ wr => ∃ k : Nat, k + gk = n ∧ vk = .int .i64 k ∧ WF x a A n c W (frK x a ps r os b k) wr ∧ wc.grownBy wr (some W))
        case atStart => exact ⟨0, by omega, rfl, HS.out, grownBy_refl _ _⟩
        case round =>
          obtain ⟨k, hkg, rfl, hS, hGr⟩ := hrel
          clear h2
          have h2 := hS.c2
          have hzr := hS.z
          have HSk := Lib.hid hS
          have HGk := Lib.hid hGr
          clear hS hGr
          cases gk with
          | zero =>
            obtain rfl : k = n := by omega
            go_wp2_with fail
            go_end0
            exact ⟨rfl, HSk.out, HGk.out⟩
          | succ gi =>
            have hkn : k < n := by omega
            have HOk : Hid (wr.ownsRow (W + 1) 2 1 (.slice (some ⟨go, 0, none⟩) m co) m (os.flatMap intS.C)) := Lib.hid (owns_other HO.out HGk.out fun q hq => by have := (HO.out.lt q hq).1; omega)
            have HSO := Lib.hid (Sl.of_owns HOk.out (intS.len _) (by decide))
            by_cases hin : (k : Int) ∈ os
            · have HFR : Hid (frK x a ps r os b (k + 1) = frK x a ps r os b k) := Lib.hid (by rw [frK, if_pos hin])
              have HQ := Lib.hid (l00Has_v (some ⟨go, 0, none⟩) m co os Em.out (by omega) (k : Int) true (by simp [hin]) wr _ HSO.out)
              clear hin
              go_wp2_with fail
              refine HQ.out.mono ?_
              rintro o w5 ⟨rfl, rfl⟩
              go_wp2_with fail
              go_roundg gi
              case rel => exact ⟨k + 1, by omega, by go_num, by rw [HFR.out]; exact HSk.out, HGk.out⟩
              case measure => omega
            · have HFR : Hid (frK x a ps r os b (k + 1) = dfsM x a ps r (os ++ [(k : Int)]) (frK x a ps r os b k)) := Lib.hid (by rw [frK, if_neg hin])
              have HQ := Lib.hid (l00Has_v (some ⟨go, 0, none⟩) m co os Em.out (by omega) (k : Int) false (by simp [hin]) wr _ HSO.out)
              obtain ⟨y, hy⟩ : ∃ y, ps[k]? = some y := ⟨ps[k]'(by have := En.out; omega), List.getElem?_eq_getElem _⟩
              have hyv := List.all_eq_true.1 HP.out _ (List.mem_of_getElem? hy)
              obtain ⟨⟨y0, y1⟩, ⟨y2, y3⟩, y4, y5⟩ := pieB_iff.1 hyv
              have hrun : runs x a ps (os ++ [(k : Int)]) = s.step x a y := by rw [runs_snoc, HRS.out, ptv_at hy]
              have hok2 := HOK.out.step (p := y) (by have := Em.out; omega) a HV.out hyv
              rw [← hrun] at hok2
              obtain ⟨cz, hcz⟩ : ∃ z, chg x s.lev y.lev = z := ⟨_, rfl⟩
              have hcb := chg_bd (x := x) (a := s.lev) (b := y.lev) HV.out HOK.out.l0 HOK.out.l3 (by omega) y1
              rw [hcz] at hcb
              obtain ⟨hc0, hc1⟩ := hcb
              have ha0 := HOK.out.a0
              have ha1 := HOK.out.a1
              obtain ⟨t, ht⟩ : ∃ t, t = s.at_ + cz + y.mins := ⟨_, rfl⟩
              obtain ⟨z, hzc⟩ : ∃ z, cst a y s.at_ t = z := ⟨_, rfl⟩
              obtain ⟨s2, hs2⟩ : ∃ s2, s2 = s.sum + z := ⟨_, rfl⟩
              have hmon := runs_mon (a := a) HV.out HP.out os
              rw [HRS.out] at hmon
              have hlev : (runs x a ps (os ++ [(k : Int)])).lev = y.lev := by rw [hrun]; rfl
              have hat : (runs x a ps (os ++ [(k : Int)])).at_ = t := by rw [hrun, ht, ← hcz]; rfl
              have hsum : (runs x a ps (os ++ [(k : Int)])).sum = s2 := by
                rw [hs2, ← hzc, cst_mea hmon, hrun, ht, ← hcz]
                rfl
              have q0 := hok2.s0
              have q1 := hok2.s1
              rw [hsum] at q0 q1
              have hIH := IH.out (m + 1) (os ++ [(k : Int)]) (by rw [List.length_append, List.length_singleton, ← Em.out]) (by omega) (frK x a ps r os b k)
              rw [hlev, hat, hsum, ← HFR.out] at hIH
              have HIH := Lib.hid hIH
              have CZ := Lib.hid hcz
              have HT := Lib.hid ht
              have HZC := Lib.hid hzc
              have HS2 := Lib.hid hs2
              have HYV := Lib.hid hyv
              have ht0 : s.at_ ≤ t := by omega
              have ht1 : t ≤ 10000 := by have := Em.out; omega
              have q2 : s2 ≤ 15360 := by have := Em.out; simp at q1; omega
              have hl0 := HOK.out.l0
              have hl3 := HOK.out.l3
              have hm8 : m ≤ 8 := by omega
              have HBW : Hid (Below W wc wr) := Lib.hid (grownBy_below HGk.out (Nat.le_of_lt HS.out.z) (Nat.le_refl _))
              obtain ⟨ad, rfl, hab, had⟩ := (HG.out.below HBW.out).at_ k y hy
              obtain ⟨p0, p1, p2⟩ := pieS.at_ had
              obtain ⟨b11, hb11⟩ : ∃ b, b = wr.heap.size := ⟨_, rfl⟩
              obtain ⟨u0, hu0⟩ : ∃ u, u = wr.alloc (.cells #[.int .i8 y.lev, .int .i8 y.mins, .int .i16 y.due] 42) := ⟨_, rfl⟩
              have hb0 : Below wr.heap.size wr u0 := by rw [hu0]; exact (Below.refl _ _).alloc (Nat.le_refl _) _
              have hbx : b11 < u0.heap.size := by rw [hu0, hb11]; simp
              have S2 := HSk.out.next hb0
              have HT2 : Hid (TQ x y W b11 u0) := Lib.hid ⟨S2.c0, S2.c1, by rw [hu0, hb11]; exact cell_of_row _ _ _ _ _ _ (heap_alloc_new wr _), by rw [hu0, hb11]; exact cell_of_row _ _ _ _ _ _ (heap_alloc_new wr _), by rw [hu0, hb11]; exact cell_of_row _ _ _ _ _ _ (heap_alloc_new wr _)⟩
              have HB0 := Lib.hid hb0
              have HU := Lib.hid hu0
              have HB11 := Lib.hid hb11.symm
              clear hin hy hyv hrun hok2 hcz ht hzc hs2 hmon hlev hat hsum q1 hIH had hb11 hu0 hb0 S2 HFR HOk
              go_wp2_with fail
              refine HQ.out.mono ?_
              rintro o w5 ⟨rfl, hw5⟩
              obtain rfl : wr = w5 := hw5.symm
              clear HQ
              go_wp2_with (first | ((rw [← HU.out]); try rw [HB11.out]) | fail)
              refine wp_region_held_drew (S := TQ x y W b11) (by kernel_rfl) (HT2.out.next (Nat.lt_of_lt_of_le hzr HB0.out.size) hbx (Below.refl _ _).drew) (fun hHeld => ?_)
              have hzu : W < u0.drew.heap.size := Nat.lt_of_lt_of_le hzr HB0.out.size
              have hbx1 : b11 < u0.drew.heap.size := hbx
              have HB1 : Hid (Below wr.heap.size wr u0.drew) := Lib.hid (HB0.out.drew)
              generalize u0.drew = v0 at hHeld hzu hbx1 HB1 ⊢
              clear HT2 HB0 HU HSO p0 p1 p2 hbx
              have w3 : IntKind.i64.wrap y.mins = y.mins := IntWalk.i64_in _ (by omega)
              have w4 : IntKind.i64.wrap y.lev = y.lev := IntWalk.i64_in _ (by omega)
              refine wpAnyH_take (i := 0) (v := ?_) rfl (by kernel_rfl) (by kernel_rfl) (by kernel_rfl) (fun _ _ _ h => h) (Or.inl ⟨by rfl, ?_⟩) (by assumption) ?_
              rotate_left
              · intro u hSu
                (try dsimp only at hSu)
                first | (go_simp; done) | (go_simp; with_reducible rfl)
              try simp only [Act.put, List.getElem_toArray, List.getElem_cons_zero, List.getElem_cons_succ, List.setIfInBounds_toArray, List.set_cons_zero, List.set_cons_succ]
              refine wpAnyH_take (i := 1) (v := ?_) rfl (by kernel_rfl) (by kernel_rfl) (by kernel_rfl) (fun _ _ _ h => h) (Or.inl ⟨by rfl, ?_⟩) (by assumption) ?_
              rotate_left
              · intro u hSu
                (try dsimp only at hSu)
                first | (go_simp; done) | (go_simp; with_reducible rfl)
              try simp only [Act.put, List.getElem_toArray, List.getElem_cons_zero, List.getElem_cons_succ, List.setIfInBounds_toArray, List.set_cons_zero, List.set_cons_succ]
              refine wpAnyH_take (i := 2) (v := ?_) rfl (by kernel_rfl) (by kernel_rfl) (by kernel_rfl) (fun _ _ _ h => h) (Or.inl ⟨by rfl, ?_⟩) (by assumption) ?_
              rotate_left
              · intro u hSu
                (try dsimp only at hSu)
                first | (go_simp; done) | (go_simp; with_reducible rfl)
              try simp only [Act.put, List.getElem_toArray, List.getElem_cons_zero, List.getElem_cons_succ, List.setIfInBounds_toArray, List.set_cons_zero, List.set_cons_succ]
              refine wpAnyH_take (i := 3) (v := ?_) rfl (by kernel_rfl) (by kernel_rfl) (by kernel_rfl) (fun _ _ _ h => h) (Or.inl ⟨by rfl, ?_⟩) (by assumption) ?_
              rotate_left
              · intro u hSu
                (try dsimp only at hSu)
                first | (go_simp; done) | (go_simp; with_reducible rfl)
              try simp only [Act.put, List.getElem_toArray, List.getElem_cons_zero, List.getElem_cons_succ, List.setIfInBounds_toArray, List.set_cons_zero, List.set_cons_succ]
              refine wpAnyH_take (i := 4) (v := ?_) rfl (by kernel_rfl) (by kernel_rfl) (by kernel_rfl) (fun _ _ _ h => h) (Or.inl ⟨by rfl, ?_⟩) (by assumption) ?_
              rotate_left
              · intro u hSu
                (try dsimp only at hSu)
                first | (go_simp; done) | (go_simp; with_reducible rfl)
              try simp only [Act.put, List.getElem_toArray, List.getElem_cons_zero, List.getElem_cons_succ, List.setIfInBounds_toArray, List.set_cons_zero, List.set_cons_succ]
              refine wpAnyH_take (i := 5) (v := ?_) rfl (by kernel_rfl) (by kernel_rfl) (by kernel_rfl) (fun _ _ _ h => h) (Or.inl ⟨by rfl, ?_⟩) (by assumption) ?_
              rotate_left
              · intro u hSu
                (try dsimp only at hSu)
                first | (go_simp; done) | (go_simp; with_reducible rfl)
              try simp only [Act.put, List.getElem_toArray, List.getElem_cons_zero, List.getElem_cons_succ, List.setIfInBounds_toArray, List.set_cons_zero, List.set_cons_succ]
              refine wpAnyH_take (i := 6) (v := ?_) rfl (by kernel_rfl) (by kernel_rfl) (by kernel_rfl) (fun _ _ _ h => h) (Or.inl ⟨by rfl, ?_⟩) (by assumption) ?_
              rotate_left
              · intro u hSu
                (try dsimp only at hSu)
                first | (go_simp; done) | (go_simp; with_reducible rfl)
              try simp only [Act.put, List.getElem_toArray, List.getElem_cons_zero, List.getElem_cons_succ, List.setIfInBounds_toArray, List.set_cons_zero, List.set_cons_succ]
              refine wpAnyH_take (i := 7) (v := ?_) rfl (by kernel_rfl) (by kernel_rfl) (by kernel_rfl) (fun _ _ _ h => h) (Or.inl ⟨by rfl, ?_⟩) (by assumption) ?_
              rotate_left
              · intro u hSu
                (try dsimp only at hSu)
                first | (go_simp; done) | (go_simp; with_reducible rfl)
              try simp only [Act.put, List.getElem_toArray, List.getElem_cons_zero, List.getElem_cons_succ, List.setIfInBounds_toArray, List.set_cons_zero, List.set_cons_succ]
              refine wpAnyH_take (i := 8) (v := ?_) rfl (by kernel_rfl) (by kernel_rfl) (by kernel_rfl) (fun _ _ _ h => h) (Or.inl ⟨by rfl, ?_⟩) (by assumption) ?_
              rotate_left
              · intro u hSu
                (try dsimp only at hSu)
                first | (go_simp; done) | (go_simp; with_reducible rfl)
              try simp only [Act.put, List.getElem_toArray, List.getElem_cons_zero, List.getElem_cons_succ, List.setIfInBounds_toArray, List.set_cons_zero, List.set_cons_succ]
              refine wpAnyH_take (i := 11) (v := ?_) rfl (by kernel_rfl) (by kernel_rfl) (by kernel_rfl) (fun _ _ _ h => h) (Or.inl ⟨by rfl, ?_⟩) (by assumption) ?_
              rotate_left
              · intro u hSu
                (try dsimp only at hSu)
                first | (go_simp; done) | (go_simp; with_reducible rfl)
              try simp only [Act.put, List.getElem_toArray, List.getElem_cons_zero, List.getElem_cons_succ, List.setIfInBounds_toArray, List.set_cons_zero, List.set_cons_succ]
              refine wpAnyH_take (i := 12) (v := ?_) rfl (by kernel_rfl) (by kernel_rfl) (by kernel_rfl) (fun _ _ _ h => h) (Or.inl ⟨by rfl, ?_⟩) (by assumption) ?_
              rotate_left
              · intro u hSu
                (try dsimp only at hSu)
                first | (go_simp; done) | (go_simp; with_reducible rfl)
              try simp only [Act.put, List.getElem_toArray, List.getElem_cons_zero, List.getElem_cons_succ, List.setIfInBounds_toArray, List.set_cons_zero, List.set_cons_succ]
              refine wpAnyH_take (i := 13) (v := ?_) rfl (by kernel_rfl) (by kernel_rfl) (by kernel_rfl) (fun _ _ _ h => h) (Or.inl ⟨by rfl, ?_⟩) (by assumption) ?_
              rotate_left
              · intro u hSu
                (try dsimp only at hSu)
                first | (go_simp; done) | (go_simp; with_reducible rfl)
              try simp only [Act.put, List.getElem_toArray, List.getElem_cons_zero, List.getElem_cons_succ, List.setIfInBounds_toArray, List.set_cons_zero, List.set_cons_succ]
              clear w3 w4
              refine wpAnyH_ready (rs := [9]) (by kernel_rfl) (by simp) ?_
              refine AllReadyH.cons rfl (fun K hK => ?_) AllReadyH.nil
              go_simp
              refine (l07Change_any x HV.out s.lev y.lev hl0 hl3 (by omega) y1 _ CZ.out _).mono ?_
              rintro o v1 ⟨rfl, hb1⟩
              have hh := hHeld.next hzu hbx1 hb1
              have HB2 := Lib.hid (HB1.out.trans (hb1.mono HB1.out.size))
              have hzu2 : W < v1.heap.size := Nat.lt_of_lt_of_le hzu hb1.size
              have hbx2 : b11 < v1.heap.size := Nat.lt_of_lt_of_le hbx1 hb1.size
              clear hb1 HB1
              refine hK.out _ _ (hh) (fun hHeld2 => ?_)
              clear hK K hHeld
              have hHeld := hHeld2
              clear hHeld2
              try simp only [Act.put, List.getElem_toArray, List.getElem_cons_zero, List.getElem_cons_succ, List.setIfInBounds_toArray, List.set_cons_zero, List.set_cons_succ]
              clear hh
              have w1 : IntKind.i64.wrap (s.at_ + cz) = s.at_ + cz := IntWalk.i64_in _ (by omega)
              refine wpAnyH_take (i := 10) (v := ?_) rfl (by kernel_rfl) (by kernel_rfl) (by kernel_rfl) (fun _ _ _ h => h) (Or.inl ⟨by rfl, ?_⟩) (by assumption) ?_
              rotate_left
              · intro u hSu
                (try dsimp only at hSu)
                first | (go_simp; done) | (go_simp; with_reducible rfl)
              try simp only [Act.put, List.getElem_toArray, List.getElem_cons_zero, List.getElem_cons_succ, List.setIfInBounds_toArray, List.set_cons_zero, List.set_cons_succ]
              clear w1
              have w2 : IntKind.i64.wrap (s.at_ + cz + y.mins) = t := by rw [HT.out]; exact IntWalk.i64_in _ (by omega)
              refine wpAnyH_take (i := 14) (v := ?_) rfl (by kernel_rfl) (by kernel_rfl) (by kernel_rfl) (fun _ _ _ h => h) (Or.inl ⟨by rfl, ?_⟩) (by assumption) ?_
              rotate_left
              · intro u hSu
                (try dsimp only at hSu)
                first | (go_simp; done) | (go_simp; with_reducible rfl)
              try simp only [Act.put, List.getElem_toArray, List.getElem_cons_zero, List.getElem_cons_succ, List.setIfInBounds_toArray, List.set_cons_zero, List.set_cons_succ]
              clear w2
              refine wpAnyH_take (i := 15) (v := ?_) rfl (by kernel_rfl) (by kernel_rfl) (by kernel_rfl) (fun _ _ _ h => h) (Or.inl ⟨by rfl, ?_⟩) (by assumption) ?_
              rotate_left
              · intro u hSu
                (try dsimp only at hSu)
                first | (go_simp; done) | (go_simp; with_reducible rfl)
              try simp only [Act.put, List.getElem_toArray, List.getElem_cons_zero, List.getElem_cons_succ, List.setIfInBounds_toArray, List.set_cons_zero, List.set_cons_succ]
              refine wpAnyH_done (by kernel_rfl) ?_ _
              have HT3 := Lib.hid (show TQ x y W b11 v1 from hHeld)
              clear hHeld hzu hbx1
              go_wp2_with fail
              refine wp_region_held_drew (S := TQ x y W b11) (by kernel_rfl) (HT3.out.next hzu2 hbx2 (Below.refl _ _).drew) (fun hHeld => ?_)
              have hzv : W < v1.drew.heap.size := hzu2
              have hbxv : b11 < v1.drew.heap.size := hbx2
              have HBR : Hid (Below wr.heap.size wr v1.drew) := Lib.hid (HB2.out.drew)
              generalize v1.drew = v2 at hHeld hzv hbxv HBR ⊢
              have hTQ : Hid (TQ x y W b11 v2) := Lib.hid hHeld
              have HS0 := Lib.hid (HSk.out.next HBR.out)
              have HO0 : Hid (v2.ownsRow (W + 1) 2 1 (.slice (some ⟨go, 0, none⟩) m co) m (os.flatMap intS.C)) := Lib.hid (owns_next (owns_other HO.out HGk.out fun q hq => by have := (HO.out.lt q hq).1; omega) HBR.out)
              have hLEN := HO0.out.1
              have HLEN := Lib.hid hLEN
              have HONES := Lib.hid (cells_ones os)
              clear HT3 HB2 hzu2 hbx2 hLEN
              have w4 : IntKind.i64.wrap y.lev = y.lev := IntWalk.i64_in _ (by omega)
              refine wpAnyH_take (i := 0) (v := ?_) rfl (by kernel_rfl) (by kernel_rfl) (by kernel_rfl) (fun _ _ _ h => h) (Or.inl ⟨by rfl, ?_⟩) (by assumption) ?_
              rotate_left
              · intro u hSu
                (try dsimp only at hSu)
                first | (go_simp; done) | (go_simp; with_reducible rfl)
              try simp only [Act.put, List.getElem_toArray, List.getElem_cons_zero, List.getElem_cons_succ, List.setIfInBounds_toArray, List.set_cons_zero, List.set_cons_succ]
              refine wpAnyH_take (i := 2) (v := ?_) rfl (by kernel_rfl) (by kernel_rfl) (by kernel_rfl) (fun _ _ _ h => h) (Or.inl ⟨by rfl, ?_⟩) (by assumption) ?_
              rotate_left
              · intro u hSu
                (try dsimp only at hSu)
                first | (go_simp; done) | (go_simp; with_reducible rfl)
              try simp only [Act.put, List.getElem_toArray, List.getElem_cons_zero, List.getElem_cons_succ, List.setIfInBounds_toArray, List.set_cons_zero, List.set_cons_succ]
              refine wpAnyH_take (i := 4) (v := ?_) rfl (by kernel_rfl) (by kernel_rfl) (by kernel_rfl) (fun _ _ _ h => h) (Or.inl ⟨by rfl, ?_⟩) (by assumption) ?_
              rotate_left
              · intro u hSu
                (try dsimp only at hSu)
                first | (go_simp; done) | (go_simp; with_reducible rfl)
              try simp only [Act.put, List.getElem_toArray, List.getElem_cons_zero, List.getElem_cons_succ, List.setIfInBounds_toArray, List.set_cons_zero, List.set_cons_succ]
              refine wpAnyH_take (i := 7) (v := ?_) rfl (by kernel_rfl) (by kernel_rfl) (by kernel_rfl) (fun _ _ _ h => h) (Or.inl ⟨by rfl, ?_⟩) (by assumption) ?_
              rotate_left
              · intro u hSu
                (try dsimp only at hSu)
                first | (go_simp; done) | (go_simp; with_reducible rfl)
              try simp only [Act.put, List.getElem_toArray, List.getElem_cons_zero, List.getElem_cons_succ, List.setIfInBounds_toArray, List.set_cons_zero, List.set_cons_succ]
              refine wpAnyH_take (i := 8) (v := ?_) rfl (by kernel_rfl) (by kernel_rfl) (by kernel_rfl) (fun _ _ _ h => h) (Or.inl ⟨by rfl, ?_⟩) (by assumption) ?_
              rotate_left
              · intro u hSu
                (try dsimp only at hSu)
                first | (go_simp; done) | (go_simp; with_reducible rfl)
              try simp only [Act.put, List.getElem_toArray, List.getElem_cons_zero, List.getElem_cons_succ, List.setIfInBounds_toArray, List.set_cons_zero, List.set_cons_succ]
              refine wpAnyH_take (i := 9) (v := ?_) rfl (by kernel_rfl) (by kernel_rfl) (by kernel_rfl) (fun _ _ _ h => h) (Or.inl ⟨by rfl, ?_⟩) (by assumption) ?_
              rotate_left
              · intro u hSu
                (try dsimp only at hSu)
                first | (go_simp; done) | (go_simp; with_reducible rfl)
              try simp only [Act.put, List.getElem_toArray, List.getElem_cons_zero, List.getElem_cons_succ, List.setIfInBounds_toArray, List.set_cons_zero, List.set_cons_succ]
              refine wpAnyH_take (i := 10) (v := ?_) rfl (by kernel_rfl) (by kernel_rfl) (by kernel_rfl) (fun _ _ _ h => h) (Or.inl ⟨by rfl, ?_⟩) (by assumption) ?_
              rotate_left
              · intro u hSu
                (try dsimp only at hSu)
                first | (go_simp; done) | (go_simp; with_reducible rfl)
              try simp only [Act.put, List.getElem_toArray, List.getElem_cons_zero, List.getElem_cons_succ, List.setIfInBounds_toArray, List.set_cons_zero, List.set_cons_succ]
              refine wpAnyH_take (i := 11) (v := ?_) rfl (by kernel_rfl) (by kernel_rfl) (by kernel_rfl) (fun _ _ _ h => h) (Or.inl ⟨by rfl, ?_⟩) (by assumption) ?_
              rotate_left
              · intro u hSu
                (try dsimp only at hSu)
                first | (go_simp; done) | (go_simp; with_reducible rfl)
              try simp only [Act.put, List.getElem_toArray, List.getElem_cons_zero, List.getElem_cons_succ, List.setIfInBounds_toArray, List.set_cons_zero, List.set_cons_succ]
              refine wpAnyH_take (i := 12) (v := ?_) rfl (by kernel_rfl) (by kernel_rfl) (by kernel_rfl) (fun _ _ _ h => h) (Or.inl ⟨by rfl, ?_⟩) (by assumption) ?_
              rotate_left
              · intro u hSu
                (try dsimp only at hSu)
                first | (go_simp; done) | (go_simp; with_reducible rfl)
              try simp only [Act.put, List.getElem_toArray, List.getElem_cons_zero, List.getElem_cons_succ, List.setIfInBounds_toArray, List.set_cons_zero, List.set_cons_succ]
              refine wpAnyH_take (i := 13) (v := ?_) rfl (by kernel_rfl) (by kernel_rfl) (by kernel_rfl) (fun _ _ _ h => h) (Or.inl ⟨by rfl, ?_⟩) (by assumption) ?_
              rotate_left
              · intro u hSu
                (try dsimp only at hSu)
                first | (go_simp; done) | (go_simp; with_reducible rfl)
              try simp only [Act.put, List.getElem_toArray, List.getElem_cons_zero, List.getElem_cons_succ, List.setIfInBounds_toArray, List.set_cons_zero, List.set_cons_succ]
              refine wpAnyH_take (i := 14) (v := ?_) rfl (by kernel_rfl) (by kernel_rfl) (by kernel_rfl) (fun _ _ _ h => h) (Or.inl ⟨by rfl, ?_⟩) (by assumption) ?_
              rotate_left
              · intro u hSu
                (try dsimp only at hSu)
                first | (go_simp; done) | (go_simp; with_reducible rfl)
              try simp only [Act.put, List.getElem_toArray, List.getElem_cons_zero, List.getElem_cons_succ, List.setIfInBounds_toArray, List.set_cons_zero, List.set_cons_succ]
              refine wpAnyH_take (i := 15) (v := ?_) rfl (by kernel_rfl) (by kernel_rfl) (by kernel_rfl) (fun _ _ _ h => h) (Or.inl ⟨by rfl, ?_⟩) (by assumption) ?_
              rotate_left
              · intro u hSu
                (try dsimp only at hSu)
                first | (go_simp; done) | (go_simp; with_reducible rfl)
              try simp only [Act.put, List.getElem_toArray, List.getElem_cons_zero, List.getElem_cons_succ, List.setIfInBounds_toArray, List.set_cons_zero, List.set_cons_succ]
              clear w4
              have HBv2 := Lib.hid (Below.refl v2.heap.size v2)
              refine wpAnyH_ready (rs := [1, 5]) (by kernel_rfl) (by simp) ?_
              refine AllReadyH.cons rfl (fun K hK => ?_) (AllReadyH.cons rfl (fun K hK => ?_) AllReadyH.nil)
              · rw [if_pos (by kernel_rfl)]
                refine wp_listedI 27 0 _ rfl #[] ?hp (build_nonI _) ?_
                case hp => simp [Act.eval, Act.put]
                have hal : Below v2.heap.size v2 (v2.alloc (.cells #[] 2)) := (Below.refl _ _).alloc (Nat.le_refl _) _
                obtain ⟨g1, hg1⟩ : ∃ g, g = v2.heap.size := ⟨_, rfl⟩
                have he3 := owns_below (World.ownsRow_made (e := 2) (size := 1) v2 #[] 0 (Nat.le_refl _) (Nat.zero_le _) rfl) HBv2.out.size
                have HE3 : Hid ((v2.alloc (.cells #[] 2)).ownsRow v2.heap.size 2 1 (.slice (some ⟨g1, 0, none⟩) 0 0) 0 []) := Lib.hid (by rw [hg1]; exact he3)
                clear he3
                have HBv3 := Lib.hid (HBv2.out.trans (hal.mono HBv2.out.size))
                rw [← hg1]
                have hg1z : g1 < (v2.alloc (.cells #[] 2)).heap.size := by rw [hg1]; simp
                generalize v2.alloc (.cells #[] 2) = v3 at HE3 HBv3 hg1z ⊢
                clear hal
                refine hK.out _ _ (((hTQ.out).next hzv hbxv HBv3.out)) (fun hHeld2 => ?_)
                clear hK K hHeld
                have hHeld := hHeld2
                clear hHeld2
                try simp only [Act.put, List.getElem_toArray, List.getElem_cons_zero, List.getElem_cons_succ, List.setIfInBounds_toArray, List.set_cons_zero, List.set_cons_succ]
                refine wpAnyH_ready (rs := [3, 5]) (by kernel_rfl) (by simp) ?_
                refine AllReadyH.cons rfl (fun K hK => ?_) (AllReadyH.cons rfl (fun K hK => ?_) AllReadyH.nil)
                · rw [if_pos (by kernel_rfl)]
                  have HOC := Lib.hid ((owns_next HO0.out HBv3.out).cells rfl)
                  refine wp_append_own _ (.tmp 81) (.tmp 82) 27 rfl v2.heap.size 2 i0 (.int .i64 0) 1 8 Tryd.underlying27 hI hz0 hz1 hz2 rfl (by decide) _ 0 [] rfl HE3.out ⟨go, 0, none⟩ m co (os.flatMap intS.C) rfl HLEN.out HOC.out HONES.out (by unfold maxLen; omega) (by omega) HBv3.out.size ?_
                  intro v83 v4 hP83 hgr83 _
                  rw [Nat.zero_add, List.nil_append] at hP83
                  have HA4 := Lib.hid hP83
                  have HBv4 := Lib.hid (Below.grown HBv3.out hgr83 HBv3.out.size (fun g hg => (HE3.out.lt g hg).1))
                  clear HOC hP83 hgr83 HE3
                  refine hK.out _ _ (((hTQ.out).next hzv hbxv HBv4.out)) (fun hHeld2 => ?_)
                  clear hK K hHeld
                  have hHeld := hHeld2
                  clear hHeld2
                  try simp only [Act.put, List.getElem_toArray, List.getElem_cons_zero, List.getElem_cons_succ, List.setIfInBounds_toArray, List.set_cons_zero, List.set_cons_succ]
                  refine wpAnyH_ready (rs := [5]) (by kernel_rfl) (by simp) ?_
                  refine AllReadyH.cons rfl (fun K hK => ?_) AllReadyH.nil
                  rw [if_pos (by kernel_rfl)]
                  refine wp_listedI 27 1 _ rfl #[(0, .int .i64 k)] ?hp (build_oneI _ _) ?_
                  case hp => simp [Act.eval, Act.put]
                  have hal : Below v4.heap.size v4 (v4.alloc (.cells #[.int .i64 (k : Int)] 2)) := (Below.refl _ _).alloc (Nat.le_refl _) _
                  obtain ⟨g5, hg5⟩ : ∃ g, g = v4.heap.size := ⟨_, rfl⟩
                  have hn5 : (v4.alloc (.cells #[.int .i64 (k : Int)] 2)).cell? ⟨g5, 0, none⟩ = some (.int .i64 k) := by rw [hg5]; exact cell_of_row _ _ _ _ _ _ (heap_alloc_new v4 _)
                  have hg5z : g5 < (v4.alloc (.cells #[.int .i64 (k : Int)] 2)).heap.size := by rw [hg5]; simp
                  have HA5 := Lib.hid (owns_next HA4.out hal)
                  clear HA4
                  have HBv5 := Lib.hid (HBv4.out.trans (hal.mono HBv4.out.size))
                  rw [← hg5]
                  generalize v4.alloc (.cells #[.int .i64 (k : Int)] 2) = v5 at hn5 hg5z HBv5 HA5 ⊢
                  clear hal
                  refine hK.out _ _ (((hTQ.out).next hzv hbxv HBv5.out)) (fun hHeld2 => ?_)
                  clear hK K hHeld
                  have hHeld := hHeld2
                  clear hHeld2
                  try simp only [Act.put, List.getElem_toArray, List.getElem_cons_zero, List.getElem_cons_succ, List.setIfInBounds_toArray, List.set_cons_zero, List.set_cons_succ]
                  refine wpAnyH_ready (rs := [6]) (by kernel_rfl) (by simp) ?_
                  refine AllReadyH.cons rfl (fun K hK => ?_) AllReadyH.nil
                  rw [if_pos (by kernel_rfl)]
                  have HNC : Hid (∀ (j : Nat) u, ([.int .i64 (k : Int)] : List Value)[j]? = some u → v5.cell? ((⟨g5, 0, none⟩ : Addr).add j) = some u) := Lib.hid (fun j u hj => by
                    cases j with
                    | zero => rw [add_lit]; simp at hj; rw [← hj]; exact hn5
                    | succ j => simp at hj)
                  refine wp_append_own _ (.tmp 83) (.tmp 85) 27 rfl v2.heap.size 2 i0 (.int .i64 0) 1 8 Tryd.underlying27 hI hz0 hz1 hz2 rfl (by decide) _ m (os.flatMap intS.C) rfl HA5.out ⟨g5, 0, none⟩ 1 1 [.int .i64 (k : Int)] rfl rfl HNC.out (one_cellI (by rfl)) (by unfold maxLen; omega) (by omega) HBv5.out.size ?_
                  intro v86 v6 hP86 hgr86 _
                  rw [← flat_snoc] at hP86
                  have HBv6 := Lib.hid (Below.grown HBv5.out hgr86 HBv5.out.size (fun g hg => (HA5.out.lt g hg).1))
                  obtain ⟨g6, c6, rfl⟩ : ∃ g c, v86 = .slice (some ⟨g, 0, none⟩) (m + 1) c := by
                    rcases hP86.2 with ⟨_, h0⟩ | ⟨g, cap, cur, rfl, _⟩
                    · cases h0
                    · exact ⟨g, cap, rfl⟩
                  have HP86 := Lib.hid hP86
                  clear HNC hP86 hgr86 HA5 hn5
                  refine hK.out _ _ (((hTQ.out).next hzv hbxv HBv6.out)) (fun hHeld2 => ?_)
                  clear hK K hHeld
                  have hHeld := hHeld2
                  clear hHeld2
                  try simp only [Act.put, List.getElem_toArray, List.getElem_cons_zero, List.getElem_cons_succ, List.setIfInBounds_toArray, List.set_cons_zero, List.set_cons_succ]
                  refine wpAnyH_ready (rs := [16]) (by kernel_rfl) (by simp) ?_
                  refine AllReadyH.cons rfl (fun K hK => ?_) AllReadyH.nil
                  go_simp
                  refine (HC.out y HYV.out s.at_ t ha0 ht0 ht1 z HZC.out v6 (Nat.lt_of_lt_of_le hzv HBv6.out.size) (HS0.out.next HBv6.out).c3).mono ?_
                  rintro o v7 ⟨rfl, hbc⟩
                  have HBv7 := Lib.hid (HBv6.out.trans (hbc.mono HBv6.out.size))
                  have HP87 := Lib.hid (owns_next HP86.out hbc)
                  clear hbc HP86
                  refine hK.out _ _ (((hTQ.out).next hzv hbxv HBv7.out)) (fun hHeld2 => ?_)
                  clear hK K hHeld
                  have hHeld := hHeld2
                  clear hHeld2
                  try simp only [Act.put, List.getElem_toArray, List.getElem_cons_zero, List.getElem_cons_succ, List.setIfInBounds_toArray, List.set_cons_zero, List.set_cons_succ]
                  have w1 : IntKind.i64.wrap (s.sum + z) = s2 := by rw [HS2.out]; exact IntWalk.i64_in _ (by have := HS2.out; omega)
                  refine wpAnyH_take (i := 17) (v := ?_) rfl (by kernel_rfl) (by kernel_rfl) (by kernel_rfl) (fun _ _ _ h => h) (Or.inl ⟨by rfl, ?_⟩) (by assumption) ?_
                  rotate_left
                  · intro u hSu
                    (try dsimp only at hSu)
                    first | (go_simp; done) | (go_simp; with_reducible rfl)
                  try simp only [Act.put, List.getElem_toArray, List.getElem_cons_zero, List.getElem_cons_succ, List.setIfInBounds_toArray, List.set_cons_zero, List.set_cons_succ]
                  clear w1
                  refine wpAnyH_ready (rs := [18]) (by kernel_rfl) (by simp) ?_
                  refine AllReadyH.cons rfl (fun K hK => ?_) AllReadyH.nil
                  go_simp
                  refine (HIH.out g6 c6 v7 (HS0.out.next HBv7.out) (HG.out.below (HBW.out.trans ((HBR.out.mono (Nat.le_of_lt hzr)).trans (HBv7.out.mono (Nat.le_of_lt hzv))))) (owns_below HP87.out hzv)).mono ?_
                  rintro o v9 ⟨rfl, hw9, hg9⟩
                  have hh : TQ x y W b11 v9 := by
                    have h8 := ((hTQ.out).next hzv hbxv HBv7.out)
                    have hne : (some b11 : Option Nat) ≠ some W := fun e => by have := Option.some.inj e; have := HB11.out; omega
                    exact ⟨hw9.c0, hw9.c1, hg9.cell h8.2.2.1 hne, hg9.cell h8.2.2.2.1 hne, hg9.cell h8.2.2.2.2 hne⟩
                  have HW9 := Lib.hid hw9
                  have HG9 : Hid (wc.grownBy v9 (some W)) := Lib.hid (grownBy_trans (grownBy_trans HGk.out (row.grownBy_below (HBR.out.trans (HBv7.out.mono HBR.out.size)))) hg9)
                  clear hw9 hg9
                  refine hK.out _ _ (hh) (fun hHeld2 => ?_)
                  clear hK K hHeld
                  have hHeld := hHeld2
                  clear hHeld2
                  try simp only [Act.put, List.getElem_toArray, List.getElem_cons_zero, List.getElem_cons_succ, List.setIfInBounds_toArray, List.set_cons_zero, List.set_cons_succ]
                  clear hh
                  refine wpAnyH_done (by kernel_rfl) ?_ _
                  clear hHeld
                  go_wp2_with fail
                  go_roundg gi
                  case rel => exact ⟨k + 1, by omega, by go_num, HW9.out, HG9.out⟩
                  case measure => omega
                · rw [if_pos (by kernel_rfl)]
                  refine wp_listedI 27 1 _ rfl #[(0, .int .i64 k)] ?hp (build_oneI _ _) ?_
                  case hp => simp [Act.eval, Act.put]
                  have hal : Below v3.heap.size v3 (v3.alloc (.cells #[.int .i64 (k : Int)] 2)) := (Below.refl _ _).alloc (Nat.le_refl _) _
                  obtain ⟨g5, hg5⟩ : ∃ g, g = v3.heap.size := ⟨_, rfl⟩
                  have hn4 : (v3.alloc (.cells #[.int .i64 (k : Int)] 2)).cell? ⟨g5, 0, none⟩ = some (.int .i64 k) := by rw [hg5]; exact cell_of_row _ _ _ _ _ _ (heap_alloc_new v3 _)
                  have hg5z : g5 < (v3.alloc (.cells #[.int .i64 (k : Int)] 2)).heap.size := by rw [hg5]; simp
                  have HE4 := Lib.hid (owns_next HE3.out hal)
                  have hne : g5 ≠ g1 := by omega
                  have hg1w : g1 < (v3.alloc (.cells #[.int .i64 (k : Int)] 2)).heap.size := Nat.lt_of_lt_of_le hg1z hal.size
                  clear HE3 hg1z
                  have hg1z := hg1w
                  clear hg1w
                  have HBv4 := Lib.hid (HBv3.out.trans (hal.mono HBv3.out.size))
                  rw [← hg5]
                  generalize v3.alloc (.cells #[.int .i64 (k : Int)] 2) = v4 at hn4 hg5z HBv4 HE4 hg1z ⊢
                  clear hal
                  refine hK.out _ _ (((hTQ.out).next hzv hbxv HBv4.out)) (fun hHeld2 => ?_)
                  clear hK K hHeld
                  have hHeld := hHeld2
                  clear hHeld2
                  try simp only [Act.put, List.getElem_toArray, List.getElem_cons_zero, List.getElem_cons_succ, List.setIfInBounds_toArray, List.set_cons_zero, List.set_cons_succ]
                  refine wpAnyH_ready (rs := [3]) (by kernel_rfl) (by simp) ?_
                  refine AllReadyH.cons rfl (fun K hK => ?_) AllReadyH.nil
                  rw [if_pos (by kernel_rfl)]
                  have HOC := Lib.hid ((owns_next HO0.out HBv4.out).cells rfl)
                  refine wp_append_own _ (.tmp 81) (.tmp 82) 27 rfl v2.heap.size 2 i0 (.int .i64 0) 1 8 Tryd.underlying27 hI hz0 hz1 hz2 rfl (by decide) _ 0 [] rfl HE4.out ⟨go, 0, none⟩ m co (os.flatMap intS.C) rfl HLEN.out HOC.out HONES.out (by unfold maxLen; omega) (by omega) HBv4.out.size ?_
                  intro v83 v5 hP83 hgr83 _
                  rw [Nat.zero_add, List.nil_append] at hP83
                  have HA5 := Lib.hid hP83
                  have HBv5 := Lib.hid (Below.grown HBv4.out hgr83 HBv4.out.size (fun g hg => (HE4.out.lt g hg).1))
                  have hn5 := hgr83.cell hn4 (by intro e; exact hne (Option.some.inj e))
                  have hg5w : g5 < v5.heap.size := Nat.lt_of_lt_of_le hg5z hgr83.size
                  clear hn4 hg5z
                  have hg5z := hg5w
                  clear hg5w
                  clear HOC hP83 hgr83 HE4
                  refine hK.out _ _ (((hTQ.out).next hzv hbxv HBv5.out)) (fun hHeld2 => ?_)
                  clear hK K hHeld
                  have hHeld := hHeld2
                  clear hHeld2
                  try simp only [Act.put, List.getElem_toArray, List.getElem_cons_zero, List.getElem_cons_succ, List.setIfInBounds_toArray, List.set_cons_zero, List.set_cons_succ]
                  refine wpAnyH_ready (rs := [6]) (by kernel_rfl) (by simp) ?_
                  refine AllReadyH.cons rfl (fun K hK => ?_) AllReadyH.nil
                  rw [if_pos (by kernel_rfl)]
                  have HNC : Hid (∀ (j : Nat) u, ([.int .i64 (k : Int)] : List Value)[j]? = some u → v5.cell? ((⟨g5, 0, none⟩ : Addr).add j) = some u) := Lib.hid (fun j u hj => by
                    cases j with
                    | zero => rw [add_lit]; simp at hj; rw [← hj]; exact hn5
                    | succ j => simp at hj)
                  refine wp_append_own _ (.tmp 83) (.tmp 85) 27 rfl v2.heap.size 2 i0 (.int .i64 0) 1 8 Tryd.underlying27 hI hz0 hz1 hz2 rfl (by decide) _ m (os.flatMap intS.C) rfl HA5.out ⟨g5, 0, none⟩ 1 1 [.int .i64 (k : Int)] rfl rfl HNC.out (one_cellI (by rfl)) (by unfold maxLen; omega) (by omega) HBv5.out.size ?_
                  intro v86 v6 hP86 hgr86 _
                  rw [← flat_snoc] at hP86
                  have HBv6 := Lib.hid (Below.grown HBv5.out hgr86 HBv5.out.size (fun g hg => (HA5.out.lt g hg).1))
                  obtain ⟨g6, c6, rfl⟩ : ∃ g c, v86 = .slice (some ⟨g, 0, none⟩) (m + 1) c := by
                    rcases hP86.2 with ⟨_, h0⟩ | ⟨g, cap, cur, rfl, _⟩
                    · cases h0
                    · exact ⟨g, cap, rfl⟩
                  have HP86 := Lib.hid hP86
                  clear HNC hP86 hgr86 HA5 hn5
                  refine hK.out _ _ (((hTQ.out).next hzv hbxv HBv6.out)) (fun hHeld2 => ?_)
                  clear hK K hHeld
                  have hHeld := hHeld2
                  clear hHeld2
                  try simp only [Act.put, List.getElem_toArray, List.getElem_cons_zero, List.getElem_cons_succ, List.setIfInBounds_toArray, List.set_cons_zero, List.set_cons_succ]
                  refine wpAnyH_ready (rs := [16]) (by kernel_rfl) (by simp) ?_
                  refine AllReadyH.cons rfl (fun K hK => ?_) AllReadyH.nil
                  go_simp
                  refine (HC.out y HYV.out s.at_ t ha0 ht0 ht1 z HZC.out v6 (Nat.lt_of_lt_of_le hzv HBv6.out.size) (HS0.out.next HBv6.out).c3).mono ?_
                  rintro o v7 ⟨rfl, hbc⟩
                  have HBv7 := Lib.hid (HBv6.out.trans (hbc.mono HBv6.out.size))
                  have HP87 := Lib.hid (owns_next HP86.out hbc)
                  clear hbc HP86
                  refine hK.out _ _ (((hTQ.out).next hzv hbxv HBv7.out)) (fun hHeld2 => ?_)
                  clear hK K hHeld
                  have hHeld := hHeld2
                  clear hHeld2
                  try simp only [Act.put, List.getElem_toArray, List.getElem_cons_zero, List.getElem_cons_succ, List.setIfInBounds_toArray, List.set_cons_zero, List.set_cons_succ]
                  have w1 : IntKind.i64.wrap (s.sum + z) = s2 := by rw [HS2.out]; exact IntWalk.i64_in _ (by have := HS2.out; omega)
                  refine wpAnyH_take (i := 17) (v := ?_) rfl (by kernel_rfl) (by kernel_rfl) (by kernel_rfl) (fun _ _ _ h => h) (Or.inl ⟨by rfl, ?_⟩) (by assumption) ?_
                  rotate_left
                  · intro u hSu
                    (try dsimp only at hSu)
                    first | (go_simp; done) | (go_simp; with_reducible rfl)
                  try simp only [Act.put, List.getElem_toArray, List.getElem_cons_zero, List.getElem_cons_succ, List.setIfInBounds_toArray, List.set_cons_zero, List.set_cons_succ]
                  clear w1
                  refine wpAnyH_ready (rs := [18]) (by kernel_rfl) (by simp) ?_
                  refine AllReadyH.cons rfl (fun K hK => ?_) AllReadyH.nil
                  go_simp
                  refine (HIH.out g6 c6 v7 (HS0.out.next HBv7.out) (HG.out.below (HBW.out.trans ((HBR.out.mono (Nat.le_of_lt hzr)).trans (HBv7.out.mono (Nat.le_of_lt hzv))))) (owns_below HP87.out hzv)).mono ?_
                  rintro o v9 ⟨rfl, hw9, hg9⟩
                  have hh : TQ x y W b11 v9 := by
                    have h8 := ((hTQ.out).next hzv hbxv HBv7.out)
                    have hne : (some b11 : Option Nat) ≠ some W := fun e => by have := Option.some.inj e; have := HB11.out; omega
                    exact ⟨hw9.c0, hw9.c1, hg9.cell h8.2.2.1 hne, hg9.cell h8.2.2.2.1 hne, hg9.cell h8.2.2.2.2 hne⟩
                  have HW9 := Lib.hid hw9
                  have HG9 : Hid (wc.grownBy v9 (some W)) := Lib.hid (grownBy_trans (grownBy_trans HGk.out (row.grownBy_below (HBR.out.trans (HBv7.out.mono HBR.out.size)))) hg9)
                  clear hw9 hg9
                  refine hK.out _ _ (hh) (fun hHeld2 => ?_)
                  clear hK K hHeld
                  have hHeld := hHeld2
                  clear hHeld2
                  try simp only [Act.put, List.getElem_toArray, List.getElem_cons_zero, List.getElem_cons_succ, List.setIfInBounds_toArray, List.set_cons_zero, List.set_cons_succ]
                  clear hh
                  refine wpAnyH_done (by kernel_rfl) ?_ _
                  clear hHeld
                  go_wp2_with fail
                  go_roundg gi
                  case rel => exact ⟨k + 1, by omega, by go_num, HW9.out, HG9.out⟩
                  case measure => omega
              · rw [if_pos (by kernel_rfl)]
                refine wp_listedI 27 1 _ rfl #[(0, .int .i64 k)] ?hp (build_oneI _ _) ?_
                case hp => simp [Act.eval, Act.put]
                have hal : Below v2.heap.size v2 (v2.alloc (.cells #[.int .i64 (k : Int)] 2)) := (Below.refl _ _).alloc (Nat.le_refl _) _
                obtain ⟨g5, hg5⟩ : ∃ g, g = v2.heap.size := ⟨_, rfl⟩
                have hn3 : (v2.alloc (.cells #[.int .i64 (k : Int)] 2)).cell? ⟨g5, 0, none⟩ = some (.int .i64 k) := by rw [hg5]; exact cell_of_row _ _ _ _ _ _ (heap_alloc_new v2 _)
                have hg5z : g5 < (v2.alloc (.cells #[.int .i64 (k : Int)] 2)).heap.size := by rw [hg5]; simp
                have HBv3 := Lib.hid (HBv2.out.trans (hal.mono HBv2.out.size))
                rw [← hg5]
                generalize v2.alloc (.cells #[.int .i64 (k : Int)] 2) = v3 at hn3 hg5z HBv3 ⊢
                clear hal
                refine hK.out _ _ (((hTQ.out).next hzv hbxv HBv3.out)) (fun hHeld2 => ?_)
                clear hK K hHeld
                have hHeld := hHeld2
                clear hHeld2
                try simp only [Act.put, List.getElem_toArray, List.getElem_cons_zero, List.getElem_cons_succ, List.setIfInBounds_toArray, List.set_cons_zero, List.set_cons_succ]
                refine wpAnyH_ready (rs := [1]) (by kernel_rfl) (by simp) ?_
                refine AllReadyH.cons rfl (fun K hK => ?_) AllReadyH.nil
                rw [if_pos (by kernel_rfl)]
                refine wp_listedI 27 0 _ rfl #[] ?hp (build_nonI _) ?_
                case hp => simp [Act.eval, Act.put]
                have hal : Below v3.heap.size v3 (v3.alloc (.cells #[] 2)) := (Below.refl _ _).alloc (Nat.le_refl _) _
                obtain ⟨g1, hg1⟩ : ∃ g, g = v3.heap.size := ⟨_, rfl⟩
                have he4 := owns_below (World.ownsRow_made (e := 2) (size := 1) v3 #[] 0 (Nat.le_refl _) (Nat.zero_le _) rfl) HBv3.out.size
                have HE4 : Hid ((v3.alloc (.cells #[] 2)).ownsRow v2.heap.size 2 1 (.slice (some ⟨g1, 0, none⟩) 0 0) 0 []) := Lib.hid (by rw [hg1]; exact he4)
                clear he4
                have hn4 := (hal.cell (p := ⟨g5, 0, none⟩) hg5z).trans hn3
                have hne : g5 ≠ g1 := by omega
                have hg5w : g5 < (v3.alloc (.cells #[] 2)).heap.size := Nat.lt_of_lt_of_le hg5z hal.size
                clear hn3 hg5z
                have hg5z := hg5w
                clear hg5w
                have HBv4 := Lib.hid (HBv3.out.trans (hal.mono HBv3.out.size))
                rw [← hg1]
                have hg1z : g1 < (v3.alloc (.cells #[] 2)).heap.size := by rw [hg1]; simp
                generalize v3.alloc (.cells #[] 2) = v4 at HE4 HBv4 hg1z hn4 hg5z ⊢
                clear hal
                refine hK.out _ _ (((hTQ.out).next hzv hbxv HBv4.out)) (fun hHeld2 => ?_)
                clear hK K hHeld
                have hHeld := hHeld2
                clear hHeld2
                try simp only [Act.put, List.getElem_toArray, List.getElem_cons_zero, List.getElem_cons_succ, List.setIfInBounds_toArray, List.set_cons_zero, List.set_cons_succ]
                refine wpAnyH_ready (rs := [3]) (by kernel_rfl) (by simp) ?_
                refine AllReadyH.cons rfl (fun K hK => ?_) AllReadyH.nil
                rw [if_pos (by kernel_rfl)]
                have HOC := Lib.hid ((owns_next HO0.out HBv4.out).cells rfl)
                refine wp_append_own _ (.tmp 81) (.tmp 82) 27 rfl v2.heap.size 2 i0 (.int .i64 0) 1 8 Tryd.underlying27 hI hz0 hz1 hz2 rfl (by decide) _ 0 [] rfl HE4.out ⟨go, 0, none⟩ m co (os.flatMap intS.C) rfl HLEN.out HOC.out HONES.out (by unfold maxLen; omega) (by omega) HBv4.out.size ?_
                intro v83 v5 hP83 hgr83 _
                rw [Nat.zero_add, List.nil_append] at hP83
                have HA5 := Lib.hid hP83
                have HBv5 := Lib.hid (Below.grown HBv4.out hgr83 HBv4.out.size (fun g hg => (HE4.out.lt g hg).1))
                have hn5 := hgr83.cell hn4 (by intro e; exact hne (Option.some.inj e))
                have hg5w : g5 < v5.heap.size := Nat.lt_of_lt_of_le hg5z hgr83.size
                clear hn4 hg5z
                have hg5z := hg5w
                clear hg5w
                clear HOC hP83 hgr83 HE4
                refine hK.out _ _ (((hTQ.out).next hzv hbxv HBv5.out)) (fun hHeld2 => ?_)
                clear hK K hHeld
                have hHeld := hHeld2
                clear hHeld2
                try simp only [Act.put, List.getElem_toArray, List.getElem_cons_zero, List.getElem_cons_succ, List.setIfInBounds_toArray, List.set_cons_zero, List.set_cons_succ]
                refine wpAnyH_ready (rs := [6]) (by kernel_rfl) (by simp) ?_
                refine AllReadyH.cons rfl (fun K hK => ?_) AllReadyH.nil
                rw [if_pos (by kernel_rfl)]
                have HNC : Hid (∀ (j : Nat) u, ([.int .i64 (k : Int)] : List Value)[j]? = some u → v5.cell? ((⟨g5, 0, none⟩ : Addr).add j) = some u) := Lib.hid (fun j u hj => by
                  cases j with
                  | zero => rw [add_lit]; simp at hj; rw [← hj]; exact hn5
                  | succ j => simp at hj)
                refine wp_append_own _ (.tmp 83) (.tmp 85) 27 rfl v2.heap.size 2 i0 (.int .i64 0) 1 8 Tryd.underlying27 hI hz0 hz1 hz2 rfl (by decide) _ m (os.flatMap intS.C) rfl HA5.out ⟨g5, 0, none⟩ 1 1 [.int .i64 (k : Int)] rfl rfl HNC.out (one_cellI (by rfl)) (by unfold maxLen; omega) (by omega) HBv5.out.size ?_
                intro v86 v6 hP86 hgr86 _
                rw [← flat_snoc] at hP86
                have HBv6 := Lib.hid (Below.grown HBv5.out hgr86 HBv5.out.size (fun g hg => (HA5.out.lt g hg).1))
                obtain ⟨g6, c6, rfl⟩ : ∃ g c, v86 = .slice (some ⟨g, 0, none⟩) (m + 1) c := by
                  rcases hP86.2 with ⟨_, h0⟩ | ⟨g, cap, cur, rfl, _⟩
                  · cases h0
                  · exact ⟨g, cap, rfl⟩
                have HP86 := Lib.hid hP86
                clear HNC hP86 hgr86 HA5 hn5
                refine hK.out _ _ (((hTQ.out).next hzv hbxv HBv6.out)) (fun hHeld2 => ?_)
                clear hK K hHeld
                have hHeld := hHeld2
                clear hHeld2
                try simp only [Act.put, List.getElem_toArray, List.getElem_cons_zero, List.getElem_cons_succ, List.setIfInBounds_toArray, List.set_cons_zero, List.set_cons_succ]
                refine wpAnyH_ready (rs := [16]) (by kernel_rfl) (by simp) ?_
                refine AllReadyH.cons rfl (fun K hK => ?_) AllReadyH.nil
                go_simp
                refine (HC.out y HYV.out s.at_ t ha0 ht0 ht1 z HZC.out v6 (Nat.lt_of_lt_of_le hzv HBv6.out.size) (HS0.out.next HBv6.out).c3).mono ?_
                rintro o v7 ⟨rfl, hbc⟩
                have HBv7 := Lib.hid (HBv6.out.trans (hbc.mono HBv6.out.size))
                have HP87 := Lib.hid (owns_next HP86.out hbc)
                clear hbc HP86
                refine hK.out _ _ (((hTQ.out).next hzv hbxv HBv7.out)) (fun hHeld2 => ?_)
                clear hK K hHeld
                have hHeld := hHeld2
                clear hHeld2
                try simp only [Act.put, List.getElem_toArray, List.getElem_cons_zero, List.getElem_cons_succ, List.setIfInBounds_toArray, List.set_cons_zero, List.set_cons_succ]
                have w1 : IntKind.i64.wrap (s.sum + z) = s2 := by rw [HS2.out]; exact IntWalk.i64_in _ (by have := HS2.out; omega)
                refine wpAnyH_take (i := 17) (v := ?_) rfl (by kernel_rfl) (by kernel_rfl) (by kernel_rfl) (fun _ _ _ h => h) (Or.inl ⟨by rfl, ?_⟩) (by assumption) ?_
                rotate_left
                · intro u hSu
                  (try dsimp only at hSu)
                  first | (go_simp; done) | (go_simp; with_reducible rfl)
                try simp only [Act.put, List.getElem_toArray, List.getElem_cons_zero, List.getElem_cons_succ, List.setIfInBounds_toArray, List.set_cons_zero, List.set_cons_succ]
                clear w1
                refine wpAnyH_ready (rs := [18]) (by kernel_rfl) (by simp) ?_
                refine AllReadyH.cons rfl (fun K hK => ?_) AllReadyH.nil
                go_simp
                refine (HIH.out g6 c6 v7 (HS0.out.next HBv7.out) (HG.out.below (HBW.out.trans ((HBR.out.mono (Nat.le_of_lt hzr)).trans (HBv7.out.mono (Nat.le_of_lt hzv))))) (owns_below HP87.out hzv)).mono ?_
                rintro o v9 ⟨rfl, hw9, hg9⟩
                have hh : TQ x y W b11 v9 := by
                  have h8 := ((hTQ.out).next hzv hbxv HBv7.out)
                  have hne : (some b11 : Option Nat) ≠ some W := fun e => by have := Option.some.inj e; have := HB11.out; omega
                  exact ⟨hw9.c0, hw9.c1, hg9.cell h8.2.2.1 hne, hg9.cell h8.2.2.2.1 hne, hg9.cell h8.2.2.2.2 hne⟩
                have HW9 := Lib.hid hw9
                have HG9 : Hid (wc.grownBy v9 (some W)) := Lib.hid (grownBy_trans (grownBy_trans HGk.out (row.grownBy_below (HBR.out.trans (HBv7.out.mono HBR.out.size)))) hg9)
                clear hw9 hg9
                refine hK.out _ _ (hh) (fun hHeld2 => ?_)
                clear hK K hHeld
                have hHeld := hHeld2
                clear hHeld2
                try simp only [Act.put, List.getElem_toArray, List.getElem_cons_zero, List.getElem_cons_succ, List.setIfInBounds_toArray, List.set_cons_zero, List.set_cons_succ]
                clear hh
                refine wpAnyH_done (by kernel_rfl) ?_ _
                clear hHeld
                go_wp2_with fail
                go_roundg gi
                case rel => exact ⟨k + 1, by omega, by go_num, HW9.out, HG9.out⟩
                case measure => omega
end Go.Proofs.YtjhkjbdpmianfaaDoor.iron
