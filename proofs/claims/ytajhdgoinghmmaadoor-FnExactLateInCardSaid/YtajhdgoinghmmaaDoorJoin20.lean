/-
  Several texts of this proof, joined.
-/
import Derived.Test.YtajhdgoinghmmaaDoorJoin18
import Derived.Test.YtajhdgoinghmmaaDoorJoin14
import Derived.Test.YtajhdgoinghmmaaDoorIrSrt
import Derived.Maps.AppendAt
/-
  LateIn, the program's and the model's.
-/
namespace Go.Proofs.YtajhdgoinghmmaaDoor.iron
open Go Go.RowKit sl stk errs row fold ins

theorem kept_own (b g n c : Nat) : Kept (fun u L => u.ownsRow b 2 1 (.slice (some ⟨g, 0, none⟩) n c) n (L.flatMap intS.C)) g n .i64 :=
  ⟨fun u L j x h hx => cells_row h hx, fun u L j h _ => h.frozenAt j, fun u L j x h _ => by have := (h.stored j (.int .i64 x)).1; rwa [flat_set] at this, fun u L h => owns_next h (Below.refl _ _).drew⟩
set_option maxRecDepth 100000 in
set_option maxHeartbeats 2000000 in
theorem insert_nil (w : World) : Calls Tryd.prog 107 #[.slice none 0 0, .int .i64 0, .int .i64 0] w fun o w' => o = .returned (.tuple #[]) ∧ w = w' := by
  go_enter Tryd.func107, Tryd.ntmps107
  go_wp2_with fail
  refine wp_loop_rounds 1 ?_
  rw [rounds_succ]
  go_wp2_with fail
  go_end0
  exact ⟨rfl, rfl⟩
set_option maxRecDepth 100000 in
set_option maxHeartbeats 2000000 in
theorem pdq_nil (z : Int) (w : World) : Calls Tryd.prog 92 #[.slice none 0 0, .int .i64 0, .int .i64 0, .int .i64 z] w fun o w' => o = .returned (.tuple #[]) ∧ w = w' := by
  go_enter Tryd.func92, Tryd.ntmps92
  go_wp2_with fail
  refine wp_loop_rounds 1 ?_
  rw [rounds_succ]
  go_wp2_with fail
  refine (insert_nil _).mono ?_
  rintro o w1 ⟨rfl, rfl⟩
  go_wp2_with fail
  refine bodyPost_ret (v := .tuple #[]) (by simp [results, Tryd.results92, go_sem]) rfl ⟨rfl, rfl⟩
set_option maxRecDepth 100000 in
set_option maxHeartbeats 2000000 in
theorem sort_nil (w : World) : Calls Tryd.prog 68 #[.slice none 0 0] w fun o w' => o = .returned (.tuple #[]) ∧ w = w' := by
  have HL := Lib.hid (fun u => len_any 0 (by omega) u)
  rw [show (((0 : Nat) : Int)) = 0 from rfl] at HL
  go_enter Tryd.func68, Tryd.ntmps68
  go_wp2_with fail
  refine (HL.out _).mono ?_
  rintro o w1 ⟨⟨z, rfl⟩, rfl⟩
  go_wp2_with fail
  refine (pdq_nil z _).mono ?_
  rintro o w1 ⟨rfl, rfl⟩
  go_wp2_with fail
  go_end0
  exact ⟨rfl, rfl⟩
/-- a row of the call's own is sorted, be it nil or not -/
theorem sort_own (b : Nat) (v : Value) (ys : List Int) (hn : ys.length ≤ 12) (w : World) (hP : w.ownsRow b 2 1 v ys.length (ys.flatMap intS.C)) :
    Calls Tryd.prog 68 #[v] w fun o w' => o = .returned (.tuple #[]) ∧ w'.ownsRow b 2 1 v ys.length ((srt id ys).flatMap intS.C) ∧ Below b w w' := by
  rcases hP.2 with ⟨rfl, h0⟩ | ⟨g, cap, cur, rfl, hg, _⟩
  · obtain rfl := List.length_eq_zero_iff.1 h0
    refine (sort_nil w).mono ?_
    rintro o w' ⟨rfl, rfl⟩
    exact ⟨rfl, World.ownsRow_nil _ _ _ _, Below.refl _ _⟩
  · refine (sort_i64 _ g ys.length cap (kept_own b g ys.length cap) hn ys rfl w w (Below.refl _ _) hP).mono ?_
    rintro o w' ⟨rfl, h1, h2⟩
    exact ⟨rfl, h1, h2.mono hg⟩
set_option maxRecDepth 100000 in
set_option maxHeartbeats 4000000 in
theorem LateIn_any (x : Iro) (hx : x.Fits) (A : Option Addr) (n c : Nat) (ps : List Pie) (en : n = ps.length) (hn : n ≤ 1048576) (hf : ∀ p ∈ ps, p.Fits) (A' : Option Addr) (m c' : Nat) (os : List Int) (em : m = os.length) (hm : m ≤ 1048576) (ys : List Int) (r1 : Nat) (hr : lateR x ps os = (ys, r1)) {w : World} {B : Nat} {e : Nat → Addr} (h : Errs w B e) (hB : B ≤ w.heap.size) (hg : Sl Pie.cells 3 w w.heap.size A ps) (hg' : Sl intS.C 1 w w.heap.size A' os) :
    Calls Tryd.prog 33 #[x.v, .slice A n c, .slice A' m c'] w fun o w' => ∃ v, o = .returned (.tuple #[v, .int .i64 r1]) ∧ w'.ownsRow w.heap.size 2 1 v ys.length (ys.flatMap intS.C) ∧ Below w.heap.size w w' := by
  have HR := Lib.hid hr
  have En := Lib.hid en
  have Em := Lib.hid em
  have HFT := Lib.hid hf
  have S0 := Lib.hid (HotS.new x w 27)
  have c0 := S0.out.c0
  have c1 := S0.out.c1
  clear hr en em hf
  cases hc : codeOrd x ps os with
  | zero =>
    have HC := Lib.hid hc
    obtain ⟨hz, rfl⟩ := late_ok HR.out hc
    obtain ⟨hv, hp, h8, hl, hgd⟩ := codeOrd_zero hc
    have HZ : Hid (srt id (latK x ps os m) = ys) := Lib.hid (by rw [Em.out, lat_eq hgd]; exact hz)
    have HV := Lib.hid hv
    have HP := Lib.hid hp
    have hm8 : m ≤ 8 := by have := Em.out; omega
    obtain ⟨i0, hI, hz0, hz1, hz2⟩ := info_parts intS.info
    clear hc hz hv hp h8 hl hgd
    go_enter Tryd.func33, Tryd.ntmps33
    go_wp2_with fail
    refine (startsOf_ok1 x hx A n c ps En.out hn HFT.out A' m c' os Em.out hm HC.out (h.below (S0.out.b.mono hB)) (Nat.le_trans hB S0.out.b.size) ((hg.below S0.out.b).more S0.out.b.size) ((hg'.below S0.out.b).more S0.out.b.size)).mono ?_
    rintro o w1 ⟨g, rfl, hP, hb1⟩
    have S1 := Lib.hid (S0.out.next hb1)
    have HP1 := Lib.hid hP
    have hlg := (hP.lt g rfl).2
    have HN0 : Hid (w1.ownsRow w1.heap.size 2 1 (.slice none 0 0) (latK x ps os 0).length ((latK x ps os 0).flatMap intS.C)) := Lib.hid (World.ownsRow_nil _ _ _ _)
    clear c0 c1 hb1 hP
    go_wp2_with fail
    go_loopw [26, 10, 11, 12] (fun vi vo _ _ wr => ∃ (k : Nat), k ≤ m ∧ vi = .int .i64 (k : Nat) ∧ wr.ownsRow w1.heap.size 2 1 vo (latK x ps os k).length ((latK x ps os k).flatMap intS.C) ∧ Below w1.heap.size w1 wr) (fun vi _ _ _ _ => m - (intOf vi).toNat)
    case atStart => exact ⟨0, by omega, rfl, HN0.out, Below.refl _ _⟩
    case round =>
      clear HN0
      obtain ⟨k, hk, rfl, hP, hB1⟩ := hrel
      have HPk := Lib.hid hP
      have HBk := Lib.hid hB1
      clear hP hB1
      by_cases hlt : k < m
      · obtain ⟨i, hi⟩ : ∃ i, os[k]? = some i := ⟨os[k]'(by have := Em.out; omega), List.getElem?_eq_getElem _⟩
        have hgi : os.getD k 0 = i := by rw [List.getD_eq_getElem?_getD, hi]; rfl
        obtain ⟨a', rfl, hab, hat⟩ := ((hg'.below (S1.out.next HBk.out).b).more (S1.out.next HBk.out).b.size).at_ k i hi
        have q9 := intS.at_ hat
        have q1 : wr.cell? ⟨g, (k + 1) * 12 + 11, none⟩ = some (.int .i64 (runs x 1 ps (os.take (k + 1))).sum) := by
          have := row_cell HP1.out (stFs_at (x := x) (a := 1) (ps := ps) (os := os) (k := k + 1) (by rw [← Em.out]; omega)) (j := 11) (by decide)
          rw [cellR_11, stF, strOf_11] at this
          exact (HBk.out.cell (p := ⟨g, (k + 1) * 12 + 11, none⟩) hlg).trans this
        have q0 : wr.cell? ⟨g, k * 12 + 11, none⟩ = some (.int .i64 (runs x 1 ps (os.take k)).sum) := by
          have := row_cell HP1.out (stFs_at (x := x) (a := 1) (ps := ps) (os := os) (k := k) (by rw [← Em.out]; omega)) (j := 11) (by decide)
          rw [cellR_11, stF, strOf_11] at this
          exact (HBk.out.cell (p := ⟨g, k * 12 + 11, none⟩) hlg).trans this
        rw [runs1_sum hi] at q1
        obtain ⟨s, hs⟩ : ∃ s, (runs x 1 ps (os.take k)).sum = s := ⟨_, rfl⟩
        rw [hs] at q0 q1
        have hlk : latK x ps os (k + 1) = latK x ps os k ++ (if isLate x ps os k = true then [i] else []) := by rw [latK, hgi]
        have hlen := latK_len x ps os k
        have x1 : IntKind.i64.wrap ((k : Int) + 1) = (k : Int) + 1 := IntWalk.i64_in _ (by omega)
        have x2 : (0 : Int) ≤ (k : Int) := by omega
        have x3 : (k : Int) < (m : Int) + 1 := by omega
        have x4 : (k : Int) + 1 < (m : Int) + 1 := by omega
        have x5 : (0 : Int) ≤ (k : Int) + 1 := by omega
        have x6 : ((k : Int) + 1).toNat = k + 1 := by omega
        cases hb : isLate x ps os k with
        | true =>
          rw [hb, if_pos rfl] at q1 hlk
          have HLK := Lib.hid hlk
          have d1 : decide (s < s + 1) = true := decide_eq_true (by omega)
          clear hb hlk hs hi hgi hat
          go_wp2_with fail
          go_quiet (fail)
          have HPD := Lib.hid (owns_next HPk.out (below_drewN _ wr nq))
          have HBD := Lib.hid (HBk.out.trans (below_drewN _ wr nq))
          generalize wr.drewN nq = v0 at HPD HBD ⊢
          clear x1 x2 x3 x4 x5 x6 d1 q0 q1 q9
          go_wp2_with (first | (at_builtin; refine wpList_append_own _ rfl (.tmp 43) (.tmp 45) 31 rfl w1.heap.size 2 i0 (.int .i64 0) 1 8 Tryd.underlying31 hI hz0 hz1 hz2 rfl (by decide) _ _ _ rfl (HPD.out.alloc _) ⟨_, 0, none⟩ 1 1 [.int .i64 i] rfl rfl (one_newB _ _ _ _ (by simp)) (one_cellI (by rfl)) (by unfold maxLen; omega) (by omega) (by have := HBD.out.size; simp; omega) ?_; intro v3 w5 hP5 hgr _; have B5 := Lib.hid (Below.grown (HBD.out.alloc HBD.out.size _) hgr (by have := HBD.out.size; simp; omega) (fun g hg => (HPD.out.lt g hg).1)); have HP5 := Lib.hid hP5; clear hP5 hgr) | fail)
          go_roundw
          case rel => exact ⟨k + 1, by omega, by go_num, by rw [HLK.out, flat_snoc, List.length_append]; exact HP5.out, B5.out⟩
          case measure => simp [intOf]; omega
        | false =>
          rw [hb, if_neg (by decide)] at q1
          rw [hb, if_neg (by decide), List.append_nil] at hlk
          have HLK := Lib.hid hlk
          rw [Int.add_zero] at q1
          have d1 : decide (s < s) = false := decide_eq_false (by omega)
          clear hb hlk hs hi hgi hat
          go_wp2_with fail
          go_quiet (fail)
          have HPD := Lib.hid (owns_next HPk.out (below_drewN _ wr nq))
          have HBD := Lib.hid (HBk.out.trans (below_drewN _ wr nq))
          generalize wr.drewN nq = v0 at HPD HBD ⊢
          clear x1 x2 x3 x4 x5 x6 d1 q0 q1 q9
          go_wp2_with fail
          go_roundw
          case rel => exact ⟨k + 1, by omega, by go_num, by rw [HLK.out]; exact HPD.out, HBD.out⟩
          case measure => simp [intOf]; omega
      · obtain rfl : k = m := by omega
        have hlen := latK_len x ps os k
        have hyl : Hid ((latK x ps os k).length = ys.length) := Lib.hid (by rw [← HZ.out, srt_len])
        go_wp2_with fail
        refine (sort_own w1.heap.size _ (latK x ps os k) (by omega) _ HPk.out).mono ?_
        rintro o w5 ⟨rfl, hP5, hB5⟩
        rw [HZ.out, hyl.out] at hP5
        have HP5 := Lib.hid hP5
        have HB5 := Lib.hid (HBk.out.trans hB5)
        clear hP5 hB5
        go_wp2_with fail
        go_ret2
        exact ⟨_, rfl, owns_below HP5.out S1.out.b.size, (S1.out.next HB5.out).b⟩
  | succ i =>
    have HC := Lib.hid hc
    obtain ⟨rfl, rfl⟩ := late_no HR.out hc
    have hi := codeOrd_le x ps os
    rw [hc] at hi
    have hi6 : i + 1 ≤ 6 := by omega
    clear hc hi
    go_enter Tryd.func33, Tryd.ntmps33
    go_wp2_with fail
    refine (startsOf_no1 x hx A n c ps En.out hn HFT.out A' m c' os Em.out hm i HC.out (h.below (S0.out.b.mono hB)) (Nat.le_trans hB S0.out.b.size) ((hg.below S0.out.b).more S0.out.b.size) ((hg'.below S0.out.b).more S0.out.b.size)).mono ?_
    rintro o w1 ⟨rfl, hb1⟩
    have S1 := Lib.hid (S0.out.next hb1)
    have HQ := Lib.hid (codeOf_any (h.below (S1.out.b.mono hB)) (i + 1) (by omega))
    rw [show errOf e (i + 1) = errV (e i) from rfl] at HQ ⊢
    clear c0 c1 hb1
    go_wp2_with fail
    refine HQ.out.mono ?_
    rintro o w2 ⟨rfl, rfl⟩
    go_wp2_with fail
    go_ret2
    exact ⟨_, rfl, World.ownsRow_nil _ _ _ _, S1.out.b⟩
end Go.Proofs.YtajhdgoinghmmaaDoor.iron

/-
  LateIn, the model's.
-/
namespace Go.Proofs.YtajhdgoinghmmaaDoor.iron
open Go Go.RowKit sl stk errs row fold ins

theorem kept_apart {w w' : World} {b : Nat} {v vo : Value} {n : Nat} {L : List Value} (h : w.ownsRow b 2 1 v n L) (hg : w.grownBy w' vo.ownBlock) (ha : ∀ k, vo.ownBlock = some k → v.ownBlock ≠ some k) : w'.ownsRow b 2 1 v n L := by
  refine h.kept hg ?_
  cases hv : v.ownBlock with
  | none => exact .inl rfl
  | some k => exact .inr (fun e => ha k e.symm hv)
theorem apart_next {w : World} {b : Nat} {v vo v3 : Value} {n : Nat} {L : List Value} {T : TypeId} {z : Value} (ha : ∀ k, vo.ownBlock = some k → v.ownBlock ≠ some k) (h : w.ownsRow b 2 1 v n L) (hw : v3.ownBlock = vo.ownBlock ∨ v3.ownBlock = some (w.alloc (.cells #[z] T)).heap.size) : ∀ k, v3.ownBlock = some k → v.ownBlock ≠ some k := by
  intro k hk e
  rcases hw with hw | hw
  · exact ha k (hw.symm.trans hk) e
  · rw [hw] at hk
    have h1 := Option.some.inj hk
    have h2 := (h.lt k e).2
    simp at h1
    omega
theorem latI_len (x : Iro) (ps : List Pie) (os : List Int) (i : Nat) : ∀ k, (latI x ps os i k).length ≤ k
  | 0 => Nat.le_refl _
  | k + 1 => by
    have := latI_len x ps os i k
    rw [latI, List.length_append]
    split <;> simp <;> omega
theorem latM_len (x : Iro) (ps : List Pie) (os : List Int) (m : Nat) (hm : m ≤ 8) : ∀ k, (latM x ps os m k).length ≤ 8 * k
  | 0 => Nat.le_refl _
  | k + 1 => by
    have := latM_len x ps os m hm k
    have := latI_len x ps os k m
    rw [latM, List.length_append]
    omega
set_option maxRecDepth 100000 in
set_option maxHeartbeats 8000000 in
theorem LateIn_spec (x : Iro) (hx : x.Fits) (A : Option Addr) (n c : Nat) (ps : List Pie) (en : n = ps.length) (hn : n ≤ 1048576) (hf : ∀ p ∈ ps, p.Fits) (A' : Option Addr) (m : Nat) (os : List Int) (em : m = os.length) (hm : m ≤ 1048576) (ys : List Int) (r1 : Nat) (hr : lateR x ps os = (ys, r1)) (w : World) (hg : Sl Pie.cells 3 w w.heap.size A ps) (hg' : Sl intS.C 1 w w.heap.size A' os) :
    Calls Tryd.prog 32 #[x.v, .slice A n c, .slice A' m m] w fun o w' => ∃ v, o = .returned (.tuple #[v, .int .i64 r1]) ∧ w'.ownsRow w.heap.size 2 1 v ys.length (ys.flatMap intS.C) ∧ Below w.heap.size w w' := by
  obtain ⟨k0, hk0⟩ : ∃ k : Nat, codeOrd x ps os = k := ⟨_, rfl⟩
  have HK0 := Lib.hid hk0
  have HR := Lib.hid hr
  have En := Lib.hid en
  have Em := Lib.hid em
  have HFT := Lib.hid hf
  obtain ⟨i0, hI, hz0, hz1, hz2⟩ := info_parts intS.info
  have S0 := Lib.hid (HotS.new x w 27)
  have e0 : (w.alloc (.cells #[.int .i8 x.up, .int .i8 x.down] 27)).heap.size = w.heap.size + 1 := by simp
  obtain ⟨u0, hu0⟩ : ∃ u, u = (w.alloc (.cells #[.int .i8 x.up, .int .i8 x.down] 27)).alloc (.cells #[] 2) := ⟨_, rfl⟩
  have HN0 : Hid (u0.ownsRow w.heap.size 2 1 (.slice (some ⟨w.heap.size + 1, 0, none⟩) 0 0) 0 (([] : List Int).flatMap intS.C)) := Lib.hid (by
    have := own_noI (u := w.alloc (.cells #[.int .i8 x.up, .int .i8 x.down] 27)) (b := w.heap.size) (by rw [e0]; omega)
    rw [e0] at this
    rw [hu0]
    exact this)
  have S1 : Hid (HotS x w u0) := Lib.hid (by rw [hu0]; exact S0.out.next ((Below.refl _ _).alloc (Nat.le_refl _) _))
  have hzu : w.heap.size + 1 < u0.heap.size := by rw [hu0]; simp
  have HU := Lib.hid hu0
  have c0 := S1.out.c0
  have c1 := S1.out.c1
  clear hk0 hr en em hf hu0 e0 S0
  go_enter Tryd.func32, Tryd.ntmps32
  go_wp2_with (first | (rw [← HU.out]) | fail)
  refine (l07Ordered_any x hx A n c ps En.out hn HFT.out A' m os Em.out hm k0 HK0.out _ ((hg.below S1.out.b).more S1.out.b.size) ((hg'.below S1.out.b).more S1.out.b.size)).mono ?_
  rintro o w1 ⟨rfl, hb1⟩
  have S2 := Lib.hid (S1.out.next hb1)
  have HN1 := Lib.hid (owns_next HN0.out hb1)
  have hz1' : w.heap.size + 1 < w1.heap.size := Nat.lt_of_lt_of_le hzu hb1.size
  clear c0 c1 hb1 S1 HN0 HU hzu
  have c0 := S2.out.c0
  have c1 := S2.out.c1
  cases k0 with
  | succ i =>
    obtain ⟨rfl, rfl⟩ := late_no HR.out HK0.out
    have hne : (((i + 1 : Nat) : Int) != 0) = true := by rw [bne_iff_ne]; omega
    have hne2 : (((i : Int) + 1) != 0) = true := by rw [bne_iff_ne]; omega
    go_wp2_with fail
    go_ret2
    exact ⟨_, by first | (simp; done) | (simp; rfl), HN1.out, S2.out.b⟩
  | zero =>
    obtain ⟨hz, rfl⟩ := late_ok HR.out HK0.out
    obtain ⟨hv, hp, h8, hl, hgd⟩ := codeOrd_zero HK0.out
    rw [← En.out] at h8 hl
    rw [← Em.out] at hl
    have HZ : Hid (latM x ps os m n = ys) := Lib.hid (by rw [Em.out, En.out]; exact hz)
    have HV := Lib.hid hv
    have HP := Lib.hid hp
    have HO := Lib.hid (good_in (by rw [← En.out] at hgd; exact hgd))
    have hm8 : m ≤ 8 := by omega
    clear hv hp hgd hl hz
    rw [show (((0 : Nat) : Int)) = 0 from rfl]
    go_wp2_with fail
    refine (l07Times_any x HV.out A n c ps En.out h8 HP.out A' m os Em.out hm8 HO.out _ ((hg.below S2.out.b).more S2.out.b.size) ((hg'.below S2.out.b).more S2.out.b.size)).mono ?_
    rintro o w2 ⟨v, rfl, hT, hb2⟩
    obtain ⟨At, ct, rfl, _⟩ := owns_slice hT
    have HB2 := Lib.hid (S2.out.next hb2).b
    have HN2 : Hid (w2.ownsRow w.heap.size 2 1 (.slice (some ⟨w.heap.size + 1, 0, none⟩) 0 0) (latM x ps os m 0).length ((latM x ps os m 0).flatMap intS.C)) := Lib.hid (owns_next HN1.out hb2)
    have HTT := Lib.hid hT
    have HAP : Hid (∀ k, (Value.slice (some ⟨w.heap.size + 1, 0, none⟩) 0 0).ownBlock = some k → (Value.slice At m ct).ownBlock ≠ some k) := Lib.hid (fun k hk e => by
      have h1 : w.heap.size + 1 = k := Option.some.inj hk
      have := (hT.lt k e).1
      omega)
    have hwT : w.heap.size ≤ w1.heap.size := by omega
    clear c0 c1 hb2 hT S2 HN1
    go_wp2_with fail
    go_loopw [11, 8, 12] (fun vi vo _ wr => ∃ i : Nat, i ≤ n ∧ vi = .int .i64 i ∧ wr.ownsRow w.heap.size 2 1 vo (latM x ps os m i).length ((latM x ps os m i).flatMap intS.C) ∧ wr.ownsRow w.heap.size 2 1 (.slice At m ct) m ((tims x ps os).flatMap intS.C) ∧ (∀ k, vo.ownBlock = some k → (Value.slice At m ct).ownBlock ≠ some k) ∧ Below w.heap.size w wr) (fun vi _ _ _ => n - (intOf vi).toNat)
    case atStart => exact ⟨0, by omega, rfl, HN2.out, owns_below HTT.out hwT, HAP.out, HB2.out⟩
    case round =>
      clear HN2 HTT HAP HB2
      obtain ⟨i, hi, rfl, hP, hT, hA, hB⟩ := hrel
      have HPi := Lib.hid hP
      have HTi := Lib.hid hT
      have HAi := Lib.hid hA
      have HBi := Lib.hid hB
      obtain ⟨wo, rfl⟩ : ∃ wo, wo = wr := ⟨wr, rfl⟩
      clear hP hT hA hB
      by_cases hlt : i < n
      · obtain ⟨y, hy⟩ : ∃ y, ps[i]? = some y := ⟨ps[i]'(by have := En.out; omega), List.getElem?_eq_getElem _⟩
        have HPT := Lib.hid (ptv_at hy)
        obtain ⟨_, _, y4, y5⟩ := pieB_iff.1 (List.all_eq_true.1 HP.out _ (List.mem_of_getElem? hy))
        have HY := Lib.hid hy
        have HP0 := HPi
        rw [← List.append_nil (latM x ps os m i)] at HP0
        clear hy
        go_wp2_with fail
        go_loopw [12, 8] (fun vq vo wr => ∃ q : Nat, q ≤ m ∧ vq = .int .i64 q ∧ wr.ownsRow w.heap.size 2 1 vo (latM x ps os m i ++ latI x ps os i q).length ((latM x ps os m i ++ latI x ps os i q).flatMap intS.C) ∧ wr.ownsRow w.heap.size 2 1 (.slice At m ct) m ((tims x ps os).flatMap intS.C) ∧ (∀ k, vo.ownBlock = some k → (Value.slice At m ct).ownBlock ≠ some k) ∧ Below w.heap.size w wr) (fun vq _ _ => m - (intOf vq).toNat)
        case atStart => exact ⟨0, by omega, rfl, HP0.out, HTi.out, HAi.out, HBi.out⟩
        case round =>
          clear HPi HTi HAi HBi HP0
          obtain ⟨q, hq, rfl, hP, hT, hA, hB⟩ := hrel
          have HPq := Lib.hid hP
          have HTq := Lib.hid hT
          have HAq := Lib.hid hA
          have HBq := Lib.hid hB
          clear hP hT hA hB
          by_cases hlq : q < m
          · obtain ⟨z, hz⟩ : ∃ z, os[q]? = some z := ⟨os[q]'(by have := Em.out; omega), List.getElem?_eq_getElem _⟩
            have hgz : os.getD q 0 = z := by rw [List.getD_eq_getElem?_getD, hz]; rfl
            obtain ⟨a', rfl, hab, hat⟩ := ((hg'.below HBq.out).more HBq.out.size).at_ q z hz
            have q1 := intS.at_ hat
            obtain ⟨a2, rfl, hab2, hat2⟩ := (Sl.of_owns HTq.out (intS.len _) (by decide)).at_ q _ (tims_at (x := x) (ps := ps) (os := os) (k := q) (by rw [← Em.out]; exact hlq))
            have q2 := intS.at_ hat2
            obtain ⟨a3, rfl, hab3, hat3⟩ := ((hg.below HBq.out).more HBq.out.size).at_ i y HY.out
            obtain ⟨_, _, q3⟩ := pieS.at_ hat3
            obtain ⟨t, ht⟩ : ∃ t, (runs x 0 ps (os.take (q + 1))).at_ = t := ⟨_, rfl⟩
            rw [ht] at q2
            have hstep : latI x ps os i (q + 1) = latI x ps os i q ++ (if z = (i : Int) ∧ isLate x ps os q = true then [(i : Int)] else []) := by rw [latI, hgz]
            have hlate : z = (i : Int) → isLate x ps os q = decide (y.due < t) := fun e => by unfold isLate; rw [hgz, e, HPT.out, ht]
            have HST := Lib.hid hstep
            have HLA := Lib.hid hlate
            have hlen : (latM x ps os m i ++ latI x ps os i q).length ≤ 1000 := by
              have := latM_len x ps os m hm8 i
              have := latI_len x ps os i q
              rw [List.length_append]
              omega
            have x1 : IntKind.i64.wrap y.due = y.due := IntWalk.i64_in _ (by omega)
            have x2 : (0 : Int) ≤ (q : Int) := by omega
            have x3 : (q : Int) < (m : Int) := by omega
            have x4 : (0 : Int) ≤ (i : Int) := by omega
            have x5 : (i : Int) < (n : Int) := by omega
            clear hz hgz hat hat2 hat3 ht hstep hlate
            by_cases hzi : z = (i : Int)
            · subst hzi
              have d1 : ((i : Int) == (i : Int)) = true := by simp
              by_cases hdt : y.due < t
              · have d2 : decide (y.due < t) = true := decide_eq_true hdt
                have HLK : Hid (latM x ps os m i ++ latI x ps os i (q + 1) = latM x ps os m i ++ latI x ps os i q ++ [(i : Int)]) := Lib.hid (by rw [HST.out, if_pos ⟨rfl, by rw [HLA.out rfl]; exact d2⟩, List.append_assoc])
                go_wp2_with fail
                go_quiet (fail)
                have HPD := Lib.hid (owns_next HPq.out (below_drewN _ wr nq))
                have HTD := Lib.hid (owns_next HTq.out (below_drewN _ wr nq))
                have HBD := Lib.hid (HBq.out.trans (below_drewN _ wr nq))
                generalize wr.drewN nq = v0 at HPD HTD HBD ⊢
                clear x1 x2 x3 x4 x5 d1 d2 q1 q2 q3
                go_wp2_with (first | (at_builtin; refine wpList_append_own_at _ rfl (.tmp 57) (.tmp 59) 31 rfl w.heap.size 2 i0 (.int .i64 0) 1 8 Tryd.underlying31 hI hz0 hz1 hz2 rfl (by decide) _ _ _ rfl (HPD.out.alloc _) ⟨_, 0, none⟩ 1 1 [.int .i64 (i : Int)] rfl rfl (one_newB _ _ _ _ (by simp)) (one_cellI (by rfl)) (by unfold maxLen; omega) (by omega) (by have := HBD.out.size; simp; omega) ?_; intro v3 w5 hP5 hgr _ hwh; have B5 := Lib.hid (Below.grown (HBD.out.alloc HBD.out.size _) hgr (by have := HBD.out.size; simp; omega) (fun g hg => (HPD.out.lt g hg).1)); have HT5 := Lib.hid (kept_apart (HTD.out.alloc (.cells #[.int .i64 (i : Int)] 2)) hgr HAq.out); have HA5 := Lib.hid (apart_next HAq.out HTD.out hwh); have HP5 := Lib.hid hP5; clear hP5 hgr hwh) | fail)
                go_roundw
                case rel => exact ⟨q + 1, by omega, by go_num, by rw [HLK.out, flat_snoc, List.length_append]; exact HP5.out, HT5.out, HA5.out, B5.out⟩
                case measure => simp [intOf]; omega
              · have d2 : decide (y.due < t) = false := decide_eq_false hdt
                have HLK : Hid (latM x ps os m i ++ latI x ps os i (q + 1) = latM x ps os m i ++ latI x ps os i q) := Lib.hid (by rw [HST.out, if_neg (fun h => by have h2 := h.2; rw [HLA.out rfl, d2] at h2; cases h2), List.append_nil])
                go_wp2_with fail
                go_quiet (fail)
                have HPD := Lib.hid (owns_next HPq.out (below_drewN _ wr nq))
                have HTD := Lib.hid (owns_next HTq.out (below_drewN _ wr nq))
                have HBD := Lib.hid (HBq.out.trans (below_drewN _ wr nq))
                generalize wr.drewN nq = v0 at HPD HTD HBD ⊢
                clear x1 x2 x3 x4 x5 d1 d2 q1 q2 q3
                go_wp2_with fail
                go_roundw
                case rel => exact ⟨q + 1, by omega, by go_num, by rw [HLK.out]; exact HPD.out, HTD.out, HAq.out, HBD.out⟩
                case measure => simp [intOf]; omega
            · have d1 : (z == (i : Int)) = false := by rw [beq_eq_false_iff_ne]; exact hzi
              have d2 : True := trivial
              have HLK : Hid (latM x ps os m i ++ latI x ps os i (q + 1) = latM x ps os m i ++ latI x ps os i q) := Lib.hid (by rw [HST.out, if_neg (fun h => hzi h.1), List.append_nil])
              clear hzi HST HLA
              go_wp2_with fail
              go_quiet (fail)
              have HPD := Lib.hid (owns_next HPq.out (below_drewN _ wr nq))
              have HTD := Lib.hid (owns_next HTq.out (below_drewN _ wr nq))
              have HBD := Lib.hid (HBq.out.trans (below_drewN _ wr nq))
              generalize wr.drewN nq = v0 at HPD HTD HBD ⊢
              clear x1 x2 x3 x4 x5 d1 d2 q1 q2 q3
              go_wp2_with fail
              go_roundw
              case rel => exact ⟨q + 1, by omega, by go_num, by rw [HLK.out]; exact HPD.out, HTD.out, HAq.out, HBD.out⟩
              case measure => simp [intOf]; omega
          · obtain rfl : q = m := by omega
            go_wp2_with fail
            go_roundw
            case rel => exact ⟨i + 1, by omega, by go_num, HPq.out, HTq.out, HAq.out, HBq.out⟩
            case measure => simp [intOf]; omega
      · obtain rfl : i = n := by omega
        have HPF := HPi
        rw [HZ.out] at HPF
        go_wp2_with fail
        go_ret2
        exact ⟨_, rfl, HPF.out, HBi.out⟩
end Go.Proofs.YtajhdgoinghmmaaDoor.iron
