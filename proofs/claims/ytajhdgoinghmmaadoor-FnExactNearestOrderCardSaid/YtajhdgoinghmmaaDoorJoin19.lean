/-
  Several texts of this proof, joined.
-/
import Derived.Test.YtajhdgoinghmmaaDoorJoin18
import Derived.Test.YtajhdgoinghmmaaDoorJoin15
import Derived.Deep.LoopGhost
import Derived.Test.YtajhdgoinghmmaaDoorJoin17
import Derived.Test.YtajhdgoinghmmaaDoorJoin14
/-
  NearestOrder, the program's.
-/
namespace Go.Proofs.YtajhdgoinghmmaaDoor.iron
open Go Go.RowKit sl stk errs row ins

/-- what NearestOrder has behind its checks: what it irons, and the start -/
structure NRS (x : Iro) (A : Option Addr) (n c : Nat) (fm : Value) (G : Nat) (f : Str) (w u : World) : Prop where
  g0 : u.cell? ⟨G, 0, none⟩ = some (.int .i8 x.up)
  g1 : u.cell? ⟨G, 1, none⟩ = some (.int .i8 x.down)
  g2 : u.cell? ⟨G, 2, none⟩ = some (.slice A n c)
  g3 : u.cell? ⟨G, 3, none⟩ = some fm
  s : StrOwn u (G + 1) 0 f
  b : Below w.heap.size w u
  z : w.heap.size < G
theorem NRS.next {x : Iro} {A : Option Addr} {n c : Nat} {fm : Value} {G : Nat} {f : Str} {w u v : World} (h : NRS x A n c fm G f w u) (hb : Below u.heap.size u v) : NRS x A n c fm G f w v := by
  have hl := h.s.lt
  have hz := h.z
  exact ⟨(hb.cell (p := ⟨_, 0, none⟩) (by show G < _; omega)).trans h.g0, (hb.cell (p := ⟨_, 1, none⟩) (by show G < _; omega)).trans h.g1, (hb.cell (p := ⟨_, 2, none⟩) (by show G < _; omega)).trans h.g2, (hb.cell (p := ⟨_, 3, none⟩) (by show G < _; omega)).trans h.g3,
    h.s.next hb, h.b.trans (hb.mono (by omega)), h.z⟩
theorem NRS.store {x : Iro} {A : Option Addr} {n c : Nat} {fm : Value} {G : Nat} {f : Str} {w u : World} (h : NRS x A n c fm G f w u) (g : Str) : NRS x A n c fm G g w (u.setCells (G + 1) 0 (lst 12 (cellR g))) := by
  have hz := h.z
  have far : ∀ i, (u.setCells (G + 1) 0 (lst 12 (cellR g))).cell? ⟨G, i, none⟩ = u.cell? ⟨G, i, none⟩ := fun i => World.cell?_setCells_out _ _ _ _ _ (fun e => absurd e (by show G ≠ G + 1; omega))
  exact ⟨(far 0).trans h.g0, (far 1).trans h.g1, (far 2).trans h.g2, (far 3).trans h.g3, StrOwn.stored h.s g, below_cells h.b (by omega) _ _, hz⟩
theorem NRS.new {x : Iro} {A : Option Addr} {n c : Nat} {fm : Value} {w v : World} (hb : Below w.heap.size w v) (hz : w.heap.size < v.heap.size) (T U : TypeId) : NRS x A n c fm v.heap.size zeroR w ((v.alloc (.cells #[.int .i8 x.up, .int .i8 x.down, .slice A n c, fm] T)).alloc (.cells (strCs zeroR) U)) := by
  have e : (v.alloc (.cells #[.int .i8 x.up, .int .i8 x.down, .slice A n c, fm] T)).heap.size = v.heap.size + 1 := by simp
  have hs := StrOwn.new (v.alloc (.cells #[.int .i8 x.up, .int .i8 x.down, .slice A n c, fm] T)) zeroR U
  rw [e] at hs
  have h1 : ∀ i, ((v.alloc (.cells #[.int .i8 x.up, .int .i8 x.down, .slice A n c, fm] T)).alloc (.cells (strCs zeroR) U)).cell? ⟨v.heap.size, i, none⟩ = (#[.int .i8 x.up, .int .i8 x.down, .slice A n c, fm] : Array Value)[i]? := fun i =>
    cell_of_row _ _ _ _ _ _ ((heap_alloc_old _ _ (by rw [e]; omega)).trans (heap_alloc_new v _))
  exact ⟨h1 0, h1 1, h1 2, h1 3, hs, (hb.alloc hb.size _).alloc (by rw [e]; omega) _, hz⟩
set_option maxRecDepth 100000 in
set_option maxHeartbeats 4000000 in
theorem NearestOrder_any (x : Iro) (hx : x.Fits) (A : Option Addr) (n c : Nat) (ps : List Pie) (en : n = ps.length) (hn : n ≤ 1048576) (hf : ∀ p ∈ ps, p.Fits) (ys : List Int) (r1 : Nat) (hr : nearR x ps = (ys, r1)) {w : World} {B : Nat} {e : Nat → Addr} (h : Errs w B e) (hB : B ≤ w.heap.size) (hg : Sl Pie.cells 3 w w.heap.size A ps) :
    Calls Tryd.prog 41 #[x.v, .slice A n c] w fun o w' => ∃ v, o = .returned (.tuple #[v, .int .i64 r1]) ∧ w'.ownsRow w.heap.size 2 1 v ys.length (ys.flatMap intS.C) ∧ Below w.heap.size w w' := by
  obtain ⟨k0, hk0⟩ : ∃ k : Nat, k = if iroB x = true then 0 else 1 := ⟨_, rfl⟩
  obtain ⟨k1, hk1⟩ : ∃ k : Nat, k = codePs ps := ⟨_, rfl⟩
  have HF := Lib.hid (code2i x ps k0 k1 hk0 hk1)
  have HK0 := Lib.hid hk0
  have HK1 := Lib.hid hk1
  have HR := Lib.hid hr
  have En := Lib.hid en
  have HFT := Lib.hid hf
  have S0 := Lib.hid (HotS.new x w 27)
  have c0 := S0.out.c0
  have c1 := S0.out.c1
  clear hk0 hk1 hr en hf
  go_enter Tryd.func41, Tryd.ntmps41
  go_wp2_with fail
  refine (checkIron_any x hx (h.below (S0.out.b.mono hB)) (Nat.le_trans hB S0.out.b.size) k0 HK0.out).mono ?_
  rintro o w1 ⟨rfl, hb1⟩
  have S1 := Lib.hid (S0.out.next hb1)
  clear c0 c1 hb1
  go_wp2_with fail
  refine (checkIroned_any A n c ps En.out hn HFT.out (h.below (S1.out.b.mono hB)) (Nat.le_trans hB S1.out.b.size) ((hg.below S1.out.b).more S1.out.b.size) k1 HK1.out).mono ?_
  rintro o w2 ⟨rfl, hb2⟩
  have S2 := Lib.hid (S1.out.next hb2)
  clear hb2
  go_wp2_with (refine wpList_listed rfl 98 2 _ rfl #[(0, errOf e k0), (1, errOf e k1)] ?hp (buildSlice2 e k0 k1 _) ?_; case hp => simp [Act.eval])
  refine (firstOf_any e [k0, k1] _ 2 2 rfl (by decide) _ (cells_errs2 e k0 k1 w2 55)).mono ?_
  rintro o w3 ⟨rfl, rfl⟩
  rw [HF.out]
  obtain ⟨w3, hw3⟩ : ∃ w3, w3 = w2.alloc (.cells #[errOf e k0, errOf e k1] 55) := ⟨_, rfl⟩
  have S3 := Lib.hid (S2.out.next ((Below.refl _ _).alloc (Nat.le_refl _) (.cells #[errOf e k0, errOf e k1] 55)))
  rw [← hw3] at S3 ⊢
  have H3 := Lib.hid (h.below (S3.out.b.mono hB))
  have c0 := S3.out.c0
  have c1 := S3.out.c1
  clear hw3
  cases hc : codeIr x ps with
  | zero =>
    have HC := Lib.hid hc
    clear hc
    obtain ⟨hv, hp, h8⟩ := codeIr_zero HC.out
    rw [← En.out] at h8
    have HV := Lib.hid hv
    have HP := Lib.hid hp
    clear hv hp
    rw [show errOf e 0 = .nilIface from rfl]
    obtain ⟨hz, rfl⟩ := near_yes HR.out HC.out
    rw [← En.out] at hz
    have HZ := Lib.hid hz
    have hzz : ∀ u : World, (zeroValue 76).run Tryd.prog u = .ok (.agg (strCs zeroR)) u := (zero_of_info zeroRi).1
    clear hz
    go_wp2_with fail
    refine (newIroning_0 x A n c _).mono ?_
    rintro o w4 ⟨rfl, hb4⟩
    have S4 := Lib.hid (S3.out.next hb4)
    obtain ⟨G, hG⟩ : ∃ G, G = w4.heap.size := ⟨_, rfl⟩
    obtain ⟨w5, hw5⟩ : ∃ u, u = (w4.alloc (.cells #[.int .i8 x.up, .int .i8 x.down, .slice A n c, .func (.func 120) #[] #[]] 89)).alloc (.cells (strCs zeroR) 76) := ⟨_, rfl⟩
    have R5 : Hid (NRS x A n c (.func (.func 120) #[] #[]) G (strOf (nearO x ps 0) (runs x 0 ps (nearO x ps 0))) w w5) := Lib.hid (by
      have h1 : strOf (nearO x ps 0) (runs x 0 ps (nearO x ps 0)) = zeroR := strOf_zero
      rw [h1, hw5, hG]
      exact NRS.new S4.out.b S4.out.z _ _)
    have HG := Lib.hid hG.symm
    have HW := Lib.hid hw5
    clear c0 c1 hb4 hG hw5
    go_wp2_with (first | (rw [← HW.out, HG.out]) | fail)
    go_loopg [26] n (fun gk _ wr => ∃ r : Nat, r + gk = n ∧ NRS x A n c (.func (.func 120) #[] #[]) G (strOf (nearO x ps r) (runs x 0 ps (nearO x ps r))) w wr)
    case atStart => exact ⟨0, by omega, R5.out⟩
    case round =>
      clear R5 HW S4
      obtain ⟨r, hrg, hS⟩ := hrel
      have NO := Lib.hid (near_ok x ps r (by have := En.out; omega))
      have c8 : wr.cell? ⟨G + 1, 8, none⟩ = some (.int .i64 (r : Int)) := by
        have := hS.s.cell 8 (by decide)
        rw [Nat.zero_add, cellR_8, strOf_8, NO.out.len] at this
        exact this
      have g0 := hS.g0
      have g1 := hS.g1
      have g2 := hS.g2
      have g3 := hS.g3
      have HS := Lib.hid hS
      clear hS
      cases gk with
      | zero =>
        obtain rfl : r = n := by omega
        have HT := Lib.hid (fun u => indices_any (nearO x ps r) (by rw [NO.out.len]; omega) (fun i hi => by have := NO.out.rng i hi; have := En.out; omega) (runs x 0 ps (nearO x ps r)) u)
        clear c8 g0 g1 g2 g3 hrg
        have c8 : wr.cell? ⟨G + 1, 8, none⟩ = some (.int .i64 (r : Int)) := by
          have := HS.out.s.cell 8 (by decide)
          rw [Nat.zero_add, cellR_8, strOf_8, NO.out.len] at this
          exact this
        go_wp2_with (first | (refine wpl_load_str rfl (.tmp 8) rfl (G + 1) 0 rfl HS.out.s.toRowAt ?_) | fail)
        refine (HT.out _).mono ?_
        rintro o w6 ⟨v, rfl, hP6, hb6⟩
        have S6 := Lib.hid (HS.out.next hb6)
        have hz6 := HS.out.s.lt
        have hzG := HS.out.z
        rw [HZ.out] at hP6
        have HP6 := Lib.hid hP6
        clear hP6 hb6 c8
        go_wp2_with fail
        go_ret2
        exact ⟨_, rfl, owns_below HP6.out (by omega), S6.out.b⟩
      | succ gk =>
        have hlt : r < n := by omega
        obtain ⟨j, hj, hjl, hjn, hstep, _⟩ := near_step NO.out (by have := En.out; omega)
        obtain ⟨os, hos⟩ : ∃ os, nearO x ps r = os := ⟨_, rfl⟩
        have OK : Hid ((runs x 0 ps os).Ok r) := Lib.hid (by
          have := runs_ok 0 HV.out HP.out (os := os) r (by rw [← hos, NO.out.len]; exact Nat.le_refl _) (by omega)
          rwa [List.take_of_length_le (by rw [← hos, NO.out.len]; exact Nat.le_refl _)] at this)
        rw [hos] at hj hjn hstep NO HS
        have HNX : Hid (strOf (os ++ [(j : Int)]) ((runs x 0 ps os).step x 0 (ptv ps (j : Int))) = strOf (nearO x ps (r + 1)) (runs x 0 ps (nearO x ps (r + 1)))) := Lib.hid (by rw [hstep, runs_snoc])
        have HMN : Hid (minO (lonK x 0 ps os (runs x 0 ps os) n) = some (strOf (nearO x ps (r + 1)) (runs x 0 ps (nearO x ps (r + 1))))) := Lib.hid (by rw [minO_lon, En.out, hj, ← HNX.out]; rfl)
        have HT := Lib.hid (longer_0 x HV.out A n c ps En.out h8 HP.out os (by rw [NO.out.len]; omega) (fun i _ _ => by rw [NO.out.len]; omega) (runs x 0 ps os) (by rw [NO.out.len]; exact OK.out) wr ((hg.below HS.out.b).more HS.out.b.size))
        obtain ⟨L, hL⟩ : ∃ L, lonK x 0 ps os (runs x 0 ps os) n = L := ⟨_, rfl⟩
        have hLl := lonK_len x 0 ps os (runs x 0 ps os) n
        obtain ⟨f2, hf2⟩ : ∃ f, strOf (nearO x ps (r + 1)) (runs x 0 ps (nearO x ps (r + 1))) = f := ⟨_, rfl⟩
        rw [hL] at HT HMN hLl
        rw [hf2] at HMN
        have HF2 := Lib.hid hf2
        have hzG := HS.out.z
        have hsl := HS.out.s.lt
        clear hj hjn hjl hstep hos hL hf2 HNX
        go_wp2_with (first | (refine wpl_load_str rfl (.tmp 8) rfl (G + 1) 0 rfl HS.out.s.toRowAt ?_) | fail)
        refine HT.out.mono ?_
        rintro o w6 ⟨v, rfl, hP6, hb6⟩
        have S6 := Lib.hid (HS.out.next hb6)
        rcases hP6.2 with ⟨_, h0⟩ | ⟨g, cap, cur, rfl, hg6, _⟩
        · have := HMN.out
          rw [List.length_eq_zero_iff.1 h0] at this
          cases this
        have HP6 := Lib.hid hP6
        have hL0 : 0 < L.length := by
          rcases L with _ | ⟨q, l⟩
          · have := HMN.out; cases this
          · simp
        clear hP6 hb6 HT c8 g0 g1 g2 g3
        go_wp2_with fail
        refine (minFunc_any wr.heap.size g L.length cap L rfl hL0 (by omega) f2 HMN.out _ HP6.out).mono ?_
        rintro o w7 ⟨rfl, hb7⟩
        have S7 := Lib.hid (S6.out.next hb7)
        clear hb7
        go_wp2_with (first | (refine wpl_store_str rfl (.tmp 8) (.tmp 30) rfl (G + 1) 0 rfl rfl S7.out.s ?_) | fail)
        go_roundg gk
        case rel => exact ⟨r + 1, by omega, by rw [HF2.out]; exact S7.out.store f2⟩
        case measure => omega
  | succ i =>
    obtain ⟨rfl, rfl⟩ := near_no HR.out hc
    have hi := codeIr_le x ps
    rw [hc] at hi
    rw [show errOf e (i + 1) = errV (e i) from rfl]
    have HQ := Lib.hid (codeOf_any H3.out (i + 1) (by omega))
    rw [show errOf e (i + 1) = errV (e i) from rfl] at HQ
    clear hc hi
    go_wp2_with fail
    refine HQ.out.mono ?_
    rintro o w4 ⟨rfl, rfl⟩
    go_wp2_with fail
    go_ret2
    exact ⟨_, rfl, World.ownsRow_nil _ _ _ _, S3.out.b⟩
end Go.Proofs.YtajhdgoinghmmaaDoor.iron

/-
  NearestOrder, the model's.
-/
namespace Go.Proofs.YtajhdgoinghmmaaDoor.iron
open Go Go.RowKit sl stk errs row fold ins

/-- how long a piece takes that is taken next -/
def byP (x : Iro) (ps : List Pie) (s : Sta) (k : Nat) : Int := chg x s.lev (ptv ps k).lev + (ptv ps k).mins
theorem nxt_by (x : Iro) (ps : List Pie) (s : Sta) (k : Nat) : nxt x ps s k = s.at_ + byP x ps s k := by
  unfold nxt byP Sta.step
  simp only
  omega
def bstI : Option Nat → Int
  | none => -1
  | some j => j
def lstI (x : Iro) (ps : List Pie) (s : Sta) : Option Nat → Int
  | none => 0
  | some j => byP x ps s j
theorem pick_in {x : Iro} {ps : List Pie} {os : List Int} {s : Sta} {k : Nat} (h : (k : Int) ∈ os) : pickK x ps os s (k + 1) = pickK x ps os s k := by rw [pickK, if_pos h]
theorem pick_none {x : Iro} {ps : List Pie} {os : List Int} {s : Sta} {k : Nat} (h : (k : Int) ∉ os) (hn : pickK x ps os s k = none) : pickK x ps os s (k + 1) = some k := by rw [pickK, if_neg h, hn]
theorem pick_less {x : Iro} {ps : List Pie} {os : List Int} {s : Sta} {k j : Nat} (h : (k : Int) ∉ os) (hn : pickK x ps os s k = some j) (hl : byP x ps s k < byP x ps s j) : pickK x ps os s (k + 1) = some k := by
  rw [pickK, if_neg h, hn]
  simp only
  rw [if_pos (by rw [nxt_by, nxt_by]; omega)]
theorem pick_more {x : Iro} {ps : List Pie} {os : List Int} {s : Sta} {k j : Nat} (h : (k : Int) ∉ os) (hn : pickK x ps os s k = some j) (hl : ¬ byP x ps s k < byP x ps s j) : pickK x ps os s (k + 1) = some j := by
  rw [pickK, if_neg h, hn]
  simp only
  rw [if_neg (by rw [nxt_by, nxt_by]; omega)]
abbrev TN (x : Iro) (y : Pie) (p : Addr) (w u : World) : Prop := u.cell? ⟨w.heap.size, 0, none⟩ = some (.int .i8 x.up) ∧ u.cell? ⟨w.heap.size, 1, none⟩ = some (.int .i8 x.down) ∧ u.cell? p = some (.int .i8 y.lev) ∧ u.cell? ⟨p.block, p.off + 1, none⟩ = some (.int .i8 y.mins)
theorem TN.next {x : Iro} {y : Pie} {p : Addr} {w u v : World} (h : TN x y p w u) (hz : w.heap.size < u.heap.size) (hp : p.block < u.heap.size) (hb : Below u.heap.size u v) : TN x y p w v :=
  ⟨(hb.cell (p := ⟨_, 0, none⟩) hz).trans h.1, (hb.cell (p := ⟨_, 1, none⟩) hz).trans h.2.1, (hb.cell (p := p) hp).trans h.2.2.1, (hb.cell (p := ⟨p.block, p.off + 1, none⟩) hp).trans h.2.2.2⟩
set_option maxRecDepth 100000 in
set_option maxHeartbeats 8000000 in
theorem NearestOrder_spec (x : Iro) (hx : x.Fits) (A : Option Addr) (n c : Nat) (ps : List Pie) (en : n = ps.length) (hn : n ≤ 1048576) (hf : ∀ p ∈ ps, p.Fits) (ys : List Int) (r1 : Nat) (hr : nearR x ps = (ys, r1)) (w : World) (hg : Sl Pie.cells 3 w w.heap.size A ps) :
    Calls Tryd.prog 40 #[x.v, .slice A n c] w fun o w' => ∃ v, o = .returned (.tuple #[v, .int .i64 r1]) ∧ w'.ownsRow w.heap.size 2 1 v ys.length (ys.flatMap intS.C) ∧ Below w.heap.size w w' := by
  obtain ⟨k0, hk0⟩ : ∃ k : Nat, k = codeIr x ps := ⟨_, rfl⟩
  have HK0 := Lib.hid hk0
  have HR := Lib.hid hr
  have En := Lib.hid en
  have HFT := Lib.hid hf
  obtain ⟨i0, hI, hz0, hz1, hz2⟩ := info_parts intS.info
  have S0 := Lib.hid (HotS.new x w 27)
  have e0 : (w.alloc (.cells #[.int .i8 x.up, .int .i8 x.down] 27)).heap.size = w.heap.size + 1 := by simp
  obtain ⟨u0, hu0⟩ : ∃ u, u = (w.alloc (.cells #[.int .i8 x.up, .int .i8 x.down] 27)).alloc (.cells #[] 2) := ⟨_, rfl⟩
  have HN0 : Hid (u0.ownsRow (w.heap.size + 1) 2 1 (.slice (some ⟨w.heap.size + 1, 0, none⟩) 0 0) 0 (([] : List Int).flatMap intS.C)) := Lib.hid (by
    have := own_noI (u := w.alloc (.cells #[.int .i8 x.up, .int .i8 x.down] 27)) (b := w.heap.size + 1) (by rw [e0]; exact Nat.le_refl _)
    rw [e0] at this
    rw [hu0]
    exact this)
  have S1 : Hid (HotS x w u0) := Lib.hid (by rw [hu0]; exact S0.out.next ((Below.refl _ _).alloc (Nat.le_refl _) _))
  have HU := Lib.hid hu0
  have c0 := S1.out.c0
  have c1 := S1.out.c1
  clear hk0 hr en hf hu0 e0 S0
  go_enter Tryd.func40, Tryd.ntmps40
  go_wp2_with (first | (rw [← HU.out]) | fail)
  refine (l07Asked_any x hx A n c ps En.out hn HFT.out _ ((hg.below S1.out.b).more S1.out.b.size) k0 HK0.out).mono ?_
  rintro o w1 ⟨rfl, hb1⟩
  have S2 := Lib.hid (S1.out.next hb1)
  have HN1 := Lib.hid (owns_next HN0.out hb1)
  clear c0 c1 hb1 S1 HN0 HU
  cases hc : codeIr x ps with
  | succ i =>
    obtain ⟨rfl, rfl⟩ := near_no HR.out hc
    obtain rfl : k0 = i + 1 := HK0.out.trans hc
    have hne : (((i + 1 : Nat) : Int) != 0) = true := by rw [bne_iff_ne]; omega
    have hne2 : (((i : Int) + 1) != 0) = true := by rw [bne_iff_ne]; omega
    clear hc
    go_wp2_with fail
    go_ret2
    exact ⟨_, by first | (simp; done) | (simp; rfl), owns_below HN1.out (by omega), S2.out.b⟩
  | zero =>
    have HC := Lib.hid hc
    obtain ⟨hv, hp, h8⟩ := codeIr_zero HC.out
    rw [← En.out] at h8
    have HV := Lib.hid hv
    have HP := Lib.hid hp
    obtain rfl : k0 = 0 := HK0.out.trans hc
    clear hv hp hc
    obtain ⟨hz, rfl⟩ := near_yes HR.out HC.out
    rw [← En.out] at hz
    have HZ := Lib.hid hz
    clear hz
    rw [show (((0 : Nat) : Int)) = 0 from rfl]
    have HN2 : Hid (w1.ownsRow (w.heap.size + 1) 2 1 (.slice (some ⟨w.heap.size + 1, 0, none⟩) 0 0) 0 ((nearO x ps 0).flatMap intS.C)) := HN1
    go_wp2_with fail
    go_loopg [6, 8, 9, 10, 11, 12] n (fun gk vo vl _ _ _ _ wr => ∃ r : Nat, r + gk = n ∧ vl = .int .i64 (runs x 0 ps (nearO x ps r)).lev ∧ wr.ownsRow (w.heap.size + 1) 2 1 vo r ((nearO x ps r).flatMap intS.C) ∧ HotS x w wr)
    case atStart => exact ⟨0, by omega, rfl, HN2.out, S2.out⟩
    case round =>
      clear HN2 HN1 S2
      obtain ⟨r, hrg, rfl, hP, hS⟩ := hrel
      have HPr := Lib.hid hP
      have HS := Lib.hid hS
      obtain ⟨Ao, co, rfl, _⟩ := owns_slice hP
      clear hP hS
      have NO := Lib.hid (near_ok x ps r (by have := En.out; omega))
      cases gk with
      | zero =>
        obtain rfl : r = n := by omega
        rw [HZ.out] at HPr
        have HL : Hid (ys.length = r) := Lib.hid (by rw [← HZ.out]; exact NO.out.len)
        go_wp2_with fail
        go_ret2
        exact ⟨_, rfl, by rw [HL.out]; exact owns_below HPr.out (by omega), HS.out.b⟩
      | succ go =>
        have hlt : r < n := by omega
        obtain ⟨j, hj, hjl, hjn, hstep, _⟩ := near_step NO.out (by have := En.out; omega)
        rw [← En.out] at hj hjl
        obtain ⟨os, hos⟩ : ∃ os, nearO x ps r = os := ⟨_, rfl⟩
        have OK : Hid ((runs x 0 ps os).Ok r) := Lib.hid (by
          have := runs_ok 0 HV.out HP.out (os := os) r (by rw [← hos, NO.out.len]; exact Nat.le_refl _) (by omega)
          rwa [List.take_of_length_le (by rw [← hos, NO.out.len]; exact Nat.le_refl _)] at this)
        rw [hos] at hj hjn hstep NO HPr ⊢
        have hlv : (runs x 0 ps (nearO x ps (r + 1))).lev = (ptv ps j).lev := by rw [hstep, runs_snoc]; rfl
        obtain ⟨s, hs⟩ : ∃ s, runs x 0 ps os = s := ⟨_, rfl⟩
        rw [hs] at hj OK ⊢
        have HLV := Lib.hid hlv
        have HST := Lib.hid hstep
        have HJ := Lib.hid hj
        have hs0 := OK.out.l0
        have hs3 := OK.out.l3
        have hol := NO.out.len
        clear hj hjn hstep hos hs hlv
        go_wp2_with fail
        go_loopg [11, 9, 10, 12] n (fun gi vk vb vt _ wr => ∃ k : Nat, k + gi = n ∧ vk = .int .i64 k ∧ vb = .int .i64 (bstI (pickK x ps os s k)) ∧ vt = .int .i64 (lstI x ps s (pickK x ps os s k)) ∧ wr.ownsRow (w.heap.size + 1) 2 1 (.slice Ao r co) r (os.flatMap intS.C) ∧ HotS x w wr)
        case atStart => exact ⟨0, by omega, rfl, rfl, rfl, HPr.out, HS.out⟩
        case round =>
          clear HPr HS
          obtain ⟨k, hkg, rfl, rfl, rfl, hP, hS⟩ := hrel
          have HPk := Lib.hid hP
          have HSk := Lib.hid hS
          clear hP hS
          cases gk with
          | zero =>
            obtain rfl : k = n := by omega
            have HBJ : Hid (bstI (pickK x ps os s k) = (j : Int)) := Lib.hid (by rw [HJ.out]; rfl)
            rw [HBJ.out]
            obtain ⟨y, hy⟩ : ∃ y, ps[j]? = some y := ⟨ps[j]'(by have := En.out; omega), List.getElem?_eq_getElem _⟩
            have HYL : Hid ((runs x 0 ps (nearO x ps (r + 1))).lev = y.lev) := Lib.hid (by rw [HLV.out, ptv_at hy])
            have HY := Lib.hid hy
            obtain ⟨⟨y0, y1⟩, _, _⟩ := pieB_iff.1 (List.all_eq_true.1 HP.out _ (List.mem_of_getElem? hy))
            have x4 : (0 : Int) ≤ (j : Int) := by omega
            have x5 : (j : Int) < (k : Int) := by omega
            have w4 : IntKind.i64.wrap y.lev = y.lev := IntWalk.i64_in _ (by omega)
            clear hy
            go_wp2_with (first | (at_builtin; refine wpList_append_own _ rfl (.tmp 63) (.tmp 65) 31 rfl (w.heap.size + 1) 2 i0 (.int .i64 0) 1 8 Tryd.underlying31 hI hz0 hz1 hz2 rfl (by decide) _ _ _ rfl (HPk.out.alloc _) ⟨_, 0, none⟩ 1 1 [.int .i64 (j : Int)] rfl rfl (one_newB _ _ _ _ (by simp)) (one_cellI (by rfl)) (by unfold maxLen; omega) (by omega) (by have := HSk.out.z; simp; omega) ?_; intro v3 w5 hP5 hgr _; have S5 := Lib.hid (((HSk.out.next ((Below.refl _ _).alloc (Nat.le_refl _) (.cells #[.int .i64 (j : Int)] 2))).grow hgr (fun g hg => (HPk.out.lt g hg).1))); have HP5 := Lib.hid hP5; clear hP5 hgr; obtain ⟨a, rfl, hab, hat⟩ := (hg.below S5.out.b).at_ j y HY.out; have q0 := (pieS.at_ hat).1; clear hat) | fail)
            go_roundg go
            case rel => exact ⟨r + 1, by omega, by rw [HYL.out], by rw [HST.out, flat_snoc]; exact HP5.out, S5.out⟩
            case measure => omega
          | succ gi =>
            have hkn : k < n := by omega
            obtain ⟨y, hy⟩ : ∃ y, ps[k]? = some y := ⟨ps[k]'(by have := En.out; omega), List.getElem?_eq_getElem _⟩
            have hyv := List.all_eq_true.1 HP.out _ (List.mem_of_getElem? hy)
            obtain ⟨⟨y0, y1⟩, ⟨y2, y3⟩, y4, y5⟩ := pieB_iff.1 hyv
            obtain ⟨cz, hcz⟩ : ∃ z, chg x s.lev y.lev = z := ⟨_, rfl⟩
            have hcb := chg_bd (x := x) (a := s.lev) (b := y.lev) HV.out hs0 hs3 (by omega) y1
            rw [hcz] at hcb
            obtain ⟨hc0, hc1⟩ := hcb
            obtain ⟨t, ht⟩ : ∃ t, t = cz + y.mins := ⟨_, rfl⟩
            have HBY : Hid (byP x ps s k = t) := Lib.hid (by unfold byP; rw [ptv_at hy, hcz, ht])
            have CZ := Lib.hid hcz
            have HT := Lib.hid ht
            obtain ⟨a, rfl, hab, hat⟩ := (hg.below HSk.out.b).at_ k y hy
            obtain ⟨p0, p1, _⟩ := pieS.at_ hat
            have hwz := HSk.out.z
            have HT2 : Hid (TN x y (a.add (k * 3)) w wr) := Lib.hid ⟨HSk.out.c0, HSk.out.c1, p0, p1⟩
            have hap : (a.add (k * 3)).block < wr.heap.size := by rw [block_add]; omega
            have x4 : (0 : Int) ≤ (k : Int) := by omega
            have x5 : (k : Int) < (n : Int) := by omega
            have w3 : IntKind.i64.wrap y.mins = y.mins := IntWalk.i64_in _ (by omega)
            have w4 : IntKind.i64.wrap y.lev = y.lev := IntWalk.i64_in _ (by omega)
            clear hy hyv hcz ht hat p0 p1
            go_wp2_with fail
            refine wp_region_held_drew (S := TN x y (a.add (k * 3)) w) (by kernel_rfl) (HT2.out.next hwz hap (Below.refl _ _).drew) (fun hHeld => ?_)
            have S3 := Lib.hid (HSk.out.next (Below.refl _ _).drew)
            have HP3 := Lib.hid (owns_next HPk.out (Below.refl _ _).drew)
            have hap3 : (a.add (k * 3)).block < wr.drew.heap.size := hap
            generalize wr.drew = v0 at S3 HP3 hHeld hap3 ⊢
            clear HT2 HSk HPk
            refine wpAnyH_take (i := 0) (v := ?_) rfl (by kernel_rfl) (by kernel_rfl) (by kernel_rfl) (fun _ _ _ h => h) (Or.inl ⟨by rfl, ?_⟩) (by assumption) ?_
            rotate_left
            · intro u hSu
              (try dsimp only at hSu)
              first | (go_simp; done) | (go_simp; with_reducible rfl)
            try simp only [Act.put, List.getElem_toArray, List.getElem_cons_zero, List.getElem_cons_succ, List.setIfInBounds_toArray, List.set_cons_zero, List.set_cons_succ]
            refine wpAnyH_take (i := 1) (v := ?_) rfl (by kernel_rfl) (by kernel_rfl) (by kernel_rfl) (fun _ _ _ h => h) (Or.inl ⟨by rfl, ?_⟩) (by assumption) ?_
            rotate_left
            · intro u hSu
              (try dsimp only at hSu)
              first | (go_simp; done) | (go_simp; with_reducible rfl)
            try simp only [Act.put, List.getElem_toArray, List.getElem_cons_zero, List.getElem_cons_succ, List.setIfInBounds_toArray, List.set_cons_zero, List.set_cons_succ]
            refine wpAnyH_take (i := 2) (v := ?_) rfl (by kernel_rfl) (by kernel_rfl) (by kernel_rfl) (fun _ _ _ h => h) (Or.inl ⟨by rfl, ?_⟩) (by assumption) ?_
            rotate_left
            · intro u hSu
              (try dsimp only at hSu)
              first | (go_simp; done) | (go_simp; with_reducible rfl)
            try simp only [Act.put, List.getElem_toArray, List.getElem_cons_zero, List.getElem_cons_succ, List.setIfInBounds_toArray, List.set_cons_zero, List.set_cons_succ]
            refine wpAnyH_take (i := 3) (v := ?_) rfl (by kernel_rfl) (by kernel_rfl) (by kernel_rfl) (fun _ _ _ h => h) (Or.inl ⟨by rfl, ?_⟩) (by assumption) ?_
            rotate_left
            · intro u hSu
              (try dsimp only at hSu)
              first | (go_simp; done) | (go_simp; with_reducible rfl)
            try simp only [Act.put, List.getElem_toArray, List.getElem_cons_zero, List.getElem_cons_succ, List.setIfInBounds_toArray, List.set_cons_zero, List.set_cons_succ]
            refine wpAnyH_take (i := 4) (v := ?_) rfl (by kernel_rfl) (by kernel_rfl) (by kernel_rfl) (fun _ _ _ h => h) (Or.inl ⟨by rfl, ?_⟩) (by assumption) ?_
            rotate_left
            · intro u hSu
              (try dsimp only at hSu)
              first | (go_simp; done) | (go_simp; with_reducible rfl)
            try simp only [Act.put, List.getElem_toArray, List.getElem_cons_zero, List.getElem_cons_succ, List.setIfInBounds_toArray, List.set_cons_zero, List.set_cons_succ]
            refine wpAnyH_take (i := 5) (v := ?_) rfl (by kernel_rfl) (by kernel_rfl) (by kernel_rfl) (fun _ _ _ h => h) (Or.inl ⟨by rfl, ?_⟩) (by assumption) ?_
            rotate_left
            · intro u hSu
              (try dsimp only at hSu)
              first | (go_simp; done) | (go_simp; with_reducible rfl)
            try simp only [Act.put, List.getElem_toArray, List.getElem_cons_zero, List.getElem_cons_succ, List.setIfInBounds_toArray, List.set_cons_zero, List.set_cons_succ]
            refine wpAnyH_take (i := 6) (v := ?_) rfl (by kernel_rfl) (by kernel_rfl) (by kernel_rfl) (fun _ _ _ h => h) (Or.inl ⟨by rfl, ?_⟩) (by assumption) ?_
            rotate_left
            · intro u hSu
              (try dsimp only at hSu)
              first | (go_simp; done) | (go_simp; with_reducible rfl)
            try simp only [Act.put, List.getElem_toArray, List.getElem_cons_zero, List.getElem_cons_succ, List.setIfInBounds_toArray, List.set_cons_zero, List.set_cons_succ]
            refine wpAnyH_take (i := 7) (v := ?_) rfl (by kernel_rfl) (by kernel_rfl) (by kernel_rfl) (fun _ _ _ h => h) (Or.inl ⟨by rfl, ?_⟩) (by assumption) ?_
            rotate_left
            · intro u hSu
              (try dsimp only at hSu)
              first | (go_simp; done) | (go_simp; with_reducible rfl)
            try simp only [Act.put, List.getElem_toArray, List.getElem_cons_zero, List.getElem_cons_succ, List.setIfInBounds_toArray, List.set_cons_zero, List.set_cons_succ]
            refine wpAnyH_take (i := 9) (v := ?_) rfl (by kernel_rfl) (by kernel_rfl) (by kernel_rfl) (fun _ _ _ h => h) (Or.inl ⟨by rfl, ?_⟩) (by assumption) ?_
            rotate_left
            · intro u hSu
              (try dsimp only at hSu)
              first | (go_simp; done) | (go_simp; with_reducible rfl)
            try simp only [Act.put, List.getElem_toArray, List.getElem_cons_zero, List.getElem_cons_succ, List.setIfInBounds_toArray, List.set_cons_zero, List.set_cons_succ]
            refine wpAnyH_take (i := 10) (v := ?_) rfl (by kernel_rfl) (by kernel_rfl) (by kernel_rfl) (fun _ _ _ h => h) (Or.inl ⟨by rfl, ?_⟩) (by assumption) ?_
            rotate_left
            · intro u hSu
              (try dsimp only at hSu)
              first | (go_simp; done) | (go_simp; with_reducible rfl)
            try simp only [Act.put, List.getElem_toArray, List.getElem_cons_zero, List.getElem_cons_succ, List.setIfInBounds_toArray, List.set_cons_zero, List.set_cons_succ]
            refine wpAnyH_take (i := 11) (v := ?_) rfl (by kernel_rfl) (by kernel_rfl) (by kernel_rfl) (fun _ _ _ h => h) (Or.inl ⟨by rfl, ?_⟩) (by assumption) ?_
            rotate_left
            · intro u hSu
              (try dsimp only at hSu)
              first | (go_simp; done) | (go_simp; with_reducible rfl)
            try simp only [Act.put, List.getElem_toArray, List.getElem_cons_zero, List.getElem_cons_succ, List.setIfInBounds_toArray, List.set_cons_zero, List.set_cons_succ]
            refine wpAnyH_take (i := 12) (v := ?_) rfl (by kernel_rfl) (by kernel_rfl) (by kernel_rfl) (fun _ _ _ h => h) (Or.inl ⟨by rfl, ?_⟩) (by assumption) ?_
            rotate_left
            · intro u hSu
              (try dsimp only at hSu)
              first | (go_simp; done) | (go_simp; with_reducible rfl)
            try simp only [Act.put, List.getElem_toArray, List.getElem_cons_zero, List.getElem_cons_succ, List.setIfInBounds_toArray, List.set_cons_zero, List.set_cons_succ]
            refine wpAnyH_take (i := 13) (v := ?_) rfl (by kernel_rfl) (by kernel_rfl) (by kernel_rfl) (fun _ _ _ h => h) (Or.inl ⟨by rfl, ?_⟩) (by assumption) ?_
            rotate_left
            · intro u hSu
              (try dsimp only at hSu)
              first | (go_simp; done) | (go_simp; with_reducible rfl)
            try simp only [Act.put, List.getElem_toArray, List.getElem_cons_zero, List.getElem_cons_succ, List.setIfInBounds_toArray, List.set_cons_zero, List.set_cons_succ]
            refine wpAnyH_take (i := 14) (v := ?_) rfl (by kernel_rfl) (by kernel_rfl) (by kernel_rfl) (fun _ _ _ h => h) (Or.inl ⟨by rfl, ?_⟩) (by assumption) ?_
            rotate_left
            · intro u hSu
              (try dsimp only at hSu)
              first | (go_simp; done) | (go_simp; with_reducible rfl)
            try simp only [Act.put, List.getElem_toArray, List.getElem_cons_zero, List.getElem_cons_succ, List.setIfInBounds_toArray, List.set_cons_zero, List.set_cons_succ]
            clear w3 w4
            refine wpAnyH_ready (rs := [8]) (by kernel_rfl) (by simp) ?_
            refine AllReadyH.cons rfl (fun K hK => ?_) AllReadyH.nil
            go_simp
            refine (l07Change_any x HV.out s.lev y.lev hs0 hs3 (by omega) y1 _ CZ.out _).mono ?_
            rintro o v1 ⟨rfl, hb1⟩
            have S4 := Lib.hid (S3.out.next hb1)
            have HP4 := Lib.hid (owns_next HP3.out hb1)
            have hh := hHeld.next S3.out.z hap3 hb1
            clear hb1 S3 HP3
            refine hK.out _ _ (hh) (fun hHeld2 => ?_)
            clear hK K hHeld
            have hHeld := hHeld2
            clear hHeld2
            try simp only [Act.put, List.getElem_toArray, List.getElem_cons_zero, List.getElem_cons_succ, List.setIfInBounds_toArray, List.set_cons_zero, List.set_cons_succ]
            clear hh
            have w1 : IntKind.i64.wrap (cz + y.mins) = t := by rw [HT.out]; exact IntWalk.i64_in _ (by omega)
            refine wpAnyH_take (i := 15) (v := ?_) rfl (by kernel_rfl) (by kernel_rfl) (by kernel_rfl) (fun _ _ _ h => h) (Or.inl ⟨by rfl, ?_⟩) (by assumption) ?_
            rotate_left
            · intro u hSu
              (try dsimp only at hSu)
              first | (go_simp; done) | (go_simp; with_reducible rfl)
            try simp only [Act.put, List.getElem_toArray, List.getElem_cons_zero, List.getElem_cons_succ, List.setIfInBounds_toArray, List.set_cons_zero, List.set_cons_succ]
            clear w1
            refine wpAnyH_take (i := 16) (v := ?_) rfl (by kernel_rfl) (by kernel_rfl) (by kernel_rfl) (fun _ _ _ h => h) (Or.inl ⟨by rfl, ?_⟩) (by assumption) ?_
            rotate_left
            · intro u hSu
              (try dsimp only at hSu)
              first | (go_simp; done) | (go_simp; with_reducible rfl)
            try simp only [Act.put, List.getElem_toArray, List.getElem_cons_zero, List.getElem_cons_succ, List.setIfInBounds_toArray, List.set_cons_zero, List.set_cons_succ]
            refine wpAnyH_done (by kernel_rfl) ?_ _
            clear hHeld
            have HO := Lib.hid (Sl.of_owns HP4.out (intS.len _) (by decide))
            by_cases hin : (k : Int) ∈ os
            · have HPI := Lib.hid (pick_in (x := x) (ps := ps) (s := s) hin)
              have HQ := Lib.hid (l00Has_v Ao r co os hol.symm (by omega) (k : Int) true (by simp [hin]) v1 _ HO.out)
              go_wp2_with fail
              refine HQ.out.mono ?_
              rintro o w5 ⟨rfl, rfl⟩
              go_wp2_with fail
              go_roundg gi
              case rel => exact ⟨k + 1, by omega, by go_num, by rw [HPI.out], by rw [HPI.out], HP4.out, S4.out⟩
              case measure => omega
            · have HQ := Lib.hid (l00Has_v Ao r co os hol.symm (by omega) (k : Int) false (by simp [hin]) v1 _ HO.out)
              cases hpk : pickK x ps os s k with
              | none =>
                have HPI := Lib.hid (pick_none hin hpk)
                rw [show bstI none = -1 from rfl, show lstI x ps s none = 0 from rfl]
                go_wp2_with fail
                refine HQ.out.mono ?_
                rintro o w5 ⟨rfl, rfl⟩
                go_wp2_with fail
                go_roundg gi
                case rel => exact ⟨k + 1, by omega, by go_num, by rw [HPI.out]; rfl, by rw [HPI.out]; exact congrArg _ HBY.out.symm, HP4.out, S4.out⟩
                case measure => omega
              | some jj =>
                have HJB : Hid (byP x ps s jj = byP x ps s jj) := Lib.hid rfl
                obtain ⟨tj, htj⟩ : ∃ z, byP x ps s jj = z := ⟨_, rfl⟩
                rw [show bstI (some jj) = (jj : Int) from rfl, show lstI x ps s (some jj) = tj from htj]
                have d0 : ¬ ((jj : Int) < 0) := by omega
                by_cases hl : t < tj
                · have HPI := Lib.hid (pick_less hin hpk (by rw [HBY.out, htj]; exact hl))
                  go_wp2_with fail
                  refine HQ.out.mono ?_
                  rintro o w5 ⟨rfl, rfl⟩
                  go_wp2_with fail
                  go_roundg gi
                  case rel => exact ⟨k + 1, by omega, by go_num, by rw [HPI.out]; rfl, by rw [HPI.out]; exact congrArg _ HBY.out.symm, HP4.out, S4.out⟩
                  case measure => omega
                · have HPI := Lib.hid (pick_more hin hpk (by rw [HBY.out, htj]; exact hl))
                  go_wp2_with fail
                  refine HQ.out.mono ?_
                  rintro o w5 ⟨rfl, rfl⟩
                  go_wp2_with fail
                  go_roundg gi
                  case rel => exact ⟨k + 1, by omega, by go_num, by rw [HPI.out]; rfl, by rw [HPI.out]; exact congrArg _ htj.symm, HP4.out, S4.out⟩
                  case measure => omega
end Go.Proofs.YtajhdgoinghmmaaDoor.iron
