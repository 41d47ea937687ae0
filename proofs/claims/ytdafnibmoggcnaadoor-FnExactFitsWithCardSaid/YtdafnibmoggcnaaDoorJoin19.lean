/-
  Several texts of this proof, joined.
-/
import Derived.Test.YtdafnibmoggcnaaDoorMembers
import Derived.Test.YtdafnibmoggcnaaDoorJoin18
import Derived.RangeFuncBox
import Derived.Laws.BitsAllLaws
import Derived.Test.YtdafnibmoggcnaaDoorMapKey
import Derived.Maps.OwnSet
import Derived.Maps.OwnOps
import Derived.Test.YtdafnibmoggcnaaDoorJoin12
import Derived.Test.YtdafnibmoggcnaaDoorJoin13
import Derived.RegionTactic
import Derived.ChangeAlike
import Derived.Outline
import Derived.IntWalk
/-
  A basket: what the sets of its garments weigh.
-/
namespace Go.Proofs.YtdafnibmoggcnaaDoor.mem
open Go Go.RowKit Go.Shelf errs garS
attribute [local go_sem] Oper.semAt_some

abbrev eightV (m : Nat → Int) : Value := .agg #[.int .u8 (m 0), .int .u8 (m 1), .int .u8 (m 2), .int .u8 (m 3), .int .u8 (m 4), .int .u8 (m 5), .int .u8 (m 6), .int .u8 (m 7)]
abbrev eightC (m : Nat → Int) : List Value := [.int .u8 (m 0), .int .u8 (m 1), .int .u8 (m 2), .int .u8 (m 3), .int .u8 (m 4), .int .u8 (m 5), .int .u8 (m 6), .int .u8 (m 7)]
/-- a basket -/
abbrev bV (A : Option Addr) (n c : Nat) (m : Nat → Int) (hold : Int) : Value := .agg #[.slice A n c, .int .u8 (m 0), .int .u8 (m 1), .int .u8 (m 2), .int .u8 (m 3), .int .u8 (m 4), .int .u8 (m 5), .int .u8 (m 6), .int .u8 (m 7), .int .i64 hold]
abbrev bC (A : Option Addr) (n c : Nat) (m : Nat → Int) (hold : Int) : Array Value := #[.slice A n c, .int .u8 (m 0), .int .u8 (m 1), .int .u8 (m 2), .int .u8 (m 3), .int .u8 (m 4), .int .u8 (m 5), .int .u8 (m 6), .int .u8 (m 7), .int .i64 hold]
/-- what one garment weighs -/
def wAt (gs : List Gar) (i : Nat) : Int := (gs[i]?.map (·.g)).getD 0
def wSum (gs : List Gar) (is : List Nat) : Int := is.foldl (fun s i => s + wAt gs i) 0
theorem wSum_snoc (gs : List Gar) (is : List Nat) (i : Nat) : wSum gs (is ++ [i]) = wSum gs is + wAt gs i := by simp [wSum]
theorem wSum_bound (gs : List Gar) (hf : ∀ x ∈ gs, x.Fits) (is : List Nat) : -32768 * (is.length : Int) ≤ wSum gs is ∧ wSum gs is ≤ 32768 * (is.length : Int) := by
  suffices h : ∀ (is : List Nat) (s : Int), s - 32768 * (is.length : Int) ≤ is.foldl (fun s i => s + wAt gs i) s ∧ is.foldl (fun s i => s + wAt gs i) s ≤ s + 32768 * (is.length : Int) by
    have := h is 0
    unfold wSum
    omega
  intro is
  induction is with
  | nil => intro s; simp
  | cons i is ih =>
    intro s
    have h1 := ih (s + wAt gs i)
    have h2 : -32768 ≤ wAt gs i ∧ wAt gs i ≤ 32767 := by
      unfold wAt
      cases hx : gs[i]? with
      | none => simp
      | some x =>
        have := hf x (List.mem_of_getElem? hx)
        obtain ⟨_, _, _, _, _, _, g0, g1⟩ := this
        simp
        omega
    have h3 : (((i :: is).length : Nat) : Int) = (is.length : Int) + 1 := by simp
    rw [List.foldl_cons, h3]
    omega

theorem kf_store (B : Nat) (W : World) (p : Addr) (v : Value) : KeepsFrom B W (W.setCell p v).drew := ((KeepsOthers.setCell W p v).trans (KeepsOthers.drew _)).from B
theorem kb_store {B : Nat} {a W : World} (h : Below B a W) (p : Addr) (v : Value) (hp : B ≤ p.block) : Below B a (W.setCell p v).drew := (h.setCell (p := p) hp v).drew
theorem fz_store (W : World) (p q : Addr) (v : Value) (h : W.frozen? q = false) : (W.setCell p v).drew.frozen? q = false := by rw [World.frozen?_drew, World.frozen?_setCell]; exact h
set_option maxRecDepth 100000 in
set_option maxHeartbeats 4000000 in
theorem weightOf_any (A : Option Addr) (n c : Nat) (gs : List Gar) (en : n = gs.length) (_hn : n ≤ 1048576) (m : Nat → Int) (hold : Int) (set : Nat) (hset : set < 256) (hin : ∀ i, i < 8 → set.testBit i = true → i < n) (w : World) (hg : GS w w.heap.size A gs) :
    Calls Tryd.prog 42 #[bV A n c m hold, .int .u8 set] w fun o w' => o = .returned (.int .i64 (wSum gs (memb set))) ∧ Below w.heap.size w w' := by
  have En := Lib.hid en
  clear en
  refine (callsIn_wide (n := 3)).1 ?_
  refine callsIn_of_wp_marks Tryd.func42 rfl trivial ?_ rfl
  simp only [Tryd.ntmps42, List.size_toArray, List.length_cons, List.length_nil, Nat.reduceAdd, Nat.reduceSub, Array.replicate_succ, Array.replicate_zero, List.push_toArray, List.append_toArray, List.nil_append, List.cons_append]
  gi_wp2_with (refine ⟨trivial, ?_⟩; gi_at_call 67; refine (callsIn_wide.2 (members_any (set : Int) _)).mono ?_; rintro e w1 ⟨rfl, rfl⟩)
  have hbx : ∀ j, (((w.alloc (.cells (bC A n c m hold) 68)).alloc (.cells #[.int .i64 0] 2)).alloc (.cells #[.int .u8 set] 5)).cell? ⟨w.heap.size, j, none⟩ = (bC A n c m hold)[j]? := fun j => by
    have e1 : (w.alloc (.cells (bC A n c m hold) 68)).heap.size = w.heap.size + 1 := by simp
    have e2 : ((w.alloc (.cells (bC A n c m hold) 68)).alloc (.cells #[.int .i64 0] 2)).heap.size = w.heap.size + 1 + 1 := by simp
    exact cell_of_row _ _ _ _ _ _ ((heap_alloc_old _ _ _ (by rw [e2]; omega)).trans ((heap_alloc_old _ _ _ (by rw [e1]; omega)).trans (heap_alloc_new w _)))
  have bS := Boxed.new (w.alloc (.cells (bC A n c m hold) 68)) 2 (.int .i64 0)
  have bM := Boxed.new ((w.alloc (.cells (bC A n c m hold) 68)).alloc (.cells #[.int .i64 0] 2)) 5 (.int .u8 set)
  rw [World.size_alloc] at bS bM
  rw [World.size_alloc] at bM
  have hB0 : Below w.heap.size w (((w.alloc (.cells (bC A n c m hold) 68)).alloc (.cells #[.int .i64 0] 2)).alloc (.cells #[.int .u8 set] 5)) := (((Below.refl _ w).alloc (Nat.le_refl _) _).alloc (by simp) _).alloc (by simp; omega) _
  refine wpIn_rangeFunc_ownG rfl (by decide) (gf := 78) (lb := #[.pointer (some ⟨w.heap.size + 1 + 1, 0, none⟩)]) rfl trivial (enters_of Tryd.func78 (by kernel_rfl) rfl)
    (members_stops (3 - 1) (by decide) (w.heap.size + 1 + 1) w.heap.size set hset _ (by simp) bM.cell) belowK_t (belowK_b (by simp; omega)) (Below.refl _ _) (fun _ => rfl)
    (fun pre W => ((W.cell? ⟨w.heap.size + 1, 0, none⟩ = some (.int .i64 (wSum gs (ids pre))) ∧ W.frozen? ⟨w.heap.size + 1, 0, none⟩ = false) ∧ W.cell? ⟨w.heap.size, 0, none⟩ = some (.slice A n c)) ∧ Below w.heap.size w W)
    (fun _ _ _ => False)
    (OwnFrom.and (Own.from (fun s A B row hs hg hr => ⟨⟨cell_kept hs.1.1 hg hr, (frozen_kept hs.1.1 hg hr).trans hs.1.2⟩, cell_kept hs.2 hg hr⟩) _) (ownFrom_below (Nat.le_refl _) (by simp; omega)))
    (fun _ _ _ _ _ hs _ _ => hs)
    ⟨⟨⟨(bS.alloc _).cell, (bS.alloc _).frozen⟩, hbx 0⟩, hB0⟩
    (fun x => { tmps := #[bV A n c m hold, .int .u8 set, .pointer (some ⟨w.heap.size, 0, none⟩), undef, .int .i64 0, .pointer (some ⟨w.heap.size + 1, 0, none⟩), .int .i64 (x.1 : Int), .int .u8 set, .func (.func 78) #[] #[.pointer (some ⟨w.heap.size + 1 + 1, 0, none⟩)], .int .i64 (x.1 : Int), undef, undef, undef, undef, undef, undef, undef, undef, undef, undef], defers := [] }) ?assign ?body ?done ?stop
  case assign =>
    intro l x W K hK
    gi_wp2
    exact hK
  case body =>
    rintro l pre x W ⟨⟨⟨hc, hf⟩, hs⟩, hB⟩ hlen
    obtain ⟨hx8, hxt⟩ := x.2
    have hxn := hin x.1 hx8 hxt
    obtain ⟨y, hy⟩ : ∃ y, gs[x.1]? = some y := ⟨gs[x.1]'(by have := En.out; omega), List.getElem?_eq_getElem _⟩
    obtain ⟨a, ea, hab, hat⟩ := (hg.below hB).at_ x.1 y hy
    subst ea
    obtain ⟨_, _, _, q3⟩ := hat
    have hyf := hg.fits y (List.mem_of_getElem? hy)
    have hbd := wSum_bound gs hg.fits (ids pre)
    rw [ids_len] at hbd
    have hg0 := hyf.g0
    have hg1 := hyf.g1
    have hwr : IntKind.i64.wrap (wSum gs (ids pre) + y.g) = wSum gs (ids pre) + y.g := IntWalk.i64_in _ (by omega)
    have hwr2 : IntKind.i64.wrap y.g = y.g := IntWalk.i64_in _ (by omega)
    have hnx : wSum gs (ids (pre ++ [x])) = wSum gs (ids pre) + y.g := by rw [ids_snoc, wSum_snoc, wAt, hy]; rfl
    have hw64 : wrap64 (wSum gs (ids pre) + y.g) = wSum gs (ids pre) + y.g := by unfold wrap64; omega
    have HNX := Lib.hid hnx
    have hmx : Tryd.prog.follows .mixedOrders = true := by kernel_rfl
    clear hnx hy
    gi_wp2
    gi_region_with_o (fail)
    all_goals gi_wp2
    all_goals (try go_bits)
    all_goals exact ⟨kf_store _ _ _ _, kb_store (Below.refl w.heap.size W) _ _ (Nat.le_succ _), ⟨⟨by rw [HNX.out]; exact World.cell?_setCell_same' _ _ _ (by rw [hc]; rfl), fz_store _ _ _ _ hf⟩, (World.cell?_setCell_far _ _ _ _ (by simp)).trans hs⟩, kb_store hB _ _ (Nat.le_succ _)⟩
  case done =>
    rintro D ys W hD hys ⟨⟨⟨hc, _⟩, _⟩, hB⟩ hK
    gi_wp2
    refine ⟨by simp, .inl ⟨_, _, rfl, run_takeDeferred hK, ?_⟩⟩
    exact ⟨_, results_tmp rfl _ _ _, rfl, hB.trans (belowK_b (w := w) (Nat.le_refl _) W D _ _ (by simp at hD; omega) hK rfl rfl)⟩
  case stop =>
    rintro D c pre W _ _ h _
    exact h.elim
end Go.Proofs.YtdafnibmoggcnaaDoor.mem

/-
  A basket: is a set of its garments a load.
-/
namespace Go.Proofs.YtdafnibmoggcnaaDoor.mem
open Go Go.RowKit Go.Shelf errs garS
attribute [local go_sem] Oper.semAt_some

/-- what of a set may not be with garment i -/
abbrev offB (m : Nat → Int) (set i : Nat) : Int := bits BinOp.andNot IntKind.u8 (set : Int) (m i)
def isLoadB (gs : List Gar) (m : Nat → Int) (hold : Int) (set : Nat) : Bool := (memb set).all (fun i => offB m set i == 0) && (set != 0 && decide (wSum gs (memb set) ≤ hold))
/-- the ten cells of a basket lie at block b -/
structure Bask (W : World) (b : Nat) (A : Option Addr) (n c : Nat) (m : Nat → Int) (hold : Int) : Prop where
  s : W.cell? ⟨b, 0, none⟩ = some (.slice A n c)
  m : ∀ j, j < 8 → W.cell? ⟨b, 1 + j, none⟩ = some (.int .u8 (m j))
  h : W.cell? ⟨b, 9, none⟩ = some (.int .i64 hold)
theorem Bask.keep {W V : World} {b : Nat} {A : Option Addr} {n c : Nat} {m : Nat → Int} {hold : Int} (h : Bask W b A n c m hold) (hk : ∀ j v, W.cell? ⟨b, j, none⟩ = some v → V.cell? ⟨b, j, none⟩ = some v) : Bask V b A n c m hold :=
  ⟨hk _ _ h.s, fun j hj => hk _ _ (h.m j hj), hk _ _ h.h⟩
theorem bC_m (A : Option Addr) (n c : Nat) (m : Nat → Int) (hold : Int) : ∀ j, j < 8 → (bC A n c m hold)[1 + j]? = some (.int .u8 (m j))
  | 0, _ => rfl
  | 1, _ => rfl
  | 2, _ => rfl
  | 3, _ => rfl
  | 4, _ => rfl
  | 5, _ => rfl
  | 6, _ => rfl
  | 7, _ => rfl

theorem heap4 (w : World) (a b c d : Obj) : ((((w.alloc a).alloc b).alloc c).alloc d).heap[w.heap.size]? = some a ∧ ((((w.alloc a).alloc b).alloc c).alloc d).heap[w.heap.size + 1]? = some b ∧
    ((((w.alloc a).alloc b).alloc c).alloc d).heap[w.heap.size + 1 + 1]? = some c ∧ ((((w.alloc a).alloc b).alloc c).alloc d).heap[w.heap.size + 1 + 1 + 1]? = some d ∧
    ((((w.alloc a).alloc b).alloc c).alloc d).heap.size = w.heap.size + 4 ∧ Below w.heap.size w ((((w.alloc a).alloc b).alloc c).alloc d) := by
  have e1 : (w.alloc a).heap.size = w.heap.size + 1 := by simp
  have e2 : ((w.alloc a).alloc b).heap.size = w.heap.size + 1 + 1 := by simp
  have e3 : (((w.alloc a).alloc b).alloc c).heap.size = w.heap.size + 1 + 1 + 1 := by simp
  have h1 := heap_alloc_new (w.alloc a) b
  have h2 := heap_alloc_new ((w.alloc a).alloc b) c
  have h3 := heap_alloc_new (((w.alloc a).alloc b).alloc c) d
  rw [e1] at h1
  rw [e2] at h2
  rw [e3] at h3
  refine ⟨?_, ?_, ?_, h3, by simp, ?_⟩
  · exact (heap_alloc_old _ _ _ (by omega)).trans ((heap_alloc_old _ _ _ (by omega)).trans ((heap_alloc_old _ _ _ (by omega)).trans (heap_alloc_new w a)))
  · exact (heap_alloc_old _ _ _ (by omega)).trans ((heap_alloc_old _ _ _ (by omega)).trans h1)
  · exact (heap_alloc_old _ _ _ (by omega)).trans h2
  · exact ((((Below.refl _ w).alloc (Nat.le_refl _) _).alloc (by simp) _).alloc (by simp; omega) _).alloc (by simp; omega) _
theorem isSome_setCell {u : World} {b o : Nat} {v : Value} (h : ((u.setCell ⟨b, o, none⟩ v).cell? ⟨b, o, none⟩).isSome = true) : (u.cell? ⟨b, o, none⟩).isSome = true := by
  simp only [World.setCell, World.cell?, Array.getElem?_modify, ↓reduceIte] at h ⊢
  cases e : u.heap[b]? with
  | none => rw [e] at h; simp at h
  | some x =>
    rw [e] at h
    cases x with
    | cells c t f =>
      simp only [Option.map_some, Option.isSome_none, Bool.false_eq_true, ↓reduceIte] at h ⊢
      by_cases ho : o < c.size
      · simp [ho]
      · simp [ho] at h
    | _ => simp at h
/-- what a cell holds -/
def valAt (u : World) (p : Addr) : Value := (u.cell? p).getD undef
theorem valAt_some {u : World} {p : Addr} (h : (u.cell? p).isSome = true) : u.cell? p = some (valAt u p) := by
  unfold valAt
  cases e : u.cell? p with
  | none => rw [e] at h; cases h
  | some v => rfl
/-- what holds while the last line of isLoad runs -/
abbrev BS (w : World) (A : Option Addr) (n c : Nat) (m : Nat → Int) (hold : Int) (set D : Nat) (u : World) : Prop := u.cell? ⟨w.heap.size, 0, none⟩ = some (.slice A n c) ∧ u.cell? ⟨w.heap.size, 1, none⟩ = some (.int .u8 (m 0)) ∧ u.cell? ⟨w.heap.size, 2, none⟩ = some (.int .u8 (m 1)) ∧ u.cell? ⟨w.heap.size, 3, none⟩ = some (.int .u8 (m 2)) ∧ u.cell? ⟨w.heap.size, 4, none⟩ = some (.int .u8 (m 3)) ∧ u.cell? ⟨w.heap.size, 5, none⟩ = some (.int .u8 (m 4)) ∧ u.cell? ⟨w.heap.size, 6, none⟩ = some (.int .u8 (m 5)) ∧ u.cell? ⟨w.heap.size, 7, none⟩ = some (.int .u8 (m 6)) ∧ u.cell? ⟨w.heap.size, 8, none⟩ = some (.int .u8 (m 7)) ∧ u.cell? ⟨w.heap.size, 9, none⟩ = some (.int .i64 hold) ∧ u.cell? ⟨w.heap.size + 1, 0, none⟩ = some (.int .u8 set) ∧ u.cell? ⟨w.heap.size + 1 + 1, 0, none⟩ = some (valAt u ⟨w.heap.size + 1 + 1, 0, none⟩) ∧ u.frozen? ⟨w.heap.size + 1 + 1, 0, none⟩ = false ∧ Below w.heap.size w u ∧ w.heap.size + 1 + 1 < u.heap.size ∧ u.heap[D]? = some (.deferred (some []))
theorem BS.keep {w : World} {A : Option Addr} {n c : Nat} {m : Nat → Int} {hold : Int} {set D : Nat} {u v : World} (h : BS w A n c m hold set D u) (hk : ∀ (p : Addr) (x : Value), p.block = w.heap.size ∨ p.block = w.heap.size + 1 → u.cell? p = some x → v.cell? p = some x)
    (hs : (v.cell? ⟨w.heap.size + 1 + 1, 0, none⟩).isSome = true) (hfz : v.frozen? ⟨w.heap.size + 1 + 1, 0, none⟩ = false) (hB : Below w.heap.size w v) (hz : u.heap.size ≤ v.heap.size) (hD : v.heap[D]? = some (.deferred (some []))) : BS w A n c m hold set D v := by
  obtain ⟨c0, c1, c2, c3, c4, c5, c6, c7, c8, c9, k1, _, _, _, z, _⟩ := h
  exact ⟨hk ⟨w.heap.size, 0, none⟩ _ (.inl rfl) c0, hk ⟨w.heap.size, 1, none⟩ _ (.inl rfl) c1, hk ⟨w.heap.size, 2, none⟩ _ (.inl rfl) c2, hk ⟨w.heap.size, 3, none⟩ _ (.inl rfl) c3, hk ⟨w.heap.size, 4, none⟩ _ (.inl rfl) c4, hk ⟨w.heap.size, 5, none⟩ _ (.inl rfl) c5, hk ⟨w.heap.size, 6, none⟩ _ (.inl rfl) c6, hk ⟨w.heap.size, 7, none⟩ _ (.inl rfl) c7, hk ⟨w.heap.size, 8, none⟩ _ (.inl rfl) c8, hk ⟨w.heap.size, 9, none⟩ _ (.inl rfl) c9, hk ⟨w.heap.size + 1, 0, none⟩ _ (.inr rfl) k1, valAt_some hs, hfz, hB, Nat.lt_of_lt_of_le z hz, hD⟩
theorem BS.tail {w : World} {A : Option Addr} {n c : Nat} {m : Nat → Int} {hold : Int} {set D : Nat} {u : World} (h : BS w A n c m hold set D u) : (u.cell? ⟨w.heap.size + 1 + 1, 0, none⟩).isSome = true ∧ Below w.heap.size w u ∧ w.heap.size + 1 + 1 < u.heap.size ∧ u.heap[D]? = some (.deferred (some [])) ∧ u.frozen? ⟨w.heap.size + 1 + 1, 0, none⟩ = false := by
  obtain ⟨_c0, _c1, _c2, _c3, _c4, _c5, _c6, _c7, _c8, _c9, k1, h1, hf, h2, h3, h4⟩ := h
  exact ⟨by rw [h1]; rfl, h2, h3, h4, hf⟩
theorem BS.drewN {w : World} {A : Option Addr} {n c : Nat} {m : Nat → Int} {hold : Int} {set D : Nat} {u : World} (h : BS w A n c m hold set D u) (k : Nat) : BS w A n c m hold set D (u.drewN k) := h.keep (fun _ _ _ h => h) h.tail.1 h.tail.2.2.2.2 (h.tail.2.1.trans (below_drewN _ _ k)) (Nat.le_refl _) h.tail.2.2.2.1
theorem BS.next {w : World} {A : Option Addr} {n c : Nat} {m : Nat → Int} {hold : Int} {set D : Nat} {u v : World} (h : BS w A n c m hold set D u) (hb : Below u.heap.size u v) : BS w A n c m hold set D v := by
  obtain ⟨t1, t2, t3, t4, t5⟩ := h.tail
  have hDu : D < u.heap.size := (Array.getElem?_eq_some_iff.1 t4).1
  refine h.keep (fun p x hp hx => (hb.cell (p := p) (by omega)).trans hx) ?_ ?_ (t2.trans (hb.mono t2.size)) hb.size ((hb.block D hDu).trans t4)
  · rw [hb.cell (p := ⟨w.heap.size + 1 + 1, 0, none⟩) t3]
    exact t1
  · exact (hb.frozen (p := ⟨w.heap.size + 1 + 1, 0, none⟩) t3).trans t5
theorem BS.store {w : World} {A : Option Addr} {n c : Nat} {m : Nat → Int} {hold : Int} {set D : Nat} {u : World} (h : BS w A n c m hold set D u) (v : Value) : BS w A n c m hold set D (u.setCell ⟨w.heap.size + 1 + 1, 0, none⟩ v) := by
  obtain ⟨t1, t2, t3, t4, t5⟩ := h.tail
  refine h.keep (fun p x hp hx => (World.cell?_setCell_far _ _ _ _ (by show w.heap.size + 1 + 1 ≠ p.block; omega)).trans hx) ?_ (by rw [World.frozen?_setCell]; exact t5) (t2.setCell (p := ⟨w.heap.size + 1 + 1, 0, none⟩) (by show w.heap.size ≤ w.heap.size + 1 + 1; omega) _) (by simp) ((KeepsOthers.setCell _ _ _).same D _ t4 rfl)
  rw [World.cell?_setCell_same' _ _ _ t1]
  rfl

set_option maxRecDepth 100000 in
set_option maxHeartbeats 8000000 in
theorem isLoad_any (A : Option Addr) (n c : Nat) (gs : List Gar) (en : n = gs.length) (hn : n ≤ 1048576) (m : Nat → Int) (hold : Int) (set : Nat) (hset : set < 256) (hin : ∀ i, i < 8 → set.testBit i = true → i < n) (w : World) (hg : GS w w.heap.size A gs) (b : Bool) (hb : isLoadB gs m hold set = b) :
    Calls Tryd.prog 40 #[bV A n c m hold, .int .u8 set] w fun o w' => o = .returned (.bool b) ∧ Below w.heap.size w w' := by
  have En := Lib.hid en
  have HR := Lib.hid hb
  clear en hb
  refine (callsIn_wide (n := 3)).1 ?_
  refine callsIn_of_wp_marks Tryd.func40 rfl trivial ?_ rfl
  simp only [Tryd.ntmps40, List.size_toArray, List.length_cons, List.length_nil, Nat.reduceAdd, Nat.reduceSub, Array.replicate_succ, Array.replicate_zero, List.push_toArray, List.append_toArray, List.nil_append, List.cons_append]
  gi_wp2_with (refine ⟨trivial, ?_⟩; gi_at_call 67; refine (callsIn_wide.2 (members_any (set : Int) _)).mono ?_; rintro e w1 ⟨rfl, rfl⟩)
  have h4 := heap4 w (.cells (bC A n c m hold) 68) (.cells #[.int .u8 set] 5) (.cells #[.bool false] 4) (.cells #[.int .u8 set] 5)
  obtain ⟨W0, hW0⟩ : ∃ W0, W0 = ((((w.alloc (.cells (bC A n c m hold) 68)).alloc (.cells #[.int .u8 set] 5)).alloc (.cells #[.bool false] 4)).alloc (.cells #[.int .u8 set] 5)) := ⟨_, rfl⟩
  rw [← hW0] at h4 ⊢
  obtain ⟨g0, g1, g2, g3, hsz, hB0⟩ := h4
  have hbk0 : Bask W0 w.heap.size A n c m hold := ⟨cell_of_row _ _ _ _ _ _ g0, fun j hj => (cell_of_row _ _ _ _ _ _ g0).trans (bC_m A n c m hold j hj), cell_of_row _ _ _ _ _ _ g0⟩
  have k1 : W0.cell? ⟨w.heap.size + 1, 0, none⟩ = some (.int .u8 set) := cell_of_row _ _ _ _ _ _ g1
  have k2 : W0.cell? ⟨w.heap.size + 1 + 1, 0, none⟩ = some (.bool false) := cell_of_row _ _ _ _ _ _ g2
  have k3 : W0.cell? ⟨w.heap.size + 1 + 1 + 1, 0, none⟩ = some (.int .u8 set) := cell_of_row _ _ _ _ _ _ g3
  have f2 : W0.frozen? ⟨w.heap.size + 1 + 1, 0, none⟩ = false := by
    unfold World.frozen?
    rw [g2]
    rfl
  clear g0 g1 g2 g3 hW0
  refine wpIn_rangeFunc_ownG rfl (by decide) (gf := 78) (lb := #[.pointer (some ⟨w.heap.size + 1 + 1 + 1, 0, none⟩)]) rfl trivial (enters_of Tryd.func78 (by kernel_rfl) rfl)
    (members_stops (3 - 1) (by decide) (w.heap.size + 1 + 1 + 1) w.heap.size set hset W0 (by omega) k3) belowK_t (belowK_b (by omega)) (Below.refl _ _) (fun _ => rfl)
    (fun pre W => ((∀ i ∈ ids pre, offB m set i = 0) ∧ Bask W w.heap.size A n c m hold ∧ W.cell? ⟨w.heap.size + 1, 0, none⟩ = some (.int .u8 set) ∧ W.cell? ⟨w.heap.size + 1 + 1, 0, none⟩ = some (.bool false) ∧ W.frozen? ⟨w.heap.size + 1 + 1, 0, none⟩ = false) ∧ Below w.heap.size w W)
    (fun cc pre W => (cc = .ret ∧ (∃ i ∈ ids pre, offB m set i ≠ 0) ∧ W.cell? ⟨w.heap.size + 1 + 1, 0, none⟩ = some (.bool false)) ∧ Below w.heap.size w W)
    (OwnFrom.and (Own.from (fun s A B row hs hg hr => ⟨hs.1, hs.2.1.keep (fun _ _ h => cell_kept h hg hr), cell_kept hs.2.2.1 hg hr, cell_kept hs.2.2.2.1 hg hr, (frozen_kept hs.2.2.2.1 hg hr).trans hs.2.2.2.2⟩) _) (ownFrom_below (Nat.le_refl _) (by omega)))
    (fun cc => OwnFrom.and (Own.from (fun s A B row hs hg hr => ⟨hs.1, hs.2.1, cell_kept hs.2.2 hg hr⟩) _) (ownFrom_below (Nat.le_refl _) (by omega)))
    ⟨⟨by simp [ids], hbk0, k1, k2, f2⟩, hB0⟩
    (fun x => { tmps := #[bV A n c m hold, .int .u8 set, .pointer (some ⟨w.heap.size, 0, none⟩), .pointer (some ⟨w.heap.size + 1, 0, none⟩), .pointer (some ⟨w.heap.size + 1 + 1, 0, none⟩), .int .i64 (x.1 : Int), .int .u8 set, .func (.func 78) #[] #[.pointer (some ⟨w.heap.size + 1 + 1 + 1, 0, none⟩)], .int .i64 (x.1 : Int), undef, undef, undef, undef, undef, undef, undef, undef, undef, undef, undef, undef, undef, undef, undef, undef, undef], defers := [] }) ?assign ?body ?done ?stop
  case assign =>
    intro l x W K hK
    gi_wp2
    exact hK
  case body =>
    rintro l pre x W ⟨⟨hall, hbk, hs1, hres, hfr⟩, hB⟩ hlen
    obtain ⟨hx8, hxt⟩ := x.2
    have hm := hbk.m x.1 hx8
    have hmx : Tryd.prog.follows .mixedOrders = true := by kernel_rfl
    by_cases hz : bits BinOp.andNot IntKind.u8 (set : Int) (m x.1) = 0
    · have hz2 : (bits BinOp.andNot IntKind.u8 (set : Int) (m x.1) != 0) = false := by rw [hz]; rfl
      have hall2 : ∀ i ∈ ids (pre ++ [x]), offB m set i = 0 := fun i hi => by
        rw [ids_snoc] at hi
        rcases List.mem_append.1 hi with h1 | h1
        · exact hall i h1
        · rw [List.mem_singleton.1 h1]
          exact hz
      have HA := Lib.hid hall2
      clear hall hall2
      gi_wp2
      gi_region_with_o (fail)
      all_goals gi_wp2
      all_goals exact ⟨(KeepsOthers.drew W).from _, (Below.refl _ _).drew, ⟨HA.out, hbk.keep fun _ _ h => h, hs1, hres, hfr⟩, hB.drew⟩
    · have hz2 : (bits BinOp.andNot IntKind.u8 (set : Int) (m x.1) != 0) = true := by rw [bne_iff_ne]; exact hz
      have HA : Hid (∃ i ∈ ids (pre ++ [x]), offB m set i ≠ 0) := Lib.hid ⟨x.1, by rw [ids_snoc]; simp, hz⟩
      gi_wp2
      gi_region_with_o (fail)
      all_goals gi_wp2
      all_goals exact ⟨kf_store _ _ _ _, ⟨rfl, HA.out, World.cell?_setCell_same' _ _ _ (by rw [hres]; rfl)⟩, kb_store hB _ _ (by show w.heap.size ≤ w.heap.size + 1 + 1; omega)⟩
  case done =>
    rintro D ys W hD hys ⟨⟨hall, hbk, hs1, hres, hfr⟩, hB⟩ hK
    have hmx : Tryd.prog.follows .mixedOrders = true := by kernel_rfl
    obtain ⟨c0, c1, c2, c3, c4, c5, c6, c7, c8, c9⟩ : W.cell? ⟨w.heap.size, 0, none⟩ = some (.slice A n c) ∧ W.cell? ⟨w.heap.size, 1, none⟩ = some (.int .u8 (m 0)) ∧ W.cell? ⟨w.heap.size, 2, none⟩ = some (.int .u8 (m 1)) ∧ W.cell? ⟨w.heap.size, 3, none⟩ = some (.int .u8 (m 2)) ∧ W.cell? ⟨w.heap.size, 4, none⟩ = some (.int .u8 (m 3)) ∧ W.cell? ⟨w.heap.size, 5, none⟩ = some (.int .u8 (m 4)) ∧ W.cell? ⟨w.heap.size, 6, none⟩ = some (.int .u8 (m 5)) ∧ W.cell? ⟨w.heap.size, 7, none⟩ = some (.int .u8 (m 6)) ∧ W.cell? ⟨w.heap.size, 8, none⟩ = some (.int .u8 (m 7)) ∧ W.cell? ⟨w.heap.size, 9, none⟩ = some (.int .i64 hold) :=
      ⟨hbk.s, hbk.m 0 (by omega), hbk.m 1 (by omega), hbk.m 2 (by omega), hbk.m 3 (by omega), hbk.m 4 (by omega), hbk.m 5 (by omega), hbk.m 6 (by omega), hbk.m 7 (by omega), hbk.h⟩
    have hDW : D < W.heap.size := (Array.getElem?_eq_some_iff.1 hK).1
    have hall2 : (memb set).all (fun i => offB m set i == 0) = true := by
      rw [List.all_eq_true]
      intro i hi
      rw [← hys] at hi
      simp [hall i hi]
    have HA := Lib.hid hall2
    have HK := Lib.hid hK
    have HBk := Lib.hid hbk
    clear hall hall2 hbk
    have hsz2 := hB0.size
    have hzz : w.heap.size + 1 + 1 < W.heap.size := by omega
    have HG := Lib.hid ((hg.below hB).more hB.size)
    have hfin : ∀ (V : World) (v : Bool), Below W.heap.size W V → (isLoadB gs m hold set = v) → V.cell? ⟨w.heap.size + 1 + 1, 0, none⟩ = some (.bool false) → V.heap[D]? = some (.deferred (some [])) := fun V v hb _ _ => (hb.block D hDW).trans HK.out
    by_cases hz : set = 0
    · have hbf : Hid (b = false) := Lib.hid (by rw [← HR.out, isLoadB, hz]; simp)
      have hz2 : ((set : Int) != 0) = false := by rw [hz]; rfl
      have hz3 : ¬ ((set : Int) != 0) = true := by rw [hz2]; decide
      gi_wp2
      refine wpIn_wide.2 ?_
      go_wp2_with fail
      first | go_region_with ((fail)) | fail
      all_goals gi_wp2
      all_goals
        have hcv : (W.setCell ⟨w.heap.size + 1 + 1, 0, none⟩ (.bool false)).drew.cell? ⟨w.heap.size + 1 + 1, 0, none⟩ = some (.bool false) := World.cell?_setCell_same' W ⟨w.heap.size + 1 + 1, 0, none⟩ (.bool false) (by rw [hres]; rfl)
        have hkv : (W.setCell ⟨w.heap.size + 1 + 1, 0, none⟩ (.bool false)).drew.heap[D]? = some (.deferred (some [])) := (KeepsOthers.setCell W ⟨w.heap.size + 1 + 1, 0, none⟩ (.bool false)).same D _ HK.out rfl
        have hbv : Below w.heap.size w (W.setCell ⟨w.heap.size + 1 + 1, 0, none⟩ (.bool false)).drew := kb_store hB ⟨w.heap.size + 1 + 1, 0, none⟩ _ (by show w.heap.size ≤ w.heap.size + 1 + 1; omega)
        refine ⟨by simp, .inl ⟨_, _, rfl, run_takeDeferred hkv, ?_⟩⟩
        have hc5 := cell_kept hcv (grownBy_putObj' _ D (.deferred none)) (fun r e => by cases e; exact ⟨_, hkv, rfl⟩)
        refine ⟨.bool false, ?_, by rw [hbf.out], hbv.trans (belowK_b (w := w) (Nat.le_refl _) _ D _ _ (by omega) hkv rfl rfl)⟩
        simp [results, Tryd.f40, go_sem, hc5]
    · have hz2 : ((set : Int) != 0) = true := by rw [bne_iff_ne]; omega
      gi_wp2
      refine wpIn_wide.2 ?_
      go_wp2_with fail
      have S0 : Hid (BS w A n c m hold set D W) := Lib.hid ⟨c0, c1, c2, c3, c4, c5, c6, c7, c8, c9, hs1, valAt_some (by rw [hres]; rfl), hfr, hB, hzz, HK.out⟩
      clear c0 c1 c2 c3 c4 c5 c6 c7 c8 c9 hs1 hres hfr hB
      by_cases hle : wSum gs (memb set) ≤ hold
      · have hle2 : decide (wSum gs (memb set) ≤ hold) = true := by simpa using hle
        go_region_held3 (fun u => BS w A n c m hold set D u)
          (first | assumption | exact S0.out | exact S0.out.drewN 1 | exact BS.next (by assumption) hb2 | exact BS.store (by assumption) _)
          (first
            | (go_at_call 42; refine (weightOf_any A n c gs En.out hn m hold set hset hin _ ((hg.below (BS.tail (by assumption)).2.1).more (BS.tail (by assumption)).2.1.size)).mono ?_; rintro o w2 ⟨rfl, hb2⟩)
            | fail)
        have hbf : Hid (b = true) := Lib.hid (by rw [← HR.out, isLoadB, HA.out, hle2]; simpa using hz)
        rename_i hS
        gi_wp2
        obtain ⟨t1, t2, t3, t4, t5⟩ := hS.tail
        have hcv := World.cell?_setCell_same' w2 ⟨w.heap.size + 1 + 1, 0, none⟩ (.bool true) (isSome_setCell t1)
        refine ⟨by simp, .inl ⟨_, _, rfl, run_takeDeferred t4, ?_⟩⟩
        have hc5 := cell_kept hcv (grownBy_putObj' _ D (.deferred none)) (fun r e => by cases e; exact ⟨_, t4, rfl⟩)
        refine ⟨.bool true, ?_, by rw [hbf.out], t2.trans (belowK_b (w := w) (Nat.le_refl _) _ D _ _ (by omega) t4 rfl rfl)⟩
        simp [results, Tryd.f40, go_sem, hc5]
      · have hle2 : decide (wSum gs (memb set) ≤ hold) = false := by simpa using hle
        have hle3 : hold < wSum gs (memb set) := by omega
        go_region_held3 (fun u => BS w A n c m hold set D u)
          (first | assumption | exact S0.out | exact S0.out.drewN 1 | exact BS.next (by assumption) hb2 | exact BS.store (by assumption) _)
          (first
            | (go_at_call 42; refine (weightOf_any A n c gs En.out hn m hold set hset hin _ ((hg.below (BS.tail (by assumption)).2.1).more (BS.tail (by assumption)).2.1.size)).mono ?_; rintro o w2 ⟨rfl, hb2⟩)
            | fail)
        have hbf : Hid (b = false) := Lib.hid (by rw [← HR.out, isLoadB, hle2]; simp)
        rename_i hS
        gi_wp2
        obtain ⟨t1, t2, t3, t4, t5⟩ := hS.tail
        have hcv := World.cell?_setCell_same' w2 ⟨w.heap.size + 1 + 1, 0, none⟩ (.bool false) (isSome_setCell t1)
        refine ⟨by simp, .inl ⟨_, _, rfl, run_takeDeferred t4, ?_⟩⟩
        have hc5 := cell_kept hcv (grownBy_putObj' _ D (.deferred none)) (fun r e => by cases e; exact ⟨_, t4, rfl⟩)
        refine ⟨.bool false, ?_, by rw [hbf.out], t2.trans (belowK_b (w := w) (Nat.le_refl _) _ D _ _ (by omega) t4 rfl rfl)⟩
        simp [results, Tryd.f40, go_sem, hc5]
  case stop =>
    rintro D cc pre W hD hpre ⟨⟨rfl, ⟨i, hi, hio⟩, hres⟩, hB⟩ hK
    gi_wp2
    refine ⟨by simp, .inl ⟨_, _, rfl, run_takeDeferred hK, ?_⟩⟩
    have hc5 := cell_kept hres (grownBy_putObj' _ D (.deferred none)) (fun r e => by cases e; exact ⟨_, hK, rfl⟩)
    have hbf : b = false := by
      rw [← HR.out, isLoadB, Bool.and_eq_false_iff]
      refine .inl ?_
      rw [List.all_eq_false]
      exact ⟨i, hpre.subset hi, by simp [hio]⟩
    refine ⟨.bool false, ?_, by rw [hbf], hB.trans (belowK_b (w := w) (Nat.le_refl _) W D _ _ (by omega) hK rfl rfl)⟩
    simp [results, Tryd.f40, go_sem, hc5]
end Go.Proofs.YtdafnibmoggcnaaDoor.mem

/-
  What isLoad of a basket says, in plain words.
-/
namespace Go.Proofs.YtdafnibmoggcnaaDoor.mem
open Go Go.RowKit garS heats meet load

theorem off_zero (a b : Nat) (_ha : a < 256) (hb : b < 256) : a &&& (255 - b) = 0 ↔ ∀ k, k < 8 → a.testBit k = true → b.testBit k = true := by
  have e : ∀ k, (255 - b).testBit k = (decide (k < 8) && !b.testBit k) := fun k => by
    have := Nat.testBit_two_pow_sub_succ (x := b) (n := 8) hb k
    rwa [show 2 ^ 8 - (b + 1) = 255 - b by omega] at this
  constructor
  · intro h k hk h1
    have h2 : (a &&& (255 - b)).testBit k = false := by rw [h]; simp
    rw [Nat.testBit_and, h1, e k] at h2
    simp [hk] at h2
    exact h2
  · intro h
    apply Nat.eq_of_testBit_eq
    intro k
    rw [Nat.testBit_and, e k, Nat.zero_testBit]
    cases h1 : a.testBit k with
    | false => rfl
    | true =>
      by_cases hk : k < 8
      · rw [h k hk h1]; simp
      · simp [hk]
theorem memb_all : ∀ n, n ≤ 8 → memb (2 ^ n - 1) = List.range n
  | 0, _ => by decide +kernel
  | 1, _ => by decide +kernel
  | 2, _ => by decide +kernel
  | 3, _ => by decide +kernel
  | 4, _ => by decide +kernel
  | 5, _ => by decide +kernel
  | 6, _ => by decide +kernel
  | 7, _ => by decide +kernel
  | 8, _ => by decide +kernel
theorem wSum_range (gs : List Gar) : ∀ k, k ≤ gs.length → wSum gs (List.range k) = wAll (gs.take k)
  | 0, _ => rfl
  | k + 1, h => by
    obtain ⟨x, hx⟩ : ∃ x, gs[k]? = some x := ⟨gs[k]'(by omega), List.getElem?_eq_getElem _⟩
    rw [List.range_succ, wSum_snoc, wSum_range gs k (by omega), wAll_snoc hx, wAt, hx]
    rfl
/-- m has for each garment the set of those that it may meet -/
structure Meets (r : Nat → Int) (gs : List Gar) (m : Nat → Int) : Prop where
  lo : ∀ i, 0 ≤ m i ∧ m i < 256
  bit : ∀ i x k, gs[i]? = some x → ((m i).toNat.testBit k = true ↔ ∃ y, gs[k]? = some y ∧ meetB r x y = true)
theorem two_pow_le : ∀ n, n ≤ 8 → 2 ^ n - 1 < 256 ∧ (0 < n → 2 ^ n - 1 ≠ 0) ∧ ∀ k, (2 ^ n - 1).testBit k = decide (k < n) := fun n hn => by
  refine ⟨?_, ?_, fun k => Nat.testBit_two_pow_sub_one n k⟩
  · have := Nat.pow_le_pow_right (show 0 < 2 by decide) hn
    omega
  · intro h
    have := Nat.pow_le_pow_right (show 0 < 2 by decide) h
    omega
theorem meet_symm {r : Nat → Int} (hv : ∀ a b, a < 6 → b < 6 → bitZ (r a) b = bitZ (r b) a) {x y : Gar} (hx : x.c.toNat < 6) (hy : y.c.toNat < 6) : meetB r x y = meetB r y x := by
  unfold meetB
  rw [hv _ _ hx hy, Bool.and_comm (decide (x.n ≤ y.m))]
theorem isLoadB_all {r : Nat → Int} {gs : List Gar} {m : Nat → Int} (hm : Meets r gs m) (hold : Int) (n : Nat) (en : n = gs.length) (hn : n ≤ 8) (hs : ∀ x y, x ∈ gs → y ∈ gs → meetB r x y = meetB r y x) (hr : ∀ x ∈ gs, meetB r x x = true) :
    isLoadB gs m hold (2 ^ n - 1) = true ↔ 0 < n ∧ Pairs r gs ∧ wAll gs ≤ hold := by
  obtain ⟨p1, p2, p3⟩ := two_pow_le n hn
  have hw : wSum gs (List.range n) = wAll gs := by
    rw [wSum_range gs n (by omega), List.take_of_length_le (by omega)]
  have hall : (∀ i ∈ List.range n, offB m (2 ^ n - 1) i = 0) ↔ Pairs r gs := by
    have each : ∀ i x, gs[i]? = some x → (offB m (2 ^ n - 1) i = 0 ↔ ∀ k y, gs[k]? = some y → meetB r x y = true) := fun i x hx => by
      obtain ⟨l1, l2⟩ := hm.lo i
      have e := u8_andNot ((2 ^ n - 1 : Nat) : Int) (m i) (by omega) (by omega) l1 l2
      have e2 : offB m (2 ^ n - 1) i = (((2 ^ n - 1) &&& (255 - (m i).toNat) : Nat) : Int) := by simpa using e
      rw [e2, Int.natCast_eq_zero, off_zero _ _ p1 (by omega)]
      constructor
      · intro h k y hy
        have hk := (List.getElem?_eq_some_iff.1 hy).1
        obtain ⟨z, hz, hm2⟩ := (hm.bit i x k hx).1 (h k (by omega) (by rw [p3]; simp; omega))
        rw [hy] at hz
        rw [Option.some.inj hz]
        exact hm2
      · intro h k hk hb
        rw [p3] at hb
        have hkn : k < n := by simpa using hb
        exact (hm.bit i x k hx).2 ⟨gs[k]'(by omega), List.getElem?_eq_getElem _, h k _ (List.getElem?_eq_getElem _)⟩
    constructor
    · intro h i k x y hki hx hy
      have hi := (List.getElem?_eq_some_iff.1 hx).1
      exact (each i x hx).1 (h i (by rw [List.mem_range]; omega)) k y hy
    · intro h i hi
      rw [List.mem_range] at hi
      have hx : gs[i]? = some (gs[i]'(by omega)) := List.getElem?_eq_getElem _
      refine (each i _ hx).2 fun k y hy => ?_
      rcases Nat.lt_trichotomy k i with h1 | h1 | h1
      · exact h i k _ y h1 hx hy
      · subst h1
        rw [hx] at hy
        rw [← Option.some.inj hy]
        exact hr _ (List.mem_of_getElem? hx)
      · rw [hs _ _ (List.mem_of_getElem? hx) (List.mem_of_getElem? hy)]
        exact h k i y _ h1 hy hx
  rw [isLoadB, memb_all n hn, hw, Bool.and_eq_true, Bool.and_eq_true, List.all_eq_true]
  have h1 : (∀ i ∈ List.range n, (offB m (2 ^ n - 1) i == 0) = true) ↔ Pairs r gs := by
    rw [← hall]
    exact ⟨fun h i hi => by simpa using h i hi, fun h i hi => by simpa using h i hi⟩
  rw [h1]
  constructor
  · rintro ⟨a, b, c⟩
    refine ⟨?_, a, by simpa using c⟩
    rcases Nat.eq_zero_or_pos n with h | h
    · subst h; simp at b
    · exact h
  · rintro ⟨a, b, c⟩
    exact ⟨b, by rw [bne_iff_ne]; exact p2 a, by simpa using c⟩
end Go.Proofs.YtdafnibmoggcnaaDoor.mem

/-
  The program's meetingSets: for each garment the set of those that it may meet.
-/
namespace Go.Proofs.YtdafnibmoggcnaaDoor.mem
open Go Go.RowKit Go.Maps errs garS heats meet load

/-- may garment x meet garment j -/
def meetAt (r : Nat → Int) (gs : List Gar) (x : Gar) (j : Nat) : Bool := (gs[j]?.map (meetB r x)).getD false
/-- the set of the first k garments that x may meet -/
def setOf (r : Nat → Int) (gs : List Gar) (x : Gar) (k : Nat) : Nat := (List.range k).foldl (fun s j => if meetAt r gs x j = true then s ||| 2 ^ j else s) 0
theorem setOf_succ (r : Nat → Int) (gs : List Gar) (x : Gar) (k : Nat) : setOf r gs x (k + 1) = if meetAt r gs x k = true then setOf r gs x k ||| 2 ^ k else setOf r gs x k := by simp [setOf, List.range_succ]
theorem setOf_bit (r : Nat → Int) (gs : List Gar) (x : Gar) (j : Nat) : ∀ k, (setOf r gs x k).testBit j = (decide (j < k) && meetAt r gs x j)
  | 0 => by simp [setOf]
  | k + 1 => by
    rw [setOf_succ]
    split
    · rename_i h
      rw [Nat.testBit_or, setOf_bit r gs x j k, Nat.testBit_two_pow]
      by_cases e : k = j
      · subst e; simp [h]
      · have : decide (j < k + 1) = decide (j < k) := by rw [Bool.eq_iff_iff]; simp; omega
        simp [e, this]
    · rename_i h
      rw [setOf_bit r gs x j k]
      by_cases e : k = j
      · subst e; simp [h]
      · have : decide (j < k + 1) = decide (j < k) := by rw [Bool.eq_iff_iff]; simp; omega
        rw [this]
theorem setOf_lt (r : Nat → Int) (gs : List Gar) (x : Gar) (k : Nat) (hk : k ≤ 8) : setOf r gs x k < 256 := by
  refine Nat.lt_pow_two_of_testBit (n := 8) _ fun i hi => ?_
  rw [setOf_bit]
  simp
  omega
def msOf (r : Nat → Int) (gs : List Gar) (k i : Nat) : Int := if i < k then ((gs[i]?.map fun x => setOf r gs x gs.length).getD 0 : Nat) else 0
theorem msOf_meets {r : Nat → Int} {gs : List Gar} (hn : gs.length ≤ 8) : Meets r gs (msOf r gs gs.length) := by
  refine ⟨fun i => ?_, fun i x k hx => ?_⟩
  · unfold msOf
    split
    · cases hx : gs[i]? with
      | none => simp
      | some x =>
        have := setOf_lt r gs x gs.length hn
        simp
        omega
    · omega
  · have hi := (List.getElem?_eq_some_iff.1 hx).1
    rw [msOf, if_pos hi, hx]
    simp only [Option.map_some, Option.getD_some, Int.toNat_natCast]
    rw [setOf_bit, Bool.and_eq_true, decide_eq_true_eq, meetAt]
    constructor
    · rintro ⟨h1, h2⟩
      have hy : gs[k]? = some (gs[k]'h1) := List.getElem?_eq_getElem _
      rw [hy] at h2
      exact ⟨_, hy, by simpa using h2⟩
    · rintro ⟨y, hy, h2⟩
      exact ⟨(List.getElem?_eq_some_iff.1 hy).1, by rw [hy]; simpa using h2⟩
end Go.Proofs.YtdafnibmoggcnaaDoor.mem

/-
  The map of the garments that have come, in meetingSets.
-/
namespace Go.Proofs.YtdafnibmoggcnaaDoor.mem
open Go Go.RowKit Go.Maps errs garS heats meet load

theorem undM : Tryd.prog.underlying 107 = some (.map 56 5) := by kernel_rfl
theorem undU : Tryd.prog.underlying 5 = some (.int .u8) := by kernel_rfl
theorem zeroU (w : World) : (zeroValue 5).run Tryd.prog w = .ok (.int .u8 0) w := by kernel_rfl
/-- block b is a map from the garments that have come to their sets -/
def Known (W : World) (b : Nat) (N : Nat) (r : Nat → Int) (gs seen : List Gar) : Prop :=
  ∃ D : DataW Unit, W.ownsMap Tryd.prog 56 (plainElem Tryd.prog 5) b N D ∧ ∀ (y : Gar) (l : Lit), keyOf Tryd.prog 56 y.v = some l →
    (y ∈ seen → D.atKey l (.lit (.int .u8 0)) = .lit (.int .u8 (setOf r gs y gs.length)) ∧ has D l = true) ∧ (y ∉ seen → D.atKey l (.lit (.int .u8 0)) = .lit (.int .u8 0) ∧ has D l = false)
theorem Known.new (w : World) (r : Nat → Int) (gs : List Gar) : Known (w.alloc (.map #[] 0)) w.heap.size 0 r gs [] :=
  ⟨.map [], World.ownsMap_made w _ _ _, fun y l _ => ⟨fun h => absurd h (by simp), fun _ => ⟨atKey_of_not_has (by simp [has_eq]) _, by simp [has_eq]⟩⟩⟩
theorem Known.kept {w w' : World} {b N : Nat} {r : Nat → Int} {gs seen : List Gar} {row : Option Nat} (h : Known w b N r gs seen) (hg : w.grownBy w' row) (hne : some b ≠ row) : Known w' b N r gs seen := by
  obtain ⟨D, h1, h2⟩ := h
  exact ⟨D, h1.kept hg hne, h2⟩
set_option maxRecDepth 100000 in
theorem Known.look {w : World} {b N : Nat} {r : Nat → Int} {gs seen : List Gar} (h : Known w b N r gs seen) (y : Gar) (hy : y.Fits) :
    (y ∈ seen → (Instr.lookup 107 (.map (some b)) y.v true).run Tryd.prog w = .ok (.tuple #[.int .u8 (setOf r gs y gs.length), .bool true]) w) ∧
    (y ∉ seen → (Instr.lookup 107 (.map (some b)) y.v true).run Tryd.prog w = .ok (.tuple #[.int .u8 0, .bool false]) w) := by
  obtain ⟨D, hown, hD⟩ := h
  obtain ⟨l, hl⟩ := keyG y hy
  obtain ⟨v, ps, hrun, hR⟩ := hown.look_ok keyedG undM (zeroU w) (plainElem_int undU (by decide)) hl
  obtain ⟨c, rfl, e2, _⟩ := plainElem_int_inv undU hR
  have e3 := congrArg Prod.fst e2
  simp only at e3
  obtain ⟨h1, h2⟩ := hD y l hl
  constructor
  · intro hs
    obtain ⟨k1, k2⟩ := h1 hs
    rw [k1] at e3
    injection e3 with e4
    injection e4 with _ e5
    rw [k2, ← e5] at hrun
    exact hrun
  · intro hs
    obtain ⟨k1, k2⟩ := h2 hs
    rw [k1] at e3
    injection e3 with e4
    injection e4 with _ e5
    rw [k2, ← e5] at hrun
    exact hrun
set_option maxRecDepth 100000 in
theorem Known.put {w : World} {b N : Nat} {r : Nat → Int} {gs seen : List Gar} (h : Known w b N r gs seen) (hN : N < maxLen) (hn : gs.length ≤ 8) (y : Gar) (hy : y.Fits) :
    ∃ w', (Instr.mapUpdate 107 (.map (some b)) y.v (.int .u8 (setOf r gs y gs.length))).run Tryd.prog w = .ok () w' ∧ Known w' b (N + 1) r gs (seen ++ [y]) ∧ w.grownBy w' (some b) := by
  obtain ⟨D, hown, hD⟩ := h
  obtain ⟨l, hl⟩ := keyG y hy
  have hlt := setOf_lt r gs y gs.length hn
  obtain ⟨w', hrun, h1, h2⟩ := hown.update keyedG undM hN hl (plainElem_int (a := (setOf r gs y gs.length : Int)) undU (wf_of _ _ ⟨by show (0 : Int) ≤ _; omega, by show _ ≤ (255 : Int); omega⟩))
  refine ⟨w', hrun, ⟨_, h1, fun z k hk => ?_⟩, h2⟩
  by_cases e : k = l
  · subst e
    have ezy : z = y := by
      have := keyedG.inj hk hl
      cases z
      cases y
      simp only [Value.agg.injEq, Array.mk.injEq, List.cons.injEq, Value.int.injEq, true_and, and_true] at this
      obtain ⟨a, b, c, d⟩ := this
      subst a b c d
      rfl
    subst ezy
    exact ⟨fun _ => ⟨atKey_put_same hown.isMap (keyedG.key hl) _ _, has_put_same hown.isMap (keyedG.key hl) _⟩, fun hs => absurd (by simp) hs⟩
  · have hne : z ≠ y := fun ez => by
      subst ez
      rw [hl] at hk
      exact e (Option.some.inj hk).symm
    obtain ⟨k1, k2⟩ := hD z k hk
    rw [atKey_put_other e, has_put_other e]
    exact ⟨fun hs => k1 ((List.mem_append.1 hs).elim id fun h => absurd (List.mem_singleton.1 h) hne), fun hs => k2 fun h => hs (List.mem_append_left _ h)⟩
end Go.Proofs.YtdafnibmoggcnaaDoor.mem

/-
  Contract of the program's meetingSets.
-/
namespace Go.Proofs.YtdafnibmoggcnaaDoor.mem
open Go Go.RowKit Go.Maps errs garS heats meet load

theorem setOf_yes {r : Nat → Int} {gs : List Gar} {x y : Gar} {k : Nat} (hy : gs[k]? = some y) (h : meetB r x y = true) : setOf r gs x (k + 1) = setOf r gs x k ||| 2 ^ k := by
  rw [setOf_succ, if_pos (by rw [meetAt, hy]; simpa using h)]
theorem setOf_no {r : Nat → Int} {gs : List Gar} {x y : Gar} {k : Nat} (hy : gs[k]? = some y) (h : meetB r x y = false) : setOf r gs x (k + 1) = setOf r gs x k := by
  rw [setOf_succ, if_neg (by rw [meetAt, hy]; simp [h])]
theorem meet_v (r : Nat → Int) (hr : Six r) (a b : Gar) (ha : a.Fits) (hb : b.Fits) (va : a.valid = true) (vb : b.valid = true) (w : World) (v : Bool) (hv : meetB r a b = v) :
    Calls Tryd.prog 45 #[rulesV r, a.v, b.v] w fun o w' => o = .returned (.bool v) ∧ Below w.heap.size w w' := by
  subst hv
  exact meet_any r hr a b ha hb va vb w
/-- between two rounds: the map, the sets that have been laid, the room for the result -/
structure MQ (w W : World) (r : Nat → Int) (gs : List Gar) (N k : Nat) (seen : List Gar) : Prop where
  K : Known W (w.heap.size + 1) N r gs seen
  S : ∀ j, j < 8 → W.cell? ⟨w.heap.size + 1 + 1, j, none⟩ = some (.int .u8 (msOf r gs k j)) ∧ W.frozen? ⟨w.heap.size + 1 + 1, j, none⟩ = false
  R : ∀ j, j < 8 → W.cell? ⟨w.heap.size, j, none⟩ = some (.int .u8 0) ∧ W.frozen? ⟨w.heap.size, j, none⟩ = false
  B : Below w.heap.size w W
  z : w.heap.size + 1 + 1 < W.heap.size
theorem grown_of_below {w w' : World} (h : Below w.heap.size w w') : w.grownBy w' none := ⟨h.os, h.tape, h.output, h.size, fun k hk _ => h.block k hk⟩
theorem MQ.next {w W V : World} {r : Nat → Int} {gs : List Gar} {N k : Nat} {seen : List Gar} (h : MQ w W r gs N k seen) (hb : Below W.heap.size W V) : MQ w V r gs N k seen := by
  have hz := h.z
  exact ⟨h.K.kept (grown_of_below hb) (by simp), fun j hj => ⟨(hb.cell (p := ⟨w.heap.size + 1 + 1, j, none⟩) hz).trans (h.S j hj).1, (hb.frozen (p := ⟨w.heap.size + 1 + 1, j, none⟩) hz).trans (h.S j hj).2⟩,
    fun j hj => ⟨(hb.cell (p := ⟨w.heap.size, j, none⟩) (by show w.heap.size < _; omega)).trans (h.R j hj).1, (hb.frozen (p := ⟨w.heap.size, j, none⟩) (by show w.heap.size < _; omega)).trans (h.R j hj).2⟩,
    h.B.trans (hb.mono h.B.size), Nat.lt_of_lt_of_le hz hb.size⟩
theorem MQ.alloc {w W : World} {r : Nat → Int} {gs : List Gar} {N k : Nat} {seen : List Gar} (h : MQ w W r gs N k seen) (o : Obj) : MQ w (W.alloc o) r gs N k seen := h.next ((Below.refl _ _).alloc (Nat.le_refl _) _)
theorem MQ.turn {w W V : World} {r : Nat → Int} {gs : List Gar} {N N' k : Nat} {seen seen' : List Gar} (h : MQ w W r gs N k seen) (hg : W.grownBy V (some (w.heap.size + 1))) (hK : Known V (w.heap.size + 1) N' r gs seen') : MQ w V r gs N' k seen' := by
  have hz := h.z
  have c : ∀ p : Addr, p.block < W.heap.size → p.block ≠ w.heap.size + 1 → V.heap[p.block]? = W.heap[p.block]? := fun p h1 h2 => hg.block _ h1 (fun e => h2 (Option.some.inj e))
  have cc : ∀ p : Addr, p.block < W.heap.size → p.block ≠ w.heap.size + 1 → V.cell? p = W.cell? p := fun p h1 h2 => by unfold World.cell?; rw [c p h1 h2]
  have cf : ∀ p : Addr, p.block < W.heap.size → p.block ≠ w.heap.size + 1 → V.frozen? p = W.frozen? p := fun p h1 h2 => by unfold World.frozen?; rw [c p h1 h2]
  refine ⟨hK, fun j hj => ⟨(cc ⟨w.heap.size + 1 + 1, j, none⟩ hz (by show w.heap.size + 1 + 1 ≠ _; omega)).trans (h.S j hj).1, (cf ⟨w.heap.size + 1 + 1, j, none⟩ hz (by show w.heap.size + 1 + 1 ≠ _; omega)).trans (h.S j hj).2⟩,
    fun j hj => ⟨(cc ⟨w.heap.size, j, none⟩ (by show w.heap.size < _; omega) (by show w.heap.size ≠ _; omega)).trans (h.R j hj).1, (cf ⟨w.heap.size, j, none⟩ (by show w.heap.size < _; omega) (by show w.heap.size ≠ _; omega)).trans (h.R j hj).2⟩,
    h.B.grown hg h.B.size (fun k e => by cases e; omega), Nat.lt_of_lt_of_le hz hg.size⟩
theorem MQ.seen {w W : World} {r : Nat → Int} {gs : List Gar} {N N' k : Nat} {s s' : List Gar} (h : MQ w W r gs N k s) (hN : N ≤ N') (hs : ∀ y, y ∈ s ↔ y ∈ s') : MQ w W r gs N' k s' := by
  obtain ⟨⟨D, h1, h2⟩, b, c, d, e⟩ := h
  exact ⟨⟨D, h1.mono hN, fun y l hl => ⟨fun hy => (h2 y l hl).1 ((hs y).2 hy), fun hy => (h2 y l hl).2 fun q => hy ((hs y).1 q)⟩⟩, b, c, d, e⟩
theorem MQ.store {w W : World} {r : Nat → Int} {gs : List Gar} {N k : Nat} {seen : List Gar} (h : MQ w W r gs N k seen) (hk : k < 8) {x : Gar} (hx : gs[k]? = some x) : MQ w (W.setCell ⟨w.heap.size + 1 + 1, k, none⟩ (.int .u8 (setOf r gs x gs.length))) r gs N (k + 1) seen := by
  have hz := h.z
  refine ⟨?_, fun j hj => ⟨?_, by rw [World.frozen?_setCell]; exact (h.S j hj).2⟩, fun j hj => ⟨(World.cell?_setCell_far _ _ _ _ (by show w.heap.size + 1 + 1 ≠ w.heap.size; omega)).trans (h.R j hj).1, by rw [World.frozen?_setCell]; exact (h.R j hj).2⟩,
    h.B.setCell (p := ⟨w.heap.size + 1 + 1, k, none⟩) (by show w.heap.size ≤ w.heap.size + 1 + 1; omega) _, by rw [World.size_setCell]; exact hz⟩
  · obtain ⟨D, h1, h2⟩ := h.K
    exact ⟨D, h1.setCell (by show w.heap.size + 1 ≠ w.heap.size + 1 + 1; omega) _, h2⟩
  · by_cases e : j = k
    · subst e
      rw [World.cell?_setCell_same' _ _ _ (by rw [(h.S j hj).1]; rfl), msOf, if_pos (Nat.lt_succ_self j), hx]
      rfl
    · have hne : (⟨w.heap.size + 1 + 1, k, none⟩ : Addr) ≠ ⟨w.heap.size + 1 + 1, j, none⟩ := fun e2 => e (by injection e2 with _ e3 _; exact e3.symm)
      have hc : (W.setCell ⟨w.heap.size + 1 + 1, k, none⟩ (.int .u8 (setOf r gs x gs.length))).cell? ⟨w.heap.size + 1 + 1, j, none⟩ = W.cell? ⟨w.heap.size + 1 + 1, j, none⟩ := by first | exact World.cell?_setCell_other _ hne | exact World.cell?_setCell_other _ _ _ hne | exact World.cell?_setCell_other _ _ _ _ hne
      rw [hc, (h.S j hj).1]
      have e3 : msOf r gs (k + 1) j = msOf r gs k j := by
        unfold msOf
        by_cases h1 : j < k
        · rw [if_pos h1, if_pos (by omega)]
        · rw [if_neg h1, if_neg (by omega)]
      rw [e3]
abbrev zero8 : Array Value := #[.int .u8 0, .int .u8 0, .int .u8 0, .int .u8 0, .int .u8 0, .int .u8 0, .int .u8 0, .int .u8 0]
theorem zero8_at : ∀ j, j < 8 → zero8[j]? = some (.int .u8 0)
  | 0, _ => rfl
  | 1, _ => rfl
  | 2, _ => rfl
  | 3, _ => rfl
  | 4, _ => rfl
  | 5, _ => rfl
  | 6, _ => rfl
  | 7, _ => rfl
theorem or_pow (a q : Nat) (ha : a < 256) (hq : q < 8) : bits BinOp.or IntKind.u8 (a : Int) (2 ^ q % 256) = ((a ||| 2 ^ q : Nat) : Int) := by
  have h2 : 2 ^ q < 256 := Nat.pow_lt_pow_right (by decide) hq
  obtain ⟨p, hp⟩ : ∃ p : Nat, p = 2 ^ q := ⟨_, rfl⟩
  have e1 : ((2 : Int) ^ q) = (p : Int) := by rw [hp]; simp
  rw [← hp] at h2 ⊢
  rw [e1]
  have e : ((p : Int) % 256) = (p : Int) := by omega
  rw [e]
  exact (bits_nat .u8 8 (by decide) (fun n h0 h1 => by rw [IntKind.wrap_u8]; omega) a p ha h2).2
set_option maxRecDepth 100000 in
set_option maxHeartbeats 8000000 in
theorem meetingSets_any (r : Nat → Int) (hr : Six r) (A : Option Addr) (n c : Nat) (gs : List Gar) (en : n = gs.length) (hn : n ≤ 8) (hv : ∀ x ∈ gs, x.valid = true) (w : World) (hg : GS w w.heap.size A gs) :
    Calls Tryd.prog 66 #[.func (.func 45) #[rulesV r] #[], .slice A n c] w fun o w' => o = .returned (eightV (msOf r gs n)) ∧ Below w.heap.size w w' := by
  have En := Lib.hid en
  clear en
  have hmm := @run_makeMap Tryd.prog
  go_enter Tryd.func66, Tryd.ntmps66
  go_wp2_with fail
  go_loopw [16] (fun vi wr => ∃ k : Nat, k ≤ n ∧ vi = .int .i64 k ∧ MQ w wr r gs k k (gs.take k)) (fun vi _ => n - (intOf vi).toNat)
  case atStart =>
    have e1 : (w.alloc (.cells zero8 66)).heap.size = w.heap.size + 1 := by simp
    have e2 : ((w.alloc (.cells zero8 66)).alloc (.map #[] 0)).heap.size = w.heap.size + 1 + 1 := by simp
    have h1 := heap_alloc_new (w.alloc (.cells zero8 66)) (.map #[] 0)
    have h2 := heap_alloc_new ((w.alloc (.cells zero8 66)).alloc (.map #[] 0)) (.cells zero8 66)
    rw [e1] at h1
    rw [e2] at h2
    have h0 : (((w.alloc (.cells zero8 66)).alloc (.map #[] 0)).alloc (.cells zero8 66)).heap[w.heap.size]? = some (.cells zero8 66) := (heap_alloc_old _ _ _ (by omega)).trans ((heap_alloc_old _ _ _ (by omega)).trans (heap_alloc_new w _))
    have hK : Known ((w.alloc (.cells zero8 66)).alloc (.map #[] 0)) (w.heap.size + 1) 0 r gs [] := by
      have := Known.new (w.alloc (.cells zero8 66)) r gs
      rwa [e1] at this
    refine ⟨0, by omega, rfl, hK.kept (World.grownBy_alloc _ _ none) (by simp), fun j hj => ⟨(cell_of_row _ _ _ _ _ _ h2).trans ?_, ?_⟩, fun j hj => ⟨(cell_of_row _ _ _ _ _ _ h0).trans ?_, ?_⟩, (((Below.refl _ w).alloc (Nat.le_refl _) _).alloc (by simp) _).alloc (by simp; omega) _, by simp⟩
    · rw [zero8_at j hj]; rfl
    · unfold World.frozen?; rw [h2]; rfl
    · exact zero8_at j hj
    · unfold World.frozen?; rw [h0]; rfl
  case round =>
    obtain ⟨k, hk, rfl, hQ⟩ := hrel
    have HQ := Lib.hid hQ
    have hz := hQ.z
    clear hQ hmm
    obtain ⟨wo, rfl⟩ : ∃ wo, wo = wr := ⟨wr, rfl⟩
    by_cases hlt : k < n
    · obtain ⟨x, hx⟩ : ∃ x, gs[k]? = some x := ⟨gs[k]'(by have := En.out; omega), List.getElem?_eq_getElem _⟩
      obtain ⟨a, ea, hab, hg0, hg1, hg2, hg3⟩ := (hg.below HQ.out.B).at_ k x hx
      subst ea
      have hxf := hg.fits x (List.mem_of_getElem? hx)
      have hxv := hv x (List.mem_of_getElem? hx)
      have HX := Lib.hid hx
      have i0 : (0 : Int) ≤ (k : Int) := by omega
      have i1 : (k : Int) < (n : Int) := by omega
      have i2 : (k : Int) < 8 := by omega
      have HQ1 := Lib.hid (HQ.out.alloc (.cells #[.int .u8 x.c, .int .i8 x.n, .int .i8 x.m, .int .i16 x.g] 56))
      obtain ⟨l1, l2⟩ := HQ1.out.K.look x hxf
      obtain ⟨s1, s2⟩ := HQ.out.S k (by omega)
      have etk := Lib.hid (take_snoc hx)
      clear hx
      by_cases hin : x ∈ gs.take k
      · have hl := l1 hin
        have HIN := Lib.hid hin
        clear l1 l2 hin
        go_wp2_with fail
        go_roundw
        case rel =>
          refine ⟨k + 1, by omega, by go_num, ?_⟩
          refine (((HQ.out.store (by omega) HX.out).alloc _).seen (Nat.le_succ _) fun y => ?_)
          rw [etk.out, List.mem_append, List.mem_singleton]
          exact ⟨.inl, fun h => h.elim id fun e => by rw [e]; exact HIN.out⟩
        case measure => simp [intOf]; omega
      · have hl := l2 hin
        have HIN := Lib.hid hin
        clear l1 l2 hin
        go_wp2_with fail
        obtain ⟨w1, hw1⟩ : ∃ w1, w1 = wo.alloc (.cells #[.int .u8 x.c, .int .i8 x.n, .int .i8 x.m, .int .i16 x.g] 56) := ⟨_, rfl⟩
        rw [← hw1] at HQ1 ⊢
        have q0 : w1.cell? ⟨wo.heap.size, 0, none⟩ = some (.int .u8 x.c) := by rw [hw1]; exact cell_of_row _ _ _ _ _ _ (heap_alloc_new wo _)
        have q1 : w1.cell? ⟨wo.heap.size, 1, none⟩ = some (.int .i8 x.n) := by rw [hw1]; exact cell_of_row _ _ _ _ _ _ (heap_alloc_new wo _)
        have q2 : w1.cell? ⟨wo.heap.size, 2, none⟩ = some (.int .i8 x.m) := by rw [hw1]; exact cell_of_row _ _ _ _ _ _ (heap_alloc_new wo _)
        have q3 : w1.cell? ⟨wo.heap.size, 3, none⟩ = some (.int .i16 x.g) := by rw [hw1]; exact cell_of_row _ _ _ _ _ _ (heap_alloc_new wo _)
        have hz1 : wo.heap.size < w1.heap.size := by rw [hw1]; simp
        clear hl hg0 hg1 hg2 hg3 s1 s2 hw1
        go_loopw [9, 31] (fun vs vq wz => ∃ q : Nat, q ≤ n ∧ vq = .int .i64 q ∧ vs = .int .u8 (setOf r gs x q) ∧ Below w1.heap.size w1 wz) (fun _ vq _ => n - (intOf vq).toNat)
        case atStart => exact ⟨0, by omega, rfl, rfl, Below.refl _ _⟩
        case round =>
          obtain ⟨q, hq, rfl, rfl, hb⟩ := hrel
          by_cases hqn : q < n
          · obtain ⟨y, hy⟩ : ∃ y, gs[q]? = some y := ⟨gs[q]'(by have := En.out; omega), List.getElem?_eq_getElem _⟩
            obtain ⟨a', ea', hab', hga'⟩ := (hg.below (HQ1.out.B.trans (hb.mono HQ1.out.B.size))).at_ q y hy
            obtain rfl := Option.some.inj ea'
            obtain ⟨p0, p1, p2, p3⟩ := hga'
            have hyf := hg.fits y (List.mem_of_getElem? hy)
            have hyv := hv y (List.mem_of_getElem? hy)
            have HY := Lib.hid hy
            have HBz := Lib.hid hb
            have r0 := (hb.cell (p := ⟨wo.heap.size, 0, none⟩) hz1).trans q0
            have r1 := (hb.cell (p := ⟨wo.heap.size, 1, none⟩) hz1).trans q1
            have r2 := (hb.cell (p := ⟨wo.heap.size, 2, none⟩) hz1).trans q2
            have r3 := (hb.cell (p := ⟨wo.heap.size, 3, none⟩) hz1).trans q3
            have j0 : (0 : Int) ≤ (q : Int) := by omega
            have j1 : (q : Int) < (n : Int) := by omega
            have hlt2 := setOf_lt r gs x q (by omega)
            have hwz := hb.size
            have hoz : wo.heap.size < wr.heap.size := by omega
            have hoz2 : ¬ wo.heap.size = wr.heap.size := by omega
            have hoz3 : ¬ wr.heap.size = wo.heap.size := by omega
            clear q0 q1 q2 q3 hb hy ea'
            cases hv2 : meetB r x y with
            | true =>
              have HV := Lib.hid hv2
              clear hv2
              go_wp2_with (go_at_call 45; refine (meet_v r hr x y hxf hyf hxv hyv _ true HV.out).mono ?_; rintro o w3 ⟨rfl, hb3⟩)
              go_roundw
              case rel => exact ⟨q + 1, by omega, by go_num, by rw [or_pow _ _ hlt2 (by omega), setOf_yes HY.out HV.out], HBz.out.trans (((Below.refl _ _).alloc (Nat.le_refl _) _).trans (hb3.mono (by simp)) |>.mono hwz)⟩
              case measure => simp [intOf]; omega
            | false =>
              have HV := Lib.hid hv2
              clear hv2
              go_wp2_with (go_at_call 45; refine (meet_v r hr x y hxf hyf hxv hyv _ false HV.out).mono ?_; rintro o w3 ⟨rfl, hb3⟩)
              go_roundw
              case rel => exact ⟨q + 1, by omega, by go_num, by rw [setOf_no HY.out HV.out], HBz.out.trans (((Below.refl _ _).alloc (Nat.le_refl _) _).trans (hb3.mono (by simp)) |>.mono hwz)⟩
              case measure => simp [intOf]; omega
          · obtain rfl : q = n := by omega
            have HQ2 := Lib.hid (HQ1.out.next hb)
            obtain ⟨w4, hput, hK4, hg4⟩ := HQ2.out.K.put (by unfold maxLen; omega) (by have := En.out; omega) x hxf
            rw [← En.out] at hput
            have HQ4 := Lib.hid (HQ2.out.turn hg4 hK4)
            obtain ⟨s1, s2⟩ := HQ4.out.S k (by omega)
            have r0 := (hb.cell (p := ⟨wo.heap.size, 0, none⟩) hz1).trans q0
            have r1 := (hb.cell (p := ⟨wo.heap.size, 1, none⟩) hz1).trans q1
            have r2 := (hb.cell (p := ⟨wo.heap.size, 2, none⟩) hz1).trans q2
            have r3 := (hb.cell (p := ⟨wo.heap.size, 3, none⟩) hz1).trans q3
            clear q0 q1 q2 q3 hb hK4 hg4
            go_wp2_with fail
            go_roundw
            case rel =>
              have h5 := HQ4.out.store (by omega) HX.out
              rw [← En.out, ← etk.out] at h5
              exact ⟨k + 1, by omega, by go_num, h5⟩
            case measure => simp [intOf]; omega
    · obtain rfl : k = n := by omega
      obtain ⟨sa0, sb0⟩ := HQ.out.S 0 (by omega)
      obtain ⟨ra0, rb0⟩ := HQ.out.R 0 (by omega)
      obtain ⟨sa1, sb1⟩ := HQ.out.S 1 (by omega)
      obtain ⟨ra1, rb1⟩ := HQ.out.R 1 (by omega)
      obtain ⟨sa2, sb2⟩ := HQ.out.S 2 (by omega)
      obtain ⟨ra2, rb2⟩ := HQ.out.R 2 (by omega)
      obtain ⟨sa3, sb3⟩ := HQ.out.S 3 (by omega)
      obtain ⟨ra3, rb3⟩ := HQ.out.R 3 (by omega)
      obtain ⟨sa4, sb4⟩ := HQ.out.S 4 (by omega)
      obtain ⟨ra4, rb4⟩ := HQ.out.R 4 (by omega)
      obtain ⟨sa5, sb5⟩ := HQ.out.S 5 (by omega)
      obtain ⟨ra5, rb5⟩ := HQ.out.R 5 (by omega)
      obtain ⟨sa6, sb6⟩ := HQ.out.S 6 (by omega)
      obtain ⟨ra6, rb6⟩ := HQ.out.R 6 (by omega)
      obtain ⟨sa7, sb7⟩ := HQ.out.S 7 (by omega)
      obtain ⟨ra7, rb7⟩ := HQ.out.R 7 (by omega)
      go_wp2_with fail
      obtain ⟨V, hV⟩ : ∃ V, V = wo.setCells w.heap.size 0 [.int .u8 (msOf r gs k 0), .int .u8 (msOf r gs k 1), .int .u8 (msOf r gs k 2), .int .u8 (msOf r gs k 3), .int .u8 (msOf r gs k 4), .int .u8 (msOf r gs k 5), .int .u8 (msOf r gs k 6), .int .u8 (msOf r gs k 7)] := ⟨_, rfl⟩
      have hbV : Below w.heap.size w V := by rw [hV]; exact below_setCells HQ.out.B (Nat.le_refl _) _ _
      have hcV : ∀ (j : Nat) (hj : j < 8), V.cell? ⟨w.heap.size, j, none⟩ = some ([Value.int .u8 (msOf r gs k 0), .int .u8 (msOf r gs k 1), .int .u8 (msOf r gs k 2), .int .u8 (msOf r gs k 3), .int .u8 (msOf r gs k 4), .int .u8 (msOf r gs k 5), .int .u8 (msOf r gs k 6), .int .u8 (msOf r gs k 7)][j]'hj) := fun j hj => by
        have h := World.cell?_setCells_in w.heap.size [.int .u8 (msOf r gs k 0), .int .u8 (msOf r gs k 1), .int .u8 (msOf r gs k 2), .int .u8 (msOf r gs k 3), .int .u8 (msOf r gs k 4), .int .u8 (msOf r gs k 5), .int .u8 (msOf r gs k 6), .int .u8 (msOf r gs k 7)] 0 wo (fun i hi => by rw [Nat.zero_add, (HQ.out.R i hi).1]; rfl) j hj
        rw [Nat.zero_add] at h
        rw [hV]
        exact h
      have hV2 := hV
      simp only [World.setCells, Nat.reduceAdd] at hV2
      rw [← hV2]
      have d0 := hcV 0 (by omega)
      have d1 := hcV 1 (by omega)
      have d2 := hcV 2 (by omega)
      have d3 := hcV 3 (by omega)
      have d4 := hcV 4 (by omega)
      have d5 := hcV 5 (by omega)
      have d6 := hcV 6 (by omega)
      have d7 := hcV 7 (by omega)
      clear hV hV2 hcV
      refine bodyPost_ret (v := eightV (msOf r gs k)) ?_ rfl ⟨rfl, hbV⟩
      simp only [List.getElem_cons_zero, List.getElem_cons_succ] at d0 d1 d2 d3 d4 d5 d6 d7
      simp [results, Tryd.results66, go_sem, d0, d1, d2, d3, d4, d5, d6, d7]
end Go.Proofs.YtdafnibmoggcnaaDoor.mem

/-
  Contracts of the program's small functions for loads, and of the model's IsLoad.
-/
namespace Go.Proofs.YtdafnibmoggcnaaDoor.load
open Go.RowKit errs garS heats meet

theorem checkHold_any (hold : Int) {w : World} {B : Nat} {e : Nat → Addr} (h : Errs w B e) :
    Calls Tryd.prog 36 #[.int .i64 hold] w fun o w' => o = .returned (errOf e (if 1 ≤ hold ∧ hold ≤ 20000 then 0 else 2)) ∧ w = w' := by
  go_enter Tryd.func36, Tryd.ntmps36
  go_wp2_with fail
  refine (checkWithin_any hold 1 20000 h).mono ?_
  rintro o w1 ⟨rfl, rfl⟩
  go_wp2_with fail
  all_goals go_ret
  all_goals exact ⟨rfl, rfl⟩
theorem pow_all (n : Nat) (hn : n ≤ 8) : IntKind.u8.wrap (IntKind.u8.wrap (2 ^ n : Int) - 1) = ((2 ^ n - 1 : Nat) : Int) := by
  match n, hn with
  | 0, _ => decide
  | 1, _ => decide
  | 2, _ => decide
  | 3, _ => decide
  | 4, _ => decide
  | 5, _ => decide
  | 6, _ => decide
  | 7, _ => decide
  | 8, _ => decide
theorem all_any (A : Option Addr) (n c : Nat) (hn : n ≤ 8) (m : Nat → Int) (hold : Int) (w : World) :
    Calls Tryd.prog 41 #[mem.bV A n c m hold] w fun o w' => o = .returned (.int .u8 ((2 ^ n - 1 : Nat) : Int)) ∧ Below w.heap.size w w' := by
  match n, hn with
  | 0, _ =>
    go_enter Tryd.func41, Tryd.ntmps41
    go_wp2_with fail
    go_ret
    exact ⟨rfl, (Below.refl _ _).alloc (Nat.le_refl _) _⟩

  | 1, _ =>
    go_enter Tryd.func41, Tryd.ntmps41
    go_wp2_with fail
    go_ret
    exact ⟨rfl, (Below.refl _ _).alloc (Nat.le_refl _) _⟩

  | 2, _ =>
    go_enter Tryd.func41, Tryd.ntmps41
    go_wp2_with fail
    go_ret
    exact ⟨rfl, (Below.refl _ _).alloc (Nat.le_refl _) _⟩

  | 3, _ =>
    go_enter Tryd.func41, Tryd.ntmps41
    go_wp2_with fail
    go_ret
    exact ⟨rfl, (Below.refl _ _).alloc (Nat.le_refl _) _⟩

  | 4, _ =>
    go_enter Tryd.func41, Tryd.ntmps41
    go_wp2_with fail
    go_ret
    exact ⟨rfl, (Below.refl _ _).alloc (Nat.le_refl _) _⟩

  | 5, _ =>
    go_enter Tryd.func41, Tryd.ntmps41
    go_wp2_with fail
    go_ret
    exact ⟨rfl, (Below.refl _ _).alloc (Nat.le_refl _) _⟩

  | 6, _ =>
    go_enter Tryd.func41, Tryd.ntmps41
    go_wp2_with fail
    go_ret
    exact ⟨rfl, (Below.refl _ _).alloc (Nat.le_refl _) _⟩

  | 7, _ =>
    go_enter Tryd.func41, Tryd.ntmps41
    go_wp2_with fail
    go_ret
    exact ⟨rfl, (Below.refl _ _).alloc (Nat.le_refl _) _⟩

  | 8, _ =>
    go_enter Tryd.func41, Tryd.ntmps41
    go_wp2_with fail
    go_ret
    exact ⟨rfl, (Below.refl _ _).alloc (Nat.le_refl _) _⟩

theorem ask_valid {r : Nat → Int} {gs : List Gar} {fine : Bool} (h : 0 = codeAsk r gs fine) : ∀ x ∈ gs, x.valid = true := by
  unfold codeAsk at h
  split at h
  · unfold codeAll at h
    split at h
    · rename_i h2
      exact List.all_eq_true.1 h2
    · omega
  · omega
theorem ask_colour {r : Nat → Int} {gs : List Gar} {fine : Bool} (h : 0 = codeAsk r gs fine) : ∀ x ∈ gs, x.c < 6 := fun x hx => (valid_parts (ask_valid h x hx)).1
/-- the rules in their box -/
abbrev LS (r : Nat → Int) (w u : World) : Prop := SixAt r w.heap.size u ∧ w.heap.size < u.heap.size ∧ Below w.heap.size w u
theorem LS.next {r : Nat → Int} {w u v : World} (h : LS r w u) (hb : Below u.heap.size u v) : LS r w v := ⟨h.1.to hb h.2.1, Nat.lt_of_lt_of_le h.2.1 hb.size, h.2.2.trans (hb.mono h.2.2.size)⟩
end Go.Proofs.YtdafnibmoggcnaaDoor.load

/-
  Contract of the program's newBasket.
-/
namespace Go.Proofs.YtdafnibmoggcnaaDoor.mem
open Go Go.RowKit errs garS heats meet load

abbrev zero10 : Array Value := #[.slice none 0 0, .int .u8 0, .int .u8 0, .int .u8 0, .int .u8 0, .int .u8 0, .int .u8 0, .int .u8 0, .int .u8 0, .int .i64 0]
theorem zero10_some : ∀ j, j < 10 → (zero10[j]?).isSome = true := fun j hj => by
  have : j < zero10.size := hj
  simp [Array.getElem?_eq_getElem this]
set_option maxRecDepth 100000 in
set_option maxHeartbeats 4000000 in
theorem newBasket_any (r : Nat → Int) (hr : Six r) (hold : Int) (A : Option Addr) (n c : Nat) (gs : List Gar) (en : n = gs.length) (hn : n ≤ 8) (hv : ∀ x ∈ gs, x.valid = true) (w : World) (hg : GS w w.heap.size A gs) :
    Calls Tryd.prog 39 #[rulesV r, .int .i64 hold, .slice A n c] w fun o w' => o = .returned (bV A n c (msOf r gs n) hold) ∧ Below w.heap.size w w' := by
  have En := Lib.hid en
  clear en
  have h6 := SixAt.new r w 28
  obtain ⟨s0, s1, s2, s3, s4, s5⟩ := h6
  go_enter Tryd.func39, Tryd.ntmps39
  go_wp2_with fail
  have e1 : (w.alloc (.cells (rulesCs r) 28)).heap.size = w.heap.size + 1 := by simp
  have hn2 := heap_alloc_new (w.alloc (.cells (rulesCs r) 28)) (.cells zero10 68)
  rw [e1] at hn2
  have hB1 : Below w.heap.size w ((w.alloc (.cells (rulesCs r) 28)).alloc (.cells zero10 68)) := ((Below.refl _ w).alloc (Nat.le_refl _) _).alloc (by simp) _
  refine (meetingSets_any r hr A n c gs En.out hn hv _ ((hg.below hB1).more hB1.size)).mono ?_
  rintro o w2 ⟨rfl, hb2⟩
  have hcf : ∀ j, j < 10 → w2.cell? ⟨w.heap.size + 1, j, none⟩ = zero10[j]? ∧ w2.frozen? ⟨w.heap.size + 1, j, none⟩ = false := fun j hj => by
    have hlt : w.heap.size + 1 < ((w.alloc (.cells (rulesCs r) 28)).alloc (.cells zero10 68)).heap.size := by simp
    refine ⟨(hb2.cell (p := ⟨w.heap.size + 1, j, none⟩) hlt).trans (cell_of_row _ _ _ _ _ _ hn2), (hb2.frozen (p := ⟨w.heap.size + 1, j, none⟩) hlt).trans ?_⟩
    unfold World.frozen?
    rw [hn2]
    rfl
  have B2 := Lib.hid (hB1.trans (hb2.mono hB1.size))
  have HCF := Lib.hid hcf
  obtain ⟨c0, f0⟩ := hcf 0 (by omega)
  obtain ⟨c1, f1⟩ := hcf 1 (by omega)
  obtain ⟨c2, f2⟩ := hcf 2 (by omega)
  obtain ⟨c3, f3⟩ := hcf 3 (by omega)
  obtain ⟨c4, f4⟩ := hcf 4 (by omega)
  obtain ⟨c5, f5⟩ := hcf 5 (by omega)
  obtain ⟨c6, f6⟩ := hcf 6 (by omega)
  obtain ⟨c7, f7⟩ := hcf 7 (by omega)
  obtain ⟨c8, f8⟩ := hcf 8 (by omega)
  obtain ⟨c9, f9⟩ := hcf 9 (by omega)
  clear hcf hb2 hB1 s0 s1 s2 s3 s4 s5 hn2
  go_wp2_with fail
  obtain ⟨V, hV⟩ : ∃ V, V = w2.setCells (w.heap.size + 1) 0 [.slice A n c, .int .u8 (msOf r gs n 0), .int .u8 (msOf r gs n 1), .int .u8 (msOf r gs n 2), .int .u8 (msOf r gs n 3), .int .u8 (msOf r gs n 4), .int .u8 (msOf r gs n 5), .int .u8 (msOf r gs n 6), .int .u8 (msOf r gs n 7), .int .i64 hold] := ⟨_, rfl⟩
  have hbV : Below w.heap.size w V := by rw [hV]; exact below_setCells B2.out (Nat.le_succ _) _ _
  have hcV : ∀ (j : Nat) (hj : j < 10), V.cell? ⟨w.heap.size + 1, j, none⟩ = some ([Value.slice A n c, .int .u8 (msOf r gs n 0), .int .u8 (msOf r gs n 1), .int .u8 (msOf r gs n 2), .int .u8 (msOf r gs n 3), .int .u8 (msOf r gs n 4), .int .u8 (msOf r gs n 5), .int .u8 (msOf r gs n 6), .int .u8 (msOf r gs n 7), .int .i64 hold][j]'hj) := fun j hj => by
    have h := World.cell?_setCells_in (w.heap.size + 1) [.slice A n c, .int .u8 (msOf r gs n 0), .int .u8 (msOf r gs n 1), .int .u8 (msOf r gs n 2), .int .u8 (msOf r gs n 3), .int .u8 (msOf r gs n 4), .int .u8 (msOf r gs n 5), .int .u8 (msOf r gs n 6), .int .u8 (msOf r gs n 7), .int .i64 hold] 0 w2 (fun i hi => by rw [Nat.zero_add, (HCF.out i hi).1]; exact zero10_some i hi) j hj
    rw [Nat.zero_add] at h
    rw [hV]
    exact h
  have hV2 := hV
  simp only [World.setCells, Nat.reduceAdd] at hV2
  rw [← hV2]
  have d0 := hcV 0 (by omega)
  have d1 := hcV 1 (by omega)
  have d2 := hcV 2 (by omega)
  have d3 := hcV 3 (by omega)
  have d4 := hcV 4 (by omega)
  have d5 := hcV 5 (by omega)
  have d6 := hcV 6 (by omega)
  have d7 := hcV 7 (by omega)
  have d8 := hcV 8 (by omega)
  have d9 := hcV 9 (by omega)
  clear hV hV2 hcV
  refine bodyPost_ret (v := bV A n c (msOf r gs n) hold) ?_ rfl ⟨rfl, hbV⟩
  simp only [List.getElem_cons_zero, List.getElem_cons_succ] at d0 d1 d2 d3 d4 d5 d6 d7 d8 d9
  simp [results, Tryd.results39, go_sem, d0, d1, d2, d3, d4, d5, d6, d7, d8, d9]
end Go.Proofs.YtdafnibmoggcnaaDoor.mem

/-
  Contract of the program's IsLoad.
-/
namespace Go.Proofs.YtdafnibmoggcnaaDoor.mem
open Go Go.RowKit errs garS heats meet load

theorem codeAsk4 (r : Nat → Int) (gs : List Gar) (hold : Int) (n k1 k2 k3 k4 : Nat) (fine : Bool) (en : n = gs.length) (hfine : fine = true ↔ (1 ≤ hold ∧ hold ≤ 20000)) (h1 : k1 = if validRB r = true then 0 else 1) (h2 : k2 = if gs.all Gar.valid = true then 0 else 1) (h3 : k3 = if 1 ≤ hold ∧ hold ≤ 20000 then 0 else 2) (h4 : k4 = if 8 < n then 3 else 0) :
    firstCode [k1, k2, k3, k4] = codeAsk r gs fine := by
  unfold codeAsk codeAll
  rw [← en]
  by_cases a1 : validRB r = true
  · rw [if_pos a1] at h1 ⊢
    by_cases a2 : gs.all Gar.valid = true
    · rw [if_pos a2] at h2 ⊢
      by_cases a3 : 1 ≤ hold ∧ hold ≤ 20000
      · rw [if_pos a3] at h3
        rw [if_pos (hfine.2 a3), h1, h2, h3, h4]
        split
        · rfl
        · rfl
      · rw [if_neg a3] at h3
        rw [if_neg (fun q => a3 (hfine.1 q)), h1, h2, h3]
        rfl
    · rw [if_neg a2] at h2 ⊢
      rw [h1, h2]
      rfl
  · rw [if_neg a1] at h1 ⊢
    rw [h1]
    rfl
theorem codeAsk_le (r : Nat → Int) (gs : List Gar) (fine : Bool) : codeAsk r gs fine ≤ 3 := by
  have := codeAll_le gs fine
  unfold codeAsk
  split <;> omega
theorem ask_len {r : Nat → Int} {gs : List Gar} {fine : Bool} (h : 0 = codeAsk r gs fine) : gs.length ≤ 8 := by
  unfold codeAsk at h
  split at h
  · unfold codeAll at h
    split at h
    · split at h
      · split at h
        · omega
        · omega
      · omega
    · omega
  · omega
theorem all_in (n : Nat) (hn : n ≤ 8) : ∀ i, i < 8 → (2 ^ n - 1).testBit i = true → i < n := fun i _ h => by
  rw [(two_pow_le n hn).2.2] at h
  simpa using h
/-- a basket in its box -/
abbrev BX (w : World) (q : Nat) (A : Option Addr) (n c : Nat) (m : Nat → Int) (hold : Int) (u : World) : Prop := u.cell? ⟨q, 0, none⟩ = some (.slice A n c) ∧ u.cell? ⟨q, 1, none⟩ = some (.int .u8 (m 0)) ∧ u.cell? ⟨q, 2, none⟩ = some (.int .u8 (m 1)) ∧ u.cell? ⟨q, 3, none⟩ = some (.int .u8 (m 2)) ∧ u.cell? ⟨q, 4, none⟩ = some (.int .u8 (m 3)) ∧ u.cell? ⟨q, 5, none⟩ = some (.int .u8 (m 4)) ∧ u.cell? ⟨q, 6, none⟩ = some (.int .u8 (m 5)) ∧ u.cell? ⟨q, 7, none⟩ = some (.int .u8 (m 6)) ∧ u.cell? ⟨q, 8, none⟩ = some (.int .u8 (m 7)) ∧ u.cell? ⟨q, 9, none⟩ = some (.int .i64 hold) ∧ Below w.heap.size w u ∧ q < u.heap.size
theorem BX.next {w : World} {q : Nat} {A : Option Addr} {n c : Nat} {m : Nat → Int} {hold : Int} {u v : World} (h : BX w q A n c m hold u) (hb : Below u.heap.size u v) : BX w q A n c m hold v := by
  obtain ⟨c0, c1, c2, c3, c4, c5, c6, c7, c8, c9, hB, hq⟩ := h
  exact ⟨(hb.cell (p := ⟨q, 0, none⟩) hq).trans c0, (hb.cell (p := ⟨q, 1, none⟩) hq).trans c1, (hb.cell (p := ⟨q, 2, none⟩) hq).trans c2, (hb.cell (p := ⟨q, 3, none⟩) hq).trans c3, (hb.cell (p := ⟨q, 4, none⟩) hq).trans c4, (hb.cell (p := ⟨q, 5, none⟩) hq).trans c5, (hb.cell (p := ⟨q, 6, none⟩) hq).trans c6, (hb.cell (p := ⟨q, 7, none⟩) hq).trans c7, (hb.cell (p := ⟨q, 8, none⟩) hq).trans c8, (hb.cell (p := ⟨q, 9, none⟩) hq).trans c9, hB.trans (hb.mono hB.size), Nat.lt_of_lt_of_le hq hb.size⟩
theorem BX.b {w : World} {q : Nat} {A : Option Addr} {n c : Nat} {m : Nat → Int} {hold : Int} {u : World} (h : BX w q A n c m hold u) : Below w.heap.size w u := by
  obtain ⟨c0, c1, c2, c3, c4, c5, c6, c7, c8, c9, hB, hq⟩ := h
  exact hB
theorem BX.new {w : World} (A : Option Addr) (n c : Nat) (m : Nat → Int) (hold : Int) {u : World} (t : TypeId) (hB : Below w.heap.size w u) : BX w u.heap.size A n c m hold (u.alloc (.cells (bC A n c m hold) t)) := by
  have h : ∀ j, (u.alloc (.cells (bC A n c m hold) t)).cell? ⟨u.heap.size, j, none⟩ = (bC A n c m hold)[j]? := fun j => cell_of_row _ _ _ _ _ _ (heap_alloc_new u _)
  exact ⟨h 0, h 1, h 2, h 3, h 4, h 5, h 6, h 7, h 8, h 9, hB.alloc hB.size _, by simp⟩
end Go.Proofs.YtdafnibmoggcnaaDoor.mem

/-
  What fits with a load: pure.
-/
namespace Go.Proofs.YtdafnibmoggcnaaDoor.mem
open Go Go.RowKit errs garS heats meet load

/-- the code of rules, a load and garments -/
noncomputable def codeFit (r : Nat → Int) (gs hs : List Gar) (fine : Bool) : Nat := if validRB r = true then (if gs.all Gar.valid = true ∧ hs.all Gar.valid = true then (if fine = true then (if 8 < gs.length ∨ 8 < hs.length then 3 else 0) else 2) else 1) else 1
theorem codeFit_ask (r : Nat → Int) (gs hs : List Gar) (fine : Bool) : codeFit r gs hs fine = if codeAsk r (gs ++ hs) fine = 3 ∧ gs.length ≤ 8 ∧ hs.length ≤ 8 then 0 else codeAsk r (gs ++ hs) fine := by
  unfold codeFit codeAsk codeAll
  have hall : (gs ++ hs).all Gar.valid = true ↔ gs.all Gar.valid = true ∧ hs.all Gar.valid = true := by rw [List.all_append, Bool.and_eq_true]
  by_cases h1 : validRB r = true
  · rw [if_pos h1, if_pos h1]
    by_cases h2 : gs.all Gar.valid = true ∧ hs.all Gar.valid = true
    · rw [if_pos h2, if_pos (hall.2 h2)]
      by_cases h3 : fine = true
      · rw [if_pos h3, if_pos h3, List.length_append]
        by_cases h4 : 8 < gs.length ∨ 8 < hs.length
        · have e : (if gs.length + hs.length > 8 then 3 else 0) = 3 := if_pos (by omega)
          rw [if_pos h4, e, if_neg (by omega)]
        · rw [if_neg h4]
          by_cases h5 : gs.length + hs.length > 8
          · have e : (if gs.length + hs.length > 8 then 3 else 0) = 3 := if_pos h5
            rw [e, if_pos (by omega)]
          · have e : (if gs.length + hs.length > 8 then 3 else 0) = 0 := if_neg h5
            rw [e, if_neg (by omega)]
      · rw [if_neg h3, if_neg h3, if_neg (by omega)]
    · rw [if_neg h2, if_neg fun h => h2 (hall.1 h), if_neg (by omega)]
  · rw [if_neg h1, if_neg h1, if_neg (by omega)]
theorem codeFit_le (r : Nat → Int) (gs hs : List Gar) (fine : Bool) : codeFit r gs hs fine ≤ 3 := by
  unfold codeFit
  repeat' split
  all_goals omega
theorem codeFit6 (r : Nat → Int) (gs hs : List Gar) (hold : Int) (n m k1 k2 k3 k4 k5 k6 : Nat) (fine : Bool) (en : n = gs.length) (em : m = hs.length) (hfine : decide (1 ≤ hold ∧ hold ≤ 20000) = fine) (h1 : k1 = if validRB r = true then 0 else 1) (h2 : k2 = if gs.all Gar.valid = true then 0 else 1) (h3 : k3 = if hs.all Gar.valid = true then 0 else 1) (h4 : k4 = if 1 ≤ hold ∧ hold ≤ 20000 then 0 else 2) (h5 : k5 = if 8 < n then 3 else 0) (h6 : k6 = if 8 < m then 3 else 0) :
    firstCode [k1, k2, k3, k4, k5, k6] = codeFit r gs hs fine := by
  unfold codeFit
  rw [← en, ← em]
  by_cases a1 : validRB r = true
  · rw [if_pos a1] at h1 ⊢
    by_cases a2 : gs.all Gar.valid = true
    · rw [if_pos a2] at h2
      by_cases a3 : hs.all Gar.valid = true
      · rw [if_pos a3] at h3
        rw [if_pos ⟨a2, a3⟩]
        by_cases a4 : 1 ≤ hold ∧ hold ≤ 20000
        · rw [if_pos a4] at h4
          rw [if_pos (by rw [← hfine]; exact decide_eq_true a4), h1, h2, h3, h4, h5, h6]
          by_cases a5 : 8 < n
          · rw [if_pos a5, if_pos (show 8 < n ∨ 8 < m from Or.inl a5)]; rfl
          · by_cases a6 : 8 < m
            · rw [if_neg a5, if_pos a6, if_pos (show 8 < n ∨ 8 < m from Or.inr a6)]; rfl
            · rw [if_neg a5, if_neg a6, if_neg (by omega)]; rfl
        · rw [if_neg a4] at h4
          rw [if_neg (by rw [← hfine]; exact fun h => a4 (of_decide_eq_true h)), h1, h2, h3, h4]
          rfl
      · rw [if_neg a3] at h3
        rw [if_neg fun h => a3 h.2, h1, h2, h3]
        rfl
    · rw [if_neg a2] at h2
      rw [if_neg fun h => a2 h.1, h1, h2]
      rfl
  · rw [if_neg a1] at h1 ⊢
    rw [h1]
    rfl
theorem codeFit_zero {r : Nat → Int} {gs hs : List Gar} {fine : Bool} (h : codeFit r gs hs fine = 0) : validRB r = true ∧ (∀ x ∈ gs, Gar.valid x = true) ∧ (∀ x ∈ hs, Gar.valid x = true) ∧ fine = true ∧ gs.length ≤ 8 ∧ hs.length ≤ 8 := by
  unfold codeFit at h
  split at h
  · rename_i h1
    split at h
    · rename_i h2
      split at h
      · rename_i h3
        split at h
        · omega
        · exact ⟨h1, List.all_eq_true.1 h2.1, List.all_eq_true.1 h2.2, h3, by omega, by omega⟩
      · omega
    · omega
  · omega
theorem codeFit_load {r : Nat → Int} {gs hs : List Gar} {fine : Bool} (h : codeFit r gs hs fine = 0) : 0 = codeAsk r gs fine := by
  obtain ⟨h1, h2, _, h3, h4, _⟩ := codeFit_zero h
  unfold codeAsk codeAll
  rw [if_pos h1, if_pos (List.all_eq_true.2 h2), if_pos h3, if_neg (by omega)]
/-- is a load right -/
noncomputable def rightB (r : Nat → Int) (gs : List Gar) (hold : Int) : Bool := @decide (Pairs r gs ∧ wAll gs ≤ hold) (Classical.propDecidable _)
theorem rightB_iff (r : Nat → Int) (gs : List Gar) (hold : Int) : rightB r gs hold = true ↔ Pairs r gs ∧ wAll gs ≤ hold := by
  unfold rightB
  exact @decide_eq_true_iff _ (Classical.propDecidable _)
/-- can one more garment be added -/
def fitB (r : Nat → Int) (gs : List Gar) (hold : Int) (x : Gar) : Bool := gs.all (fun y => meetB r x y) && decide (x.g ≤ hold - wAll gs)
theorem wAll_one (gs : List Gar) (x : Gar) : wAll (gs ++ [x]) = wAll gs + x.g := by simp [wAll]
theorem pairs_one {r : Nat → Int} {gs : List Gar} (h : Pairs r gs) (x : Gar) : Pairs r (gs ++ [x]) ↔ ∀ y ∈ gs, meetB r x y = true := by
  constructor
  · intro hp y hy
    obtain ⟨k, hk⟩ := List.mem_iff_getElem?.1 hy
    have hkl := (List.getElem?_eq_some_iff.1 hk).1
    exact hp gs.length k x y hkl (by simp) (by rw [List.getElem?_append_left hkl]; exact hk)
  · intro hm i k a b hki ha hb
    have hil := (List.getElem?_eq_some_iff.1 ha).1
    rw [List.length_append, List.length_singleton] at hil
    have hbk : gs[k]? = some b := by rw [List.getElem?_append_left (by omega)] at hb; exact hb
    rcases Nat.lt_or_ge i gs.length with h1 | h1
    · rw [List.getElem?_append_left h1] at ha
      exact h i k a b hki ha hbk
    · have e : i = gs.length := by omega
      subst e
      simp at ha
      subst ha
      exact hm b (List.mem_of_getElem? hbk)
theorem fitB_iff {r : Nat → Int} {gs : List Gar} {hold : Int} (h : Pairs r gs) (x : Gar) : fitB r gs hold x = true ↔ Pairs r (gs ++ [x]) ∧ wAll (gs ++ [x]) ≤ hold := by
  rw [fitB, Bool.and_eq_true, List.all_eq_true, decide_eq_true_eq, pairs_one h, wAll_one]
  constructor
  · rintro ⟨a, b⟩; exact ⟨a, by omega⟩
  · rintro ⟨a, b⟩; exact ⟨a, by omega⟩
/-- those of the first k that can be added -/
def fitL (r : Nat → Int) (gs : List Gar) (hold : Int) (hs : List Gar) : Nat → List Int
  | 0 => []
  | k + 1 => fitL r gs hold hs k ++ (match hs[k]? with | some x => if fitB r gs hold x = true then [(k : Int)] else [] | none => [])
theorem fitL_le (r : Nat → Int) (gs : List Gar) (hold : Int) (hs : List Gar) : ∀ k, (fitL r gs hold hs k).length ≤ k
  | 0 => by simp [fitL]
  | k + 1 => by
    have := fitL_le r gs hold hs k
    rw [fitL, List.length_append]
    split
    · split <;> simp <;> omega
    · simp; omega
theorem fitL_yes {r : Nat → Int} {gs : List Gar} {hold : Int} {hs : List Gar} {k : Nat} {x : Gar} (hx : hs[k]? = some x) (h : fitB r gs hold x = true) : fitL r gs hold hs (k + 1) = fitL r gs hold hs k ++ [(k : Int)] := by
  rw [fitL, hx]
  simp only
  rw [if_pos h]
theorem fitL_no {r : Nat → Int} {gs : List Gar} {hold : Int} {hs : List Gar} {k : Nat} {x : Gar} (hx : hs[k]? = some x) (h : ¬ fitB r gs hold x = true) : fitL r gs hold hs (k + 1) = fitL r gs hold hs k := by
  rw [fitL, hx]
  simp only
  rw [if_neg h, List.append_nil]
/-- what is told -/
structure FitRes (r : Nat → Int) (gs hs : List Gar) (hold : Int) (fine : Bool) (ls : List Int) (code : Nat) : Prop where
  bad : codeFit r gs hs fine ≠ 0 → ls = [] ∧ code = codeFit r gs hs fine
  state : codeFit r gs hs fine = 0 → rightB r gs hold = false → ls = [] ∧ code = 4
  good : codeFit r gs hs fine = 0 → rightB r gs hold = true → ls = fitL r gs hold hs hs.length ∧ code = 0
theorem fitRes_exists (r : Nat → Int) (gs hs : List Gar) (hold : Int) (fine : Bool) : ∃ ls code, FitRes r gs hs hold fine ls code := by
  by_cases h : codeFit r gs hs fine = 0
  · cases hb : rightB r gs hold with
    | true => exact ⟨_, _, fun h1 => absurd h h1, fun _ h1 => (by cases hb.symm.trans h1), fun _ _ => ⟨rfl, rfl⟩⟩
    | false => exact ⟨_, _, fun h1 => absurd h h1, fun _ _ => ⟨rfl, rfl⟩, fun _ h1 => (by cases hb.symm.trans h1)⟩
  · exact ⟨_, _, fun _ => ⟨rfl, rfl⟩, fun h1 => absurd h1 h, fun h1 => absurd h1 h⟩
theorem FitRes.len {r : Nat → Int} {gs hs : List Gar} {hold : Int} {fine : Bool} {ls : List Int} {code : Nat} (h : FitRes r gs hs hold fine ls code) (hn : hs.length ≤ 1048576) : ls.length ≤ 1048576 := by
  by_cases hc : codeFit r gs hs fine = 0
  · cases hb : rightB r gs hold with
    | true => rw [(h.good hc hb).1]; exact Nat.le_trans (fitL_le _ _ _ _ _) hn
    | false => rw [(h.state hc hb).1]; simp
  · rw [(h.bad hc).1]; simp
end Go.Proofs.YtdafnibmoggcnaaDoor.mem

/-
  Sets of garments that numbers tell, in plain words.
-/
namespace Go.Proofs.YtdafnibmoggcnaaDoor.mem
open Go Go.RowKit garS heats meet load

/-- the garments ahead of j with the number k, as bits -/
def setK (ls : List Int) (k : Int) : Nat → Nat
  | 0 => 0
  | j + 1 => if ls[j]? = some k then setK ls k j ||| 2 ^ j else setK ls k j
theorem setK_bit (ls : List Int) (k : Int) : ∀ j i, (setK ls k j).testBit i = (decide (i < j) && decide (ls[i]? = some k))
  | 0, i => by simp [setK]
  | j + 1, i => by
    have ih := setK_bit ls k j i
    unfold setK
    by_cases h : ls[j]? = some k
    · rw [if_pos h, Nat.testBit_or, ih, Nat.testBit_two_pow]
      by_cases e : j = i
      · subst e; simp [h]
      · by_cases h1 : i < j
        · simp [h1, e, show i < j + 1 by omega]
        · simp [h1, e, show ¬ i < j + 1 by omega]
    · rw [if_neg h, ih]
      by_cases e : i = j
      · subst e; simp [h]
      · by_cases h1 : i < j
        · simp [h1, show i < j + 1 by omega]
        · simp [h1, show ¬ i < j + 1 by omega]
theorem setK_lt (ls : List Int) (k : Int) (j : Nat) (hj : j ≤ 8) : setK ls k j < 256 := by
  have h : setK ls k j < 2 ^ 8 := Nat.lt_pow_two_of_testBit _ fun i hi => by
    rw [setK_bit]
    simp [show ¬ i < j by omega]
  exact h
theorem setK_in (ls : List Int) (k : Int) (j : Nat) : ∀ i, i < 8 → (setK ls k j).testBit i = true → i < j := fun i _ h => by
  rw [setK_bit] at h
  simp at h
  exact h.1
/-- the garments ahead of j with the number k -/
def withL (gs : List Gar) (ls : List Int) (k : Int) : Nat → List Gar
  | 0 => []
  | j + 1 => if ls[j]? = some k then withL gs ls k j ++ (gs[j]?).toList else withL gs ls k j
theorem withL_len (gs : List Gar) (ls : List Int) (k : Int) : ∀ j, (withL gs ls k j).length ≤ j
  | 0 => Nat.le_refl _
  | j + 1 => by
    have := withL_len gs ls k j
    unfold withL
    split
    · rw [List.length_append]
      have : (gs[j]?).toList.length ≤ 1 := by cases gs[j]? <;> simp
      omega
    · omega
theorem withL_mem (gs : List Gar) (ls : List Int) (k : Int) (y : Gar) : ∀ j, y ∈ withL gs ls k j ↔ ∃ i, i < j ∧ ls[i]? = some k ∧ gs[i]? = some y
  | 0 => by simp [withL]
  | j + 1 => by
    have ih := withL_mem gs ls k y j
    unfold withL
    by_cases h : ls[j]? = some k
    · rw [if_pos h, List.mem_append, ih]
      constructor
      · rintro (⟨i, h1, h2, h3⟩ | h1)
        · exact ⟨i, by omega, h2, h3⟩
        · exact ⟨j, by omega, h, by simpa using h1⟩
      · rintro ⟨i, h1, h2, h3⟩
        by_cases e : i = j
        · subst e; exact .inr (by simpa using h3)
        · exact .inl ⟨i, by omega, h2, h3⟩
    · rw [if_neg h, ih]
      constructor
      · rintro ⟨i, h1, h2, h3⟩
        exact ⟨i, by omega, h2, h3⟩
      · rintro ⟨i, h1, h2, h3⟩
        by_cases e : i = j
        · subst e; exact absurd h2 h
        · exact ⟨i, by omega, h2, h3⟩
theorem withL_in (gs : List Gar) (ls : List Int) (k : Int) (j : Nat) : ∀ y ∈ withL gs ls k j, y ∈ gs := fun y h => by
  obtain ⟨i, _, _, h3⟩ := (withL_mem gs ls k y j).1 h
  exact List.mem_of_getElem? h3
theorem pairs_snoc (r : Nat → Int) (l : List Gar) (x : Gar) : Pairs r (l ++ [x]) ↔ Pairs r l ∧ ∀ y ∈ l, meetB r x y = true := by
  constructor
  · intro h
    constructor
    · intro i k a b hk ha hb
      have hi := (List.getElem?_eq_some_iff.1 ha).1
      exact h i k a b hk (by rw [List.getElem?_append_left hi]; exact ha) (by rw [List.getElem?_append_left (by omega)]; exact hb)
    · intro y hy
      obtain ⟨k, hk⟩ := List.mem_iff_getElem?.1 hy
      have hl := (List.getElem?_eq_some_iff.1 hk).1
      exact h l.length k x y hl (by simp) (by rw [List.getElem?_append_left hl]; exact hk)
  · rintro ⟨h1, h2⟩ i k a b hk ha hb
    have hi := (List.getElem?_eq_some_iff.1 ha).1
    rw [List.length_append, List.length_singleton] at hi
    rw [List.getElem?_append_left (by omega)] at hb
    by_cases e : i < l.length
    · rw [List.getElem?_append_left e] at ha
      exact h1 i k a b hk ha hb
    · obtain rfl : i = l.length := by omega
      simp at ha
      subst ha
      exact h2 b (List.mem_of_getElem? hb)
theorem pairs_nil (r : Nat → Int) : Pairs r [] := fun i k a b _ ha _ => by simp at ha
theorem wAll_append (l : List Gar) (x : Gar) : wAll (l ++ [x]) = wAll l + x.g := by simp [wAll]
theorem withL_pairs (r : Nat → Int) (gs : List Gar) (ls : List Int) (k : Int) : ∀ j, j ≤ gs.length → (Pairs r (withL gs ls k j) ↔ ∀ a b x y, b < a → a < j → ls[a]? = some k → ls[b]? = some k → gs[a]? = some x → gs[b]? = some y → meetB r x y = true)
  | 0, _ => ⟨fun _ a b x y _ h => absurd h (by omega), fun _ => pairs_nil r⟩
  | j + 1, hj => by
    have ih := withL_pairs r gs ls k j (by omega)
    obtain ⟨z, hz⟩ : ∃ z, gs[j]? = some z := ⟨gs[j]'(by omega), List.getElem?_eq_getElem _⟩
    unfold withL
    by_cases h : ls[j]? = some k
    · rw [if_pos h, hz, Option.toList_some, pairs_snoc, ih]
      constructor
      · rintro ⟨h1, h2⟩ a b x y hb ha la lb ga gb
        by_cases e : a = j
        · subst e
          rw [hz] at ga
          obtain rfl := Option.some.inj ga
          exact h2 y ((withL_mem gs ls k y _).2 ⟨b, hb, lb, gb⟩)
        · exact h1 a b x y hb (by omega) la lb ga gb
      · intro h1
        refine ⟨fun a b x y hb ha => h1 a b x y hb (by omega), fun y hy => ?_⟩
        obtain ⟨b, hb, lb, gb⟩ := (withL_mem gs ls k y _).1 hy
        exact h1 j b z y hb (by omega) h lb hz gb
    · rw [if_neg h, ih]
      constructor
      · intro h1 a b x y hb ha la
        by_cases e : a = j
        · subst e; exact absurd la h
        · exact h1 a b x y hb (by omega) la
      · intro h1 a b x y hb ha
        exact h1 a b x y hb (by omega)
theorem memb_filter (s : Nat) (p : Nat → Bool) (n : Nat) (hn : n ≤ 8) (h : ∀ i, i < 8 → s.testBit i = (decide (i < n) && p i)) : memb s = (List.range n).filter p := by
  unfold memb
  have e1 : (List.range 8).filter s.testBit = (List.range 8).filter (fun i => decide (i < n) && p i) := List.filter_congr fun i hi => h i (by simpa using hi)
  rw [e1]
  obtain ⟨m, hm⟩ : ∃ m, 8 = n + m := ⟨8 - n, by omega⟩
  have e3 : List.range 8 = List.range n ++ (List.range m).map (n + ·) := by rw [hm, List.range_add]
  rw [e3, List.filter_append]
  have e2 : ((List.range m).map (n + ·)).filter (fun i => decide (i < n) && p i) = [] := by
    rw [List.filter_eq_nil_iff]
    intro a ha
    obtain ⟨b, _, rfl⟩ := List.mem_map.1 ha
    simp [show ¬ n + b < n by omega]
  rw [e2, List.append_nil]
  exact List.filter_congr fun i hi => by simp at hi; simp [hi]
theorem memb_setK (ls : List Int) (k : Int) (n : Nat) (hn : n ≤ 8) : memb (setK ls k n) = (List.range n).filter (fun i => decide (ls[i]? = some k)) :=
  memb_filter _ _ n hn fun i _ => setK_bit ls k n i
theorem wSum_with (gs : List Gar) (ls : List Int) (k : Int) : ∀ n, n ≤ gs.length → wSum gs ((List.range n).filter (fun i => decide (ls[i]? = some k))) = wAll (withL gs ls k n)
  | 0, _ => rfl
  | n + 1, hn => by
    have ih := wSum_with gs ls k n (by omega)
    obtain ⟨z, hz⟩ : ∃ z, gs[n]? = some z := ⟨gs[n]'(by omega), List.getElem?_eq_getElem _⟩
    rw [List.range_succ, List.filter_append]
    unfold withL
    by_cases h : ls[n]? = some k
    · rw [if_pos h, hz, Option.toList_some, wAll_append, ← ih]
      simp only [List.filter_cons, List.filter_nil, h, decide_true, if_true]
      rw [wSum_snoc, wAt, hz]
      rfl
    · rw [if_neg h, ← ih]
      simp [h]
/-- what isLoad says of any set -/
theorem isLoadB_iff {r : Nat → Int} {gs : List Gar} {m : Nat → Int} (hm : Meets r gs m) (hold : Int) (s : Nat) (hs : s < 256) (hin : ∀ i, i < 8 → s.testBit i = true → i < gs.length) :
    isLoadB gs m hold s = true ↔ s ≠ 0 ∧ (∀ i k x y, s.testBit i = true → s.testBit k = true → gs[i]? = some x → gs[k]? = some y → meetB r x y = true) ∧ wSum gs (memb s) ≤ hold := by
  have h8 : ∀ i, s.testBit i = true → i < 8 := fun i h => by
    apply Classical.byContradiction
    intro h1
    rw [Nat.testBit_lt_two_pow (Nat.lt_of_lt_of_le hs (Nat.pow_le_pow_right (show 0 < 2 by decide) (show 8 ≤ i by omega)))] at h
    cases h
  have hall : (∀ i ∈ memb s, offB m s i = 0) ↔ ∀ i k x y, s.testBit i = true → s.testBit k = true → gs[i]? = some x → gs[k]? = some y → meetB r x y = true := by
    have each : ∀ i x, gs[i]? = some x → (offB m s i = 0 ↔ ∀ k y, s.testBit k = true → gs[k]? = some y → meetB r x y = true) := fun i x hx => by
      obtain ⟨l1, l2⟩ := hm.lo i
      have e := u8_andNot (s : Int) (m i) (by omega) (by omega) l1 l2
      have e2 : offB m s i = ((s &&& (255 - (m i).toNat) : Nat) : Int) := by simpa using e
      rw [e2, Int.natCast_eq_zero, off_zero _ _ hs (by omega)]
      constructor
      · intro h k y hk hy
        obtain ⟨z, hz, hm2⟩ := (hm.bit i x k hx).1 (h k (h8 k hk) hk)
        rw [hy] at hz
        rw [Option.some.inj hz]
        exact hm2
      · intro h k hk hb
        have hkn := hin k hk hb
        exact (hm.bit i x k hx).2 ⟨gs[k]'hkn, List.getElem?_eq_getElem _, h k _ hb (List.getElem?_eq_getElem _)⟩
    constructor
    · intro h i k x y hi hk hx hy
      exact (each i x hx).1 (h i (memb_mem.2 ⟨h8 i hi, hi⟩)) k y hk hy
    · intro h i hi
      obtain ⟨h1, h2⟩ := memb_mem.1 hi
      have hx : gs[i]? = some (gs[i]'(hin i h1 h2)) := List.getElem?_eq_getElem _
      exact (each i _ hx).2 fun k y hk hy => h i k _ y h2 hk hx hy
  rw [isLoadB, Bool.and_eq_true, Bool.and_eq_true, List.all_eq_true]
  have h1 : (∀ i ∈ memb s, (offB m s i == 0) = true) ↔ ∀ i k x y, s.testBit i = true → s.testBit k = true → gs[i]? = some x → gs[k]? = some y → meetB r x y = true := by
    rw [← hall]
    exact ⟨fun h i hi => by simpa using h i hi, fun h i hi => by simpa using h i hi⟩
  rw [h1]
  constructor
  · rintro ⟨a, b, c⟩
    exact ⟨by simpa using b, a, by simpa using c⟩
  · rintro ⟨a, b, c⟩
    exact ⟨b, by simpa using a, by simpa using c⟩
theorem isLoadB_set {r : Nat → Int} {gs : List Gar} {m : Nat → Int} (hm : Meets r gs m) (hold : Int) (ls : List Int) (k : Int) (n : Nat) (hn : n ≤ 8) (hng : n ≤ gs.length) (hsy : ∀ x y, x ∈ gs → y ∈ gs → meetB r x y = meetB r y x) (hre : ∀ x ∈ gs, meetB r x x = true) :
    isLoadB gs m hold (setK ls k n) = true ↔ setK ls k n ≠ 0 ∧ Pairs r (withL gs ls k n) ∧ wAll (withL gs ls k n) ≤ hold := by
  rw [isLoadB_iff hm hold _ (setK_lt ls k n hn) (fun i h1 h2 => Nat.lt_of_lt_of_le (setK_in ls k n i h1 h2) hng), memb_setK ls k n hn, wSum_with gs ls k n hng, withL_pairs r gs ls k n hng]
  have e : (∀ i k' x y, (setK ls k n).testBit i = true → (setK ls k n).testBit k' = true → gs[i]? = some x → gs[k']? = some y → meetB r x y = true) ↔
      ∀ a b x y, b < a → a < n → ls[a]? = some k → ls[b]? = some k → gs[a]? = some x → gs[b]? = some y → meetB r x y = true := by
    have bit : ∀ i, (setK ls k n).testBit i = true ↔ i < n ∧ ls[i]? = some k := fun i => by rw [setK_bit]; simp
    constructor
    · intro h a b x y hb ha la lb
      exact h a b x y ((bit a).2 ⟨ha, la⟩) ((bit b).2 ⟨by omega, lb⟩)
    · intro h i j x y hi hj gi gj
      obtain ⟨i1, i2⟩ := (bit i).1 hi
      obtain ⟨j1, j2⟩ := (bit j).1 hj
      rcases Nat.lt_trichotomy j i with h1 | h1 | h1
      · exact h i j x y h1 i1 i2 j2 gi gj
      · subst h1
        rw [gi] at gj
        rw [← Option.some.inj gj]
        exact hre _ (List.mem_of_getElem? gi)
      · rw [hsy _ _ (List.mem_of_getElem? gi) (List.mem_of_getElem? gj)]
        exact h j i y x h1 j1 j2 i2 gj gi
  rw [e]
theorem setK_none (gs : List Gar) (ls : List Int) (k : Int) : ∀ n, setK ls k n = 0 → withL gs ls k n = []
  | 0, _ => rfl
  | n + 1, h => by
    unfold setK at h
    unfold withL
    by_cases e : ls[n]? = some k
    · rw [if_pos e] at h
      have h1 := congrArg (fun x => x.testBit n) h
      simp [Nat.testBit_or] at h1
    · rw [if_neg e] at h ⊢
      exact setK_none gs ls k n h
/-- are loads right -/
def Right (r : Nat → Int) (gs : List Gar) (hold : Int) (ls : List Int) : Prop := ls.length = gs.length ∧ (∀ x ∈ ls, 0 ≤ x ∧ x < 8) ∧ ∀ k : Nat, k < 8 → Pairs r (withL gs ls k gs.length) ∧ wAll (withL gs ls k gs.length) ≤ hold
/-- as the program looks at it -/
def RightB (gs : List Gar) (m : Nat → Int) (hold : Int) (ls : List Int) : Prop := ls.length = gs.length ∧ (∀ x ∈ ls, 0 ≤ x ∧ x < 8) ∧ ∀ k : Nat, k < 8 → setK ls k gs.length = 0 ∨ isLoadB gs m hold (setK ls k gs.length) = true
theorem right_iff {r : Nat → Int} {gs : List Gar} {m : Nat → Int} (hm : Meets r gs m) (hold : Int) (h0 : 0 ≤ hold) (ls : List Int) (hn : gs.length ≤ 8) (hsy : ∀ x y, x ∈ gs → y ∈ gs → meetB r x y = meetB r y x) (hre : ∀ x ∈ gs, meetB r x x = true) : RightB gs m hold ls ↔ Right r gs hold ls := by
  unfold RightB Right
  refine and_congr_right fun _ => and_congr_right fun _ => forall_congr' fun k => imp_congr_right fun _ => ?_
  rw [isLoadB_set hm hold ls k gs.length hn (Nat.le_refl _) hsy hre]
  constructor
  · rintro (h | h)
    · rw [setK_none gs ls k _ h]
      exact ⟨pairs_nil r, h0⟩
    · exact h.2
  · intro h
    by_cases e : setK ls k gs.length = 0
    · exact .inl e
    · exact .inr ⟨e, h⟩
end Go.Proofs.YtdafnibmoggcnaaDoor.mem

/-
  Loads by greed, in plain words.
-/
namespace Go.Proofs.YtdafnibmoggcnaaDoor.mem
open Go Go.RowKit garS heats meet load

/-- garment k can be with those that have the number a -/
def Joins1 (r : Nat → Int) (gs : List Gar) (hold : Int) (ls : List Int) (k a : Nat) : Prop := ∀ x, gs[k]? = some x → Pairs r (withL gs ls a k ++ [x]) ∧ wAll (withL gs ls a k ++ [x]) ≤ hold
/-- the numbers that greed gives the first k garments, and how many loads these are -/
inductive Greedy (r : Nat → Int) (gs : List Gar) (hold : Int) : Nat → List Int → Nat → Prop
  | zero : Greedy r gs hold 0 [] 0
  | next {k : Nat} {ls : List Int} {u a : Nat} : Greedy r gs hold k ls u → a ≤ u → (∀ j, j < a → ¬ Joins1 r gs hold ls k j) → (a < u → Joins1 r gs hold ls k a) → Greedy r gs hold (k + 1) (ls ++ [(a : Int)]) (max u (a + 1))
theorem Greedy.len {r : Nat → Int} {gs : List Gar} {hold : Int} {k : Nat} {ls : List Int} {u : Nat} (h : Greedy r gs hold k ls u) : ls.length = k := by
  induction h with
  | zero => rfl
  | next _ _ _ _ ih => simp [ih]
theorem Greedy.le {r : Nat → Int} {gs : List Gar} {hold : Int} {k : Nat} {ls : List Int} {u : Nat} (h : Greedy r gs hold k ls u) : u ≤ k := by
  induction h with
  | zero => exact Nat.le_refl _
  | next _ ha _ _ ih => omega
theorem Greedy.lt {r : Nat → Int} {gs : List Gar} {hold : Int} {k : Nat} {ls : List Int} {u : Nat} (h : Greedy r gs hold k ls u) : ∀ x ∈ ls, 0 ≤ x ∧ x < (u : Int) := by
  induction h with
  | zero => intro x hx; simp at hx
  | next _ ha _ _ ih =>
    intro x hx
    rcases List.mem_append.1 hx with h1 | h1
    · have := ih x h1
      omega
    · rw [List.mem_singleton.1 h1]
      omega
theorem Greedy.one {r : Nat → Int} {gs : List Gar} {hold : Int} {k : Nat} {ls ls' : List Int} {u u' : Nat} (h : Greedy r gs hold k ls u) (h' : Greedy r gs hold k ls' u') : ls = ls' ∧ u = u' := by
  induction h generalizing ls' u' with
  | zero =>
    cases h'
    exact ⟨rfl, rfl⟩
  | @next k ls u a h1 ha hno hyes ih =>
    cases h' with
    | @next _ ls2 u2 a2 h2 ha2 hno2 hyes2 =>
      obtain ⟨rfl, rfl⟩ := ih h2
      have e : a = a2 := by
        rcases Nat.lt_trichotomy a a2 with h3 | h3 | h3
        · exact absurd (hyes (by omega)) (hno2 a h3)
        · exact h3
        · exact absurd (hyes2 (by omega)) (hno a2 h3)
      subst e
      exact ⟨rfl, rfl⟩
theorem greedy_exists (r : Nat → Int) (gs : List Gar) (hold : Int) : ∀ k, ∃ ls u, Greedy r gs hold k ls u
  | 0 => ⟨[], 0, .zero⟩
  | k + 1 => by
    obtain ⟨ls, u, h⟩ := greedy_exists r gs hold k
    have first : ∀ m, m ≤ u → ∃ a, a ≤ u ∧ (∀ j, j < a → ¬ Joins1 r gs hold ls k j) ∧ (a < u → Joins1 r gs hold ls k a) ∨ ∀ j, j < m → ¬ Joins1 r gs hold ls k j := fun m => by
      induction m with
      | zero => intro _; exact ⟨0, .inr fun j hj => absurd hj (by omega)⟩
      | succ m ih =>
        intro hm
        obtain ⟨a, h1 | h1⟩ := ih (by omega)
        · exact ⟨a, .inl h1⟩
        · by_cases hj : Joins1 r gs hold ls k m
          · exact ⟨m, .inl ⟨by omega, h1, fun _ => hj⟩⟩
          · refine ⟨0, .inr fun j hj2 => ?_⟩
            by_cases e : j = m
            · subst e; exact hj
            · exact h1 j (by omega)
    obtain ⟨a, ⟨h1, h2, h3⟩ | h1⟩ := first u (Nat.le_refl _)
    · exact ⟨_, _, h.next h1 h2 h3⟩
    · exact ⟨_, _, h.next (Nat.le_refl u) h1 fun h => absurd h (Nat.lt_irrefl _)⟩
/-- numbers that none of the garments has: no garments -/
theorem withL_more (gs : List Gar) (ls : List Int) (x : Int) (k : Int) : ∀ j, j ≤ ls.length → withL gs (ls ++ [x]) k j = withL gs ls k j
  | 0, _ => rfl
  | j + 1, h => by
    unfold withL
    rw [withL_more gs ls x k j (by omega), List.getElem?_append_left (by omega)]
theorem setK_more (ls : List Int) (x : Int) (k : Int) : ∀ j, j ≤ ls.length → setK (ls ++ [x]) k j = setK ls k j
  | 0, _ => rfl
  | j + 1, h => by
    unfold setK
    rw [setK_more ls x k j (by omega), List.getElem?_append_left (by omega)]
theorem setK_unused (ls : List Int) (u : Nat) (h : ∀ x ∈ ls, 0 ≤ x ∧ x < (u : Int)) (a : Nat) (ha : u ≤ a) : ∀ j, setK ls a j = 0
  | 0 => rfl
  | j + 1 => by
    unfold setK
    rw [if_neg fun e => by have := h _ (List.mem_of_getElem? e); omega]
    exact setK_unused ls u h a ha j
/-- the set with one garment more -/
theorem setK_join (ls : List Int) (a : Nat) (k : Nat) (hk : ls.length = k) : setK (ls ++ [(a : Int)]) a (k + 1) = setK ls a k ||| 2 ^ k := by
  subst hk
  rw [setK]
  rw [if_pos (by simp), setK_more ls _ _ _ (Nat.le_refl _)]
theorem setK_other (ls : List Int) (a : Nat) (k : Nat) (hk : ls.length = k) (b : Nat) (hb : b ≠ a) : setK (ls ++ [(a : Int)]) b (k + 1) = setK ls b k := by
  subst hk
  rw [setK]
  rw [if_neg (by simp; omega), setK_more ls _ _ _ (Nat.le_refl _)]
theorem withL_join (gs : List Gar) (ls : List Int) (a : Nat) (k : Nat) (hk : ls.length = k) {x : Gar} (hx : gs[k]? = some x) : withL gs (ls ++ [(a : Int)]) a (k + 1) = withL gs ls a k ++ [x] := by
  subst hk
  rw [withL]
  rw [if_pos (by simp), withL_more gs ls _ _ _ (Nat.le_refl _), hx]
  rfl
/-- the program's question is the model's -/
theorem joins_iff {r : Nat → Int} {gs : List Gar} {m : Nat → Int} (hm : Meets r gs m) (hold : Int) (ls : List Int) (k a : Nat) (hk : ls.length = k) (h8 : k < gs.length) (hn : gs.length ≤ 8) (hsy : ∀ x y, x ∈ gs → y ∈ gs → meetB r x y = meetB r y x) (hre : ∀ x ∈ gs, meetB r x x = true) :
    isLoadB gs m hold (setK ls a k ||| 2 ^ k) = true ↔ Joins1 r gs hold ls k a := by
  have hx : gs[k]? = some (gs[k]'h8) := List.getElem?_eq_getElem _
  have h := isLoadB_set hm hold (ls ++ [(a : Int)]) a (k + 1) (by omega) (by omega) hsy hre
  rw [setK_join ls a k hk, withL_join gs ls a k hk hx] at h
  rw [h]
  have hne : setK ls a k ||| 2 ^ k ≠ 0 := fun e => by
    have h1 := congrArg (fun x => x.testBit k) e
    simp [Nat.testBit_or] at h1
  constructor
  · rintro ⟨_, h1⟩ x hx2
    rw [hx] at hx2
    rw [← Option.some.inj hx2]
    exact h1
  · intro h1
    exact ⟨hne, h1 _ hx⟩
/-- an empty load takes each garment -/
theorem joins_new {r : Nat → Int} {gs : List Gar} {hold : Int} {ls : List Int} {u : Nat} (hlt : ∀ x ∈ ls, 0 ≤ x ∧ x < (u : Int)) (k a : Nat) (ha : u ≤ a) (hw : ∀ x ∈ gs, x.g ≤ hold) : Joins1 r gs hold ls k a := fun x hx => by
  rw [setK_none gs ls a k (setK_unused ls u hlt a ha k)]
  refine ⟨?_, ?_⟩
  · rw [pairs_snoc]
    exact ⟨pairs_nil r, fun y hy => by simp at hy⟩
  · rw [wAll_append]
    have := hw x (List.mem_of_getElem? hx)
    simp [wAll]
    omega
end Go.Proofs.YtdafnibmoggcnaaDoor.mem

/-
  Lists of garments of the call's own; contract of the model's l01With.
-/
namespace Go.Proofs.YtdafnibmoggcnaaDoor.mem
open Go Go.RowKit errs garS heats meet load sl

theorem Gar.len4 (gs : List Gar) : ∀ x ∈ gs, (Gar.cells x).length = 4 := fun _ _ => rfl
/-- a list of garments of the call's own -/
def OwnGar (w : World) (ys : List Gar) (o : Ending) (w' : World) : Prop :=
  ∃ v, o = .returned v ∧ w'.ownsRow w.heap.size 56 4 v ys.length (ys.flatMap Gar.cells) ∧ Below w.heap.size w w'
theorem ownsGar_void (w : World) {b : Nat} (hb : b ≤ w.heap.size) : (w.alloc (.cells #[] 56)).ownsRow b 56 4 (.slice (some ⟨w.heap.size, 0, none⟩) 0 0) ([] : List Gar).length (([] : List Gar).flatMap Gar.cells) :=
  World.ownsRow_lit w #[] 0 hb (by unfold maxLen; simp) rfl
/-- an owned row reads as its garments -/
theorem gs_of_owns {w : World} {base : Nat} {e : TypeId} {A : Option Addr} {n c : Nat} {gs : List Gar} (h : w.ownsRow base e 4 (.slice A n c) n (gs.flatMap Gar.cells)) (hf : ∀ x ∈ gs, x.Fits) : GS w w.heap.size A gs := by
  have hlen : gs.length * 4 = n * 4 := by rw [← flat_len (Gar.len4 gs)]; exact h.1
  have hn : gs.length = n := by omega
  rcases h.2 with ⟨hv, rfl⟩ | ⟨g, cap, cur, hv, hg, hh, hrest⟩
  · have : gs = [] := List.length_eq_zero_iff.1 hn
    subst this
    exact ⟨fun k x hx => by simp at hx, hf⟩
  · simp only [Value.slice.injEq, true_and] at hv
    obtain ⟨rfl, rfl⟩ := hv
    refine ⟨fun k x hx => ?_, hf⟩
    have hc : ∀ j v, (Gar.cells x)[j]? = some v → w.cell? ⟨g, k * 4 + j, none⟩ = some v := fun j v hv => by
      have := h.cells (g := g) rfl (k * 4 + j) v (flat_get (Gar.len4 gs) hx hv)
      rwa [add_lit] at this
    refine ⟨_, rfl, (Array.getElem?_eq_some_iff.1 hh).1, ?_⟩
    rw [add_lit]
    exact ⟨hc 0 _ rfl, hc 1 _ rfl, hc 2 _ rfl, hc 3 _ rfl⟩
theorem gar_info : (Tryd.prog.info? 56).map (fun i => (i.zero, i.size, i.bytes)) = some (some (.agg #[.int .u8 0, .int .i8 0, .int .i8 0, .int .i16 0]), 4, 6) := by kernel_rfl
theorem four_new (w : World) (a b c d : Value) (T : TypeId) : ∀ (j : Nat) x, [a, b, c, d][j]? = some x → (w.alloc (.cells #[a, b, c, d] T)).cell? ((⟨w.heap.size, 0, none⟩ : Addr).add j) = some x := by
  intro j x hj
  rw [add_lit, cell_of_row _ _ _ _ _ _ (heap_alloc_new w _)]
  simpa using hj
theorem four_cell {a b c d : Value} (ha : a.oneCell' = true) (hb : b.oneCell' = true) (hc : c.oneCell' = true) (hd : d.oneCell' = true) : ∀ x ∈ [a, b, c, d], x.oneCell' = true := by
  intro x hx
  simp only [List.mem_cons, List.not_mem_nil, or_false] at hx
  rcases hx with rfl | rfl | rfl | rfl <;> assumption
theorem withL_yes {gs : List Gar} {ls : List Int} {k : Int} {j : Nat} {x : Gar} (hl : ls[j]? = some k) (hx : gs[j]? = some x) : withL gs ls k (j + 1) = withL gs ls k j ++ [x] := by
  rw [withL, if_pos hl, hx]
  rfl
theorem withL_no {gs : List Gar} {ls : List Int} {k : Int} {j : Nat} {z : Int} (hl : ls[j]? = some z) (hz : z ≠ k) : withL gs ls k (j + 1) = withL gs ls k j := by
  rw [withL, if_neg (by rw [hl]; simpa using hz)]
end Go.Proofs.YtdafnibmoggcnaaDoor.mem

/-
  Are loads right: contracts of the model's functions.
-/
namespace Go.Proofs.YtdafnibmoggcnaaDoor.mem
open Go Go.RowKit errs garS heats meet load sl

noncomputable def rightV (r : Nat → Int) (gs : List Gar) (hold : Int) (ls : List Int) (code : Nat) : Bool := if code = 0 then @decide (Right r gs hold ls) (Classical.propDecidable _) else false
theorem rightV_no {r : Nat → Int} {gs : List Gar} {hold : Int} {ls : List Int} {code : Nat} (h : code ≠ 0) : rightV r gs hold ls code = false := by rw [rightV, if_neg h]
theorem rightV_yes {r : Nat → Int} {gs : List Gar} {hold : Int} {ls : List Int} {code : Nat} (h : code = 0) : rightV r gs hold ls code = true ↔ Right r gs hold ls := by rw [rightV, if_pos h]; exact @decide_eq_true_iff _ (Classical.propDecidable _)
theorem ask_rules {r : Nat → Int} {gs : List Gar} {fine : Bool} (h : 0 = codeAsk r gs fine) : validR r := by
  apply Classical.byContradiction
  intro hv
  rw [codeAsk, if_neg (by rw [validRB_false hv]; decide)] at h
  omega
theorem ask_len8 {r : Nat → Int} {gs : List Gar} {fine : Bool} (h : 0 = codeAsk r gs fine) : gs.length ≤ 8 := by
  unfold codeAsk at h
  split at h
  · unfold codeAll at h
    split at h
    · split at h
      · split at h
        · omega
        · omega
      · omega
    · omega
  · omega
theorem ask_fine {r : Nat → Int} {gs : List Gar} {fine : Bool} (h : 0 = codeAsk r gs fine) : fine = true := by
  unfold codeAsk at h
  split at h
  · unfold codeAll at h
    split at h
    · split at h
      · assumption
      · omega
    · omega
  · omega
/-- what checked rules and garments are good for -/
structure Fine (r : Nat → Int) (gs : List Gar) : Prop where
  len : gs.length ≤ 8
  meets : ∀ x y, x ∈ gs → y ∈ gs → meetB r x y = meetB r y x
  self : ∀ x ∈ gs, meetB r x x = true
theorem ask_good {r : Nat → Int} {gs : List Gar} {fine : Bool} (h : 0 = codeAsk r gs fine) (hf : ∀ x ∈ gs, x.Fits) : Fine r gs := by
  have hv := ask_valid h
  have hr := ask_rules h
  have hc : ∀ x ∈ gs, x.c.toNat < 6 := fun x hx => by
    have := (valid_parts (hv x hx)).1
    have := (hf x hx).c0
    omega
  refine ⟨ask_len8 h, fun x y hx hy => meet_symm (fun a b ha hb => (hr a ha).2.2 b hb) (hc x hx) (hc y hy), fun x hx => ?_⟩
  obtain ⟨_, _, h1, _, _, _⟩ := valid_parts (hv x hx)
  unfold meetB
  rw [show bitZ (r x.c.toNat) x.c.toNat = true from (hr _ (hc x hx)).2.1]
  simp [h1]
theorem right_len {r : Nat → Int} {gs : List Gar} {hold : Int} {ls : List Int} (h : Right r gs hold ls) : ls.length = gs.length := h.1

end Go.Proofs.YtdafnibmoggcnaaDoor.mem

/-
  What fits with a load: the program's.
-/
namespace Go.Proofs.YtdafnibmoggcnaaDoor.mem
open Go Go.RowKit errs garS heats meet load sl hang

theorem one_newG (w : World) (u : Value) (T : TypeId) : ∀ (j : Nat) x, [u][j]? = some x → (w.alloc (.cells #[u] T)).cell? ((⟨w.heap.size, 0, none⟩ : Addr).add j) = some x := by
  intro j x hj
  rw [add_lit, cell_of_row _ _ _ _ _ _ (heap_alloc_new w _)]
  simpa using hj
theorem one_cellG {u : Value} (hu : u.oneCell' = true) : ∀ x ∈ [u], x.oneCell' = true := by
  intro x hx
  rw [List.mem_singleton.1 hx]
  exact hu
theorem LS.growG {r : Nat → Int} {w u v : World} {row : Option Nat} (h : LS r w u) (hg : u.grownBy v row) (hr : ∀ k, row = some k → w.heap.size + 1 ≤ k) : LS r w v := by
  have hz := h.2.1
  have hb : Below (w.heap.size + 1) u v := (Below.refl _ _).grown hg (by omega) hr
  exact ⟨h.1.to hb (Nat.lt_succ_self _), Nat.lt_of_lt_of_le hz hb.size, h.2.2.trans (hb.mono (Nat.le_succ _))⟩
theorem garAt_next {w w' : World} {q : Nat} {x : Gar} (h : GarAt w ⟨q, 0, none⟩ x) (hq : q < w.heap.size) (hb : Below w.heap.size w w') : GarAt w' ⟨q, 0, none⟩ x :=
  h.keep fun p hp => hb.cell (by rw [hp]; exact hq)
set_option maxRecDepth 100000 in
set_option maxHeartbeats 4000000 in
theorem fit1_any (r : Nat → Int) (hr : Six r) (x y : Gar) (hx : x.Fits) (hy : y.Fits) (vx : x.valid = true) (vy : y.valid = true) (qr qg : Nat) (v : Bool) (hv : meetB r x y = v) (w : World) (h6 : SixAt r qr w) (hG : GarAt w ⟨qg, 0, none⟩ x) (hqr : qr < w.heap.size) (hqg : qg < w.heap.size) :
    Calls Tryd.prog 44 #[y.v, .pointer (some ⟨qr, 0, none⟩), .pointer (some ⟨qg, 0, none⟩)] w fun o w' => o = .returned (.bool (!v)) ∧ Below w.heap.size w w' := by
  have hb0 : Below w.heap.size w (w.alloc (.cells #[.int .u8 y.c, .int .i8 y.n, .int .i8 y.m, .int .i16 y.g] 56)) := (Below.refl _ _).alloc (Nat.le_refl _) _
  obtain ⟨w0, hw0⟩ : ∃ u, u = w.alloc (.cells #[.int .u8 y.c, .int .i8 y.n, .int .i8 y.m, .int .i16 y.g] 56) := ⟨_, rfl⟩
  rw [← hw0] at hb0
  obtain ⟨s0, s1, s2, s3, s4, s5⟩ := h6.to hb0 hqr
  obtain ⟨g0, g1, g2, g3⟩ := garAt_next hG hqg hb0
  have hrow : w0.heap[w.heap.size]? = some (.cells #[.int .u8 y.c, .int .i8 y.n, .int .i8 y.m, .int .i16 y.g] 56 (0, 0)) := by rw [hw0]; exact heap_alloc_new w _
  have y0 : w0.cell? ⟨w.heap.size, 0, none⟩ = some (.int .u8 y.c) := cell_of_row _ _ _ _ _ _ hrow
  have y1 : w0.cell? ⟨w.heap.size, 1, none⟩ = some (.int .i8 y.n) := cell_of_row _ _ _ _ _ _ hrow
  have y2 : w0.cell? ⟨w.heap.size, 2, none⟩ = some (.int .i8 y.m) := cell_of_row _ _ _ _ _ _ hrow
  have y3 : w0.cell? ⟨w.heap.size, 3, none⟩ = some (.int .i16 y.g) := cell_of_row _ _ _ _ _ _ hrow
  have HW0 := Lib.hid hw0
  have HB0 := Lib.hid hb0
  have HV := Lib.hid hv
  clear hw0 hb0 hrow hv h6 hG
  go_enter Tryd.func44, Tryd.ntmps44
  go_wp2_with (first | (rw [← HW0.out]) | (go_at_call 45; refine (meet_v r hr x y hx hy vx vy _ v HV.out).mono ?_; rintro o w3 ⟨rfl, hb3⟩) | fail)
  go_ret
  exact ⟨rfl, below_next HB0.out hb3 (Nat.le_refl _)⟩
set_option maxRecDepth 100000 in
set_option maxHeartbeats 4000000 in
theorem IndexFuncF_any (A : Option Addr) (n c : Nat) (gs : List Gar) (en : n = gs.length) (hn : n ≤ 1048576) (r : Nat → Int) (hr : Six r) (x : Gar) (hx : x.Fits) (vx : x.valid = true) (vg : ∀ y ∈ gs, y.valid = true) (qr qg : Nat) (b : Bool) (hb : gs.all (fun y => meetB r x y) = b) (w : World) (hg : GS w w.heap.size A gs) (h6 : SixAt r qr w) (hG : GarAt w ⟨qg, 0, none⟩ x) (hqr : qr < w.heap.size) (hqg : qg < w.heap.size) :
    Calls Tryd.prog 68 #[.slice A n c, .func (.func 44) #[] #[.pointer (some ⟨qr, 0, none⟩), .pointer (some ⟨qg, 0, none⟩)]] w fun o w' => ∃ z : Int, o = .returned (.int .i64 z) ∧ decide (z ≥ 0) = (!b) ∧ Below w.heap.size w w' := by
  have En := Lib.hid en
  have HBB := Lib.hid hb
  have H6 := Lib.hid h6
  have HG := Lib.hid hG
  clear en hb h6 hG
  go_enter Tryd.func68, Tryd.ntmps68
  go_wp2_with fail
  go_loopw [8] (fun vi wr => ∃ k : Nat, k ≤ n ∧ vi = .int .i64 (k : Nat) ∧ (∀ j y, j < k → gs[j]? = some y → meetB r x y = true) ∧ Below w.heap.size w wr) (fun vi _ => n - (intOf vi).toNat)
  case atStart => exact ⟨0, by omega, rfl, fun j y h => absurd h (by omega), Below.refl _ _⟩
  case round =>
    obtain ⟨k, hk, rfl, hq, hB⟩ := hrel
    have HQ := Lib.hid hq
    have HB := Lib.hid hB
    clear hq hB
    by_cases hlt : k < n
    · obtain ⟨y, hy⟩ : ∃ y, gs[k]? = some y := ⟨gs[k]'(by have := En.out; omega), List.getElem?_eq_getElem _⟩
      obtain ⟨a, rfl, hab, q0, q1, q2, q3⟩ := (hg.below HB.out).at_ k y hy
      have hyf := hg.fits y (List.mem_of_getElem? hy)
      have hyv := vg y (List.mem_of_getElem? hy)
      have HY := Lib.hid hy
      clear hy
      have wa : (0 : Int) ≤ (k : Int) := by omega
      have wb : (k : Int) < (n : Int) := by omega
      have hzw := HB.out.size
      have HC := Lib.hid (fun (v : Bool) (hv : meetB r x y = v) => fit1_any r hr x y hx hyf vx hyv qr qg v hv wr (H6.out.to HB.out hqr) (HG.out.keep fun p hp => HB.out.cell (by rw [hp]; exact hqg)) (by omega) (by omega))
      cases hv : meetB r x y with
      | true =>
        have HC2 := Lib.hid (HC.out true hv)
        have HV := Lib.hid hv
        clear hv HC
        go_wp2_with (first | (go_at_call 44; refine HC2.out.mono ?_; rintro o w3 ⟨rfl, hb3⟩; have HB3 := Lib.hid (HB.out.trans (hb3.mono hzw)); clear hb3) | fail)
        go_roundw
        case rel => exact ⟨k + 1, by omega, by go_num, fun j z hj hz => by
          rcases Nat.lt_or_ge j k with h1 | h1
          · exact HQ.out j z h1 hz
          · obtain rfl : j = k := by omega
            have e := HY.out
            rw [hz] at e
            rw [Option.some.inj e]
            exact HV.out, HB3.out⟩
        case measure => simp [intOf]; omega
      | false =>
        have HC2 := Lib.hid (HC.out false hv)
        have hbf : b = false := by
          rw [← HBB.out]
          apply Bool.eq_false_iff.2
          intro h
          have := List.all_eq_true.1 h y (List.mem_of_getElem? HY.out)
          rw [hv] at this
          cases this
        subst hbf
        clear hv HC
        go_wp2_with (first | (go_at_call 44; refine HC2.out.mono ?_; rintro o w3 ⟨rfl, hb3⟩; have HB3 := Lib.hid (HB.out.trans (hb3.mono hzw)); clear hb3) | fail)
        go_ret
        exact ⟨(k : Int), rfl, by simp, HB3.out⟩
    · obtain rfl : k = n := by omega
      have hbt : b = true := by
        rw [← HBB.out]
        refine List.all_eq_true.2 fun y hy => ?_
        obtain ⟨j, hj⟩ := List.mem_iff_getElem?.1 hy
        exact HQ.out j y (by have := (List.getElem?_eq_some_iff.1 hj).1; have := En.out; omega) hj
      subst hbt
      go_wp2_with fail
      go_ret
      exact ⟨-1, rfl, rfl, HB.out⟩
theorem ContainsFuncF_any (A : Option Addr) (n c : Nat) (gs : List Gar) (en : n = gs.length) (hn : n ≤ 1048576) (r : Nat → Int) (hr : Six r) (x : Gar) (hx : x.Fits) (vx : x.valid = true) (vg : ∀ y ∈ gs, y.valid = true) (qr qg : Nat) (b : Bool) (hb : gs.all (fun y => meetB r x y) = b) (w : World) (hg : GS w w.heap.size A gs) (h6 : SixAt r qr w) (hG : GarAt w ⟨qg, 0, none⟩ x) (hqr : qr < w.heap.size) (hqg : qg < w.heap.size) :
    Calls Tryd.prog 43 #[.slice A n c, .func (.func 44) #[] #[.pointer (some ⟨qr, 0, none⟩), .pointer (some ⟨qg, 0, none⟩)]] w fun o w' => o = .returned (.bool (!b)) ∧ Below w.heap.size w w' := by
  have HI := Lib.hid (IndexFuncF_any A n c gs en hn r hr x hx vx vg qr qg b hb w hg h6 hG hqr hqg)
  clear hb en h6 hG hg
  go_enter Tryd.func43, Tryd.ntmps43
  go_wp2_with fail
  refine HI.out.mono ?_
  rintro o w1 ⟨z, rfl, hz, hb1⟩
  have HZ := Lib.hid hz
  clear hz
  go_wp2_with fail
  go_ret
  exact ⟨ret_bool HZ.out, hb1⟩
set_option maxRecDepth 100000 in
set_option maxHeartbeats 16000000 in
theorem FitsWith_any (r : Nat → Int) (hr : Six r) (hold : Int) (A : Option Addr) (n c : Nat) (gs : List Gar) (en : n = gs.length) (hn : n ≤ 1048576) (A' : Option Addr) (m c' : Nat) (hs : List Gar) (em : m = hs.length) (hm : m ≤ 1048576) {w : World} {B : Nat} {e : Nat → Addr} (h : Errs w B e) (hB : B ≤ w.heap.size) (hg : GS w w.heap.size A gs) (hg' : GS w w.heap.size A' hs) (fine : Bool) (hfine : decide (1 ≤ hold ∧ hold ≤ 20000) = fine) (ls : List Int) (code : Nat) (hres : FitRes r gs hs hold fine ls code) :
    Calls Tryd.prog 12 #[rulesV r, .int .i64 hold, .slice A n c, .slice A' m c'] w (Own2 w ls code) := by
  obtain ⟨k1, hk1⟩ : ∃ k : Nat, k = if validRB r = true then 0 else 1 := ⟨_, rfl⟩
  obtain ⟨k2, hk2⟩ : ∃ k : Nat, k = if gs.all Gar.valid = true then 0 else 1 := ⟨_, rfl⟩
  obtain ⟨k3, hk3⟩ : ∃ k : Nat, k = if hs.all Gar.valid = true then 0 else 1 := ⟨_, rfl⟩
  obtain ⟨k4, hk4⟩ : ∃ k : Nat, k = if 1 ≤ hold ∧ hold ≤ 20000 then 0 else 2 := ⟨_, rfl⟩
  obtain ⟨k5, hk5⟩ : ∃ k : Nat, k = if 8 < n then 3 else 0 := ⟨_, rfl⟩
  obtain ⟨k6, hk6⟩ : ∃ k : Nat, k = if 8 < m then 3 else 0 := ⟨_, rfl⟩
  obtain ⟨f, hf⟩ : ∃ f, f = codeFit r gs hs fine := ⟨_, rfl⟩
  have HF : Hid (firstCode [k1, k2, k3, k4, k5, k6] = f) := Lib.hid ((codeFit6 r gs hs hold n m k1 k2 k3 k4 k5 k6 fine en em hfine hk1 hk2 hk3 hk4 hk5 hk6).trans hf.symm)
  have hle : f ≤ 3 := by rw [hf]; exact codeFit_le _ _ _ _
  have HFF := Lib.hid hf
  have HK1 := Lib.hid hk1
  have HK2 := Lib.hid hk2
  have HK3 := Lib.hid hk3
  have HK4 := Lib.hid hk4
  have HK5 := Lib.hid hk5
  have HK6 := Lib.hid hk6
  have En := Lib.hid en
  have Em := Lib.hid em
  have HFI := Lib.hid hfine
  have HRES := Lib.hid hres
  have L0 : Hid (LS r w (w.alloc (.cells (rulesCs r) 28))) := Lib.hid ⟨SixAt.new r w 28, by simp, (Below.refl w.heap.size w).alloc (Nat.le_refl _) _⟩
  obtain ⟨⟨s0, s1, s2, s3, s4, s5⟩, _, _⟩ := L0.out
  have HH := Lib.hid (fun (u : World) (hu : Below w.heap.size w u) => h.below (hu.mono hB))
  clear hk1 hk2 hk3 hk4 hk5 hk6 en em hres hf hfine h
  go_enter Tryd.func12, Tryd.ntmps12
  go_wp2_with fail
  refine (checkRules_any r hr (HH.out _ L0.out.2.2) (Nat.le_trans hB L0.out.2.2.size) k1 HK1.out).mono ?_
  rintro o w1 ⟨rfl, hb1⟩
  have L1 := Lib.hid (L0.out.next hb1)
  clear hb1 s0 s1 s2 s3 s4 s5 L0
  go_wp2_with fail
  refine (checkGarments_any A n c gs En.out hn (HH.out _ L1.out.2.2) (Nat.le_trans hB L1.out.2.2.size) ((hg.below L1.out.2.2).more L1.out.2.2.size) k2 HK2.out).mono ?_
  rintro o w2 ⟨rfl, hb2⟩
  have L2 := Lib.hid (L1.out.next hb2)
  clear hb2 L1
  go_wp2_with fail
  refine (checkGarments_any A' m c' hs Em.out hm (HH.out _ L2.out.2.2) (Nat.le_trans hB L2.out.2.2.size) ((hg'.below L2.out.2.2).more L2.out.2.2.size) k3 HK3.out).mono ?_
  rintro o w3 ⟨rfl, hb3⟩
  have L3 := Lib.hid (L2.out.next hb3)
  clear hb3 L2
  go_wp2_with fail
  refine (checkHold_any hold (HH.out _ L3.out.2.2)).mono ?_
  rintro o w4 ⟨rfl, rfl⟩
  rw [← HK4.out]
  go_wp2_with fail
  refine (checkCount_any A n c hn (HH.out _ L3.out.2.2)).mono ?_
  rintro o w4 ⟨rfl, rfl⟩
  rw [← HK5.out]
  go_wp2_with fail
  refine (checkCount_any A' m c' hm (HH.out _ L3.out.2.2)).mono ?_
  rintro o w4 ⟨rfl, rfl⟩
  rw [← HK6.out]
  go_wp2_with (refine wpList_listed rfl 92 6 _ rfl #[(0, errOf e k1), (1, errOf e k2), (2, errOf e k3), (3, errOf e k4), (4, errOf e k5), (5, errOf e k6)] ?hp (buildSlice6 e k1 k2 k3 k4 k5 k6 _) ?_; case hp => simp [Act.eval])
  have L4 := Lib.hid (L3.out.next ((Below.refl w3.heap.size w3).alloc (Nat.le_refl _) (.cells #[errOf e k1, errOf e k2, errOf e k3, errOf e k4, errOf e k5, errOf e k6] 60)))
  refine (firstOf_any e [k1, k2, k3, k4, k5, k6] _ 6 6 rfl (by decide) _ (cells_errs e [k1, k2, k3, k4, k5, k6] w3 60 #[errOf e k1, errOf e k2, errOf e k3, errOf e k4, errOf e k5, errOf e k6] rfl)).mono ?_
  rintro o w5 ⟨rfl, rfl⟩
  rw [HF.out]
  obtain ⟨w4, hw4⟩ : ∃ w4, w4 = w3.alloc (.cells #[errOf e k1, errOf e k2, errOf e k3, errOf e k4, errOf e k5, errOf e k6] 60) := ⟨_, rfl⟩
  rw [← hw4] at L4 ⊢
  have HE := Lib.hid (HH.out _ L4.out.2.2)
  obtain ⟨⟨s0, s1, s2, s3, s4, s5⟩, _, _⟩ := L4.out
  clear hw4 L3 HK1 HK2 HK3 HK4 HK5 HK6 HF HH
  cases f with
  | succ i =>
    have hne : codeFit r gs hs fine ≠ 0 := by rw [← HFF.out]; omega
    obtain ⟨rfl, hc⟩ := HRES.out.bad hne
    rw [← HFF.out] at hc
    subst hc
    have e0 : errOf e (i + 1) = errV (e i) := rfl
    rw [e0]
    clear e0 HRES hne HFF
    go_wp2_with fail
    refine (codeOf_any HE.out (i + 1) (by omega)).mono ?_
    rintro o w7 ⟨rfl, rfl⟩
    go_wp2_with fail
    go_ret2
    exact ⟨_, rfl, World.ownsRow_nil _ _ _ _, L4.out.2.2⟩
  | zero =>
    have e0 : errOf e 0 = .nilIface := rfl
    rw [e0]
    obtain ⟨hvr, hva, hvb, hfi, hn8, hm8⟩ := codeFit_zero HFF.out.symm
    have hask := codeFit_load HFF.out.symm
    have hF := ask_good hask hg.fits
    have HF0 := Lib.hid HFF.out.symm
    have HVB := Lib.hid hvb
    have HVA := Lib.hid hva
    have HV := Lib.hid (ask_valid hask)
    rw [← En.out] at hn8
    rw [← Em.out] at hm8
    have hhold : 1 ≤ hold ∧ hold ≤ 20000 := by
      have := HFI.out
      rw [hfi] at this
      exact of_decide_eq_true this
    obtain ⟨h1, h2⟩ := hhold
    have HM := Lib.hid (msOf_meets (r := r) hF.len)
    have HFN := Lib.hid hF
    clear e0 hle hask hF hvr hva hvb hfi HFF HE
    obtain ⟨i0, hi, hz0, hz1, hz2⟩ := info_parts intS.info
    obtain ⟨W, hW⟩ : ∃ W, W = wAll gs := ⟨_, rfl⟩
    have hWs : wSum gs (memb (2 ^ n - 1)) = W := by
      rw [memb_all n hn8, wSum_range gs n (by rw [En.out]; exact Nat.le_refl _), List.take_of_length_le (by rw [En.out]; exact Nat.le_refl _), hW]
    have hWb := wAll_bound gs hg.fits
    rw [← hW, ← En.out] at hWb
    have HWS := Lib.hid hWs
    have HW := Lib.hid hW
    have hwr : IntKind.i64.wrap (hold - W) = hold - W := IntWalk.i64_in _ (by omega)
    have hwr2 : wrap64 (hold - W) = hold - W := by unfold wrap64; omega
    clear hWs hW hWb
    go_wp2_with fail
    refine (newBasket_any r hr hold A n c gs En.out hn8 HV.out _ ((hg.below L4.out.2.2).more L4.out.2.2.size)).mono ?_
    rintro o w6 ⟨rfl, hb6⟩
    have L6 := Lib.hid (L4.out.next hb6)
    clear hb6 s0 s1 s2 s3 s4 s5 L4
    obtain ⟨w7, hw7⟩ : ∃ u, u = w6.alloc (.cells (bC A n c (msOf r gs n) hold) 68) := ⟨_, rfl⟩
    have X7 : Hid (BX w7 w6.heap.size A n c (msOf r gs n) hold w7) := Lib.hid (by
      have h := BX.new (w := w6) A n c (msOf r gs n) hold 68 (Below.refl _ _)
      rw [← hw7] at h
      obtain ⟨c0, c1, c2, c3, c4, c5, c6, c7, c8, c9, _, hq⟩ := h
      exact ⟨c0, c1, c2, c3, c4, c5, c6, c7, c8, c9, Below.refl _ _, hq⟩)
    have L7 : Hid (LS r w w7) := Lib.hid (by rw [hw7]; exact L6.out.next ((Below.refl _ _).alloc (Nat.le_refl _) _))
    have HG7 := Lib.hid (fun (u : World) (hu : Below w7.heap.size w7 u) => ((hg.below (L7.out.2.2.trans (hu.mono L7.out.2.2.size))).more (Nat.le_trans L7.out.2.2.size hu.size) : GS u u.heap.size A gs))
    have HW7 := Lib.hid hw7
    clear hw7 L6
    obtain ⟨c0, c1, c2, c3, c4, c5, c6, c7, c8, c9, _, _⟩ := X7.out
    by_cases hn0 : n = 0
    · have hrt : rightB r gs hold = true := (rightB_iff r gs hold).2 (by
        have e : gs = [] := List.length_eq_zero_iff.1 (by rw [← En.out]; exact hn0)
        rw [e]
        exact ⟨fun i k x y _ hx => by simp at hx, by simp [wAll]; omega⟩)
      obtain ⟨rfl, rfl⟩ := HRES.out.good HF0.out hrt
      have hn1 : decide ((n : Int) > 0) = false := decide_eq_false (by omega)
      have hn2 : decide ((0 : Int) < (n : Int)) = false := decide_eq_false (by omega)
      have hn3 : ¬ (0 : Int) < (n : Int) := by omega
      have hn4 : ¬ 0 < n := by omega
      have hn5 : decide (0 < n) = false := decide_eq_false (by omega)
      clear hrt HRES hn0
      go_wp2_with (first | (rw [← HW7.out]) | fail)
      go_quiet (fail)
      have X8 := Lib.hid (X7.out.next (below_drewN w7.heap.size w7 nq))
      clear c0 c1 c2 c3 c4 c5 c6 c7 c8 c9
      obtain ⟨c0, c1, c2, c3, c4, c5, c6, c7, c8, c9, _, _⟩ := X8.out
      go_wp2_with fail
      go_region_held3 (fun u => BX w7 w6.heap.size A n c (msOf r gs n) hold u)
        (first | assumption | exact X8.out | exact X8.out.next (below_drewN _ _ 1) | exact BX.next (by assumption) hb2)
        (first
          | (go_at_call 41; refine (all_any A n c hn8 (msOf r gs n) hold _).mono ?_; rintro o w9 ⟨rfl, hb2⟩)
          | (go_at_call 42; refine (weightOf_any A n c gs En.out hn (msOf r gs n) hold (2 ^ n - 1) (two_pow_le n hn8).1 (all_in n hn8) _ (HG7.out _ (BX.b (by assumption)))).mono ?_; rintro o w9 ⟨rfl, hb2⟩; rw [HWS.out])
          | fail)
      rename_i hS2
      have L9 := Lib.hid (L7.out.next (BX.b hS2))
      clear hS2 X8 c0 c1 c2 c3 c4 c5 c6 c7 c8 c9
      go_wp2_with fail
      go_loopw [13, 57] (fun vo vi wr => ∃ k : Nat, k ≤ m ∧ vi = .int .i64 k ∧ wr.ownsRow (w.heap.size + 1) 2 1 vo (fitL r gs hold hs k).length ((fitL r gs hold hs k).flatMap intS.C) ∧ LS r w wr) (fun _ vi _ => m - (intOf vi).toNat)
      case atStart => exact ⟨0, by omega, rfl, World.ownsRow_nil _ _ _ _, L9.out⟩
      case round =>
        clear L9 L7 X7 HG7
        obtain ⟨k, hk, rfl, hP, hS⟩ := hrel
        obtain ⟨Ao, co, rfl, _⟩ := owns_slice hP
        have HP := Lib.hid hP
        have SR := Lib.hid hS
        clear hP hS
        by_cases hlt : k < m
        · obtain ⟨x, hx⟩ : ∃ x, hs[k]? = some x := ⟨hs[k]'(by have := Em.out; omega), List.getElem?_eq_getElem _⟩
          have HX := Lib.hid hx
          obtain ⟨a2, rfl, hab, q0, q1, q2, q3⟩ := (hg'.below SR.out.2.2).at_ k x hx
          have hxf := hg'.fits x (List.mem_of_getElem? hx)
          have hxv := HVB.out x (List.mem_of_getElem? hx)
          have hfl := fitL_le r gs hold hs k
          have HFL := Lib.hid hfl
          have hwg := hxf.g0
          have hwh := hxf.g1
          have hwc : IntKind.i64.wrap x.g = x.g := IntWalk.i64_in _ (by omega)
          obtain ⟨wg, hwg2⟩ : ∃ u, u = wr.alloc (.cells #[.int .u8 x.c, .int .i8 x.n, .int .i8 x.m, .int .i16 x.g] 56) := ⟨_, rfl⟩
          have hbg : Below wr.heap.size wr wg := by rw [hwg2]; exact (Below.refl _ _).alloc (Nat.le_refl _) _
          have hrow : wg.heap[wr.heap.size]? = some (.cells #[.int .u8 x.c, .int .i8 x.n, .int .i8 x.m, .int .i16 x.g] 56 (0, 0)) := by rw [hwg2]; exact heap_alloc_new wr _
          have GA : Hid (GarAt wg ⟨wr.heap.size, 0, none⟩ x) := Lib.hid ⟨cell_of_row _ _ _ _ _ _ hrow, cell_of_row _ _ _ _ _ _ hrow, cell_of_row _ _ _ _ _ _ hrow, cell_of_row _ _ _ _ _ _ hrow⟩
          have hzg : wr.heap.size < wg.heap.size := (Array.getElem?_eq_some_iff.1 hrow).1
          have HWG := Lib.hid hwg2
          have SG := Lib.hid (SR.out.next hbg)
          have PG := Lib.hid (owns_next HP.out hbg)
          have hmf : ∀ (fn : Fn) (first cap : Array Value) (w : World), (Instr.makeFunc fn first cap).run Tryd.prog w = .ok (.func fn first cap) w := fun _ _ _ _ => rfl
          have wa : (0 : Int) ≤ (k : Int) := by omega
          have wb : (k : Int) < (m : Int) := by omega
          have HCF := Lib.hid (fun (b : Bool) (hb : gs.all (fun y => meetB r x y) = b) => ContainsFuncF_any A n c gs En.out hn r hr x hxf hxv HVA.out w.heap.size wr.heap.size b hb wg ((hg.below SG.out.2.2).more SG.out.2.2.size) SG.out.1 GA.out SG.out.2.1 hzg)
          clear hx hwg2 hbg hrow hwg hwh
          cases hall : gs.all (fun y => meetB r x y) with
          | false =>
            have HC2 := Lib.hid (HCF.out false hall)
            have HNX := Lib.hid (fitL_no (hold := hold) HX.out (show ¬ fitB r gs hold x = true by rw [fitB, hall]; simp))
            clear hall HCF
            go_wp2_with (first | (rw [← HWG.out]) | (go_at_call 43; refine HC2.out.mono ?_; rintro o w10 ⟨rfl, hb10⟩; have S10 := Lib.hid (SG.out.next hb10); have P10 := Lib.hid (owns_next PG.out hb10); clear hb10) | fail)
            go_roundw
            case rel => exact ⟨k + 1, by omega, by go_num, by rw [HNX.out]; exact P10.out, S10.out⟩
            case measure => simp [intOf]; omega
          | true =>
            have HC2 := Lib.hid (HCF.out true hall)
            by_cases hwx : x.g ≤ hold - W
            · have hdec : decide (x.g ≤ hold - W) = true := decide_eq_true hwx
              have HNX := Lib.hid (fitL_yes (hold := hold) HX.out (show fitB r gs hold x = true by rw [fitB, hall, ← HW.out, hdec]; rfl))
              clear hall HCF hwx
              go_wp2_with (first | (rw [← HWG.out]) | (go_at_call 43; refine HC2.out.mono ?_; rintro o w10 ⟨rfl, hb10⟩; have S10 := Lib.hid (SG.out.next hb10); have P10 := Lib.hid (owns_next PG.out hb10); obtain ⟨q0, q1, q2, q3⟩ := garAt_next GA.out hzg hb10; have hz10 := S10.out.2.1; clear hb10) | (at_builtin; refine wpList_append_own _ rfl (.tmp 74) (.tmp 76) 25 rfl (w.heap.size + 1) 2 i0 (.int .i64 0) 1 8 Tryd.underlying25 hi hz0 hz1 hz2 rfl (by decide) _ _ _ rfl (P10.out.alloc _) ⟨_, 0, none⟩ 1 1 [.int .i64 (k : Int)] rfl rfl (one_newG _ _ _) (one_cellG (by rfl)) (by unfold maxLen; omega) (by omega) (by simp; omega) ?_; intro v11 w11 hP11 hgr _; have S11 := Lib.hid (LS.growG ((S10.out.next ((Below.refl _ _).alloc (Nat.le_refl _) _))) hgr (fun g hg => (P10.out.lt g hg).1)); have P11 := Lib.hid hP11; clear hP11 hgr) | fail)
              go_roundw
              case rel =>
                have hp7 := P11.out
                have e : (fitL r gs hold hs k ++ [(k : Int)]).flatMap intS.C = (fitL r gs hold hs k).flatMap intS.C ++ [.int .i64 (k : Int)] := by simp [intS.C]
                rw [← e] at hp7
                exact ⟨k + 1, by omega, by go_num, by rw [HNX.out, List.length_append]; exact hp7, S11.out⟩
              case measure => simp [intOf]; omega
            · have hdec : decide (x.g ≤ hold - W) = false := decide_eq_false hwx
              have HNX := Lib.hid (fitL_no (hold := hold) HX.out (show ¬ fitB r gs hold x = true by rw [fitB, hall, ← HW.out, hdec]; decide))
              clear hall HCF hwx
              go_wp2_with (first | (rw [← HWG.out]) | (go_at_call 43; refine HC2.out.mono ?_; rintro o w10 ⟨rfl, hb10⟩; have S10 := Lib.hid (SG.out.next hb10); have P10 := Lib.hid (owns_next PG.out hb10); obtain ⟨q0, q1, q2, q3⟩ := garAt_next GA.out hzg hb10; clear hb10) | fail)
              go_roundw
              case rel => exact ⟨k + 1, by omega, by go_num, by rw [HNX.out]; exact P10.out, S10.out⟩
              case measure => simp [intOf]; omega
        · obtain rfl : k = m := by omega
          go_wp2_with fail
          go_ret2
          refine ⟨_, rfl, ?_, SR.out.2.2⟩
          rw [← Em.out]
          exact owns_below HP.out (Nat.le_succ _)
    · have hn1 : decide ((n : Int) > 0) = true := decide_eq_true (by omega)
      have hn2 : decide ((0 : Int) < (n : Int)) = true := decide_eq_true (by omega)
      have hn3 : (0 : Int) < (n : Int) := by omega
      have hn4 : 0 < n := by omega
      have hiff := isLoadB_all HM.out hold n En.out hn8 HFN.out.meets HFN.out.self
      cases hrt : rightB r gs hold with
      | false =>
        obtain ⟨rfl, rfl⟩ := HRES.out.state HF0.out hrt
        have hlb : isLoadB gs (msOf r gs n) hold (2 ^ n - 1) = false := by
          apply Bool.eq_false_iff.2
          intro h
          rw [En.out] at h hiff
          have := (rightB_iff r gs hold).2 (hiff.1 h).2
          rw [hrt] at this
          cases this
        have HLB := Lib.hid hlb
        clear hrt HRES hlb hiff
        go_wp2_with (first | (rw [← HW7.out]) | fail)
        go_region_held3 (fun u => BX w7 w6.heap.size A n c (msOf r gs n) hold u)
          (first | assumption | exact X7.out | exact X7.out.next (below_drewN _ _ 1) | exact BX.next (by assumption) hb2)
          (first
            | (go_at_call 41; refine (all_any A n c hn8 (msOf r gs n) hold _).mono ?_; rintro o w8 ⟨rfl, hb2⟩)
            | (go_at_call 40; refine (isLoad_any A n c gs En.out hn (msOf r gs n) hold (2 ^ n - 1) (two_pow_le n hn8).1 (all_in n hn8) _ (HG7.out _ (BX.b (by assumption))) false HLB.out).mono ?_; rintro o w8 ⟨rfl, hb2⟩)
            | fail)
        rename_i hS
        have L8 := Lib.hid (L7.out.next (BX.b hS))
        clear hS
        go_wp2_with fail
        go_ret2
        exact ⟨_, rfl, World.ownsRow_nil _ _ _ _, L8.out.2.2⟩
      | true =>
        obtain ⟨rfl, rfl⟩ := HRES.out.good HF0.out hrt
        have hlb : isLoadB gs (msOf r gs n) hold (2 ^ n - 1) = true := by
          rw [En.out] at hiff ⊢
          exact hiff.2 ⟨by rw [← En.out]; omega, (rightB_iff r gs hold).1 hrt⟩
        have HLB := Lib.hid hlb
        clear hrt HRES hlb hiff
        go_wp2_with (first | (rw [← HW7.out]) | fail)
        go_region_held3 (fun u => BX w7 w6.heap.size A n c (msOf r gs n) hold u)
          (first | assumption | exact X7.out | exact X7.out.next (below_drewN _ _ 1) | exact BX.next (by assumption) hb2)
          (first
            | (go_at_call 41; refine (all_any A n c hn8 (msOf r gs n) hold _).mono ?_; rintro o w8 ⟨rfl, hb2⟩)
            | (go_at_call 40; refine (isLoad_any A n c gs En.out hn (msOf r gs n) hold (2 ^ n - 1) (two_pow_le n hn8).1 (all_in n hn8) _ (HG7.out _ (BX.b (by assumption))) true HLB.out).mono ?_; rintro o w8 ⟨rfl, hb2⟩)
            | fail)
        rename_i hS
        have X8 := Lib.hid hS
        clear hS c0 c1 c2 c3 c4 c5 c6 c7 c8 c9
        obtain ⟨c0, c1, c2, c3, c4, c5, c6, c7, c8, c9, _, _⟩ := X8.out
        go_wp2_with fail
        go_region_held3 (fun u => BX w7 w6.heap.size A n c (msOf r gs n) hold u)
          (first | assumption | exact X8.out | exact X8.out.next (below_drewN _ _ 1) | exact BX.next (by assumption) hb2)
          (first
            | (go_at_call 41; refine (all_any A n c hn8 (msOf r gs n) hold _).mono ?_; rintro o w9 ⟨rfl, hb2⟩)
            | (go_at_call 42; refine (weightOf_any A n c gs En.out hn (msOf r gs n) hold (2 ^ n - 1) (two_pow_le n hn8).1 (all_in n hn8) _ (HG7.out _ (BX.b (by assumption)))).mono ?_; rintro o w9 ⟨rfl, hb2⟩; rw [HWS.out])
            | fail)
        rename_i hS2
        have L9 := Lib.hid (L7.out.next (BX.b hS2))
        clear hS2 X8 c0 c1 c2 c3 c4 c5 c6 c7 c8 c9
        go_wp2_with fail
        go_loopw [13, 57] (fun vo vi wr => ∃ k : Nat, k ≤ m ∧ vi = .int .i64 k ∧ wr.ownsRow (w.heap.size + 1) 2 1 vo (fitL r gs hold hs k).length ((fitL r gs hold hs k).flatMap intS.C) ∧ LS r w wr) (fun _ vi _ => m - (intOf vi).toNat)
        case atStart => exact ⟨0, by omega, rfl, World.ownsRow_nil _ _ _ _, L9.out⟩
        case round =>
          clear L9 L7 X7 HG7
          obtain ⟨k, hk, rfl, hP, hS⟩ := hrel
          obtain ⟨Ao, co, rfl, _⟩ := owns_slice hP
          have HP := Lib.hid hP
          have SR := Lib.hid hS
          clear hP hS
          by_cases hlt : k < m
          · obtain ⟨x, hx⟩ : ∃ x, hs[k]? = some x := ⟨hs[k]'(by have := Em.out; omega), List.getElem?_eq_getElem _⟩
            have HX := Lib.hid hx
            obtain ⟨a2, rfl, hab, q0, q1, q2, q3⟩ := (hg'.below SR.out.2.2).at_ k x hx
            have hxf := hg'.fits x (List.mem_of_getElem? hx)
            have hxv := HVB.out x (List.mem_of_getElem? hx)
            have hfl := fitL_le r gs hold hs k
            have HFL := Lib.hid hfl
            have hwg := hxf.g0
            have hwh := hxf.g1
            have hwc : IntKind.i64.wrap x.g = x.g := IntWalk.i64_in _ (by omega)
            obtain ⟨wg, hwg2⟩ : ∃ u, u = wr.alloc (.cells #[.int .u8 x.c, .int .i8 x.n, .int .i8 x.m, .int .i16 x.g] 56) := ⟨_, rfl⟩
            have hbg : Below wr.heap.size wr wg := by rw [hwg2]; exact (Below.refl _ _).alloc (Nat.le_refl _) _
            have hrow : wg.heap[wr.heap.size]? = some (.cells #[.int .u8 x.c, .int .i8 x.n, .int .i8 x.m, .int .i16 x.g] 56 (0, 0)) := by rw [hwg2]; exact heap_alloc_new wr _
            have GA : Hid (GarAt wg ⟨wr.heap.size, 0, none⟩ x) := Lib.hid ⟨cell_of_row _ _ _ _ _ _ hrow, cell_of_row _ _ _ _ _ _ hrow, cell_of_row _ _ _ _ _ _ hrow, cell_of_row _ _ _ _ _ _ hrow⟩
            have hzg : wr.heap.size < wg.heap.size := (Array.getElem?_eq_some_iff.1 hrow).1
            have HWG := Lib.hid hwg2
            have SG := Lib.hid (SR.out.next hbg)
            have PG := Lib.hid (owns_next HP.out hbg)
            have hmf : ∀ (fn : Fn) (first cap : Array Value) (w : World), (Instr.makeFunc fn first cap).run Tryd.prog w = .ok (.func fn first cap) w := fun _ _ _ _ => rfl
            have wa : (0 : Int) ≤ (k : Int) := by omega
            have wb : (k : Int) < (m : Int) := by omega
            have HCF := Lib.hid (fun (b : Bool) (hb : gs.all (fun y => meetB r x y) = b) => ContainsFuncF_any A n c gs En.out hn r hr x hxf hxv HVA.out w.heap.size wr.heap.size b hb wg ((hg.below SG.out.2.2).more SG.out.2.2.size) SG.out.1 GA.out SG.out.2.1 hzg)
            clear hx hwg2 hbg hrow hwg hwh
            cases hall : gs.all (fun y => meetB r x y) with
            | false =>
              have HC2 := Lib.hid (HCF.out false hall)
              have HNX := Lib.hid (fitL_no (hold := hold) HX.out (show ¬ fitB r gs hold x = true by rw [fitB, hall]; simp))
              clear hall HCF
              go_wp2_with (first | (rw [← HWG.out]) | (go_at_call 43; refine HC2.out.mono ?_; rintro o w10 ⟨rfl, hb10⟩; have S10 := Lib.hid (SG.out.next hb10); have P10 := Lib.hid (owns_next PG.out hb10); clear hb10) | fail)
              go_roundw
              case rel => exact ⟨k + 1, by omega, by go_num, by rw [HNX.out]; exact P10.out, S10.out⟩
              case measure => simp [intOf]; omega
            | true =>
              have HC2 := Lib.hid (HCF.out true hall)
              by_cases hwx : x.g ≤ hold - W
              · have hdec : decide (x.g ≤ hold - W) = true := decide_eq_true hwx
                have HNX := Lib.hid (fitL_yes (hold := hold) HX.out (show fitB r gs hold x = true by rw [fitB, hall, ← HW.out, hdec]; rfl))
                clear hall HCF hwx
                go_wp2_with (first | (rw [← HWG.out]) | (go_at_call 43; refine HC2.out.mono ?_; rintro o w10 ⟨rfl, hb10⟩; have S10 := Lib.hid (SG.out.next hb10); have P10 := Lib.hid (owns_next PG.out hb10); obtain ⟨q0, q1, q2, q3⟩ := garAt_next GA.out hzg hb10; have hz10 := S10.out.2.1; clear hb10) | (at_builtin; refine wpList_append_own _ rfl (.tmp 74) (.tmp 76) 25 rfl (w.heap.size + 1) 2 i0 (.int .i64 0) 1 8 Tryd.underlying25 hi hz0 hz1 hz2 rfl (by decide) _ _ _ rfl (P10.out.alloc _) ⟨_, 0, none⟩ 1 1 [.int .i64 (k : Int)] rfl rfl (one_newG _ _ _) (one_cellG (by rfl)) (by unfold maxLen; omega) (by omega) (by simp; omega) ?_; intro v11 w11 hP11 hgr _; have S11 := Lib.hid (LS.growG ((S10.out.next ((Below.refl _ _).alloc (Nat.le_refl _) _))) hgr (fun g hg => (P10.out.lt g hg).1)); have P11 := Lib.hid hP11; clear hP11 hgr) | fail)
                go_roundw
                case rel =>
                  have hp7 := P11.out
                  have e : (fitL r gs hold hs k ++ [(k : Int)]).flatMap intS.C = (fitL r gs hold hs k).flatMap intS.C ++ [.int .i64 (k : Int)] := by simp [intS.C]
                  rw [← e] at hp7
                  exact ⟨k + 1, by omega, by go_num, by rw [HNX.out, List.length_append]; exact hp7, S11.out⟩
                case measure => simp [intOf]; omega
              · have hdec : decide (x.g ≤ hold - W) = false := decide_eq_false hwx
                have HNX := Lib.hid (fitL_no (hold := hold) HX.out (show ¬ fitB r gs hold x = true by rw [fitB, hall, ← HW.out, hdec]; decide))
                clear hall HCF hwx
                go_wp2_with (first | (rw [← HWG.out]) | (go_at_call 43; refine HC2.out.mono ?_; rintro o w10 ⟨rfl, hb10⟩; have S10 := Lib.hid (SG.out.next hb10); have P10 := Lib.hid (owns_next PG.out hb10); obtain ⟨q0, q1, q2, q3⟩ := garAt_next GA.out hzg hb10; clear hb10) | fail)
                go_roundw
                case rel => exact ⟨k + 1, by omega, by go_num, by rw [HNX.out]; exact P10.out, S10.out⟩
                case measure => simp [intOf]; omega
          · obtain rfl : k = m := by omega
            go_wp2_with fail
            go_ret2
            refine ⟨_, rfl, ?_, SR.out.2.2⟩
            rw [← Em.out]
            exact owns_below HP.out (Nat.le_succ _)
end Go.Proofs.YtdafnibmoggcnaaDoor.mem

/-
  What loads cost, in plain words.
-/
namespace Go.Proofs.YtdafnibmoggcnaaDoor.mem
open Go Go.RowKit garS heats meet load sl

/-- what heat one garment needs -/
def nAt (gs : List Gar) (i : Nat) : Int := (gs[i]?.map (·.n)).getD 0
def hMax (gs : List Gar) (is : List Nat) : Int := is.foldl (fun s i => max s (nAt gs i)) 0
theorem hMax_snoc (gs : List Gar) (is : List Nat) (i : Nat) : hMax gs (is ++ [i]) = max (hMax gs is) (nAt gs i) := by simp [hMax]
theorem hMax_bound (gs : List Gar) (hf : ∀ x ∈ gs, x.Fits) (is : List Nat) : 0 ≤ hMax gs is ∧ hMax gs is ≤ 127 := by
  suffices h : ∀ (is : List Nat) (s : Int), 0 ≤ s → s ≤ 127 → 0 ≤ is.foldl (fun s i => max s (nAt gs i)) s ∧ is.foldl (fun s i => max s (nAt gs i)) s ≤ 127 from h is 0 (by omega) (by omega)
  intro is
  induction is with
  | nil => intro s h0 h1; exact ⟨h0, h1⟩
  | cons i is ih =>
    intro s h0 h1
    have h2 : nAt gs i ≤ 127 := by
      unfold nAt
      cases hx : gs[i]? with
      | none => simp
      | some x =>
        have := (hf x (List.mem_of_getElem? hx)).n1
        simp
        omega
    rw [List.foldl_cons]
    exact ih _ (by omega) (by omega)
theorem lowOf_append (l : List Gar) (x : Gar) : lowOf (l ++ [x]) = max (lowOf l) x.n := by simp [lowOf]
theorem lowOf_bound (gs : List Gar) (hf : ∀ x ∈ gs, x.Fits) : 0 ≤ lowOf gs ∧ lowOf gs ≤ 127 := by
  suffices h : ∀ (gs : List Gar), (∀ x ∈ gs, x.Fits) → ∀ s : Int, 0 ≤ s → s ≤ 127 → 0 ≤ gs.foldl (fun l x => max l x.n) s ∧ gs.foldl (fun l x => max l x.n) s ≤ 127 from h gs hf 0 (by omega) (by omega)
  intro gs
  induction gs with
  | nil => intro _ s h0 h1; exact ⟨h0, h1⟩
  | cons x gs ih =>
    intro hf s h0 h1
    have h2 := (hf x (List.mem_cons_self ..)).n1
    rw [List.foldl_cons]
    exact ih (fun y hy => hf y (List.mem_cons_of_mem _ hy)) _ (by omega) (by omega)
theorem hMax_with (gs : List Gar) (ls : List Int) (k : Int) : ∀ n, n ≤ gs.length → hMax gs ((List.range n).filter (fun i => decide (ls[i]? = some k))) = lowOf (withL gs ls k n)
  | 0, _ => rfl
  | n + 1, hn => by
    have ih := hMax_with gs ls k n (by omega)
    obtain ⟨z, hz⟩ : ∃ z, gs[n]? = some z := ⟨gs[n]'(by omega), List.getElem?_eq_getElem _⟩
    rw [List.range_succ, List.filter_append]
    unfold withL
    by_cases h : ls[n]? = some k
    · rw [if_pos h, hz, Option.toList_some, lowOf_append, ← ih]
      simp only [List.filter_cons, List.filter_nil, h, decide_true, if_true]
      rw [hMax_snoc, nAt, hz]
      rfl
    · rw [if_neg h, ← ih]
      simp [h]
/-- what a load of a number costs -/
def priceS (gs : List Gar) (ls : List Int) (each : Int) (k : Nat) : Int := if withL gs ls k gs.length = [] then 0 else each + lowOf (withL gs ls k gs.length)
def priceB (gs : List Gar) (ls : List Int) (each : Int) (k : Nat) : Int := if setK ls k gs.length = 0 then 0 else each + hMax gs (memb (setK ls k gs.length))
theorem withL_none (gs : List Gar) (ls : List Int) (k : Int) : ∀ n, n ≤ gs.length → withL gs ls k n = [] → setK ls k n = 0
  | 0, _, _ => rfl
  | n + 1, hn, h => by
    obtain ⟨z, hz⟩ : ∃ z, gs[n]? = some z := ⟨gs[n]'(by omega), List.getElem?_eq_getElem _⟩
    unfold withL at h
    unfold setK
    by_cases e : ls[n]? = some k
    · rw [if_pos e, hz] at h
      simp at h
    · rw [if_neg e] at h ⊢
      exact withL_none gs ls k n (by omega) h
theorem price_eq (gs : List Gar) (ls : List Int) (each : Int) (k : Nat) (hn : gs.length ≤ 8) : priceB gs ls each k = priceS gs ls each k := by
  unfold priceB priceS
  by_cases h : withL gs ls k gs.length = []
  · rw [if_pos h, if_pos (withL_none gs ls k _ (Nat.le_refl _) h)]
  · rw [if_neg h, if_neg (fun e => h (setK_none gs ls k _ e)), memb_setK ls k _ hn, hMax_with gs ls k _ (Nat.le_refl _)]
/-- what all loads with a number below k cost -/
def sumTo (p : Nat → Int) : Nat → Int
  | 0 => 0
  | k + 1 => sumTo p k + p k
theorem sumTo_bound (p : Nat → Int) (m : Int) (hp : ∀ k, 0 ≤ p k ∧ p k ≤ m) : ∀ k : Nat, 0 ≤ sumTo p k ∧ sumTo p k ≤ m * k
  | 0 => by simp [sumTo]
  | k + 1 => by
    have h1 := sumTo_bound p m hp k
    have h2 := hp k
    have h3 : m * ((k + 1 : Nat) : Int) = m * k + m := by rw [Int.natCast_add, Int.mul_add]; simp
    rw [sumTo, h3]
    omega
theorem sumTo_congr {p q : Nat → Int} (h : ∀ k, p k = q k) (k : Nat) : sumTo p k = sumTo q k := by
  have : p = q := funext h
  rw [this]
theorem priceS_bound (gs : List Gar) (hf : ∀ x ∈ gs, x.Fits) (ls : List Int) (each : Int) (h0 : 0 ≤ each) (h1 : each ≤ 1000) (k : Nat) : 0 ≤ priceS gs ls each k ∧ priceS gs ls each k ≤ 1127 := by
  have h2 := lowOf_bound (withL gs ls k gs.length) (fun x hx => hf x (withL_in gs ls k _ x hx))
  unfold priceS
  split <;> omega
/-- what loads cost -/
def costS (gs : List Gar) (ls : List Int) (each : Int) : Int := sumTo (priceS gs ls each) 8
theorem cost_eq (gs : List Gar) (ls : List Int) (each : Int) (hn : gs.length ≤ 8) : sumTo (priceB gs ls each) 8 = costS gs ls each := sumTo_congr (fun k => price_eq gs ls each k hn) 8
/-- the code of CostOf -/
noncomputable def codeCost (r : Nat → Int) (gs : List Gar) (fine : Bool) (hold : Int) (ls : List Int) : Nat := if codeAsk r gs fine = 0 then (if rightV r gs hold ls 0 = true then 0 else 4) else codeAsk r gs fine
end Go.Proofs.YtdafnibmoggcnaaDoor.mem

/-
  Contract of the program's setsOf: the sets that loads tell.
-/
namespace Go.Proofs.YtdafnibmoggcnaaDoor.mem
open Go Go.RowKit errs garS heats meet load sl

/-- the set of each number -/
def setF (ls : List Int) (k : Nat) : Nat → Int := fun j => ((setK ls (j : Int) k : Nat) : Int)
def zeroF : Nat → Int := fun _ => 0
/-- what setsOf returns -/
def setsV (ls : List Int) (n : Nat) (b : Bool) : Nat → Int := if b = true then setF ls n else zeroF
/-- a basket in its box, the room for the result, none, and the sets -/
structure SQ (w W : World) (A : Option Addr) (n c : Nat) (m : Nat → Int) (hold : Int) (f : Nat → Int) : Prop where
  K : Bask W w.heap.size A n c m hold
  R : ∀ j, j < 8 → W.cell? ⟨w.heap.size + 1, j, none⟩ = some (.int .u8 0) ∧ W.frozen? ⟨w.heap.size + 1, j, none⟩ = false
  N : ∀ j, j < 8 → W.cell? ⟨w.heap.size + 1 + 1, j, none⟩ = some (.int .u8 0) ∧ W.frozen? ⟨w.heap.size + 1 + 1, j, none⟩ = false
  S : ∀ j, j < 8 → W.cell? ⟨w.heap.size + 1 + 1 + 1, j, none⟩ = some (.int .u8 (f j)) ∧ W.frozen? ⟨w.heap.size + 1 + 1 + 1, j, none⟩ = false
  B : Below w.heap.size w W
  z : w.heap.size + 1 + 1 + 1 < W.heap.size
theorem SQ.next {w W V : World} {A : Option Addr} {n c : Nat} {m : Nat → Int} {hold : Int} {f : Nat → Int} (h : SQ w W A n c m hold f) (hb : Below W.heap.size W V) : SQ w V A n c m hold f := by
  have hz := h.z
  have cc : ∀ g j, g ≤ w.heap.size + 1 + 1 + 1 → V.cell? ⟨g, j, none⟩ = W.cell? ⟨g, j, none⟩ := fun g j hg => hb.cell (p := ⟨g, j, none⟩) (by show g < _; omega)
  have cf : ∀ g j, g ≤ w.heap.size + 1 + 1 + 1 → V.frozen? ⟨g, j, none⟩ = W.frozen? ⟨g, j, none⟩ := fun g j hg => hb.frozen (p := ⟨g, j, none⟩) (by show g < _; omega)
  refine ⟨h.K.keep fun j v hv => (cc _ _ (by omega)).trans hv, fun j hj => ⟨(cc _ _ (by omega)).trans (h.R j hj).1, (cf _ _ (by omega)).trans (h.R j hj).2⟩, fun j hj => ⟨(cc _ _ (by omega)).trans (h.N j hj).1, (cf _ _ (by omega)).trans (h.N j hj).2⟩,
    fun j hj => ⟨(cc _ _ (by omega)).trans (h.S j hj).1, (cf _ _ (by omega)).trans (h.S j hj).2⟩, h.B.trans (hb.mono h.B.size), Nat.lt_of_lt_of_le hz hb.size⟩
theorem cell_setCell_ne (W : World) (g a b : Nat) (v : Value) (h : a ≠ b) : (W.setCell ⟨g, a, none⟩ v).cell? ⟨g, b, none⟩ = W.cell? ⟨g, b, none⟩ := by
  have hne : (⟨g, a, none⟩ : Addr) ≠ ⟨g, b, none⟩ := fun e2 => h (by injection e2)
  first | exact World.cell?_setCell_other _ hne | exact World.cell?_setCell_other _ _ _ hne | exact World.cell?_setCell_other _ _ _ _ hne
theorem SQ.put {w W : World} {A : Option Addr} {n c : Nat} {m : Nat → Int} {hold : Int} {f f' : Nat → Int} (h : SQ w W A n c m hold f) (a : Nat) (ha : a < 8) (v : Int) (h1 : f' a = v) (h2 : ∀ j, j ≠ a → f' j = f j) : SQ w (W.setCell ⟨w.heap.size + 1 + 1 + 1, a, none⟩ (.int .u8 v)) A n c m hold f' := by
  have hz := h.z
  have cc : ∀ g j, g ≤ w.heap.size + 1 + 1 → (W.setCell ⟨w.heap.size + 1 + 1 + 1, a, none⟩ (.int .u8 v)).cell? ⟨g, j, none⟩ = W.cell? ⟨g, j, none⟩ := fun g j hg => World.cell?_setCell_far _ _ _ _ (by show w.heap.size + 1 + 1 + 1 ≠ g; omega)
  refine ⟨h.K.keep fun j v hv => (cc _ _ (by omega)).trans hv, fun j hj => ⟨(cc _ _ (by omega)).trans (h.R j hj).1, by rw [World.frozen?_setCell]; exact (h.R j hj).2⟩, fun j hj => ⟨(cc _ _ (by omega)).trans (h.N j hj).1, by rw [World.frozen?_setCell]; exact (h.N j hj).2⟩,
    fun j hj => ⟨?_, by rw [World.frozen?_setCell]; exact (h.S j hj).2⟩, h.B.setCell (p := ⟨w.heap.size + 1 + 1 + 1, a, none⟩) (by show w.heap.size ≤ w.heap.size + 1 + 1 + 1; omega) _, by rw [World.size_setCell]; exact hz⟩
  by_cases e : j = a
  · subst e
    rw [World.cell?_setCell_same' _ _ _ (by rw [(h.S j hj).1]; rfl), h1]
  · rw [cell_setCell_ne _ _ _ _ _ (Ne.symm e), (h.S j hj).1, h2 j e]
theorem SQ.new (w : World) (A : Option Addr) (n c : Nat) (m : Nat → Int) (hold : Int) (ls : List Int) (t t' : TypeId) : SQ w ((((w.alloc (.cells (bC A n c m hold) t)).alloc (.cells zero8 t')).alloc (.cells zero8 t')).alloc (.cells zero8 t')) A n c m hold (setF ls 0) := by
  obtain ⟨g0, g1, g2, g3, hsz, hB⟩ := heap4 w (.cells (bC A n c m hold) t) (.cells zero8 t') (.cells zero8 t') (.cells zero8 t')
  have fz : ∀ {W : World} {g j : Nat}, W.heap[g]? = some (.cells zero8 t' (0, 0)) → W.frozen? ⟨g, j, none⟩ = false := fun h => by unfold World.frozen?; rw [h]; rfl
  refine ⟨⟨cell_of_row _ _ _ _ _ _ g0, fun j hj => (cell_of_row _ _ _ _ _ _ g0).trans (bC_m A n c m hold j hj), cell_of_row _ _ _ _ _ _ g0⟩, fun j hj => ⟨(cell_of_row _ _ _ _ _ _ g1).trans (zero8_at j hj), fz g1⟩, fun j hj => ⟨(cell_of_row _ _ _ _ _ _ g2).trans (zero8_at j hj), fz g2⟩, fun j hj => ⟨(cell_of_row _ _ _ _ _ _ g3).trans (zero8_at j hj), fz g3⟩, hB, by omega⟩
theorem setF_put {ls : List Int} {k a : Nat} (hx : ls[k]? = some (a : Int)) : setF ls (k + 1) a = ((setK ls a k ||| 2 ^ k : Nat) : Int) := by
  unfold setF
  rw [setK, if_pos hx]
theorem setF_else {ls : List Int} {k a : Nat} (hx : ls[k]? = some (a : Int)) (j : Nat) (hj : j ≠ a) : setF ls (k + 1) j = setF ls k j := by
  unfold setF
  rw [setK, if_neg (by rw [hx]; simp; omega)]
theorem upto {p : Nat → Prop} {q : Nat} (h1 : ∀ j : Nat, j < q → p j) (h2 : p q) : ∀ j : Nat, j < q + 1 → p j := fun j hj => by
  rcases Nat.lt_or_ge j q with h3 | h3
  · exact h1 j h3
  · obtain rfl : j = q := by omega
    exact h2
end Go.Proofs.YtdafnibmoggcnaaDoor.mem

/-
  What a load costs: contracts of the program's heatOf, priceFor and sumOf.
-/
namespace Go.Proofs.YtdafnibmoggcnaaDoor.mem
open Go Go.RowKit Go.Shelf errs garS heats meet load
attribute [local go_sem] Oper.semAt_some

end Go.Proofs.YtdafnibmoggcnaaDoor.mem

/-
  Contracts of CheckLoads, the program's and the model's.
-/
namespace Go.Proofs.YtdafnibmoggcnaaDoor.mem
open Go Go.RowKit errs garS heats meet load sl

theorem right_ask {r : Nat → Int} {gs : List Gar} {fine : Bool} {hold : Int} (h : 0 = codeAsk r gs fine) (hf : ∀ x ∈ gs, x.Fits) (hfine : fine = true ↔ (1 ≤ hold ∧ hold ≤ 20000)) (ls : List Int) :
    RightB gs (msOf r gs gs.length) hold ls ↔ Right r gs hold ls := by
  have hF := ask_good h hf
  have h1 := (hfine.1 (ask_fine h)).1
  exact right_iff (msOf_meets (r := r) hF.len) hold (by omega) ls hF.len hF.meets hF.self
theorem toRules_q (r : Nat → Int) (w : World) :
    Calls Tryd.prog 10 #[.agg #[.int .u8 (r 0), .int .u8 (r 1), .int .u8 (r 2), .int .u8 (r 3), .int .u8 (r 4), .int .u8 (r 5)]] w fun o w' => o = .returned (rulesV r) ∧ Below w.heap.size w w' := rules.toRules_any r w
end Go.Proofs.YtdafnibmoggcnaaDoor.mem

/-
  Prices of loads: contracts of the program's priceFor, of the closure that it returns, and of sumOf.
-/
namespace Go.Proofs.YtdafnibmoggcnaaDoor.mem
open Go Go.RowKit errs garS heats meet load sl

/-- what priceFor's closure holds: a basket and what each load costs -/
structure PriceAt (W : World) (b1 b2 : Nat) (A : Option Addr) (n c : Nat) (m : Nat → Int) (hold each : Int) : Prop where
  K : Bask W b2 A n c m hold
  e : W.cell? ⟨b1, 0, none⟩ = some (.int .i64 each)
  z1 : b1 < W.heap.size
  z2 : b2 < W.heap.size
theorem PriceAt.next {W V : World} {b1 b2 : Nat} {A : Option Addr} {n c : Nat} {m : Nat → Int} {hold each : Int} (h : PriceAt W b1 b2 A n c m hold each) (hb : Below W.heap.size W V) : PriceAt V b1 b2 A n c m hold each :=
  ⟨h.K.keep fun j _v hv => (hb.cell (p := ⟨b2, j, none⟩) h.z2).trans hv, (hb.cell (p := ⟨b1, 0, none⟩) h.z1).trans h.e, Nat.lt_of_lt_of_le h.z1 hb.size, Nat.lt_of_lt_of_le h.z2 hb.size⟩
/-- what the closure's call reads, and what lay below -/
structure PS (w : World) (b1 b2 : Nat) (A : Option Addr) (n c : Nat) (m : Nat → Int) (hold each : Int) (u : World) : Prop where
  P : PriceAt u b1 b2 A n c m hold each
  B : Below w.heap.size w u
theorem PS.next {w u v : World} {b1 b2 : Nat} {A : Option Addr} {n c : Nat} {m : Nat → Int} {hold each : Int} (h : PS w b1 b2 A n c m hold each u) (hb : Below u.heap.size u v) : PS w b1 b2 A n c m hold each v := ⟨h.P.next hb, h.B.trans (hb.mono h.B.size)⟩
abbrev PX (w : World) (b1 b2 : Nat) (A : Option Addr) (n c : Nat) (m : Nat → Int) (hold each : Int) (u : World) : Prop :=
  u.cell? ⟨b2, 0, none⟩ = some (.slice A n c) ∧ u.cell? ⟨b2, 1, none⟩ = some (.int .u8 (m 0)) ∧ u.cell? ⟨b2, 2, none⟩ = some (.int .u8 (m 1)) ∧ u.cell? ⟨b2, 3, none⟩ = some (.int .u8 (m 2)) ∧ u.cell? ⟨b2, 4, none⟩ = some (.int .u8 (m 3)) ∧ u.cell? ⟨b2, 5, none⟩ = some (.int .u8 (m 4)) ∧ u.cell? ⟨b2, 6, none⟩ = some (.int .u8 (m 5)) ∧ u.cell? ⟨b2, 7, none⟩ = some (.int .u8 (m 6)) ∧ u.cell? ⟨b2, 8, none⟩ = some (.int .u8 (m 7)) ∧ u.cell? ⟨b2, 9, none⟩ = some (.int .i64 hold) ∧ u.cell? ⟨b1, 0, none⟩ = some (.int .i64 each) ∧ PS w b1 b2 A n c m hold each u
theorem PS.x {w u : World} {b1 b2 : Nat} {A : Option Addr} {n c : Nat} {m : Nat → Int} {hold each : Int} (h : PS w b1 b2 A n c m hold each u) : PX w b1 b2 A n c m hold each u :=
  ⟨h.P.K.s, h.P.K.m 0 (by omega), h.P.K.m 1 (by omega), h.P.K.m 2 (by omega), h.P.K.m 3 (by omega), h.P.K.m 4 (by omega), h.P.K.m 5 (by omega), h.P.K.m 6 (by omega), h.P.K.m 7 (by omega), h.P.K.h, h.P.e, h⟩
theorem PX.s {w u : World} {b1 b2 : Nat} {A : Option Addr} {n c : Nat} {m : Nat → Int} {hold each : Int} (h : PX w b1 b2 A n c m hold each u) : PS w b1 b2 A n c m hold each u := by
  obtain ⟨_, _, _, _, _, _, _, _, _, _, _, h⟩ := h
  exact h
theorem PX.next {w u v : World} {b1 b2 : Nat} {A : Option Addr} {n c : Nat} {m : Nat → Int} {hold each : Int} (h : PX w b1 b2 A n c m hold each u) (hb : Below u.heap.size u v) : PX w b1 b2 A n c m hold each v := (h.s.next hb).x
end Go.Proofs.YtdafnibmoggcnaaDoor.mem

/-
  Contracts of CostOf, the program's and the model's.
-/
namespace Go.Proofs.YtdafnibmoggcnaaDoor.mem
open Go Go.RowKit errs garS heats meet load sl

/-- what CostOf returns, and its code -/
structure CostRes (r : Nat → Int) (gs : List Gar) (hold : Int) (ls : List Int) (each : Int) (code : Nat) (b : Bool) (z : Int) (k : Nat) : Prop where
  fails : code ≠ 0 → z = 0 ∧ k = code
  wrong : code = 0 → b = false → z = 0 ∧ k = 4
  right : code = 0 → b = true → z = costS gs ls each ∧ k = 0
theorem costRes_exists (r : Nat → Int) (gs : List Gar) (hold : Int) (ls : List Int) (each : Int) (code : Nat) (b : Bool) : ∃ z k, CostRes r gs hold ls each code b z k := by
  by_cases h : code = 0
  · cases b with
    | false => exact ⟨0, 4, fun h1 => absurd h h1, fun _ _ => ⟨rfl, rfl⟩, fun _ h1 => by cases h1⟩
    | true => exact ⟨_, 0, fun h1 => absurd h h1, (fun _ h1 => by cases h1), fun _ _ => ⟨rfl, rfl⟩⟩
  · exact ⟨0, code, fun _ => ⟨rfl, rfl⟩, fun h1 => absurd h1 h, fun h1 => absurd h1 h⟩
theorem codeAsk_true {r : Nat → Int} {gs : List Gar} {fine : Bool} (h : 0 = codeAsk r gs fine) : fine = true := ask_fine h
theorem codeAsk5 (r : Nat → Int) (gs : List Gar) (hold each : Int) (n k1 k2 k3 k4 k5 : Nat) (fh fe : Bool) (en : n = gs.length) (hfh : decide (1 ≤ hold ∧ hold ≤ 20000) = fh) (hfe : decide (0 ≤ each ∧ each ≤ 1000) = fe) (h1 : k1 = if validRB r = true then 0 else 1) (h2 : k2 = if gs.all Gar.valid = true then 0 else 1) (h3 : k3 = if 1 ≤ hold ∧ hold ≤ 20000 then 0 else 2) (h4 : k4 = if 0 ≤ each ∧ each ≤ 1000 then 0 else 2) (h5 : k5 = if 8 < n then 3 else 0) :
    firstCode [k1, k2, k3, k4, k5] = codeAsk r gs (fh && fe) := by
  unfold codeAsk codeAll
  rw [← en]
  by_cases a1 : validRB r = true
  · rw [if_pos a1] at h1 ⊢
    by_cases a2 : gs.all Gar.valid = true
    · rw [if_pos a2] at h2 ⊢
      by_cases a3 : 1 ≤ hold ∧ hold ≤ 20000
      · rw [if_pos a3] at h3
        have e3 : fh = true := by rw [← hfh]; simpa using a3
        by_cases a4 : 0 ≤ each ∧ each ≤ 1000
        · rw [if_pos a4] at h4
          have e4 : fe = true := by rw [← hfe]; simpa using a4
          rw [e3, e4, h1, h2, h3, h4, h5]
          split
          · rfl
          · rfl
        · rw [if_neg a4] at h4
          have e4 : fe = false := by rw [← hfe]; simpa using a4
          rw [e3, e4, h1, h2, h3, h4]
          rfl
      · rw [if_neg a3] at h3
        have e3 : fh = false := by rw [← hfh]; simpa using a3
        rw [e3, h1, h2, h3]
        rfl
    · rw [if_neg a2] at h2 ⊢
      rw [h1, h2]
      rfl
  · rw [if_neg a1] at h1 ⊢
    rw [h1]
    rfl
/-- eight numbers in their box -/
abbrev EX (q : Nat) (f : Nat → Int) (u : World) : Prop := u.cell? ⟨q, 0, none⟩ = some (.int .u8 (f 0)) ∧ u.cell? ⟨q, 1, none⟩ = some (.int .u8 (f 1)) ∧ u.cell? ⟨q, 2, none⟩ = some (.int .u8 (f 2)) ∧ u.cell? ⟨q, 3, none⟩ = some (.int .u8 (f 3)) ∧ u.cell? ⟨q, 4, none⟩ = some (.int .u8 (f 4)) ∧ u.cell? ⟨q, 5, none⟩ = some (.int .u8 (f 5)) ∧ u.cell? ⟨q, 6, none⟩ = some (.int .u8 (f 6)) ∧ u.cell? ⟨q, 7, none⟩ = some (.int .u8 (f 7)) ∧ q < u.heap.size
theorem EX.next {q : Nat} {f : Nat → Int} {u v : World} (h : EX q f u) (hb : Below u.heap.size u v) : EX q f v := by
  obtain ⟨c0, c1, c2, c3, c4, c5, c6, c7, hq⟩ := h
  exact ⟨(hb.cell (p := ⟨q, 0, none⟩) hq).trans c0, (hb.cell (p := ⟨q, 1, none⟩) hq).trans c1, (hb.cell (p := ⟨q, 2, none⟩) hq).trans c2, (hb.cell (p := ⟨q, 3, none⟩) hq).trans c3, (hb.cell (p := ⟨q, 4, none⟩) hq).trans c4, (hb.cell (p := ⟨q, 5, none⟩) hq).trans c5, (hb.cell (p := ⟨q, 6, none⟩) hq).trans c6, (hb.cell (p := ⟨q, 7, none⟩) hq).trans c7, Nat.lt_of_lt_of_le hq hb.size⟩
theorem EX.new (f : Nat → Int) (u : World) (t : TypeId) : EX u.heap.size f (u.alloc (.cells #[.int .u8 (f 0), .int .u8 (f 1), .int .u8 (f 2), .int .u8 (f 3), .int .u8 (f 4), .int .u8 (f 5), .int .u8 (f 6), .int .u8 (f 7)] t)) := by
  have h : ∀ j, (u.alloc (.cells #[.int .u8 (f 0), .int .u8 (f 1), .int .u8 (f 2), .int .u8 (f 3), .int .u8 (f 4), .int .u8 (f 5), .int .u8 (f 6), .int .u8 (f 7)] t)).cell? ⟨u.heap.size, j, none⟩ = (#[.int .u8 (f 0), .int .u8 (f 1), .int .u8 (f 2), .int .u8 (f 3), .int .u8 (f 4), .int .u8 (f 5), .int .u8 (f 6), .int .u8 (f 7)] : Array Value)[j]? := fun j => cell_of_row _ _ _ _ _ _ (heap_alloc_new u _)
  exact ⟨h 0, h 1, h 2, h 3, h 4, h 5, h 6, h 7, by simp⟩
/-- a basket and the sets, in their boxes -/
abbrev CX (w : World) (q : Nat) (A : Option Addr) (n c : Nat) (m : Nat → Int) (hold : Int) (q2 : Nat) (f : Nat → Int) (u : World) : Prop := EX q2 f u ∧ BX w q A n c m hold u
theorem CX.next {w : World} {q : Nat} {A : Option Addr} {n c : Nat} {m : Nat → Int} {hold : Int} {q2 : Nat} {f : Nat → Int} {u v : World} (h : CX w q A n c m hold q2 f u) (hb : Below u.heap.size u v) : CX w q A n c m hold q2 f v := ⟨h.1.next hb, h.2.next hb⟩
end Go.Proofs.YtdafnibmoggcnaaDoor.mem

/-
  Each garment alone has to be a load: contracts of the model's and the program's function that look for this.
-/
namespace Go.Proofs.YtdafnibmoggcnaaDoor.mem
open Go Go.RowKit errs garS heats meet load sl

def lightB (gs : List Gar) (hold : Int) : Bool := gs.all (fun x => decide (x.g ≤ hold))
theorem light_iff {gs : List Gar} {hold : Int} : lightB gs hold = true ↔ ∀ x ∈ gs, x.g ≤ hold := by simp [lightB]
theorem light_no {gs : List Gar} {hold : Int} {k : Nat} {x : Gar} (hx : gs[k]? = some x) (h : hold < x.g) : lightB gs hold = false := by
  cases hb : lightB gs hold with
  | false => rfl
  | true => have := light_iff.1 hb x (List.mem_of_getElem? hx); omega
theorem light_yes {gs : List Gar} {hold : Int} (h : ∀ j x, j < gs.length → gs[j]? = some x → x.g ≤ hold) : lightB gs hold = true := light_iff.2 fun x hx => by
  obtain ⟨j, hj⟩ := List.mem_iff_getElem?.1 hx
  exact h j x (List.getElem?_eq_some_iff.1 hj).1 hj
/-- the code of garments each of which has to be a load -/
noncomputable def codeAlone (r : Nat → Int) (gs : List Gar) (hold : Int) (fine : Bool) : Nat := if codeAsk r gs fine = 0 then (if lightB gs hold = true then 0 else 6) else codeAsk r gs fine
theorem codeAlone_le (r : Nat → Int) (gs : List Gar) (hold : Int) (fine : Bool) : codeAlone r gs hold fine ≤ 6 := by
  have := codeAsk_le r gs fine
  unfold codeAlone
  split
  · split <;> omega
  · omega
theorem codeAlone_zero {r : Nat → Int} {gs : List Gar} {hold : Int} {fine : Bool} (h : 0 = codeAlone r gs hold fine) : 0 = codeAsk r gs fine ∧ lightB gs hold = true := by
  unfold codeAlone at h
  split at h
  · rename_i h0
    split at h
    · rename_i h1
      exact ⟨h0.symm, h1⟩
    · omega
  · omega
end Go.Proofs.YtdafnibmoggcnaaDoor.mem

/-
  Lists of garments, marked with rising numbers.
-/
namespace Go.Proofs.YtdafnibmoggcnaaDoor.garS
open Go Go.RowKit sl

/-- a block that holds garments is a row of the call's own -/
theorem Part.owns {w : World} {g n k : Nat} {gs : List Gar} {cs : Array Value} (h : Part w g n gs k cs) (base : Nat) (hb : base ≤ g) (hn : n ≤ 1048576) : w.ownsRow base 56 4 (.slice (some ⟨g, 0, none⟩) n n) n cs.toList := by
  have hs := h.size
  exact ⟨by simpa using hs, .inr ⟨g, n, cs, rfl, hb, h.heap, Nat.le_refl _, by unfold maxLen; omega, hs, by rw [List.take_of_length_le]; simpa using Nat.le_of_eq hs⟩⟩
theorem Part.other {w w' : World} {g n k : Nat} {gs : List Gar} {cs : Array Value} (h : Part w g n gs k cs) {g2 : Nat} (hg : w.grownBy w' (some g2)) (hne : g ≠ g2) : Part w' g n gs k cs :=
  ⟨(hg.block g h.lt (fun e => hne (Option.some.inj e))).trans h.heap, h.size, h.at_⟩
set_option maxRecDepth 100000 in
set_option maxHeartbeats 4000000 in
theorem markS_row (base g n c : Nat) (k0 : Int) (hk : 0 ≤ k0 ∧ k0 ≤ 1000000000000) (hn : n ≤ 1048576) (L : List Value) (w : World) (hP : w.ownsRow base 56 4 (.slice (some ⟨g, 0, none⟩) n c) n L) :
    Calls Tryd.prog 15 #[.slice (some ⟨g, 0, none⟩) n c, .int .i64 k0] w fun e w' => e = .returned (.int .i64 (k0 + 4 * n)) ∧ w.grownBy w' (some g) := by
  have HP0 := Lib.hid hP
  clear hP
  go_enter Tryd.func15, Tryd.ntmps15
  go_wp2_with fail
  go_loopw [1, 5] (fun vk vi wr => ∃ k L, k ≤ n ∧ vi = .int .i64 (k : Nat) ∧ vk = .int .i64 (k0 + 4 * k) ∧ wr.ownsRow base 56 4 (.slice (some ⟨g, 0, none⟩) n c) n L ∧ w.grownBy wr (some g)) (fun _ vi _ => n - (intOf vi).toNat)
  case atStart => exact ⟨0, _, by omega, rfl, by simp, HP0.out, ⟨rfl, rfl, rfl, Nat.le_refl _, fun _ _ _ => rfl⟩⟩
  case round =>
    obtain ⟨k, L, hk', rfl, rfl, hP, hB⟩ := hrel
    by_cases hlt : k < n
    · have hLL := hP.1
      obtain ⟨v0, s0⟩ : ∃ v, wr.cell? ⟨g, k * 4, none⟩ = some v := ⟨L[k * 4]'(by omega), (hP.cellAt (k * 4) (by omega)).trans (List.getElem?_eq_getElem _)⟩
      obtain ⟨v1, s1⟩ : ∃ v, wr.cell? ⟨g, k * 4 + 1, none⟩ = some v := ⟨L[k * 4 + 1]'(by omega), (hP.cellAt (k * 4 + 1) (by omega)).trans (List.getElem?_eq_getElem _)⟩
      obtain ⟨v2, s2⟩ : ∃ v, wr.cell? ⟨g, k * 4 + 2, none⟩ = some v := ⟨L[k * 4 + 2]'(by omega), (hP.cellAt (k * 4 + 2) (by omega)).trans (List.getElem?_eq_getElem _)⟩
      obtain ⟨v3, s3⟩ : ∃ v, wr.cell? ⟨g, k * 4 + 3, none⟩ = some v := ⟨L[k * 4 + 3]'(by omega), (hP.cellAt (k * 4 + 3) (by omega)).trans (List.getElem?_eq_getElem _)⟩
      have f0 := hP.frozenAt (k * 4)
      have f1 := hP.frozenAt (k * 4 + 1)
      have f2 := hP.frozenAt (k * 4 + 2)
      have f3 := hP.frozenAt (k * 4 + 3)
      have HP := Lib.hid hP
      have HB := Lib.hid hB
      clear hLL hP hB
      go_wp2_with fail
      go_roundw
      case rel =>
        have hP3 := owns_cells (o := k * 4) (vs := [.int .u8 (IntKind.u8.wrap (k0 + 4 * (k : Int))), .int .i8 (IntKind.i8.wrap (k0 + 4 * (k : Int) + 1)), .int .i8 (IntKind.i8.wrap (k0 + 4 * (k : Int) + 1 + 1)), .int .i16 (IntKind.i16.wrap (k0 + 4 * (k : Int) + 1 + 1 + 1))]) HP.out
        have g2 := hP3.2
        have hB := HB.out
        have e1 : k0 + 4 * (k : Int) + 1 + 1 + 1 + 1 = k0 + 4 * ((k + 1 : Nat) : Int) := by omega
        exact ⟨k + 1, _, by omega, by go_num, by rw [e1], hP3.1, ⟨g2.os.trans hB.os, g2.tape.trans hB.tape, g2.output.trans hB.output, Nat.le_trans hB.size g2.size, fun i hi hne => (g2.block i (Nat.lt_of_lt_of_le hi hB.size) hne).trans (hB.block i hi hne)⟩⟩
      case measure => simp [intOf]; omega
    · go_wp2_with fail
      obtain rfl : k = n := by omega
      go_ret
      exact ⟨rfl, hB⟩
end Go.Proofs.YtdafnibmoggcnaaDoor.garS
