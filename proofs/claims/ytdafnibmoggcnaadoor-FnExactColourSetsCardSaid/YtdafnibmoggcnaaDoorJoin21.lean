/-
  Several texts of this proof, joined.
-/
import Derived.Test.YtdafnibmoggcnaaDoorMembers
import Derived.Test.YtdafnibmoggcnaaDoorJoin20
import Derived.RangeFuncBox
import Derived.Laws.BitsAllLaws
import Derived.Test.YtdafnibmoggcnaaDoorJoin6
import Derived.Test.YtdafnibmoggcnaaDoorMapKey
import Derived.Maps.OwnSet
import Derived.Maps.OwnOps
import Derived.Test.YtdafnibmoggcnaaDoorJoin15
import Derived.Test.YtdafnibmoggcnaaDoorRdBox
import Derived.Test.YtdafnibmoggcnaaDoorJoin14
/-
  A basket: what the sets of its garments weigh.
-/
namespace Go.Proofs.YtdafnibmoggcnaaDoor.mem
open Go Go.RowKit Go.Shelf errs garS
attribute [local go_sem] Oper.semAt_some

abbrev eightV (m : Nat → Int) : Value := .agg #[.int .u8 (m 0), .int .u8 (m 1), .int .u8 (m 2), .int .u8 (m 3), .int .u8 (m 4), .int .u8 (m 5), .int .u8 (m 6), .int .u8 (m 7)]
abbrev eightC (m : Nat → Int) : List Value := [.int .u8 (m 0), .int .u8 (m 1), .int .u8 (m 2), .int .u8 (m 3), .int .u8 (m 4), .int .u8 (m 5), .int .u8 (m 6), .int .u8 (m 7)]
/-- a basket -/
abbrev bV (A : Option Addr) (n c : Nat) (m : Nat → Int) (hold : Int) : Value := .agg #[.slice A n c, .int .u8 (m 0), .int .u8 (m 1), .int .u8 (m 2), .int .u8 (m 3), .int .u8 (m 4), .int .u8 (m 5), .int .u8 (m 6), .int .u8 (m 7), .int .i64 hold]
abbrev bC (A : Option Addr) (n c : Nat) (m : Nat → Int) (hold : Int) : Array Value := #[.slice A n c, .int .u8 (m 0), .int .u8 (m 1), .int .u8 (m 2), .int .u8 (m 3), .int .u8 (m 4), .int .u8 (m 5), .int .u8 (m 6), .int .u8 (m 7), .int .i64 hold]
/-- what one garment weighs -/
def wAt (gs : List Gar) (i : Nat) : Int := (gs[i]?.map (·.g)).getD 0
def wSum (gs : List Gar) (is : List Nat) : Int := is.foldl (fun s i => s + wAt gs i) 0
theorem wSum_snoc (gs : List Gar) (is : List Nat) (i : Nat) : wSum gs (is ++ [i]) = wSum gs is + wAt gs i := by simp [wSum]
theorem wSum_bound (gs : List Gar) (hf : ∀ x ∈ gs, x.Fits) (is : List Nat) : -32768 * (is.length : Int) ≤ wSum gs is ∧ wSum gs is ≤ 32768 * (is.length : Int) := by
  suffices h : ∀ (is : List Nat) (s : Int), s - 32768 * (is.length : Int) ≤ is.foldl (fun s i => s + wAt gs i) s ∧ is.foldl (fun s i => s + wAt gs i) s ≤ s + 32768 * (is.length : Int) by
    have := h is 0
    unfold wSum
    omega
  intro is
  induction is with
  | nil => intro s; simp
  | cons i is ih =>
    intro s
    have h1 := ih (s + wAt gs i)
    have h2 : -32768 ≤ wAt gs i ∧ wAt gs i ≤ 32767 := by
      unfold wAt
      cases hx : gs[i]? with
      | none => simp
      | some x =>
        have := hf x (List.mem_of_getElem? hx)
        obtain ⟨_, _, _, _, _, _, g0, g1⟩ := this
        simp
        omega
    have h3 : (((i :: is).length : Nat) : Int) = (is.length : Int) + 1 := by simp
    rw [List.foldl_cons, h3]
    omega

theorem kf_store (B : Nat) (W : World) (p : Addr) (v : Value) : KeepsFrom B W (W.setCell p v).drew := ((KeepsOthers.setCell W p v).trans (KeepsOthers.drew _)).from B
theorem kb_store {B : Nat} {a W : World} (h : Below B a W) (p : Addr) (v : Value) (hp : B ≤ p.block) : Below B a (W.setCell p v).drew := (h.setCell (p := p) hp v).drew
theorem fz_store (W : World) (p q : Addr) (v : Value) (h : W.frozen? q = false) : (W.setCell p v).drew.frozen? q = false := by rw [World.frozen?_drew, World.frozen?_setCell]; exact h
set_option maxRecDepth 100000 in
set_option maxHeartbeats 4000000 in
theorem weightOf_any (A : Option Addr) (n c : Nat) (gs : List Gar) (en : n = gs.length) (_hn : n ≤ 1048576) (m : Nat → Int) (hold : Int) (set : Nat) (hset : set < 256) (hin : ∀ i, i < 8 → set.testBit i = true → i < n) (w : World) (hg : GS w w.heap.size A gs) :
    Calls Tryd.prog 42 #[bV A n c m hold, .int .u8 set] w fun o w' => o = .returned (.int .i64 (wSum gs (memb set))) ∧ Below w.heap.size w w' := by
  have En := Lib.hid en
  clear en
  refine (callsIn_wide (n := 3)).1 ?_
  refine callsIn_of_wp_marks Tryd.func42 rfl trivial ?_ rfl
  simp only [Tryd.ntmps42, List.size_toArray, List.length_cons, List.length_nil, Nat.reduceAdd, Nat.reduceSub, Array.replicate_succ, Array.replicate_zero, List.push_toArray, List.append_toArray, List.nil_append, List.cons_append]
  gi_wp2_with (refine ⟨trivial, ?_⟩; gi_at_call 67; refine (callsIn_wide.2 (members_any (set : Int) _)).mono ?_; rintro e w1 ⟨rfl, rfl⟩)
  have hbx : ∀ j, (((w.alloc (.cells (bC A n c m hold) 68)).alloc (.cells #[.int .i64 0] 2)).alloc (.cells #[.int .u8 set] 5)).cell? ⟨w.heap.size, j, none⟩ = (bC A n c m hold)[j]? := fun j => by
    have e1 : (w.alloc (.cells (bC A n c m hold) 68)).heap.size = w.heap.size + 1 := by simp
    have e2 : ((w.alloc (.cells (bC A n c m hold) 68)).alloc (.cells #[.int .i64 0] 2)).heap.size = w.heap.size + 1 + 1 := by simp
    exact cell_of_row _ _ _ _ _ _ ((heap_alloc_old _ _ _ (by rw [e2]; omega)).trans ((heap_alloc_old _ _ _ (by rw [e1]; omega)).trans (heap_alloc_new w _)))
  have bS := Boxed.new (w.alloc (.cells (bC A n c m hold) 68)) 2 (.int .i64 0)
  have bM := Boxed.new ((w.alloc (.cells (bC A n c m hold) 68)).alloc (.cells #[.int .i64 0] 2)) 5 (.int .u8 set)
  rw [World.size_alloc] at bS bM
  rw [World.size_alloc] at bM
  have hB0 : Below w.heap.size w (((w.alloc (.cells (bC A n c m hold) 68)).alloc (.cells #[.int .i64 0] 2)).alloc (.cells #[.int .u8 set] 5)) := (((Below.refl _ w).alloc (Nat.le_refl _) _).alloc (by simp) _).alloc (by simp; omega) _
  refine wpIn_rangeFunc_ownG rfl (by decide) (gf := 78) (lb := #[.pointer (some ⟨w.heap.size + 1 + 1, 0, none⟩)]) rfl trivial (enters_of Tryd.func78 (by kernel_rfl) rfl)
    (members_stops (3 - 1) (by decide) (w.heap.size + 1 + 1) w.heap.size set hset _ (by simp) bM.cell) belowK_t (belowK_b (by simp; omega)) (Below.refl _ _) (fun _ => rfl)
    (fun pre W => ((W.cell? ⟨w.heap.size + 1, 0, none⟩ = some (.int .i64 (wSum gs (ids pre))) ∧ W.frozen? ⟨w.heap.size + 1, 0, none⟩ = false) ∧ W.cell? ⟨w.heap.size, 0, none⟩ = some (.slice A n c)) ∧ Below w.heap.size w W)
    (fun _ _ _ => False)
    (OwnFrom.and (Own.from (fun s A B row hs hg hr => ⟨⟨cell_kept hs.1.1 hg hr, (frozen_kept hs.1.1 hg hr).trans hs.1.2⟩, cell_kept hs.2 hg hr⟩) _) (ownFrom_below (Nat.le_refl _) (by simp; omega)))
    (fun _ _ _ _ _ hs _ _ => hs)
    ⟨⟨⟨(bS.alloc _).cell, (bS.alloc _).frozen⟩, hbx 0⟩, hB0⟩
    (fun x => { tmps := #[bV A n c m hold, .int .u8 set, .pointer (some ⟨w.heap.size, 0, none⟩), undef, .int .i64 0, .pointer (some ⟨w.heap.size + 1, 0, none⟩), .int .i64 (x.1 : Int), .int .u8 set, .func (.func 78) #[] #[.pointer (some ⟨w.heap.size + 1 + 1, 0, none⟩)], .int .i64 (x.1 : Int), undef, undef, undef, undef, undef, undef, undef, undef, undef, undef], defers := [] }) ?assign ?body ?done ?stop
  case assign =>
    intro l x W K hK
    gi_wp2
    exact hK
  case body =>
    rintro l pre x W ⟨⟨⟨hc, hf⟩, hs⟩, hB⟩ hlen
    obtain ⟨hx8, hxt⟩ := x.2
    have hxn := hin x.1 hx8 hxt
    obtain ⟨y, hy⟩ : ∃ y, gs[x.1]? = some y := ⟨gs[x.1]'(by have := En.out; omega), List.getElem?_eq_getElem _⟩
    obtain ⟨a, ea, hab, hat⟩ := (hg.below hB).at_ x.1 y hy
    subst ea
    obtain ⟨_, _, _, q3⟩ := hat
    have hyf := hg.fits y (List.mem_of_getElem? hy)
    have hbd := wSum_bound gs hg.fits (ids pre)
    rw [ids_len] at hbd
    have hg0 := hyf.g0
    have hg1 := hyf.g1
    have hwr : IntKind.i64.wrap (wSum gs (ids pre) + y.g) = wSum gs (ids pre) + y.g := IntWalk.i64_in _ (by omega)
    have hwr2 : IntKind.i64.wrap y.g = y.g := IntWalk.i64_in _ (by omega)
    have hnx : wSum gs (ids (pre ++ [x])) = wSum gs (ids pre) + y.g := by rw [ids_snoc, wSum_snoc, wAt, hy]; rfl
    have hw64 : wrap64 (wSum gs (ids pre) + y.g) = wSum gs (ids pre) + y.g := by unfold wrap64; omega
    have HNX := Lib.hid hnx
    have hmx : Tryd.prog.follows .mixedOrders = true := by kernel_rfl
    clear hnx hy
    gi_wp2
    gi_region_with_o (fail)
    all_goals gi_wp2
    all_goals (try go_bits)
    all_goals exact ⟨kf_store _ _ _ _, kb_store (Below.refl w.heap.size W) _ _ (Nat.le_succ _), ⟨⟨by rw [HNX.out]; exact World.cell?_setCell_same' _ _ _ (by rw [hc]; rfl), fz_store _ _ _ _ hf⟩, (World.cell?_setCell_far _ _ _ _ (by simp)).trans hs⟩, kb_store hB _ _ (Nat.le_succ _)⟩
  case done =>
    rintro D ys W hD hys ⟨⟨⟨hc, _⟩, _⟩, hB⟩ hK
    gi_wp2
    refine ⟨by simp, .inl ⟨_, _, rfl, run_takeDeferred hK, ?_⟩⟩
    exact ⟨_, results_tmp rfl _ _ _, rfl, hB.trans (belowK_b (w := w) (Nat.le_refl _) W D _ _ (by simp at hD; omega) hK rfl rfl)⟩
  case stop =>
    rintro D c pre W _ _ h _
    exact h.elim
end Go.Proofs.YtdafnibmoggcnaaDoor.mem

/-
  A basket: is a set of its garments a load.
-/
namespace Go.Proofs.YtdafnibmoggcnaaDoor.mem
open Go Go.RowKit Go.Shelf errs garS
attribute [local go_sem] Oper.semAt_some

/-- what of a set may not be with garment i -/
abbrev offB (m : Nat → Int) (set i : Nat) : Int := bits BinOp.andNot IntKind.u8 (set : Int) (m i)
def isLoadB (gs : List Gar) (m : Nat → Int) (hold : Int) (set : Nat) : Bool := (memb set).all (fun i => offB m set i == 0) && (set != 0 && decide (wSum gs (memb set) ≤ hold))
/-- the ten cells of a basket lie at block b -/
structure Bask (W : World) (b : Nat) (A : Option Addr) (n c : Nat) (m : Nat → Int) (hold : Int) : Prop where
  s : W.cell? ⟨b, 0, none⟩ = some (.slice A n c)
  m : ∀ j, j < 8 → W.cell? ⟨b, 1 + j, none⟩ = some (.int .u8 (m j))
  h : W.cell? ⟨b, 9, none⟩ = some (.int .i64 hold)
theorem Bask.keep {W V : World} {b : Nat} {A : Option Addr} {n c : Nat} {m : Nat → Int} {hold : Int} (h : Bask W b A n c m hold) (hk : ∀ j v, W.cell? ⟨b, j, none⟩ = some v → V.cell? ⟨b, j, none⟩ = some v) : Bask V b A n c m hold :=
  ⟨hk _ _ h.s, fun j hj => hk _ _ (h.m j hj), hk _ _ h.h⟩
theorem bC_m (A : Option Addr) (n c : Nat) (m : Nat → Int) (hold : Int) : ∀ j, j < 8 → (bC A n c m hold)[1 + j]? = some (.int .u8 (m j))
  | 0, _ => rfl
  | 1, _ => rfl
  | 2, _ => rfl
  | 3, _ => rfl
  | 4, _ => rfl
  | 5, _ => rfl
  | 6, _ => rfl
  | 7, _ => rfl

theorem heap4 (w : World) (a b c d : Obj) : ((((w.alloc a).alloc b).alloc c).alloc d).heap[w.heap.size]? = some a ∧ ((((w.alloc a).alloc b).alloc c).alloc d).heap[w.heap.size + 1]? = some b ∧
    ((((w.alloc a).alloc b).alloc c).alloc d).heap[w.heap.size + 1 + 1]? = some c ∧ ((((w.alloc a).alloc b).alloc c).alloc d).heap[w.heap.size + 1 + 1 + 1]? = some d ∧
    ((((w.alloc a).alloc b).alloc c).alloc d).heap.size = w.heap.size + 4 ∧ Below w.heap.size w ((((w.alloc a).alloc b).alloc c).alloc d) := by
  have e1 : (w.alloc a).heap.size = w.heap.size + 1 := by simp
  have e2 : ((w.alloc a).alloc b).heap.size = w.heap.size + 1 + 1 := by simp
  have e3 : (((w.alloc a).alloc b).alloc c).heap.size = w.heap.size + 1 + 1 + 1 := by simp
  have h1 := heap_alloc_new (w.alloc a) b
  have h2 := heap_alloc_new ((w.alloc a).alloc b) c
  have h3 := heap_alloc_new (((w.alloc a).alloc b).alloc c) d
  rw [e1] at h1
  rw [e2] at h2
  rw [e3] at h3
  refine ⟨?_, ?_, ?_, h3, by simp, ?_⟩
  · exact (heap_alloc_old _ _ _ (by omega)).trans ((heap_alloc_old _ _ _ (by omega)).trans ((heap_alloc_old _ _ _ (by omega)).trans (heap_alloc_new w a)))
  · exact (heap_alloc_old _ _ _ (by omega)).trans ((heap_alloc_old _ _ _ (by omega)).trans h1)
  · exact (heap_alloc_old _ _ _ (by omega)).trans h2
  · exact ((((Below.refl _ w).alloc (Nat.le_refl _) _).alloc (by simp) _).alloc (by simp; omega) _).alloc (by simp; omega) _
theorem isSome_setCell {u : World} {b o : Nat} {v : Value} (h : ((u.setCell ⟨b, o, none⟩ v).cell? ⟨b, o, none⟩).isSome = true) : (u.cell? ⟨b, o, none⟩).isSome = true := by
  simp only [World.setCell, World.cell?, Array.getElem?_modify, ↓reduceIte] at h ⊢
  cases e : u.heap[b]? with
  | none => rw [e] at h; simp at h
  | some x =>
    rw [e] at h
    cases x with
    | cells c t f =>
      simp only [Option.map_some, Option.isSome_none, Bool.false_eq_true, ↓reduceIte] at h ⊢
      by_cases ho : o < c.size
      · simp [ho]
      · simp [ho] at h
    | _ => simp at h
/-- what a cell holds -/
def valAt (u : World) (p : Addr) : Value := (u.cell? p).getD undef
theorem valAt_some {u : World} {p : Addr} (h : (u.cell? p).isSome = true) : u.cell? p = some (valAt u p) := by
  unfold valAt
  cases e : u.cell? p with
  | none => rw [e] at h; cases h
  | some v => rfl
/-- what holds while the last line of isLoad runs -/
abbrev BS (w : World) (A : Option Addr) (n c : Nat) (m : Nat → Int) (hold : Int) (set D : Nat) (u : World) : Prop := u.cell? ⟨w.heap.size, 0, none⟩ = some (.slice A n c) ∧ u.cell? ⟨w.heap.size, 1, none⟩ = some (.int .u8 (m 0)) ∧ u.cell? ⟨w.heap.size, 2, none⟩ = some (.int .u8 (m 1)) ∧ u.cell? ⟨w.heap.size, 3, none⟩ = some (.int .u8 (m 2)) ∧ u.cell? ⟨w.heap.size, 4, none⟩ = some (.int .u8 (m 3)) ∧ u.cell? ⟨w.heap.size, 5, none⟩ = some (.int .u8 (m 4)) ∧ u.cell? ⟨w.heap.size, 6, none⟩ = some (.int .u8 (m 5)) ∧ u.cell? ⟨w.heap.size, 7, none⟩ = some (.int .u8 (m 6)) ∧ u.cell? ⟨w.heap.size, 8, none⟩ = some (.int .u8 (m 7)) ∧ u.cell? ⟨w.heap.size, 9, none⟩ = some (.int .i64 hold) ∧ u.cell? ⟨w.heap.size + 1, 0, none⟩ = some (.int .u8 set) ∧ u.cell? ⟨w.heap.size + 1 + 1, 0, none⟩ = some (valAt u ⟨w.heap.size + 1 + 1, 0, none⟩) ∧ u.frozen? ⟨w.heap.size + 1 + 1, 0, none⟩ = false ∧ Below w.heap.size w u ∧ w.heap.size + 1 + 1 < u.heap.size ∧ u.heap[D]? = some (.deferred (some []))
theorem BS.keep {w : World} {A : Option Addr} {n c : Nat} {m : Nat → Int} {hold : Int} {set D : Nat} {u v : World} (h : BS w A n c m hold set D u) (hk : ∀ (p : Addr) (x : Value), p.block = w.heap.size ∨ p.block = w.heap.size + 1 → u.cell? p = some x → v.cell? p = some x)
    (hs : (v.cell? ⟨w.heap.size + 1 + 1, 0, none⟩).isSome = true) (hfz : v.frozen? ⟨w.heap.size + 1 + 1, 0, none⟩ = false) (hB : Below w.heap.size w v) (hz : u.heap.size ≤ v.heap.size) (hD : v.heap[D]? = some (.deferred (some []))) : BS w A n c m hold set D v := by
  obtain ⟨c0, c1, c2, c3, c4, c5, c6, c7, c8, c9, k1, _, _, _, z, _⟩ := h
  exact ⟨hk ⟨w.heap.size, 0, none⟩ _ (.inl rfl) c0, hk ⟨w.heap.size, 1, none⟩ _ (.inl rfl) c1, hk ⟨w.heap.size, 2, none⟩ _ (.inl rfl) c2, hk ⟨w.heap.size, 3, none⟩ _ (.inl rfl) c3, hk ⟨w.heap.size, 4, none⟩ _ (.inl rfl) c4, hk ⟨w.heap.size, 5, none⟩ _ (.inl rfl) c5, hk ⟨w.heap.size, 6, none⟩ _ (.inl rfl) c6, hk ⟨w.heap.size, 7, none⟩ _ (.inl rfl) c7, hk ⟨w.heap.size, 8, none⟩ _ (.inl rfl) c8, hk ⟨w.heap.size, 9, none⟩ _ (.inl rfl) c9, hk ⟨w.heap.size + 1, 0, none⟩ _ (.inr rfl) k1, valAt_some hs, hfz, hB, Nat.lt_of_lt_of_le z hz, hD⟩
theorem BS.tail {w : World} {A : Option Addr} {n c : Nat} {m : Nat → Int} {hold : Int} {set D : Nat} {u : World} (h : BS w A n c m hold set D u) : (u.cell? ⟨w.heap.size + 1 + 1, 0, none⟩).isSome = true ∧ Below w.heap.size w u ∧ w.heap.size + 1 + 1 < u.heap.size ∧ u.heap[D]? = some (.deferred (some [])) ∧ u.frozen? ⟨w.heap.size + 1 + 1, 0, none⟩ = false := by
  obtain ⟨_c0, _c1, _c2, _c3, _c4, _c5, _c6, _c7, _c8, _c9, k1, h1, hf, h2, h3, h4⟩ := h
  exact ⟨by rw [h1]; rfl, h2, h3, h4, hf⟩
theorem BS.drewN {w : World} {A : Option Addr} {n c : Nat} {m : Nat → Int} {hold : Int} {set D : Nat} {u : World} (h : BS w A n c m hold set D u) (k : Nat) : BS w A n c m hold set D (u.drewN k) := h.keep (fun _ _ _ h => h) h.tail.1 h.tail.2.2.2.2 (h.tail.2.1.trans (below_drewN _ _ k)) (Nat.le_refl _) h.tail.2.2.2.1
theorem BS.next {w : World} {A : Option Addr} {n c : Nat} {m : Nat → Int} {hold : Int} {set D : Nat} {u v : World} (h : BS w A n c m hold set D u) (hb : Below u.heap.size u v) : BS w A n c m hold set D v := by
  obtain ⟨t1, t2, t3, t4, t5⟩ := h.tail
  have hDu : D < u.heap.size := (Array.getElem?_eq_some_iff.1 t4).1
  refine h.keep (fun p x hp hx => (hb.cell (p := p) (by omega)).trans hx) ?_ ?_ (t2.trans (hb.mono t2.size)) hb.size ((hb.block D hDu).trans t4)
  · rw [hb.cell (p := ⟨w.heap.size + 1 + 1, 0, none⟩) t3]
    exact t1
  · exact (hb.frozen (p := ⟨w.heap.size + 1 + 1, 0, none⟩) t3).trans t5
theorem BS.store {w : World} {A : Option Addr} {n c : Nat} {m : Nat → Int} {hold : Int} {set D : Nat} {u : World} (h : BS w A n c m hold set D u) (v : Value) : BS w A n c m hold set D (u.setCell ⟨w.heap.size + 1 + 1, 0, none⟩ v) := by
  obtain ⟨t1, t2, t3, t4, t5⟩ := h.tail
  refine h.keep (fun p x hp hx => (World.cell?_setCell_far _ _ _ _ (by show w.heap.size + 1 + 1 ≠ p.block; omega)).trans hx) ?_ (by rw [World.frozen?_setCell]; exact t5) (t2.setCell (p := ⟨w.heap.size + 1 + 1, 0, none⟩) (by show w.heap.size ≤ w.heap.size + 1 + 1; omega) _) (by simp) ((KeepsOthers.setCell _ _ _).same D _ t4 rfl)
  rw [World.cell?_setCell_same' _ _ _ t1]
  rfl

set_option maxRecDepth 100000 in
set_option maxHeartbeats 8000000 in
theorem isLoad_any (A : Option Addr) (n c : Nat) (gs : List Gar) (en : n = gs.length) (hn : n ≤ 1048576) (m : Nat → Int) (hold : Int) (set : Nat) (hset : set < 256) (hin : ∀ i, i < 8 → set.testBit i = true → i < n) (w : World) (hg : GS w w.heap.size A gs) (b : Bool) (hb : isLoadB gs m hold set = b) :
    Calls Tryd.prog 40 #[bV A n c m hold, .int .u8 set] w fun o w' => o = .returned (.bool b) ∧ Below w.heap.size w w' := by
  have En := Lib.hid en
  have HR := Lib.hid hb
  clear en hb
  refine (callsIn_wide (n := 3)).1 ?_
  refine callsIn_of_wp_marks Tryd.func40 rfl trivial ?_ rfl
  simp only [Tryd.ntmps40, List.size_toArray, List.length_cons, List.length_nil, Nat.reduceAdd, Nat.reduceSub, Array.replicate_succ, Array.replicate_zero, List.push_toArray, List.append_toArray, List.nil_append, List.cons_append]
  gi_wp2_with (refine ⟨trivial, ?_⟩; gi_at_call 67; refine (callsIn_wide.2 (members_any (set : Int) _)).mono ?_; rintro e w1 ⟨rfl, rfl⟩)
  have h4 := heap4 w (.cells (bC A n c m hold) 68) (.cells #[.int .u8 set] 5) (.cells #[.bool false] 4) (.cells #[.int .u8 set] 5)
  obtain ⟨W0, hW0⟩ : ∃ W0, W0 = ((((w.alloc (.cells (bC A n c m hold) 68)).alloc (.cells #[.int .u8 set] 5)).alloc (.cells #[.bool false] 4)).alloc (.cells #[.int .u8 set] 5)) := ⟨_, rfl⟩
  rw [← hW0] at h4 ⊢
  obtain ⟨g0, g1, g2, g3, hsz, hB0⟩ := h4
  have hbk0 : Bask W0 w.heap.size A n c m hold := ⟨cell_of_row _ _ _ _ _ _ g0, fun j hj => (cell_of_row _ _ _ _ _ _ g0).trans (bC_m A n c m hold j hj), cell_of_row _ _ _ _ _ _ g0⟩
  have k1 : W0.cell? ⟨w.heap.size + 1, 0, none⟩ = some (.int .u8 set) := cell_of_row _ _ _ _ _ _ g1
  have k2 : W0.cell? ⟨w.heap.size + 1 + 1, 0, none⟩ = some (.bool false) := cell_of_row _ _ _ _ _ _ g2
  have k3 : W0.cell? ⟨w.heap.size + 1 + 1 + 1, 0, none⟩ = some (.int .u8 set) := cell_of_row _ _ _ _ _ _ g3
  have f2 : W0.frozen? ⟨w.heap.size + 1 + 1, 0, none⟩ = false := by
    unfold World.frozen?
    rw [g2]
    rfl
  clear g0 g1 g2 g3 hW0
  refine wpIn_rangeFunc_ownG rfl (by decide) (gf := 78) (lb := #[.pointer (some ⟨w.heap.size + 1 + 1 + 1, 0, none⟩)]) rfl trivial (enters_of Tryd.func78 (by kernel_rfl) rfl)
    (members_stops (3 - 1) (by decide) (w.heap.size + 1 + 1 + 1) w.heap.size set hset W0 (by omega) k3) belowK_t (belowK_b (by omega)) (Below.refl _ _) (fun _ => rfl)
    (fun pre W => ((∀ i ∈ ids pre, offB m set i = 0) ∧ Bask W w.heap.size A n c m hold ∧ W.cell? ⟨w.heap.size + 1, 0, none⟩ = some (.int .u8 set) ∧ W.cell? ⟨w.heap.size + 1 + 1, 0, none⟩ = some (.bool false) ∧ W.frozen? ⟨w.heap.size + 1 + 1, 0, none⟩ = false) ∧ Below w.heap.size w W)
    (fun cc pre W => (cc = .ret ∧ (∃ i ∈ ids pre, offB m set i ≠ 0) ∧ W.cell? ⟨w.heap.size + 1 + 1, 0, none⟩ = some (.bool false)) ∧ Below w.heap.size w W)
    (OwnFrom.and (Own.from (fun s A B row hs hg hr => ⟨hs.1, hs.2.1.keep (fun _ _ h => cell_kept h hg hr), cell_kept hs.2.2.1 hg hr, cell_kept hs.2.2.2.1 hg hr, (frozen_kept hs.2.2.2.1 hg hr).trans hs.2.2.2.2⟩) _) (ownFrom_below (Nat.le_refl _) (by omega)))
    (fun cc => OwnFrom.and (Own.from (fun s A B row hs hg hr => ⟨hs.1, hs.2.1, cell_kept hs.2.2 hg hr⟩) _) (ownFrom_below (Nat.le_refl _) (by omega)))
    ⟨⟨by simp [ids], hbk0, k1, k2, f2⟩, hB0⟩
    (fun x => { tmps := #[bV A n c m hold, .int .u8 set, .pointer (some ⟨w.heap.size, 0, none⟩), .pointer (some ⟨w.heap.size + 1, 0, none⟩), .pointer (some ⟨w.heap.size + 1 + 1, 0, none⟩), .int .i64 (x.1 : Int), .int .u8 set, .func (.func 78) #[] #[.pointer (some ⟨w.heap.size + 1 + 1 + 1, 0, none⟩)], .int .i64 (x.1 : Int), undef, undef, undef, undef, undef, undef, undef, undef, undef, undef, undef, undef, undef, undef, undef, undef, undef], defers := [] }) ?assign ?body ?done ?stop
  case assign =>
    intro l x W K hK
    gi_wp2
    exact hK
  case body =>
    rintro l pre x W ⟨⟨hall, hbk, hs1, hres, hfr⟩, hB⟩ hlen
    obtain ⟨hx8, hxt⟩ := x.2
    have hm := hbk.m x.1 hx8
    have hmx : Tryd.prog.follows .mixedOrders = true := by kernel_rfl
    by_cases hz : bits BinOp.andNot IntKind.u8 (set : Int) (m x.1) = 0
    · have hz2 : (bits BinOp.andNot IntKind.u8 (set : Int) (m x.1) != 0) = false := by rw [hz]; rfl
      have hall2 : ∀ i ∈ ids (pre ++ [x]), offB m set i = 0 := fun i hi => by
        rw [ids_snoc] at hi
        rcases List.mem_append.1 hi with h1 | h1
        · exact hall i h1
        · rw [List.mem_singleton.1 h1]
          exact hz
      have HA := Lib.hid hall2
      clear hall hall2
      gi_wp2
      gi_region_with_o (fail)
      all_goals gi_wp2
      all_goals exact ⟨(KeepsOthers.drew W).from _, (Below.refl _ _).drew, ⟨HA.out, hbk.keep fun _ _ h => h, hs1, hres, hfr⟩, hB.drew⟩
    · have hz2 : (bits BinOp.andNot IntKind.u8 (set : Int) (m x.1) != 0) = true := by rw [bne_iff_ne]; exact hz
      have HA : Hid (∃ i ∈ ids (pre ++ [x]), offB m set i ≠ 0) := Lib.hid ⟨x.1, by rw [ids_snoc]; simp, hz⟩
      gi_wp2
      gi_region_with_o (fail)
      all_goals gi_wp2
      all_goals exact ⟨kf_store _ _ _ _, ⟨rfl, HA.out, World.cell?_setCell_same' _ _ _ (by rw [hres]; rfl)⟩, kb_store hB _ _ (by show w.heap.size ≤ w.heap.size + 1 + 1; omega)⟩
  case done =>
    rintro D ys W hD hys ⟨⟨hall, hbk, hs1, hres, hfr⟩, hB⟩ hK
    have hmx : Tryd.prog.follows .mixedOrders = true := by kernel_rfl
    obtain ⟨c0, c1, c2, c3, c4, c5, c6, c7, c8, c9⟩ : W.cell? ⟨w.heap.size, 0, none⟩ = some (.slice A n c) ∧ W.cell? ⟨w.heap.size, 1, none⟩ = some (.int .u8 (m 0)) ∧ W.cell? ⟨w.heap.size, 2, none⟩ = some (.int .u8 (m 1)) ∧ W.cell? ⟨w.heap.size, 3, none⟩ = some (.int .u8 (m 2)) ∧ W.cell? ⟨w.heap.size, 4, none⟩ = some (.int .u8 (m 3)) ∧ W.cell? ⟨w.heap.size, 5, none⟩ = some (.int .u8 (m 4)) ∧ W.cell? ⟨w.heap.size, 6, none⟩ = some (.int .u8 (m 5)) ∧ W.cell? ⟨w.heap.size, 7, none⟩ = some (.int .u8 (m 6)) ∧ W.cell? ⟨w.heap.size, 8, none⟩ = some (.int .u8 (m 7)) ∧ W.cell? ⟨w.heap.size, 9, none⟩ = some (.int .i64 hold) :=
      ⟨hbk.s, hbk.m 0 (by omega), hbk.m 1 (by omega), hbk.m 2 (by omega), hbk.m 3 (by omega), hbk.m 4 (by omega), hbk.m 5 (by omega), hbk.m 6 (by omega), hbk.m 7 (by omega), hbk.h⟩
    have hDW : D < W.heap.size := (Array.getElem?_eq_some_iff.1 hK).1
    have hall2 : (memb set).all (fun i => offB m set i == 0) = true := by
      rw [List.all_eq_true]
      intro i hi
      rw [← hys] at hi
      simp [hall i hi]
    have HA := Lib.hid hall2
    have HK := Lib.hid hK
    have HBk := Lib.hid hbk
    clear hall hall2 hbk
    have hsz2 := hB0.size
    have hzz : w.heap.size + 1 + 1 < W.heap.size := by omega
    have HG := Lib.hid ((hg.below hB).more hB.size)
    have hfin : ∀ (V : World) (v : Bool), Below W.heap.size W V → (isLoadB gs m hold set = v) → V.cell? ⟨w.heap.size + 1 + 1, 0, none⟩ = some (.bool false) → V.heap[D]? = some (.deferred (some [])) := fun V v hb _ _ => (hb.block D hDW).trans HK.out
    by_cases hz : set = 0
    · have hbf : Hid (b = false) := Lib.hid (by rw [← HR.out, isLoadB, hz]; simp)
      have hz2 : ((set : Int) != 0) = false := by rw [hz]; rfl
      have hz3 : ¬ ((set : Int) != 0) = true := by rw [hz2]; decide
      gi_wp2
      refine wpIn_wide.2 ?_
      go_wp2_with fail
      first | go_region_with ((fail)) | fail
      all_goals gi_wp2
      all_goals
        have hcv : (W.setCell ⟨w.heap.size + 1 + 1, 0, none⟩ (.bool false)).drew.cell? ⟨w.heap.size + 1 + 1, 0, none⟩ = some (.bool false) := World.cell?_setCell_same' W ⟨w.heap.size + 1 + 1, 0, none⟩ (.bool false) (by rw [hres]; rfl)
        have hkv : (W.setCell ⟨w.heap.size + 1 + 1, 0, none⟩ (.bool false)).drew.heap[D]? = some (.deferred (some [])) := (KeepsOthers.setCell W ⟨w.heap.size + 1 + 1, 0, none⟩ (.bool false)).same D _ HK.out rfl
        have hbv : Below w.heap.size w (W.setCell ⟨w.heap.size + 1 + 1, 0, none⟩ (.bool false)).drew := kb_store hB ⟨w.heap.size + 1 + 1, 0, none⟩ _ (by show w.heap.size ≤ w.heap.size + 1 + 1; omega)
        refine ⟨by simp, .inl ⟨_, _, rfl, run_takeDeferred hkv, ?_⟩⟩
        have hc5 := cell_kept hcv (grownBy_putObj' _ D (.deferred none)) (fun r e => by cases e; exact ⟨_, hkv, rfl⟩)
        refine ⟨.bool false, ?_, by rw [hbf.out], hbv.trans (belowK_b (w := w) (Nat.le_refl _) _ D _ _ (by omega) hkv rfl rfl)⟩
        simp [results, Tryd.f40, go_sem, hc5]
    · have hz2 : ((set : Int) != 0) = true := by rw [bne_iff_ne]; omega
      gi_wp2
      refine wpIn_wide.2 ?_
      go_wp2_with fail
      have S0 : Hid (BS w A n c m hold set D W) := Lib.hid ⟨c0, c1, c2, c3, c4, c5, c6, c7, c8, c9, hs1, valAt_some (by rw [hres]; rfl), hfr, hB, hzz, HK.out⟩
      clear c0 c1 c2 c3 c4 c5 c6 c7 c8 c9 hs1 hres hfr hB
      by_cases hle : wSum gs (memb set) ≤ hold
      · have hle2 : decide (wSum gs (memb set) ≤ hold) = true := by simpa using hle
        go_region_held3 (fun u => BS w A n c m hold set D u)
          (first | assumption | exact S0.out | exact S0.out.drewN 1 | exact BS.next (by assumption) hb2 | exact BS.store (by assumption) _)
          (first
            | (go_at_call 42; refine (weightOf_any A n c gs En.out hn m hold set hset hin _ ((hg.below (BS.tail (by assumption)).2.1).more (BS.tail (by assumption)).2.1.size)).mono ?_; rintro o w2 ⟨rfl, hb2⟩)
            | fail)
        have hbf : Hid (b = true) := Lib.hid (by rw [← HR.out, isLoadB, HA.out, hle2]; simpa using hz)
        rename_i hS
        gi_wp2
        obtain ⟨t1, t2, t3, t4, t5⟩ := hS.tail
        have hcv := World.cell?_setCell_same' w2 ⟨w.heap.size + 1 + 1, 0, none⟩ (.bool true) (isSome_setCell t1)
        refine ⟨by simp, .inl ⟨_, _, rfl, run_takeDeferred t4, ?_⟩⟩
        have hc5 := cell_kept hcv (grownBy_putObj' _ D (.deferred none)) (fun r e => by cases e; exact ⟨_, t4, rfl⟩)
        refine ⟨.bool true, ?_, by rw [hbf.out], t2.trans (belowK_b (w := w) (Nat.le_refl _) _ D _ _ (by omega) t4 rfl rfl)⟩
        simp [results, Tryd.f40, go_sem, hc5]
      · have hle2 : decide (wSum gs (memb set) ≤ hold) = false := by simpa using hle
        have hle3 : hold < wSum gs (memb set) := by omega
        go_region_held3 (fun u => BS w A n c m hold set D u)
          (first | assumption | exact S0.out | exact S0.out.drewN 1 | exact BS.next (by assumption) hb2 | exact BS.store (by assumption) _)
          (first
            | (go_at_call 42; refine (weightOf_any A n c gs En.out hn m hold set hset hin _ ((hg.below (BS.tail (by assumption)).2.1).more (BS.tail (by assumption)).2.1.size)).mono ?_; rintro o w2 ⟨rfl, hb2⟩)
            | fail)
        have hbf : Hid (b = false) := Lib.hid (by rw [← HR.out, isLoadB, hle2]; simp)
        rename_i hS
        gi_wp2
        obtain ⟨t1, t2, t3, t4, t5⟩ := hS.tail
        have hcv := World.cell?_setCell_same' w2 ⟨w.heap.size + 1 + 1, 0, none⟩ (.bool false) (isSome_setCell t1)
        refine ⟨by simp, .inl ⟨_, _, rfl, run_takeDeferred t4, ?_⟩⟩
        have hc5 := cell_kept hcv (grownBy_putObj' _ D (.deferred none)) (fun r e => by cases e; exact ⟨_, t4, rfl⟩)
        refine ⟨.bool false, ?_, by rw [hbf.out], t2.trans (belowK_b (w := w) (Nat.le_refl _) _ D _ _ (by omega) t4 rfl rfl)⟩
        simp [results, Tryd.f40, go_sem, hc5]
  case stop =>
    rintro D cc pre W hD hpre ⟨⟨rfl, ⟨i, hi, hio⟩, hres⟩, hB⟩ hK
    gi_wp2
    refine ⟨by simp, .inl ⟨_, _, rfl, run_takeDeferred hK, ?_⟩⟩
    have hc5 := cell_kept hres (grownBy_putObj' _ D (.deferred none)) (fun r e => by cases e; exact ⟨_, hK, rfl⟩)
    have hbf : b = false := by
      rw [← HR.out, isLoadB, Bool.and_eq_false_iff]
      refine .inl ?_
      rw [List.all_eq_false]
      exact ⟨i, hpre.subset hi, by simp [hio]⟩
    refine ⟨.bool false, ?_, by rw [hbf], hB.trans (belowK_b (w := w) (Nat.le_refl _) W D _ _ (by omega) hK rfl rfl)⟩
    simp [results, Tryd.f40, go_sem, hc5]
end Go.Proofs.YtdafnibmoggcnaaDoor.mem

/-
  What isLoad of a basket says, in plain words.
-/
namespace Go.Proofs.YtdafnibmoggcnaaDoor.mem
open Go Go.RowKit garS heats meet load

theorem off_zero (a b : Nat) (_ha : a < 256) (hb : b < 256) : a &&& (255 - b) = 0 ↔ ∀ k, k < 8 → a.testBit k = true → b.testBit k = true := by
  have e : ∀ k, (255 - b).testBit k = (decide (k < 8) && !b.testBit k) := fun k => by
    have := Nat.testBit_two_pow_sub_succ (x := b) (n := 8) hb k
    rwa [show 2 ^ 8 - (b + 1) = 255 - b by omega] at this
  constructor
  · intro h k hk h1
    have h2 : (a &&& (255 - b)).testBit k = false := by rw [h]; simp
    rw [Nat.testBit_and, h1, e k] at h2
    simp [hk] at h2
    exact h2
  · intro h
    apply Nat.eq_of_testBit_eq
    intro k
    rw [Nat.testBit_and, e k, Nat.zero_testBit]
    cases h1 : a.testBit k with
    | false => rfl
    | true =>
      by_cases hk : k < 8
      · rw [h k hk h1]; simp
      · simp [hk]
theorem memb_all : ∀ n, n ≤ 8 → memb (2 ^ n - 1) = List.range n
  | 0, _ => by decide +kernel
  | 1, _ => by decide +kernel
  | 2, _ => by decide +kernel
  | 3, _ => by decide +kernel
  | 4, _ => by decide +kernel
  | 5, _ => by decide +kernel
  | 6, _ => by decide +kernel
  | 7, _ => by decide +kernel
  | 8, _ => by decide +kernel
theorem wSum_range (gs : List Gar) : ∀ k, k ≤ gs.length → wSum gs (List.range k) = wAll (gs.take k)
  | 0, _ => rfl
  | k + 1, h => by
    obtain ⟨x, hx⟩ : ∃ x, gs[k]? = some x := ⟨gs[k]'(by omega), List.getElem?_eq_getElem _⟩
    rw [List.range_succ, wSum_snoc, wSum_range gs k (by omega), wAll_snoc hx, wAt, hx]
    rfl
/-- m has for each garment the set of those that it may meet -/
structure Meets (r : Nat → Int) (gs : List Gar) (m : Nat → Int) : Prop where
  lo : ∀ i, 0 ≤ m i ∧ m i < 256
  bit : ∀ i x k, gs[i]? = some x → ((m i).toNat.testBit k = true ↔ ∃ y, gs[k]? = some y ∧ meetB r x y = true)
theorem two_pow_le : ∀ n, n ≤ 8 → 2 ^ n - 1 < 256 ∧ (0 < n → 2 ^ n - 1 ≠ 0) ∧ ∀ k, (2 ^ n - 1).testBit k = decide (k < n) := fun n hn => by
  refine ⟨?_, ?_, fun k => Nat.testBit_two_pow_sub_one n k⟩
  · have := Nat.pow_le_pow_right (show 0 < 2 by decide) hn
    omega
  · intro h
    have := Nat.pow_le_pow_right (show 0 < 2 by decide) h
    omega
theorem meet_symm {r : Nat → Int} (hv : ∀ a b, a < 6 → b < 6 → bitZ (r a) b = bitZ (r b) a) {x y : Gar} (hx : x.c.toNat < 6) (hy : y.c.toNat < 6) : meetB r x y = meetB r y x := by
  unfold meetB
  rw [hv _ _ hx hy, Bool.and_comm (decide (x.n ≤ y.m))]
theorem isLoadB_all {r : Nat → Int} {gs : List Gar} {m : Nat → Int} (hm : Meets r gs m) (hold : Int) (n : Nat) (en : n = gs.length) (hn : n ≤ 8) (hs : ∀ x y, x ∈ gs → y ∈ gs → meetB r x y = meetB r y x) (hr : ∀ x ∈ gs, meetB r x x = true) :
    isLoadB gs m hold (2 ^ n - 1) = true ↔ 0 < n ∧ Pairs r gs ∧ wAll gs ≤ hold := by
  obtain ⟨p1, p2, p3⟩ := two_pow_le n hn
  have hw : wSum gs (List.range n) = wAll gs := by
    rw [wSum_range gs n (by omega), List.take_of_length_le (by omega)]
  have hall : (∀ i ∈ List.range n, offB m (2 ^ n - 1) i = 0) ↔ Pairs r gs := by
    have each : ∀ i x, gs[i]? = some x → (offB m (2 ^ n - 1) i = 0 ↔ ∀ k y, gs[k]? = some y → meetB r x y = true) := fun i x hx => by
      obtain ⟨l1, l2⟩ := hm.lo i
      have e := u8_andNot ((2 ^ n - 1 : Nat) : Int) (m i) (by omega) (by omega) l1 l2
      have e2 : offB m (2 ^ n - 1) i = (((2 ^ n - 1) &&& (255 - (m i).toNat) : Nat) : Int) := by simpa using e
      rw [e2, Int.natCast_eq_zero, off_zero _ _ p1 (by omega)]
      constructor
      · intro h k y hy
        have hk := (List.getElem?_eq_some_iff.1 hy).1
        obtain ⟨z, hz, hm2⟩ := (hm.bit i x k hx).1 (h k (by omega) (by rw [p3]; simp; omega))
        rw [hy] at hz
        rw [Option.some.inj hz]
        exact hm2
      · intro h k hk hb
        rw [p3] at hb
        have hkn : k < n := by simpa using hb
        exact (hm.bit i x k hx).2 ⟨gs[k]'(by omega), List.getElem?_eq_getElem _, h k _ (List.getElem?_eq_getElem _)⟩
    constructor
    · intro h i k x y hki hx hy
      have hi := (List.getElem?_eq_some_iff.1 hx).1
      exact (each i x hx).1 (h i (by rw [List.mem_range]; omega)) k y hy
    · intro h i hi
      rw [List.mem_range] at hi
      have hx : gs[i]? = some (gs[i]'(by omega)) := List.getElem?_eq_getElem _
      refine (each i _ hx).2 fun k y hy => ?_
      rcases Nat.lt_trichotomy k i with h1 | h1 | h1
      · exact h i k _ y h1 hx hy
      · subst h1
        rw [hx] at hy
        rw [← Option.some.inj hy]
        exact hr _ (List.mem_of_getElem? hx)
      · rw [hs _ _ (List.mem_of_getElem? hx) (List.mem_of_getElem? hy)]
        exact h k i y _ h1 hy hx
  rw [isLoadB, memb_all n hn, hw, Bool.and_eq_true, Bool.and_eq_true, List.all_eq_true]
  have h1 : (∀ i ∈ List.range n, (offB m (2 ^ n - 1) i == 0) = true) ↔ Pairs r gs := by
    rw [← hall]
    exact ⟨fun h i hi => by simpa using h i hi, fun h i hi => by simpa using h i hi⟩
  rw [h1]
  constructor
  · rintro ⟨a, b, c⟩
    refine ⟨?_, a, by simpa using c⟩
    rcases Nat.eq_zero_or_pos n with h | h
    · subst h; simp at b
    · exact h
  · rintro ⟨a, b, c⟩
    exact ⟨b, by rw [bne_iff_ne]; exact p2 a, by simpa using c⟩
end Go.Proofs.YtdafnibmoggcnaaDoor.mem

/-
  Sets of colours: pure.
-/
namespace Go.Proofs.YtdafnibmoggcnaaDoor.col
open Go Go.RowKit meet

/-- the colours that may be washed with every colour of a set, those of the first k looked at -/
def partN (r : Nat → Int) (l : List Nat) : Nat := l.foldl (fun s c => s &&& (r c).toNat) 63
/-- may all colours of a set be washed with each other -/
def fineB (r : Nat → Int) (set : Nat) : Bool := (List.range 6).all fun a => !(set.testBit a) || (set &&& (255 - (r a).toNat) == 0)
/-- is a set one to which no colour can be added -/
def fullB (r : Nat → Int) (set : Nat) : Bool := fineB r set && (List.range 6).all fun a => set.testBit a || !(fineB r (set ||| 2 ^ a))
def fullP (r : Nat → Int) (set : Nat) : Bool := partN r (mem.memb set) == set
/-- those below k -/
def setsTo (f : Nat → Bool) (k : Nat) : List Nat := ((List.range k).filter fun s => decide (1 ≤ s) && f s)
theorem setsTo_succ (f : Nat → Bool) (k : Nat) (hk : 1 ≤ k) : setsTo f (k + 1) = setsTo f k ++ (if f k = true then [k] else []) := by
  rw [setsTo, List.range_succ, List.filter_append, ← setsTo]
  congr 1
  simp only [List.filter_cons, List.filter_nil]
  by_cases h : f k = true
  · simp [h, hk]
  · simp [h]
theorem setsTo_pre (f : Nat → Bool) {k m : Nat} (hk : 1 ≤ k) (h : k ≤ m) : setsTo f k <+: setsTo f m := by
  induction m with
  | zero => omega
  | succ m ih =>
    rcases Nat.lt_or_ge m k with h1 | h1
    · obtain rfl : k = m + 1 := by omega
      exact List.prefix_refl _
    · rw [setsTo_succ f m (by omega)]
      exact (ih h1).trans (List.prefix_append _ _)
theorem setsTo_one (f : Nat → Bool) : setsTo f 1 = [] := by simp [setsTo, List.range_succ]
theorem setsTo_len (f : Nat → Bool) (k : Nat) : (setsTo f k).length ≤ k := by
  have := List.length_filter_le (fun s => decide (1 ≤ s) && f s) (List.range k)
  rw [List.length_range] at this
  exact this
theorem partN_bit (r : Nat → Int) (b : Nat) (hb : b < 6) : ∀ l : List Nat, (partN r l).testBit b = l.all fun c => (r c).toNat.testBit b := by
  have key : ∀ (l : List Nat) (s : Nat), (l.foldl (fun s c => s &&& (r c).toNat) s).testBit b = (s.testBit b && l.all fun c => (r c).toNat.testBit b) := by
    intro l
    induction l with
    | nil => intro s; simp
    | cons c t ih =>
      intro s
      rw [List.foldl_cons, ih, Nat.testBit_and, List.all_cons, Bool.and_assoc]
  intro l
  rw [partN, key]
  have : (63 : Nat).testBit b = true := by
    match b, hb with
    | 0, _ => rfl
    | 1, _ => rfl
    | 2, _ => rfl
    | 3, _ => rfl
    | 4, _ => rfl
    | 5, _ => rfl
  rw [this, Bool.true_and]
theorem partN_le (r : Nat → Int) : ∀ (l : List Nat), partN r l ≤ 63 := by
  have key : ∀ (l : List Nat) (s : Nat), l.foldl (fun s c => s &&& (r c).toNat) s ≤ s := by
    intro l
    induction l with
    | nil => intro s; exact Nat.le_refl _
    | cons c t ih => intro s; exact Nat.le_trans (ih _) Nat.and_le_left
  intro l
  exact key l 63
theorem partN_snoc (r : Nat → Int) (l : List Nat) (c : Nat) : partN r (l ++ [c]) = partN r l &&& (r c).toNat := by simp [partN]
theorem high_bit {x : Nat} (h : x < 64) {b : Nat} (hb : 6 ≤ b) : x.testBit b = false := Nat.testBit_lt_two_pow (Nat.lt_of_lt_of_le h (Nat.pow_le_pow_right (by decide) hb : 2 ^ 6 ≤ 2 ^ b))
/-- fine in plain words -/
theorem fineB_iff {r : Nat → Int} (hr : ∀ a, a < 6 → 0 ≤ r a ∧ r a < 64) {set : Nat} (hs : set < 64) : fineB r set = true ↔ ∀ a b, a < 6 → b < 6 → set.testBit a = true → set.testBit b = true → (r a).toNat.testBit b = true := by
  rw [fineB, List.all_eq_true]
  constructor
  · intro h a b ha hb sa sb
    have h1 := h a (List.mem_range.2 ha)
    rw [sa] at h1
    simp only [Bool.not_true, Bool.false_or, beq_iff_eq] at h1
    have := (mem.off_zero set (r a).toNat (by omega) (by have := hr a ha; omega)).1 h1 b (by omega) sb
    exact this
  · intro h a ha
    have ha := List.mem_range.1 ha
    cases sa : set.testBit a with
    | false => rfl
    | true =>
      simp only [Bool.not_true, Bool.false_or, beq_iff_eq]
      refine (mem.off_zero set (r a).toNat (by omega) (by have := hr a ha; omega)).2 fun b hb sb => ?_
      rcases Nat.lt_or_ge b 6 with h6 | h6
      · exact h a b ha h6 sa sb
      · rw [high_bit hs h6] at sb
        cases sb
theorem full_same {r : Nat → Int} (hr : ∀ a, a < 6 → 0 ≤ r a ∧ r a < 64) (hsym : ∀ a b, a < 6 → b < 6 → (r a).toNat.testBit b = (r b).toNat.testBit a) (hrefl : ∀ a, a < 6 → (r a).toNat.testBit a = true) {set : Nat} (hs : set < 64) : fullP r set = fullB r set := by
  have hpart : ∀ b, b < 6 → ((partN r (mem.memb set)).testBit b = true ↔ ∀ a, a < 6 → set.testBit a = true → (r a).toNat.testBit b = true) := by
    intro b hb
    rw [partN_bit r b hb, List.all_eq_true]
    constructor
    · intro h a ha sa
      exact h a (mem.memb_mem.2 ⟨by omega, sa⟩)
    · intro h a ha
      obtain ⟨_, sa⟩ := mem.memb_mem.1 ha
      rcases Nat.lt_or_ge a 6 with h6 | h6
      · exact h a h6 sa
      · rw [high_bit hs h6] at sa
        cases sa
  have hor : ∀ a, a < 6 → (set ||| 2 ^ a) < 64 := fun a ha => Nat.or_lt_two_pow (n := 6) hs (Nat.pow_lt_pow_right (by decide) ha)
  rw [Bool.eq_iff_iff]
  constructor
  · intro h
    have he : partN r (mem.memb set) = set := by simpa [fullP] using h
    rw [he] at hpart
    have hfine : fineB r set = true := (fineB_iff hr hs).2 fun a b ha hb sa sb => (hpart b hb).1 sb a ha sa
    rw [fullB, hfine, Bool.true_and, List.all_eq_true]
    intro a ha
    have ha := List.mem_range.1 ha
    cases sa : set.testBit a with
    | true => rfl
    | false =>
      simp only [Bool.false_or, Bool.not_eq_true']
      apply Bool.eq_false_iff.2
      intro hf
      have h2 := (fineB_iff hr (hor a ha)).1 hf
      have h3 : set.testBit a = true := (hpart a ha).2 fun c hc sc => by
        refine h2 c a hc ha (by rw [Nat.testBit_or, sc]; rfl) ?_
        rw [Nat.testBit_or, Nat.testBit_two_pow]
        simp
      rw [sa] at h3
      cases h3
  · intro h
    rw [fullB, Bool.and_eq_true, List.all_eq_true] at h
    obtain ⟨h1, h2⟩ := h
    have hf := (fineB_iff hr hs).1 h1
    have he : partN r (mem.memb set) = set := by
      apply Nat.eq_of_testBit_eq
      intro b
      rcases Nat.lt_or_ge b 6 with h6 | h6
      · rw [Bool.eq_iff_iff, hpart b h6]
        constructor
        · intro hall
          apply Decidable.byContradiction
          intro hnb
          have hnb : set.testBit b = false := Bool.eq_false_iff.2 hnb
          have h3 := h2 b (List.mem_range.2 h6)
          rw [hnb] at h3
          simp only [Bool.false_or, Bool.not_eq_true'] at h3
          have h4 : fineB r (set ||| 2 ^ b) = true := (fineB_iff hr (hor b h6)).2 fun x y hx hy sx sy => by
            rw [Nat.testBit_or, Nat.testBit_two_pow] at sx sy
            rcases Bool.or_eq_true_iff.1 sx with ex | ex
            · rcases Bool.or_eq_true_iff.1 sy with ey | ey
              · exact hf x y hx hy ex ey
              · obtain rfl : b = y := by simpa using ey
                exact hall x hx ex
            · obtain rfl : b = x := by simpa using ex
              rcases Bool.or_eq_true_iff.1 sy with ey | ey
              · rw [hsym b y hx hy]
                exact hall y hy ey
              · obtain rfl : b = y := by simpa using ey
                exact hrefl b hx
          rw [h4] at h3
          cases h3
        · intro hb a ha sa
          exact hf a b ha h6 sa hb
      · rw [high_bit hs h6]
        exact high_bit (Nat.lt_of_le_of_lt (partN_le _ _) (by decide)) h6
    simp [fullP, he]
/-- full, the colours below a looked at -/
def gB (r : Nat → Int) (k a : Nat) : Bool := fineB r k && (List.range a).all fun j => k.testBit j || !(fineB r (k ||| 2 ^ j))
theorem gB_zero (r : Nat → Int) (k : Nat) : gB r k 0 = fineB r k := by simp [gB]
theorem gB_succ (r : Nat → Int) (k a : Nat) : gB r k (a + 1) = (gB r k a && (k.testBit a || !(fineB r (k ||| 2 ^ a)))) := by
  simp [gB, List.range_succ, Bool.and_assoc]
theorem gB_six (r : Nat → Int) (k : Nat) : gB r k 6 = fullB r k := rfl
theorem gB_no {r : Nat → Int} {k a : Nat} (h : gB r k a = false) : ∀ b, a ≤ b → gB r k b = false
  | 0, hb => by
    obtain rfl : a = 0 := by omega
    exact h
  | b + 1, hb => by
    rcases Nat.lt_or_ge b a with h1 | h1
    · obtain rfl : a = b + 1 := by omega
      exact h
    · rw [gB_succ, gB_no h b h1, Bool.false_and]
/-- what is told -/
noncomputable def colR (r : Nat → Int) : List Nat × Nat := if validRB r = true then (setsTo (fullB r) 64, 0) else ([], 1)
theorem colR_len {r : Nat → Int} {ys : List Nat} {c : Nat} (h : colR r = (ys, c)) : ys.length ≤ 1048576 := by
  rw [colR] at h
  split at h
  · obtain ⟨rfl, _⟩ := Prod.mk.inj h
    exact Nat.le_trans (setsTo_len _ _) (by decide)
  · obtain ⟨rfl, _⟩ := Prod.mk.inj h
    simp
theorem rules_ok {r : Nat → Int} (hr : Six r) (h : validRB r = true) : (∀ a, a < 6 → 0 ≤ r a ∧ r a < 64) ∧ (∀ a b, a < 6 → b < 6 → (r a).toNat.testBit b = (r b).toNat.testBit a) ∧ ∀ a, a < 6 → (r a).toNat.testBit a = true := by
  have hv : validR r := by
    apply Classical.byContradiction
    intro hn
    rw [validRB_false hn] at h
    cases h
  exact ⟨fun a ha => ⟨(hr a ha).1, (hv a ha).1⟩, fun a b ha hb => (hv a ha).2.2 b hb, fun a ha => (hv a ha).2.1⟩
theorem sets_same {r : Nat → Int} (hr : Six r) (h : validRB r = true) : setsTo (fullP r) 64 = setsTo (fullB r) 64 := by
  obtain ⟨h1, h2, h3⟩ := rules_ok hr h
  unfold setsTo
  refine List.filter_congr fun s hs => ?_
  rw [full_same h1 h2 h3 (List.mem_range.1 hs)]
end Go.Proofs.YtdafnibmoggcnaaDoor.col

/-
  The program's meetingSets: for each garment the set of those that it may meet.
-/
namespace Go.Proofs.YtdafnibmoggcnaaDoor.mem
open Go Go.RowKit Go.Maps errs garS heats meet load

/-- may garment x meet garment j -/
def meetAt (r : Nat → Int) (gs : List Gar) (x : Gar) (j : Nat) : Bool := (gs[j]?.map (meetB r x)).getD false
/-- the set of the first k garments that x may meet -/
def setOf (r : Nat → Int) (gs : List Gar) (x : Gar) (k : Nat) : Nat := (List.range k).foldl (fun s j => if meetAt r gs x j = true then s ||| 2 ^ j else s) 0
theorem setOf_succ (r : Nat → Int) (gs : List Gar) (x : Gar) (k : Nat) : setOf r gs x (k + 1) = if meetAt r gs x k = true then setOf r gs x k ||| 2 ^ k else setOf r gs x k := by simp [setOf, List.range_succ]
theorem setOf_bit (r : Nat → Int) (gs : List Gar) (x : Gar) (j : Nat) : ∀ k, (setOf r gs x k).testBit j = (decide (j < k) && meetAt r gs x j)
  | 0 => by simp [setOf]
  | k + 1 => by
    rw [setOf_succ]
    split
    · rename_i h
      rw [Nat.testBit_or, setOf_bit r gs x j k, Nat.testBit_two_pow]
      by_cases e : k = j
      · subst e; simp [h]
      · have : decide (j < k + 1) = decide (j < k) := by rw [Bool.eq_iff_iff]; simp; omega
        simp [e, this]
    · rename_i h
      rw [setOf_bit r gs x j k]
      by_cases e : k = j
      · subst e; simp [h]
      · have : decide (j < k + 1) = decide (j < k) := by rw [Bool.eq_iff_iff]; simp; omega
        rw [this]
theorem setOf_lt (r : Nat → Int) (gs : List Gar) (x : Gar) (k : Nat) (hk : k ≤ 8) : setOf r gs x k < 256 := by
  refine Nat.lt_pow_two_of_testBit (n := 8) _ fun i hi => ?_
  rw [setOf_bit]
  simp
  omega
def msOf (r : Nat → Int) (gs : List Gar) (k i : Nat) : Int := if i < k then ((gs[i]?.map fun x => setOf r gs x gs.length).getD 0 : Nat) else 0
theorem msOf_meets {r : Nat → Int} {gs : List Gar} (hn : gs.length ≤ 8) : Meets r gs (msOf r gs gs.length) := by
  refine ⟨fun i => ?_, fun i x k hx => ?_⟩
  · unfold msOf
    split
    · cases hx : gs[i]? with
      | none => simp
      | some x =>
        have := setOf_lt r gs x gs.length hn
        simp
        omega
    · omega
  · have hi := (List.getElem?_eq_some_iff.1 hx).1
    rw [msOf, if_pos hi, hx]
    simp only [Option.map_some, Option.getD_some, Int.toNat_natCast]
    rw [setOf_bit, Bool.and_eq_true, decide_eq_true_eq, meetAt]
    constructor
    · rintro ⟨h1, h2⟩
      have hy : gs[k]? = some (gs[k]'h1) := List.getElem?_eq_getElem _
      rw [hy] at h2
      exact ⟨_, hy, by simpa using h2⟩
    · rintro ⟨y, hy, h2⟩
      exact ⟨(List.getElem?_eq_some_iff.1 hy).1, by rw [hy]; simpa using h2⟩
end Go.Proofs.YtdafnibmoggcnaaDoor.mem

/-
  The map of the garments that have come, in meetingSets.
-/
namespace Go.Proofs.YtdafnibmoggcnaaDoor.mem
open Go Go.RowKit Go.Maps errs garS heats meet load

theorem undM : Tryd.prog.underlying 107 = some (.map 56 5) := by kernel_rfl
theorem undU : Tryd.prog.underlying 5 = some (.int .u8) := by kernel_rfl
theorem zeroU (w : World) : (zeroValue 5).run Tryd.prog w = .ok (.int .u8 0) w := by kernel_rfl
/-- block b is a map from the garments that have come to their sets -/
def Known (W : World) (b : Nat) (N : Nat) (r : Nat → Int) (gs seen : List Gar) : Prop :=
  ∃ D : DataW Unit, W.ownsMap Tryd.prog 56 (plainElem Tryd.prog 5) b N D ∧ ∀ (y : Gar) (l : Lit), keyOf Tryd.prog 56 y.v = some l →
    (y ∈ seen → D.atKey l (.lit (.int .u8 0)) = .lit (.int .u8 (setOf r gs y gs.length)) ∧ has D l = true) ∧ (y ∉ seen → D.atKey l (.lit (.int .u8 0)) = .lit (.int .u8 0) ∧ has D l = false)
theorem Known.new (w : World) (r : Nat → Int) (gs : List Gar) : Known (w.alloc (.map #[] 0)) w.heap.size 0 r gs [] :=
  ⟨.map [], World.ownsMap_made w _ _ _, fun y l _ => ⟨fun h => absurd h (by simp), fun _ => ⟨atKey_of_not_has (by simp [has_eq]) _, by simp [has_eq]⟩⟩⟩
theorem Known.kept {w w' : World} {b N : Nat} {r : Nat → Int} {gs seen : List Gar} {row : Option Nat} (h : Known w b N r gs seen) (hg : w.grownBy w' row) (hne : some b ≠ row) : Known w' b N r gs seen := by
  obtain ⟨D, h1, h2⟩ := h
  exact ⟨D, h1.kept hg hne, h2⟩
set_option maxRecDepth 100000 in
theorem Known.look {w : World} {b N : Nat} {r : Nat → Int} {gs seen : List Gar} (h : Known w b N r gs seen) (y : Gar) (hy : y.Fits) :
    (y ∈ seen → (Instr.lookup 107 (.map (some b)) y.v true).run Tryd.prog w = .ok (.tuple #[.int .u8 (setOf r gs y gs.length), .bool true]) w) ∧
    (y ∉ seen → (Instr.lookup 107 (.map (some b)) y.v true).run Tryd.prog w = .ok (.tuple #[.int .u8 0, .bool false]) w) := by
  obtain ⟨D, hown, hD⟩ := h
  obtain ⟨l, hl⟩ := keyG y hy
  obtain ⟨v, ps, hrun, hR⟩ := hown.look_ok keyedG undM (zeroU w) (plainElem_int undU (by decide)) hl
  obtain ⟨c, rfl, e2, _⟩ := plainElem_int_inv undU hR
  have e3 := congrArg Prod.fst e2
  simp only at e3
  obtain ⟨h1, h2⟩ := hD y l hl
  constructor
  · intro hs
    obtain ⟨k1, k2⟩ := h1 hs
    rw [k1] at e3
    injection e3 with e4
    injection e4 with _ e5
    rw [k2, ← e5] at hrun
    exact hrun
  · intro hs
    obtain ⟨k1, k2⟩ := h2 hs
    rw [k1] at e3
    injection e3 with e4
    injection e4 with _ e5
    rw [k2, ← e5] at hrun
    exact hrun
set_option maxRecDepth 100000 in
theorem Known.put {w : World} {b N : Nat} {r : Nat → Int} {gs seen : List Gar} (h : Known w b N r gs seen) (hN : N < maxLen) (hn : gs.length ≤ 8) (y : Gar) (hy : y.Fits) :
    ∃ w', (Instr.mapUpdate 107 (.map (some b)) y.v (.int .u8 (setOf r gs y gs.length))).run Tryd.prog w = .ok () w' ∧ Known w' b (N + 1) r gs (seen ++ [y]) ∧ w.grownBy w' (some b) := by
  obtain ⟨D, hown, hD⟩ := h
  obtain ⟨l, hl⟩ := keyG y hy
  have hlt := setOf_lt r gs y gs.length hn
  obtain ⟨w', hrun, h1, h2⟩ := hown.update keyedG undM hN hl (plainElem_int (a := (setOf r gs y gs.length : Int)) undU (wf_of _ _ ⟨by show (0 : Int) ≤ _; omega, by show _ ≤ (255 : Int); omega⟩))
  refine ⟨w', hrun, ⟨_, h1, fun z k hk => ?_⟩, h2⟩
  by_cases e : k = l
  · subst e
    have ezy : z = y := by
      have := keyedG.inj hk hl
      cases z
      cases y
      simp only [Value.agg.injEq, Array.mk.injEq, List.cons.injEq, Value.int.injEq, true_and, and_true] at this
      obtain ⟨a, b, c, d⟩ := this
      subst a b c d
      rfl
    subst ezy
    exact ⟨fun _ => ⟨atKey_put_same hown.isMap (keyedG.key hl) _ _, has_put_same hown.isMap (keyedG.key hl) _⟩, fun hs => absurd (by simp) hs⟩
  · have hne : z ≠ y := fun ez => by
      subst ez
      rw [hl] at hk
      exact e (Option.some.inj hk).symm
    obtain ⟨k1, k2⟩ := hD z k hk
    rw [atKey_put_other e, has_put_other e]
    exact ⟨fun hs => k1 ((List.mem_append.1 hs).elim id fun h => absurd (List.mem_singleton.1 h) hne), fun hs => k2 fun h => hs (List.mem_append_left _ h)⟩
end Go.Proofs.YtdafnibmoggcnaaDoor.mem

/-
  Contract of the program's meetingSets.
-/
namespace Go.Proofs.YtdafnibmoggcnaaDoor.mem
open Go Go.RowKit Go.Maps errs garS heats meet load

theorem setOf_yes {r : Nat → Int} {gs : List Gar} {x y : Gar} {k : Nat} (hy : gs[k]? = some y) (h : meetB r x y = true) : setOf r gs x (k + 1) = setOf r gs x k ||| 2 ^ k := by
  rw [setOf_succ, if_pos (by rw [meetAt, hy]; simpa using h)]
theorem setOf_no {r : Nat → Int} {gs : List Gar} {x y : Gar} {k : Nat} (hy : gs[k]? = some y) (h : meetB r x y = false) : setOf r gs x (k + 1) = setOf r gs x k := by
  rw [setOf_succ, if_neg (by rw [meetAt, hy]; simp [h])]
theorem meet_v (r : Nat → Int) (hr : Six r) (a b : Gar) (ha : a.Fits) (hb : b.Fits) (va : a.valid = true) (vb : b.valid = true) (w : World) (v : Bool) (hv : meetB r a b = v) :
    Calls Tryd.prog 45 #[rulesV r, a.v, b.v] w fun o w' => o = .returned (.bool v) ∧ Below w.heap.size w w' := by
  subst hv
  exact meet_any r hr a b ha hb va vb w
/-- between two rounds: the map, the sets that have been laid, the room for the result -/
structure MQ (w W : World) (r : Nat → Int) (gs : List Gar) (N k : Nat) (seen : List Gar) : Prop where
  K : Known W (w.heap.size + 1) N r gs seen
  S : ∀ j, j < 8 → W.cell? ⟨w.heap.size + 1 + 1, j, none⟩ = some (.int .u8 (msOf r gs k j)) ∧ W.frozen? ⟨w.heap.size + 1 + 1, j, none⟩ = false
  R : ∀ j, j < 8 → W.cell? ⟨w.heap.size, j, none⟩ = some (.int .u8 0) ∧ W.frozen? ⟨w.heap.size, j, none⟩ = false
  B : Below w.heap.size w W
  z : w.heap.size + 1 + 1 < W.heap.size
theorem grown_of_below {w w' : World} (h : Below w.heap.size w w') : w.grownBy w' none := ⟨h.os, h.tape, h.output, h.size, fun k hk _ => h.block k hk⟩
theorem MQ.next {w W V : World} {r : Nat → Int} {gs : List Gar} {N k : Nat} {seen : List Gar} (h : MQ w W r gs N k seen) (hb : Below W.heap.size W V) : MQ w V r gs N k seen := by
  have hz := h.z
  exact ⟨h.K.kept (grown_of_below hb) (by simp), fun j hj => ⟨(hb.cell (p := ⟨w.heap.size + 1 + 1, j, none⟩) hz).trans (h.S j hj).1, (hb.frozen (p := ⟨w.heap.size + 1 + 1, j, none⟩) hz).trans (h.S j hj).2⟩,
    fun j hj => ⟨(hb.cell (p := ⟨w.heap.size, j, none⟩) (by show w.heap.size < _; omega)).trans (h.R j hj).1, (hb.frozen (p := ⟨w.heap.size, j, none⟩) (by show w.heap.size < _; omega)).trans (h.R j hj).2⟩,
    h.B.trans (hb.mono h.B.size), Nat.lt_of_lt_of_le hz hb.size⟩
theorem MQ.alloc {w W : World} {r : Nat → Int} {gs : List Gar} {N k : Nat} {seen : List Gar} (h : MQ w W r gs N k seen) (o : Obj) : MQ w (W.alloc o) r gs N k seen := h.next ((Below.refl _ _).alloc (Nat.le_refl _) _)
theorem MQ.turn {w W V : World} {r : Nat → Int} {gs : List Gar} {N N' k : Nat} {seen seen' : List Gar} (h : MQ w W r gs N k seen) (hg : W.grownBy V (some (w.heap.size + 1))) (hK : Known V (w.heap.size + 1) N' r gs seen') : MQ w V r gs N' k seen' := by
  have hz := h.z
  have c : ∀ p : Addr, p.block < W.heap.size → p.block ≠ w.heap.size + 1 → V.heap[p.block]? = W.heap[p.block]? := fun p h1 h2 => hg.block _ h1 (fun e => h2 (Option.some.inj e))
  have cc : ∀ p : Addr, p.block < W.heap.size → p.block ≠ w.heap.size + 1 → V.cell? p = W.cell? p := fun p h1 h2 => by unfold World.cell?; rw [c p h1 h2]
  have cf : ∀ p : Addr, p.block < W.heap.size → p.block ≠ w.heap.size + 1 → V.frozen? p = W.frozen? p := fun p h1 h2 => by unfold World.frozen?; rw [c p h1 h2]
  refine ⟨hK, fun j hj => ⟨(cc ⟨w.heap.size + 1 + 1, j, none⟩ hz (by show w.heap.size + 1 + 1 ≠ _; omega)).trans (h.S j hj).1, (cf ⟨w.heap.size + 1 + 1, j, none⟩ hz (by show w.heap.size + 1 + 1 ≠ _; omega)).trans (h.S j hj).2⟩,
    fun j hj => ⟨(cc ⟨w.heap.size, j, none⟩ (by show w.heap.size < _; omega) (by show w.heap.size ≠ _; omega)).trans (h.R j hj).1, (cf ⟨w.heap.size, j, none⟩ (by show w.heap.size < _; omega) (by show w.heap.size ≠ _; omega)).trans (h.R j hj).2⟩,
    h.B.grown hg h.B.size (fun k e => by cases e; omega), Nat.lt_of_lt_of_le hz hg.size⟩
theorem MQ.seen {w W : World} {r : Nat → Int} {gs : List Gar} {N N' k : Nat} {s s' : List Gar} (h : MQ w W r gs N k s) (hN : N ≤ N') (hs : ∀ y, y ∈ s ↔ y ∈ s') : MQ w W r gs N' k s' := by
  obtain ⟨⟨D, h1, h2⟩, b, c, d, e⟩ := h
  exact ⟨⟨D, h1.mono hN, fun y l hl => ⟨fun hy => (h2 y l hl).1 ((hs y).2 hy), fun hy => (h2 y l hl).2 fun q => hy ((hs y).1 q)⟩⟩, b, c, d, e⟩
theorem MQ.store {w W : World} {r : Nat → Int} {gs : List Gar} {N k : Nat} {seen : List Gar} (h : MQ w W r gs N k seen) (hk : k < 8) {x : Gar} (hx : gs[k]? = some x) : MQ w (W.setCell ⟨w.heap.size + 1 + 1, k, none⟩ (.int .u8 (setOf r gs x gs.length))) r gs N (k + 1) seen := by
  have hz := h.z
  refine ⟨?_, fun j hj => ⟨?_, by rw [World.frozen?_setCell]; exact (h.S j hj).2⟩, fun j hj => ⟨(World.cell?_setCell_far _ _ _ _ (by show w.heap.size + 1 + 1 ≠ w.heap.size; omega)).trans (h.R j hj).1, by rw [World.frozen?_setCell]; exact (h.R j hj).2⟩,
    h.B.setCell (p := ⟨w.heap.size + 1 + 1, k, none⟩) (by show w.heap.size ≤ w.heap.size + 1 + 1; omega) _, by rw [World.size_setCell]; exact hz⟩
  · obtain ⟨D, h1, h2⟩ := h.K
    exact ⟨D, h1.setCell (by show w.heap.size + 1 ≠ w.heap.size + 1 + 1; omega) _, h2⟩
  · by_cases e : j = k
    · subst e
      rw [World.cell?_setCell_same' _ _ _ (by rw [(h.S j hj).1]; rfl), msOf, if_pos (Nat.lt_succ_self j), hx]
      rfl
    · have hne : (⟨w.heap.size + 1 + 1, k, none⟩ : Addr) ≠ ⟨w.heap.size + 1 + 1, j, none⟩ := fun e2 => e (by injection e2 with _ e3 _; exact e3.symm)
      have hc : (W.setCell ⟨w.heap.size + 1 + 1, k, none⟩ (.int .u8 (setOf r gs x gs.length))).cell? ⟨w.heap.size + 1 + 1, j, none⟩ = W.cell? ⟨w.heap.size + 1 + 1, j, none⟩ := by first | exact World.cell?_setCell_other _ hne | exact World.cell?_setCell_other _ _ _ hne | exact World.cell?_setCell_other _ _ _ _ hne
      rw [hc, (h.S j hj).1]
      have e3 : msOf r gs (k + 1) j = msOf r gs k j := by
        unfold msOf
        by_cases h1 : j < k
        · rw [if_pos h1, if_pos (by omega)]
        · rw [if_neg h1, if_neg (by omega)]
      rw [e3]
abbrev zero8 : Array Value := #[.int .u8 0, .int .u8 0, .int .u8 0, .int .u8 0, .int .u8 0, .int .u8 0, .int .u8 0, .int .u8 0]
theorem zero8_at : ∀ j, j < 8 → zero8[j]? = some (.int .u8 0)
  | 0, _ => rfl
  | 1, _ => rfl
  | 2, _ => rfl
  | 3, _ => rfl
  | 4, _ => rfl
  | 5, _ => rfl
  | 6, _ => rfl
  | 7, _ => rfl
theorem or_pow (a q : Nat) (ha : a < 256) (hq : q < 8) : bits BinOp.or IntKind.u8 (a : Int) (2 ^ q % 256) = ((a ||| 2 ^ q : Nat) : Int) := by
  have h2 : 2 ^ q < 256 := Nat.pow_lt_pow_right (by decide) hq
  obtain ⟨p, hp⟩ : ∃ p : Nat, p = 2 ^ q := ⟨_, rfl⟩
  have e1 : ((2 : Int) ^ q) = (p : Int) := by rw [hp]; simp
  rw [← hp] at h2 ⊢
  rw [e1]
  have e : ((p : Int) % 256) = (p : Int) := by omega
  rw [e]
  exact (bits_nat .u8 8 (by decide) (fun n h0 h1 => by rw [IntKind.wrap_u8]; omega) a p ha h2).2
set_option maxRecDepth 100000 in
set_option maxHeartbeats 8000000 in
theorem meetingSets_any (r : Nat → Int) (hr : Six r) (A : Option Addr) (n c : Nat) (gs : List Gar) (en : n = gs.length) (hn : n ≤ 8) (hv : ∀ x ∈ gs, x.valid = true) (w : World) (hg : GS w w.heap.size A gs) :
    Calls Tryd.prog 66 #[.func (.func 45) #[rulesV r] #[], .slice A n c] w fun o w' => o = .returned (eightV (msOf r gs n)) ∧ Below w.heap.size w w' := by
  have En := Lib.hid en
  clear en
  have hmm := @run_makeMap Tryd.prog
  go_enter Tryd.func66, Tryd.ntmps66
  go_wp2_with fail
  go_loopw [16] (fun vi wr => ∃ k : Nat, k ≤ n ∧ vi = .int .i64 k ∧ MQ w wr r gs k k (gs.take k)) (fun vi _ => n - (intOf vi).toNat)
  case atStart =>
    have e1 : (w.alloc (.cells zero8 66)).heap.size = w.heap.size + 1 := by simp
    have e2 : ((w.alloc (.cells zero8 66)).alloc (.map #[] 0)).heap.size = w.heap.size + 1 + 1 := by simp
    have h1 := heap_alloc_new (w.alloc (.cells zero8 66)) (.map #[] 0)
    have h2 := heap_alloc_new ((w.alloc (.cells zero8 66)).alloc (.map #[] 0)) (.cells zero8 66)
    rw [e1] at h1
    rw [e2] at h2
    have h0 : (((w.alloc (.cells zero8 66)).alloc (.map #[] 0)).alloc (.cells zero8 66)).heap[w.heap.size]? = some (.cells zero8 66) := (heap_alloc_old _ _ _ (by omega)).trans ((heap_alloc_old _ _ _ (by omega)).trans (heap_alloc_new w _))
    have hK : Known ((w.alloc (.cells zero8 66)).alloc (.map #[] 0)) (w.heap.size + 1) 0 r gs [] := by
      have := Known.new (w.alloc (.cells zero8 66)) r gs
      rwa [e1] at this
    refine ⟨0, by omega, rfl, hK.kept (World.grownBy_alloc _ _ none) (by simp), fun j hj => ⟨(cell_of_row _ _ _ _ _ _ h2).trans ?_, ?_⟩, fun j hj => ⟨(cell_of_row _ _ _ _ _ _ h0).trans ?_, ?_⟩, (((Below.refl _ w).alloc (Nat.le_refl _) _).alloc (by simp) _).alloc (by simp; omega) _, by simp⟩
    · rw [zero8_at j hj]; rfl
    · unfold World.frozen?; rw [h2]; rfl
    · exact zero8_at j hj
    · unfold World.frozen?; rw [h0]; rfl
  case round =>
    obtain ⟨k, hk, rfl, hQ⟩ := hrel
    have HQ := Lib.hid hQ
    have hz := hQ.z
    clear hQ hmm
    obtain ⟨wo, rfl⟩ : ∃ wo, wo = wr := ⟨wr, rfl⟩
    by_cases hlt : k < n
    · obtain ⟨x, hx⟩ : ∃ x, gs[k]? = some x := ⟨gs[k]'(by have := En.out; omega), List.getElem?_eq_getElem _⟩
      obtain ⟨a, ea, hab, hg0, hg1, hg2, hg3⟩ := (hg.below HQ.out.B).at_ k x hx
      subst ea
      have hxf := hg.fits x (List.mem_of_getElem? hx)
      have hxv := hv x (List.mem_of_getElem? hx)
      have HX := Lib.hid hx
      have i0 : (0 : Int) ≤ (k : Int) := by omega
      have i1 : (k : Int) < (n : Int) := by omega
      have i2 : (k : Int) < 8 := by omega
      have HQ1 := Lib.hid (HQ.out.alloc (.cells #[.int .u8 x.c, .int .i8 x.n, .int .i8 x.m, .int .i16 x.g] 56))
      obtain ⟨l1, l2⟩ := HQ1.out.K.look x hxf
      obtain ⟨s1, s2⟩ := HQ.out.S k (by omega)
      have etk := Lib.hid (take_snoc hx)
      clear hx
      by_cases hin : x ∈ gs.take k
      · have hl := l1 hin
        have HIN := Lib.hid hin
        clear l1 l2 hin
        go_wp2_with fail
        go_roundw
        case rel =>
          refine ⟨k + 1, by omega, by go_num, ?_⟩
          refine (((HQ.out.store (by omega) HX.out).alloc _).seen (Nat.le_succ _) fun y => ?_)
          rw [etk.out, List.mem_append, List.mem_singleton]
          exact ⟨.inl, fun h => h.elim id fun e => by rw [e]; exact HIN.out⟩
        case measure => simp [intOf]; omega
      · have hl := l2 hin
        have HIN := Lib.hid hin
        clear l1 l2 hin
        go_wp2_with fail
        obtain ⟨w1, hw1⟩ : ∃ w1, w1 = wo.alloc (.cells #[.int .u8 x.c, .int .i8 x.n, .int .i8 x.m, .int .i16 x.g] 56) := ⟨_, rfl⟩
        rw [← hw1] at HQ1 ⊢
        have q0 : w1.cell? ⟨wo.heap.size, 0, none⟩ = some (.int .u8 x.c) := by rw [hw1]; exact cell_of_row _ _ _ _ _ _ (heap_alloc_new wo _)
        have q1 : w1.cell? ⟨wo.heap.size, 1, none⟩ = some (.int .i8 x.n) := by rw [hw1]; exact cell_of_row _ _ _ _ _ _ (heap_alloc_new wo _)
        have q2 : w1.cell? ⟨wo.heap.size, 2, none⟩ = some (.int .i8 x.m) := by rw [hw1]; exact cell_of_row _ _ _ _ _ _ (heap_alloc_new wo _)
        have q3 : w1.cell? ⟨wo.heap.size, 3, none⟩ = some (.int .i16 x.g) := by rw [hw1]; exact cell_of_row _ _ _ _ _ _ (heap_alloc_new wo _)
        have hz1 : wo.heap.size < w1.heap.size := by rw [hw1]; simp
        clear hl hg0 hg1 hg2 hg3 s1 s2 hw1
        go_loopw [9, 31] (fun vs vq wz => ∃ q : Nat, q ≤ n ∧ vq = .int .i64 q ∧ vs = .int .u8 (setOf r gs x q) ∧ Below w1.heap.size w1 wz) (fun _ vq _ => n - (intOf vq).toNat)
        case atStart => exact ⟨0, by omega, rfl, rfl, Below.refl _ _⟩
        case round =>
          obtain ⟨q, hq, rfl, rfl, hb⟩ := hrel
          by_cases hqn : q < n
          · obtain ⟨y, hy⟩ : ∃ y, gs[q]? = some y := ⟨gs[q]'(by have := En.out; omega), List.getElem?_eq_getElem _⟩
            obtain ⟨a', ea', hab', hga'⟩ := (hg.below (HQ1.out.B.trans (hb.mono HQ1.out.B.size))).at_ q y hy
            obtain rfl := Option.some.inj ea'
            obtain ⟨p0, p1, p2, p3⟩ := hga'
            have hyf := hg.fits y (List.mem_of_getElem? hy)
            have hyv := hv y (List.mem_of_getElem? hy)
            have HY := Lib.hid hy
            have HBz := Lib.hid hb
            have r0 := (hb.cell (p := ⟨wo.heap.size, 0, none⟩) hz1).trans q0
            have r1 := (hb.cell (p := ⟨wo.heap.size, 1, none⟩) hz1).trans q1
            have r2 := (hb.cell (p := ⟨wo.heap.size, 2, none⟩) hz1).trans q2
            have r3 := (hb.cell (p := ⟨wo.heap.size, 3, none⟩) hz1).trans q3
            have j0 : (0 : Int) ≤ (q : Int) := by omega
            have j1 : (q : Int) < (n : Int) := by omega
            have hlt2 := setOf_lt r gs x q (by omega)
            have hwz := hb.size
            have hoz : wo.heap.size < wr.heap.size := by omega
            have hoz2 : ¬ wo.heap.size = wr.heap.size := by omega
            have hoz3 : ¬ wr.heap.size = wo.heap.size := by omega
            clear q0 q1 q2 q3 hb hy ea'
            cases hv2 : meetB r x y with
            | true =>
              have HV := Lib.hid hv2
              clear hv2
              go_wp2_with (go_at_call 45; refine (meet_v r hr x y hxf hyf hxv hyv _ true HV.out).mono ?_; rintro o w3 ⟨rfl, hb3⟩)
              go_roundw
              case rel => exact ⟨q + 1, by omega, by go_num, by rw [or_pow _ _ hlt2 (by omega), setOf_yes HY.out HV.out], HBz.out.trans (((Below.refl _ _).alloc (Nat.le_refl _) _).trans (hb3.mono (by simp)) |>.mono hwz)⟩
              case measure => simp [intOf]; omega
            | false =>
              have HV := Lib.hid hv2
              clear hv2
              go_wp2_with (go_at_call 45; refine (meet_v r hr x y hxf hyf hxv hyv _ false HV.out).mono ?_; rintro o w3 ⟨rfl, hb3⟩)
              go_roundw
              case rel => exact ⟨q + 1, by omega, by go_num, by rw [setOf_no HY.out HV.out], HBz.out.trans (((Below.refl _ _).alloc (Nat.le_refl _) _).trans (hb3.mono (by simp)) |>.mono hwz)⟩
              case measure => simp [intOf]; omega
          · obtain rfl : q = n := by omega
            have HQ2 := Lib.hid (HQ1.out.next hb)
            obtain ⟨w4, hput, hK4, hg4⟩ := HQ2.out.K.put (by unfold maxLen; omega) (by have := En.out; omega) x hxf
            rw [← En.out] at hput
            have HQ4 := Lib.hid (HQ2.out.turn hg4 hK4)
            obtain ⟨s1, s2⟩ := HQ4.out.S k (by omega)
            have r0 := (hb.cell (p := ⟨wo.heap.size, 0, none⟩) hz1).trans q0
            have r1 := (hb.cell (p := ⟨wo.heap.size, 1, none⟩) hz1).trans q1
            have r2 := (hb.cell (p := ⟨wo.heap.size, 2, none⟩) hz1).trans q2
            have r3 := (hb.cell (p := ⟨wo.heap.size, 3, none⟩) hz1).trans q3
            clear q0 q1 q2 q3 hb hK4 hg4
            go_wp2_with fail
            go_roundw
            case rel =>
              have h5 := HQ4.out.store (by omega) HX.out
              rw [← En.out, ← etk.out] at h5
              exact ⟨k + 1, by omega, by go_num, h5⟩
            case measure => simp [intOf]; omega
    · obtain rfl : k = n := by omega
      obtain ⟨sa0, sb0⟩ := HQ.out.S 0 (by omega)
      obtain ⟨ra0, rb0⟩ := HQ.out.R 0 (by omega)
      obtain ⟨sa1, sb1⟩ := HQ.out.S 1 (by omega)
      obtain ⟨ra1, rb1⟩ := HQ.out.R 1 (by omega)
      obtain ⟨sa2, sb2⟩ := HQ.out.S 2 (by omega)
      obtain ⟨ra2, rb2⟩ := HQ.out.R 2 (by omega)
      obtain ⟨sa3, sb3⟩ := HQ.out.S 3 (by omega)
      obtain ⟨ra3, rb3⟩ := HQ.out.R 3 (by omega)
      obtain ⟨sa4, sb4⟩ := HQ.out.S 4 (by omega)
      obtain ⟨ra4, rb4⟩ := HQ.out.R 4 (by omega)
      obtain ⟨sa5, sb5⟩ := HQ.out.S 5 (by omega)
      obtain ⟨ra5, rb5⟩ := HQ.out.R 5 (by omega)
      obtain ⟨sa6, sb6⟩ := HQ.out.S 6 (by omega)
      obtain ⟨ra6, rb6⟩ := HQ.out.R 6 (by omega)
      obtain ⟨sa7, sb7⟩ := HQ.out.S 7 (by omega)
      obtain ⟨ra7, rb7⟩ := HQ.out.R 7 (by omega)
      go_wp2_with fail
      obtain ⟨V, hV⟩ : ∃ V, V = wo.setCells w.heap.size 0 [.int .u8 (msOf r gs k 0), .int .u8 (msOf r gs k 1), .int .u8 (msOf r gs k 2), .int .u8 (msOf r gs k 3), .int .u8 (msOf r gs k 4), .int .u8 (msOf r gs k 5), .int .u8 (msOf r gs k 6), .int .u8 (msOf r gs k 7)] := ⟨_, rfl⟩
      have hbV : Below w.heap.size w V := by rw [hV]; exact below_setCells HQ.out.B (Nat.le_refl _) _ _
      have hcV : ∀ (j : Nat) (hj : j < 8), V.cell? ⟨w.heap.size, j, none⟩ = some ([Value.int .u8 (msOf r gs k 0), .int .u8 (msOf r gs k 1), .int .u8 (msOf r gs k 2), .int .u8 (msOf r gs k 3), .int .u8 (msOf r gs k 4), .int .u8 (msOf r gs k 5), .int .u8 (msOf r gs k 6), .int .u8 (msOf r gs k 7)][j]'hj) := fun j hj => by
        have h := World.cell?_setCells_in w.heap.size [.int .u8 (msOf r gs k 0), .int .u8 (msOf r gs k 1), .int .u8 (msOf r gs k 2), .int .u8 (msOf r gs k 3), .int .u8 (msOf r gs k 4), .int .u8 (msOf r gs k 5), .int .u8 (msOf r gs k 6), .int .u8 (msOf r gs k 7)] 0 wo (fun i hi => by rw [Nat.zero_add, (HQ.out.R i hi).1]; rfl) j hj
        rw [Nat.zero_add] at h
        rw [hV]
        exact h
      have hV2 := hV
      simp only [World.setCells, Nat.reduceAdd] at hV2
      rw [← hV2]
      have d0 := hcV 0 (by omega)
      have d1 := hcV 1 (by omega)
      have d2 := hcV 2 (by omega)
      have d3 := hcV 3 (by omega)
      have d4 := hcV 4 (by omega)
      have d5 := hcV 5 (by omega)
      have d6 := hcV 6 (by omega)
      have d7 := hcV 7 (by omega)
      clear hV hV2 hcV
      refine bodyPost_ret (v := eightV (msOf r gs k)) ?_ rfl ⟨rfl, hbV⟩
      simp only [List.getElem_cons_zero, List.getElem_cons_succ] at d0 d1 d2 d3 d4 d5 d6 d7
      simp [results, Tryd.results66, go_sem, d0, d1, d2, d3, d4, d5, d6, d7]
end Go.Proofs.YtdafnibmoggcnaaDoor.mem

/-
  Sets of colours: the program's.
-/
namespace Go.Proofs.YtdafnibmoggcnaaDoor.col
open Go Go.RowKit Go.Shelf sl errs garS heats meet load mem rng
attribute [local go_sem] Oper.semAt_some

theorem six_at {r : Nat → Int} {b : Nat} {u : World} (h : SixAt r b u) : ∀ k, k < 6 → u.cell? ⟨b, k, none⟩ = some (.int .u8 (r k))
  | 0, _ => h.1
  | 1, _ => h.2.1
  | 2, _ => h.2.2.1
  | 3, _ => h.2.2.2.1
  | 4, _ => h.2.2.2.2.1
  | 5, _ => h.2.2.2.2.2
theorem six_kept {r : Nat → Int} {b : Nat} {u v : World} (h : SixAt r b u) (hk : ∀ p x, u.cell? p = some x → v.cell? p = some x) : SixAt r b v :=
  ⟨hk _ _ h.1, hk _ _ h.2.1, hk _ _ h.2.2.1, hk _ _ h.2.2.2.1, hk _ _ h.2.2.2.2.1, hk _ _ h.2.2.2.2.2⟩
/-- the rules in their box, and what lay below -/
abbrev LSc (r : Nat → Int) (w u : World) : Prop := SixAt r w.heap.size u ∧ w.heap.size < u.heap.size ∧ Below w.heap.size w u
theorem and_nat (a b : Nat) (ha : a < 256) (hb : b < 256) : bits BinOp.and IntKind.u8 (a : Int) (b : Int) = ((a &&& b : Nat) : Int) :=
  (bits_nat .u8 8 (by decide) (fun n h0 h1 => by rw [IntKind.wrap_u8]; omega) a b ha hb).1
set_option maxRecDepth 100000 in
set_option maxHeartbeats 8000000 in
theorem partners_any (r : Nat → Int) (hr : Six r) (set : Nat) (hset : set < 64) (w : World) :
    Calls Tryd.prog 71 #[rulesV r, .int .u8 set] w fun o w' => o = .returned (.int .u8 (partN r (memb set) : Nat)) ∧ Below w.heap.size w w' := by
  refine (callsIn_wide (n := 3)).1 ?_
  refine callsIn_of_wp_marks Tryd.func71 rfl trivial ?_ rfl
  simp only [Tryd.ntmps71, List.size_toArray, List.length_cons, List.length_nil, Nat.reduceAdd, Nat.reduceSub, Array.replicate_succ, Array.replicate_zero, List.push_toArray, List.append_toArray, List.nil_append, List.cons_append]
  gi_wp2_with (refine ⟨trivial, ?_⟩; gi_at_call 67; refine (callsIn_wide.2 (members_any (set : Int) _)).mono ?_; rintro e w1 ⟨rfl, rfl⟩)
  have hS0 : SixAt r w.heap.size (w.alloc (.cells (rulesCs r) 28)) := SixAt.new r w 28
  have bS := Boxed.new (w.alloc (.cells (rulesCs r) 28)) 5 (.int .u8 63)
  have bM := Boxed.new ((w.alloc (.cells (rulesCs r) 28)).alloc (.cells #[.int .u8 63] 5)) 5 (.int .u8 set)
  rw [World.size_alloc] at bS bM
  rw [World.size_alloc] at bM
  have hB0 : Below w.heap.size w (((w.alloc (.cells (rulesCs r) 28)).alloc (.cells #[.int .u8 63] 5)).alloc (.cells #[.int .u8 set] 5)) := (((Below.refl _ w).alloc (Nat.le_refl _) _).alloc (by simp) _).alloc (by simp; omega) _
  have hS2 : SixAt r w.heap.size (((w.alloc (.cells (rulesCs r) 28)).alloc (.cells #[.int .u8 63] 5)).alloc (.cells #[.int .u8 set] 5)) :=
    (hS0.to ((Below.refl _ _).alloc (Nat.le_refl _) _) (by simp)).to ((Below.refl _ _).alloc (Nat.le_refl _) _) (by simp; omega)
  refine wpIn_rangeFunc_ownG rfl (by decide) (gf := 78) (lb := #[.pointer (some ⟨w.heap.size + 1 + 1, 0, none⟩)]) rfl trivial (enters_of Tryd.func78 (by kernel_rfl) rfl)
    (members_stops (3 - 1) (by decide) (w.heap.size + 1 + 1) w.heap.size set (by omega) _ (by simp) bM.cell) belowK_t (belowK_b (by simp; omega)) (Below.refl _ _) (fun _ => rfl)
    (fun pre W => ((W.cell? ⟨w.heap.size + 1, 0, none⟩ = some (.int .u8 (partN r (ids pre) : Nat)) ∧ W.frozen? ⟨w.heap.size + 1, 0, none⟩ = false) ∧ SixAt r w.heap.size W) ∧ Below w.heap.size w W)
    (fun _ _ _ => False)
    (OwnFrom.and (Own.from (fun s A B row hs hg hr => ⟨⟨cell_kept hs.1.1 hg hr, (frozen_kept hs.1.1 hg hr).trans hs.1.2⟩, six_kept hs.2 fun p x h => cell_kept h hg hr⟩) _) (ownFrom_below (Nat.le_refl _) (by simp; omega)))
    (fun _ _ _ _ _ hs _ _ => hs)
    ⟨⟨⟨(bS.alloc _).cell, (bS.alloc _).frozen⟩, hS2⟩, hB0⟩
    (fun x => { tmps := #[rulesV r, .int .u8 set, .pointer (some ⟨w.heap.size, 0, none⟩), undef, .int .u8 0, .pointer (some ⟨w.heap.size + 1, 0, none⟩), .int .i64 (x.1 : Int), .int .u8 set, .func (.func 78) #[] #[.pointer (some ⟨w.heap.size + 1 + 1, 0, none⟩)], .int .i64 (x.1 : Int), undef, undef, undef, undef, undef, undef], defers := [] }) ?assign ?body ?done ?stop
  case assign =>
    intro l x W K hK
    gi_wp2
    exact hK
  case body =>
    rintro l pre x W ⟨⟨⟨hc, hf⟩, hs⟩, hB⟩ hlen
    obtain ⟨hx8, hxt⟩ := x.2
    have hx6 : x.1 < 6 := by
      rcases Nat.lt_or_ge x.1 6 with h | h
      · exact h
      · rw [high_bit hset h] at hxt
        cases hxt
    have hcx := six_at hs x.1 hx6
    have hrx := hr x.1 hx6
    have hpl := partN_le r (ids pre)
    have hnx : partN r (ids (pre ++ [x])) = partN r (ids pre) &&& (r x.1).toNat := by rw [ids_snoc, partN_snoc]
    have hand : bits BinOp.and IntKind.u8 (partN r (ids pre) : Nat) (r x.1) = ((partN r (ids pre) &&& (r x.1).toNat : Nat) : Int) := by
      have h := and_nat (partN r (ids pre)) (r x.1).toNat (by omega) (by omega)
      rw [Int.toNat_of_nonneg hrx.1] at h
      exact h
    have HNX := Lib.hid hnx
    have HAND := Lib.hid hand
    have hmx : Tryd.prog.follows .mixedOrders = true := by kernel_rfl
    have wa : (0 : Int) ≤ (x.1 : Int) := by omega
    have wb : (x.1 : Int) < 6 := by omega
    clear hnx hpl
    gi_wp2
    gi_region_with_o (fail)
    all_goals gi_wp2
    all_goals (try go_bits)
    all_goals exact ⟨kf_store _ _ _ _, kb_store (Below.refl w.heap.size W) _ _ (Nat.le_succ _), ⟨⟨by rw [HNX.out, ← HAND.out]; exact World.cell?_setCell_same' _ _ _ (by rw [hc]; rfl), fz_store _ _ _ _ hf⟩, (World.cell?_setCell_far _ _ _ _ (by simp)).trans hs.1, (World.cell?_setCell_far _ _ _ _ (by simp)).trans hs.2.1, (World.cell?_setCell_far _ _ _ _ (by simp)).trans hs.2.2.1, (World.cell?_setCell_far _ _ _ _ (by simp)).trans hs.2.2.2.1, (World.cell?_setCell_far _ _ _ _ (by simp)).trans hs.2.2.2.2.1, (World.cell?_setCell_far _ _ _ _ (by simp)).trans hs.2.2.2.2.2⟩, kb_store hB _ _ (Nat.le_succ _)⟩
  case done =>
    rintro D ys W hD hys ⟨⟨⟨hc, _⟩, _⟩, hB⟩ hK
    gi_wp2
    refine ⟨by simp, .inl ⟨_, _, rfl, run_takeDeferred hK, ?_⟩⟩
    exact ⟨_, results_tmp rfl _ _ _, rfl, hB.trans (belowK_b (w := w) (Nat.le_refl _) W D _ _ (by simp at hD; omega) hK rfl rfl)⟩
  case stop =>
    rintro D c pre W _ _ h _
    exact h.elim
/-- a set of colours -/
abbrev Col := { s : Nat // 1 ≤ s ∧ s < 64 }
def cols (l : List Col) : List Nat := l.map (·.1)
theorem cols_snoc (l : List Col) (x : Col) : cols (l ++ [x]) = cols l ++ [x.1] := by simp [cols]
theorem cols_len (l : List Col) : (cols l).length = l.length := by simp [cols]
abbrev encS (x : Col) : Array Value := #[.int .u8 (x.1 : Int)]
theorem fullSets_any (r : Nat → Int) (w : World) :
    Calls Tryd.prog 50 #[rulesV r] w fun o w' => o = .returned (.func (.func 70) #[] #[.pointer (some ⟨w.heap.size, 0, none⟩)]) ∧ w' = w.alloc (.cells (rulesCs r) 28) := by
  have hmf : ∀ (fn : Fn) (first cap : Array Value) (w : World), (Instr.makeFunc fn first cap).run Tryd.prog w = .ok (.func fn first cap) w := fun _ _ _ _ => rfl
  go_enter Tryd.func50, Tryd.ntmps50
  go_wp2
  go_ret
  exact ⟨rfl, rfl⟩
set_option maxRecDepth 100000 in
set_option maxHeartbeats 4000000 in
theorem full1_in (r : Nat → Int) (hr : Six r) (n : Nat) (hn : 1 ≤ n) (l Bs lo n₀ : Nat) (h9 : lo ≤ Bs ∧ Bs < n₀) (J Jx : List Col → World → Prop)
    (hJb : ∀ pre A A', J pre A → Below A.heap.size A A' → J pre A')
    (hY : ∀ pre x X, J pre X → pre.length < 64 → YieldAt Fence.wide (n - 1) Tryd.prog l #[.int .u8 (x.1 : Int)] X fun e X' =>
      (e = .returned (.bool true) ∧ J (pre ++ [x]) X' ∧ KeepB lo n₀ X X') ∨ (e = .returned (.bool false) ∧ Jx (pre ++ [x]) X'))
    (W : World) (hS : SixAt r Bs W) (hz : Bs < W.heap.size) (h0 : J [] W) :
    CallsIn Fence.wide n Tryd.prog 70 #[.func (.yield l) #[] #[], .pointer (some ⟨Bs, 0, none⟩)] W fun e W' => (∃ v, e = .returned v) ∧
      ((∃ ys : List Col, cols ys = setsTo (fullP r) 64 ∧ J ys W') ∨ (∃ pre : List Col, cols pre <+: setsTo (fullP r) 64 ∧ Jx pre W')) := by
  refine callsIn_of_wp Tryd.func70 rfl trivial ?_ rfl
  simp only [Tryd.ntmps70, List.size_toArray, List.length_cons, List.length_nil, Nat.reduceAdd, Nat.reduceSub, Array.replicate_succ, Array.replicate_zero, List.push_toArray, List.append_toArray, List.nil_append, List.cons_append]
  gi_wp2
  gi_loopw [3] (fun v wr => ∃ (k : Nat) (pre : List Col), 1 ≤ k ∧ k ≤ 64 ∧ v = .int .u8 k ∧ cols pre = setsTo (fullP r) k ∧ SixAt r Bs wr ∧ Bs < wr.heap.size ∧ J pre wr) (fun v _ => 64 - (intOf v).toNat)
  case atStart => exact ⟨1, [], by omega, by omega, rfl, by rw [setsTo_one]; rfl, hS, hz, h0⟩
  case round =>
    clear hS hz h0
    obtain ⟨k, pre, hk1, hk, rfl, hp, hS, hz, hJ⟩ := hrel
    by_cases hlt : k < 64
    · have hlen : pre.length < 64 := by
        have h1 := setsTo_len (fullP r) k
        rw [← hp, cols_len] at h1
        omega
      obtain ⟨s0, s1, s2, s3, s4, s5⟩ := hS
      have hw8 : IntKind.u8.wrap ((k : Int) + 1) = (k : Int) + 1 := by rw [IntKind.wrap_u8]; omega
      have hd : decide ((k : Int) < 64) = true := decide_eq_true (by omega)
      have HP := Lib.hid hp
      have hnx := setsTo_succ (fullP r) k hk1
      have HNX := Lib.hid hnx
      clear hp hnx
      have HJ := Lib.hid hJ
      gi_wp2
      refine ⟨trivial, (callsIn_wide.2 (partners_any r hr k hlt _)).mono ?_⟩
      rintro e w2 ⟨rfl, hb2⟩
      have hJ2 := hJb pre _ _ HJ.out hb2
      have hS2 : SixAt r Bs w2 := SixAt.to ⟨s0, s1, s2, s3, s4, s5⟩ hb2 hz
      have hz2 : Bs < w2.heap.size := Nat.lt_of_lt_of_le hz hb2.size
      have HS2 := Lib.hid hS2
      clear hb2 s0 s1 s2 s3 s4 s5 hS2 HJ hJ
      by_cases hful : partN r (memb k) = k
      · have hpe : (((partN r (memb k) : Nat) : Int) == (k : Int)) = true := by rw [hful]; simp
        have hnx2 : setsTo (fullP r) (k + 1) = setsTo (fullP r) k ++ [k] := by rw [HNX.out, if_pos (by simp [fullP, hful])]
        have HNX2 := Lib.hid hnx2
        obtain ⟨fn, tmps, assign, body, hy, hR⟩ := hY pre ⟨k, hk1, hlt⟩ w2 hJ2 hlen
        dsimp only at hy
        clear hnx2 hJ2
        gi_wp2
        refine hR.mono ?_
        rintro e X3 (⟨rfl, hJ3, hb3⟩ | ⟨rfl, hJx3⟩)
        · have hS3 : SixAt r Bs X3 := by
            obtain ⟨t0, t1, t2, t3, t4, t5⟩ := HS2.out
            exact ⟨(hb3.cell h9.1 h9.2).trans t0, (hb3.cell h9.1 h9.2).trans t1, (hb3.cell h9.1 h9.2).trans t2, (hb3.cell h9.1 h9.2).trans t3, (hb3.cell h9.1 h9.2).trans t4, (hb3.cell h9.1 h9.2).trans t5⟩
          have hz3 : Bs < X3.heap.size := block_lt_of_cell hS3.1
          have HS3 := Lib.hid hS3
          clear hS3 hy hR
          gi_wp2
          go_roundw
          case rel => exact ⟨k + 1, pre ++ [⟨k, hk1, hlt⟩], by omega, by omega, by first | rfl | go_num, by rw [cols_snoc, HP.out, HNX2.out], HS3.out, hz3, hJ3⟩
          case measure => simp [intOf]; omega
        · clear hy hR
          gi_wp2
          refine bodyPost_ret (results_none rfl _ _ _) rfl ?_
          refine ⟨⟨_, rfl⟩, .inr ⟨pre ++ [⟨k, hk1, hlt⟩], ?_, hJx3⟩⟩
          rw [cols_snoc, HP.out, ← HNX2.out]
          exact setsTo_pre (fullP r) (by omega) (by omega)
      · have hpe : (((partN r (memb k) : Nat) : Int) == (k : Int)) = false := by rw [beq_eq_false_iff_ne]; omega
        have hnx2 : setsTo (fullP r) (k + 1) = setsTo (fullP r) k := by rw [HNX.out, if_neg (by simp [fullP, hful]), List.append_nil]
        have HNX2 := Lib.hid hnx2
        have hpe2 : (partN r (memb k) == k) = false := by simpa using hful
        have hpe3 : ¬ ((partN r (memb k) : Nat) : Int) = (k : Int) := by omega
        have hpe4 : decide (partN r (memb k) = k) = false := decide_eq_false hful
        clear hnx2
        gi_wp2
        refine ⟨fun f hf => (by cases hf), ?_⟩
        gi_wp2
        go_roundw
        case rel => exact ⟨k + 1, pre, by omega, by omega, by first | rfl | go_num, by rw [HP.out, HNX2.out], HS2.out, hz2, hJ2⟩
        case measure => simp [intOf]; omega
    · obtain rfl : k = 64 := by omega
      gi_wp2
      go_end0
      exact ⟨⟨_, rfl⟩, .inl ⟨pre, hp, hJ⟩⟩
/-- its value, behind its making -/
theorem full_seq (r : Nat → Int) (hr : Six r) (n : Nat) (hn : 1 ≤ n) (Bs lo n₀ : Nat) (h9 : lo ≤ Bs ∧ Bs < n₀) (w : World) (hS : SixAt r Bs w) (hz : Bs < w.heap.size) :
    SeqBox Fence.wide n Tryd.prog 70 #[.pointer (some ⟨Bs, 0, none⟩)] encS lo n₀ Bs (fun ys => cols ys = setsTo (fullP r) 64) (fun pre => cols pre <+: setsTo (fullP r) 64) 64 w := fun l J Jx W hW hJ hY h0 => by
  obtain ⟨h3a, h3b⟩ := h9
  exact full1_in r hr n hn l Bs lo n₀ ⟨h3a, h3b⟩ J Jx (fun pre A A' hA hb => hJ.1 pre A A' none hA ⟨hb.os, hb.tape, hb.output, hb.size, fun k hk _ => hb.block k hk⟩ (fun r e => by cases e)) hY W (hS.to hW hz) (Nat.lt_of_lt_of_le hz hW.size) h0
/-- what ColourSets keeps: its list in a box at b, the rules' copy at b + 1, the list's row behind -/
structure RC (b : Nat) (L : List Nat) (W : World) : Prop where
  l : ∃ v, Boxed W b 37 v ∧ W.ownsRow (b + 2) 5 1 v L.length (L.flatMap bytS.C)
  n : b + 2 ≤ W.heap.size
theorem RC.grown {b : Nat} {L : List Nat} {W W' : World} {row : Option Nat} (h : RC b L W) (hg : W.grownBy W' row) (hr : ∀ r, row = some r → ∃ o : Obj, W.heap[r]? = some o ∧ o.isCells = false) : RC b L W' := by
  obtain ⟨⟨v, h3, h4⟩, h6⟩ := h
  exact ⟨⟨v, boxed_not h3 hg hr, owns_not h4 hg hr⟩, Nat.le_trans h6 hg.size⟩
theorem RC.store {b : Nat} {L : List Nat} {W : World} (h : RC b L W) (u : Value) : RC b L (W.setCell ⟨b + 1, 0, none⟩ u) := by
  obtain ⟨⟨v, h3, h4⟩, h6⟩ := h
  have hg := grownBy_setCell' W (b + 1) u
  exact ⟨⟨v, h3.kept hg (by simp <;> omega), h4.kept hg (.inr fun e => by have := owns_ge h4 _ e; omega)⟩, Nat.le_trans h6 hg.size⟩
theorem RC.append {b : Nat} {L L' : List Nat} {W w1 : World} {tmp : Obj} {v v' : Value} (h : RC b L W) (hv : Boxed W b 37 v) (hrow : W.ownsRow (b + 2) 5 1 v L.length (L.flatMap bytS.C))
    (hown : w1.ownsRow (b + 2) 5 1 v' L'.length (L'.flatMap bytS.C)) (hgr : (W.alloc tmp).grownBy w1 v.ownBlock) :
    Boxed w1 b 37 v ∧ RC b L' (w1.setCell ⟨b, 0, none⟩ v') ∧ KeepsOthers W (w1.setCell ⟨b, 0, none⟩ v') ∧ Below b W (w1.setCell ⟨b, 0, none⟩ v') ∧ KeepB (b + 1) (b + 2) W (w1.setCell ⟨b, 0, none⟩ v') := by
  have h6 := h.n
  have hge := owns_ge hrow
  have hne : ∀ j, j < b + 2 → some j ≠ v.ownBlock := fun j hj e => by have := hge j e.symm; omega
  have hv1 : Boxed w1 b 37 v := (hv.alloc tmp).kept hgr (hne _ (by omega))
  have hg2 := grownBy_setCell' w1 b v'
  have hn1 : b + 2 ≤ w1.heap.size := by have := hgr.size; simp at this; omega
  refine ⟨hv1, ⟨⟨v', hv1.set v', hown.kept hg2 (.inr fun e => by have := owns_ge hown _ e; omega)⟩, Nat.le_trans hn1 hg2.size⟩, ?_, ?_, ?_⟩
  · refine ((KeepsOthers.alloc W tmp).trans (KeepsOthers.of_grownBy hgr fun j o ej hj => ?_)).trans (KeepsOthers.setCell _ _ _)
    rcases hrow.2 with ⟨rfl, _⟩ | ⟨g, cap, cur, rfl, _, hgb, _⟩
    · simp [Value.ownBlock] at ej
    · obtain rfl : g = j := by simpa [Value.ownBlock] using ej
      rw [Below.heap_alloc _ _ _ (Array.getElem?_eq_some_iff.1 hgb).1, hgb] at hj
      cases hj
      rfl
  · exact (((Below.refl b W).alloc (by omega) tmp).grown hgr (by simp; omega) fun j ej => by have := hge j ej; omega).setCell (p := ⟨b, 0, none⟩) (Nat.le_refl _) v'
  · intro j h1 h2
    refine (Below.heap_setCell w1 ⟨b, 0, none⟩ v' j (by show j ≠ b; omega)).trans ((hgr.block j (by simp; omega) (hne j h2)).trans (Below.heap_alloc _ _ _ (by omega)))
theorem one_newD (w : World) (u : Value) (T : TypeId) : ∀ (j : Nat) x, [u][j]? = some x → (w.alloc (.cells #[u] T)).cell? ((⟨w.heap.size, 0, none⟩ : Addr).add j) = some x := by
  intro j x hj
  rw [add_lit, cell_of_row _ _ _ _ _ _ (heap_alloc_new w _)]
  simpa using hj
theorem one_cellD {u : Value} (hu : u.oneCell' = true) : ∀ x ∈ [u], x.oneCell' = true := by
  intro x hx
  rw [List.mem_singleton.1 hx]
  exact hu
/-- between two sets -/
def ICc (w : World) (b : Nat) (pre : List Col) (W : World) : Prop := RC b (cols pre) W ∧ Below w.heap.size w W
theorem post_nextC {B lo hi b : Nat} {w W Y : World} {Ix : Code → List Col → World → Prop} {pre : List Col} {a : Act} (h1 : KeepsFrom B W Y) (h2 : KeepB lo hi W Y) (h3 : RC b (cols pre) Y) (h4 : Below w.heap.size w Y) :
    ownPostG B (KeepB lo hi) (ICc w b) Ix pre W .normal a Y := And.intro h1 (And.intro h2 ⟨h3, h4⟩)
set_option maxRecDepth 100000 in
set_option maxHeartbeats 8000000 in
theorem ColourSets_any (r : Nat → Int) (hr : Six r) (ys : List Nat) (code : Nat) (hres : colR r = (ys, code)) {w : World} {B : Nat} {e : Nat → Addr} (h : Errs w B e) (hB : B ≤ w.heap.size) :
    Calls Tryd.prog 19 #[rulesV r] w fun o w' => ∃ v, o = .returned (.tuple #[v, .int .i64 code]) ∧ w'.ownsRow w.heap.size 5 1 v ys.length (ys.flatMap bytS.C) ∧ Below w.heap.size w w' := by
  obtain ⟨i0, hi, hz0, hz1, hz2⟩ := info_parts bytS.info
  have L0 : Hid (LSc r w (w.alloc (.cells (rulesCs r) 28))) := Lib.hid ⟨SixAt.new r w 28, by simp, (Below.refl w.heap.size w).alloc (Nat.le_refl _) _⟩
  obtain ⟨⟨s0, s1, s2, s3, s4, s5⟩, _, _⟩ := L0.out
  cases hv : validRB r with
  | false =>
    obtain ⟨rfl, rfl⟩ : [] = ys ∧ 1 = code := by simpa [colR, hv] using hres
    have HK := Lib.hid (checkRules_any r hr (h.below (L0.out.2.2.mono hB)) (Nat.le_trans hB L0.out.2.2.size) 1 (by rw [hv]; rfl))
    have HE := Lib.hid (fun (u : World) (hu : Below w.heap.size w u) => h.below (hu.mono hB))
    clear hv hres
    go_enter Tryd.func19, Tryd.ntmps19
    go_wp2_with fail
    refine HK.out.mono ?_
    rintro o w1 ⟨rfl, hb1⟩
    have HB1 := Lib.hid (L0.out.2.2.trans (hb1.mono L0.out.2.2.size))
    have e0 : errOf e 1 = errV (e 0) := rfl
    rw [e0]
    clear hb1 e0 s0 s1 s2 s3 s4 s5 HK
    go_wp2_with fail
    refine (codeOf_any (HE.out _ HB1.out) 1 (by decide)).mono ?_
    rintro o u ⟨rfl, rfl⟩
    go_wp2_with fail
    go_ret2
    exact ⟨_, rfl, World.ownsRow_nil _ _ _ _, HB1.out⟩
  | true =>
    have HYS : Hid (setsTo (fullP r) 64 = ys) := Lib.hid (by
      obtain ⟨h1, _⟩ : setsTo (fullB r) 64 = ys ∧ 0 = code := by simpa [colR, hv] using hres
      rw [sets_same hr hv, h1])
    obtain ⟨_, rfl⟩ : setsTo (fullB r) 64 = ys ∧ 0 = code := by simpa [colR, hv] using hres
    have HK := Lib.hid (checkRules_any r hr (h.below (L0.out.2.2.mono hB)) (Nat.le_trans hB L0.out.2.2.size) 0 (by rw [hv]; rfl))
    clear hv hres h
    refine (callsIn_wide (n := 3)).1 ?_
    refine callsIn_of_wp_marks Tryd.func19 rfl trivial ?_ rfl
    simp only [Tryd.ntmps19, List.size_toArray, List.length_cons, List.length_nil, Nat.reduceAdd, Nat.reduceSub, Array.replicate_succ, Array.replicate_zero, List.push_toArray, List.append_toArray, List.nil_append, List.cons_append]
    gi_wp2
    refine ⟨trivial, (callsIn_wide.2 HK.out).mono ?_⟩
    rintro o w1 ⟨rfl, hb1⟩
    have L1 : Hid (LSc r w w1) := Lib.hid ⟨L0.out.1.to hb1 (by simp), Nat.lt_of_lt_of_le L0.out.2.1 hb1.size, L0.out.2.2.trans (hb1.mono L0.out.2.2.size)⟩
    have e0 : errOf e 0 = .nilIface := rfl
    rw [e0]
    clear hb1 e0 s0 s1 s2 s3 s4 s5 HK L0
    obtain ⟨w2, hw2⟩ : ∃ u, u = w1.alloc (.cells #[.slice none 0 0] 37) := ⟨_, rfl⟩
    have hb2 : Below w1.heap.size w1 w2 := by rw [hw2]; exact (Below.refl _ _).alloc (Nat.le_refl _) _
    have hz2' : w2.heap.size = w1.heap.size + 1 := by rw [hw2]; simp
    obtain ⟨s0, s1, s2, s3, s4, s5⟩ := L1.out.1.to hb2 L1.out.2.1
    have HW2 := Lib.hid hw2
    have hbx : Boxed w2 w1.heap.size 37 (.slice none 0 0) := by rw [hw2]; exact Boxed.new w1 _ _
    clear hw2
    gi_wp2_with (first | (rw [← HW2.out]) | (refine ⟨trivial, ?_⟩; gi_at_call 50; refine (callsIn_wide.2 (fullSets_any r _)).mono ?_; rintro e w3 ⟨rfl, rfl⟩))
    obtain ⟨W0, hW0⟩ : ∃ u, u = w2.alloc (.cells (rulesCs r) 28) := ⟨_, rfl⟩
    have hS0 : SixAt r (w1.heap.size + 1) W0 := by
      have := SixAt.new r w2 28
      rw [hz2', ← hW0] at this
      exact this
    have hbx0 : Boxed W0 w1.heap.size 37 (.slice none 0 0) := by rw [hW0]; exact hbx.alloc _
    have hsz : W0.heap.size = w1.heap.size + 2 := by rw [hW0]; simp [hz2']
    have hB0 : Below w1.heap.size w1 W0 := by rw [hW0]; exact hb2.alloc hb2.size _
    have hrc : RC w1.heap.size (cols []) W0 := ⟨⟨_, hbx0, World.ownsRow_nil _ _ _ _⟩, by omega⟩
    rw [← hW0]
    clear hW0 hbx hb2 hz2' hbx0 s0 s1 s2 s3 s4 s5
    refine range_box (Bs := w1.heap.size + 1) (by omega) (Nat.le_of_eq hsz.symm) rfl (by decide) (gf := 70) (lb := #[.pointer (some ⟨w1.heap.size + 1, 0, none⟩)]) rfl trivial (enters_of Tryd.func70 (by kernel_rfl) rfl)
      (full_seq r hr (3 - 1) (by decide) (w1.heap.size + 1) (w1.heap.size + 1) (w1.heap.size + 2) ⟨by omega, by omega⟩ W0 hS0 (by omega)) (fun _ => rfl)
      (ICc w1 w1.heap.size) (fun _ _ _ => False)
      (OwnFrom.and (fun s A B row hs hg hr => hs.grown hg fun r e => (hr r e).2) (ownFrom_below (Nat.le_refl _) (by omega)))
      (fun _ _ _ _ _ hs _ _ => hs)
      (fun pre A t hs => ⟨hs.1.store _, hs.2.setCell (p := ⟨w1.heap.size + 1, 0, none⟩) (by show w1.heap.size ≤ w1.heap.size + 1; omega) _⟩)
      ⟨hrc, hB0⟩
      (fun x => { tmps := #[rulesV r, .pointer (some ⟨w.heap.size, 0, none⟩), .slice none 0 0, .int .i64 0, .nilIface, .pointer (some ⟨w1.heap.size, 0, none⟩), .int .u8 (x.1 : Int), rulesV r, .nilIface, .nilIface, .bool false, undef, undef, rulesV r, .func (.func 70) #[] #[.pointer (some ⟨w1.heap.size + 1, 0, none⟩)], .int .u8 (x.1 : Int), undef, undef, undef, undef, undef], defers := [] }) ?assign ?body ?done ?stop
    case assign =>
      intro l x W K hK
      gi_wp2
      exact hK
    case body =>
      rintro l pre x W ⟨hrc, hbw⟩ hlen
      have hn := hrc.n
      obtain ⟨v, hv, hrow⟩ := hrc.l
      obtain ⟨Av, cv, rfl, _⟩ := owns_slice hrow
      have hvc := hv.cell
      have hvf := hv.frozen
      have HRC := Lib.hid hrc
      have HV := Lib.hid hv
      have HROW := Lib.hid hrow
      have HBW := Lib.hid hbw
      have hcl : (cols pre).length < 64 := by rw [cols_len]; exact hlen
      clear hrc hv hrow hbw
      gi_wp2_with (gi_at_builtin; (refine wpListIn_append_own _ rfl (.tmp 16) (.tmp 18) 37 rfl (w1.heap.size + 2) 5 i0 (.int .u8 0) 1 1 Tryd.underlying37 hi hz0 hz1 hz2 rfl (by decide) _ _ _ rfl (HROW.out.alloc _) ⟨W.heap.size, 0, none⟩ 1 1 [.int .u8 (x.1 : Int)] rfl rfl (one_newD _ _ _) (one_cellD rfl) (by unfold maxLen; omega) (by omega) (by simp; omega) ?_); (intro v' w5 hown' hgr _; obtain ⟨g', cap', rfl⟩ := ownsRow_succ hown'; obtain ⟨hb5, hrc5, hk5, hl5, hj5⟩ := HRC.out.append (L' := cols (pre ++ [x])) HV.out HROW.out (by rw [cols_snoc, List.flatMap_append, List.length_append]; exact hown') hgr; have hc5 := hb5.cell; have hf5 := hb5.frozen; have RC5 := Lib.hid hrc5; have KF5 := Lib.hid hk5; have BL5 := Lib.hid hl5; have KB5 := Lib.hid hj5; clear hown' hgr hb5 hrc5 hk5 hl5 hj5))
      exact post_nextC (KF5.out.from _) KB5.out RC5.out (HBW.out.trans BL5.out)
    case done =>
      rintro Dd xs W hDd hxs ⟨hrc, hbw⟩ hK
      obtain ⟨v, hv, hrow⟩ := hrc.l
      rw [hxs, HYS.out] at hrow
      obtain ⟨Av, cv, rfl, _⟩ := owns_slice hrow
      have hvc := hv.cell
      have hvf := hv.frozen
      gi_wp2
      refine ⟨by simp, .inl ⟨_, _, rfl, run_takeDeferred hK, ?_⟩⟩
      refine ⟨.tuple #[.slice Av ys.length cv, .int .i64 0], ?_, ⟨_, rfl, owns_low (owns_not hrow (grownBy_putObj' _ Dd (.deferred none)) (fun r e => by cases e; exact ⟨_, hK, rfl⟩)) (by have := L1.out.2.1; omega), (L1.out.2.2.trans (hbw.mono L1.out.2.2.size)).trans (belowK_b (w := w) (Nat.le_refl _) W Dd _ _ (by have := L1.out.2.1; omega) hK rfl rfl)⟩⟩
      simp [results, Tryd.f19, go_sem]
    case stop =>
      rintro D c pre W _ _ h _
      exact h.elim
end Go.Proofs.YtdafnibmoggcnaaDoor.col

/-
  Contracts of the program's small functions for loads, and of the model's IsLoad.
-/
namespace Go.Proofs.YtdafnibmoggcnaaDoor.load
open Go.RowKit errs garS heats meet

theorem checkHold_any (hold : Int) {w : World} {B : Nat} {e : Nat → Addr} (h : Errs w B e) :
    Calls Tryd.prog 36 #[.int .i64 hold] w fun o w' => o = .returned (errOf e (if 1 ≤ hold ∧ hold ≤ 20000 then 0 else 2)) ∧ w = w' := by
  go_enter Tryd.func36, Tryd.ntmps36
  go_wp2_with fail
  refine (checkWithin_any hold 1 20000 h).mono ?_
  rintro o w1 ⟨rfl, rfl⟩
  go_wp2_with fail
  all_goals go_ret
  all_goals exact ⟨rfl, rfl⟩
theorem pow_all (n : Nat) (hn : n ≤ 8) : IntKind.u8.wrap (IntKind.u8.wrap (2 ^ n : Int) - 1) = ((2 ^ n - 1 : Nat) : Int) := by
  match n, hn with
  | 0, _ => decide
  | 1, _ => decide
  | 2, _ => decide
  | 3, _ => decide
  | 4, _ => decide
  | 5, _ => decide
  | 6, _ => decide
  | 7, _ => decide
  | 8, _ => decide
theorem all_any (A : Option Addr) (n c : Nat) (hn : n ≤ 8) (m : Nat → Int) (hold : Int) (w : World) :
    Calls Tryd.prog 41 #[mem.bV A n c m hold] w fun o w' => o = .returned (.int .u8 ((2 ^ n - 1 : Nat) : Int)) ∧ Below w.heap.size w w' := by
  match n, hn with
  | 0, _ =>
    go_enter Tryd.func41, Tryd.ntmps41
    go_wp2_with fail
    go_ret
    exact ⟨rfl, (Below.refl _ _).alloc (Nat.le_refl _) _⟩

  | 1, _ =>
    go_enter Tryd.func41, Tryd.ntmps41
    go_wp2_with fail
    go_ret
    exact ⟨rfl, (Below.refl _ _).alloc (Nat.le_refl _) _⟩

  | 2, _ =>
    go_enter Tryd.func41, Tryd.ntmps41
    go_wp2_with fail
    go_ret
    exact ⟨rfl, (Below.refl _ _).alloc (Nat.le_refl _) _⟩

  | 3, _ =>
    go_enter Tryd.func41, Tryd.ntmps41
    go_wp2_with fail
    go_ret
    exact ⟨rfl, (Below.refl _ _).alloc (Nat.le_refl _) _⟩

  | 4, _ =>
    go_enter Tryd.func41, Tryd.ntmps41
    go_wp2_with fail
    go_ret
    exact ⟨rfl, (Below.refl _ _).alloc (Nat.le_refl _) _⟩

  | 5, _ =>
    go_enter Tryd.func41, Tryd.ntmps41
    go_wp2_with fail
    go_ret
    exact ⟨rfl, (Below.refl _ _).alloc (Nat.le_refl _) _⟩

  | 6, _ =>
    go_enter Tryd.func41, Tryd.ntmps41
    go_wp2_with fail
    go_ret
    exact ⟨rfl, (Below.refl _ _).alloc (Nat.le_refl _) _⟩

  | 7, _ =>
    go_enter Tryd.func41, Tryd.ntmps41
    go_wp2_with fail
    go_ret
    exact ⟨rfl, (Below.refl _ _).alloc (Nat.le_refl _) _⟩

  | 8, _ =>
    go_enter Tryd.func41, Tryd.ntmps41
    go_wp2_with fail
    go_ret
    exact ⟨rfl, (Below.refl _ _).alloc (Nat.le_refl _) _⟩

theorem ask_valid {r : Nat → Int} {gs : List Gar} {fine : Bool} (h : 0 = codeAsk r gs fine) : ∀ x ∈ gs, x.valid = true := by
  unfold codeAsk at h
  split at h
  · unfold codeAll at h
    split at h
    · rename_i h2
      exact List.all_eq_true.1 h2
    · omega
  · omega
theorem ask_colour {r : Nat → Int} {gs : List Gar} {fine : Bool} (h : 0 = codeAsk r gs fine) : ∀ x ∈ gs, x.c < 6 := fun x hx => (valid_parts (ask_valid h x hx)).1
/-- the rules in their box -/
abbrev LS (r : Nat → Int) (w u : World) : Prop := SixAt r w.heap.size u ∧ w.heap.size < u.heap.size ∧ Below w.heap.size w u
theorem LS.next {r : Nat → Int} {w u v : World} (h : LS r w u) (hb : Below u.heap.size u v) : LS r w v := ⟨h.1.to hb h.2.1, Nat.lt_of_lt_of_le h.2.1 hb.size, h.2.2.trans (hb.mono h.2.2.size)⟩
end Go.Proofs.YtdafnibmoggcnaaDoor.load

/-
  Sets of colours: the model's.
-/
namespace Go.Proofs.YtdafnibmoggcnaaDoor.col
open Go Go.RowKit sl errs garS heats meet load mem

theorem six_atS {r : Nat → Int} {b : Nat} {u : World} (h : SixAt r b u) : ∀ k, k < 6 → u.cell? ⟨b, k, none⟩ = some (.int .u8 (r k))
  | 0, _ => h.1
  | 1, _ => h.2.1
  | 2, _ => h.2.2.1
  | 3, _ => h.2.2.2.1
  | 4, _ => h.2.2.2.2.1
  | 5, _ => h.2.2.2.2.2
/-- those colours of a set below k that may be washed with all of it -/
def fineTo (r : Nat → Int) (set k : Nat) : Prop := ∀ a, a < k → set.testBit a = true → set &&& (255 - (r a).toNat) = 0
set_option maxRecDepth 100000 in
set_option maxHeartbeats 4000000 in
theorem l01Fine_any (r : Nat → Int) (hr : Six r) (set : Nat) (hset : set < 64) (b : Bool) (hb : fineB r set = b) (w : World) :
    Calls Tryd.prog 48 #[rulesV r, .int .u8 set] w fun o w' => o = .returned (.bool b) ∧ Below w.heap.size w w' := by
  have S0 : Hid (LS r w (w.alloc (.cells (rulesCs r) 28))) := Lib.hid ⟨SixAt.new r w 28, by simp, (Below.refl w.heap.size w).alloc (Nat.le_refl _) _⟩
  have HB := Lib.hid hb
  have hx : (0 : Int) ≤ (set : Int) ∧ (set : Int) ≤ 255 := by omega
  clear hb
  go_enter Tryd.func48, Tryd.ntmps48
  go_wp2_with fail
  go_loopw [5] (fun vi wr => ∃ k : Nat, k ≤ 6 ∧ vi = .int .i64 k ∧ fineTo r set k ∧ LS r w wr) (fun vi _ => 6 - (intOf vi).toNat)
  case atStart => exact ⟨0, by omega, rfl, fun a ha => absurd ha (by omega), S0.out⟩
  case round =>
    clear S0
    obtain ⟨k, hk, rfl, hq, hS⟩ := hrel
    have HQ := Lib.hid hq
    have HS := Lib.hid hS
    clear hq
    by_cases hlt : k < 6
    · have hc := six_atS hS.1 k hlt
      have hrk := hr k hlt
      have wa : (0 : Int) ≤ (k : Int) := by omega
      have wb : (k : Int) < 6 := by omega
      have hand : bits BinOp.andNot IntKind.u8 (set : Int) (r k) = ((set &&& (255 - (r k).toNat) : Nat) : Int) := by
        have e := u8_andNot (set : Int) (r k) (by omega) (by omega) hrk.1 (by omega)
        simpa using e
      obtain ⟨z, hz⟩ : ∃ z, z = set &&& (255 - (r k).toNat) := ⟨_, rfl⟩
      rw [← hz] at hand
      have HZ := Lib.hid hz
      clear hS hz hrk
      cases hbt : set.testBit k with
      | false =>
        have HL := Lib.hid (fun (u : World) => l01Bit_v (set : Int) (k : Int) hx (by omega) false (by show (set : Int).toNat.testBit ((k : Int).toNat) = false; rw [Int.toNat_natCast, Int.toNat_natCast]; exact hbt) u)
        have hnx : fineTo r set (k + 1) := fun a ha hs => by
          rcases Nat.lt_or_ge a k with h1 | h1
          · exact HQ.out a h1 hs
          · obtain rfl : a = k := by omega
            rw [hbt] at hs
            cases hs
        have HNX := Lib.hid hnx
        clear hbt hnx
        go_wp2_with (first | (go_at_call 49; refine (HL.out _).mono ?_; rintro o u ⟨rfl, rfl⟩) | fail)
        go_roundw
        case rel => exact ⟨k + 1, by omega, by go_num, HNX.out, HS.out⟩
        case measure => simp [intOf]; omega
      | true =>
        have HL := Lib.hid (fun (u : World) => l01Bit_v (set : Int) (k : Int) hx (by omega) true (by show (set : Int).toNat.testBit ((k : Int).toNat) = true; rw [Int.toNat_natCast, Int.toNat_natCast]; exact hbt) u)
        by_cases hz0 : z = 0
        · have hnx : fineTo r set (k + 1) := fun a ha hs => by
            rcases Nat.lt_or_ge a k with h1 | h1
            · exact HQ.out a h1 hs
            · obtain rfl : a = k := by omega
              rw [← HZ.out]
              exact hz0
          have HNX := Lib.hid hnx
          clear hbt hnx
          subst hz0
          go_wp2_with (first | (go_at_call 49; refine (HL.out _).mono ?_; rintro o u ⟨rfl, rfl⟩) | fail)
          go_roundw
          case rel => exact ⟨k + 1, by omega, by go_num, HNX.out, HS.out⟩
          case measure => simp [intOf]; omega
        · have hbf : b = false := by
            rw [← HB.out]
            apply Bool.eq_false_iff.2
            intro h
            rw [fineB, List.all_eq_true] at h
            have h1 := h k (List.mem_range.2 hlt)
            rw [hbt, ← HZ.out] at h1
            simp only [Bool.not_true, Bool.false_or, beq_iff_eq] at h1
            exact hz0 h1
          subst hbf
          have hne : ((z : Int) != 0) = true := by rw [bne_iff_ne]; omega
          have hne2 : ¬ (z : Int) = 0 := by omega
          clear hbt
          go_wp2_with (first | (go_at_call 49; refine (HL.out _).mono ?_; rintro o u ⟨rfl, rfl⟩) | fail)
          go_ret
          exact ⟨rfl, HS.out.2.2⟩
    · obtain rfl : k = 6 := by omega
      have hbt : b = true := by
        rw [← HB.out, fineB, List.all_eq_true]
        intro a ha
        have ha := List.mem_range.1 ha
        cases hs : set.testBit a with
        | false => rfl
        | true => simp [HQ.out a ha hs]
      subst hbt
      clear hS
      go_wp2_with fail
      go_ret
      exact ⟨rfl, HS.out.2.2⟩
/-- a list of the call's own, and a number -/
def OwnC (w : World) (ys : List Nat) (z : Int) (o : Ending) (w' : World) : Prop :=
  ∃ v, o = .returned (.tuple #[v, .int .i64 z]) ∧ w'.ownsRow w.heap.size 5 1 v ys.length (ys.flatMap bytS.C) ∧ Below w.heap.size w w'
theorem one_newC (w : World) (u : Value) (T : TypeId) : ∀ (j : Nat) x, [u][j]? = some x → (w.alloc (.cells #[u] T)).cell? ((⟨w.heap.size, 0, none⟩ : Addr).add j) = some x := by
  intro j x hj
  rw [add_lit, cell_of_row _ _ _ _ _ _ (heap_alloc_new w _)]
  simpa using hj
theorem one_cellC {u : Value} (hu : u.oneCell' = true) : ∀ x ∈ [u], x.oneCell' = true := by
  intro x hx
  rw [List.mem_singleton.1 hx]
  exact hu
theorem LS_grow {r : Nat → Int} {w u v : World} {row : Option Nat} (h : LS r w u) (hg : u.grownBy v row) (hr : ∀ k, row = some k → w.heap.size + 1 ≤ k) : LS r w v := by
  have hz := h.2.1
  have hb : Below (w.heap.size + 1) u v := (Below.refl _ _).grown hg (by omega) hr
  exact ⟨h.1.to hb (Nat.lt_succ_self _), Nat.lt_of_lt_of_le hz hb.size, h.2.2.trans (hb.mono (Nat.le_succ _))⟩
set_option maxRecDepth 100000 in
set_option maxHeartbeats 16000000 in
theorem ColourSets_spec (r : Nat → Int) (hr : Six r) (ys : List Nat) (code : Nat) (hres : colR r = (ys, code)) (w : World) :
    Calls Tryd.prog 18 #[rulesV r] w (OwnC w ys code) := by
  obtain ⟨i0, hi, hz0, hz1, hz2⟩ := info_parts bytS.info
  have S0 : Hid (LS r w (w.alloc (.cells (rulesCs r) 28))) := Lib.hid ⟨SixAt.new r w 28, by simp, (Below.refl w.heap.size w).alloc (Nat.le_refl _) _⟩
  obtain ⟨w1, hw1⟩ : ∃ u, u = (w.alloc (.cells (rulesCs r) 28)).alloc (.cells #[] 5) := ⟨_, rfl⟩
  have S1 : Hid (LS r w w1) := Lib.hid (by rw [hw1]; exact S0.out.next ((Below.refl _ _).alloc (Nat.le_refl _) _))
  have P1 : Hid (w1.ownsRow (w.heap.size + 1) 5 1 (.slice (some ⟨w.heap.size + 1, 0, none⟩) 0 0) ([] : List Nat).length (([] : List Nat).flatMap bytS.C)) := Lib.hid (by
    rw [hw1]
    have h := World.ownsRow_made (base := w.heap.size + 1) (e := 5) (size := 1) (w.alloc (.cells (rulesCs r) 28)) #[] 0 (by simp) (Nat.zero_le _) rfl
    rw [World.size_alloc] at h
    exact h)
  have HW1 := Lib.hid hw1
  obtain ⟨⟨s0, s1, s2, s3, s4, s5⟩, _, _⟩ := S1.out
  clear hw1 S0
  cases hv : validRB r with
  | false =>
    obtain ⟨rfl, rfl⟩ : [] = ys ∧ 1 = code := by simpa [colR, hv] using hres
    have HV := Lib.hid hv
    clear hv hres
    go_enter Tryd.func18, Tryd.ntmps18
    go_wp2_with (first | (rw [← HW1.out]) | (go_at_call 47; refine (l01Rules_v r hr _ false HV.out).mono ?_; rintro o w2 ⟨rfl, hb2⟩; have S2 := Lib.hid (S1.out.next hb2); have P2 := Lib.hid (owns_next P1.out hb2); clear hb2 s0 s1 s2 s3 s4 s5) | fail)
    go_ret2
    exact ⟨_, rfl, owns_below P2.out (Nat.le_succ _), S2.out.2.2⟩
  | true =>
    obtain ⟨rfl, rfl⟩ : setsTo (fullB r) 64 = ys ∧ 0 = code := by simpa [colR, hv] using hres
    obtain ⟨hr64, _, _⟩ := rules_ok hr hv
    have HV := Lib.hid hv
    clear hv hres
    go_enter Tryd.func18, Tryd.ntmps18
    go_wp2_with (first | (rw [← HW1.out]) | (go_at_call 47; refine (l01Rules_v r hr _ true HV.out).mono ?_; rintro o w2 ⟨rfl, hb2⟩; have S2 := Lib.hid (S1.out.next hb2); have P2 := Lib.hid (owns_next P1.out hb2); clear hb2 s0 s1 s2 s3 s4 s5) | fail)
    go_loopw [4, 5, 6, 7] (fun vo vk _ _ wr => ∃ k : Nat, 1 ≤ k ∧ k ≤ 64 ∧ vk = .int .u8 k ∧ wr.ownsRow (w.heap.size + 1) 5 1 vo (setsTo (fullB r) k).length ((setsTo (fullB r) k).flatMap bytS.C) ∧ LS r w wr) (fun _ vk _ _ _ => 64 - (intOf vk).toNat)
    case atStart => exact ⟨1, by omega, by omega, rfl, by rw [setsTo_one]; exact P2.out, S2.out⟩
    case round =>
      clear P2 S2 S1 P1 HW1 HV
      obtain ⟨k, hk1, hk, rfl, hP, hS⟩ := hrel
      obtain ⟨Ao, co, rfl, _⟩ := owns_slice hP
      have HP := Lib.hid hP
      have SR := Lib.hid hS
      clear hP
      by_cases hlt : k < 64
      · obtain ⟨s0, s1, s2, s3, s4, s5⟩ := hS.1
        have hd : decide ((k : Int) < 64) = true := decide_eq_true (by omega)
        have hw8 : IntKind.u8.wrap ((k : Int) + 1) = (k : Int) + 1 := by rw [IntKind.wrap_u8]; omega
        have hsl := setsTo_len (fullB r) k
        have HSL := Lib.hid hsl
        have HNX := Lib.hid (setsTo_succ (fullB r) k hk1)
        obtain ⟨g0, hg0⟩ : ∃ g, fineB r k = g := ⟨_, rfl⟩
        have HF := Lib.hid (fun (u : World) => l01Fine_any r hr k hlt g0 hg0 u)
        have HG0 := Lib.hid hg0
        clear hS hsl hg0
        go_wp2_with (first | (go_at_call 48; refine (HF.out _).mono ?_; rintro o w3 ⟨rfl, hb3⟩; have S3 := Lib.hid (SR.out.next hb3); have P3 := Lib.hid (owns_next HP.out hb3); clear hb3 s0 s1 s2 s3 s4 s5) | fail)
        go_loopw [6, 7] (fun vg va wz => ∃ (a : Nat) (g : Bool), a ≤ 6 ∧ va = .int .i64 a ∧ vg = .bool g ∧ gB r k a = g ∧ wz.ownsRow (w.heap.size + 1) 5 1 (.slice Ao (setsTo (fullB r) k).length co) (setsTo (fullB r) k).length ((setsTo (fullB r) k).flatMap bytS.C) ∧ LS r w wz) (fun _ va _ => 6 - (intOf va).toNat)
        case atStart => exact ⟨0, g0, by omega, rfl, rfl, by rw [gB_zero]; exact HG0.out, P3.out, S3.out⟩
        case round =>
          clear P3 S3 HF HG0 SR HP
          obtain ⟨a, g, ha, rfl, rfl, hg, hP, hS⟩ := hrel
          obtain ⟨wo, rfl⟩ : ∃ wo, wo = wr := ⟨wr, rfl⟩
          have HG := Lib.hid hg
          have HP := Lib.hid hP
          have SR := Lib.hid hS
          clear hg hP
          by_cases hla : a < 6
          · cases g with
            | false =>
              have hfull : fullB r k = false := by rw [← gB_six]; exact gB_no HG.out 6 (by omega)
              have hnx : setsTo (fullB r) (k + 1) = setsTo (fullB r) k := by rw [HNX.out, hfull]; simp
              have HNX2 := Lib.hid hnx
              clear hfull hnx hS
              go_wp2_with fail
              go_roundw
              case rel => exact ⟨k + 1, by omega, by omega, by first | rfl | go_num, by rw [HNX2.out]; exact HP.out, SR.out⟩
              case measure => simp [intOf]; omega
            | true =>
              obtain ⟨s0, s1, s2, s3, s4, s5⟩ := hS.1
              have wa : (0 : Int) ≤ (a : Int) := by omega
              have hx : (0 : Int) ≤ (k : Int) ∧ (k : Int) ≤ 255 := by omega
              have hgs := gB_succ r k a
              rw [HG.out, Bool.true_and] at hgs
              have HGS := Lib.hid hgs
              have hor : bits BinOp.or IntKind.u8 (k : Int) (2 ^ a % 256) = ((k ||| 2 ^ a : Nat) : Int) := or_pow k a (by omega) (by omega)
              have hlo : k ||| 2 ^ a < 64 := Nat.or_lt_two_pow (n := 6) hlt (Nat.pow_lt_pow_right (by decide) hla)
              clear hgs hS
              cases hbt : k.testBit a with
              | true =>
                have HL := Lib.hid (fun (u : World) => l01Bit_v (k : Int) (a : Int) hx (by omega) true (by show (k : Int).toNat.testBit ((a : Int).toNat) = true; rw [Int.toNat_natCast, Int.toNat_natCast]; exact hbt) u)
                have hgn : gB r k (a + 1) = true := by rw [HGS.out, hbt]; rfl
                have HGN := Lib.hid hgn
                clear hbt hgn hor
                go_wp2_with (first | (go_at_call 49; refine (HL.out _).mono ?_; rintro o u ⟨rfl, rfl⟩) | fail)
                go_roundw
                case rel => exact ⟨a + 1, true, by omega, by go_num, rfl, HGN.out, HP.out, SR.out⟩
                case measure => simp [intOf]; omega
              | false =>
                have HL := Lib.hid (fun (u : World) => l01Bit_v (k : Int) (a : Int) hx (by omega) false (by show (k : Int).toNat.testBit ((a : Int).toNat) = false; rw [Int.toNat_natCast, Int.toNat_natCast]; exact hbt) u)
                obtain ⟨f, hf⟩ : ∃ f, fineB r (k ||| 2 ^ a) = f := ⟨_, rfl⟩
                obtain ⟨q, hq⟩ : ∃ q, q = k ||| 2 ^ a := ⟨_, rfl⟩
                rw [← hq] at hor hf hlo
                have hgn : gB r k (a + 1) = !f := by rw [HGS.out, hbt, ← hq, hf]; rfl
                have HGN := Lib.hid hgn
                have HF2 := Lib.hid (fun (u : World) => l01Fine_any r hr q hlo f hf u)
                clear hbt hgn hf hq
                go_wp2_with (first | (go_at_call 49; refine (HL.out _).mono ?_; rintro o u ⟨rfl, rfl⟩) | (go_at_call 48; refine (HF2.out _).mono ?_; rintro o w3 ⟨rfl, hb3⟩; have S3 := Lib.hid (SR.out.next hb3); have P3 := Lib.hid (owns_next HP.out hb3); clear hb3) | fail)
                go_roundw
                case rel => exact ⟨a + 1, !f, by omega, by go_num, rfl, HGN.out, P3.out, S3.out⟩
                case measure => simp [intOf]; omega
          · obtain rfl : a = 6 := by omega
            cases g with
            | false =>
              have hfull : fullB r k = false := by rw [← gB_six]; exact gB_no HG.out 6 (by omega)
              have hnx : setsTo (fullB r) (k + 1) = setsTo (fullB r) k := by rw [HNX.out, hfull]; simp
              have HNX2 := Lib.hid hnx
              clear hfull hnx hS
              go_wp2_with fail
              go_roundw
              case rel => exact ⟨k + 1, by omega, by omega, by first | rfl | go_num, by rw [HNX2.out]; exact HP.out, SR.out⟩
              case measure => simp [intOf]; omega
            | true =>
              have hfull : fullB r k = true := by rw [← gB_six]; exact HG.out
              have hnx : setsTo (fullB r) (k + 1) = setsTo (fullB r) k ++ [k] := by rw [HNX.out, hfull]; simp
              have HNX2 := Lib.hid hnx
              have hsl := HSL.out
              have hzz := SR.out.2.1
              clear hfull hnx hS
              go_wp2_with (first | (at_builtin; refine wpList_append_own _ rfl (.tmp 41) (.tmp 43) 37 rfl (w.heap.size + 1) 5 i0 (.int .u8 0) 1 1 Tryd.underlying37 hi hz0 hz1 hz2 rfl (by decide) _ _ _ rfl (HP.out.alloc _) ⟨_, 0, none⟩ 1 1 [.int .u8 (k : Int)] rfl rfl (one_newC _ _ _) (one_cellC (by rfl)) (by unfold maxLen; omega) (by omega) (by simp; omega) ?_; intro v7 w7 hP7 hgr _; have S7 := Lib.hid (LS_grow ((SR.out.next ((Below.refl _ _).alloc (Nat.le_refl _) _))) hgr (fun g hg => (HP.out.lt g hg).1)); have P7 := Lib.hid hP7; clear hP7 hgr) | fail)
              go_roundw
              case rel =>
                have hp7 := P7.out
                have e : (setsTo (fullB r) k ++ [k]).flatMap bytS.C = (setsTo (fullB r) k).flatMap bytS.C ++ [.int .u8 (k : Int)] := by simp [bytS.C]
                rw [← e] at hp7
                exact ⟨k + 1, by omega, by omega, by first | rfl | go_num, by rw [HNX2.out, List.length_append]; exact hp7, S7.out⟩
              case measure => simp [intOf]; omega
      · obtain rfl : k = 64 := by omega
        clear hS
        go_wp2_with fail
        go_ret2
        exact ⟨_, rfl, owns_below HP.out (Nat.le_succ _), SR.out.2.2⟩
end Go.Proofs.YtdafnibmoggcnaaDoor.col
