/-
  Several texts of this proof, joined.
-/
import Derived.Test.YtekigapeekjigaaDoorMembers
import Derived.Test.YtekigapeekjigaaDoorJoin18
import Derived.RangeFuncBox
import Derived.Laws.BitsAllLaws
import Derived.Test.YtekigapeekjigaaDoorJoin13
import Derived.Test.YtekigapeekjigaaDoorJoin12
import Derived.Test.YtekigapeekjigaaDoorMapKey
import Derived.Maps.OwnSet
import Derived.Maps.OwnOps
import Derived.RegionTactic
import Derived.ChangeAlike
import Derived.Outline
import Derived.IntWalk
/-
  A basket: what the sets of its garments weigh.
-/
namespace Go.Proofs.YtekigapeekjigaaDoor.mem
open Go Go.RowKit Go.Shelf errs garS
attribute [local go_sem] Oper.semAt_some

abbrev eightV (m : Nat → Int) : Value := .agg #[.int .u8 (m 0), .int .u8 (m 1), .int .u8 (m 2), .int .u8 (m 3), .int .u8 (m 4), .int .u8 (m 5), .int .u8 (m 6), .int .u8 (m 7)]
abbrev eightC (m : Nat → Int) : List Value := [.int .u8 (m 0), .int .u8 (m 1), .int .u8 (m 2), .int .u8 (m 3), .int .u8 (m 4), .int .u8 (m 5), .int .u8 (m 6), .int .u8 (m 7)]
/-- a basket -/
abbrev bV (A : Option Addr) (n c : Nat) (m : Nat → Int) (hold : Int) : Value := .agg #[.slice A n c, .int .u8 (m 0), .int .u8 (m 1), .int .u8 (m 2), .int .u8 (m 3), .int .u8 (m 4), .int .u8 (m 5), .int .u8 (m 6), .int .u8 (m 7), .int .i64 hold]
abbrev bC (A : Option Addr) (n c : Nat) (m : Nat → Int) (hold : Int) : Array Value := #[.slice A n c, .int .u8 (m 0), .int .u8 (m 1), .int .u8 (m 2), .int .u8 (m 3), .int .u8 (m 4), .int .u8 (m 5), .int .u8 (m 6), .int .u8 (m 7), .int .i64 hold]
/-- what one garment weighs -/
def wAt (gs : List Gar) (i : Nat) : Int := (gs[i]?.map (·.g)).getD 0
def wSum (gs : List Gar) (is : List Nat) : Int := is.foldl (fun s i => s + wAt gs i) 0
theorem wSum_snoc (gs : List Gar) (is : List Nat) (i : Nat) : wSum gs (is ++ [i]) = wSum gs is + wAt gs i := by simp [wSum]
theorem wSum_bound (gs : List Gar) (hf : ∀ x ∈ gs, x.Fits) (is : List Nat) : -32768 * (is.length : Int) ≤ wSum gs is ∧ wSum gs is ≤ 32768 * (is.length : Int) := by
  suffices h : ∀ (is : List Nat) (s : Int), s - 32768 * (is.length : Int) ≤ is.foldl (fun s i => s + wAt gs i) s ∧ is.foldl (fun s i => s + wAt gs i) s ≤ s + 32768 * (is.length : Int) by
    have := h is 0
    unfold wSum
    omega
  intro is
  induction is with
  | nil => intro s; simp
  | cons i is ih =>
    intro s
    have h1 := ih (s + wAt gs i)
    have h2 : -32768 ≤ wAt gs i ∧ wAt gs i ≤ 32767 := by
      unfold wAt
      cases hx : gs[i]? with
      | none => simp
      | some x =>
        have := hf x (List.mem_of_getElem? hx)
        obtain ⟨_, _, _, _, _, _, g0, g1⟩ := this
        simp
        omega
    have h3 : (((i :: is).length : Nat) : Int) = (is.length : Int) + 1 := by simp
    rw [List.foldl_cons, h3]
    omega

theorem kf_store (B : Nat) (W : World) (p : Addr) (v : Value) : KeepsFrom B W (W.setCell p v).drew := ((KeepsOthers.setCell W p v).trans (KeepsOthers.drew _)).from B
theorem kb_store {B : Nat} {a W : World} (h : Below B a W) (p : Addr) (v : Value) (hp : B ≤ p.block) : Below B a (W.setCell p v).drew := (h.setCell (p := p) hp v).drew
theorem fz_store (W : World) (p q : Addr) (v : Value) (h : W.frozen? q = false) : (W.setCell p v).drew.frozen? q = false := by rw [World.frozen?_drew, World.frozen?_setCell]; exact h
set_option maxRecDepth 100000 in
set_option maxHeartbeats 4000000 in
theorem weightOf_any (A : Option Addr) (n c : Nat) (gs : List Gar) (en : n = gs.length) (hn : n ≤ 1048576) (m : Nat → Int) (hold : Int) (set : Nat) (hset : set < 256) (hin : ∀ i, i < 8 → set.testBit i = true → i < n) (w : World) (hg : GS w w.heap.size A gs) :
    Calls Tryd.prog 87 #[bV A n c m hold, .int .u8 set] w fun o w' => o = .returned (.int .i64 (wSum gs (memb set))) ∧ Below w.heap.size w w' := by
  have En := Lib.hid en
  clear en
  refine (callsIn_wide (n := 3)).1 ?_
  refine callsIn_of_wp_marks Tryd.func87 rfl trivial ?_ rfl
  simp only [Tryd.ntmps87, List.size_toArray, List.length_cons, List.length_nil, Nat.reduceAdd, Nat.reduceSub, Array.replicate_succ, Array.replicate_zero, List.push_toArray, List.append_toArray, List.nil_append, List.cons_append]
  gi_wp2_with (refine ⟨trivial, ?_⟩; gi_at_call 117; refine (callsIn_wide.2 (members_any (set : Int) _)).mono ?_; rintro e w1 ⟨rfl, rfl⟩)
  have hbx : ∀ j, (((w.alloc (.cells (bC A n c m hold) 105)).alloc (.cells #[.int .i64 0] 2)).alloc (.cells #[.int .u8 set] 5)).cell? ⟨w.heap.size, j, none⟩ = (bC A n c m hold)[j]? := fun j => by
    have e1 : (w.alloc (.cells (bC A n c m hold) 105)).heap.size = w.heap.size + 1 := by simp
    have e2 : ((w.alloc (.cells (bC A n c m hold) 105)).alloc (.cells #[.int .i64 0] 2)).heap.size = w.heap.size + 1 + 1 := by simp
    exact cell_of_row _ _ _ _ _ _ ((heap_alloc_old _ _ _ (by rw [e2]; omega)).trans ((heap_alloc_old _ _ _ (by rw [e1]; omega)).trans (heap_alloc_new w _)))
  have bS := Boxed.new (w.alloc (.cells (bC A n c m hold) 105)) 2 (.int .i64 0)
  have bM := Boxed.new ((w.alloc (.cells (bC A n c m hold) 105)).alloc (.cells #[.int .i64 0] 2)) 5 (.int .u8 set)
  rw [World.size_alloc] at bS bM
  rw [World.size_alloc] at bM
  have hB0 : Below w.heap.size w (((w.alloc (.cells (bC A n c m hold) 105)).alloc (.cells #[.int .i64 0] 2)).alloc (.cells #[.int .u8 set] 5)) := (((Below.refl _ w).alloc (Nat.le_refl _) _).alloc (by simp) _).alloc (by simp; omega) _
  refine wpIn_rangeFunc_ownG rfl (by decide) (gf := 133) (lb := #[.pointer (some ⟨w.heap.size + 1 + 1, 0, none⟩)]) rfl trivial (enters_of Tryd.func133 (by kernel_rfl) rfl)
    (members_stops (3 - 1) (by decide) (w.heap.size + 1 + 1) w.heap.size set hset _ (by simp) bM.cell) belowK_t (belowK_b (by simp; omega)) (Below.refl _ _) (fun _ => rfl)
    (fun pre W => ((W.cell? ⟨w.heap.size + 1, 0, none⟩ = some (.int .i64 (wSum gs (ids pre))) ∧ W.frozen? ⟨w.heap.size + 1, 0, none⟩ = false) ∧ W.cell? ⟨w.heap.size, 0, none⟩ = some (.slice A n c)) ∧ Below w.heap.size w W)
    (fun _ _ _ => False)
    (OwnFrom.and (Own.from (fun s A B row hs hg hr => ⟨⟨cell_kept hs.1.1 hg hr, (frozen_kept hs.1.1 hg hr).trans hs.1.2⟩, cell_kept hs.2 hg hr⟩) _) (ownFrom_below (Nat.le_refl _) (by simp; omega)))
    (fun _ _ _ _ _ hs _ _ => hs)
    ⟨⟨⟨(bS.alloc _).cell, (bS.alloc _).frozen⟩, hbx 0⟩, hB0⟩
    (fun x => { tmps := #[bV A n c m hold, .int .u8 set, .pointer (some ⟨w.heap.size, 0, none⟩), undef, .int .i64 0, .pointer (some ⟨w.heap.size + 1, 0, none⟩), .int .i64 (x.1 : Int), .int .u8 set, .func (.func 133) #[] #[.pointer (some ⟨w.heap.size + 1 + 1, 0, none⟩)], .int .i64 (x.1 : Int), undef, undef, undef, undef, undef, undef, undef, undef, undef, undef], defers := [] }) ?assign ?body ?done ?stop
  case assign =>
    intro l x W K hK
    gi_wp2
    exact hK
  case body =>
    rintro l pre x W ⟨⟨⟨hc, hf⟩, hs⟩, hB⟩ hlen
    obtain ⟨hx8, hxt⟩ := x.2
    have hxn := hin x.1 hx8 hxt
    obtain ⟨y, hy⟩ : ∃ y, gs[x.1]? = some y := ⟨gs[x.1]'(by have := En.out; omega), List.getElem?_eq_getElem _⟩
    obtain ⟨a, ea, hab, hat⟩ := (hg.below hB).at_ x.1 y hy
    subst ea
    obtain ⟨_, _, _, q3⟩ := hat
    have hyf := hg.fits y (List.mem_of_getElem? hy)
    have hbd := wSum_bound gs hg.fits (ids pre)
    rw [ids_len] at hbd
    have hg0 := hyf.g0
    have hg1 := hyf.g1
    have hwr : IntKind.i64.wrap (wSum gs (ids pre) + y.g) = wSum gs (ids pre) + y.g := IntWalk.i64_in _ (by omega)
    have hwr2 : IntKind.i64.wrap y.g = y.g := IntWalk.i64_in _ (by omega)
    have hnx : wSum gs (ids (pre ++ [x])) = wSum gs (ids pre) + y.g := by rw [ids_snoc, wSum_snoc, wAt, hy]; rfl
    have hw64 : wrap64 (wSum gs (ids pre) + y.g) = wSum gs (ids pre) + y.g := by unfold wrap64; omega
    have HNX := Lib.hid hnx
    have hmx : Tryd.prog.follows .mixedOrders = true := by kernel_rfl
    clear hnx hy
    gi_wp2
    gi_region_with_o (fail)
    all_goals gi_wp2
    all_goals (try go_bits)
    all_goals exact ⟨kf_store _ _ _ _, kb_store (Below.refl w.heap.size W) _ _ (Nat.le_succ _), ⟨⟨by rw [HNX.out]; exact World.cell?_setCell_same' _ _ _ (by rw [hc]; rfl), fz_store _ _ _ _ hf⟩, (World.cell?_setCell_far _ _ _ _ (by simp)).trans hs⟩, kb_store hB _ _ (Nat.le_succ _)⟩
  case done =>
    rintro D ys W hD hys ⟨⟨⟨hc, _⟩, _⟩, hB⟩ hK
    gi_wp2
    refine ⟨by simp, .inl ⟨_, _, rfl, run_takeDeferred hK, ?_⟩⟩
    exact ⟨_, results_tmp rfl _ _ _, rfl, hB.trans (belowK_b (w := w) (Nat.le_refl _) W D _ _ (by simp at hD; omega) hK rfl rfl)⟩
  case stop =>
    rintro D c pre W _ _ h _
    exact h.elim
end Go.Proofs.YtekigapeekjigaaDoor.mem

/-
  A basket: is a set of its garments a load.
-/
namespace Go.Proofs.YtekigapeekjigaaDoor.mem
open Go Go.RowKit Go.Shelf errs garS
attribute [local go_sem] Oper.semAt_some

/-- what of a set may not be with garment i -/
abbrev offB (m : Nat → Int) (set i : Nat) : Int := bits BinOp.andNot IntKind.u8 (set : Int) (m i)
def isLoadB (gs : List Gar) (m : Nat → Int) (hold : Int) (set : Nat) : Bool := (memb set).all (fun i => offB m set i == 0) && (set != 0 && decide (wSum gs (memb set) ≤ hold))
/-- the ten cells of a basket lie at block b -/
structure Bask (W : World) (b : Nat) (A : Option Addr) (n c : Nat) (m : Nat → Int) (hold : Int) : Prop where
  s : W.cell? ⟨b, 0, none⟩ = some (.slice A n c)
  m : ∀ j, j < 8 → W.cell? ⟨b, 1 + j, none⟩ = some (.int .u8 (m j))
  h : W.cell? ⟨b, 9, none⟩ = some (.int .i64 hold)
theorem Bask.keep {W V : World} {b : Nat} {A : Option Addr} {n c : Nat} {m : Nat → Int} {hold : Int} (h : Bask W b A n c m hold) (hk : ∀ j v, W.cell? ⟨b, j, none⟩ = some v → V.cell? ⟨b, j, none⟩ = some v) : Bask V b A n c m hold :=
  ⟨hk _ _ h.s, fun j hj => hk _ _ (h.m j hj), hk _ _ h.h⟩
theorem bC_m (A : Option Addr) (n c : Nat) (m : Nat → Int) (hold : Int) : ∀ j, j < 8 → (bC A n c m hold)[1 + j]? = some (.int .u8 (m j))
  | 0, _ => rfl
  | 1, _ => rfl
  | 2, _ => rfl
  | 3, _ => rfl
  | 4, _ => rfl
  | 5, _ => rfl
  | 6, _ => rfl
  | 7, _ => rfl

theorem heap4 (w : World) (a b c d : Obj) : ((((w.alloc a).alloc b).alloc c).alloc d).heap[w.heap.size]? = some a ∧ ((((w.alloc a).alloc b).alloc c).alloc d).heap[w.heap.size + 1]? = some b ∧
    ((((w.alloc a).alloc b).alloc c).alloc d).heap[w.heap.size + 1 + 1]? = some c ∧ ((((w.alloc a).alloc b).alloc c).alloc d).heap[w.heap.size + 1 + 1 + 1]? = some d ∧
    ((((w.alloc a).alloc b).alloc c).alloc d).heap.size = w.heap.size + 4 ∧ Below w.heap.size w ((((w.alloc a).alloc b).alloc c).alloc d) := by
  have e1 : (w.alloc a).heap.size = w.heap.size + 1 := by simp
  have e2 : ((w.alloc a).alloc b).heap.size = w.heap.size + 1 + 1 := by simp
  have e3 : (((w.alloc a).alloc b).alloc c).heap.size = w.heap.size + 1 + 1 + 1 := by simp
  have h1 := heap_alloc_new (w.alloc a) b
  have h2 := heap_alloc_new ((w.alloc a).alloc b) c
  have h3 := heap_alloc_new (((w.alloc a).alloc b).alloc c) d
  rw [e1] at h1
  rw [e2] at h2
  rw [e3] at h3
  refine ⟨?_, ?_, ?_, h3, by simp, ?_⟩
  · exact (heap_alloc_old _ _ _ (by omega)).trans ((heap_alloc_old _ _ _ (by omega)).trans ((heap_alloc_old _ _ _ (by omega)).trans (heap_alloc_new w a)))
  · exact (heap_alloc_old _ _ _ (by omega)).trans ((heap_alloc_old _ _ _ (by omega)).trans h1)
  · exact (heap_alloc_old _ _ _ (by omega)).trans h2
  · exact ((((Below.refl _ w).alloc (Nat.le_refl _) _).alloc (by simp) _).alloc (by simp; omega) _).alloc (by simp; omega) _
theorem isSome_setCell {u : World} {b o : Nat} {v : Value} (h : ((u.setCell ⟨b, o, none⟩ v).cell? ⟨b, o, none⟩).isSome = true) : (u.cell? ⟨b, o, none⟩).isSome = true := by
  simp only [World.setCell, World.cell?, Array.getElem?_modify, ↓reduceIte] at h ⊢
  cases e : u.heap[b]? with
  | none => rw [e] at h; simp at h
  | some x =>
    rw [e] at h
    cases x with
    | cells c t f =>
      simp only [Option.map_some, Option.isSome_none, Bool.false_eq_true, ↓reduceIte] at h ⊢
      by_cases ho : o < c.size
      · simp [ho]
      · simp [ho] at h
    | _ => simp at h
/-- what a cell holds -/
def valAt (u : World) (p : Addr) : Value := (u.cell? p).getD undef
theorem valAt_some {u : World} {p : Addr} (h : (u.cell? p).isSome = true) : u.cell? p = some (valAt u p) := by
  unfold valAt
  cases e : u.cell? p with
  | none => rw [e] at h; cases h
  | some v => rfl
/-- what holds while the last line of isLoad runs -/
abbrev BS (w : World) (A : Option Addr) (n c : Nat) (m : Nat → Int) (hold : Int) (set D : Nat) (u : World) : Prop := u.cell? ⟨w.heap.size, 0, none⟩ = some (.slice A n c) ∧ u.cell? ⟨w.heap.size, 1, none⟩ = some (.int .u8 (m 0)) ∧ u.cell? ⟨w.heap.size, 2, none⟩ = some (.int .u8 (m 1)) ∧ u.cell? ⟨w.heap.size, 3, none⟩ = some (.int .u8 (m 2)) ∧ u.cell? ⟨w.heap.size, 4, none⟩ = some (.int .u8 (m 3)) ∧ u.cell? ⟨w.heap.size, 5, none⟩ = some (.int .u8 (m 4)) ∧ u.cell? ⟨w.heap.size, 6, none⟩ = some (.int .u8 (m 5)) ∧ u.cell? ⟨w.heap.size, 7, none⟩ = some (.int .u8 (m 6)) ∧ u.cell? ⟨w.heap.size, 8, none⟩ = some (.int .u8 (m 7)) ∧ u.cell? ⟨w.heap.size, 9, none⟩ = some (.int .i64 hold) ∧ u.cell? ⟨w.heap.size + 1, 0, none⟩ = some (.int .u8 set) ∧ u.cell? ⟨w.heap.size + 1 + 1, 0, none⟩ = some (valAt u ⟨w.heap.size + 1 + 1, 0, none⟩) ∧ u.frozen? ⟨w.heap.size + 1 + 1, 0, none⟩ = false ∧ Below w.heap.size w u ∧ w.heap.size + 1 + 1 < u.heap.size ∧ u.heap[D]? = some (.deferred (some []))
theorem BS.keep {w : World} {A : Option Addr} {n c : Nat} {m : Nat → Int} {hold : Int} {set D : Nat} {u v : World} (h : BS w A n c m hold set D u) (hk : ∀ (p : Addr) (x : Value), p.block = w.heap.size ∨ p.block = w.heap.size + 1 → u.cell? p = some x → v.cell? p = some x)
    (hs : (v.cell? ⟨w.heap.size + 1 + 1, 0, none⟩).isSome = true) (hfz : v.frozen? ⟨w.heap.size + 1 + 1, 0, none⟩ = false) (hB : Below w.heap.size w v) (hz : u.heap.size ≤ v.heap.size) (hD : v.heap[D]? = some (.deferred (some []))) : BS w A n c m hold set D v := by
  obtain ⟨c0, c1, c2, c3, c4, c5, c6, c7, c8, c9, k1, _, _, _, z, _⟩ := h
  exact ⟨hk ⟨w.heap.size, 0, none⟩ _ (.inl rfl) c0, hk ⟨w.heap.size, 1, none⟩ _ (.inl rfl) c1, hk ⟨w.heap.size, 2, none⟩ _ (.inl rfl) c2, hk ⟨w.heap.size, 3, none⟩ _ (.inl rfl) c3, hk ⟨w.heap.size, 4, none⟩ _ (.inl rfl) c4, hk ⟨w.heap.size, 5, none⟩ _ (.inl rfl) c5, hk ⟨w.heap.size, 6, none⟩ _ (.inl rfl) c6, hk ⟨w.heap.size, 7, none⟩ _ (.inl rfl) c7, hk ⟨w.heap.size, 8, none⟩ _ (.inl rfl) c8, hk ⟨w.heap.size, 9, none⟩ _ (.inl rfl) c9, hk ⟨w.heap.size + 1, 0, none⟩ _ (.inr rfl) k1, valAt_some hs, hfz, hB, Nat.lt_of_lt_of_le z hz, hD⟩
theorem BS.tail {w : World} {A : Option Addr} {n c : Nat} {m : Nat → Int} {hold : Int} {set D : Nat} {u : World} (h : BS w A n c m hold set D u) : (u.cell? ⟨w.heap.size + 1 + 1, 0, none⟩).isSome = true ∧ Below w.heap.size w u ∧ w.heap.size + 1 + 1 < u.heap.size ∧ u.heap[D]? = some (.deferred (some [])) ∧ u.frozen? ⟨w.heap.size + 1 + 1, 0, none⟩ = false := by
  obtain ⟨_c0, _c1, _c2, _c3, _c4, _c5, _c6, _c7, _c8, _c9, k1, h1, hf, h2, h3, h4⟩ := h
  exact ⟨by rw [h1]; rfl, h2, h3, h4, hf⟩
theorem BS.drewN {w : World} {A : Option Addr} {n c : Nat} {m : Nat → Int} {hold : Int} {set D : Nat} {u : World} (h : BS w A n c m hold set D u) (k : Nat) : BS w A n c m hold set D (u.drewN k) := h.keep (fun _ _ _ h => h) h.tail.1 h.tail.2.2.2.2 (h.tail.2.1.trans (below_drewN _ _ k)) (Nat.le_refl _) h.tail.2.2.2.1
theorem BS.next {w : World} {A : Option Addr} {n c : Nat} {m : Nat → Int} {hold : Int} {set D : Nat} {u v : World} (h : BS w A n c m hold set D u) (hb : Below u.heap.size u v) : BS w A n c m hold set D v := by
  obtain ⟨t1, t2, t3, t4, t5⟩ := h.tail
  have hDu : D < u.heap.size := (Array.getElem?_eq_some_iff.1 t4).1
  refine h.keep (fun p x hp hx => (hb.cell (p := p) (by omega)).trans hx) ?_ ?_ (t2.trans (hb.mono t2.size)) hb.size ((hb.block D hDu).trans t4)
  · rw [hb.cell (p := ⟨w.heap.size + 1 + 1, 0, none⟩) t3]
    exact t1
  · exact (hb.frozen (p := ⟨w.heap.size + 1 + 1, 0, none⟩) t3).trans t5
theorem BS.store {w : World} {A : Option Addr} {n c : Nat} {m : Nat → Int} {hold : Int} {set D : Nat} {u : World} (h : BS w A n c m hold set D u) (v : Value) : BS w A n c m hold set D (u.setCell ⟨w.heap.size + 1 + 1, 0, none⟩ v) := by
  obtain ⟨t1, t2, t3, t4, t5⟩ := h.tail
  refine h.keep (fun p x hp hx => (World.cell?_setCell_far _ _ _ _ (by show w.heap.size + 1 + 1 ≠ p.block; omega)).trans hx) ?_ (by rw [World.frozen?_setCell]; exact t5) (t2.setCell (p := ⟨w.heap.size + 1 + 1, 0, none⟩) (by show w.heap.size ≤ w.heap.size + 1 + 1; omega) _) (by simp) ((KeepsOthers.setCell _ _ _).same D _ t4 rfl)
  rw [World.cell?_setCell_same' _ _ _ t1]
  rfl

set_option maxRecDepth 100000 in
set_option maxHeartbeats 8000000 in
theorem isLoad_any (A : Option Addr) (n c : Nat) (gs : List Gar) (en : n = gs.length) (hn : n ≤ 1048576) (m : Nat → Int) (hold : Int) (set : Nat) (hset : set < 256) (hin : ∀ i, i < 8 → set.testBit i = true → i < n) (w : World) (hg : GS w w.heap.size A gs) (b : Bool) (hb : isLoadB gs m hold set = b) :
    Calls Tryd.prog 77 #[bV A n c m hold, .int .u8 set] w fun o w' => o = .returned (.bool b) ∧ Below w.heap.size w w' := by
  have En := Lib.hid en
  have HR := Lib.hid hb
  clear en hb
  refine (callsIn_wide (n := 3)).1 ?_
  refine callsIn_of_wp_marks Tryd.func77 rfl trivial ?_ rfl
  simp only [Tryd.ntmps77, List.size_toArray, List.length_cons, List.length_nil, Nat.reduceAdd, Nat.reduceSub, Array.replicate_succ, Array.replicate_zero, List.push_toArray, List.append_toArray, List.nil_append, List.cons_append]
  gi_wp2_with (refine ⟨trivial, ?_⟩; gi_at_call 117; refine (callsIn_wide.2 (members_any (set : Int) _)).mono ?_; rintro e w1 ⟨rfl, rfl⟩)
  have h4 := heap4 w (.cells (bC A n c m hold) 105) (.cells #[.int .u8 set] 5) (.cells #[.bool false] 4) (.cells #[.int .u8 set] 5)
  obtain ⟨W0, hW0⟩ : ∃ W0, W0 = ((((w.alloc (.cells (bC A n c m hold) 105)).alloc (.cells #[.int .u8 set] 5)).alloc (.cells #[.bool false] 4)).alloc (.cells #[.int .u8 set] 5)) := ⟨_, rfl⟩
  rw [← hW0] at h4 ⊢
  obtain ⟨g0, g1, g2, g3, hsz, hB0⟩ := h4
  have hbk0 : Bask W0 w.heap.size A n c m hold := ⟨cell_of_row _ _ _ _ _ _ g0, fun j hj => (cell_of_row _ _ _ _ _ _ g0).trans (bC_m A n c m hold j hj), cell_of_row _ _ _ _ _ _ g0⟩
  have k1 : W0.cell? ⟨w.heap.size + 1, 0, none⟩ = some (.int .u8 set) := cell_of_row _ _ _ _ _ _ g1
  have k2 : W0.cell? ⟨w.heap.size + 1 + 1, 0, none⟩ = some (.bool false) := cell_of_row _ _ _ _ _ _ g2
  have k3 : W0.cell? ⟨w.heap.size + 1 + 1 + 1, 0, none⟩ = some (.int .u8 set) := cell_of_row _ _ _ _ _ _ g3
  have f2 : W0.frozen? ⟨w.heap.size + 1 + 1, 0, none⟩ = false := by
    unfold World.frozen?
    rw [g2]
    rfl
  clear g0 g1 g2 g3 hW0
  refine wpIn_rangeFunc_ownG rfl (by decide) (gf := 133) (lb := #[.pointer (some ⟨w.heap.size + 1 + 1 + 1, 0, none⟩)]) rfl trivial (enters_of Tryd.func133 (by kernel_rfl) rfl)
    (members_stops (3 - 1) (by decide) (w.heap.size + 1 + 1 + 1) w.heap.size set hset W0 (by omega) k3) belowK_t (belowK_b (by omega)) (Below.refl _ _) (fun _ => rfl)
    (fun pre W => ((∀ i ∈ ids pre, offB m set i = 0) ∧ Bask W w.heap.size A n c m hold ∧ W.cell? ⟨w.heap.size + 1, 0, none⟩ = some (.int .u8 set) ∧ W.cell? ⟨w.heap.size + 1 + 1, 0, none⟩ = some (.bool false) ∧ W.frozen? ⟨w.heap.size + 1 + 1, 0, none⟩ = false) ∧ Below w.heap.size w W)
    (fun cc pre W => (cc = .ret ∧ (∃ i ∈ ids pre, offB m set i ≠ 0) ∧ W.cell? ⟨w.heap.size + 1 + 1, 0, none⟩ = some (.bool false)) ∧ Below w.heap.size w W)
    (OwnFrom.and (Own.from (fun s A B row hs hg hr => ⟨hs.1, hs.2.1.keep (fun _ _ h => cell_kept h hg hr), cell_kept hs.2.2.1 hg hr, cell_kept hs.2.2.2.1 hg hr, (frozen_kept hs.2.2.2.1 hg hr).trans hs.2.2.2.2⟩) _) (ownFrom_below (Nat.le_refl _) (by omega)))
    (fun cc => OwnFrom.and (Own.from (fun s A B row hs hg hr => ⟨hs.1, hs.2.1, cell_kept hs.2.2 hg hr⟩) _) (ownFrom_below (Nat.le_refl _) (by omega)))
    ⟨⟨by simp [ids], hbk0, k1, k2, f2⟩, hB0⟩
    (fun x => { tmps := #[bV A n c m hold, .int .u8 set, .pointer (some ⟨w.heap.size, 0, none⟩), .pointer (some ⟨w.heap.size + 1, 0, none⟩), .pointer (some ⟨w.heap.size + 1 + 1, 0, none⟩), .int .i64 (x.1 : Int), .int .u8 set, .func (.func 133) #[] #[.pointer (some ⟨w.heap.size + 1 + 1 + 1, 0, none⟩)], .int .i64 (x.1 : Int), undef, undef, undef, undef, undef, undef, undef, undef, undef, undef, undef, undef, undef, undef, undef, undef, undef], defers := [] }) ?assign ?body ?done ?stop
  case assign =>
    intro l x W K hK
    gi_wp2
    exact hK
  case body =>
    rintro l pre x W ⟨⟨hall, hbk, hs1, hres, hfr⟩, hB⟩ hlen
    obtain ⟨hx8, hxt⟩ := x.2
    have hm := hbk.m x.1 hx8
    have hmx : Tryd.prog.follows .mixedOrders = true := by kernel_rfl
    by_cases hz : bits BinOp.andNot IntKind.u8 (set : Int) (m x.1) = 0
    · have hz2 : (bits BinOp.andNot IntKind.u8 (set : Int) (m x.1) != 0) = false := by rw [hz]; rfl
      have hall2 : ∀ i ∈ ids (pre ++ [x]), offB m set i = 0 := fun i hi => by
        rw [ids_snoc] at hi
        rcases List.mem_append.1 hi with h1 | h1
        · exact hall i h1
        · rw [List.mem_singleton.1 h1]
          exact hz
      have HA := Lib.hid hall2
      clear hall hall2
      gi_wp2
      gi_region_with_o (fail)
      all_goals gi_wp2
      all_goals exact ⟨(KeepsOthers.drew W).from _, (Below.refl _ _).drew, ⟨HA.out, hbk.keep fun _ _ h => h, hs1, hres, hfr⟩, hB.drew⟩
    · have hz2 : (bits BinOp.andNot IntKind.u8 (set : Int) (m x.1) != 0) = true := by rw [bne_iff_ne]; exact hz
      have HA : Hid (∃ i ∈ ids (pre ++ [x]), offB m set i ≠ 0) := Lib.hid ⟨x.1, by rw [ids_snoc]; simp, hz⟩
      gi_wp2
      gi_region_with_o (fail)
      all_goals gi_wp2
      all_goals exact ⟨kf_store _ _ _ _, ⟨rfl, HA.out, World.cell?_setCell_same' _ _ _ (by rw [hres]; rfl)⟩, kb_store hB _ _ (by show w.heap.size ≤ w.heap.size + 1 + 1; omega)⟩
  case done =>
    rintro D ys W hD hys ⟨⟨hall, hbk, hs1, hres, hfr⟩, hB⟩ hK
    have hmx : Tryd.prog.follows .mixedOrders = true := by kernel_rfl
    obtain ⟨c0, c1, c2, c3, c4, c5, c6, c7, c8, c9⟩ : W.cell? ⟨w.heap.size, 0, none⟩ = some (.slice A n c) ∧ W.cell? ⟨w.heap.size, 1, none⟩ = some (.int .u8 (m 0)) ∧ W.cell? ⟨w.heap.size, 2, none⟩ = some (.int .u8 (m 1)) ∧ W.cell? ⟨w.heap.size, 3, none⟩ = some (.int .u8 (m 2)) ∧ W.cell? ⟨w.heap.size, 4, none⟩ = some (.int .u8 (m 3)) ∧ W.cell? ⟨w.heap.size, 5, none⟩ = some (.int .u8 (m 4)) ∧ W.cell? ⟨w.heap.size, 6, none⟩ = some (.int .u8 (m 5)) ∧ W.cell? ⟨w.heap.size, 7, none⟩ = some (.int .u8 (m 6)) ∧ W.cell? ⟨w.heap.size, 8, none⟩ = some (.int .u8 (m 7)) ∧ W.cell? ⟨w.heap.size, 9, none⟩ = some (.int .i64 hold) :=
      ⟨hbk.s, hbk.m 0 (by omega), hbk.m 1 (by omega), hbk.m 2 (by omega), hbk.m 3 (by omega), hbk.m 4 (by omega), hbk.m 5 (by omega), hbk.m 6 (by omega), hbk.m 7 (by omega), hbk.h⟩
    have hDW : D < W.heap.size := (Array.getElem?_eq_some_iff.1 hK).1
    have hall2 : (memb set).all (fun i => offB m set i == 0) = true := by
      rw [List.all_eq_true]
      intro i hi
      rw [← hys] at hi
      simp [hall i hi]
    have HA := Lib.hid hall2
    have HK := Lib.hid hK
    have HBk := Lib.hid hbk
    clear hall hall2 hbk
    have hsz2 := hB0.size
    have hzz : w.heap.size + 1 + 1 < W.heap.size := by omega
    have HG := Lib.hid ((hg.below hB).more hB.size)
    have hfin : ∀ (V : World) (v : Bool), Below W.heap.size W V → (isLoadB gs m hold set = v) → V.cell? ⟨w.heap.size + 1 + 1, 0, none⟩ = some (.bool false) → V.heap[D]? = some (.deferred (some [])) := fun V v hb _ _ => (hb.block D hDW).trans HK.out
    by_cases hz : set = 0
    · have hbf : Hid (b = false) := Lib.hid (by rw [← HR.out, isLoadB, hz]; simp)
      have hz2 : ((set : Int) != 0) = false := by rw [hz]; rfl
      have hz3 : ¬ ((set : Int) != 0) = true := by rw [hz2]; decide
      gi_wp2
      refine wpIn_wide.2 ?_
      go_wp2_with fail
      first | go_region_with ((fail)) | fail
      all_goals gi_wp2
      all_goals
        have hcv : (W.setCell ⟨w.heap.size + 1 + 1, 0, none⟩ (.bool false)).drew.cell? ⟨w.heap.size + 1 + 1, 0, none⟩ = some (.bool false) := World.cell?_setCell_same' W ⟨w.heap.size + 1 + 1, 0, none⟩ (.bool false) (by rw [hres]; rfl)
        have hkv : (W.setCell ⟨w.heap.size + 1 + 1, 0, none⟩ (.bool false)).drew.heap[D]? = some (.deferred (some [])) := (KeepsOthers.setCell W ⟨w.heap.size + 1 + 1, 0, none⟩ (.bool false)).same D _ HK.out rfl
        have hbv : Below w.heap.size w (W.setCell ⟨w.heap.size + 1 + 1, 0, none⟩ (.bool false)).drew := kb_store hB ⟨w.heap.size + 1 + 1, 0, none⟩ _ (by show w.heap.size ≤ w.heap.size + 1 + 1; omega)
        refine ⟨by simp, .inl ⟨_, _, rfl, run_takeDeferred hkv, ?_⟩⟩
        have hc5 := cell_kept hcv (grownBy_putObj' _ D (.deferred none)) (fun r e => by cases e; exact ⟨_, hkv, rfl⟩)
        refine ⟨.bool false, ?_, by rw [hbf.out], hbv.trans (belowK_b (w := w) (Nat.le_refl _) _ D _ _ (by omega) hkv rfl rfl)⟩
        simp [results, Tryd.f77, go_sem, hc5]
    · have hz2 : ((set : Int) != 0) = true := by rw [bne_iff_ne]; omega
      gi_wp2
      refine wpIn_wide.2 ?_
      go_wp2_with fail
      have S0 : Hid (BS w A n c m hold set D W) := Lib.hid ⟨c0, c1, c2, c3, c4, c5, c6, c7, c8, c9, hs1, valAt_some (by rw [hres]; rfl), hfr, hB, hzz, HK.out⟩
      clear c0 c1 c2 c3 c4 c5 c6 c7 c8 c9 hs1 hres hfr hB
      by_cases hle : wSum gs (memb set) ≤ hold
      · have hle2 : decide (wSum gs (memb set) ≤ hold) = true := by simpa using hle
        go_region_held3 (fun u => BS w A n c m hold set D u)
          (first | assumption | exact S0.out | exact S0.out.drewN 1 | exact BS.next (by assumption) hb2 | exact BS.store (by assumption) _)
          (first
            | (go_at_call 87; refine (weightOf_any A n c gs En.out hn m hold set hset hin _ ((hg.below (BS.tail (by assumption)).2.1).more (BS.tail (by assumption)).2.1.size)).mono ?_; rintro o w2 ⟨rfl, hb2⟩)
            | fail)
        have hbf : Hid (b = true) := Lib.hid (by rw [← HR.out, isLoadB, HA.out, hle2]; simpa using hz)
        rename_i hS
        gi_wp2
        obtain ⟨t1, t2, t3, t4, t5⟩ := hS.tail
        have hcv := World.cell?_setCell_same' w2 ⟨w.heap.size + 1 + 1, 0, none⟩ (.bool true) (isSome_setCell t1)
        refine ⟨by simp, .inl ⟨_, _, rfl, run_takeDeferred t4, ?_⟩⟩
        have hc5 := cell_kept hcv (grownBy_putObj' _ D (.deferred none)) (fun r e => by cases e; exact ⟨_, t4, rfl⟩)
        refine ⟨.bool true, ?_, by rw [hbf.out], t2.trans (belowK_b (w := w) (Nat.le_refl _) _ D _ _ (by omega) t4 rfl rfl)⟩
        simp [results, Tryd.f77, go_sem, hc5]
      · have hle2 : decide (wSum gs (memb set) ≤ hold) = false := by simpa using hle
        have hle3 : hold < wSum gs (memb set) := by omega
        go_region_held3 (fun u => BS w A n c m hold set D u)
          (first | assumption | exact S0.out | exact S0.out.drewN 1 | exact BS.next (by assumption) hb2 | exact BS.store (by assumption) _)
          (first
            | (go_at_call 87; refine (weightOf_any A n c gs En.out hn m hold set hset hin _ ((hg.below (BS.tail (by assumption)).2.1).more (BS.tail (by assumption)).2.1.size)).mono ?_; rintro o w2 ⟨rfl, hb2⟩)
            | fail)
        have hbf : Hid (b = false) := Lib.hid (by rw [← HR.out, isLoadB, hle2]; simp)
        rename_i hS
        gi_wp2
        obtain ⟨t1, t2, t3, t4, t5⟩ := hS.tail
        have hcv := World.cell?_setCell_same' w2 ⟨w.heap.size + 1 + 1, 0, none⟩ (.bool false) (isSome_setCell t1)
        refine ⟨by simp, .inl ⟨_, _, rfl, run_takeDeferred t4, ?_⟩⟩
        have hc5 := cell_kept hcv (grownBy_putObj' _ D (.deferred none)) (fun r e => by cases e; exact ⟨_, t4, rfl⟩)
        refine ⟨.bool false, ?_, by rw [hbf.out], t2.trans (belowK_b (w := w) (Nat.le_refl _) _ D _ _ (by omega) t4 rfl rfl)⟩
        simp [results, Tryd.f77, go_sem, hc5]
  case stop =>
    rintro D cc pre W hD hpre ⟨⟨rfl, ⟨i, hi, hio⟩, hres⟩, hB⟩ hK
    gi_wp2
    refine ⟨by simp, .inl ⟨_, _, rfl, run_takeDeferred hK, ?_⟩⟩
    have hc5 := cell_kept hres (grownBy_putObj' _ D (.deferred none)) (fun r e => by cases e; exact ⟨_, hK, rfl⟩)
    have hbf : b = false := by
      rw [← HR.out, isLoadB, Bool.and_eq_false_iff]
      refine .inl ?_
      rw [List.all_eq_false]
      exact ⟨i, hpre.subset hi, by simp [hio]⟩
    refine ⟨.bool false, ?_, by rw [hbf], hB.trans (belowK_b (w := w) (Nat.le_refl _) W D _ _ (by omega) hK rfl rfl)⟩
    simp [results, Tryd.f77, go_sem, hc5]
end Go.Proofs.YtekigapeekjigaaDoor.mem

/-
  What isLoad of a basket says, in plain words.
-/
namespace Go.Proofs.YtekigapeekjigaaDoor.mem
open Go Go.RowKit garS heats meet load

theorem off_zero (a b : Nat) (ha : a < 256) (hb : b < 256) : a &&& (255 - b) = 0 ↔ ∀ k, k < 8 → a.testBit k = true → b.testBit k = true := by
  have e : ∀ k, (255 - b).testBit k = (decide (k < 8) && !b.testBit k) := fun k => by
    have := Nat.testBit_two_pow_sub_succ (x := b) (n := 8) hb k
    rwa [show 2 ^ 8 - (b + 1) = 255 - b by omega] at this
  constructor
  · intro h k hk h1
    have h2 : (a &&& (255 - b)).testBit k = false := by rw [h]; simp
    rw [Nat.testBit_and, h1, e k] at h2
    simp [hk] at h2
    exact h2
  · intro h
    apply Nat.eq_of_testBit_eq
    intro k
    rw [Nat.testBit_and, e k, Nat.zero_testBit]
    cases h1 : a.testBit k with
    | false => rfl
    | true =>
      by_cases hk : k < 8
      · rw [h k hk h1]; simp
      · simp [hk]
theorem memb_all : ∀ n, n ≤ 8 → memb (2 ^ n - 1) = List.range n
  | 0, _ => by decide +kernel
  | 1, _ => by decide +kernel
  | 2, _ => by decide +kernel
  | 3, _ => by decide +kernel
  | 4, _ => by decide +kernel
  | 5, _ => by decide +kernel
  | 6, _ => by decide +kernel
  | 7, _ => by decide +kernel
  | 8, _ => by decide +kernel
theorem wSum_range (gs : List Gar) : ∀ k, k ≤ gs.length → wSum gs (List.range k) = wAll (gs.take k)
  | 0, _ => rfl
  | k + 1, h => by
    obtain ⟨x, hx⟩ : ∃ x, gs[k]? = some x := ⟨gs[k]'(by omega), List.getElem?_eq_getElem _⟩
    rw [List.range_succ, wSum_snoc, wSum_range gs k (by omega), wAll_snoc hx, wAt, hx]
    rfl
/-- m has for each garment the set of those that it may meet -/
structure Meets (r : Nat → Int) (gs : List Gar) (m : Nat → Int) : Prop where
  lo : ∀ i, 0 ≤ m i ∧ m i < 256
  bit : ∀ i x k, gs[i]? = some x → ((m i).toNat.testBit k = true ↔ ∃ y, gs[k]? = some y ∧ meetB r x y = true)
theorem two_pow_le : ∀ n, n ≤ 8 → 2 ^ n - 1 < 256 ∧ (0 < n → 2 ^ n - 1 ≠ 0) ∧ ∀ k, (2 ^ n - 1).testBit k = decide (k < n) := fun n hn => by
  refine ⟨?_, ?_, fun k => Nat.testBit_two_pow_sub_one n k⟩
  · have := Nat.pow_le_pow_right (show 0 < 2 by decide) hn
    omega
  · intro h
    have := Nat.pow_le_pow_right (show 0 < 2 by decide) h
    omega
theorem meet_symm {r : Nat → Int} (hv : ∀ a b, a < 6 → b < 6 → bitZ (r a) b = bitZ (r b) a) {x y : Gar} (hx : x.c.toNat < 6) (hy : y.c.toNat < 6) : meetB r x y = meetB r y x := by
  unfold meetB
  rw [hv _ _ hx hy, Bool.and_comm (decide (x.n ≤ y.m))]
theorem isLoadB_all {r : Nat → Int} {gs : List Gar} {m : Nat → Int} (hm : Meets r gs m) (hold : Int) (n : Nat) (en : n = gs.length) (hn : n ≤ 8) (hs : ∀ x y, x ∈ gs → y ∈ gs → meetB r x y = meetB r y x) (hr : ∀ x ∈ gs, meetB r x x = true) :
    isLoadB gs m hold (2 ^ n - 1) = true ↔ 0 < n ∧ Pairs r gs ∧ wAll gs ≤ hold := by
  obtain ⟨p1, p2, p3⟩ := two_pow_le n hn
  have hw : wSum gs (List.range n) = wAll gs := by
    rw [wSum_range gs n (by omega), List.take_of_length_le (by omega)]
  have hall : (∀ i ∈ List.range n, offB m (2 ^ n - 1) i = 0) ↔ Pairs r gs := by
    have each : ∀ i x, gs[i]? = some x → (offB m (2 ^ n - 1) i = 0 ↔ ∀ k y, gs[k]? = some y → meetB r x y = true) := fun i x hx => by
      obtain ⟨l1, l2⟩ := hm.lo i
      have e := u8_andNot ((2 ^ n - 1 : Nat) : Int) (m i) (by omega) (by omega) l1 l2
      have e2 : offB m (2 ^ n - 1) i = (((2 ^ n - 1) &&& (255 - (m i).toNat) : Nat) : Int) := by simpa using e
      rw [e2, Int.natCast_eq_zero, off_zero _ _ p1 (by omega)]
      constructor
      · intro h k y hy
        have hk := (List.getElem?_eq_some_iff.1 hy).1
        obtain ⟨z, hz, hm2⟩ := (hm.bit i x k hx).1 (h k (by omega) (by rw [p3]; simp; omega))
        rw [hy] at hz
        rw [Option.some.inj hz]
        exact hm2
      · intro h k hk hb
        rw [p3] at hb
        have hkn : k < n := by simpa using hb
        exact (hm.bit i x k hx).2 ⟨gs[k]'(by omega), List.getElem?_eq_getElem _, h k _ (List.getElem?_eq_getElem _)⟩
    constructor
    · intro h i k x y hki hx hy
      have hi := (List.getElem?_eq_some_iff.1 hx).1
      exact (each i x hx).1 (h i (by rw [List.mem_range]; omega)) k y hy
    · intro h i hi
      rw [List.mem_range] at hi
      have hx : gs[i]? = some (gs[i]'(by omega)) := List.getElem?_eq_getElem _
      refine (each i _ hx).2 fun k y hy => ?_
      rcases Nat.lt_trichotomy k i with h1 | h1 | h1
      · exact h i k _ y h1 hx hy
      · subst h1
        rw [hx] at hy
        rw [← Option.some.inj hy]
        exact hr _ (List.mem_of_getElem? hx)
      · rw [hs _ _ (List.mem_of_getElem? hx) (List.mem_of_getElem? hy)]
        exact h k i y _ h1 hy hx
  rw [isLoadB, memb_all n hn, hw, Bool.and_eq_true, Bool.and_eq_true, List.all_eq_true]
  have h1 : (∀ i ∈ List.range n, (offB m (2 ^ n - 1) i == 0) = true) ↔ Pairs r gs := by
    rw [← hall]
    exact ⟨fun h i hi => by simpa using h i hi, fun h i hi => by simpa using h i hi⟩
  rw [h1]
  constructor
  · rintro ⟨a, b, c⟩
    refine ⟨?_, a, by simpa using c⟩
    rcases Nat.eq_zero_or_pos n with h | h
    · subst h; simp at b
    · exact h
  · rintro ⟨a, b, c⟩
    exact ⟨b, by rw [bne_iff_ne]; exact p2 a, by simpa using c⟩
end Go.Proofs.YtekigapeekjigaaDoor.mem

/-
  Sets of garments that numbers tell, in plain words.
-/
namespace Go.Proofs.YtekigapeekjigaaDoor.mem
open Go Go.RowKit garS heats meet load

/-- the garments ahead of j with the number k, as bits -/
def setK (ls : List Int) (k : Int) : Nat → Nat
  | 0 => 0
  | j + 1 => if ls[j]? = some k then setK ls k j ||| 2 ^ j else setK ls k j
theorem setK_bit (ls : List Int) (k : Int) : ∀ j i, (setK ls k j).testBit i = (decide (i < j) && decide (ls[i]? = some k))
  | 0, i => by simp [setK]
  | j + 1, i => by
    have ih := setK_bit ls k j i
    unfold setK
    by_cases h : ls[j]? = some k
    · rw [if_pos h, Nat.testBit_or, ih, Nat.testBit_two_pow]
      by_cases e : j = i
      · subst e; simp [h]
      · by_cases h1 : i < j
        · simp [h1, e, show i < j + 1 by omega]
        · simp [h1, e, show ¬ i < j + 1 by omega]
    · rw [if_neg h, ih]
      by_cases e : i = j
      · subst e; simp [h]
      · by_cases h1 : i < j
        · simp [h1, show i < j + 1 by omega]
        · simp [h1, show ¬ i < j + 1 by omega]
theorem setK_lt (ls : List Int) (k : Int) (j : Nat) (hj : j ≤ 8) : setK ls k j < 256 := by
  have h : setK ls k j < 2 ^ 8 := Nat.lt_pow_two_of_testBit _ fun i hi => by
    rw [setK_bit]
    simp [show ¬ i < j by omega]
  exact h
theorem setK_in (ls : List Int) (k : Int) (j : Nat) : ∀ i, i < 8 → (setK ls k j).testBit i = true → i < j := fun i _ h => by
  rw [setK_bit] at h
  simp at h
  exact h.1
/-- the garments ahead of j with the number k -/
def withL (gs : List Gar) (ls : List Int) (k : Int) : Nat → List Gar
  | 0 => []
  | j + 1 => if ls[j]? = some k then withL gs ls k j ++ (gs[j]?).toList else withL gs ls k j
theorem withL_len (gs : List Gar) (ls : List Int) (k : Int) : ∀ j, (withL gs ls k j).length ≤ j
  | 0 => Nat.le_refl _
  | j + 1 => by
    have := withL_len gs ls k j
    unfold withL
    split
    · rw [List.length_append]
      have : (gs[j]?).toList.length ≤ 1 := by cases gs[j]? <;> simp
      omega
    · omega
theorem withL_mem (gs : List Gar) (ls : List Int) (k : Int) (y : Gar) : ∀ j, y ∈ withL gs ls k j ↔ ∃ i, i < j ∧ ls[i]? = some k ∧ gs[i]? = some y
  | 0 => by simp [withL]
  | j + 1 => by
    have ih := withL_mem gs ls k y j
    unfold withL
    by_cases h : ls[j]? = some k
    · rw [if_pos h, List.mem_append, ih]
      constructor
      · rintro (⟨i, h1, h2, h3⟩ | h1)
        · exact ⟨i, by omega, h2, h3⟩
        · exact ⟨j, by omega, h, by simpa using h1⟩
      · rintro ⟨i, h1, h2, h3⟩
        by_cases e : i = j
        · subst e; exact .inr (by simpa using h3)
        · exact .inl ⟨i, by omega, h2, h3⟩
    · rw [if_neg h, ih]
      constructor
      · rintro ⟨i, h1, h2, h3⟩
        exact ⟨i, by omega, h2, h3⟩
      · rintro ⟨i, h1, h2, h3⟩
        by_cases e : i = j
        · subst e; exact absurd h2 h
        · exact ⟨i, by omega, h2, h3⟩
theorem withL_in (gs : List Gar) (ls : List Int) (k : Int) (j : Nat) : ∀ y ∈ withL gs ls k j, y ∈ gs := fun y h => by
  obtain ⟨i, _, _, h3⟩ := (withL_mem gs ls k y j).1 h
  exact List.mem_of_getElem? h3
theorem pairs_snoc (r : Nat → Int) (l : List Gar) (x : Gar) : Pairs r (l ++ [x]) ↔ Pairs r l ∧ ∀ y ∈ l, meetB r x y = true := by
  constructor
  · intro h
    constructor
    · intro i k a b hk ha hb
      have hi := (List.getElem?_eq_some_iff.1 ha).1
      exact h i k a b hk (by rw [List.getElem?_append_left hi]; exact ha) (by rw [List.getElem?_append_left (by omega)]; exact hb)
    · intro y hy
      obtain ⟨k, hk⟩ := List.mem_iff_getElem?.1 hy
      have hl := (List.getElem?_eq_some_iff.1 hk).1
      exact h l.length k x y hl (by simp) (by rw [List.getElem?_append_left hl]; exact hk)
  · rintro ⟨h1, h2⟩ i k a b hk ha hb
    have hi := (List.getElem?_eq_some_iff.1 ha).1
    rw [List.length_append, List.length_singleton] at hi
    rw [List.getElem?_append_left (by omega)] at hb
    by_cases e : i < l.length
    · rw [List.getElem?_append_left e] at ha
      exact h1 i k a b hk ha hb
    · obtain rfl : i = l.length := by omega
      simp at ha
      subst ha
      exact h2 b (List.mem_of_getElem? hb)
theorem pairs_nil (r : Nat → Int) : Pairs r [] := fun i k a b _ ha _ => by simp at ha
theorem wAll_append (l : List Gar) (x : Gar) : wAll (l ++ [x]) = wAll l + x.g := by simp [wAll]
theorem withL_pairs (r : Nat → Int) (gs : List Gar) (ls : List Int) (k : Int) : ∀ j, j ≤ gs.length → (Pairs r (withL gs ls k j) ↔ ∀ a b x y, b < a → a < j → ls[a]? = some k → ls[b]? = some k → gs[a]? = some x → gs[b]? = some y → meetB r x y = true)
  | 0, _ => ⟨fun _ a b x y _ h => absurd h (by omega), fun _ => pairs_nil r⟩
  | j + 1, hj => by
    have ih := withL_pairs r gs ls k j (by omega)
    obtain ⟨z, hz⟩ : ∃ z, gs[j]? = some z := ⟨gs[j]'(by omega), List.getElem?_eq_getElem _⟩
    unfold withL
    by_cases h : ls[j]? = some k
    · rw [if_pos h, hz, Option.toList_some, pairs_snoc, ih]
      constructor
      · rintro ⟨h1, h2⟩ a b x y hb ha la lb ga gb
        by_cases e : a = j
        · subst e
          rw [hz] at ga
          obtain rfl := Option.some.inj ga
          exact h2 y ((withL_mem gs ls k y _).2 ⟨b, hb, lb, gb⟩)
        · exact h1 a b x y hb (by omega) la lb ga gb
      · intro h1
        refine ⟨fun a b x y hb ha => h1 a b x y hb (by omega), fun y hy => ?_⟩
        obtain ⟨b, hb, lb, gb⟩ := (withL_mem gs ls k y _).1 hy
        exact h1 j b z y hb (by omega) h lb hz gb
    · rw [if_neg h, ih]
      constructor
      · intro h1 a b x y hb ha la
        by_cases e : a = j
        · subst e; exact absurd la h
        · exact h1 a b x y hb (by omega) la
      · intro h1 a b x y hb ha
        exact h1 a b x y hb (by omega)
theorem memb_filter (s : Nat) (p : Nat → Bool) (n : Nat) (hn : n ≤ 8) (h : ∀ i, i < 8 → s.testBit i = (decide (i < n) && p i)) : memb s = (List.range n).filter p := by
  unfold memb
  have e1 : (List.range 8).filter s.testBit = (List.range 8).filter (fun i => decide (i < n) && p i) := List.filter_congr fun i hi => h i (by simpa using hi)
  rw [e1]
  obtain ⟨m, hm⟩ : ∃ m, 8 = n + m := ⟨8 - n, by omega⟩
  have e3 : List.range 8 = List.range n ++ (List.range m).map (n + ·) := by rw [hm, List.range_add]
  rw [e3, List.filter_append]
  have e2 : ((List.range m).map (n + ·)).filter (fun i => decide (i < n) && p i) = [] := by
    rw [List.filter_eq_nil_iff]
    intro a ha
    obtain ⟨b, _, rfl⟩ := List.mem_map.1 ha
    simp [show ¬ n + b < n by omega]
  rw [e2, List.append_nil]
  exact List.filter_congr fun i hi => by simp at hi; simp [hi]
theorem memb_setK (ls : List Int) (k : Int) (n : Nat) (hn : n ≤ 8) : memb (setK ls k n) = (List.range n).filter (fun i => decide (ls[i]? = some k)) :=
  memb_filter _ _ n hn fun i _ => setK_bit ls k n i
theorem wSum_with (gs : List Gar) (ls : List Int) (k : Int) : ∀ n, n ≤ gs.length → wSum gs ((List.range n).filter (fun i => decide (ls[i]? = some k))) = wAll (withL gs ls k n)
  | 0, _ => rfl
  | n + 1, hn => by
    have ih := wSum_with gs ls k n (by omega)
    obtain ⟨z, hz⟩ : ∃ z, gs[n]? = some z := ⟨gs[n]'(by omega), List.getElem?_eq_getElem _⟩
    rw [List.range_succ, List.filter_append]
    unfold withL
    by_cases h : ls[n]? = some k
    · rw [if_pos h, hz, Option.toList_some, wAll_append, ← ih]
      simp only [List.filter_cons, List.filter_nil, h, decide_true, if_true]
      rw [wSum_snoc, wAt, hz]
      rfl
    · rw [if_neg h, ← ih]
      simp [List.filter_cons, h]
/-- what isLoad says of any set -/
theorem isLoadB_iff {r : Nat → Int} {gs : List Gar} {m : Nat → Int} (hm : Meets r gs m) (hold : Int) (s : Nat) (hs : s < 256) (hin : ∀ i, i < 8 → s.testBit i = true → i < gs.length) :
    isLoadB gs m hold s = true ↔ s ≠ 0 ∧ (∀ i k x y, s.testBit i = true → s.testBit k = true → gs[i]? = some x → gs[k]? = some y → meetB r x y = true) ∧ wSum gs (memb s) ≤ hold := by
  have h8 : ∀ i, s.testBit i = true → i < 8 := fun i h => by
    apply Classical.byContradiction
    intro h1
    rw [Nat.testBit_lt_two_pow (Nat.lt_of_lt_of_le hs (Nat.pow_le_pow_right (show 0 < 2 by decide) (show 8 ≤ i by omega)))] at h
    cases h
  have hall : (∀ i ∈ memb s, offB m s i = 0) ↔ ∀ i k x y, s.testBit i = true → s.testBit k = true → gs[i]? = some x → gs[k]? = some y → meetB r x y = true := by
    have each : ∀ i x, gs[i]? = some x → (offB m s i = 0 ↔ ∀ k y, s.testBit k = true → gs[k]? = some y → meetB r x y = true) := fun i x hx => by
      obtain ⟨l1, l2⟩ := hm.lo i
      have e := u8_andNot (s : Int) (m i) (by omega) (by omega) l1 l2
      have e2 : offB m s i = ((s &&& (255 - (m i).toNat) : Nat) : Int) := by simpa using e
      rw [e2, Int.natCast_eq_zero, off_zero _ _ hs (by omega)]
      constructor
      · intro h k y hk hy
        obtain ⟨z, hz, hm2⟩ := (hm.bit i x k hx).1 (h k (h8 k hk) hk)
        rw [hy] at hz
        rw [Option.some.inj hz]
        exact hm2
      · intro h k hk hb
        have hkn := hin k hk hb
        exact (hm.bit i x k hx).2 ⟨gs[k]'hkn, List.getElem?_eq_getElem _, h k _ hb (List.getElem?_eq_getElem _)⟩
    constructor
    · intro h i k x y hi hk hx hy
      exact (each i x hx).1 (h i (memb_mem.2 ⟨h8 i hi, hi⟩)) k y hk hy
    · intro h i hi
      obtain ⟨h1, h2⟩ := memb_mem.1 hi
      have hx : gs[i]? = some (gs[i]'(hin i h1 h2)) := List.getElem?_eq_getElem _
      exact (each i _ hx).2 fun k y hk hy => h i k _ y h2 hk hx hy
  rw [isLoadB, Bool.and_eq_true, Bool.and_eq_true, List.all_eq_true]
  have h1 : (∀ i ∈ memb s, (offB m s i == 0) = true) ↔ ∀ i k x y, s.testBit i = true → s.testBit k = true → gs[i]? = some x → gs[k]? = some y → meetB r x y = true := by
    rw [← hall]
    exact ⟨fun h i hi => by simpa using h i hi, fun h i hi => by simpa using h i hi⟩
  rw [h1]
  constructor
  · rintro ⟨a, b, c⟩
    exact ⟨by simpa using b, a, by simpa using c⟩
  · rintro ⟨a, b, c⟩
    exact ⟨b, by simpa using a, by simpa using c⟩
theorem isLoadB_set {r : Nat → Int} {gs : List Gar} {m : Nat → Int} (hm : Meets r gs m) (hold : Int) (ls : List Int) (k : Int) (n : Nat) (hn : n ≤ 8) (hng : n ≤ gs.length) (hsy : ∀ x y, x ∈ gs → y ∈ gs → meetB r x y = meetB r y x) (hre : ∀ x ∈ gs, meetB r x x = true) :
    isLoadB gs m hold (setK ls k n) = true ↔ setK ls k n ≠ 0 ∧ Pairs r (withL gs ls k n) ∧ wAll (withL gs ls k n) ≤ hold := by
  rw [isLoadB_iff hm hold _ (setK_lt ls k n hn) (fun i h1 h2 => Nat.lt_of_lt_of_le (setK_in ls k n i h1 h2) hng), memb_setK ls k n hn, wSum_with gs ls k n hng, withL_pairs r gs ls k n hng]
  have e : (∀ i k' x y, (setK ls k n).testBit i = true → (setK ls k n).testBit k' = true → gs[i]? = some x → gs[k']? = some y → meetB r x y = true) ↔
      ∀ a b x y, b < a → a < n → ls[a]? = some k → ls[b]? = some k → gs[a]? = some x → gs[b]? = some y → meetB r x y = true := by
    have bit : ∀ i, (setK ls k n).testBit i = true ↔ i < n ∧ ls[i]? = some k := fun i => by rw [setK_bit]; simp
    constructor
    · intro h a b x y hb ha la lb
      exact h a b x y ((bit a).2 ⟨ha, la⟩) ((bit b).2 ⟨by omega, lb⟩)
    · intro h i j x y hi hj gi gj
      obtain ⟨i1, i2⟩ := (bit i).1 hi
      obtain ⟨j1, j2⟩ := (bit j).1 hj
      rcases Nat.lt_trichotomy j i with h1 | h1 | h1
      · exact h i j x y h1 i1 i2 j2 gi gj
      · subst h1
        rw [gi] at gj
        rw [← Option.some.inj gj]
        exact hre _ (List.mem_of_getElem? gi)
      · rw [hsy _ _ (List.mem_of_getElem? gi) (List.mem_of_getElem? gj)]
        exact h j i y x h1 j1 j2 i2 gj gi
  rw [e]
theorem setK_none (gs : List Gar) (ls : List Int) (k : Int) : ∀ n, setK ls k n = 0 → withL gs ls k n = []
  | 0, _ => rfl
  | n + 1, h => by
    unfold setK at h
    unfold withL
    by_cases e : ls[n]? = some k
    · rw [if_pos e] at h
      have h1 := congrArg (fun x => x.testBit n) h
      simp [Nat.testBit_or, Nat.testBit_two_pow] at h1
    · rw [if_neg e] at h ⊢
      exact setK_none gs ls k n h
/-- are loads right -/
def Right (r : Nat → Int) (gs : List Gar) (hold : Int) (ls : List Int) : Prop := ls.length = gs.length ∧ (∀ x ∈ ls, 0 ≤ x ∧ x < 8) ∧ ∀ k : Nat, k < 8 → Pairs r (withL gs ls k gs.length) ∧ wAll (withL gs ls k gs.length) ≤ hold
/-- as the program looks at it -/
def RightB (gs : List Gar) (m : Nat → Int) (hold : Int) (ls : List Int) : Prop := ls.length = gs.length ∧ (∀ x ∈ ls, 0 ≤ x ∧ x < 8) ∧ ∀ k : Nat, k < 8 → setK ls k gs.length = 0 ∨ isLoadB gs m hold (setK ls k gs.length) = true
theorem right_iff {r : Nat → Int} {gs : List Gar} {m : Nat → Int} (hm : Meets r gs m) (hold : Int) (h0 : 0 ≤ hold) (ls : List Int) (hn : gs.length ≤ 8) (hsy : ∀ x y, x ∈ gs → y ∈ gs → meetB r x y = meetB r y x) (hre : ∀ x ∈ gs, meetB r x x = true) : RightB gs m hold ls ↔ Right r gs hold ls := by
  unfold RightB Right
  refine and_congr_right fun _ => and_congr_right fun _ => forall_congr' fun k => imp_congr_right fun _ => ?_
  rw [isLoadB_set hm hold ls k gs.length hn (Nat.le_refl _) hsy hre]
  constructor
  · rintro (h | h)
    · rw [setK_none gs ls k _ h]
      exact ⟨pairs_nil r, h0⟩
    · exact h.2
  · intro h
    by_cases e : setK ls k gs.length = 0
    · exact .inl e
    · exact .inr ⟨e, h⟩
end Go.Proofs.YtekigapeekjigaaDoor.mem

/-
  Loads by greed, in plain words.
-/
namespace Go.Proofs.YtekigapeekjigaaDoor.mem
open Go Go.RowKit garS heats meet load

/-- garment k can be with those that have the number a -/
def Joins1 (r : Nat → Int) (gs : List Gar) (hold : Int) (ls : List Int) (k a : Nat) : Prop := ∀ x, gs[k]? = some x → Pairs r (withL gs ls a k ++ [x]) ∧ wAll (withL gs ls a k ++ [x]) ≤ hold
/-- the numbers that greed gives the first k garments, and how many loads these are -/
inductive Greedy (r : Nat → Int) (gs : List Gar) (hold : Int) : Nat → List Int → Nat → Prop
  | zero : Greedy r gs hold 0 [] 0
  | next {k : Nat} {ls : List Int} {u a : Nat} : Greedy r gs hold k ls u → a ≤ u → (∀ j, j < a → ¬ Joins1 r gs hold ls k j) → (a < u → Joins1 r gs hold ls k a) → Greedy r gs hold (k + 1) (ls ++ [(a : Int)]) (max u (a + 1))
theorem Greedy.len {r : Nat → Int} {gs : List Gar} {hold : Int} {k : Nat} {ls : List Int} {u : Nat} (h : Greedy r gs hold k ls u) : ls.length = k := by
  induction h with
  | zero => rfl
  | next _ _ _ _ ih => simp [ih]
theorem Greedy.le {r : Nat → Int} {gs : List Gar} {hold : Int} {k : Nat} {ls : List Int} {u : Nat} (h : Greedy r gs hold k ls u) : u ≤ k := by
  induction h with
  | zero => exact Nat.le_refl _
  | next _ ha _ _ ih => omega
theorem Greedy.lt {r : Nat → Int} {gs : List Gar} {hold : Int} {k : Nat} {ls : List Int} {u : Nat} (h : Greedy r gs hold k ls u) : ∀ x ∈ ls, 0 ≤ x ∧ x < (u : Int) := by
  induction h with
  | zero => intro x hx; simp at hx
  | next _ ha _ _ ih =>
    intro x hx
    rcases List.mem_append.1 hx with h1 | h1
    · have := ih x h1
      omega
    · rw [List.mem_singleton.1 h1]
      omega
theorem Greedy.one {r : Nat → Int} {gs : List Gar} {hold : Int} {k : Nat} {ls ls' : List Int} {u u' : Nat} (h : Greedy r gs hold k ls u) (h' : Greedy r gs hold k ls' u') : ls = ls' ∧ u = u' := by
  induction h generalizing ls' u' with
  | zero =>
    cases h'
    exact ⟨rfl, rfl⟩
  | @next k ls u a h1 ha hno hyes ih =>
    cases h' with
    | @next _ ls2 u2 a2 h2 ha2 hno2 hyes2 =>
      obtain ⟨rfl, rfl⟩ := ih h2
      have e : a = a2 := by
        rcases Nat.lt_trichotomy a a2 with h3 | h3 | h3
        · exact absurd (hyes (by omega)) (hno2 a h3)
        · exact h3
        · exact absurd (hyes2 (by omega)) (hno a2 h3)
      subst e
      exact ⟨rfl, rfl⟩
theorem greedy_exists (r : Nat → Int) (gs : List Gar) (hold : Int) : ∀ k, ∃ ls u, Greedy r gs hold k ls u
  | 0 => ⟨[], 0, .zero⟩
  | k + 1 => by
    obtain ⟨ls, u, h⟩ := greedy_exists r gs hold k
    have first : ∀ m, m ≤ u → ∃ a, a ≤ u ∧ (∀ j, j < a → ¬ Joins1 r gs hold ls k j) ∧ (a < u → Joins1 r gs hold ls k a) ∨ ∀ j, j < m → ¬ Joins1 r gs hold ls k j := fun m => by
      induction m with
      | zero => intro _; exact ⟨0, .inr fun j hj => absurd hj (by omega)⟩
      | succ m ih =>
        intro hm
        obtain ⟨a, h1 | h1⟩ := ih (by omega)
        · exact ⟨a, .inl h1⟩
        · by_cases hj : Joins1 r gs hold ls k m
          · exact ⟨m, .inl ⟨by omega, h1, fun _ => hj⟩⟩
          · refine ⟨0, .inr fun j hj2 => ?_⟩
            by_cases e : j = m
            · subst e; exact hj
            · exact h1 j (by omega)
    obtain ⟨a, ⟨h1, h2, h3⟩ | h1⟩ := first u (Nat.le_refl _)
    · exact ⟨_, _, h.next h1 h2 h3⟩
    · exact ⟨_, _, h.next (Nat.le_refl u) h1 fun h => absurd h (Nat.lt_irrefl _)⟩
/-- numbers that none of the garments has: no garments -/
theorem withL_more (gs : List Gar) (ls : List Int) (x : Int) (k : Int) : ∀ j, j ≤ ls.length → withL gs (ls ++ [x]) k j = withL gs ls k j
  | 0, _ => rfl
  | j + 1, h => by
    unfold withL
    rw [withL_more gs ls x k j (by omega), List.getElem?_append_left (by omega)]
theorem setK_more (ls : List Int) (x : Int) (k : Int) : ∀ j, j ≤ ls.length → setK (ls ++ [x]) k j = setK ls k j
  | 0, _ => rfl
  | j + 1, h => by
    unfold setK
    rw [setK_more ls x k j (by omega), List.getElem?_append_left (by omega)]
theorem setK_unused (ls : List Int) (u : Nat) (h : ∀ x ∈ ls, 0 ≤ x ∧ x < (u : Int)) (a : Nat) (ha : u ≤ a) : ∀ j, setK ls a j = 0
  | 0 => rfl
  | j + 1 => by
    unfold setK
    rw [if_neg fun e => by have := h _ (List.mem_of_getElem? e); omega]
    exact setK_unused ls u h a ha j
/-- the set with one garment more -/
theorem setK_join (ls : List Int) (a : Nat) (k : Nat) (hk : ls.length = k) : setK (ls ++ [(a : Int)]) a (k + 1) = setK ls a k ||| 2 ^ k := by
  subst hk
  rw [setK]
  rw [if_pos (by simp), setK_more ls _ _ _ (Nat.le_refl _)]
theorem setK_other (ls : List Int) (a : Nat) (k : Nat) (hk : ls.length = k) (b : Nat) (hb : b ≠ a) : setK (ls ++ [(a : Int)]) b (k + 1) = setK ls b k := by
  subst hk
  rw [setK]
  rw [if_neg (by simp; omega), setK_more ls _ _ _ (Nat.le_refl _)]
theorem withL_join (gs : List Gar) (ls : List Int) (a : Nat) (k : Nat) (hk : ls.length = k) {x : Gar} (hx : gs[k]? = some x) : withL gs (ls ++ [(a : Int)]) a (k + 1) = withL gs ls a k ++ [x] := by
  subst hk
  rw [withL]
  rw [if_pos (by simp), withL_more gs ls _ _ _ (Nat.le_refl _), hx]
  rfl
/-- the program's question is the model's -/
theorem joins_iff {r : Nat → Int} {gs : List Gar} {m : Nat → Int} (hm : Meets r gs m) (hold : Int) (ls : List Int) (k a : Nat) (hk : ls.length = k) (h8 : k < gs.length) (hn : gs.length ≤ 8) (hsy : ∀ x y, x ∈ gs → y ∈ gs → meetB r x y = meetB r y x) (hre : ∀ x ∈ gs, meetB r x x = true) :
    isLoadB gs m hold (setK ls a k ||| 2 ^ k) = true ↔ Joins1 r gs hold ls k a := by
  have hx : gs[k]? = some (gs[k]'h8) := List.getElem?_eq_getElem _
  have h := isLoadB_set hm hold (ls ++ [(a : Int)]) a (k + 1) (by omega) (by omega) hsy hre
  rw [setK_join ls a k hk, withL_join gs ls a k hk hx] at h
  rw [h]
  have hne : setK ls a k ||| 2 ^ k ≠ 0 := fun e => by
    have h1 := congrArg (fun x => x.testBit k) e
    simp [Nat.testBit_or, Nat.testBit_two_pow] at h1
  constructor
  · rintro ⟨_, h1⟩ x hx2
    rw [hx] at hx2
    rw [← Option.some.inj hx2]
    exact h1
  · intro h1
    exact ⟨hne, h1 _ hx⟩
/-- an empty load takes each garment -/
theorem joins_new {r : Nat → Int} {gs : List Gar} {hold : Int} {ls : List Int} {u : Nat} (hlt : ∀ x ∈ ls, 0 ≤ x ∧ x < (u : Int)) (k a : Nat) (ha : u ≤ a) (hw : ∀ x ∈ gs, x.g ≤ hold) : Joins1 r gs hold ls k a := fun x hx => by
  rw [setK_none gs ls a k (setK_unused ls u hlt a ha k)]
  refine ⟨?_, ?_⟩
  · rw [pairs_snoc]
    exact ⟨pairs_nil r, fun y hy => by simp at hy⟩
  · rw [wAll_append]
    have := hw x (List.mem_of_getElem? hx)
    simp [wAll]
    omega
end Go.Proofs.YtekigapeekjigaaDoor.mem

/-
  Lists of garments of the call's own; contract of the model's l01With.
-/
namespace Go.Proofs.YtekigapeekjigaaDoor.mem
open Go Go.RowKit errs garS heats meet load sl

theorem Gar.len4 (gs : List Gar) : ∀ x ∈ gs, (Gar.cells x).length = 4 := fun _ _ => rfl
/-- a list of garments of the call's own -/
def OwnGar (w : World) (ys : List Gar) (o : Ending) (w' : World) : Prop :=
  ∃ v, o = .returned v ∧ w'.ownsRow w.heap.size 96 4 v ys.length (ys.flatMap Gar.cells) ∧ Below w.heap.size w w'
theorem ownsGar_void (w : World) {b : Nat} (hb : b ≤ w.heap.size) : (w.alloc (.cells #[] 96)).ownsRow b 96 4 (.slice (some ⟨w.heap.size, 0, none⟩) 0 0) ([] : List Gar).length (([] : List Gar).flatMap Gar.cells) :=
  World.ownsRow_lit w #[] 0 hb (by unfold maxLen; simp) rfl
/-- an owned row reads as its garments -/
theorem gs_of_owns {w : World} {base : Nat} {e : TypeId} {A : Option Addr} {n c : Nat} {gs : List Gar} (h : w.ownsRow base e 4 (.slice A n c) n (gs.flatMap Gar.cells)) (hf : ∀ x ∈ gs, x.Fits) : GS w w.heap.size A gs := by
  have hlen : gs.length * 4 = n * 4 := by rw [← flat_len (Gar.len4 gs)]; exact h.1
  have hn : gs.length = n := by omega
  rcases h.2 with ⟨hv, rfl⟩ | ⟨g, cap, cur, hv, hg, hh, hrest⟩
  · have : gs = [] := List.length_eq_zero_iff.1 hn
    subst this
    exact ⟨fun k x hx => by simp at hx, hf⟩
  · simp only [Value.slice.injEq, true_and] at hv
    obtain ⟨rfl, rfl⟩ := hv
    refine ⟨fun k x hx => ?_, hf⟩
    have hc : ∀ j v, (Gar.cells x)[j]? = some v → w.cell? ⟨g, k * 4 + j, none⟩ = some v := fun j v hv => by
      have := h.cells (g := g) rfl (k * 4 + j) v (flat_get (Gar.len4 gs) hx hv)
      rwa [add_lit] at this
    refine ⟨_, rfl, (Array.getElem?_eq_some_iff.1 hh).1, ?_⟩
    rw [add_lit]
    exact ⟨hc 0 _ rfl, hc 1 _ rfl, hc 2 _ rfl, hc 3 _ rfl⟩
theorem gar_info : (Tryd.prog.info? 96).map (fun i => (i.zero, i.size, i.bytes)) = some (some (.agg #[.int .u8 0, .int .i8 0, .int .i8 0, .int .i16 0]), 4, 6) := by kernel_rfl
theorem four_new (w : World) (a b c d : Value) (T : TypeId) : ∀ (j : Nat) x, [a, b, c, d][j]? = some x → (w.alloc (.cells #[a, b, c, d] T)).cell? ((⟨w.heap.size, 0, none⟩ : Addr).add j) = some x := by
  intro j x hj
  rw [add_lit, cell_of_row _ _ _ _ _ _ (heap_alloc_new w _)]
  simpa using hj
theorem four_cell {a b c d : Value} (ha : a.oneCell' = true) (hb : b.oneCell' = true) (hc : c.oneCell' = true) (hd : d.oneCell' = true) : ∀ x ∈ [a, b, c, d], x.oneCell' = true := by
  intro x hx
  simp only [List.mem_cons, List.not_mem_nil, or_false] at hx
  rcases hx with rfl | rfl | rfl | rfl <;> assumption
theorem withL_yes {gs : List Gar} {ls : List Int} {k : Int} {j : Nat} {x : Gar} (hl : ls[j]? = some k) (hx : gs[j]? = some x) : withL gs ls k (j + 1) = withL gs ls k j ++ [x] := by
  rw [withL, if_pos hl, hx]
  rfl
theorem withL_no {gs : List Gar} {ls : List Int} {k : Int} {j : Nat} {z : Int} (hl : ls[j]? = some z) (hz : z ≠ k) : withL gs ls k (j + 1) = withL gs ls k j := by
  rw [withL, if_neg (by rw [hl]; simpa using hz)]
set_option maxRecDepth 100000 in
set_option maxHeartbeats 4000000 in
theorem l01With_any (A : Option Addr) (n c : Nat) (gs : List Gar) (hn : n = gs.length) (hs : n ≤ 1048576) (A' : Option Addr) (m c' : Nat) (ls : List Int) (em : m = ls.length) (hm : m ≤ n) (z : Int) (w : World) (hg : GS w w.heap.size A gs) (ho : Sl intS.C 1 w w.heap.size A' ls) :
    Calls Tryd.prog 74 #[.slice A n c, .slice A' m c', .int .i64 z] w (OwnGar w (withL gs ls z m)) := by
  obtain ⟨i0, hi, hz0, hz1, hz2⟩ := info_parts gar_info
  have En := Lib.hid hn
  have Em := Lib.hid em
  clear hn em
  go_enter Tryd.func74, Tryd.ntmps74
  have HB0 := Lib.hid ((Below.refl w.heap.size w).alloc (Nat.le_refl _) (.cells #[] 96))
  have HP0 := Lib.hid (ownsGar_void w (Nat.le_refl _))
  go_wp2_with fail
  go_loopw [7, 8] (fun vo vi wr => ∃ k : Nat, k ≤ m ∧ vi = .int .i64 k ∧ wr.ownsRow w.heap.size 96 4 vo (withL gs ls z k).length ((withL gs ls z k).flatMap Gar.cells) ∧ Below w.heap.size w wr) (fun _ vi _ => m - (intOf vi).toNat)
  case atStart => exact ⟨0, by omega, rfl, HP0.out, HB0.out⟩
  case round =>
    clear HB0 HP0
    obtain ⟨k, hk, rfl, hP, hB⟩ := hrel
    have HP := Lib.hid hP
    have HB := Lib.hid hB
    by_cases hlt : k < m
    · obtain ⟨y, hy⟩ : ∃ y, ls[k]? = some y := ⟨ls[k]'(by have := Em.out; omega), List.getElem?_eq_getElem _⟩
      obtain ⟨a, rfl, hab, hat⟩ := (ho.below hB).at_ k _ hy
      have q0 := intS.at_ hat
      obtain ⟨x, hx⟩ : ∃ x, gs[k]? = some x := ⟨gs[k]'(by have := En.out; omega), List.getElem?_eq_getElem _⟩
      obtain ⟨a', rfl, hab', hg0, hg1, hg2, hg3⟩ := (hg.below hB).at_ k x hx
      have hlen := withL_len gs ls z k
      have hBs := hB.size
      have HX := Lib.hid hx
      have HY := Lib.hid hy
      clear hx hy hat hP hB
      by_cases hyz : y = z
      · have HT := Lib.hid (withL_yes (hyz ▸ HY.out) HX.out)
        have d1 : (y == z) = true := by rw [beq_iff_eq]; exact hyz
        clear hyz
        go_wp2_with (first | (at_builtin; refine wpList_append_own _ rfl (.tmp 22) (.tmp 27) 36 rfl w.heap.size 96 i0 (.agg #[.int .u8 0, .int .i8 0, .int .i8 0, .int .i16 0]) 4 6 Tryd.underlying36 hi hz0 hz1 hz2 rfl (by decide) _ _ _ rfl (HP.out.alloc _) ⟨_, 0, none⟩ 1 1 [.int .u8 x.c, .int .i8 x.n, .int .i8 x.m, .int .i16 x.g] rfl rfl (four_new _ _ _ _ _ _) (four_cell rfl rfl rfl rfl) (by unfold maxLen; omega) (by omega) (by simp; omega) ?_; intro v3 w3 hP3 hgr _; have HB3 := Lib.hid (Below.grown (HB.out.alloc HB.out.size _) hgr (by have := HB.out.size; simp; omega) (fun g hg => (HP.out.lt g hg).1)); have HP3 := Lib.hid hP3; clear hP3 hgr) | fail)
        go_roundw
        case rel =>
          have hp3 := HP3.out
          have e : (withL gs ls z (k + 1)).flatMap Gar.cells = (withL gs ls z k).flatMap Gar.cells ++ [.int .u8 x.c, .int .i8 x.n, .int .i8 x.m, .int .i16 x.g] := by rw [HT.out]; simp [Gar.cells]
          have e2 : (withL gs ls z (k + 1)).length = (withL gs ls z k).length + 1 := by rw [HT.out]; simp
          rw [← e, ← e2] at hp3
          exact ⟨k + 1, by omega, by go_num, hp3, HB3.out⟩
        case measure => simp [intOf]; omega
      · have HT := Lib.hid (withL_no (gs := gs) HY.out hyz)
        have d1 : (y == z) = false := by rw [beq_eq_false_iff_ne]; exact hyz
        clear hyz
        go_wp2_with fail
        go_roundw
        case rel => exact ⟨k + 1, by omega, by go_num, by rw [HT.out]; exact HP.out, HB.out⟩
        case measure => simp [intOf]; omega
    · obtain rfl : k = m := by omega
      have HR : Hid (∀ v, wr.ownsRow w.heap.size 96 4 v (withL gs ls z k).length ((withL gs ls z k).flatMap Gar.cells) → OwnGar w (withL gs ls z k) (.returned v) wr) := Lib.hid fun v h => ⟨v, rfl, h, HB.out⟩
      clear hP hB
      go_wp2_with fail
      go_ret
      exact HR.out _ HP.out
end Go.Proofs.YtekigapeekjigaaDoor.mem

/-
  Contracts of the program's small functions for loads, and of the model's IsLoad.
-/
namespace Go.Proofs.YtekigapeekjigaaDoor.load
open Go.RowKit errs garS heats meet

theorem checkHold_any (hold : Int) {w : World} {B : Nat} {e : Nat → Addr} (h : Errs w B e) :
    Calls Tryd.prog 67 #[.int .i64 hold] w fun o w' => o = .returned (errOf e (if 1 ≤ hold ∧ hold ≤ 20000 then 0 else 2)) ∧ w = w' := by
  go_enter Tryd.func67, Tryd.ntmps67
  go_wp2_with fail
  refine (checkWithin_any hold 1 20000 h).mono ?_
  rintro o w1 ⟨rfl, rfl⟩
  go_wp2_with fail
  all_goals go_ret
  all_goals exact ⟨rfl, rfl⟩
theorem pow_all (n : Nat) (hn : n ≤ 8) : IntKind.u8.wrap (IntKind.u8.wrap (2 ^ n : Int) - 1) = ((2 ^ n - 1 : Nat) : Int) := by
  match n, hn with
  | 0, _ => decide
  | 1, _ => decide
  | 2, _ => decide
  | 3, _ => decide
  | 4, _ => decide
  | 5, _ => decide
  | 6, _ => decide
  | 7, _ => decide
  | 8, _ => decide
theorem all_any (A : Option Addr) (n c : Nat) (hn : n ≤ 8) (m : Nat → Int) (hold : Int) (w : World) :
    Calls Tryd.prog 88 #[mem.bV A n c m hold] w fun o w' => o = .returned (.int .u8 ((2 ^ n - 1 : Nat) : Int)) ∧ Below w.heap.size w w' := by
  match n, hn with
  | 0, _ =>
    go_enter Tryd.func88, Tryd.ntmps88
    go_wp2_with fail
    go_ret
    exact ⟨rfl, (Below.refl _ _).alloc (Nat.le_refl _) _⟩

  | 1, _ =>
    go_enter Tryd.func88, Tryd.ntmps88
    go_wp2_with fail
    go_ret
    exact ⟨rfl, (Below.refl _ _).alloc (Nat.le_refl _) _⟩

  | 2, _ =>
    go_enter Tryd.func88, Tryd.ntmps88
    go_wp2_with fail
    go_ret
    exact ⟨rfl, (Below.refl _ _).alloc (Nat.le_refl _) _⟩

  | 3, _ =>
    go_enter Tryd.func88, Tryd.ntmps88
    go_wp2_with fail
    go_ret
    exact ⟨rfl, (Below.refl _ _).alloc (Nat.le_refl _) _⟩

  | 4, _ =>
    go_enter Tryd.func88, Tryd.ntmps88
    go_wp2_with fail
    go_ret
    exact ⟨rfl, (Below.refl _ _).alloc (Nat.le_refl _) _⟩

  | 5, _ =>
    go_enter Tryd.func88, Tryd.ntmps88
    go_wp2_with fail
    go_ret
    exact ⟨rfl, (Below.refl _ _).alloc (Nat.le_refl _) _⟩

  | 6, _ =>
    go_enter Tryd.func88, Tryd.ntmps88
    go_wp2_with fail
    go_ret
    exact ⟨rfl, (Below.refl _ _).alloc (Nat.le_refl _) _⟩

  | 7, _ =>
    go_enter Tryd.func88, Tryd.ntmps88
    go_wp2_with fail
    go_ret
    exact ⟨rfl, (Below.refl _ _).alloc (Nat.le_refl _) _⟩

  | 8, _ =>
    go_enter Tryd.func88, Tryd.ntmps88
    go_wp2_with fail
    go_ret
    exact ⟨rfl, (Below.refl _ _).alloc (Nat.le_refl _) _⟩

theorem ask_valid {r : Nat → Int} {gs : List Gar} {fine : Bool} (h : 0 = codeAsk r gs fine) : ∀ x ∈ gs, x.valid = true := by
  unfold codeAsk at h
  split at h
  · unfold codeAll at h
    split at h
    · rename_i h2
      exact List.all_eq_true.1 h2
    · omega
  · omega
theorem ask_colour {r : Nat → Int} {gs : List Gar} {fine : Bool} (h : 0 = codeAsk r gs fine) : ∀ x ∈ gs, x.c < 6 := fun x hx => (valid_parts (ask_valid h x hx)).1
/-- the rules in their box -/
abbrev LS (r : Nat → Int) (w u : World) : Prop := SixAt r w.heap.size u ∧ w.heap.size < u.heap.size ∧ Below w.heap.size w u
theorem LS.next {r : Nat → Int} {w u v : World} (h : LS r w u) (hb : Below u.heap.size u v) : LS r w v := ⟨h.1.to hb h.2.1, Nat.lt_of_lt_of_le h.2.1 hb.size, h.2.2.trans (hb.mono h.2.2.size)⟩
end Go.Proofs.YtekigapeekjigaaDoor.load

/-
  Are loads right: contracts of the model's functions.
-/
namespace Go.Proofs.YtekigapeekjigaaDoor.mem
open Go Go.RowKit errs garS heats meet load sl

noncomputable def rightV (r : Nat → Int) (gs : List Gar) (hold : Int) (ls : List Int) (code : Nat) : Bool := if code = 0 then @decide (Right r gs hold ls) (Classical.propDecidable _) else false
theorem rightV_no {r : Nat → Int} {gs : List Gar} {hold : Int} {ls : List Int} {code : Nat} (h : code ≠ 0) : rightV r gs hold ls code = false := by rw [rightV, if_neg h]
theorem rightV_yes {r : Nat → Int} {gs : List Gar} {hold : Int} {ls : List Int} {code : Nat} (h : code = 0) : rightV r gs hold ls code = true ↔ Right r gs hold ls := by rw [rightV, if_pos h]; exact @decide_eq_true_iff _ (Classical.propDecidable _)
theorem ask_rules {r : Nat → Int} {gs : List Gar} {fine : Bool} (h : 0 = codeAsk r gs fine) : validR r := by
  apply Classical.byContradiction
  intro hv
  rw [codeAsk, if_neg (by rw [validRB_false hv]; decide)] at h
  omega
theorem ask_len8 {r : Nat → Int} {gs : List Gar} {fine : Bool} (h : 0 = codeAsk r gs fine) : gs.length ≤ 8 := by
  unfold codeAsk at h
  split at h
  · unfold codeAll at h
    split at h
    · split at h
      · split at h
        · omega
        · omega
      · omega
    · omega
  · omega
theorem ask_fine {r : Nat → Int} {gs : List Gar} {fine : Bool} (h : 0 = codeAsk r gs fine) : fine = true := by
  unfold codeAsk at h
  split at h
  · unfold codeAll at h
    split at h
    · split at h
      · assumption
      · omega
    · omega
  · omega
/-- what checked rules and garments are good for -/
structure Fine (r : Nat → Int) (gs : List Gar) : Prop where
  len : gs.length ≤ 8
  meets : ∀ x y, x ∈ gs → y ∈ gs → meetB r x y = meetB r y x
  self : ∀ x ∈ gs, meetB r x x = true
theorem ask_good {r : Nat → Int} {gs : List Gar} {fine : Bool} (h : 0 = codeAsk r gs fine) (hf : ∀ x ∈ gs, x.Fits) : Fine r gs := by
  have hv := ask_valid h
  have hr := ask_rules h
  have hc : ∀ x ∈ gs, x.c.toNat < 6 := fun x hx => by
    have := (valid_parts (hv x hx)).1
    have := (hf x hx).c0
    omega
  refine ⟨ask_len8 h, fun x y hx hy => meet_symm (fun a b ha hb => (hr a ha).2.2 b hb) (hc x hx) (hc y hy), fun x hx => ?_⟩
  obtain ⟨_, _, h1, _, _, _⟩ := valid_parts (hv x hx)
  unfold meetB
  rw [show bitZ (r x.c.toNat) x.c.toNat = true from (hr _ (hc x hx)).2.1]
  simp [h1]
theorem right_len {r : Nat → Int} {gs : List Gar} {hold : Int} {ls : List Int} (h : Right r gs hold ls) : ls.length = gs.length := h.1

/-- the garments with a number, as they are handed on -/
def WithS (w : World) (ys : List Gar) (o : Ending) (w' : World) : Prop :=
  ∃ A c, o = .returned (.slice A ys.length c) ∧ GS w' w'.heap.size A ys ∧ Below w.heap.size w w'
theorem l01With_s (A : Option Addr) (n c : Nat) (gs : List Gar) (hn : n = gs.length) (hs : n ≤ 1048576) (A' : Option Addr) (m c' : Nat) (ls : List Int) (em : m = ls.length) (hm : m ≤ n) (z : Int) (w : World) (hg : GS w w.heap.size A gs) (ho : Sl intS.C 1 w w.heap.size A' ls) :
    Calls Tryd.prog 74 #[.slice A n c, .slice A' m c', .int .i64 z] w (WithS w (withL gs ls z m)) := by
  refine (l01With_any A n c gs hn hs A' m c' ls em hm z w hg ho).mono ?_
  rintro o w' ⟨v, rfl, hP, hb⟩
  obtain ⟨Aw, cw, rfl, _⟩ := owns_slice hP
  exact ⟨Aw, cw, rfl, gs_of_owns hP (fun x hx => hg.fits x (withL_in gs ls z m x hx)), hb⟩
theorem l00In_7 (n : Int) (b : Bool) (hb : b = true ↔ (0 ≤ n ∧ n < 8)) (w : World) :
    Calls Tryd.prog 113 #[.int .i64 n, .int .i64 0, .int .i64 7] w fun o w' => o = .returned (.bool b) ∧ w = w' :=
  hang.l00In_b n 0 7 b (by rw [Bool.eq_iff_iff, hang.inB_iff, hb]; omega) w
set_option maxRecDepth 100000 in
set_option maxHeartbeats 8000000 in
theorem l01Right_any (r : Nat → Int) (hr : Six r) (hold : Int) (A : Option Addr) (n c : Nat) (gs : List Gar) (hn : n = gs.length) (hs : n ≤ 1048576) (hc : ∀ x ∈ gs, x.c < 6) (A' : Option Addr) (m c' : Nat) (ls : List Int) (em : m = ls.length) (hm : m ≤ 1048576) (w : World) (hg : GS w w.heap.size A gs) (ho : Sl intS.C 1 w w.heap.size A' ls) (b : Bool) (hb : b = true ↔ Right r gs hold ls) :
    Calls Tryd.prog 63 #[rulesV r, .int .i64 hold, .slice A n c, .slice A' m c'] w fun o w' => o = .returned (.bool b) ∧ Below w.heap.size w w' := by
  have Hn := Lib.hid hn
  have Em := Lib.hid em
  have HB := Lib.hid hb
  clear hn em hb
  have S0 : Hid (LS r w (w.alloc (.cells (rulesCs r) 26))) := Lib.hid ⟨SixAt.new r w 26, by simp, (Below.refl w.heap.size w).alloc (Nat.le_refl _) _⟩
  have hno : ∀ {p : Prop}, ¬ p → (b = true → p) → b = false := fun hp h => by
    cases hbb : b with
    | false => rfl
    | true => exact absurd (h hbb) hp
  by_cases hmn : m = n
  · subst hmn
    go_enter Tryd.func63, Tryd.ntmps63
    go_wp2_with fail
    go_loopw [9] (fun vi wr => ∃ i : Nat, i ≤ m ∧ vi = .int .i64 i ∧ (∀ j x, j < i → ls[j]? = some x → 0 ≤ x ∧ x < 8) ∧ LS r w wr) (fun vi _ => m - (intOf vi).toNat)
    case atStart => exact ⟨0, by omega, rfl, fun j x h => absurd h (by omega), S0.out⟩
    case round =>
      clear S0
      obtain ⟨i, hi, rfl, hq, hL⟩ := hrel
      have HQ := Lib.hid hq
      have HL := Lib.hid hL
      obtain ⟨_, _, hbl⟩ := hL
      clear hq
      by_cases hlt : i < m
      · obtain ⟨x, hx⟩ : ∃ x, ls[i]? = some x := ⟨ls[i]'(by have := Em.out; omega), List.getElem?_eq_getElem _⟩
        obtain ⟨a, rfl, hab, hat⟩ := (ho.below hbl).at_ i x hx
        have q0 := intS.at_ hat
        have HX := Lib.hid hx
        clear hx hat hbl
        by_cases hin : 0 ≤ x ∧ x < 8
        · have HI := Lib.hid hin
          clear hin
          go_wp2_with fail
          refine (l00In_7 x true (by simp [HI.out]) _).mono ?_
          rintro o w1 ⟨rfl, rfl⟩
          go_wp2_with fail
          go_roundw
          case rel => exact ⟨i + 1, by omega, by go_num, fun j y hj hy => by
            rcases Nat.lt_or_ge j i with h1 | h1
            · exact HQ.out j y h1 hy
            · obtain rfl : j = i := by omega
              have e := HX.out
              rw [hy] at e
              rw [Option.some.inj e]
              exact HI.out, HL.out⟩
          case measure => simp [intOf]; omega
        · have HI := Lib.hid hin
          clear hin
          have e : b = false := hno HI.out fun h => (HB.out.1 h).2.1 x (List.mem_of_getElem? HX.out)
          go_wp2_with fail
          refine (l00In_7 x false (by simp only [Bool.false_eq_true, false_iff]; exact HI.out) _).mono ?_
          rintro o w1 ⟨rfl, rfl⟩
          subst e
          go_wp2_with fail
          go_ret
          exact ⟨rfl, HL.out.2.2⟩
      · obtain rfl : i = m := by omega
        clear hbl
        go_wp2_with fail
        obtain ⟨w1, rfl⟩ : ∃ w1, w1 = wr := ⟨wr, rfl⟩
        go_loopw [10] (fun vi wr => ∃ k : Nat, k ≤ 8 ∧ vi = .int .i64 k ∧ (∀ j : Nat, j < k → Pairs r (withL gs ls j i) ∧ wAll (withL gs ls j i) ≤ hold) ∧ LS r w wr) (fun vi _ => 8 - (intOf vi).toNat)
        case atStart => exact ⟨0, by omega, rfl, fun j h => absurd h (by omega), HL.out⟩
        case round =>
          clear HL
          obtain ⟨k, hk, rfl, hq2, hL⟩ := hrel
          have HQ2 := Lib.hid hq2
          have HL := Lib.hid hL
          clear hq2
          by_cases hlt : k < 8
          · obtain ⟨⟨s0, s1, s2, s3, s4, s5⟩, _, _⟩ := hL
            have key : ∀ u, LS r w u → GS u u.heap.size A gs := fun u h => (hg.below h.2.2).more h.2.2.size
            have keyL : ∀ u, LS r w u → Sl intS.C 1 u u.heap.size A' ls := fun u h => (ho.below h.2.2).more h.2.2.size
            have hwl := withL_len gs ls k i
            have hcw : ∀ x ∈ withL gs ls k i, x.c < 6 := fun x hx => hc x (withL_in gs ls k i x hx)
            have HCW := Lib.hid hcw
            clear hcw
            by_cases hf : Pairs r (withL gs ls k i) ∧ wAll (withL gs ls k i) ≤ hold
            · have HF := Lib.hid hf
              clear hf
              go_wp2_with fail
              go_region_held3 (fun u => LS r w u)
                (first | assumption | exact HL.out | exact HL.out.next (below_drewN _ _ 1) | exact LS.next (by assumption) hb2)
                (first
                  | (go_at_call 74; refine (l01With_s A i c gs Hn.out hs A' i c' ls Em.out (Nat.le_refl _) k _ (key _ (by assumption)) (keyL _ (by assumption))).mono ?_; rintro o w2 ⟨Aw, cw, rfl, hGw, hb2⟩)
                  | (go_at_call 73; refine (l01Load_any r hr hold _ _ _ (withL gs ls k i) rfl (by omega) HCW.out _ hGw true (by simp [HF.out])).mono ?_; rintro o w3 ⟨rfl, hb2⟩)
                  | fail)
              rename_i hS
              have HS := Lib.hid hS
              clear hS
              go_wp2_with fail
              go_roundw
              case rel => exact ⟨k + 1, by omega, by go_num, fun j hj => by
                rcases Nat.lt_or_ge j k with h1 | h1
                · exact HQ2.out j h1
                · obtain rfl : j = k := by omega
                  exact HF.out, HS.out⟩
              case measure => simp [intOf]; omega
            · have HF := Lib.hid hf
              have e : b = false := hno HF.out fun h => by
                have := (HB.out.1 h).2.2 k hlt
                rwa [← Hn.out] at this
              clear hf
              go_wp2_with fail
              go_region_held3 (fun u => LS r w u)
                (first | assumption | exact HL.out | exact HL.out.next (below_drewN _ _ 1) | exact LS.next (by assumption) hb2)
                (first
                  | (go_at_call 74; refine (l01With_s A i c gs Hn.out hs A' i c' ls Em.out (Nat.le_refl _) k _ (key _ (by assumption)) (keyL _ (by assumption))).mono ?_; rintro o w2 ⟨Aw, cw, rfl, hGw, hb2⟩)
                  | (go_at_call 73; refine (l01Load_any r hr hold _ _ _ (withL gs ls k i) rfl (by omega) HCW.out _ hGw false (by simp only [Bool.false_eq_true, false_iff]; exact HF.out)).mono ?_; rintro o w3 ⟨rfl, hb2⟩)
                  | fail)
              rename_i hS
              have HS := Lib.hid hS
              clear hS
              subst e
              go_wp2_with fail
              go_ret
              exact ⟨rfl, HS.out.2.2⟩
          · obtain rfl : k = 8 := by omega
            have e : b = true := HB.out.2 ⟨by have := Hn.out; have := Em.out; omega, fun x hx => by
              obtain ⟨j, hj⟩ := List.mem_iff_getElem?.1 hx
              exact HQ.out j x (by have := (List.getElem?_eq_some_iff.1 hj).1; have := Em.out; omega) hj, fun j hj => by
              have := HQ2.out j hj
              rwa [Hn.out] at this⟩
            subst e
            clear hL
            go_wp2_with fail
            go_ret
            exact ⟨rfl, HL.out.2.2⟩
  · have d1 : ((m : Int) != (n : Int)) = true := by rw [bne_iff_ne]; omega
    have e : b = false := hno (p := m = n) hmn fun h => by
      have := (HB.out.1 h).1
      have := Hn.out
      have := Em.out
      omega
    subst e
    clear hno
    go_enter Tryd.func63, Tryd.ntmps63
    go_wp2_with fail
    go_ret
    exact ⟨rfl, S0.out.2.2⟩
end Go.Proofs.YtekigapeekjigaaDoor.mem

/-
  What loads cost, in plain words.
-/
namespace Go.Proofs.YtekigapeekjigaaDoor.mem
open Go Go.RowKit garS heats meet load sl

/-- what heat one garment needs -/
def nAt (gs : List Gar) (i : Nat) : Int := (gs[i]?.map (·.n)).getD 0
def hMax (gs : List Gar) (is : List Nat) : Int := is.foldl (fun s i => max s (nAt gs i)) 0
theorem hMax_snoc (gs : List Gar) (is : List Nat) (i : Nat) : hMax gs (is ++ [i]) = max (hMax gs is) (nAt gs i) := by simp [hMax]
theorem hMax_bound (gs : List Gar) (hf : ∀ x ∈ gs, x.Fits) (is : List Nat) : 0 ≤ hMax gs is ∧ hMax gs is ≤ 127 := by
  suffices h : ∀ (is : List Nat) (s : Int), 0 ≤ s → s ≤ 127 → 0 ≤ is.foldl (fun s i => max s (nAt gs i)) s ∧ is.foldl (fun s i => max s (nAt gs i)) s ≤ 127 from h is 0 (by omega) (by omega)
  intro is
  induction is with
  | nil => intro s h0 h1; exact ⟨h0, h1⟩
  | cons i is ih =>
    intro s h0 h1
    have h2 : nAt gs i ≤ 127 := by
      unfold nAt
      cases hx : gs[i]? with
      | none => simp
      | some x =>
        have := (hf x (List.mem_of_getElem? hx)).n1
        simp
        omega
    rw [List.foldl_cons]
    exact ih _ (by omega) (by omega)
theorem lowOf_append (l : List Gar) (x : Gar) : lowOf (l ++ [x]) = max (lowOf l) x.n := by simp [lowOf]
theorem lowOf_bound (gs : List Gar) (hf : ∀ x ∈ gs, x.Fits) : 0 ≤ lowOf gs ∧ lowOf gs ≤ 127 := by
  suffices h : ∀ (gs : List Gar), (∀ x ∈ gs, x.Fits) → ∀ s : Int, 0 ≤ s → s ≤ 127 → 0 ≤ gs.foldl (fun l x => max l x.n) s ∧ gs.foldl (fun l x => max l x.n) s ≤ 127 from h gs hf 0 (by omega) (by omega)
  intro gs
  induction gs with
  | nil => intro _ s h0 h1; exact ⟨h0, h1⟩
  | cons x gs ih =>
    intro hf s h0 h1
    have h2 := (hf x (List.mem_cons_self ..)).n1
    rw [List.foldl_cons]
    exact ih (fun y hy => hf y (List.mem_cons_of_mem _ hy)) _ (by omega) (by omega)
theorem hMax_with (gs : List Gar) (ls : List Int) (k : Int) : ∀ n, n ≤ gs.length → hMax gs ((List.range n).filter (fun i => decide (ls[i]? = some k))) = lowOf (withL gs ls k n)
  | 0, _ => rfl
  | n + 1, hn => by
    have ih := hMax_with gs ls k n (by omega)
    obtain ⟨z, hz⟩ : ∃ z, gs[n]? = some z := ⟨gs[n]'(by omega), List.getElem?_eq_getElem _⟩
    rw [List.range_succ, List.filter_append]
    unfold withL
    by_cases h : ls[n]? = some k
    · rw [if_pos h, hz, Option.toList_some, lowOf_append, ← ih]
      simp only [List.filter_cons, List.filter_nil, h, decide_true, if_true]
      rw [hMax_snoc, nAt, hz]
      rfl
    · rw [if_neg h, ← ih]
      simp [List.filter_cons, h]
/-- what a load of a number costs -/
def priceS (gs : List Gar) (ls : List Int) (each : Int) (k : Nat) : Int := if withL gs ls k gs.length = [] then 0 else each + lowOf (withL gs ls k gs.length)
def priceB (gs : List Gar) (ls : List Int) (each : Int) (k : Nat) : Int := if setK ls k gs.length = 0 then 0 else each + hMax gs (memb (setK ls k gs.length))
theorem withL_none (gs : List Gar) (ls : List Int) (k : Int) : ∀ n, n ≤ gs.length → withL gs ls k n = [] → setK ls k n = 0
  | 0, _, _ => rfl
  | n + 1, hn, h => by
    obtain ⟨z, hz⟩ : ∃ z, gs[n]? = some z := ⟨gs[n]'(by omega), List.getElem?_eq_getElem _⟩
    unfold withL at h
    unfold setK
    by_cases e : ls[n]? = some k
    · rw [if_pos e, hz] at h
      simp at h
    · rw [if_neg e] at h ⊢
      exact withL_none gs ls k n (by omega) h
theorem price_eq (gs : List Gar) (ls : List Int) (each : Int) (k : Nat) (hn : gs.length ≤ 8) : priceB gs ls each k = priceS gs ls each k := by
  unfold priceB priceS
  by_cases h : withL gs ls k gs.length = []
  · rw [if_pos h, if_pos (withL_none gs ls k _ (Nat.le_refl _) h)]
  · rw [if_neg h, if_neg (fun e => h (setK_none gs ls k _ e)), memb_setK ls k _ hn, hMax_with gs ls k _ (Nat.le_refl _)]
/-- what all loads with a number below k cost -/
def sumTo (p : Nat → Int) : Nat → Int
  | 0 => 0
  | k + 1 => sumTo p k + p k
theorem sumTo_bound (p : Nat → Int) (m : Int) (hp : ∀ k, 0 ≤ p k ∧ p k ≤ m) : ∀ k : Nat, 0 ≤ sumTo p k ∧ sumTo p k ≤ m * k
  | 0 => by simp [sumTo]
  | k + 1 => by
    have h1 := sumTo_bound p m hp k
    have h2 := hp k
    have h3 : m * ((k + 1 : Nat) : Int) = m * k + m := by rw [Int.natCast_add, Int.mul_add]; simp
    rw [sumTo, h3]
    omega
theorem sumTo_congr {p q : Nat → Int} (h : ∀ k, p k = q k) (k : Nat) : sumTo p k = sumTo q k := by
  have : p = q := funext h
  rw [this]
theorem priceS_bound (gs : List Gar) (hf : ∀ x ∈ gs, x.Fits) (ls : List Int) (each : Int) (h0 : 0 ≤ each) (h1 : each ≤ 1000) (k : Nat) : 0 ≤ priceS gs ls each k ∧ priceS gs ls each k ≤ 1127 := by
  have h2 := lowOf_bound (withL gs ls k gs.length) (fun x hx => hf x (withL_in gs ls k _ x hx))
  unfold priceS
  split <;> omega
/-- what loads cost -/
def costS (gs : List Gar) (ls : List Int) (each : Int) : Int := sumTo (priceS gs ls each) 8
theorem cost_eq (gs : List Gar) (ls : List Int) (each : Int) (hn : gs.length ≤ 8) : sumTo (priceB gs ls each) 8 = costS gs ls each := sumTo_congr (fun k => price_eq gs ls each k hn) 8
/-- the code of CostOf -/
noncomputable def codeCost (r : Nat → Int) (gs : List Gar) (fine : Bool) (hold : Int) (ls : List Int) : Nat := if codeAsk r gs fine = 0 then (if rightV r gs hold ls 0 = true then 0 else 4) else codeAsk r gs fine
set_option maxRecDepth 100000 in
set_option maxHeartbeats 4000000 in
theorem l01Cost_any (A : Option Addr) (n c : Nat) (gs : List Gar) (hn : n = gs.length) (hs : n ≤ 1048576) (A' : Option Addr) (m c' : Nat) (ls : List Int) (em : m = ls.length) (hm : m = n) (each : Int) (h0 : 0 ≤ each) (h1 : each ≤ 1000) (w : World) (hg : GS w w.heap.size A gs) (ho : Sl intS.C 1 w w.heap.size A' ls) :
    Calls Tryd.prog 79 #[.slice A n c, .slice A' m c', .int .i64 each] w fun o w' => o = .returned (.int .i64 (costS gs ls each)) ∧ Below w.heap.size w w' := by
  have Hn := Lib.hid hn
  have Em := Lib.hid em
  subst hm
  clear hn em
  have hp := priceS_bound gs hg.fits ls each h0 h1
  have HP := Lib.hid hp
  clear hp
  go_enter Tryd.func79, Tryd.ntmps79
  go_wp2_with fail
  go_loopw [7, 8] (fun vs vi wr => ∃ k : Nat, k ≤ 8 ∧ vi = .int .i64 k ∧ vs = .int .i64 (sumTo (priceS gs ls each) k) ∧ Below w.heap.size w wr) (fun _ vi _ => 8 - (intOf vi).toNat)
  case atStart => exact ⟨0, by omega, rfl, rfl, Below.refl _ _⟩
  case round =>
    obtain ⟨k, hk, rfl, rfl, hB⟩ := hrel
    have HB := Lib.hid hB
    clear hB
    by_cases hlt : k < 8
    · have hb0 := sumTo_bound (priceS gs ls each) 1127 HP.out k
      have hb1 := HP.out k
      obtain ⟨q, hq⟩ : ∃ q, q = priceS gs ls each k := ⟨_, rfl⟩
      obtain ⟨s, hs2⟩ : ∃ s, s = sumTo (priceS gs ls each) k := ⟨_, rfl⟩
      rw [← hq] at hb1
      rw [← hs2] at hb0 ⊢
      have HS := Lib.hid hs2
      have HQ := Lib.hid hq
      clear hq hs2
      go_wp2_with fail
      refine (l01With_s A m c gs Hn.out hs A' m c' ls Em.out (Nat.le_refl _) k _ ((hg.below HB.out).more HB.out.size) ((ho.below HB.out).more HB.out.size)).mono ?_
      rintro o w2 ⟨Aw, cw, rfl, hG, hb2⟩
      have HB2 := Lib.hid (HB.out.trans (hb2.mono HB.out.size))
      have hwl := withL_len gs ls k m
      clear hb2
      obtain ⟨l, hl⟩ : ∃ l, l = (withL gs ls k m).length := ⟨_, rfl⟩
      rw [← hl] at hwl ⊢
      have HL := Lib.hid hl
      clear hl
      have hnx : sumTo (priceS gs ls each) (k + 1) = s + q := by rw [sumTo, ← HS.out, ← HQ.out]
      have HN := Lib.hid hnx
      clear hnx
      by_cases hl0 : l = 0
      · have hq0 : q = 0 := by
          rw [HQ.out, priceS, if_pos]
          rw [← Hn.out]
          exact List.length_eq_zero_iff.1 (by rw [← HL.out]; exact hl0)
        have HN2 : Hid (sumTo (priceS gs ls each) (k + 1) = s) := Lib.hid (by rw [HN.out, hq0]; omega)
        subst hl0
        clear hq0
        go_wp2_with fail
        go_roundw
        case rel => exact ⟨k + 1, by omega, by go_num, by rw [HN2.out], HB2.out⟩
        case measure => simp [intOf]; omega
      · have hq0 : q = each + lowOf (withL gs ls k m) := by
          rw [HQ.out, priceS, if_neg, ← Hn.out]
          rw [← Hn.out]
          intro e
          rw [e] at HL
          exact hl0 HL.out
        have hlow := lowOf_bound (withL gs ls k m) hG.fits
        obtain ⟨z, hz⟩ : ∃ z, z = lowOf (withL gs ls k m) := ⟨_, rfl⟩
        have HZ := Lib.hid hz
        have HQ0 : Hid (q = each + z) := Lib.hid (by rw [hz]; exact hq0)
        rw [← hz] at hlow
        clear hq0 hz
        have hl1 : (0 : Int) < (l : Int) := by omega
        have e0 : wrap64 (s + (each + z)) = s + (each + z) := by unfold wrap64; omega
        go_wp2_with fail
        refine (l01Heats_any Aw l cw (withL gs ls k m) HL.out (by omega) _ _ hG).mono ?_
        rintro o w3 ⟨rfl, rfl⟩
        rw [← HZ.out]
        go_wp2_with fail
        go_roundw
        case rel => exact ⟨k + 1, by omega, by go_num, by rw [HN.out, HQ0.out], HB2.out⟩
        case measure => simp [intOf]; omega
    · obtain rfl : k = 8 := by omega
      go_wp2_with fail
      go_ret
      exact ⟨rfl, HB.out⟩
end Go.Proofs.YtekigapeekjigaaDoor.mem

/-
  The program's meetingSets: for each garment the set of those that it may meet.
-/
namespace Go.Proofs.YtekigapeekjigaaDoor.mem
open Go Go.RowKit Go.Maps errs garS heats meet load

/-- may garment x meet garment j -/
def meetAt (r : Nat → Int) (gs : List Gar) (x : Gar) (j : Nat) : Bool := (gs[j]?.map (meetB r x)).getD false
/-- the set of the first k garments that x may meet -/
def setOf (r : Nat → Int) (gs : List Gar) (x : Gar) (k : Nat) : Nat := (List.range k).foldl (fun s j => if meetAt r gs x j = true then s ||| 2 ^ j else s) 0
theorem setOf_succ (r : Nat → Int) (gs : List Gar) (x : Gar) (k : Nat) : setOf r gs x (k + 1) = if meetAt r gs x k = true then setOf r gs x k ||| 2 ^ k else setOf r gs x k := by simp [setOf, List.range_succ]
theorem setOf_bit (r : Nat → Int) (gs : List Gar) (x : Gar) (j : Nat) : ∀ k, (setOf r gs x k).testBit j = (decide (j < k) && meetAt r gs x j)
  | 0 => by simp [setOf]
  | k + 1 => by
    rw [setOf_succ]
    split
    · rename_i h
      rw [Nat.testBit_or, setOf_bit r gs x j k, Nat.testBit_two_pow]
      by_cases e : k = j
      · subst e; simp [h]
      · have : decide (j < k + 1) = decide (j < k) := by rw [Bool.eq_iff_iff]; simp; omega
        simp [e, this]
    · rename_i h
      rw [setOf_bit r gs x j k]
      by_cases e : k = j
      · subst e; simp [h]
      · have : decide (j < k + 1) = decide (j < k) := by rw [Bool.eq_iff_iff]; simp; omega
        rw [this]
theorem setOf_lt (r : Nat → Int) (gs : List Gar) (x : Gar) (k : Nat) (hk : k ≤ 8) : setOf r gs x k < 256 := by
  refine Nat.lt_pow_two_of_testBit (n := 8) _ fun i hi => ?_
  rw [setOf_bit]
  simp
  omega
def msOf (r : Nat → Int) (gs : List Gar) (k i : Nat) : Int := if i < k then ((gs[i]?.map fun x => setOf r gs x gs.length).getD 0 : Nat) else 0
theorem msOf_meets {r : Nat → Int} {gs : List Gar} (hn : gs.length ≤ 8) : Meets r gs (msOf r gs gs.length) := by
  refine ⟨fun i => ?_, fun i x k hx => ?_⟩
  · unfold msOf
    split
    · cases hx : gs[i]? with
      | none => simp
      | some x =>
        have := setOf_lt r gs x gs.length hn
        simp
        omega
    · omega
  · have hi := (List.getElem?_eq_some_iff.1 hx).1
    rw [msOf, if_pos hi, hx]
    simp only [Option.map_some, Option.getD_some, Int.toNat_natCast]
    rw [setOf_bit, Bool.and_eq_true, decide_eq_true_eq, meetAt]
    constructor
    · rintro ⟨h1, h2⟩
      have hy : gs[k]? = some (gs[k]'h1) := List.getElem?_eq_getElem _
      rw [hy] at h2
      exact ⟨_, hy, by simpa using h2⟩
    · rintro ⟨y, hy, h2⟩
      exact ⟨(List.getElem?_eq_some_iff.1 hy).1, by rw [hy]; simpa using h2⟩
end Go.Proofs.YtekigapeekjigaaDoor.mem

/-
  The map of the garments that have come, in meetingSets.
-/
namespace Go.Proofs.YtekigapeekjigaaDoor.mem
open Go Go.RowKit Go.Maps errs garS heats meet load

theorem undM : Tryd.prog.underlying 168 = some (.map 96 5) := by kernel_rfl
theorem undU : Tryd.prog.underlying 5 = some (.int .u8) := by kernel_rfl
theorem zeroU (w : World) : (zeroValue 5).run Tryd.prog w = .ok (.int .u8 0) w := by kernel_rfl
/-- block b is a map from the garments that have come to their sets -/
def Known (W : World) (b : Nat) (N : Nat) (r : Nat → Int) (gs seen : List Gar) : Prop :=
  ∃ D : DataW Unit, W.ownsMap Tryd.prog 96 (plainElem Tryd.prog 5) b N D ∧ ∀ (y : Gar) (l : Lit), keyOf Tryd.prog 96 y.v = some l →
    (y ∈ seen → D.atKey l (.lit (.int .u8 0)) = .lit (.int .u8 (setOf r gs y gs.length)) ∧ has D l = true) ∧ (y ∉ seen → D.atKey l (.lit (.int .u8 0)) = .lit (.int .u8 0) ∧ has D l = false)
theorem Known.new (w : World) (r : Nat → Int) (gs : List Gar) : Known (w.alloc (.map #[] 0)) w.heap.size 0 r gs [] :=
  ⟨.map [], World.ownsMap_made w _ _ _, fun y l _ => ⟨fun h => absurd h (by simp), fun _ => ⟨atKey_of_not_has (by simp [has_eq]) _, by simp [has_eq]⟩⟩⟩
theorem Known.kept {w w' : World} {b N : Nat} {r : Nat → Int} {gs seen : List Gar} {row : Option Nat} (h : Known w b N r gs seen) (hg : w.grownBy w' row) (hne : some b ≠ row) : Known w' b N r gs seen := by
  obtain ⟨D, h1, h2⟩ := h
  exact ⟨D, h1.kept hg hne, h2⟩
set_option maxRecDepth 100000 in
theorem Known.look {w : World} {b N : Nat} {r : Nat → Int} {gs seen : List Gar} (h : Known w b N r gs seen) (y : Gar) (hy : y.Fits) :
    (y ∈ seen → (Instr.lookup 168 (.map (some b)) y.v true).run Tryd.prog w = .ok (.tuple #[.int .u8 (setOf r gs y gs.length), .bool true]) w) ∧
    (y ∉ seen → (Instr.lookup 168 (.map (some b)) y.v true).run Tryd.prog w = .ok (.tuple #[.int .u8 0, .bool false]) w) := by
  obtain ⟨D, hown, hD⟩ := h
  obtain ⟨l, hl⟩ := keyG y hy
  obtain ⟨v, ps, hrun, hR⟩ := hown.look_ok keyedG undM (zeroU w) (plainElem_int undU (by decide)) hl
  obtain ⟨c, rfl, e2, _⟩ := plainElem_int_inv undU hR
  have e3 := congrArg Prod.fst e2
  simp only at e3
  obtain ⟨h1, h2⟩ := hD y l hl
  constructor
  · intro hs
    obtain ⟨k1, k2⟩ := h1 hs
    rw [k1] at e3
    injection e3 with e4
    injection e4 with _ e5
    rw [k2, ← e5] at hrun
    exact hrun
  · intro hs
    obtain ⟨k1, k2⟩ := h2 hs
    rw [k1] at e3
    injection e3 with e4
    injection e4 with _ e5
    rw [k2, ← e5] at hrun
    exact hrun
set_option maxRecDepth 100000 in
theorem Known.put {w : World} {b N : Nat} {r : Nat → Int} {gs seen : List Gar} (h : Known w b N r gs seen) (hN : N < maxLen) (hn : gs.length ≤ 8) (y : Gar) (hy : y.Fits) :
    ∃ w', (Instr.mapUpdate 168 (.map (some b)) y.v (.int .u8 (setOf r gs y gs.length))).run Tryd.prog w = .ok () w' ∧ Known w' b (N + 1) r gs (seen ++ [y]) ∧ w.grownBy w' (some b) := by
  obtain ⟨D, hown, hD⟩ := h
  obtain ⟨l, hl⟩ := keyG y hy
  have hlt := setOf_lt r gs y gs.length hn
  obtain ⟨w', hrun, h1, h2⟩ := hown.update keyedG undM hN hl (plainElem_int (a := (setOf r gs y gs.length : Int)) undU (wf_of _ _ ⟨by show (0 : Int) ≤ _; omega, by show _ ≤ (255 : Int); omega⟩))
  refine ⟨w', hrun, ⟨_, h1, fun z k hk => ?_⟩, h2⟩
  by_cases e : k = l
  · subst e
    have ezy : z = y := by
      have := keyedG.inj hk hl
      cases z
      cases y
      simp only [Value.agg.injEq, Array.mk.injEq, List.cons.injEq, Value.int.injEq, true_and, and_true] at this
      obtain ⟨a, b, c, d⟩ := this
      subst a b c d
      rfl
    subst ezy
    exact ⟨fun _ => ⟨atKey_put_same hown.isMap (keyedG.key hl) _ _, has_put_same hown.isMap (keyedG.key hl) _⟩, fun hs => absurd (by simp) hs⟩
  · have hne : z ≠ y := fun ez => by
      subst ez
      rw [hl] at hk
      exact e (Option.some.inj hk).symm
    obtain ⟨k1, k2⟩ := hD z k hk
    rw [atKey_put_other e, has_put_other e]
    exact ⟨fun hs => k1 ((List.mem_append.1 hs).elim id fun h => absurd (List.mem_singleton.1 h) hne), fun hs => k2 fun h => hs (List.mem_append_left _ h)⟩
end Go.Proofs.YtekigapeekjigaaDoor.mem

/-
  Contract of the program's meetingSets.
-/
namespace Go.Proofs.YtekigapeekjigaaDoor.mem
open Go Go.RowKit Go.Maps errs garS heats meet load

theorem setOf_yes {r : Nat → Int} {gs : List Gar} {x y : Gar} {k : Nat} (hy : gs[k]? = some y) (h : meetB r x y = true) : setOf r gs x (k + 1) = setOf r gs x k ||| 2 ^ k := by
  rw [setOf_succ, if_pos (by rw [meetAt, hy]; simpa using h)]
theorem setOf_no {r : Nat → Int} {gs : List Gar} {x y : Gar} {k : Nat} (hy : gs[k]? = some y) (h : meetB r x y = false) : setOf r gs x (k + 1) = setOf r gs x k := by
  rw [setOf_succ, if_neg (by rw [meetAt, hy]; simp [h])]
theorem meet_v (r : Nat → Int) (hr : Six r) (a b : Gar) (ha : a.Fits) (hb : b.Fits) (va : a.valid = true) (vb : b.valid = true) (w : World) (v : Bool) (hv : meetB r a b = v) :
    Calls Tryd.prog 92 #[rulesV r, a.v, b.v] w fun o w' => o = .returned (.bool v) ∧ Below w.heap.size w w' := by
  subst hv
  exact meet_any r hr a b ha hb va vb w
/-- between two rounds: the map, the sets that have been laid, the room for the result -/
structure MQ (w W : World) (r : Nat → Int) (gs : List Gar) (N k : Nat) (seen : List Gar) : Prop where
  K : Known W (w.heap.size + 1) N r gs seen
  S : ∀ j, j < 8 → W.cell? ⟨w.heap.size + 1 + 1, j, none⟩ = some (.int .u8 (msOf r gs k j)) ∧ W.frozen? ⟨w.heap.size + 1 + 1, j, none⟩ = false
  R : ∀ j, j < 8 → W.cell? ⟨w.heap.size, j, none⟩ = some (.int .u8 0) ∧ W.frozen? ⟨w.heap.size, j, none⟩ = false
  B : Below w.heap.size w W
  z : w.heap.size + 1 + 1 < W.heap.size
theorem grown_of_below {w w' : World} (h : Below w.heap.size w w') : w.grownBy w' none := ⟨h.os, h.tape, h.output, h.size, fun k hk _ => h.block k hk⟩
theorem MQ.next {w W V : World} {r : Nat → Int} {gs : List Gar} {N k : Nat} {seen : List Gar} (h : MQ w W r gs N k seen) (hb : Below W.heap.size W V) : MQ w V r gs N k seen := by
  have hz := h.z
  exact ⟨h.K.kept (grown_of_below hb) (by simp), fun j hj => ⟨(hb.cell (p := ⟨w.heap.size + 1 + 1, j, none⟩) hz).trans (h.S j hj).1, (hb.frozen (p := ⟨w.heap.size + 1 + 1, j, none⟩) hz).trans (h.S j hj).2⟩,
    fun j hj => ⟨(hb.cell (p := ⟨w.heap.size, j, none⟩) (by show w.heap.size < _; omega)).trans (h.R j hj).1, (hb.frozen (p := ⟨w.heap.size, j, none⟩) (by show w.heap.size < _; omega)).trans (h.R j hj).2⟩,
    h.B.trans (hb.mono h.B.size), Nat.lt_of_lt_of_le hz hb.size⟩
theorem MQ.alloc {w W : World} {r : Nat → Int} {gs : List Gar} {N k : Nat} {seen : List Gar} (h : MQ w W r gs N k seen) (o : Obj) : MQ w (W.alloc o) r gs N k seen := h.next ((Below.refl _ _).alloc (Nat.le_refl _) _)
theorem MQ.turn {w W V : World} {r : Nat → Int} {gs : List Gar} {N N' k : Nat} {seen seen' : List Gar} (h : MQ w W r gs N k seen) (hg : W.grownBy V (some (w.heap.size + 1))) (hK : Known V (w.heap.size + 1) N' r gs seen') : MQ w V r gs N' k seen' := by
  have hz := h.z
  have c : ∀ p : Addr, p.block < W.heap.size → p.block ≠ w.heap.size + 1 → V.heap[p.block]? = W.heap[p.block]? := fun p h1 h2 => hg.block _ h1 (fun e => h2 (Option.some.inj e))
  have cc : ∀ p : Addr, p.block < W.heap.size → p.block ≠ w.heap.size + 1 → V.cell? p = W.cell? p := fun p h1 h2 => by unfold World.cell?; rw [c p h1 h2]
  have cf : ∀ p : Addr, p.block < W.heap.size → p.block ≠ w.heap.size + 1 → V.frozen? p = W.frozen? p := fun p h1 h2 => by unfold World.frozen?; rw [c p h1 h2]
  refine ⟨hK, fun j hj => ⟨(cc ⟨w.heap.size + 1 + 1, j, none⟩ hz (by show w.heap.size + 1 + 1 ≠ _; omega)).trans (h.S j hj).1, (cf ⟨w.heap.size + 1 + 1, j, none⟩ hz (by show w.heap.size + 1 + 1 ≠ _; omega)).trans (h.S j hj).2⟩,
    fun j hj => ⟨(cc ⟨w.heap.size, j, none⟩ (by show w.heap.size < _; omega) (by show w.heap.size ≠ _; omega)).trans (h.R j hj).1, (cf ⟨w.heap.size, j, none⟩ (by show w.heap.size < _; omega) (by show w.heap.size ≠ _; omega)).trans (h.R j hj).2⟩,
    h.B.grown hg h.B.size (fun k e => by cases e; omega), Nat.lt_of_lt_of_le hz hg.size⟩
theorem MQ.seen {w W : World} {r : Nat → Int} {gs : List Gar} {N N' k : Nat} {s s' : List Gar} (h : MQ w W r gs N k s) (hN : N ≤ N') (hs : ∀ y, y ∈ s ↔ y ∈ s') : MQ w W r gs N' k s' := by
  obtain ⟨⟨D, h1, h2⟩, b, c, d, e⟩ := h
  exact ⟨⟨D, h1.mono hN, fun y l hl => ⟨fun hy => (h2 y l hl).1 ((hs y).2 hy), fun hy => (h2 y l hl).2 fun q => hy ((hs y).1 q)⟩⟩, b, c, d, e⟩
theorem MQ.store {w W : World} {r : Nat → Int} {gs : List Gar} {N k : Nat} {seen : List Gar} (h : MQ w W r gs N k seen) (hk : k < 8) {x : Gar} (hx : gs[k]? = some x) : MQ w (W.setCell ⟨w.heap.size + 1 + 1, k, none⟩ (.int .u8 (setOf r gs x gs.length))) r gs N (k + 1) seen := by
  have hz := h.z
  refine ⟨?_, fun j hj => ⟨?_, by rw [World.frozen?_setCell]; exact (h.S j hj).2⟩, fun j hj => ⟨(World.cell?_setCell_far _ _ _ _ (by show w.heap.size + 1 + 1 ≠ w.heap.size; omega)).trans (h.R j hj).1, by rw [World.frozen?_setCell]; exact (h.R j hj).2⟩,
    h.B.setCell (p := ⟨w.heap.size + 1 + 1, k, none⟩) (by show w.heap.size ≤ w.heap.size + 1 + 1; omega) _, by rw [World.size_setCell]; exact hz⟩
  · obtain ⟨D, h1, h2⟩ := h.K
    exact ⟨D, h1.setCell (by show w.heap.size + 1 ≠ w.heap.size + 1 + 1; omega) _, h2⟩
  · by_cases e : j = k
    · subst e
      rw [World.cell?_setCell_same' _ _ _ (by rw [(h.S j hj).1]; rfl), msOf, if_pos (Nat.lt_succ_self j), hx]
      rfl
    · have hne : (⟨w.heap.size + 1 + 1, k, none⟩ : Addr) ≠ ⟨w.heap.size + 1 + 1, j, none⟩ := fun e2 => e (by injection e2 with _ e3 _; exact e3.symm)
      have hc : (W.setCell ⟨w.heap.size + 1 + 1, k, none⟩ (.int .u8 (setOf r gs x gs.length))).cell? ⟨w.heap.size + 1 + 1, j, none⟩ = W.cell? ⟨w.heap.size + 1 + 1, j, none⟩ := by first | exact World.cell?_setCell_other _ hne | exact World.cell?_setCell_other _ _ _ hne | exact World.cell?_setCell_other _ _ _ _ hne
      rw [hc, (h.S j hj).1]
      have e3 : msOf r gs (k + 1) j = msOf r gs k j := by
        unfold msOf
        by_cases h1 : j < k
        · rw [if_pos h1, if_pos (by omega)]
        · rw [if_neg h1, if_neg (by omega)]
      rw [e3]
abbrev zero8 : Array Value := #[.int .u8 0, .int .u8 0, .int .u8 0, .int .u8 0, .int .u8 0, .int .u8 0, .int .u8 0, .int .u8 0]
theorem zero8_at : ∀ j, j < 8 → zero8[j]? = some (.int .u8 0)
  | 0, _ => rfl
  | 1, _ => rfl
  | 2, _ => rfl
  | 3, _ => rfl
  | 4, _ => rfl
  | 5, _ => rfl
  | 6, _ => rfl
  | 7, _ => rfl
theorem or_pow (a q : Nat) (ha : a < 256) (hq : q < 8) : bits BinOp.or IntKind.u8 (a : Int) (2 ^ q % 256) = ((a ||| 2 ^ q : Nat) : Int) := by
  have h2 : 2 ^ q < 256 := Nat.pow_lt_pow_right (by decide) hq
  obtain ⟨p, hp⟩ : ∃ p : Nat, p = 2 ^ q := ⟨_, rfl⟩
  have e1 : ((2 : Int) ^ q) = (p : Int) := by rw [hp]; simp
  rw [← hp] at h2 ⊢
  rw [e1]
  have e : ((p : Int) % 256) = (p : Int) := by omega
  rw [e]
  exact (bits_nat .u8 8 (by decide) (fun n h0 h1 => by rw [IntKind.wrap_u8]; omega) a p ha h2).2
set_option maxRecDepth 100000 in
set_option maxHeartbeats 8000000 in
theorem meetingSets_any (r : Nat → Int) (hr : Six r) (A : Option Addr) (n c : Nat) (gs : List Gar) (en : n = gs.length) (hn : n ≤ 8) (hv : ∀ x ∈ gs, x.valid = true) (w : World) (hg : GS w w.heap.size A gs) :
    Calls Tryd.prog 115 #[.func (.func 92) #[rulesV r] #[], .slice A n c] w fun o w' => o = .returned (eightV (msOf r gs n)) ∧ Below w.heap.size w w' := by
  have En := Lib.hid en
  clear en
  have hmm := @run_makeMap Tryd.prog
  go_enter Tryd.func115, Tryd.ntmps115
  go_wp2_with fail
  go_loopw [16] (fun vi wr => ∃ k : Nat, k ≤ n ∧ vi = .int .i64 k ∧ MQ w wr r gs k k (gs.take k)) (fun vi _ => n - (intOf vi).toNat)
  case atStart =>
    have e1 : (w.alloc (.cells zero8 102)).heap.size = w.heap.size + 1 := by simp
    have e2 : ((w.alloc (.cells zero8 102)).alloc (.map #[] 0)).heap.size = w.heap.size + 1 + 1 := by simp
    have h1 := heap_alloc_new (w.alloc (.cells zero8 102)) (.map #[] 0)
    have h2 := heap_alloc_new ((w.alloc (.cells zero8 102)).alloc (.map #[] 0)) (.cells zero8 102)
    rw [e1] at h1
    rw [e2] at h2
    have h0 : (((w.alloc (.cells zero8 102)).alloc (.map #[] 0)).alloc (.cells zero8 102)).heap[w.heap.size]? = some (.cells zero8 102) := (heap_alloc_old _ _ _ (by omega)).trans ((heap_alloc_old _ _ _ (by omega)).trans (heap_alloc_new w _))
    have hK : Known ((w.alloc (.cells zero8 102)).alloc (.map #[] 0)) (w.heap.size + 1) 0 r gs [] := by
      have := Known.new (w.alloc (.cells zero8 102)) r gs
      rwa [e1] at this
    refine ⟨0, by omega, rfl, hK.kept (World.grownBy_alloc _ _ none) (by simp), fun j hj => ⟨(cell_of_row _ _ _ _ _ _ h2).trans ?_, ?_⟩, fun j hj => ⟨(cell_of_row _ _ _ _ _ _ h0).trans ?_, ?_⟩, (((Below.refl _ w).alloc (Nat.le_refl _) _).alloc (by simp) _).alloc (by simp; omega) _, by simp⟩
    · rw [zero8_at j hj]; rfl
    · unfold World.frozen?; rw [h2]; rfl
    · exact zero8_at j hj
    · unfold World.frozen?; rw [h0]; rfl
  case round =>
    obtain ⟨k, hk, rfl, hQ⟩ := hrel
    have HQ := Lib.hid hQ
    have hz := hQ.z
    clear hQ hmm
    obtain ⟨wo, rfl⟩ : ∃ wo, wo = wr := ⟨wr, rfl⟩
    by_cases hlt : k < n
    · obtain ⟨x, hx⟩ : ∃ x, gs[k]? = some x := ⟨gs[k]'(by have := En.out; omega), List.getElem?_eq_getElem _⟩
      obtain ⟨a, ea, hab, hg0, hg1, hg2, hg3⟩ := (hg.below HQ.out.B).at_ k x hx
      subst ea
      have hxf := hg.fits x (List.mem_of_getElem? hx)
      have hxv := hv x (List.mem_of_getElem? hx)
      have HX := Lib.hid hx
      have i0 : (0 : Int) ≤ (k : Int) := by omega
      have i1 : (k : Int) < (n : Int) := by omega
      have i2 : (k : Int) < 8 := by omega
      have HQ1 := Lib.hid (HQ.out.alloc (.cells #[.int .u8 x.c, .int .i8 x.n, .int .i8 x.m, .int .i16 x.g] 96))
      obtain ⟨l1, l2⟩ := HQ1.out.K.look x hxf
      obtain ⟨s1, s2⟩ := HQ.out.S k (by omega)
      have etk := Lib.hid (take_snoc hx)
      clear hx
      by_cases hin : x ∈ gs.take k
      · have hl := l1 hin
        have HIN := Lib.hid hin
        clear l1 l2 hin
        go_wp2_with fail
        go_roundw
        case rel =>
          refine ⟨k + 1, by omega, by go_num, ?_⟩
          refine (((HQ.out.store (by omega) HX.out).alloc _).seen (Nat.le_succ _) fun y => ?_)
          rw [etk.out, List.mem_append, List.mem_singleton]
          exact ⟨.inl, fun h => h.elim id fun e => by rw [e]; exact HIN.out⟩
        case measure => simp [intOf]; omega
      · have hl := l2 hin
        have HIN := Lib.hid hin
        clear l1 l2 hin
        go_wp2_with fail
        obtain ⟨w1, hw1⟩ : ∃ w1, w1 = wo.alloc (.cells #[.int .u8 x.c, .int .i8 x.n, .int .i8 x.m, .int .i16 x.g] 96) := ⟨_, rfl⟩
        rw [← hw1] at HQ1 ⊢
        have q0 : w1.cell? ⟨wo.heap.size, 0, none⟩ = some (.int .u8 x.c) := by rw [hw1]; exact cell_of_row _ _ _ _ _ _ (heap_alloc_new wo _)
        have q1 : w1.cell? ⟨wo.heap.size, 1, none⟩ = some (.int .i8 x.n) := by rw [hw1]; exact cell_of_row _ _ _ _ _ _ (heap_alloc_new wo _)
        have q2 : w1.cell? ⟨wo.heap.size, 2, none⟩ = some (.int .i8 x.m) := by rw [hw1]; exact cell_of_row _ _ _ _ _ _ (heap_alloc_new wo _)
        have q3 : w1.cell? ⟨wo.heap.size, 3, none⟩ = some (.int .i16 x.g) := by rw [hw1]; exact cell_of_row _ _ _ _ _ _ (heap_alloc_new wo _)
        have hz1 : wo.heap.size < w1.heap.size := by rw [hw1]; simp
        clear hl hg0 hg1 hg2 hg3 s1 s2 hw1
        go_loopw [9, 31] (fun vs vq wz => ∃ q : Nat, q ≤ n ∧ vq = .int .i64 q ∧ vs = .int .u8 (setOf r gs x q) ∧ Below w1.heap.size w1 wz) (fun _ vq _ => n - (intOf vq).toNat)
        case atStart => exact ⟨0, by omega, rfl, rfl, Below.refl _ _⟩
        case round =>
          obtain ⟨q, hq, rfl, rfl, hb⟩ := hrel
          by_cases hqn : q < n
          · obtain ⟨y, hy⟩ : ∃ y, gs[q]? = some y := ⟨gs[q]'(by have := En.out; omega), List.getElem?_eq_getElem _⟩
            obtain ⟨a', ea', hab', hga'⟩ := (hg.below (HQ1.out.B.trans (hb.mono HQ1.out.B.size))).at_ q y hy
            obtain rfl := Option.some.inj ea'
            obtain ⟨p0, p1, p2, p3⟩ := hga'
            have hyf := hg.fits y (List.mem_of_getElem? hy)
            have hyv := hv y (List.mem_of_getElem? hy)
            have HY := Lib.hid hy
            have HBz := Lib.hid hb
            have r0 := (hb.cell (p := ⟨wo.heap.size, 0, none⟩) hz1).trans q0
            have r1 := (hb.cell (p := ⟨wo.heap.size, 1, none⟩) hz1).trans q1
            have r2 := (hb.cell (p := ⟨wo.heap.size, 2, none⟩) hz1).trans q2
            have r3 := (hb.cell (p := ⟨wo.heap.size, 3, none⟩) hz1).trans q3
            have j0 : (0 : Int) ≤ (q : Int) := by omega
            have j1 : (q : Int) < (n : Int) := by omega
            have hlt2 := setOf_lt r gs x q (by omega)
            have hwz := hb.size
            have hoz : wo.heap.size < wr.heap.size := by omega
            have hoz2 : ¬ wo.heap.size = wr.heap.size := by omega
            have hoz3 : ¬ wr.heap.size = wo.heap.size := by omega
            clear q0 q1 q2 q3 hb hy ea'
            cases hv2 : meetB r x y with
            | true =>
              have HV := Lib.hid hv2
              clear hv2
              go_wp2_with (go_at_call 92; refine (meet_v r hr x y hxf hyf hxv hyv _ true HV.out).mono ?_; rintro o w3 ⟨rfl, hb3⟩)
              go_roundw
              case rel => exact ⟨q + 1, by omega, by go_num, by rw [or_pow _ _ hlt2 (by omega), setOf_yes HY.out HV.out], HBz.out.trans (((Below.refl _ _).alloc (Nat.le_refl _) _).trans (hb3.mono (by simp)) |>.mono hwz)⟩
              case measure => simp [intOf]; omega
            | false =>
              have HV := Lib.hid hv2
              clear hv2
              go_wp2_with (go_at_call 92; refine (meet_v r hr x y hxf hyf hxv hyv _ false HV.out).mono ?_; rintro o w3 ⟨rfl, hb3⟩)
              go_roundw
              case rel => exact ⟨q + 1, by omega, by go_num, by rw [setOf_no HY.out HV.out], HBz.out.trans (((Below.refl _ _).alloc (Nat.le_refl _) _).trans (hb3.mono (by simp)) |>.mono hwz)⟩
              case measure => simp [intOf]; omega
          · obtain rfl : q = n := by omega
            have HQ2 := Lib.hid (HQ1.out.next hb)
            obtain ⟨w4, hput, hK4, hg4⟩ := HQ2.out.K.put (by unfold maxLen; omega) (by have := En.out; omega) x hxf
            rw [← En.out] at hput
            have HQ4 := Lib.hid (HQ2.out.turn hg4 hK4)
            obtain ⟨s1, s2⟩ := HQ4.out.S k (by omega)
            have r0 := (hb.cell (p := ⟨wo.heap.size, 0, none⟩) hz1).trans q0
            have r1 := (hb.cell (p := ⟨wo.heap.size, 1, none⟩) hz1).trans q1
            have r2 := (hb.cell (p := ⟨wo.heap.size, 2, none⟩) hz1).trans q2
            have r3 := (hb.cell (p := ⟨wo.heap.size, 3, none⟩) hz1).trans q3
            clear q0 q1 q2 q3 hb hK4 hg4
            go_wp2_with fail
            go_roundw
            case rel =>
              have h5 := HQ4.out.store (by omega) HX.out
              rw [← En.out, ← etk.out] at h5
              exact ⟨k + 1, by omega, by go_num, h5⟩
            case measure => simp [intOf]; omega
    · obtain rfl : k = n := by omega
      obtain ⟨sa0, sb0⟩ := HQ.out.S 0 (by omega)
      obtain ⟨ra0, rb0⟩ := HQ.out.R 0 (by omega)
      obtain ⟨sa1, sb1⟩ := HQ.out.S 1 (by omega)
      obtain ⟨ra1, rb1⟩ := HQ.out.R 1 (by omega)
      obtain ⟨sa2, sb2⟩ := HQ.out.S 2 (by omega)
      obtain ⟨ra2, rb2⟩ := HQ.out.R 2 (by omega)
      obtain ⟨sa3, sb3⟩ := HQ.out.S 3 (by omega)
      obtain ⟨ra3, rb3⟩ := HQ.out.R 3 (by omega)
      obtain ⟨sa4, sb4⟩ := HQ.out.S 4 (by omega)
      obtain ⟨ra4, rb4⟩ := HQ.out.R 4 (by omega)
      obtain ⟨sa5, sb5⟩ := HQ.out.S 5 (by omega)
      obtain ⟨ra5, rb5⟩ := HQ.out.R 5 (by omega)
      obtain ⟨sa6, sb6⟩ := HQ.out.S 6 (by omega)
      obtain ⟨ra6, rb6⟩ := HQ.out.R 6 (by omega)
      obtain ⟨sa7, sb7⟩ := HQ.out.S 7 (by omega)
      obtain ⟨ra7, rb7⟩ := HQ.out.R 7 (by omega)
      go_wp2_with fail
      obtain ⟨V, hV⟩ : ∃ V, V = wo.setCells w.heap.size 0 [.int .u8 (msOf r gs k 0), .int .u8 (msOf r gs k 1), .int .u8 (msOf r gs k 2), .int .u8 (msOf r gs k 3), .int .u8 (msOf r gs k 4), .int .u8 (msOf r gs k 5), .int .u8 (msOf r gs k 6), .int .u8 (msOf r gs k 7)] := ⟨_, rfl⟩
      have hbV : Below w.heap.size w V := by rw [hV]; exact below_setCells HQ.out.B (Nat.le_refl _) _ _
      have hcV : ∀ (j : Nat) (hj : j < 8), V.cell? ⟨w.heap.size, j, none⟩ = some ([Value.int .u8 (msOf r gs k 0), .int .u8 (msOf r gs k 1), .int .u8 (msOf r gs k 2), .int .u8 (msOf r gs k 3), .int .u8 (msOf r gs k 4), .int .u8 (msOf r gs k 5), .int .u8 (msOf r gs k 6), .int .u8 (msOf r gs k 7)][j]'hj) := fun j hj => by
        have h := World.cell?_setCells_in w.heap.size [.int .u8 (msOf r gs k 0), .int .u8 (msOf r gs k 1), .int .u8 (msOf r gs k 2), .int .u8 (msOf r gs k 3), .int .u8 (msOf r gs k 4), .int .u8 (msOf r gs k 5), .int .u8 (msOf r gs k 6), .int .u8 (msOf r gs k 7)] 0 wo (fun i hi => by rw [Nat.zero_add, (HQ.out.R i hi).1]; rfl) j hj
        rw [Nat.zero_add] at h
        rw [hV]
        exact h
      have hV2 := hV
      simp only [World.setCells, Nat.reduceAdd] at hV2
      rw [← hV2]
      have d0 := hcV 0 (by omega)
      have d1 := hcV 1 (by omega)
      have d2 := hcV 2 (by omega)
      have d3 := hcV 3 (by omega)
      have d4 := hcV 4 (by omega)
      have d5 := hcV 5 (by omega)
      have d6 := hcV 6 (by omega)
      have d7 := hcV 7 (by omega)
      clear hV hV2 hcV
      refine bodyPost_ret (v := eightV (msOf r gs k)) ?_ rfl ⟨rfl, hbV⟩
      simp only [List.getElem_cons_zero, List.getElem_cons_succ] at d0 d1 d2 d3 d4 d5 d6 d7
      simp [results, Tryd.results115, go_sem, d0, d1, d2, d3, d4, d5, d6, d7]
end Go.Proofs.YtekigapeekjigaaDoor.mem

/-
  Contract of the program's newBasket.
-/
namespace Go.Proofs.YtekigapeekjigaaDoor.mem
open Go Go.RowKit errs garS heats meet load

abbrev zero10 : Array Value := #[.slice none 0 0, .int .u8 0, .int .u8 0, .int .u8 0, .int .u8 0, .int .u8 0, .int .u8 0, .int .u8 0, .int .u8 0, .int .i64 0]
theorem zero10_some : ∀ j, j < 10 → (zero10[j]?).isSome = true := fun j hj => by
  have : j < zero10.size := hj
  simp [Array.getElem?_eq_getElem this]
set_option maxRecDepth 100000 in
set_option maxHeartbeats 4000000 in
theorem newBasket_any (r : Nat → Int) (hr : Six r) (hold : Int) (A : Option Addr) (n c : Nat) (gs : List Gar) (en : n = gs.length) (hn : n ≤ 8) (hv : ∀ x ∈ gs, x.valid = true) (w : World) (hg : GS w w.heap.size A gs) :
    Calls Tryd.prog 69 #[rulesV r, .int .i64 hold, .slice A n c] w fun o w' => o = .returned (bV A n c (msOf r gs n) hold) ∧ Below w.heap.size w w' := by
  have En := Lib.hid en
  clear en
  have h6 := SixAt.new r w 26
  obtain ⟨s0, s1, s2, s3, s4, s5⟩ := h6
  go_enter Tryd.func69, Tryd.ntmps69
  go_wp2_with fail
  have e1 : (w.alloc (.cells (rulesCs r) 26)).heap.size = w.heap.size + 1 := by simp
  have hn2 := heap_alloc_new (w.alloc (.cells (rulesCs r) 26)) (.cells zero10 105)
  rw [e1] at hn2
  have hB1 : Below w.heap.size w ((w.alloc (.cells (rulesCs r) 26)).alloc (.cells zero10 105)) := ((Below.refl _ w).alloc (Nat.le_refl _) _).alloc (by simp) _
  refine (meetingSets_any r hr A n c gs En.out hn hv _ ((hg.below hB1).more hB1.size)).mono ?_
  rintro o w2 ⟨rfl, hb2⟩
  have hcf : ∀ j, j < 10 → w2.cell? ⟨w.heap.size + 1, j, none⟩ = zero10[j]? ∧ w2.frozen? ⟨w.heap.size + 1, j, none⟩ = false := fun j hj => by
    have hlt : w.heap.size + 1 < ((w.alloc (.cells (rulesCs r) 26)).alloc (.cells zero10 105)).heap.size := by simp
    refine ⟨(hb2.cell (p := ⟨w.heap.size + 1, j, none⟩) hlt).trans (cell_of_row _ _ _ _ _ _ hn2), (hb2.frozen (p := ⟨w.heap.size + 1, j, none⟩) hlt).trans ?_⟩
    unfold World.frozen?
    rw [hn2]
    rfl
  have B2 := Lib.hid (hB1.trans (hb2.mono hB1.size))
  have HCF := Lib.hid hcf
  obtain ⟨c0, f0⟩ := hcf 0 (by omega)
  obtain ⟨c1, f1⟩ := hcf 1 (by omega)
  obtain ⟨c2, f2⟩ := hcf 2 (by omega)
  obtain ⟨c3, f3⟩ := hcf 3 (by omega)
  obtain ⟨c4, f4⟩ := hcf 4 (by omega)
  obtain ⟨c5, f5⟩ := hcf 5 (by omega)
  obtain ⟨c6, f6⟩ := hcf 6 (by omega)
  obtain ⟨c7, f7⟩ := hcf 7 (by omega)
  obtain ⟨c8, f8⟩ := hcf 8 (by omega)
  obtain ⟨c9, f9⟩ := hcf 9 (by omega)
  clear hcf hb2 hB1 s0 s1 s2 s3 s4 s5 hn2
  go_wp2_with fail
  obtain ⟨V, hV⟩ : ∃ V, V = w2.setCells (w.heap.size + 1) 0 [.slice A n c, .int .u8 (msOf r gs n 0), .int .u8 (msOf r gs n 1), .int .u8 (msOf r gs n 2), .int .u8 (msOf r gs n 3), .int .u8 (msOf r gs n 4), .int .u8 (msOf r gs n 5), .int .u8 (msOf r gs n 6), .int .u8 (msOf r gs n 7), .int .i64 hold] := ⟨_, rfl⟩
  have hbV : Below w.heap.size w V := by rw [hV]; exact below_setCells B2.out (Nat.le_succ _) _ _
  have hcV : ∀ (j : Nat) (hj : j < 10), V.cell? ⟨w.heap.size + 1, j, none⟩ = some ([Value.slice A n c, .int .u8 (msOf r gs n 0), .int .u8 (msOf r gs n 1), .int .u8 (msOf r gs n 2), .int .u8 (msOf r gs n 3), .int .u8 (msOf r gs n 4), .int .u8 (msOf r gs n 5), .int .u8 (msOf r gs n 6), .int .u8 (msOf r gs n 7), .int .i64 hold][j]'hj) := fun j hj => by
    have h := World.cell?_setCells_in (w.heap.size + 1) [.slice A n c, .int .u8 (msOf r gs n 0), .int .u8 (msOf r gs n 1), .int .u8 (msOf r gs n 2), .int .u8 (msOf r gs n 3), .int .u8 (msOf r gs n 4), .int .u8 (msOf r gs n 5), .int .u8 (msOf r gs n 6), .int .u8 (msOf r gs n 7), .int .i64 hold] 0 w2 (fun i hi => by rw [Nat.zero_add, (HCF.out i hi).1]; exact zero10_some i hi) j hj
    rw [Nat.zero_add] at h
    rw [hV]
    exact h
  have hV2 := hV
  simp only [World.setCells, Nat.reduceAdd] at hV2
  rw [← hV2]
  have d0 := hcV 0 (by omega)
  have d1 := hcV 1 (by omega)
  have d2 := hcV 2 (by omega)
  have d3 := hcV 3 (by omega)
  have d4 := hcV 4 (by omega)
  have d5 := hcV 5 (by omega)
  have d6 := hcV 6 (by omega)
  have d7 := hcV 7 (by omega)
  have d8 := hcV 8 (by omega)
  have d9 := hcV 9 (by omega)
  clear hV hV2 hcV
  refine bodyPost_ret (v := bV A n c (msOf r gs n) hold) ?_ rfl ⟨rfl, hbV⟩
  simp only [List.getElem_cons_zero, List.getElem_cons_succ] at d0 d1 d2 d3 d4 d5 d6 d7 d8 d9
  simp [results, Tryd.results69, go_sem, d0, d1, d2, d3, d4, d5, d6, d7, d8, d9]
end Go.Proofs.YtekigapeekjigaaDoor.mem

/-
  Contract of the program's setsOf: the sets that loads tell.
-/
namespace Go.Proofs.YtekigapeekjigaaDoor.mem
open Go Go.RowKit errs garS heats meet load sl

/-- the set of each number -/
def setF (ls : List Int) (k : Nat) : Nat → Int := fun j => ((setK ls (j : Int) k : Nat) : Int)
def zeroF : Nat → Int := fun _ => 0
/-- what setsOf returns -/
def setsV (ls : List Int) (n : Nat) (b : Bool) : Nat → Int := if b = true then setF ls n else zeroF
/-- a basket in its box, the room for the result, none, and the sets -/
structure SQ (w W : World) (A : Option Addr) (n c : Nat) (m : Nat → Int) (hold : Int) (f : Nat → Int) : Prop where
  K : Bask W w.heap.size A n c m hold
  R : ∀ j, j < 8 → W.cell? ⟨w.heap.size + 1, j, none⟩ = some (.int .u8 0) ∧ W.frozen? ⟨w.heap.size + 1, j, none⟩ = false
  N : ∀ j, j < 8 → W.cell? ⟨w.heap.size + 1 + 1, j, none⟩ = some (.int .u8 0) ∧ W.frozen? ⟨w.heap.size + 1 + 1, j, none⟩ = false
  S : ∀ j, j < 8 → W.cell? ⟨w.heap.size + 1 + 1 + 1, j, none⟩ = some (.int .u8 (f j)) ∧ W.frozen? ⟨w.heap.size + 1 + 1 + 1, j, none⟩ = false
  B : Below w.heap.size w W
  z : w.heap.size + 1 + 1 + 1 < W.heap.size
theorem SQ.next {w W V : World} {A : Option Addr} {n c : Nat} {m : Nat → Int} {hold : Int} {f : Nat → Int} (h : SQ w W A n c m hold f) (hb : Below W.heap.size W V) : SQ w V A n c m hold f := by
  have hz := h.z
  have cc : ∀ g j, g ≤ w.heap.size + 1 + 1 + 1 → V.cell? ⟨g, j, none⟩ = W.cell? ⟨g, j, none⟩ := fun g j hg => hb.cell (p := ⟨g, j, none⟩) (by show g < _; omega)
  have cf : ∀ g j, g ≤ w.heap.size + 1 + 1 + 1 → V.frozen? ⟨g, j, none⟩ = W.frozen? ⟨g, j, none⟩ := fun g j hg => hb.frozen (p := ⟨g, j, none⟩) (by show g < _; omega)
  refine ⟨h.K.keep fun j v hv => (cc _ _ (by omega)).trans hv, fun j hj => ⟨(cc _ _ (by omega)).trans (h.R j hj).1, (cf _ _ (by omega)).trans (h.R j hj).2⟩, fun j hj => ⟨(cc _ _ (by omega)).trans (h.N j hj).1, (cf _ _ (by omega)).trans (h.N j hj).2⟩,
    fun j hj => ⟨(cc _ _ (by omega)).trans (h.S j hj).1, (cf _ _ (by omega)).trans (h.S j hj).2⟩, h.B.trans (hb.mono h.B.size), Nat.lt_of_lt_of_le hz hb.size⟩
theorem cell_setCell_ne (W : World) (g a b : Nat) (v : Value) (h : a ≠ b) : (W.setCell ⟨g, a, none⟩ v).cell? ⟨g, b, none⟩ = W.cell? ⟨g, b, none⟩ := by
  have hne : (⟨g, a, none⟩ : Addr) ≠ ⟨g, b, none⟩ := fun e2 => h (by injection e2)
  first | exact World.cell?_setCell_other _ hne | exact World.cell?_setCell_other _ _ _ hne | exact World.cell?_setCell_other _ _ _ _ hne
theorem SQ.put {w W : World} {A : Option Addr} {n c : Nat} {m : Nat → Int} {hold : Int} {f f' : Nat → Int} (h : SQ w W A n c m hold f) (a : Nat) (ha : a < 8) (v : Int) (h1 : f' a = v) (h2 : ∀ j, j ≠ a → f' j = f j) : SQ w (W.setCell ⟨w.heap.size + 1 + 1 + 1, a, none⟩ (.int .u8 v)) A n c m hold f' := by
  have hz := h.z
  have cc : ∀ g j, g ≤ w.heap.size + 1 + 1 → (W.setCell ⟨w.heap.size + 1 + 1 + 1, a, none⟩ (.int .u8 v)).cell? ⟨g, j, none⟩ = W.cell? ⟨g, j, none⟩ := fun g j hg => World.cell?_setCell_far _ _ _ _ (by show w.heap.size + 1 + 1 + 1 ≠ g; omega)
  refine ⟨h.K.keep fun j v hv => (cc _ _ (by omega)).trans hv, fun j hj => ⟨(cc _ _ (by omega)).trans (h.R j hj).1, by rw [World.frozen?_setCell]; exact (h.R j hj).2⟩, fun j hj => ⟨(cc _ _ (by omega)).trans (h.N j hj).1, by rw [World.frozen?_setCell]; exact (h.N j hj).2⟩,
    fun j hj => ⟨?_, by rw [World.frozen?_setCell]; exact (h.S j hj).2⟩, h.B.setCell (p := ⟨w.heap.size + 1 + 1 + 1, a, none⟩) (by show w.heap.size ≤ w.heap.size + 1 + 1 + 1; omega) _, by rw [World.size_setCell]; exact hz⟩
  by_cases e : j = a
  · subst e
    rw [World.cell?_setCell_same' _ _ _ (by rw [(h.S j hj).1]; rfl), h1]
  · rw [cell_setCell_ne _ _ _ _ _ (Ne.symm e), (h.S j hj).1, h2 j e]
theorem SQ.new (w : World) (A : Option Addr) (n c : Nat) (m : Nat → Int) (hold : Int) (ls : List Int) (t t' : TypeId) : SQ w ((((w.alloc (.cells (bC A n c m hold) t)).alloc (.cells zero8 t')).alloc (.cells zero8 t')).alloc (.cells zero8 t')) A n c m hold (setF ls 0) := by
  obtain ⟨g0, g1, g2, g3, hsz, hB⟩ := heap4 w (.cells (bC A n c m hold) t) (.cells zero8 t') (.cells zero8 t') (.cells zero8 t')
  have fz : ∀ {W : World} {g j : Nat}, W.heap[g]? = some (.cells zero8 t' (0, 0)) → W.frozen? ⟨g, j, none⟩ = false := fun h => by unfold World.frozen?; rw [h]; rfl
  refine ⟨⟨cell_of_row _ _ _ _ _ _ g0, fun j hj => (cell_of_row _ _ _ _ _ _ g0).trans (bC_m A n c m hold j hj), cell_of_row _ _ _ _ _ _ g0⟩, fun j hj => ⟨(cell_of_row _ _ _ _ _ _ g1).trans (zero8_at j hj), fz g1⟩, fun j hj => ⟨(cell_of_row _ _ _ _ _ _ g2).trans (zero8_at j hj), fz g2⟩, fun j hj => ⟨(cell_of_row _ _ _ _ _ _ g3).trans (zero8_at j hj), fz g3⟩, hB, by omega⟩
theorem setF_put {ls : List Int} {k a : Nat} (hx : ls[k]? = some (a : Int)) : setF ls (k + 1) a = ((setK ls a k ||| 2 ^ k : Nat) : Int) := by
  unfold setF
  rw [setK, if_pos hx]
theorem setF_else {ls : List Int} {k a : Nat} (hx : ls[k]? = some (a : Int)) (j : Nat) (hj : j ≠ a) : setF ls (k + 1) j = setF ls k j := by
  unfold setF
  rw [setK, if_neg (by rw [hx]; simp; omega)]
theorem upto {p : Nat → Prop} {q : Nat} (h1 : ∀ j : Nat, j < q → p j) (h2 : p q) : ∀ j : Nat, j < q + 1 → p j := fun j hj => by
  rcases Nat.lt_or_ge j q with h3 | h3
  · exact h1 j h3
  · obtain rfl : j = q := by omega
    exact h2
theorem run_index_eight (f : Nat → Int) {k : Nat} (hk : k < 8) (s : Int) (hs : f k = s) (u : World) : (Instr.index 102 (eightV f) (.int .i64 k)).run Tryd.prog u = .ok (.int .u8 s) u := by
  subst hs
  have i0 : (Instr.index 102 (eightV f) (.int .i64 (0 : Nat))).run Tryd.prog u = .ok (.int .u8 (f 0)) u := by kernel_rfl
  have i1 : (Instr.index 102 (eightV f) (.int .i64 (1 : Nat))).run Tryd.prog u = .ok (.int .u8 (f 1)) u := by kernel_rfl
  have i2 : (Instr.index 102 (eightV f) (.int .i64 (2 : Nat))).run Tryd.prog u = .ok (.int .u8 (f 2)) u := by kernel_rfl
  have i3 : (Instr.index 102 (eightV f) (.int .i64 (3 : Nat))).run Tryd.prog u = .ok (.int .u8 (f 3)) u := by kernel_rfl
  have i4 : (Instr.index 102 (eightV f) (.int .i64 (4 : Nat))).run Tryd.prog u = .ok (.int .u8 (f 4)) u := by kernel_rfl
  have i5 : (Instr.index 102 (eightV f) (.int .i64 (5 : Nat))).run Tryd.prog u = .ok (.int .u8 (f 5)) u := by kernel_rfl
  have i6 : (Instr.index 102 (eightV f) (.int .i64 (6 : Nat))).run Tryd.prog u = .ok (.int .u8 (f 6)) u := by kernel_rfl
  have i7 : (Instr.index 102 (eightV f) (.int .i64 (7 : Nat))).run Tryd.prog u = .ok (.int .u8 (f 7)) u := by kernel_rfl
  match k, hk with
  | 0, _ => exact i0
  | 1, _ => exact i1
  | 2, _ => exact i2
  | 3, _ => exact i3
  | 4, _ => exact i4
  | 5, _ => exact i5
  | 6, _ => exact i6
  | 7, _ => exact i7
set_option maxRecDepth 100000 in
set_option maxHeartbeats 8000000 in
theorem setsOf_any (A : Option Addr) (n c : Nat) (gs : List Gar) (en : n = gs.length) (hn : n ≤ 8) (ms : Nat → Int) (hold : Int) (A' : Option Addr) (m c' : Nat) (ls : List Int) (em : m = ls.length) (hm : m ≤ 1048576) (w : World) (hg : GS w w.heap.size A gs) (ho : Sl intS.C 1 w w.heap.size A' ls) (b : Bool) (hb : b = true ↔ RightB gs ms hold ls) :
    Calls Tryd.prog 70 #[bV A n c ms hold, .slice A' m c'] w fun o w' => o = .returned (.tuple #[eightV (setsV ls n b), .bool b]) ∧ Below w.heap.size w w' := by
  have En := Lib.hid en
  have Em := Lib.hid em
  have HB := Lib.hid hb
  clear en em hb
  have S0 := Lib.hid (SQ.new w A n c ms hold ls 105 102)
  have hno : ∀ {p : Prop}, ¬ p → (b = true → p) → b = false := fun hp h => by
    cases hbb : b with
    | false => rfl
    | true => exact absurd (h hbb) hp
  by_cases hmn : m = n
  · subst hmn
    have c0 := S0.out.K.s
    go_enter Tryd.func70, Tryd.ntmps70
    go_wp2_with fail
    go_loopw [21] (fun vi wr => ∃ k : Nat, k ≤ m ∧ vi = .int .i64 k ∧ (∀ j x, j < k → ls[j]? = some x → 0 ≤ x ∧ x < 8) ∧ SQ w wr A m c ms hold (setF ls k)) (fun vi _ => m - (intOf vi).toNat)
    case atStart => exact ⟨0, by omega, rfl, fun j x h => absurd h (by omega), S0.out⟩
    case round =>
      clear S0 c0
      obtain ⟨k, hk, rfl, hq, hQ⟩ := hrel
      have HQ := Lib.hid hq
      have HS := Lib.hid hQ
      clear hq
      by_cases hlt : k < m
      · obtain ⟨x, hx⟩ : ∃ x, ls[k]? = some x := ⟨ls[k]'(by have := Em.out; omega), List.getElem?_eq_getElem _⟩
        obtain ⟨a, rfl, hab, hat⟩ := (ho.below hQ.B).at_ k x hx
        have q0 := intS.at_ hat
        have HX := Lib.hid hx
        clear hx hat hQ
        by_cases hx0 : x < 0
        · have hbf : b = false := hno (p := 0 ≤ x ∧ x < 8) (by omega) fun h => (HB.out.1 h).2.1 x (List.mem_of_getElem? HX.out)
          obtain ⟨ra0, rb0⟩ := HS.out.R 0 (by omega)
          obtain ⟨ra1, rb1⟩ := HS.out.R 1 (by omega)
          obtain ⟨ra2, rb2⟩ := HS.out.R 2 (by omega)
          obtain ⟨ra3, rb3⟩ := HS.out.R 3 (by omega)
          obtain ⟨ra4, rb4⟩ := HS.out.R 4 (by omega)
          obtain ⟨ra5, rb5⟩ := HS.out.R 5 (by omega)
          obtain ⟨ra6, rb6⟩ := HS.out.R 6 (by omega)
          obtain ⟨ra7, rb7⟩ := HS.out.R 7 (by omega)
          obtain ⟨na0, nb0⟩ := HS.out.N 0 (by omega)
          obtain ⟨na1, nb1⟩ := HS.out.N 1 (by omega)
          obtain ⟨na2, nb2⟩ := HS.out.N 2 (by omega)
          obtain ⟨na3, nb3⟩ := HS.out.N 3 (by omega)
          obtain ⟨na4, nb4⟩ := HS.out.N 4 (by omega)
          obtain ⟨na5, nb5⟩ := HS.out.N 5 (by omega)
          obtain ⟨na6, nb6⟩ := HS.out.N 6 (by omega)
          obtain ⟨na7, nb7⟩ := HS.out.N 7 (by omega)
          subst hbf
          go_wp2_with fail
          obtain ⟨V, hV⟩ : ∃ V, V = wr.setCells (w.heap.size + 1) 0 [.int .u8 (zeroF 0), .int .u8 (zeroF 1), .int .u8 (zeroF 2), .int .u8 (zeroF 3), .int .u8 (zeroF 4), .int .u8 (zeroF 5), .int .u8 (zeroF 6), .int .u8 (zeroF 7)] := ⟨_, rfl⟩
          have hbV : Below w.heap.size w V := by rw [hV]; exact below_setCells HS.out.B (by omega) _ _
          have hcV : ∀ (j : Nat) (hj : j < 8), V.cell? ⟨w.heap.size + 1, j, none⟩ = some ([Value.int .u8 (zeroF 0), .int .u8 (zeroF 1), .int .u8 (zeroF 2), .int .u8 (zeroF 3), .int .u8 (zeroF 4), .int .u8 (zeroF 5), .int .u8 (zeroF 6), .int .u8 (zeroF 7)][j]'hj) := fun j hj => by
            have h := World.cell?_setCells_in (w.heap.size + 1) [.int .u8 (zeroF 0), .int .u8 (zeroF 1), .int .u8 (zeroF 2), .int .u8 (zeroF 3), .int .u8 (zeroF 4), .int .u8 (zeroF 5), .int .u8 (zeroF 6), .int .u8 (zeroF 7)] 0 wr (fun i hi => by rw [Nat.zero_add, (HS.out.R i hi).1]; rfl) j hj
            rw [Nat.zero_add] at h
            rw [hV]
            exact h
          have hV2 := hV
          simp only [World.setCells, Nat.reduceAdd, zeroF] at hV2
          rw [← hV2]
          have d0 := hcV 0 (by omega)
          have d1 := hcV 1 (by omega)
          have d2 := hcV 2 (by omega)
          have d3 := hcV 3 (by omega)
          have d4 := hcV 4 (by omega)
          have d5 := hcV 5 (by omega)
          have d6 := hcV 6 (by omega)
          have d7 := hcV 7 (by omega)
          clear hV hV2 hcV
          simp only [List.getElem_cons_zero, List.getElem_cons_succ] at d0 d1 d2 d3 d4 d5 d6 d7
          refine bodyPost_ret (v := .tuple #[eightV zeroF, .bool false]) ?_ rfl ⟨rfl, hbV⟩
          simp [results, Tryd.results70, go_sem, d0, d1, d2, d3, d4, d5, d6, d7]
        · by_cases hx1 : 8 ≤ x
          · have hbf : b = false := hno (p := 0 ≤ x ∧ x < 8) (by omega) fun h => (HB.out.1 h).2.1 x (List.mem_of_getElem? HX.out)
            obtain ⟨ra0, rb0⟩ := HS.out.R 0 (by omega)
            obtain ⟨ra1, rb1⟩ := HS.out.R 1 (by omega)
            obtain ⟨ra2, rb2⟩ := HS.out.R 2 (by omega)
            obtain ⟨ra3, rb3⟩ := HS.out.R 3 (by omega)
            obtain ⟨ra4, rb4⟩ := HS.out.R 4 (by omega)
            obtain ⟨ra5, rb5⟩ := HS.out.R 5 (by omega)
            obtain ⟨ra6, rb6⟩ := HS.out.R 6 (by omega)
            obtain ⟨ra7, rb7⟩ := HS.out.R 7 (by omega)
            obtain ⟨na0, nb0⟩ := HS.out.N 0 (by omega)
            obtain ⟨na1, nb1⟩ := HS.out.N 1 (by omega)
            obtain ⟨na2, nb2⟩ := HS.out.N 2 (by omega)
            obtain ⟨na3, nb3⟩ := HS.out.N 3 (by omega)
            obtain ⟨na4, nb4⟩ := HS.out.N 4 (by omega)
            obtain ⟨na5, nb5⟩ := HS.out.N 5 (by omega)
            obtain ⟨na6, nb6⟩ := HS.out.N 6 (by omega)
            obtain ⟨na7, nb7⟩ := HS.out.N 7 (by omega)
            subst hbf
            go_wp2_with fail
            obtain ⟨V, hV⟩ : ∃ V, V = wr.setCells (w.heap.size + 1) 0 [.int .u8 (zeroF 0), .int .u8 (zeroF 1), .int .u8 (zeroF 2), .int .u8 (zeroF 3), .int .u8 (zeroF 4), .int .u8 (zeroF 5), .int .u8 (zeroF 6), .int .u8 (zeroF 7)] := ⟨_, rfl⟩
            have hbV : Below w.heap.size w V := by rw [hV]; exact below_setCells HS.out.B (by omega) _ _
            have hcV : ∀ (j : Nat) (hj : j < 8), V.cell? ⟨w.heap.size + 1, j, none⟩ = some ([Value.int .u8 (zeroF 0), .int .u8 (zeroF 1), .int .u8 (zeroF 2), .int .u8 (zeroF 3), .int .u8 (zeroF 4), .int .u8 (zeroF 5), .int .u8 (zeroF 6), .int .u8 (zeroF 7)][j]'hj) := fun j hj => by
              have h := World.cell?_setCells_in (w.heap.size + 1) [.int .u8 (zeroF 0), .int .u8 (zeroF 1), .int .u8 (zeroF 2), .int .u8 (zeroF 3), .int .u8 (zeroF 4), .int .u8 (zeroF 5), .int .u8 (zeroF 6), .int .u8 (zeroF 7)] 0 wr (fun i hi => by rw [Nat.zero_add, (HS.out.R i hi).1]; rfl) j hj
              rw [Nat.zero_add] at h
              rw [hV]
              exact h
            have hV2 := hV
            simp only [World.setCells, Nat.reduceAdd, zeroF] at hV2
            rw [← hV2]
            have d0 := hcV 0 (by omega)
            have d1 := hcV 1 (by omega)
            have d2 := hcV 2 (by omega)
            have d3 := hcV 3 (by omega)
            have d4 := hcV 4 (by omega)
            have d5 := hcV 5 (by omega)
            have d6 := hcV 6 (by omega)
            have d7 := hcV 7 (by omega)
            clear hV hV2 hcV
            simp only [List.getElem_cons_zero, List.getElem_cons_succ] at d0 d1 d2 d3 d4 d5 d6 d7
            refine bodyPost_ret (v := .tuple #[eightV zeroF, .bool false]) ?_ rfl ⟨rfl, hbV⟩
            simp [results, Tryd.results70, go_sem, d0, d1, d2, d3, d4, d5, d6, d7]
          · obtain ⟨y, rfl⟩ : ∃ y : Nat, x = (y : Int) := ⟨x.toNat, by omega⟩
            have hy : y < 8 := by omega
            obtain ⟨s1, s2⟩ := HS.out.S y hy
            have hk8 : k < 8 := by omega
            have hsl := setK_lt ls (y : Int) k (by omega)
            have z0 : (0 : Int) ≤ (y : Int) := by omega
            have z1 : (y : Int) < 8 := by omega
            have z2 : (0 : Int) ≤ (k : Int) := by omega
            clear hx0 hx1
            go_wp2_with fail
            go_region
            all_goals
              go_wp2_with fail
              go_roundw
              case rel => exact ⟨k + 1, by omega, by go_num, fun j x hj hx => by
                rcases Nat.lt_or_ge j k with h1 | h1
                · exact HQ.out j x h1 hx
                · obtain rfl : j = k := by omega
                  have e := HX.out
                  rw [hx] at e
                  rw [Option.some.inj e]
                  omega, (HS.out.put y hy _ ((setF_put HX.out).trans (or_pow _ _ hsl hk8).symm) (setF_else HX.out)).next ((Below.refl _ _).drew)⟩
              case measure => simp [intOf]; omega
      · obtain rfl : k = m := by omega
        obtain ⟨sa0, sb0⟩ := HS.out.S 0 (by omega)
        obtain ⟨sa1, sb1⟩ := HS.out.S 1 (by omega)
        obtain ⟨sa2, sb2⟩ := HS.out.S 2 (by omega)
        obtain ⟨sa3, sb3⟩ := HS.out.S 3 (by omega)
        obtain ⟨sa4, sb4⟩ := HS.out.S 4 (by omega)
        obtain ⟨sa5, sb5⟩ := HS.out.S 5 (by omega)
        obtain ⟨sa6, sb6⟩ := HS.out.S 6 (by omega)
        obtain ⟨sa7, sb7⟩ := HS.out.S 7 (by omega)
        clear hQ
        go_wp2_with fail
        clear sa0 sa1 sa2 sa3 sa4 sa5 sa6 sa7 sb0 sb1 sb2 sb3 sb4 sb5 sb6 sb7
        obtain ⟨w1, rfl⟩ : ∃ w1, w1 = wr := ⟨wr, rfl⟩
        go_loopw [42] (fun vi wr => ∃ q : Nat, q ≤ 8 ∧ vi = .int .i64 q ∧ (∀ j : Nat, j < q → setK ls j k = 0 ∨ isLoadB gs ms hold (setK ls j k) = true) ∧ SQ w wr A k c ms hold (setF ls k)) (fun vi _ => 8 - (intOf vi).toNat)
        case atStart => exact ⟨0, by omega, rfl, fun j h => absurd h (by omega), HS.out⟩
        case round =>
          clear HS
          obtain ⟨q, hq, rfl, hp, hQ⟩ := hrel
          have HP := Lib.hid hp
          have HS := Lib.hid hQ
          clear hp
          by_cases hlt : q < 8
          · obtain ⟨s, hs⟩ : ∃ s, s = setK ls (q : Int) k := ⟨_, rfl⟩
            have hidx : ∀ u, (Instr.index 102 (eightV (setF ls k)) (.int .i64 q)).run Tryd.prog u = .ok (.int .u8 (s : Int)) u := run_index_eight (setF ls k) hlt (s : Int) (by rw [hs]; rfl)
            have hs256 : s < 256 := by rw [hs]; exact setK_lt ls q k hn
            have hin : ∀ i, i < 8 → s.testBit i = true → i < k := by rw [hs]; exact setK_in ls q k
            have HSS := Lib.hid hs
            have HIN := Lib.hid hin
            clear hs hin
            clear hQ
            by_cases hz : s = 0
            · have hz2 : ((s : Int) != 0) = false := by rw [hz]; rfl
              have HZ := Lib.hid hz
              clear hz
              go_wp2_with fail
              go_roundw
              case rel => exact ⟨q + 1, by omega, by go_num, upto HP.out (.inl (HSS.out.symm.trans HZ.out)), HS.out⟩
              case measure => simp [intOf]; omega
            · have hz2 : ((s : Int) != 0) = true := by rw [bne_iff_ne]; omega
              have c0 := HS.out.K.s
              have c9 := HS.out.K.h
              have c1 := HS.out.K.m 0 (by omega)
              have c2 := HS.out.K.m 1 (by omega)
              have c3 := HS.out.K.m 2 (by omega)
              have c4 := HS.out.K.m 3 (by omega)
              have c5 := HS.out.K.m 4 (by omega)
              have c6 := HS.out.K.m 5 (by omega)
              have c7 := HS.out.K.m 6 (by omega)
              have c8 := HS.out.K.m 7 (by omega)
              simp only [Nat.reduceAdd, Nat.add_zero] at c1 c2 c3 c4 c5 c6 c7 c8
              have HG := Lib.hid ((hg.below HS.out.B).more HS.out.B.size)
              cases hv : isLoadB gs ms hold s with
              | true =>
                have HV := Lib.hid hv
                clear hv hz
                go_wp2_with fail
                refine (isLoad_any A k c gs En.out (by omega) ms hold s hs256 HIN.out _ HG.out true HV.out).mono ?_
                rintro o w2 ⟨rfl, hb2⟩
                have HS2 := Lib.hid (HS.out.next hb2)
                clear hb2 c0 c1 c2 c3 c4 c5 c6 c7 c8 c9
                go_wp2_with fail
                go_roundw
                case rel => exact ⟨q + 1, by omega, by go_num, upto HP.out (.inr (by rw [← HSS.out]; exact HV.out)), HS2.out⟩
                case measure => simp [intOf]; omega
              | false =>
                have hbf : b = false := hno (p := s = 0 ∨ isLoadB gs ms hold s = true) (by rw [hv]; simpa using hz) fun h => by
                  have h3 := (HB.out.1 h).2.2 q hlt
                  rwa [← En.out, ← HSS.out] at h3
                have HV := Lib.hid hv
                subst hbf
                clear hv hz
                go_wp2_with fail
                refine (isLoad_any A k c gs En.out (by omega) ms hold s hs256 HIN.out _ HG.out false HV.out).mono ?_
                rintro o w2 ⟨rfl, hb2⟩
                have HS2 := Lib.hid (HS.out.next hb2)
                clear hb2 c0 c1 c2 c3 c4 c5 c6 c7 c8 c9
                obtain ⟨ra0, rb0⟩ := HS2.out.R 0 (by omega)
                obtain ⟨ra1, rb1⟩ := HS2.out.R 1 (by omega)
                obtain ⟨ra2, rb2⟩ := HS2.out.R 2 (by omega)
                obtain ⟨ra3, rb3⟩ := HS2.out.R 3 (by omega)
                obtain ⟨ra4, rb4⟩ := HS2.out.R 4 (by omega)
                obtain ⟨ra5, rb5⟩ := HS2.out.R 5 (by omega)
                obtain ⟨ra6, rb6⟩ := HS2.out.R 6 (by omega)
                obtain ⟨ra7, rb7⟩ := HS2.out.R 7 (by omega)
                obtain ⟨na0, nb0⟩ := HS2.out.N 0 (by omega)
                obtain ⟨na1, nb1⟩ := HS2.out.N 1 (by omega)
                obtain ⟨na2, nb2⟩ := HS2.out.N 2 (by omega)
                obtain ⟨na3, nb3⟩ := HS2.out.N 3 (by omega)
                obtain ⟨na4, nb4⟩ := HS2.out.N 4 (by omega)
                obtain ⟨na5, nb5⟩ := HS2.out.N 5 (by omega)
                obtain ⟨na6, nb6⟩ := HS2.out.N 6 (by omega)
                obtain ⟨na7, nb7⟩ := HS2.out.N 7 (by omega)
                go_wp2_with fail
                obtain ⟨V, hV⟩ : ∃ V, V = w2.setCells (w.heap.size + 1) 0 [.int .u8 (zeroF 0), .int .u8 (zeroF 1), .int .u8 (zeroF 2), .int .u8 (zeroF 3), .int .u8 (zeroF 4), .int .u8 (zeroF 5), .int .u8 (zeroF 6), .int .u8 (zeroF 7)] := ⟨_, rfl⟩
                have hbV : Below w.heap.size w V := by rw [hV]; exact below_setCells HS2.out.B (by omega) _ _
                have hcV : ∀ (j : Nat) (hj : j < 8), V.cell? ⟨w.heap.size + 1, j, none⟩ = some ([Value.int .u8 (zeroF 0), .int .u8 (zeroF 1), .int .u8 (zeroF 2), .int .u8 (zeroF 3), .int .u8 (zeroF 4), .int .u8 (zeroF 5), .int .u8 (zeroF 6), .int .u8 (zeroF 7)][j]'hj) := fun j hj => by
                  have h := World.cell?_setCells_in (w.heap.size + 1) [.int .u8 (zeroF 0), .int .u8 (zeroF 1), .int .u8 (zeroF 2), .int .u8 (zeroF 3), .int .u8 (zeroF 4), .int .u8 (zeroF 5), .int .u8 (zeroF 6), .int .u8 (zeroF 7)] 0 w2 (fun i hi => by rw [Nat.zero_add, (HS2.out.R i hi).1]; rfl) j hj
                  rw [Nat.zero_add] at h
                  rw [hV]
                  exact h
                have hV2 := hV
                simp only [World.setCells, Nat.reduceAdd, zeroF] at hV2
                rw [← hV2]
                have d0 := hcV 0 (by omega)
                have d1 := hcV 1 (by omega)
                have d2 := hcV 2 (by omega)
                have d3 := hcV 3 (by omega)
                have d4 := hcV 4 (by omega)
                have d5 := hcV 5 (by omega)
                have d6 := hcV 6 (by omega)
                have d7 := hcV 7 (by omega)
                clear hV hV2 hcV
                simp only [List.getElem_cons_zero, List.getElem_cons_succ] at d0 d1 d2 d3 d4 d5 d6 d7
                refine bodyPost_ret (v := .tuple #[eightV zeroF, .bool false]) ?_ rfl ⟨rfl, hbV⟩
                simp [results, Tryd.results70, go_sem, d0, d1, d2, d3, d4, d5, d6, d7]
          · obtain rfl : q = 8 := by omega
            have hbt : b = true := HB.out.2 ⟨by have := En.out; have := Em.out; omega, fun x hx => by
              obtain ⟨j, hj⟩ := List.mem_iff_getElem?.1 hx
              exact HQ.out j x (by have := (List.getElem?_eq_some_iff.1 hj).1; have := Em.out; omega) hj, fun j hj => by
              have := HP.out j hj
              rwa [En.out] at this⟩
            subst hbt
            obtain ⟨ra0, rb0⟩ := HS.out.R 0 (by omega)
            obtain ⟨ra1, rb1⟩ := HS.out.R 1 (by omega)
            obtain ⟨ra2, rb2⟩ := HS.out.R 2 (by omega)
            obtain ⟨ra3, rb3⟩ := HS.out.R 3 (by omega)
            obtain ⟨ra4, rb4⟩ := HS.out.R 4 (by omega)
            obtain ⟨ra5, rb5⟩ := HS.out.R 5 (by omega)
            obtain ⟨ra6, rb6⟩ := HS.out.R 6 (by omega)
            obtain ⟨ra7, rb7⟩ := HS.out.R 7 (by omega)
            obtain ⟨sa0, sb0⟩ := HS.out.S 0 (by omega)
            obtain ⟨sa1, sb1⟩ := HS.out.S 1 (by omega)
            obtain ⟨sa2, sb2⟩ := HS.out.S 2 (by omega)
            obtain ⟨sa3, sb3⟩ := HS.out.S 3 (by omega)
            obtain ⟨sa4, sb4⟩ := HS.out.S 4 (by omega)
            obtain ⟨sa5, sb5⟩ := HS.out.S 5 (by omega)
            obtain ⟨sa6, sb6⟩ := HS.out.S 6 (by omega)
            obtain ⟨sa7, sb7⟩ := HS.out.S 7 (by omega)
            clear hQ
            go_wp2_with fail
            obtain ⟨V, hV⟩ : ∃ V, V = wr.setCells (w.heap.size + 1) 0 [.int .u8 ((setF ls k) 0), .int .u8 ((setF ls k) 1), .int .u8 ((setF ls k) 2), .int .u8 ((setF ls k) 3), .int .u8 ((setF ls k) 4), .int .u8 ((setF ls k) 5), .int .u8 ((setF ls k) 6), .int .u8 ((setF ls k) 7)] := ⟨_, rfl⟩
            have hbV : Below w.heap.size w V := by rw [hV]; exact below_setCells HS.out.B (by omega) _ _
            have hcV : ∀ (j : Nat) (hj : j < 8), V.cell? ⟨w.heap.size + 1, j, none⟩ = some ([Value.int .u8 ((setF ls k) 0), .int .u8 ((setF ls k) 1), .int .u8 ((setF ls k) 2), .int .u8 ((setF ls k) 3), .int .u8 ((setF ls k) 4), .int .u8 ((setF ls k) 5), .int .u8 ((setF ls k) 6), .int .u8 ((setF ls k) 7)][j]'hj) := fun j hj => by
              have h := World.cell?_setCells_in (w.heap.size + 1) [.int .u8 ((setF ls k) 0), .int .u8 ((setF ls k) 1), .int .u8 ((setF ls k) 2), .int .u8 ((setF ls k) 3), .int .u8 ((setF ls k) 4), .int .u8 ((setF ls k) 5), .int .u8 ((setF ls k) 6), .int .u8 ((setF ls k) 7)] 0 wr (fun i hi => by rw [Nat.zero_add, (HS.out.R i hi).1]; rfl) j hj
              rw [Nat.zero_add] at h
              rw [hV]
              exact h
            have hV2 := hV
            simp only [World.setCells, Nat.reduceAdd, zeroF] at hV2
            rw [← hV2]
            have d0 := hcV 0 (by omega)
            have d1 := hcV 1 (by omega)
            have d2 := hcV 2 (by omega)
            have d3 := hcV 3 (by omega)
            have d4 := hcV 4 (by omega)
            have d5 := hcV 5 (by omega)
            have d6 := hcV 6 (by omega)
            have d7 := hcV 7 (by omega)
            clear hV hV2 hcV
            simp only [List.getElem_cons_zero, List.getElem_cons_succ] at d0 d1 d2 d3 d4 d5 d6 d7
            refine bodyPost_ret (v := .tuple #[eightV (setF ls k), .bool true]) ?_ rfl ⟨rfl, hbV⟩
            simp [results, Tryd.results70, go_sem, d0, d1, d2, d3, d4, d5, d6, d7]
  · have hbf : b = false := hno (p := m = n) hmn fun h => by
      have := (HB.out.1 h).1
      have := En.out
      have := Em.out
      omega
    have d1 : ((m : Int) != (n : Int)) = true := by rw [bne_iff_ne]; omega
    have c0 := S0.out.K.s
    obtain ⟨ra0, rb0⟩ := S0.out.R 0 (by omega)
    obtain ⟨ra1, rb1⟩ := S0.out.R 1 (by omega)
    obtain ⟨ra2, rb2⟩ := S0.out.R 2 (by omega)
    obtain ⟨ra3, rb3⟩ := S0.out.R 3 (by omega)
    obtain ⟨ra4, rb4⟩ := S0.out.R 4 (by omega)
    obtain ⟨ra5, rb5⟩ := S0.out.R 5 (by omega)
    obtain ⟨ra6, rb6⟩ := S0.out.R 6 (by omega)
    obtain ⟨ra7, rb7⟩ := S0.out.R 7 (by omega)
    obtain ⟨na0, nb0⟩ := S0.out.N 0 (by omega)
    obtain ⟨na1, nb1⟩ := S0.out.N 1 (by omega)
    obtain ⟨na2, nb2⟩ := S0.out.N 2 (by omega)
    obtain ⟨na3, nb3⟩ := S0.out.N 3 (by omega)
    obtain ⟨na4, nb4⟩ := S0.out.N 4 (by omega)
    obtain ⟨na5, nb5⟩ := S0.out.N 5 (by omega)
    obtain ⟨na6, nb6⟩ := S0.out.N 6 (by omega)
    obtain ⟨na7, nb7⟩ := S0.out.N 7 (by omega)
    subst hbf
    clear hno
    go_enter Tryd.func70, Tryd.ntmps70
    go_wp2_with fail
    obtain ⟨w4, hw4⟩ : ∃ u, u = ((((w.alloc (.cells (bC A n c ms hold) 105)).alloc (.cells zero8 102)).alloc (.cells zero8 102)).alloc (.cells zero8 102)) := ⟨_, rfl⟩
    rw [← hw4] at S0 ⊢
    clear c0 ra0 ra1 ra2 ra3 ra4 ra5 ra6 ra7 rb0 rb1 rb2 rb3 rb4 rb5 rb6 rb7 na0 na1 na2 na3 na4 na5 na6 na7 nb0 nb1 nb2 nb3 nb4 nb5 nb6 nb7
    obtain ⟨da0, db0⟩ := S0.out.R 0 (by omega)
    obtain ⟨da1, db1⟩ := S0.out.R 1 (by omega)
    obtain ⟨da2, db2⟩ := S0.out.R 2 (by omega)
    obtain ⟨da3, db3⟩ := S0.out.R 3 (by omega)
    obtain ⟨da4, db4⟩ := S0.out.R 4 (by omega)
    obtain ⟨da5, db5⟩ := S0.out.R 5 (by omega)
    obtain ⟨da6, db6⟩ := S0.out.R 6 (by omega)
    obtain ⟨da7, db7⟩ := S0.out.R 7 (by omega)
    refine bodyPost_ret (v := .tuple #[eightV zeroF, .bool false]) ?_ rfl ⟨rfl, S0.out.B⟩
    simp [results, Tryd.results70, go_sem, zeroF, da0, da1, da2, da3, da4, da5, da6, da7]
end Go.Proofs.YtekigapeekjigaaDoor.mem

/-
  What a load costs: contracts of the program's heatOf, priceFor and sumOf.
-/
namespace Go.Proofs.YtekigapeekjigaaDoor.mem
open Go Go.RowKit Go.Shelf errs garS heats meet load
attribute [local go_sem] Oper.semAt_some

set_option maxRecDepth 100000 in
set_option maxHeartbeats 4000000 in
theorem heatOf_any (A : Option Addr) (n c : Nat) (gs : List Gar) (en : n = gs.length) (hn : n ≤ 1048576) (m : Nat → Int) (hold : Int) (set : Nat) (hset : set < 256) (hin : ∀ i, i < 8 → set.testBit i = true → i < n) (w : World) (hg : GS w w.heap.size A gs) :
    Calls Tryd.prog 120 #[bV A n c m hold, .int .u8 set] w fun o w' => o = .returned (.int .i64 (hMax gs (memb set))) ∧ Below w.heap.size w w' := by
  have En := Lib.hid en
  clear en
  refine (callsIn_wide (n := 3)).1 ?_
  refine callsIn_of_wp_marks Tryd.func120 rfl trivial ?_ rfl
  simp only [Tryd.ntmps120, List.size_toArray, List.length_cons, List.length_nil, Nat.reduceAdd, Nat.reduceSub, Array.replicate_succ, Array.replicate_zero, List.push_toArray, List.append_toArray, List.nil_append, List.cons_append]
  gi_wp2_with (refine ⟨trivial, ?_⟩; gi_at_call 117; refine (callsIn_wide.2 (members_any (set : Int) _)).mono ?_; rintro e w1 ⟨rfl, rfl⟩)
  have hbx : ∀ j, (((w.alloc (.cells (bC A n c m hold) 105)).alloc (.cells #[.int .i64 0] 2)).alloc (.cells #[.int .u8 set] 5)).cell? ⟨w.heap.size, j, none⟩ = (bC A n c m hold)[j]? := fun j => by
    have e1 : (w.alloc (.cells (bC A n c m hold) 105)).heap.size = w.heap.size + 1 := by simp
    have e2 : ((w.alloc (.cells (bC A n c m hold) 105)).alloc (.cells #[.int .i64 0] 2)).heap.size = w.heap.size + 1 + 1 := by simp
    exact cell_of_row _ _ _ _ _ _ ((heap_alloc_old _ _ _ (by rw [e2]; omega)).trans ((heap_alloc_old _ _ _ (by rw [e1]; omega)).trans (heap_alloc_new w _)))
  have bS := Boxed.new (w.alloc (.cells (bC A n c m hold) 105)) 2 (.int .i64 0)
  have bM := Boxed.new ((w.alloc (.cells (bC A n c m hold) 105)).alloc (.cells #[.int .i64 0] 2)) 5 (.int .u8 set)
  rw [World.size_alloc] at bS bM
  rw [World.size_alloc] at bM
  have hB0 : Below w.heap.size w (((w.alloc (.cells (bC A n c m hold) 105)).alloc (.cells #[.int .i64 0] 2)).alloc (.cells #[.int .u8 set] 5)) := (((Below.refl _ w).alloc (Nat.le_refl _) _).alloc (by simp) _).alloc (by simp; omega) _
  refine wpIn_rangeFunc_ownG rfl (by decide) (gf := 133) (lb := #[.pointer (some ⟨w.heap.size + 1 + 1, 0, none⟩)]) rfl trivial (enters_of Tryd.func133 (by kernel_rfl) rfl)
    (members_stops (3 - 1) (by decide) (w.heap.size + 1 + 1) w.heap.size set hset _ (by simp) bM.cell) belowK_t (belowK_b (by simp; omega)) (Below.refl _ _) (fun _ => rfl)
    (fun pre W => ((W.cell? ⟨w.heap.size + 1, 0, none⟩ = some (.int .i64 (hMax gs (ids pre))) ∧ W.frozen? ⟨w.heap.size + 1, 0, none⟩ = false) ∧ W.cell? ⟨w.heap.size, 0, none⟩ = some (.slice A n c)) ∧ Below w.heap.size w W)
    (fun _ _ _ => False)
    (OwnFrom.and (Own.from (fun s A B row hs hg hr => ⟨⟨cell_kept hs.1.1 hg hr, (frozen_kept hs.1.1 hg hr).trans hs.1.2⟩, cell_kept hs.2 hg hr⟩) _) (ownFrom_below (Nat.le_refl _) (by simp; omega)))
    (fun _ _ _ _ _ hs _ _ => hs)
    ⟨⟨⟨(bS.alloc _).cell, (bS.alloc _).frozen⟩, hbx 0⟩, hB0⟩
    (fun x => { tmps := #[bV A n c m hold, .int .u8 set, .pointer (some ⟨w.heap.size, 0, none⟩), undef, .int .i64 0, .pointer (some ⟨w.heap.size + 1, 0, none⟩), .int .i64 (x.1 : Int), .int .u8 set, .func (.func 133) #[] #[.pointer (some ⟨w.heap.size + 1 + 1, 0, none⟩)], .int .i64 (x.1 : Int), undef, undef, undef, undef, undef, undef, undef, undef, undef, undef], defers := [] }) ?assign ?body ?done ?stop
  case assign =>
    intro l x W K hK
    gi_wp2
    exact hK
  case body =>
    rintro l pre x W ⟨⟨⟨hc, hf⟩, hs⟩, hB⟩ hlen
    obtain ⟨hx8, hxt⟩ := x.2
    have hxn := hin x.1 hx8 hxt
    obtain ⟨y, hy⟩ : ∃ y, gs[x.1]? = some y := ⟨gs[x.1]'(by have := En.out; omega), List.getElem?_eq_getElem _⟩
    obtain ⟨a, ea, hab, hat⟩ := (hg.below hB).at_ x.1 y hy
    subst ea
    obtain ⟨_, q1, _, _⟩ := hat
    have hyf := hg.fits y (List.mem_of_getElem? hy)
    have hbd := hMax_bound gs hg.fits (ids pre)
    have hn0 := hyf.n0
    have hn1 := hyf.n1
    have hwr2 : IntKind.i64.wrap y.n = y.n := IntWalk.i64_in _ (by omega)
    have hnx : hMax gs (ids (pre ++ [x])) = max (hMax gs (ids pre)) y.n := by rw [ids_snoc, hMax_snoc, nAt, hy]; rfl
    have HNX := Lib.hid hnx
    have hmx : Tryd.prog.follows .mixedOrders = true := by kernel_rfl
    clear hnx hy
    gi_wp2
    gi_region_with_o (fail)
    all_goals gi_wp2
    all_goals (try go_bits)
    all_goals exact ⟨kf_store _ _ _ _, kb_store (Below.refl w.heap.size W) _ _ (Nat.le_succ _), ⟨⟨by rw [HNX.out]; exact World.cell?_setCell_same' _ _ _ (by rw [hc]; rfl), fz_store _ _ _ _ hf⟩, (World.cell?_setCell_far _ _ _ _ (by simp)).trans hs⟩, kb_store hB _ _ (Nat.le_succ _)⟩
  case done =>
    rintro D ys W hD hys ⟨⟨⟨hc, _⟩, _⟩, hB⟩ hK
    gi_wp2
    refine ⟨by simp, .inl ⟨_, _, rfl, run_takeDeferred hK, ?_⟩⟩
    exact ⟨_, results_tmp rfl _ _ _, rfl, hB.trans (belowK_b (w := w) (Nat.le_refl _) W D _ _ (by simp at hD; omega) hK rfl rfl)⟩
  case stop =>
    rintro D c pre W _ _ h _
    exact h.elim
end Go.Proofs.YtekigapeekjigaaDoor.mem

/-
  Contract of the program's IsLoad.
-/
namespace Go.Proofs.YtekigapeekjigaaDoor.mem
open Go Go.RowKit errs garS heats meet load

theorem codeAsk4 (r : Nat → Int) (gs : List Gar) (hold : Int) (n k1 k2 k3 k4 : Nat) (fine : Bool) (en : n = gs.length) (hfine : fine = true ↔ (1 ≤ hold ∧ hold ≤ 20000)) (h1 : k1 = if validRB r = true then 0 else 1) (h2 : k2 = if gs.all Gar.valid = true then 0 else 1) (h3 : k3 = if 1 ≤ hold ∧ hold ≤ 20000 then 0 else 2) (h4 : k4 = if 8 < n then 3 else 0) :
    firstCode [k1, k2, k3, k4] = codeAsk r gs fine := by
  unfold codeAsk codeAll
  rw [← en]
  by_cases a1 : validRB r = true
  · rw [if_pos a1] at h1 ⊢
    by_cases a2 : gs.all Gar.valid = true
    · rw [if_pos a2] at h2 ⊢
      by_cases a3 : 1 ≤ hold ∧ hold ≤ 20000
      · rw [if_pos a3] at h3
        rw [if_pos (hfine.2 a3), h1, h2, h3, h4]
        split
        · rfl
        · rfl
      · rw [if_neg a3] at h3
        rw [if_neg (fun q => a3 (hfine.1 q)), h1, h2, h3]
        rfl
    · rw [if_neg a2] at h2 ⊢
      rw [h1, h2]
      rfl
  · rw [if_neg a1] at h1 ⊢
    rw [h1]
    rfl
theorem codeAsk_le (r : Nat → Int) (gs : List Gar) (fine : Bool) : codeAsk r gs fine ≤ 3 := by
  have := codeAll_le gs fine
  unfold codeAsk
  split <;> omega
theorem ask_len {r : Nat → Int} {gs : List Gar} {fine : Bool} (h : 0 = codeAsk r gs fine) : gs.length ≤ 8 := by
  unfold codeAsk at h
  split at h
  · unfold codeAll at h
    split at h
    · split at h
      · split at h
        · omega
        · omega
      · omega
    · omega
  · omega
theorem all_in (n : Nat) (hn : n ≤ 8) : ∀ i, i < 8 → (2 ^ n - 1).testBit i = true → i < n := fun i _ h => by
  rw [(two_pow_le n hn).2.2] at h
  simpa using h
/-- a basket in its box -/
abbrev BX (w : World) (q : Nat) (A : Option Addr) (n c : Nat) (m : Nat → Int) (hold : Int) (u : World) : Prop := u.cell? ⟨q, 0, none⟩ = some (.slice A n c) ∧ u.cell? ⟨q, 1, none⟩ = some (.int .u8 (m 0)) ∧ u.cell? ⟨q, 2, none⟩ = some (.int .u8 (m 1)) ∧ u.cell? ⟨q, 3, none⟩ = some (.int .u8 (m 2)) ∧ u.cell? ⟨q, 4, none⟩ = some (.int .u8 (m 3)) ∧ u.cell? ⟨q, 5, none⟩ = some (.int .u8 (m 4)) ∧ u.cell? ⟨q, 6, none⟩ = some (.int .u8 (m 5)) ∧ u.cell? ⟨q, 7, none⟩ = some (.int .u8 (m 6)) ∧ u.cell? ⟨q, 8, none⟩ = some (.int .u8 (m 7)) ∧ u.cell? ⟨q, 9, none⟩ = some (.int .i64 hold) ∧ Below w.heap.size w u ∧ q < u.heap.size
theorem BX.next {w : World} {q : Nat} {A : Option Addr} {n c : Nat} {m : Nat → Int} {hold : Int} {u v : World} (h : BX w q A n c m hold u) (hb : Below u.heap.size u v) : BX w q A n c m hold v := by
  obtain ⟨c0, c1, c2, c3, c4, c5, c6, c7, c8, c9, hB, hq⟩ := h
  exact ⟨(hb.cell (p := ⟨q, 0, none⟩) hq).trans c0, (hb.cell (p := ⟨q, 1, none⟩) hq).trans c1, (hb.cell (p := ⟨q, 2, none⟩) hq).trans c2, (hb.cell (p := ⟨q, 3, none⟩) hq).trans c3, (hb.cell (p := ⟨q, 4, none⟩) hq).trans c4, (hb.cell (p := ⟨q, 5, none⟩) hq).trans c5, (hb.cell (p := ⟨q, 6, none⟩) hq).trans c6, (hb.cell (p := ⟨q, 7, none⟩) hq).trans c7, (hb.cell (p := ⟨q, 8, none⟩) hq).trans c8, (hb.cell (p := ⟨q, 9, none⟩) hq).trans c9, hB.trans (hb.mono hB.size), Nat.lt_of_lt_of_le hq hb.size⟩
theorem BX.b {w : World} {q : Nat} {A : Option Addr} {n c : Nat} {m : Nat → Int} {hold : Int} {u : World} (h : BX w q A n c m hold u) : Below w.heap.size w u := by
  obtain ⟨c0, c1, c2, c3, c4, c5, c6, c7, c8, c9, hB, hq⟩ := h
  exact hB
theorem BX.new {w : World} (A : Option Addr) (n c : Nat) (m : Nat → Int) (hold : Int) {u : World} (t : TypeId) (hB : Below w.heap.size w u) : BX w u.heap.size A n c m hold (u.alloc (.cells (bC A n c m hold) t)) := by
  have h : ∀ j, (u.alloc (.cells (bC A n c m hold) t)).cell? ⟨u.heap.size, j, none⟩ = (bC A n c m hold)[j]? := fun j => cell_of_row _ _ _ _ _ _ (heap_alloc_new u _)
  exact ⟨h 0, h 1, h 2, h 3, h 4, h 5, h 6, h 7, h 8, h 9, hB.alloc hB.size _, by simp⟩
end Go.Proofs.YtekigapeekjigaaDoor.mem

/-
  Contracts of CheckLoads, the program's and the model's.
-/
namespace Go.Proofs.YtekigapeekjigaaDoor.mem
open Go Go.RowKit errs garS heats meet load sl

theorem right_ask {r : Nat → Int} {gs : List Gar} {fine : Bool} {hold : Int} (h : 0 = codeAsk r gs fine) (hf : ∀ x ∈ gs, x.Fits) (hfine : fine = true ↔ (1 ≤ hold ∧ hold ≤ 20000)) (ls : List Int) :
    RightB gs (msOf r gs gs.length) hold ls ↔ Right r gs hold ls := by
  have hF := ask_good h hf
  have h1 := (hfine.1 (ask_fine h)).1
  exact right_iff (msOf_meets (r := r) hF.len) hold (by omega) ls hF.len hF.meets hF.self
theorem toRules_q (r : Nat → Int) (w : World) :
    Calls Tryd.prog 16 #[.agg #[.int .u8 (r 0), .int .u8 (r 1), .int .u8 (r 2), .int .u8 (r 3), .int .u8 (r 4), .int .u8 (r 5)]] w fun o w' => o = .returned (rulesV r) ∧ Below w.heap.size w w' := rules.toRules_any r w
set_option maxRecDepth 100000 in
set_option maxHeartbeats 4000000 in
theorem CheckLoads_spec (r : Nat → Int) (hr : Six r) (hold : Int) (A : Option Addr) (n c : Nat) (gs : List Gar) (hn : n = gs.length) (hs : n ≤ 1048576) (A' : Option Addr) (m c' : Nat) (ls : List Int) (em : m = ls.length) (hm : m ≤ 1048576) (w : World) (hg : GS w w.heap.size A gs) (ho : Sl intS.C 1 w w.heap.size A' ls) (fine : Bool) (hfine : fine = true ↔ (1 ≤ hold ∧ hold ≤ 20000)) (code : Nat) (hcode : code = codeAsk r gs fine) (b : Bool) (hb : code ≠ 0 → b = false) (hb0 : code = 0 → (b = true ↔ Right r gs hold ls)) :
    Calls Tryd.prog 22 #[rulesV r, .int .i64 hold, .slice A n c, .slice A' m c'] w fun o w' => o = .returned (.tuple #[.bool b, .int .i64 code]) ∧ Below w.heap.size w w' := by
  have Hn := Lib.hid hn
  have Em := Lib.hid em
  have HF := Lib.hid hfine
  have HC := Lib.hid hcode
  have HB := Lib.hid hb
  have HB0 := Lib.hid hb0
  clear hn hfine hcode hb hb0 em
  have S0 : Hid (LS r w (w.alloc (.cells (rulesCs r) 26))) := Lib.hid ⟨SixAt.new r w 26, by simp, (Below.refl w.heap.size w).alloc (Nat.le_refl _) _⟩
  obtain ⟨⟨s0, s1, s2, s3, s4, s5⟩, _, _⟩ := S0.out
  have key : ∀ u, LS r w u → GS u u.heap.size A gs := fun u h => (hg.below h.2.2).more h.2.2.size
  have keyL : ∀ u, LS r w u → Sl intS.C 1 u u.heap.size A' ls := fun u h => (ho.below h.2.2).more h.2.2.size
  cases code with
  | zero =>
    have HZ := Lib.hid (HB0.out rfl)
    go_enter Tryd.func22, Tryd.ntmps22
    go_wp2_with fail
    go_region_held3 (fun u => LS r w u)
      (first | assumption | exact S0.out | exact S0.out.next (below_drewN _ _ 1) | exact LS.next (by assumption) hb2)
      (first
        | (go_at_call 62; refine (l01Hold_any hold _ fine HF.out).mono ?_; rintro o w2 ⟨rfl, rfl⟩)
        | (go_at_call 61; refine (l01Asked_any r hr A n c gs Hn.out hs fine _ (key _ (by assumption)) 0 HC.out).mono ?_; rintro o w2 ⟨rfl, hb2⟩)
        | fail)
    rename_i hS
    have HS := Lib.hid hS
    obtain ⟨⟨t0, t1, t2, t3, t4, t5⟩, _, _⟩ := hS
    clear s0 s1 s2 s3 s4 s5
    go_wp2_with (go_at_call 63; refine (l01Right_any r hr hold A n c gs Hn.out hs (ask_colour HC.out) A' m c' ls Em.out hm _ (key _ HS.out) (keyL _ HS.out) b HZ.out).mono ?_; rintro o w3 ⟨rfl, hb3⟩)
    go_ret2
    exact ⟨by simp, HS.out.2.2.trans (hb3.mono HS.out.2.2.size)⟩
  | succ i =>
    have hbf : b = false := HB.out (by omega)
    subst hbf
    have hne : (((i + 1 : Nat) : Int) != 0) = true := by rw [bne_iff_ne]; omega
    have hne2 : (((i : Int) + 1) != 0) = true := by rw [bne_iff_ne]; omega
    have hne3 : (((i : Int) + 1) == 0) = false := by rw [beq_eq_false_iff_ne]; omega
    have hne4 : (((i + 1 : Nat) : Int) == 0) = false := by rw [beq_eq_false_iff_ne]; omega
    go_enter Tryd.func22, Tryd.ntmps22
    go_wp2_with fail
    go_region_held3 (fun u => LS r w u)
      (first | assumption | exact S0.out | exact S0.out.next (below_drewN _ _ 1) | exact LS.next (by assumption) hb2)
      (first
        | (go_at_call 62; refine (l01Hold_any hold _ fine HF.out).mono ?_; rintro o w2 ⟨rfl, rfl⟩)
        | (go_at_call 61; refine (l01Asked_any r hr A n c gs Hn.out hs fine _ (key _ (by assumption)) (i + 1) HC.out).mono ?_; rintro o w2 ⟨rfl, hb2⟩)
        | fail)
    rename_i hS
    have HS := Lib.hid hS
    clear hS
    go_wp2_with fail
    go_ret2
    exact ⟨by simp, HS.out.2.2⟩
set_option maxRecDepth 100000 in
set_option maxHeartbeats 8000000 in
theorem CheckLoads_any (r : Nat → Int) (hr : Six r) (hold : Int) (A : Option Addr) (n c : Nat) (gs : List Gar) (en : n = gs.length) (hs : n ≤ 1048576) (A' : Option Addr) (m c' : Nat) (ls : List Int) (em : m = ls.length) (hm : m ≤ 1048576) {w : World} {B : Nat} {e : Nat → Addr} (h : Errs w B e) (hB : B ≤ w.heap.size) (hg : GS w w.heap.size A gs) (ho : Sl intS.C 1 w w.heap.size A' ls) (fine : Bool) (hfine : fine = true ↔ (1 ≤ hold ∧ hold ≤ 20000)) (code : Nat) (hcode : code = codeAsk r gs fine) (b : Bool) (hb : code ≠ 0 → b = false) (hb0 : code = 0 → (b = true ↔ RightB gs (msOf r gs n) hold ls)) :
    Calls Tryd.prog 25 #[rulesV r, .int .i64 hold, .slice A n c, .slice A' m c'] w fun o w' => o = .returned (.tuple #[.bool b, .int .i64 code]) ∧ Below w.heap.size w w' := by
  have Em := Lib.hid em
  clear em
  obtain ⟨k1, hk1⟩ : ∃ k : Nat, k = if validRB r = true then 0 else 1 := ⟨_, rfl⟩
  obtain ⟨k2, hk2⟩ : ∃ k : Nat, k = if gs.all Gar.valid = true then 0 else 1 := ⟨_, rfl⟩
  obtain ⟨k3, hk3⟩ : ∃ k : Nat, k = if 1 ≤ hold ∧ hold ≤ 20000 then 0 else 2 := ⟨_, rfl⟩
  obtain ⟨k4, hk4⟩ : ∃ k : Nat, k = if 8 < n then 3 else 0 := ⟨_, rfl⟩
  have HF : Hid (firstCode [k1, k2, k3, k4] = code) := Lib.hid ((codeAsk4 r gs hold n k1 k2 k3 k4 fine en hfine hk1 hk2 hk3 hk4).trans hcode.symm)
  have hle : code ≤ 3 := by rw [hcode]; exact codeAsk_le _ _ _
  have HC := Lib.hid hcode
  have HK1 := Lib.hid hk1
  have HK2 := Lib.hid hk2
  have HK3 := Lib.hid hk3
  have HK4 := Lib.hid hk4
  have En := Lib.hid en
  have HBB := Lib.hid hb
  have HB0 := Lib.hid hb0
  have L0 : Hid (LS r w (w.alloc (.cells (rulesCs r) 26))) := Lib.hid ⟨SixAt.new r w 26, by simp, (Below.refl w.heap.size w).alloc (Nat.le_refl _) _⟩
  obtain ⟨⟨s0, s1, s2, s3, s4, s5⟩, _, _⟩ := L0.out
  clear hk1 hk2 hk3 hk4 en hb hb0 hcode hfine
  go_enter Tryd.func25, Tryd.ntmps25
  go_wp2_with fail
  refine (checkRules_any r hr (h.below (L0.out.2.2.mono hB)) (Nat.le_trans hB L0.out.2.2.size) k1 HK1.out).mono ?_
  rintro o w1 ⟨rfl, hb1⟩
  have L1 := Lib.hid (L0.out.next hb1)
  clear hb1 s0 s1 s2 s3 s4 s5
  go_wp2_with fail
  refine (checkGarments_any A n c gs En.out hs (h.below (L1.out.2.2.mono hB)) (Nat.le_trans hB L1.out.2.2.size) ((hg.below L1.out.2.2).more L1.out.2.2.size) k2 HK2.out).mono ?_
  rintro o w2 ⟨rfl, hb2⟩
  have L2 := Lib.hid (L1.out.next hb2)
  clear hb2
  go_wp2_with fail
  refine (checkHold_any hold (h.below (L2.out.2.2.mono hB))).mono ?_
  rintro o w3 ⟨rfl, rfl⟩
  rw [← HK3.out]
  go_wp2_with fail
  refine (checkCount_any A n c hs (h.below (L2.out.2.2.mono hB))).mono ?_
  rintro o w4 ⟨rfl, rfl⟩
  rw [← HK4.out]
  go_wp2_with (refine wpList_listed rfl 148 4 _ rfl #[(0, errOf e k1), (1, errOf e k2), (2, errOf e k3), (3, errOf e k4)] ?hp (buildSlice4 e k1 k2 k3 k4 _) ?_; case hp => simp [Act.eval])
  have L3 := Lib.hid (L2.out.next ((Below.refl w2.heap.size w2).alloc (Nat.le_refl _) (.cells #[errOf e k1, errOf e k2, errOf e k3, errOf e k4] 86)))
  refine (firstOf_any e [k1, k2, k3, k4] _ 4 4 rfl (by decide) _ (cells_errs e [k1, k2, k3, k4] w2 86 #[errOf e k1, errOf e k2, errOf e k3, errOf e k4] rfl)).mono ?_
  rintro o w5 ⟨rfl, rfl⟩
  rw [HF.out]
  obtain ⟨w3, hw3⟩ : ∃ w3, w3 = w2.alloc (.cells #[errOf e k1, errOf e k2, errOf e k3, errOf e k4] 86) := ⟨_, rfl⟩
  rw [← hw3] at L3 ⊢
  have HE := Lib.hid (h.below (L3.out.2.2.mono hB))
  clear hw3
  obtain ⟨⟨s0, s1, s2, s3, s4, s5⟩, _, _⟩ := L3.out
  cases code with
  | zero =>
    have e0 : errOf e 0 = .nilIface := rfl
    rw [e0]
    have hval := ask_valid HC.out
    have hn8 : n ≤ 8 := by have := En.out; have := ask_len HC.out; omega
    clear e0 hle
    go_wp2_with fail
    refine (newBasket_any r hr hold A n c gs En.out hn8 hval _ ((hg.below L3.out.2.2).more L3.out.2.2.size)).mono ?_
    rintro o w6 ⟨rfl, hb6⟩
    have B6 := Lib.hid (L3.out.2.2.trans (hb6.mono L3.out.2.2.size))
    clear s0 s1 s2 s3 s4 s5 hb6
    go_wp2_with fail
    refine (setsOf_any A n c gs En.out hn8 (msOf r gs n) hold A' m c' ls Em.out hm _ ((hg.below B6.out).more B6.out.size) ((ho.below B6.out).more B6.out.size) b (HB0.out (by trivial))).mono ?_
    rintro o w7 ⟨rfl, hb7⟩
    have B7 := Lib.hid (B6.out.trans (hb7.mono B6.out.size))
    clear hb7
    go_wp2_with fail
    go_ret2
    exact ⟨by simp, B7.out.alloc B7.out.size _⟩
  | succ i =>
    have hbf : b = false := HBB.out (by omega)
    subst hbf
    have e0 : errOf e (i + 1) = errV (e i) := rfl
    rw [e0]
    clear e0
    go_wp2_with fail
    refine (codeOf_any HE.out (i + 1) (by omega)).mono ?_
    rintro o w7 ⟨rfl, rfl⟩
    go_wp2_with fail
    go_ret2
    exact ⟨by simp, L3.out.2.2⟩
end Go.Proofs.YtekigapeekjigaaDoor.mem

/-
  Prices of loads: contracts of the program's priceFor, of the closure that it returns, and of sumOf.
-/
namespace Go.Proofs.YtekigapeekjigaaDoor.mem
open Go Go.RowKit errs garS heats meet load sl

/-- what priceFor's closure holds: a basket and what each load costs -/
structure PriceAt (W : World) (b1 b2 : Nat) (A : Option Addr) (n c : Nat) (m : Nat → Int) (hold each : Int) : Prop where
  K : Bask W b2 A n c m hold
  e : W.cell? ⟨b1, 0, none⟩ = some (.int .i64 each)
  z1 : b1 < W.heap.size
  z2 : b2 < W.heap.size
theorem PriceAt.next {W V : World} {b1 b2 : Nat} {A : Option Addr} {n c : Nat} {m : Nat → Int} {hold each : Int} (h : PriceAt W b1 b2 A n c m hold each) (hb : Below W.heap.size W V) : PriceAt V b1 b2 A n c m hold each :=
  ⟨h.K.keep fun j v hv => (hb.cell (p := ⟨b2, j, none⟩) h.z2).trans hv, (hb.cell (p := ⟨b1, 0, none⟩) h.z1).trans h.e, Nat.lt_of_lt_of_le h.z1 hb.size, Nat.lt_of_lt_of_le h.z2 hb.size⟩
/-- what the closure's call reads, and what lay below -/
structure PS (w : World) (b1 b2 : Nat) (A : Option Addr) (n c : Nat) (m : Nat → Int) (hold each : Int) (u : World) : Prop where
  P : PriceAt u b1 b2 A n c m hold each
  B : Below w.heap.size w u
theorem PS.next {w u v : World} {b1 b2 : Nat} {A : Option Addr} {n c : Nat} {m : Nat → Int} {hold each : Int} (h : PS w b1 b2 A n c m hold each u) (hb : Below u.heap.size u v) : PS w b1 b2 A n c m hold each v := ⟨h.P.next hb, h.B.trans (hb.mono h.B.size)⟩
abbrev PX (w : World) (b1 b2 : Nat) (A : Option Addr) (n c : Nat) (m : Nat → Int) (hold each : Int) (u : World) : Prop :=
  u.cell? ⟨b2, 0, none⟩ = some (.slice A n c) ∧ u.cell? ⟨b2, 1, none⟩ = some (.int .u8 (m 0)) ∧ u.cell? ⟨b2, 2, none⟩ = some (.int .u8 (m 1)) ∧ u.cell? ⟨b2, 3, none⟩ = some (.int .u8 (m 2)) ∧ u.cell? ⟨b2, 4, none⟩ = some (.int .u8 (m 3)) ∧ u.cell? ⟨b2, 5, none⟩ = some (.int .u8 (m 4)) ∧ u.cell? ⟨b2, 6, none⟩ = some (.int .u8 (m 5)) ∧ u.cell? ⟨b2, 7, none⟩ = some (.int .u8 (m 6)) ∧ u.cell? ⟨b2, 8, none⟩ = some (.int .u8 (m 7)) ∧ u.cell? ⟨b2, 9, none⟩ = some (.int .i64 hold) ∧ u.cell? ⟨b1, 0, none⟩ = some (.int .i64 each) ∧ PS w b1 b2 A n c m hold each u
theorem PS.x {w u : World} {b1 b2 : Nat} {A : Option Addr} {n c : Nat} {m : Nat → Int} {hold each : Int} (h : PS w b1 b2 A n c m hold each u) : PX w b1 b2 A n c m hold each u :=
  ⟨h.P.K.s, h.P.K.m 0 (by omega), h.P.K.m 1 (by omega), h.P.K.m 2 (by omega), h.P.K.m 3 (by omega), h.P.K.m 4 (by omega), h.P.K.m 5 (by omega), h.P.K.m 6 (by omega), h.P.K.m 7 (by omega), h.P.K.h, h.P.e, h⟩
theorem PX.s {w u : World} {b1 b2 : Nat} {A : Option Addr} {n c : Nat} {m : Nat → Int} {hold each : Int} (h : PX w b1 b2 A n c m hold each u) : PS w b1 b2 A n c m hold each u := by
  obtain ⟨_, _, _, _, _, _, _, _, _, _, _, h⟩ := h
  exact h
theorem PX.next {w u v : World} {b1 b2 : Nat} {A : Option Addr} {n c : Nat} {m : Nat → Int} {hold each : Int} (h : PX w b1 b2 A n c m hold each u) (hb : Below u.heap.size u v) : PX w b1 b2 A n c m hold each v := (h.s.next hb).x
abbrev priceV (b1 b2 : Nat) : Value := .func (.func 119) #[] #[.pointer (some ⟨b1, 0, none⟩), .pointer (some ⟨b2, 0, none⟩)]
theorem heatOf_v (A : Option Addr) (n c : Nat) (gs : List Gar) (en : n = gs.length) (hn : n ≤ 1048576) (m : Nat → Int) (hold : Int) (set : Nat) (hset : set < 256) (hin : ∀ i, i < 8 → set.testBit i = true → i < n) (w : World) (hg : GS w w.heap.size A gs) (z : Int) (hz : hMax gs (memb set) = z) :
    Calls Tryd.prog 120 #[bV A n c m hold, .int .u8 set] w fun o w' => o = .returned (.int .i64 z) ∧ Below w.heap.size w w' := by
  subst hz
  exact heatOf_any A n c gs en hn m hold set hset hin w hg
set_option maxRecDepth 100000 in
set_option maxHeartbeats 4000000 in
theorem price_any (A : Option Addr) (n c : Nat) (gs : List Gar) (en : n = gs.length) (hn : n ≤ 1048576) (m : Nat → Int) (hold each : Int) (h0 : 0 ≤ each) (h1 : each ≤ 1000) (b1 b2 : Nat) (set : Nat) (hset : set < 256) (hin : ∀ i, i < 8 → set.testBit i = true → i < n) (w : World) (hg : GS w w.heap.size A gs) (hP : PriceAt w b1 b2 A n c m hold each) (z : Int) (hz : each + hMax gs (memb set) = z) :
    Calls Tryd.prog 119 #[.int .u8 set, .pointer (some ⟨b1, 0, none⟩), .pointer (some ⟨b2, 0, none⟩)] w fun o w' => o = .returned (.int .i64 z) ∧ Below w.heap.size w w' := by
  have En := Lib.hid en
  have HI := Lib.hid hin
  obtain ⟨q, hq⟩ : ∃ q, hMax gs (memb set) = q := ⟨_, rfl⟩
  have hqb := hMax_bound gs hg.fits (memb set)
  rw [hq] at hqb hz
  have HQ := Lib.hid hq
  have HZ := Lib.hid hz
  have X0 := Lib.hid (PS.x (w := w) ⟨hP, Below.refl _ _⟩)
  have hw1 : IntKind.i64.wrap (each + q) = each + q := IntWalk.i64_in _ (by omega)
  obtain ⟨c0, c1, c2, c3, c4, c5, c6, c7, c8, c9, ce, _⟩ := X0.out
  clear en hin hq hz hP
  go_enter Tryd.func119, Tryd.ntmps119
  go_wp2_with fail
  go_region_held3 (fun u => PX w b1 b2 A n c m hold each u)
    (first | assumption | exact X0.out | exact X0.out.next (below_drewN _ _ 1) | exact PX.next (by assumption) hb2)
    (first
      | (go_at_call 120; refine (heatOf_v A n c gs En.out hn m hold set hset HI.out _ ((hg.below (PS.B (PX.s (by assumption)))).more (PS.B (PX.s (by assumption))).size) q HQ.out).mono ?_; rintro o w2 ⟨rfl, hb2⟩)
      | fail)
  all_goals
    rename_i hS
    have HS := Lib.hid hS.s
    clear hS
    go_wp2_with fail
    go_ret
    exact ⟨by first | rfl | (rw [HZ.out]; done) | (rw [HZ.out]; rfl), HS.out.B⟩
set_option maxHeartbeats 1000000 in
theorem priceFor_any (A : Option Addr) (n c : Nat) (m : Nat → Int) (hold each : Int) (w : World) :
    Calls Tryd.prog 82 #[bV A n c m hold, .int .i64 each] w fun o w' => ∃ b1 b2, o = .returned (priceV b1 b2) ∧ PriceAt w' b1 b2 A n c m hold each ∧ Below w.heap.size w w' := by
  go_enter Tryd.func82, Tryd.ntmps82
  go_wp2_with fail
  go_ret
  have e1 : (w.alloc (.cells (bC A n c m hold) 105)).heap.size = w.heap.size + 1 := by simp
  have g0 : ((w.alloc (.cells (bC A n c m hold) 105)).alloc (.cells #[.int .i64 each] 2)).heap[w.heap.size]? = some (.cells (bC A n c m hold) 105 (0, 0)) := (heap_alloc_old _ _ _ (by omega)).trans (heap_alloc_new w _)
  have g1 := heap_alloc_new (w.alloc (.cells (bC A n c m hold) 105)) (.cells #[.int .i64 each] 2)
  rw [e1] at g1
  exact ⟨w.heap.size + 1, w.heap.size, rfl, ⟨⟨cell_of_row _ _ _ _ _ _ g0, fun j hj => (cell_of_row _ _ _ _ _ _ g0).trans (bC_m A n c m hold j hj), cell_of_row _ _ _ _ _ _ g0⟩, cell_of_row _ _ _ _ _ _ g1, by simp, by simp; omega⟩, ((Below.refl _ w).alloc (Nat.le_refl _) _).alloc (by simp) _⟩
set_option maxRecDepth 100000 in
set_option maxHeartbeats 4000000 in
theorem sumOf_any (A : Option Addr) (n c : Nat) (gs : List Gar) (en : n = gs.length) (hn : n ≤ 8) (m : Nat → Int) (hold each : Int) (h0 : 0 ≤ each) (h1 : each ≤ 1000) (b1 b2 : Nat) (ls : List Int) (w : World) (hg : GS w w.heap.size A gs) (hP : PriceAt w b1 b2 A n c m hold each) (z : Int) (hz : costS gs ls each = z) :
    Calls Tryd.prog 81 #[priceV b1 b2, eightV (setF ls n)] w fun o w' => o = .returned (.int .i64 z) ∧ Below w.heap.size w w' := by
  have En := Lib.hid en
  have hz2 : sumTo (priceB gs ls each) 8 = z := (cost_eq gs ls each (by omega)).trans hz
  have hpb : ∀ k, 0 ≤ priceB gs ls each k ∧ priceB gs ls each k ≤ 1127 := fun k => by rw [price_eq gs ls each k (by omega)]; exact priceS_bound gs hg.fits ls each h0 h1 k
  have HZ := Lib.hid hz2
  have HPB := Lib.hid hpb
  have X0 := Lib.hid (PS.mk (w := w) hP (Below.refl _ _))
  clear en hz hz2 hpb hP
  have X1 := Lib.hid (X0.out.next ((Below.refl _ _).alloc (Nat.le_refl _) (.cells #[.int .u8 (setF ls n 0), .int .u8 (setF ls n 1), .int .u8 (setF ls n 2), .int .u8 (setF ls n 3), .int .u8 (setF ls n 4), .int .u8 (setF ls n 5), .int .u8 (setF ls n 6), .int .u8 (setF ls n 7)] 102)))
  clear X0
  go_enter Tryd.func81, Tryd.ntmps81
  go_wp2_with fail
  go_loopw [5, 9] (fun vs vi wr => ∃ k : Nat, k ≤ 8 ∧ vi = .int .i64 k ∧ vs = .int .i64 (sumTo (priceB gs ls each) k) ∧ PS w b1 b2 A n c m hold each wr) (fun _ vi _ => 8 - (intOf vi).toNat)
  case atStart => exact ⟨0, by omega, rfl, rfl, X1.out⟩
  case round =>
    clear X1
    obtain ⟨k, hk, rfl, rfl, hS⟩ := hrel
    have HS := Lib.hid hS
    clear hS
    by_cases hlt : k < 8
    · have hs0 := sumTo_bound (priceB gs ls each) 1127 HPB.out k
      have hq0 := HPB.out k
      obtain ⟨q, hq⟩ : ∃ q, q = priceB gs ls each k := ⟨_, rfl⟩
      obtain ⟨t, ht⟩ : ∃ t, t = sumTo (priceB gs ls each) k := ⟨_, rfl⟩
      rw [← hq] at hq0
      rw [← ht] at hs0 ⊢
      have HN : Hid (sumTo (priceB gs ls each) (k + 1) = t + q) := Lib.hid (by rw [sumTo, ← ht, ← hq])
      have HQ := Lib.hid hq
      obtain ⟨s, hs⟩ : ∃ s, s = setK ls (k : Int) n := ⟨_, rfl⟩
      have hidx : ∀ u, (Instr.index 102 (eightV (setF ls n)) (.int .i64 k)).run Tryd.prog u = .ok (.int .u8 (s : Int)) u := run_index_eight (setF ls n) hlt (s : Int) (by rw [hs]; rfl)
      have hs256 : s < 256 := by rw [hs]; exact setK_lt ls k n hn
      have hin : ∀ i, i < 8 → s.testBit i = true → i < n := by rw [hs]; exact setK_in ls k n
      have HIN := Lib.hid hin
      have HSS := Lib.hid hs
      clear hq ht hs hin
      by_cases hz : s = 0
      · have hz2 : ((s : Int) != 0) = false := by rw [hz]; rfl
        have hq1 : q = 0 := by rw [HQ.out, priceB, ← En.out, ← HSS.out, if_pos hz]
        have HN2 : Hid (sumTo (priceB gs ls each) (k + 1) = t) := Lib.hid (by rw [HN.out, hq1]; omega)
        clear hz hq1
        go_wp2_with fail
        go_roundw
        case rel => exact ⟨k + 1, by omega, by go_num, by rw [HN2.out], HS.out⟩
        case measure => simp [intOf]; omega
      · have hz2 : ((s : Int) != 0) = true := by rw [bne_iff_ne]; omega
        have hq1 : each + hMax gs (memb s) = q := by rw [HQ.out, priceB, ← En.out, ← HSS.out, if_neg hz]
        have HQ1 := Lib.hid hq1
        clear hz hq1
        go_wp2_with fail
        refine (price_any A n c gs En.out (by omega) m hold each h0 h1 b1 b2 s hs256 HIN.out _ ((hg.below HS.out.B).more HS.out.B.size) HS.out.P q HQ1.out).mono ?_
        rintro o w2 ⟨rfl, hb2⟩
        have HS2 := Lib.hid (HS.out.next hb2)
        clear hb2
        go_wp2_with fail
        go_roundw
        case rel => exact ⟨k + 1, by omega, by go_num, by rw [HN.out], HS2.out⟩
        case measure => simp [intOf]; omega
    · obtain rfl : k = 8 := by omega
      have HE : Hid (sumTo (priceB gs ls each) 8 = z) := HZ
      go_wp2_with fail
      go_ret
      exact ⟨by first | rfl | (rw [HE.out]; done) | (rw [HE.out]; rfl), HS.out.B⟩
end Go.Proofs.YtekigapeekjigaaDoor.mem

/-
  Contracts of CostOf, the program's and the model's.
-/
namespace Go.Proofs.YtekigapeekjigaaDoor.mem
open Go Go.RowKit errs garS heats meet load sl

/-- what CostOf returns, and its code -/
structure CostRes (r : Nat → Int) (gs : List Gar) (hold : Int) (ls : List Int) (each : Int) (code : Nat) (b : Bool) (z : Int) (k : Nat) : Prop where
  fails : code ≠ 0 → z = 0 ∧ k = code
  wrong : code = 0 → b = false → z = 0 ∧ k = 4
  right : code = 0 → b = true → z = costS gs ls each ∧ k = 0
theorem costRes_exists (r : Nat → Int) (gs : List Gar) (hold : Int) (ls : List Int) (each : Int) (code : Nat) (b : Bool) : ∃ z k, CostRes r gs hold ls each code b z k := by
  by_cases h : code = 0
  · cases b with
    | false => exact ⟨0, 4, fun h1 => absurd h h1, fun _ _ => ⟨rfl, rfl⟩, fun _ h1 => by cases h1⟩
    | true => exact ⟨_, 0, fun h1 => absurd h h1, (fun _ h1 => by cases h1), fun _ _ => ⟨rfl, rfl⟩⟩
  · exact ⟨0, code, fun _ => ⟨rfl, rfl⟩, fun h1 => absurd h1 h, fun h1 => absurd h1 h⟩
theorem codeAsk_true {r : Nat → Int} {gs : List Gar} {fine : Bool} (h : 0 = codeAsk r gs fine) : fine = true := ask_fine h
theorem l01Each_any (each : Int) (w : World) (b : Bool) (hb : b = true ↔ (0 ≤ each ∧ each ≤ 1000)) :
    Calls Tryd.prog 78 #[.int .i64 each] w fun o w' => o = .returned (.bool b) ∧ w' = w := by
  have e : b = hang.inB each 0 1000 := by
    rw [Bool.eq_iff_iff, hb]
    exact hang.inB_iff.symm
  subst e
  go_enter Tryd.func78, Tryd.ntmps78
  go_wp2_with fail
  refine (hang.l00In_any _ _ _ _).mono ?_
  rintro o w1 ⟨rfl, rfl⟩
  go_wp2_with fail
  go_ret
  exact ⟨rfl, rfl⟩
theorem l01Hold_is (hold : Int) (w : World) (v : Bool) (hv : decide (1 ≤ hold ∧ hold ≤ 20000) = v) :
    Calls Tryd.prog 62 #[.int .i64 hold] w fun o w' => o = .returned (.bool v) ∧ w' = w := l01Hold_any hold w v (by rw [← hv]; simp)
theorem l01Each_is (each : Int) (w : World) (v : Bool) (hv : decide (0 ≤ each ∧ each ≤ 1000) = v) :
    Calls Tryd.prog 78 #[.int .i64 each] w fun o w' => o = .returned (.bool v) ∧ w' = w := l01Each_any each w v (by rw [← hv]; simp)
set_option maxRecDepth 100000 in
set_option maxHeartbeats 8000000 in
theorem CostOf_spec (r : Nat → Int) (hr : Six r) (hold : Int) (A : Option Addr) (n c : Nat) (gs : List Gar) (hn : n = gs.length) (hs : n ≤ 1048576) (A' : Option Addr) (m c' : Nat) (ls : List Int) (em : m = ls.length) (hm : m ≤ 1048576) (each : Int) (w : World) (hg : GS w w.heap.size A gs) (ho : Sl intS.C 1 w w.heap.size A' ls) (fh fe : Bool) (hfh : decide (1 ≤ hold ∧ hold ≤ 20000) = fh) (hfe : decide (0 ≤ each ∧ each ≤ 1000) = fe) (code : Nat) (hcode : code = codeAsk r gs (fh && fe)) (b : Bool) (hb0 : code = 0 → (b = true ↔ Right r gs hold ls)) (z : Int) (k : Nat) (hz : CostRes r gs hold ls each code b z k) :
    Calls Tryd.prog 33 #[rulesV r, .int .i64 hold, .slice A n c, .slice A' m c', .int .i64 each] w fun o w' => o = .returned (.tuple #[.int .i64 z, .int .i64 k]) ∧ Below w.heap.size w w' := by
  have Hn := Lib.hid hn
  have Em := Lib.hid em
  have HFH := Lib.hid hfh
  have HFE := Lib.hid hfe
  have HC := Lib.hid hcode
  have HB0 := Lib.hid hb0
  have HZ := Lib.hid hz
  clear hn hfh hfe hcode hb0 em hz
  have S0 : Hid (LS r w (w.alloc (.cells (rulesCs r) 26))) := Lib.hid ⟨SixAt.new r w 26, by simp, (Below.refl w.heap.size w).alloc (Nat.le_refl _) _⟩
  obtain ⟨⟨s0, s1, s2, s3, s4, s5⟩, _, _⟩ := S0.out
  have key : ∀ u, LS r w u → GS u u.heap.size A gs := fun u h => (hg.below h.2.2).more h.2.2.size
  have keyL : ∀ u, LS r w u → Sl intS.C 1 u u.heap.size A' ls := fun u h => (ho.below h.2.2).more h.2.2.size
  cases fh with
  | true =>
    go_enter Tryd.func33, Tryd.ntmps33
    go_wp2_with fail
    go_region_held3 (fun u => LS r w u)
      (first | assumption | exact S0.out | exact S0.out.next (below_drewN _ _ 1) | exact LS.next (by assumption) hb2)
      (first
        | (go_at_call 62; refine (l01Hold_is hold _ true HFH.out).mono ?_; rintro o w2 ⟨rfl, rfl⟩)
        | (go_at_call 78; refine (l01Each_is each _ fe HFE.out).mono ?_; rintro o w2 ⟨rfl, rfl⟩)
        | (go_at_call 61; refine (l01Asked_any r hr A n c gs Hn.out hs fe _ (key _ (by assumption)) code HC.out).mono ?_; rintro o w2 ⟨rfl, hb2⟩)
        | fail)
    all_goals
      rename_i hS
      have HS := Lib.hid hS
      obtain ⟨⟨t0, t1, t2, t3, t4, t5⟩, _, _⟩ := hS
      clear s0 s1 s2 s3 s4 s5
      by_cases hc0 : code = 0
      · subst hc0
        cases b with
        | true =>
          obtain ⟨e1, e2⟩ := HZ.out.right rfl rfl
          subst e1 e2
          have hR := (HB0.out rfl).1 rfl
          have HL := Lib.hid hR.1
          have hh := codeAsk_true HC.out
          have HE1 : Hid (0 ≤ each ∧ each ≤ 1000) := Lib.hid (by have h1 := HFE.out; rw [(Bool.and_eq_true_iff.1 hh).2] at h1; simpa using h1)
          have HR := Lib.hid hR
          clear hR hh
          go_wp2_with fail
          refine (l01Right_any r hr hold A n c gs Hn.out hs (ask_colour HC.out) A' m c' ls Em.out hm _ (key _ HS.out) (keyL _ HS.out) true (by simp [HR.out])).mono ?_
          rintro o w3 ⟨rfl, hb3⟩
          have HS3 := Lib.hid (HS.out.next hb3)
          clear hb3 t0 t1 t2 t3 t4 t5
          go_wp2_with fail
          refine (l01Cost_any A n c gs Hn.out hs A' m c' ls Em.out (by have := Hn.out; have := Em.out; have := HL.out; omega) each HE1.out.1 HE1.out.2 _ (key _ HS3.out) (keyL _ HS3.out)).mono ?_
          rintro o w4 ⟨rfl, hb4⟩
          have HS4 := Lib.hid (HS3.out.next hb4)
          clear hb4
          go_wp2_with fail
          go_ret2
          exact ⟨by simp, HS4.out.2.2⟩
        | false =>
          obtain ⟨e1, e2⟩ := HZ.out.wrong rfl rfl
          subst e1 e2
          have hR : ¬ Right r gs hold ls := fun h => by
            have h2 := (HB0.out rfl).2 h
            cases h2
          have HR := Lib.hid hR
          clear hR
          go_wp2_with fail
          refine (l01Right_any r hr hold A n c gs Hn.out hs (ask_colour HC.out) A' m c' ls Em.out hm _ (key _ HS.out) (keyL _ HS.out) false (by simp only [Bool.false_eq_true, false_iff]; exact HR.out)).mono ?_
          rintro o w3 ⟨rfl, hb3⟩
          have HS3 := Lib.hid (HS.out.next hb3)
          clear hb3 t0 t1 t2 t3 t4 t5
          go_wp2_with fail
          go_ret2
          exact ⟨by simp, HS3.out.2.2⟩
      · obtain ⟨e1, e2⟩ := HZ.out.fails hc0
        subst e1 e2
        have hne : ((k : Int) != 0) = true := by rw [bne_iff_ne]; omega
        have hne3 : ((k : Int) == 0) = false := by rw [beq_eq_false_iff_ne]; omega
        clear hc0
        go_wp2_with fail
        go_ret2
        exact ⟨by simp, HS.out.2.2⟩
  | false =>
    go_enter Tryd.func33, Tryd.ntmps33
    go_wp2_with fail
    refine wp_region_held_drew (S := fun u => LS r w u) (by kernel_rfl) (S0.out.next (below_drewN _ _ 1)) (fun hHeld => ?_)
    refine wpAnyH_take (i := 0) (v := ?_) rfl (by kernel_rfl) (by kernel_rfl) (by kernel_rfl) (fun _ _ _ h => h) (Or.inl ⟨by rfl, ?_⟩) (by assumption) ?_
    rotate_left
    · intro u hSu
      (try dsimp only at hSu)
      first | (go_simp; done) | (go_simp; with_reducible rfl)
    try simp only [Act.put, List.setIfInBounds_toArray, List.set_cons_zero, List.set_cons_succ]
    refine wpAnyH_take (i := 1) (v := ?_) rfl (by kernel_rfl) (by kernel_rfl) (by kernel_rfl) (fun _ _ _ h => h) (Or.inl ⟨by rfl, ?_⟩) (by assumption) ?_
    rotate_left
    · intro u hSu
      (try dsimp only at hSu)
      first | (go_simp; done) | (go_simp; with_reducible rfl)
    try simp only [Act.put, List.setIfInBounds_toArray, List.set_cons_zero, List.set_cons_succ]
    refine wpAnyH_take (i := 2) (v := ?_) rfl (by kernel_rfl) (by kernel_rfl) (by kernel_rfl) (fun _ _ _ h => h) (Or.inl ⟨by rfl, ?_⟩) (by assumption) ?_
    rotate_left
    · intro u hSu
      (try dsimp only at hSu)
      first | (go_simp; done) | (go_simp; with_reducible rfl)
    try simp only [Act.put, List.setIfInBounds_toArray, List.set_cons_zero, List.set_cons_succ]
    refine wpAnyH_ready (rs := [3]) (by kernel_rfl) (by simp) ?_
    refine AllReadyH.cons rfl (fun K hK => ?_) AllReadyH.nil
    go_simp
    refine (l01Hold_is hold _ false HFH.out).mono ?_
    rintro o w2 ⟨rfl, rfl⟩
    refine hK.out _ _ (hHeld) (fun hHeld2 => ?_)
    clear hK K hHeld
    have hHeld := hHeld2
    clear hHeld2
    try simp only [Act.put, List.setIfInBounds_toArray, List.set_cons_zero, List.set_cons_succ]
    refine wpAnyH_take (i := 4) (v := ?_) rfl (by kernel_rfl) (by kernel_rfl) (by kernel_rfl) (fun _ _ _ h => h) (Or.inl ⟨by rfl, ?_⟩) (by assumption) ?_
    rotate_left
    · intro u hSu
      (try dsimp only at hSu)
      first | (go_simp; done) | (go_simp; with_reducible rfl)
    try simp only [Act.put, List.setIfInBounds_toArray, List.set_cons_zero, List.set_cons_succ]
    refine wpAnyH_take (i := 5) (v := undef) rfl (by kernel_rfl) (by kernel_rfl) (by kernel_rfl) (fun _ _ _ h => h) (Or.inr ⟨by rfl, rfl⟩) (by assumption) ?_
    try simp only [Act.put, List.setIfInBounds_toArray, List.set_cons_zero, List.set_cons_succ]
    refine wpAnyH_take (i := 6) (v := undef) rfl (by kernel_rfl) (by kernel_rfl) (by kernel_rfl) (fun _ _ _ h => h) (Or.inr ⟨by rfl, rfl⟩) (by assumption) ?_
    try simp only [Act.put, List.setIfInBounds_toArray, List.set_cons_zero, List.set_cons_succ]
    refine wpAnyH_take (i := 7) (v := ?_) rfl (by kernel_rfl) (by kernel_rfl) (by kernel_rfl) (fun _ _ _ h => h) (Or.inl ⟨by rfl, ?_⟩) (by assumption) ?_
    rotate_left
    · intro u hSu
      (try dsimp only at hSu)
      first | (go_simp; done) | (go_simp; with_reducible rfl)
    try simp only [Act.put, List.setIfInBounds_toArray, List.set_cons_zero, List.set_cons_succ]
    refine wpAnyH_ready (rs := [8]) (by kernel_rfl) (by simp) ?_
    refine AllReadyH.cons rfl (fun K hK => ?_) AllReadyH.nil
    go_simp
    refine (l01Asked_any r hr A n c gs Hn.out hs false _ (key _ hHeld) code HC.out).mono ?_
    rintro o w2 ⟨rfl, hb2⟩
    refine hK.out _ _ (hHeld.next hb2) (fun hHeld2 => ?_)
    clear hK K hHeld
    have hHeld := hHeld2
    clear hHeld2
    try simp only [Act.put, List.setIfInBounds_toArray, List.set_cons_zero, List.set_cons_succ]
    refine wpAnyH_take (i := 9) (v := ?_) rfl (by kernel_rfl) (by kernel_rfl) (by kernel_rfl) (fun _ _ _ h => h) (Or.inl ⟨by rfl, ?_⟩) (by assumption) ?_
    rotate_left
    · intro u hSu
      (try dsimp only at hSu)
      first | (go_simp; done) | (go_simp; with_reducible rfl)
    try simp only [Act.put, List.setIfInBounds_toArray, List.set_cons_zero, List.set_cons_succ]
    refine wpAnyH_done (by kernel_rfl) ?_ _
    have hS := hHeld
    clear hHeld
    have HS := Lib.hid hS
    obtain ⟨⟨t0, t1, t2, t3, t4, t5⟩, _, _⟩ := hS
    clear s0 s1 s2 s3 s4 s5
    by_cases hc0 : code = 0
    · subst hc0
      cases b with
      | true =>
        obtain ⟨e1, e2⟩ := HZ.out.right rfl rfl
        subst e1 e2
        have hR := (HB0.out rfl).1 rfl
        have HL := Lib.hid hR.1
        have hh := codeAsk_true HC.out
        have HE1 : Hid (0 ≤ each ∧ each ≤ 1000) := Lib.hid (by have h1 := HFE.out; rw [(Bool.and_eq_true_iff.1 hh).2] at h1; simpa using h1)
        have HR := Lib.hid hR
        clear hR hh
        go_wp2_with fail
        refine (l01Right_any r hr hold A n c gs Hn.out hs (ask_colour HC.out) A' m c' ls Em.out hm _ (key _ HS.out) (keyL _ HS.out) true (by simp [HR.out])).mono ?_
        rintro o w3 ⟨rfl, hb3⟩
        have HS3 := Lib.hid (HS.out.next hb3)
        clear hb3 t0 t1 t2 t3 t4 t5
        go_wp2_with fail
        refine (l01Cost_any A n c gs Hn.out hs A' m c' ls Em.out (by have := Hn.out; have := Em.out; have := HL.out; omega) each HE1.out.1 HE1.out.2 _ (key _ HS3.out) (keyL _ HS3.out)).mono ?_
        rintro o w4 ⟨rfl, hb4⟩
        have HS4 := Lib.hid (HS3.out.next hb4)
        clear hb4
        go_wp2_with fail
        go_ret2
        exact ⟨by simp, HS4.out.2.2⟩
      | false =>
        obtain ⟨e1, e2⟩ := HZ.out.wrong rfl rfl
        subst e1 e2
        have hR : ¬ Right r gs hold ls := fun h => by
          have h2 := (HB0.out rfl).2 h
          cases h2
        have HR := Lib.hid hR
        clear hR
        go_wp2_with fail
        refine (l01Right_any r hr hold A n c gs Hn.out hs (ask_colour HC.out) A' m c' ls Em.out hm _ (key _ HS.out) (keyL _ HS.out) false (by simp only [Bool.false_eq_true, false_iff]; exact HR.out)).mono ?_
        rintro o w3 ⟨rfl, hb3⟩
        have HS3 := Lib.hid (HS.out.next hb3)
        clear hb3 t0 t1 t2 t3 t4 t5
        go_wp2_with fail
        go_ret2
        exact ⟨by simp, HS3.out.2.2⟩
    · obtain ⟨e1, e2⟩ := HZ.out.fails hc0
      subst e1 e2
      have hne : ((k : Int) != 0) = true := by rw [bne_iff_ne]; omega
      have hne3 : ((k : Int) == 0) = false := by rw [beq_eq_false_iff_ne]; omega
      clear hc0
      go_wp2_with fail
      go_ret2
      exact ⟨by simp, HS.out.2.2⟩
theorem codeAsk5 (r : Nat → Int) (gs : List Gar) (hold each : Int) (n k1 k2 k3 k4 k5 : Nat) (fh fe : Bool) (en : n = gs.length) (hfh : decide (1 ≤ hold ∧ hold ≤ 20000) = fh) (hfe : decide (0 ≤ each ∧ each ≤ 1000) = fe) (h1 : k1 = if validRB r = true then 0 else 1) (h2 : k2 = if gs.all Gar.valid = true then 0 else 1) (h3 : k3 = if 1 ≤ hold ∧ hold ≤ 20000 then 0 else 2) (h4 : k4 = if 0 ≤ each ∧ each ≤ 1000 then 0 else 2) (h5 : k5 = if 8 < n then 3 else 0) :
    firstCode [k1, k2, k3, k4, k5] = codeAsk r gs (fh && fe) := by
  unfold codeAsk codeAll
  rw [← en]
  by_cases a1 : validRB r = true
  · rw [if_pos a1] at h1 ⊢
    by_cases a2 : gs.all Gar.valid = true
    · rw [if_pos a2] at h2 ⊢
      by_cases a3 : 1 ≤ hold ∧ hold ≤ 20000
      · rw [if_pos a3] at h3
        have e3 : fh = true := by rw [← hfh]; simpa using a3
        by_cases a4 : 0 ≤ each ∧ each ≤ 1000
        · rw [if_pos a4] at h4
          have e4 : fe = true := by rw [← hfe]; simpa using a4
          rw [e3, e4, h1, h2, h3, h4, h5]
          split
          · rfl
          · rfl
        · rw [if_neg a4] at h4
          have e4 : fe = false := by rw [← hfe]; simpa using a4
          rw [e3, e4, h1, h2, h3, h4]
          rfl
      · rw [if_neg a3] at h3
        have e3 : fh = false := by rw [← hfh]; simpa using a3
        rw [e3, h1, h2, h3]
        rfl
    · rw [if_neg a2] at h2 ⊢
      rw [h1, h2]
      rfl
  · rw [if_neg a1] at h1 ⊢
    rw [h1]
    rfl
/-- eight numbers in their box -/
abbrev EX (q : Nat) (f : Nat → Int) (u : World) : Prop := u.cell? ⟨q, 0, none⟩ = some (.int .u8 (f 0)) ∧ u.cell? ⟨q, 1, none⟩ = some (.int .u8 (f 1)) ∧ u.cell? ⟨q, 2, none⟩ = some (.int .u8 (f 2)) ∧ u.cell? ⟨q, 3, none⟩ = some (.int .u8 (f 3)) ∧ u.cell? ⟨q, 4, none⟩ = some (.int .u8 (f 4)) ∧ u.cell? ⟨q, 5, none⟩ = some (.int .u8 (f 5)) ∧ u.cell? ⟨q, 6, none⟩ = some (.int .u8 (f 6)) ∧ u.cell? ⟨q, 7, none⟩ = some (.int .u8 (f 7)) ∧ q < u.heap.size
theorem EX.next {q : Nat} {f : Nat → Int} {u v : World} (h : EX q f u) (hb : Below u.heap.size u v) : EX q f v := by
  obtain ⟨c0, c1, c2, c3, c4, c5, c6, c7, hq⟩ := h
  exact ⟨(hb.cell (p := ⟨q, 0, none⟩) hq).trans c0, (hb.cell (p := ⟨q, 1, none⟩) hq).trans c1, (hb.cell (p := ⟨q, 2, none⟩) hq).trans c2, (hb.cell (p := ⟨q, 3, none⟩) hq).trans c3, (hb.cell (p := ⟨q, 4, none⟩) hq).trans c4, (hb.cell (p := ⟨q, 5, none⟩) hq).trans c5, (hb.cell (p := ⟨q, 6, none⟩) hq).trans c6, (hb.cell (p := ⟨q, 7, none⟩) hq).trans c7, Nat.lt_of_lt_of_le hq hb.size⟩
theorem EX.new (f : Nat → Int) (u : World) (t : TypeId) : EX u.heap.size f (u.alloc (.cells #[.int .u8 (f 0), .int .u8 (f 1), .int .u8 (f 2), .int .u8 (f 3), .int .u8 (f 4), .int .u8 (f 5), .int .u8 (f 6), .int .u8 (f 7)] t)) := by
  have h : ∀ j, (u.alloc (.cells #[.int .u8 (f 0), .int .u8 (f 1), .int .u8 (f 2), .int .u8 (f 3), .int .u8 (f 4), .int .u8 (f 5), .int .u8 (f 6), .int .u8 (f 7)] t)).cell? ⟨u.heap.size, j, none⟩ = (#[.int .u8 (f 0), .int .u8 (f 1), .int .u8 (f 2), .int .u8 (f 3), .int .u8 (f 4), .int .u8 (f 5), .int .u8 (f 6), .int .u8 (f 7)] : Array Value)[j]? := fun j => cell_of_row _ _ _ _ _ _ (heap_alloc_new u _)
  exact ⟨h 0, h 1, h 2, h 3, h 4, h 5, h 6, h 7, by simp⟩
/-- a basket and the sets, in their boxes -/
abbrev CX (w : World) (q : Nat) (A : Option Addr) (n c : Nat) (m : Nat → Int) (hold : Int) (q2 : Nat) (f : Nat → Int) (u : World) : Prop := EX q2 f u ∧ BX w q A n c m hold u
theorem CX.next {w : World} {q : Nat} {A : Option Addr} {n c : Nat} {m : Nat → Int} {hold : Int} {q2 : Nat} {f : Nat → Int} {u v : World} (h : CX w q A n c m hold q2 f u) (hb : Below u.heap.size u v) : CX w q A n c m hold q2 f v := ⟨h.1.next hb, h.2.next hb⟩
theorem setsOf_v (A : Option Addr) (n c : Nat) (gs : List Gar) (en : n = gs.length) (hn : n ≤ 8) (ms : Nat → Int) (hold : Int) (A' : Option Addr) (m c' : Nat) (ls : List Int) (em : m = ls.length) (hm : m ≤ 1048576) (w : World) (hg : GS w w.heap.size A gs) (ho : Sl intS.C 1 w w.heap.size A' ls) (b : Bool) (hb : b = true ↔ RightB gs ms hold ls) (f : Nat → Int) (hf : setsV ls n b = f) :
    Calls Tryd.prog 70 #[bV A n c ms hold, .slice A' m c'] w fun o w' => o = .returned (.tuple #[eightV f, .bool b]) ∧ Below w.heap.size w w' := by
  subst hf
  exact setsOf_any A n c gs en hn ms hold A' m c' ls em hm w hg ho b hb
set_option maxRecDepth 100000 in
set_option maxHeartbeats 8000000 in
theorem CostOf_any (r : Nat → Int) (hr : Six r) (hold : Int) (A : Option Addr) (n c : Nat) (gs : List Gar) (en : n = gs.length) (hs : n ≤ 1048576) (A' : Option Addr) (m c' : Nat) (ls : List Int) (em : m = ls.length) (hm : m ≤ 1048576) (each : Int) {w : World} {B : Nat} {e : Nat → Addr} (h : Errs w B e) (hB : B ≤ w.heap.size) (hg : GS w w.heap.size A gs) (ho : Sl intS.C 1 w w.heap.size A' ls) (fh fe : Bool) (hfh : decide (1 ≤ hold ∧ hold ≤ 20000) = fh) (hfe : decide (0 ≤ each ∧ each ≤ 1000) = fe) (code : Nat) (hcode : code = codeAsk r gs (fh && fe)) (b : Bool) (hb0 : code = 0 → (b = true ↔ RightB gs (msOf r gs n) hold ls)) (z : Int) (k : Nat) (hz : CostRes r gs hold ls each code b z k) :
    Calls Tryd.prog 34 #[rulesV r, .int .i64 hold, .slice A n c, .slice A' m c', .int .i64 each] w fun o w' => o = .returned (.tuple #[.int .i64 z, .int .i64 k]) ∧ Below w.heap.size w w' := by
  obtain ⟨k1, hk1⟩ : ∃ k : Nat, k = if validRB r = true then 0 else 1 := ⟨_, rfl⟩
  obtain ⟨k2, hk2⟩ : ∃ k : Nat, k = if gs.all Gar.valid = true then 0 else 1 := ⟨_, rfl⟩
  obtain ⟨k3, hk3⟩ : ∃ k : Nat, k = if 1 ≤ hold ∧ hold ≤ 20000 then 0 else 2 := ⟨_, rfl⟩
  obtain ⟨k4, hk4⟩ : ∃ k : Nat, k = if 0 ≤ each ∧ each ≤ 1000 then 0 else 2 := ⟨_, rfl⟩
  obtain ⟨k5, hk5⟩ : ∃ k : Nat, k = if 8 < n then 3 else 0 := ⟨_, rfl⟩
  have HF : Hid (firstCode [k1, k2, k3, k4, k5] = code) := Lib.hid ((codeAsk5 r gs hold each n k1 k2 k3 k4 k5 fh fe en hfh hfe hk1 hk2 hk3 hk4 hk5).trans hcode.symm)
  have hle : code ≤ 3 := by rw [hcode]; exact codeAsk_le _ _ _
  have HC := Lib.hid hcode
  have HFE := Lib.hid hfe
  have HK1 := Lib.hid hk1
  have HK2 := Lib.hid hk2
  have HK3 := Lib.hid hk3
  have HK4 := Lib.hid hk4
  have HK5 := Lib.hid hk5
  have En := Lib.hid en
  have Em := Lib.hid em
  have HZ := Lib.hid hz
  have HB0 := Lib.hid hb0
  have L0 : Hid (LS r w (w.alloc (.cells (rulesCs r) 26))) := Lib.hid ⟨SixAt.new r w 26, by simp, (Below.refl w.heap.size w).alloc (Nat.le_refl _) _⟩
  obtain ⟨⟨s0, s1, s2, s3, s4, s5⟩, _, _⟩ := L0.out
  clear hk1 hk2 hk3 hk4 hk5 en em hz hb0 hcode hfh hfe
  go_enter Tryd.func34, Tryd.ntmps34
  go_wp2_with fail
  refine (checkRules_any r hr (h.below (L0.out.2.2.mono hB)) (Nat.le_trans hB L0.out.2.2.size) k1 HK1.out).mono ?_
  rintro o w1 ⟨rfl, hb1⟩
  have L1 := Lib.hid (L0.out.next hb1)
  clear hb1 s0 s1 s2 s3 s4 s5
  go_wp2_with fail
  refine (checkGarments_any A n c gs En.out hs (h.below (L1.out.2.2.mono hB)) (Nat.le_trans hB L1.out.2.2.size) ((hg.below L1.out.2.2).more L1.out.2.2.size) k2 HK2.out).mono ?_
  rintro o w2 ⟨rfl, hb2⟩
  have L2 := Lib.hid (L1.out.next hb2)
  clear hb2
  go_wp2_with fail
  refine (checkHold_any hold (h.below (L2.out.2.2.mono hB))).mono ?_
  rintro o w3 ⟨rfl, rfl⟩
  rw [← HK3.out]
  go_wp2_with fail
  refine (checkWithin_any each 0 1000 (h.below (L2.out.2.2.mono hB))).mono ?_
  rintro o w3 ⟨rfl, rfl⟩
  rw [← HK4.out]
  go_wp2_with fail
  refine (checkCount_any A n c hs (h.below (L2.out.2.2.mono hB))).mono ?_
  rintro o w4 ⟨rfl, rfl⟩
  rw [← HK5.out]
  go_wp2_with (refine wpList_listed rfl 148 5 _ rfl #[(0, errOf e k1), (1, errOf e k2), (2, errOf e k3), (3, errOf e k4), (4, errOf e k5)] ?hp (buildSlice5 e k1 k2 k3 k4 k5 _) ?_; case hp => simp [Act.eval])
  have L3 := Lib.hid (L2.out.next ((Below.refl w2.heap.size w2).alloc (Nat.le_refl _) (.cells #[errOf e k1, errOf e k2, errOf e k3, errOf e k4, errOf e k5] 86)))
  refine (firstOf_any e [k1, k2, k3, k4, k5] _ 5 5 rfl (by decide) _ (cells_errs e [k1, k2, k3, k4, k5] w2 86 #[errOf e k1, errOf e k2, errOf e k3, errOf e k4, errOf e k5] rfl)).mono ?_
  rintro o w5 ⟨rfl, rfl⟩
  rw [HF.out]
  obtain ⟨w3, hw3⟩ : ∃ w3, w3 = w2.alloc (.cells #[errOf e k1, errOf e k2, errOf e k3, errOf e k4, errOf e k5] 86) := ⟨_, rfl⟩
  rw [← hw3] at L3 ⊢
  have HE := Lib.hid (h.below (L3.out.2.2.mono hB))
  clear hw3
  obtain ⟨⟨s0, s1, s2, s3, s4, s5⟩, _, _⟩ := L3.out
  cases code with
  | zero =>
    have e0 : errOf e 0 = .nilIface := rfl
    rw [e0]
    have hval := ask_valid HC.out
    have hn8 : n ≤ 8 := by have := En.out; have := ask_len HC.out; omega
    clear e0 hle
    have HE1 : Hid (0 ≤ each ∧ each ≤ 1000) := Lib.hid (by have h1 := HFE.out; rw [(Bool.and_eq_true_iff.1 (codeAsk_true HC.out)).2] at h1; simpa using h1)
    go_wp2_with fail
    refine (newBasket_any r hr hold A n c gs En.out hn8 hval _ ((hg.below L3.out.2.2).more L3.out.2.2.size)).mono ?_
    rintro o w6 ⟨rfl, hb6⟩
    have B6 := Lib.hid (L3.out.2.2.trans (hb6.mono L3.out.2.2.size))
    have X0 := Lib.hid (BX.new A n c (msOf r gs n) hold 105 B6.out)
    obtain ⟨c0, c1, c2, c3, c4, c5, c6, c7, c8, c9, _, _⟩ := X0.out
    clear s0 s1 s2 s3 s4 s5 hb6
    cases b with
    | true =>
      obtain ⟨e1, e2⟩ := HZ.out.right rfl rfl
      subst e2
      have HZ2 := Lib.hid e1.symm
      have hfs : setsV ls n true = setF ls n := rfl
      have HFS := Lib.hid hfs
      clear e1 hfs
      go_wp2_with fail
      refine (setsOf_v A n c gs En.out hn8 (msOf r gs n) hold A' m c' ls Em.out hm _ ((hg.below X0.out.b).more X0.out.b.size) ((ho.below X0.out.b).more X0.out.b.size) true (by have := HB0.out (by trivial); simpa using this) (setF ls n) HFS.out).mono ?_
      rintro o w7 ⟨rfl, hb7⟩
      have X7 := Lib.hid (X0.out.next hb7)
      have C7 : Hid (CX w w6.heap.size A n c (msOf r gs n) hold w7.heap.size (setF ls n) (w7.alloc (.cells #[.int .u8 (setF ls n 0), .int .u8 (setF ls n 1), .int .u8 (setF ls n 2), .int .u8 (setF ls n 3), .int .u8 (setF ls n 4), .int .u8 (setF ls n 5), .int .u8 (setF ls n 6), .int .u8 (setF ls n 7)] 102))) := Lib.hid ⟨EX.new _ _ _, X7.out.next ((Below.refl _ _).alloc (Nat.le_refl _) _)⟩
      clear hb7 c0 c1 c2 c3 c4 c5 c6 c7 c8 c9
      go_wp2_with fail
      go_region_held3 (fun u => CX w w6.heap.size A n c (msOf r gs n) hold w7.heap.size (setF ls n) u)
        (first | assumption | exact C7.out | exact C7.out.next (below_drewN _ _ 1) | exact CX.next (by assumption) hb2)
        (first
          | (go_at_call 82; refine (priceFor_any A n c (msOf r gs n) hold each _).mono ?_; rintro o w8 ⟨b1, b2, rfl, hPA, hb2⟩)
          | (go_at_call 81; refine (sumOf_any A n c gs En.out hn8 (msOf r gs n) hold each HE1.out.1 HE1.out.2 b1 b2 ls _ ((hg.below (BX.b (And.right (by assumption)))).more (BX.b (And.right (by assumption))).size) hPA z HZ2.out).mono ?_; rintro o w9 ⟨rfl, hb2⟩)
          | fail)
      all_goals
        rename_i hS
        have HS := Lib.hid hS
        clear hS
        go_wp2_with fail
        go_ret2
        exact ⟨by simp, HS.out.2.b⟩
    | false =>
      obtain ⟨e1, e2⟩ := HZ.out.wrong rfl rfl
      subst e1 e2
      have HFS : Hid (setsV ls n false = zeroF) := Lib.hid rfl
      go_wp2_with fail
      refine (setsOf_v A n c gs En.out hn8 (msOf r gs n) hold A' m c' ls Em.out hm _ ((hg.below X0.out.b).more X0.out.b.size) ((ho.below X0.out.b).more X0.out.b.size) false (by have := HB0.out (by trivial); simpa using this) zeroF HFS.out).mono ?_
      rintro o w7 ⟨rfl, hb7⟩
      have X7 := Lib.hid (X0.out.next hb7)
      clear hb7 c0 c1 c2 c3 c4 c5 c6 c7 c8 c9
      go_wp2_with fail
      go_ret2
      exact ⟨by simp, X7.out.b.alloc X7.out.b.size _⟩
  | succ i =>
    obtain ⟨e1, e2⟩ := HZ.out.fails (by omega)
    subst e1 e2
    have e0 : errOf e (i + 1) = errV (e i) := rfl
    rw [e0]
    clear e0
    go_wp2_with fail
    refine (codeOf_any HE.out (i + 1) (by omega)).mono ?_
    rintro o w7 ⟨rfl, rfl⟩
    go_wp2_with fail
    go_ret2
    exact ⟨by simp, L3.out.2.2⟩
end Go.Proofs.YtekigapeekjigaaDoor.mem

/-
  Each garment alone has to be a load: contracts of the model's and the program's function that look for this.
-/
namespace Go.Proofs.YtekigapeekjigaaDoor.mem
open Go Go.RowKit errs garS heats meet load sl

def lightB (gs : List Gar) (hold : Int) : Bool := gs.all (fun x => decide (x.g ≤ hold))
theorem light_iff {gs : List Gar} {hold : Int} : lightB gs hold = true ↔ ∀ x ∈ gs, x.g ≤ hold := by simp [lightB]
theorem light_no {gs : List Gar} {hold : Int} {k : Nat} {x : Gar} (hx : gs[k]? = some x) (h : hold < x.g) : lightB gs hold = false := by
  cases hb : lightB gs hold with
  | false => rfl
  | true => have := light_iff.1 hb x (List.mem_of_getElem? hx); omega
theorem light_yes {gs : List Gar} {hold : Int} (h : ∀ j x, j < gs.length → gs[j]? = some x → x.g ≤ hold) : lightB gs hold = true := light_iff.2 fun x hx => by
  obtain ⟨j, hj⟩ := List.mem_iff_getElem?.1 hx
  exact h j x (List.getElem?_eq_some_iff.1 hj).1 hj
/-- the code of garments each of which has to be a load -/
noncomputable def codeAlone (r : Nat → Int) (gs : List Gar) (hold : Int) (fine : Bool) : Nat := if codeAsk r gs fine = 0 then (if lightB gs hold = true then 0 else 6) else codeAsk r gs fine
theorem codeAlone_le (r : Nat → Int) (gs : List Gar) (hold : Int) (fine : Bool) : codeAlone r gs hold fine ≤ 6 := by
  have := codeAsk_le r gs fine
  unfold codeAlone
  split
  · split <;> omega
  · omega
theorem codeAlone_zero {r : Nat → Int} {gs : List Gar} {hold : Int} {fine : Bool} (h : 0 = codeAlone r gs hold fine) : 0 = codeAsk r gs fine ∧ lightB gs hold = true := by
  unfold codeAlone at h
  split at h
  · rename_i h0
    split at h
    · rename_i h1
      exact ⟨h0.symm, h1⟩
    · omega
  · omega
set_option maxRecDepth 100000 in
set_option maxHeartbeats 8000000 in
theorem l01Alone_any (r : Nat → Int) (hr : Six r) (hold : Int) (A : Option Addr) (n c : Nat) (gs : List Gar) (hn : n = gs.length) (hs : n ≤ 1048576) (fine : Bool) (w : World) (hg : GS w w.heap.size A gs) (fh : Bool) (hfh : decide (1 ≤ hold ∧ hold ≤ 20000) = fh) (code : Nat) (hcode : code = codeAlone r gs hold (fh && fine)) :
    Calls Tryd.prog 72 #[rulesV r, .int .i64 hold, .slice A n c, .bool fine] w fun o w' => o = .returned (.int .i64 code) ∧ Below w.heap.size w w' := by
  obtain ⟨k0, hk0⟩ : ∃ k, k = codeAsk r gs (fh && fine) := ⟨_, rfl⟩
  have Hn := Lib.hid hn
  have HFH := Lib.hid hfh
  have HK := Lib.hid hk0
  have HC0 : Hid (k0 = 0 → lightB gs hold = true → code = 0) := Lib.hid fun h1 h2 => by rw [hcode, codeAlone, ← hk0, if_pos h1, if_pos h2]
  have HC6 : Hid (k0 = 0 → lightB gs hold = false → code = 6) := Lib.hid fun h1 h2 => by rw [hcode, codeAlone, ← hk0, if_pos h1, h2]; rfl
  have HCn : Hid (k0 ≠ 0 → code = k0) := Lib.hid fun h1 => by rw [hcode, codeAlone, ← hk0, if_neg h1]
  clear hn hfh hk0 hcode
  have S0 : Hid (LS r w (w.alloc (.cells (rulesCs r) 26))) := Lib.hid ⟨SixAt.new r w 26, by simp, (Below.refl w.heap.size w).alloc (Nat.le_refl _) _⟩
  obtain ⟨⟨s0, s1, s2, s3, s4, s5⟩, _, _⟩ := S0.out
  have key : ∀ u, LS r w u → GS u u.heap.size A gs := fun u h => (hg.below h.2.2).more h.2.2.size
  cases fh with
  | true =>
    go_enter Tryd.func72, Tryd.ntmps72
    go_wp2_with fail
    go_region_held3 (fun u => LS r w u)
      (first | assumption | exact S0.out | exact S0.out.next (below_drewN _ _ 1) | exact LS.next (by assumption) hb2)
      (first
        | (go_at_call 62; refine (l01Hold_is hold _ true HFH.out).mono ?_; rintro o w2 ⟨rfl, rfl⟩)
        | (go_at_call 61; refine (l01Asked_any r hr A n c gs Hn.out hs fine _ (key _ (by assumption)) k0 HK.out).mono ?_; rintro o w2 ⟨rfl, hb2⟩)
        | fail)
    all_goals
      rename_i hS
      have HS := Lib.hid hS
      clear hS s0 s1 s2 s3 s4 s5
      by_cases hk : k0 = 0
      · have HL0 := Lib.hid (HC0.out hk)
        have HL6 := Lib.hid (HC6.out hk)
        clear HC0 HC6 HCn
        subst hk
        go_wp2_with fail
        obtain ⟨wz, rfl⟩ : ∃ wz, wz = w2 := ⟨w2, rfl⟩
        go_loopw [9, 10] (fun vc vi wr => ∃ i : Nat, i ≤ n ∧ vi = .int .i64 i ∧ wr = wz ∧ ((vc = .int .i64 0 ∧ ∀ j x, j < i → gs[j]? = some x → x.g ≤ hold) ∨ (vc = .int .i64 6 ∧ lightB gs hold = false))) (fun _ vi _ => n - (intOf vi).toNat)
        case atStart => exact ⟨0, by omega, rfl, rfl, .inl ⟨rfl, fun j x hj => absurd hj (by omega)⟩⟩
        case round =>
          obtain ⟨i, hi, rfl, rfl, ⟨rfl, hq⟩ | ⟨rfl, hq⟩⟩ := hrel
          · have HQ := Lib.hid hq
            clear hq
            by_cases hlt : i < n
            · obtain ⟨x, hx⟩ : ∃ x, gs[i]? = some x := ⟨gs[i]'(by have := Hn.out; omega), List.getElem?_eq_getElem _⟩
              obtain ⟨a, rfl, hab, q0, q1, q2, q3⟩ := (hg.below HS.out.2.2).at_ i x hx
              have hxf := hg.fits x (List.mem_of_getElem? hx)
              have g0 := hxf.g0
              have g1 := hxf.g1
              have hw : IntKind.i64.wrap x.g = x.g := IntWalk.i64_in _ (by omega)
              have HX := Lib.hid hx
              clear hx
              by_cases hxh : hold < x.g
              · have HN := Lib.hid (light_no HX.out hxh)
                go_wp2_with fail
                go_roundw
                case rel => exact ⟨i + 1, by omega, by go_num, by trivial, .inr ⟨rfl, HN.out⟩⟩
                case measure => simp [intOf]; omega
              · have HXH : Hid (x.g ≤ hold) := Lib.hid (by omega)
                go_wp2_with fail
                go_roundw
                case rel => exact ⟨i + 1, by omega, by go_num, by trivial, .inl ⟨rfl, fun j y hj hy => by
                  rcases Nat.lt_or_ge j i with h1 | h1
                  · exact HQ.out j y h1 hy
                  · obtain rfl : j = i := by omega
                    have e := HX.out
                    rw [hy] at e
                    rw [Option.some.inj e]
                    exact HXH.out⟩⟩
                case measure => simp [intOf]; omega
            · obtain rfl : i = n := by omega
              have e1 : code = 0 := HL0.out (light_yes fun j x hj hx => HQ.out j x (by have := Hn.out; omega) hx)
              subst e1
              go_wp2_with fail
              go_ret
              exact ⟨rfl, HS.out.2.2⟩
          · have e1 : code = 6 := HL6.out hq
            subst e1
            clear hq
            by_cases hlt : i < n
            · go_wp2_with fail
              go_ret
              exact ⟨rfl, HS.out.2.2⟩
            · go_wp2_with fail
              go_ret
              exact ⟨rfl, HS.out.2.2⟩
      · have e1 : code = k0 := HCn.out hk
        clear HC0 HC6 HCn
        subst e1
        have hne : ((code : Int) != 0) = true := by rw [bne_iff_ne]; omega
        have hne3 : ((code : Int) == 0) = false := by rw [beq_eq_false_iff_ne]; omega
        go_wp2_with fail
        go_loopw [9, 10] (fun vc vi wr => vc = .int .i64 code ∧ vi = .int .i64 0 ∧ wr = w2) (fun _ _ _ => 0)
        case atStart => exact ⟨rfl, rfl, rfl⟩
        case round =>
          obtain ⟨rfl, rfl, rfl⟩ := hrel
          by_cases hlt : 0 < n
          · go_wp2_with fail
            go_ret
            exact ⟨rfl, HS.out.2.2⟩
          · go_wp2_with fail
            go_ret
            exact ⟨rfl, HS.out.2.2⟩
  | false =>
    go_enter Tryd.func72, Tryd.ntmps72
    go_wp2_with fail
    refine wp_region_held_drew (S := fun u => LS r w u) (by kernel_rfl) (S0.out.next (below_drewN _ _ 1)) (fun hHeld => ?_)
    refine wpAnyH_take (i := 0) (v := ?_) rfl (by kernel_rfl) (by kernel_rfl) (by kernel_rfl) (fun _ _ _ h => h) (Or.inl ⟨by rfl, ?_⟩) (by assumption) ?_
    rotate_left
    · intro u hSu
      (try dsimp only at hSu)
      first | (go_simp; done) | (go_simp; with_reducible rfl)
    try simp only [Act.put, List.setIfInBounds_toArray, List.set_cons_zero, List.set_cons_succ]
    refine wpAnyH_take (i := 1) (v := ?_) rfl (by kernel_rfl) (by kernel_rfl) (by kernel_rfl) (fun _ _ _ h => h) (Or.inl ⟨by rfl, ?_⟩) (by assumption) ?_
    rotate_left
    · intro u hSu
      (try dsimp only at hSu)
      first | (go_simp; done) | (go_simp; with_reducible rfl)
    try simp only [Act.put, List.setIfInBounds_toArray, List.set_cons_zero, List.set_cons_succ]
    refine wpAnyH_take (i := 2) (v := ?_) rfl (by kernel_rfl) (by kernel_rfl) (by kernel_rfl) (fun _ _ _ h => h) (Or.inl ⟨by rfl, ?_⟩) (by assumption) ?_
    rotate_left
    · intro u hSu
      (try dsimp only at hSu)
      first | (go_simp; done) | (go_simp; with_reducible rfl)
    try simp only [Act.put, List.setIfInBounds_toArray, List.set_cons_zero, List.set_cons_succ]
    refine wpAnyH_ready (rs := [3]) (by kernel_rfl) (by simp) ?_
    refine AllReadyH.cons rfl (fun K hK => ?_) AllReadyH.nil
    go_simp
    refine (l01Hold_is hold _ false HFH.out).mono ?_
    rintro o w2 ⟨rfl, rfl⟩
    refine hK.out _ _ (hHeld) (fun hHeld2 => ?_)
    clear hK K hHeld
    have hHeld := hHeld2
    clear hHeld2
    try simp only [Act.put, List.setIfInBounds_toArray, List.set_cons_zero, List.set_cons_succ]
    refine wpAnyH_take (i := 4) (v := ?_) rfl (by kernel_rfl) (by kernel_rfl) (by kernel_rfl) (fun _ _ _ h => h) (Or.inl ⟨by rfl, ?_⟩) (by assumption) ?_
    rotate_left
    · intro u hSu
      (try dsimp only at hSu)
      first | (go_simp; done) | (go_simp; with_reducible rfl)
    try simp only [Act.put, List.setIfInBounds_toArray, List.set_cons_zero, List.set_cons_succ]
    refine wpAnyH_take (i := 5) (v := undef) rfl (by kernel_rfl) (by kernel_rfl) (by kernel_rfl) (fun _ _ _ h => h) (Or.inr ⟨by rfl, rfl⟩) (by assumption) ?_
    try simp only [Act.put, List.setIfInBounds_toArray, List.set_cons_zero, List.set_cons_succ]
    refine wpAnyH_take (i := 6) (v := ?_) rfl (by kernel_rfl) (by kernel_rfl) (by kernel_rfl) (fun _ _ _ h => h) (Or.inl ⟨by rfl, ?_⟩) (by assumption) ?_
    rotate_left
    · intro u hSu
      (try dsimp only at hSu)
      first | (go_simp; done) | (go_simp; with_reducible rfl)
    try simp only [Act.put, List.setIfInBounds_toArray, List.set_cons_zero, List.set_cons_succ]
    refine wpAnyH_ready (rs := [7]) (by kernel_rfl) (by simp) ?_
    refine AllReadyH.cons rfl (fun K hK => ?_) AllReadyH.nil
    go_simp
    refine (l01Asked_any r hr A n c gs Hn.out hs false _ (key _ hHeld) k0 HK.out).mono ?_
    rintro o w2 ⟨rfl, hb2⟩
    refine hK.out _ _ (hHeld.next hb2) (fun hHeld2 => ?_)
    clear hK K hHeld
    have hHeld := hHeld2
    clear hHeld2
    try simp only [Act.put, List.setIfInBounds_toArray, List.set_cons_zero, List.set_cons_succ]
    refine wpAnyH_take (i := 8) (v := ?_) rfl (by kernel_rfl) (by kernel_rfl) (by kernel_rfl) (fun _ _ _ h => h) (Or.inl ⟨by rfl, ?_⟩) (by assumption) ?_
    rotate_left
    · intro u hSu
      (try dsimp only at hSu)
      first | (go_simp; done) | (go_simp; with_reducible rfl)
    try simp only [Act.put, List.setIfInBounds_toArray, List.set_cons_zero, List.set_cons_succ]
    refine wpAnyH_done (by kernel_rfl) ?_ _
    have hS := hHeld
    clear hHeld
    have HS := Lib.hid hS
    clear hS s0 s1 s2 s3 s4 s5
    by_cases hk : k0 = 0
    · have HL0 := Lib.hid (HC0.out hk)
      have HL6 := Lib.hid (HC6.out hk)
      clear HC0 HC6 HCn
      subst hk
      go_wp2_with fail
      obtain ⟨wz, rfl⟩ : ∃ wz, wz = w2 := ⟨w2, rfl⟩
      go_loopw [9, 10] (fun vc vi wr => ∃ i : Nat, i ≤ n ∧ vi = .int .i64 i ∧ wr = wz ∧ ((vc = .int .i64 0 ∧ ∀ j x, j < i → gs[j]? = some x → x.g ≤ hold) ∨ (vc = .int .i64 6 ∧ lightB gs hold = false))) (fun _ vi _ => n - (intOf vi).toNat)
      case atStart => exact ⟨0, by omega, rfl, rfl, .inl ⟨rfl, fun j x hj => absurd hj (by omega)⟩⟩
      case round =>
        obtain ⟨i, hi, rfl, rfl, ⟨rfl, hq⟩ | ⟨rfl, hq⟩⟩ := hrel
        · have HQ := Lib.hid hq
          clear hq
          by_cases hlt : i < n
          · obtain ⟨x, hx⟩ : ∃ x, gs[i]? = some x := ⟨gs[i]'(by have := Hn.out; omega), List.getElem?_eq_getElem _⟩
            obtain ⟨a, rfl, hab, q0, q1, q2, q3⟩ := (hg.below HS.out.2.2).at_ i x hx
            have hxf := hg.fits x (List.mem_of_getElem? hx)
            have g0 := hxf.g0
            have g1 := hxf.g1
            have hw : IntKind.i64.wrap x.g = x.g := IntWalk.i64_in _ (by omega)
            have HX := Lib.hid hx
            clear hx
            by_cases hxh : hold < x.g
            · have HN := Lib.hid (light_no HX.out hxh)
              go_wp2_with fail
              go_roundw
              case rel => exact ⟨i + 1, by omega, by go_num, by trivial, .inr ⟨rfl, HN.out⟩⟩
              case measure => simp [intOf]; omega
            · have HXH : Hid (x.g ≤ hold) := Lib.hid (by omega)
              go_wp2_with fail
              go_roundw
              case rel => exact ⟨i + 1, by omega, by go_num, by trivial, .inl ⟨rfl, fun j y hj hy => by
                rcases Nat.lt_or_ge j i with h1 | h1
                · exact HQ.out j y h1 hy
                · obtain rfl : j = i := by omega
                  have e := HX.out
                  rw [hy] at e
                  rw [Option.some.inj e]
                  exact HXH.out⟩⟩
              case measure => simp [intOf]; omega
          · obtain rfl : i = n := by omega
            have e1 : code = 0 := HL0.out (light_yes fun j x hj hx => HQ.out j x (by have := Hn.out; omega) hx)
            subst e1
            go_wp2_with fail
            go_ret
            exact ⟨rfl, HS.out.2.2⟩
        · have e1 : code = 6 := HL6.out hq
          subst e1
          clear hq
          by_cases hlt : i < n
          · go_wp2_with fail
            go_ret
            exact ⟨rfl, HS.out.2.2⟩
          · go_wp2_with fail
            go_ret
            exact ⟨rfl, HS.out.2.2⟩
    · have e1 : code = k0 := HCn.out hk
      clear HC0 HC6 HCn
      subst e1
      have hne : ((code : Int) != 0) = true := by rw [bne_iff_ne]; omega
      have hne3 : ((code : Int) == 0) = false := by rw [beq_eq_false_iff_ne]; omega
      go_wp2_with fail
      go_loopw [9, 10] (fun vc vi wr => vc = .int .i64 code ∧ vi = .int .i64 0 ∧ wr = w2) (fun _ _ _ => 0)
      case atStart => exact ⟨rfl, rfl, rfl⟩
      case round =>
        obtain ⟨rfl, rfl, rfl⟩ := hrel
        by_cases hlt : 0 < n
        · go_wp2_with fail
          go_ret
          exact ⟨rfl, HS.out.2.2⟩
        · go_wp2_with fail
          go_ret
          exact ⟨rfl, HS.out.2.2⟩
theorem checkAlone_any (hold : Int) (A : Option Addr) (n c : Nat) (gs : List Gar) (en : n = gs.length) (hs : n ≤ 1048576) {w : World} {B : Nat} {e : Nat → Addr} (h : Errs w B e) (hB : B ≤ w.heap.size) (hg : GS w w.heap.size A gs) (k : Nat) (hk : k = if lightB gs hold = true then 0 else 6) :
    Calls Tryd.prog 76 #[.int .i64 hold, .slice A n c] w fun o w' => o = .returned (errOf e k) ∧ Below w.heap.size w w' := by
  have En := Lib.hid en
  have HK := Lib.hid hk
  clear en hk
  go_enter Tryd.func76, Tryd.ntmps76
  go_wp2_with fail
  go_loopw [9] (fun vi wr => ∃ i : Nat, i ≤ n ∧ vi = .int .i64 i ∧ (∀ j x, j < i → gs[j]? = some x → x.g ≤ hold) ∧ Below w.heap.size w wr) (fun vi _ => n - (intOf vi).toNat)
  case atStart => exact ⟨0, by omega, rfl, fun j x hj => absurd hj (by omega), Below.refl _ _⟩
  case round =>
    obtain ⟨i, hi, rfl, hq, hb⟩ := hrel
    have HQ := Lib.hid hq
    have HB := Lib.hid hb
    clear hq
    by_cases hlt : i < n
    · obtain ⟨x, hx⟩ : ∃ x, gs[i]? = some x := ⟨gs[i]'(by have := En.out; omega), List.getElem?_eq_getElem _⟩
      obtain ⟨a, rfl, hab, q0, q1, q2, q3⟩ := (hg.below hb).at_ i x hx
      have hxf := hg.fits x (List.mem_of_getElem? hx)
      have g0 := hxf.g0
      have g1 := hxf.g1
      have hw : IntKind.i64.wrap x.g = x.g := IntWalk.i64_in _ (by omega)
      obtain ⟨c0, c1, c2, c3, c4, c5, c6, _⟩ := h.below ((hb.alloc hb.size (.cells #[.int .u8 x.c, .int .i8 x.n, .int .i8 x.m, .int .i16 x.g] 96)).mono hB)
      have HX := Lib.hid hx
      clear hx hb
      by_cases hxh : hold < x.g
      · have e1 : k = 6 := by rw [HK.out, light_no HX.out hxh]; rfl
        subst e1
        go_wp2_with fail
        go_ret
        exact ⟨rfl, HB.out.alloc HB.out.size _⟩
      · have HXH : Hid (x.g ≤ hold) := Lib.hid (by omega)
        go_wp2_with fail
        go_roundw
        case rel => exact ⟨i + 1, by omega, by go_num, fun j y hj hy => by
          rcases Nat.lt_or_ge j i with h1 | h1
          · exact HQ.out j y h1 hy
          · obtain rfl : j = i := by omega
            have e := HX.out
            rw [hy] at e
            rw [Option.some.inj e]
            exact HXH.out, HB.out.alloc HB.out.size _⟩
        case measure => simp [intOf]; omega
    · obtain rfl : i = n := by omega
      have e1 : k = 0 := by rw [HK.out, light_yes fun j x hj hx => HQ.out j x (by have := En.out; omega) hx]; rfl
      subst e1
      clear hb
      go_wp2_with fail
      go_ret
      exact ⟨rfl, HB.out⟩
end Go.Proofs.YtekigapeekjigaaDoor.mem

/-
  Lists of garments, marked with rising numbers.
-/
namespace Go.Proofs.YtekigapeekjigaaDoor.garS
open Go Go.RowKit sl

/-- a block that holds garments is a row of the call's own -/
theorem Part.owns {w : World} {g n k : Nat} {gs : List Gar} {cs : Array Value} (h : Part w g n gs k cs) (base : Nat) (hb : base ≤ g) (hn : n ≤ 1048576) : w.ownsRow base 96 4 (.slice (some ⟨g, 0, none⟩) n n) n cs.toList := by
  have hs := h.size
  exact ⟨by simpa using hs, .inr ⟨g, n, cs, rfl, hb, h.heap, Nat.le_refl _, by unfold maxLen; omega, hs, by rw [List.take_of_length_le]; simpa using Nat.le_of_eq hs⟩⟩
theorem Part.other {w w' : World} {g n k : Nat} {gs : List Gar} {cs : Array Value} (h : Part w g n gs k cs) {g2 : Nat} (hg : w.grownBy w' (some g2)) (hne : g ≠ g2) : Part w' g n gs k cs :=
  ⟨(hg.block g h.lt (fun e => hne (Option.some.inj e))).trans h.heap, h.size, h.at_⟩
set_option maxRecDepth 100000 in
set_option maxHeartbeats 4000000 in
theorem markS_row (base g n c : Nat) (k0 : Int) (hk : 0 ≤ k0 ∧ k0 ≤ 1000000000000) (hn : n ≤ 1048576) (L : List Value) (w : World) (hP : w.ownsRow base 96 4 (.slice (some ⟨g, 0, none⟩) n c) n L) :
    Calls Tryd.prog 30 #[.slice (some ⟨g, 0, none⟩) n c, .int .i64 k0] w fun e w' => e = .returned (.int .i64 (k0 + 4 * n)) ∧ w.grownBy w' (some g) := by
  have HP0 := Lib.hid hP
  clear hP
  go_enter Tryd.func30, Tryd.ntmps30
  go_wp2_with fail
  go_loopw [1, 5] (fun vk vi wr => ∃ k L, k ≤ n ∧ vi = .int .i64 (k : Nat) ∧ vk = .int .i64 (k0 + 4 * k) ∧ wr.ownsRow base 96 4 (.slice (some ⟨g, 0, none⟩) n c) n L ∧ w.grownBy wr (some g)) (fun _ vi _ => n - (intOf vi).toNat)
  case atStart => exact ⟨0, _, by omega, rfl, by simp, HP0.out, ⟨rfl, rfl, rfl, Nat.le_refl _, fun _ _ _ => rfl⟩⟩
  case round =>
    obtain ⟨k, L, hk', rfl, rfl, hP, hB⟩ := hrel
    by_cases hlt : k < n
    · have hLL := hP.1
      obtain ⟨v0, s0⟩ : ∃ v, wr.cell? ⟨g, k * 4, none⟩ = some v := ⟨L[k * 4]'(by omega), (hP.cellAt (k * 4) (by omega)).trans (List.getElem?_eq_getElem _)⟩
      obtain ⟨v1, s1⟩ : ∃ v, wr.cell? ⟨g, k * 4 + 1, none⟩ = some v := ⟨L[k * 4 + 1]'(by omega), (hP.cellAt (k * 4 + 1) (by omega)).trans (List.getElem?_eq_getElem _)⟩
      obtain ⟨v2, s2⟩ : ∃ v, wr.cell? ⟨g, k * 4 + 2, none⟩ = some v := ⟨L[k * 4 + 2]'(by omega), (hP.cellAt (k * 4 + 2) (by omega)).trans (List.getElem?_eq_getElem _)⟩
      obtain ⟨v3, s3⟩ : ∃ v, wr.cell? ⟨g, k * 4 + 3, none⟩ = some v := ⟨L[k * 4 + 3]'(by omega), (hP.cellAt (k * 4 + 3) (by omega)).trans (List.getElem?_eq_getElem _)⟩
      have f0 := hP.frozenAt (k * 4)
      have f1 := hP.frozenAt (k * 4 + 1)
      have f2 := hP.frozenAt (k * 4 + 2)
      have f3 := hP.frozenAt (k * 4 + 3)
      have HP := Lib.hid hP
      have HB := Lib.hid hB
      clear hLL hP hB
      go_wp2_with fail
      go_roundw
      case rel =>
        have hP3 := owns_cells (o := k * 4) (vs := [.int .u8 (IntKind.u8.wrap (k0 + 4 * (k : Int))), .int .i8 (IntKind.i8.wrap (k0 + 4 * (k : Int) + 1)), .int .i8 (IntKind.i8.wrap (k0 + 4 * (k : Int) + 1 + 1)), .int .i16 (IntKind.i16.wrap (k0 + 4 * (k : Int) + 1 + 1 + 1))]) HP.out
        have g2 := hP3.2
        have hB := HB.out
        have e1 : k0 + 4 * (k : Int) + 1 + 1 + 1 + 1 = k0 + 4 * ((k + 1 : Nat) : Int) := by omega
        exact ⟨k + 1, _, by omega, by go_num, by rw [e1], hP3.1, ⟨g2.os.trans hB.os, g2.tape.trans hB.tape, g2.output.trans hB.output, Nat.le_trans hB.size g2.size, fun i hi hne => (g2.block i (Nat.lt_of_lt_of_le hi hB.size) hne).trans (hB.block i hi hne)⟩⟩
      case measure => simp [intOf]; omega
    · go_wp2_with fail
      obtain rfl : k = n := by omega
      go_ret
      exact ⟨rfl, hB⟩
end Go.Proofs.YtekigapeekjigaaDoor.garS
