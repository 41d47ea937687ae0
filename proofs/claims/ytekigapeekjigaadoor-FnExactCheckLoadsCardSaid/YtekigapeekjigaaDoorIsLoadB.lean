/-
  A basket: is a set of its garments a load.
-/
import Derived.Test.YtekigapeekjigaaDoorBasket
namespace Go.Proofs.YtekigapeekjigaaDoor.mem
open Go Go.RowKit Go.Shelf errs garS
attribute [local go_sem] Oper.semAt_some

/-- what of a set may not be with garment i -/
abbrev offB (m : Nat → Int) (set i : Nat) : Int := bits BinOp.andNot IntKind.u8 (set : Int) (m i)
def isLoadB (gs : List Gar) (m : Nat → Int) (hold : Int) (set : Nat) : Bool := (memb set).all (fun i => offB m set i == 0) && (set != 0 && decide (wSum gs (memb set) ≤ hold))
/-- the ten cells of a basket lie at block b -/
structure Bask (W : World) (b : Nat) (A : Option Addr) (n c : Nat) (m : Nat → Int) (hold : Int) : Prop where
  s : W.cell? ⟨b, 0, none⟩ = some (.slice A n c)
  m : ∀ j, j < 8 → W.cell? ⟨b, 1 + j, none⟩ = some (.int .u8 (m j))
  h : W.cell? ⟨b, 9, none⟩ = some (.int .i64 hold)
theorem Bask.keep {W V : World} {b : Nat} {A : Option Addr} {n c : Nat} {m : Nat → Int} {hold : Int} (h : Bask W b A n c m hold) (hk : ∀ j v, W.cell? ⟨b, j, none⟩ = some v → V.cell? ⟨b, j, none⟩ = some v) : Bask V b A n c m hold :=
  ⟨hk _ _ h.s, fun j hj => hk _ _ (h.m j hj), hk _ _ h.h⟩
theorem bC_m (A : Option Addr) (n c : Nat) (m : Nat → Int) (hold : Int) : ∀ j, j < 8 → (bC A n c m hold)[1 + j]? = some (.int .u8 (m j))
  | 0, _ => rfl
  | 1, _ => rfl
  | 2, _ => rfl
  | 3, _ => rfl
  | 4, _ => rfl
  | 5, _ => rfl
  | 6, _ => rfl
  | 7, _ => rfl

theorem heap4 (w : World) (a b c d : Obj) : ((((w.alloc a).alloc b).alloc c).alloc d).heap[w.heap.size]? = some a ∧ ((((w.alloc a).alloc b).alloc c).alloc d).heap[w.heap.size + 1]? = some b ∧
    ((((w.alloc a).alloc b).alloc c).alloc d).heap[w.heap.size + 1 + 1]? = some c ∧ ((((w.alloc a).alloc b).alloc c).alloc d).heap[w.heap.size + 1 + 1 + 1]? = some d ∧
    ((((w.alloc a).alloc b).alloc c).alloc d).heap.size = w.heap.size + 4 ∧ Below w.heap.size w ((((w.alloc a).alloc b).alloc c).alloc d) := by
  have e1 : (w.alloc a).heap.size = w.heap.size + 1 := by simp
  have e2 : ((w.alloc a).alloc b).heap.size = w.heap.size + 1 + 1 := by simp
  have e3 : (((w.alloc a).alloc b).alloc c).heap.size = w.heap.size + 1 + 1 + 1 := by simp
  have h1 := heap_alloc_new (w.alloc a) b
  have h2 := heap_alloc_new ((w.alloc a).alloc b) c
  have h3 := heap_alloc_new (((w.alloc a).alloc b).alloc c) d
  rw [e1] at h1
  rw [e2] at h2
  rw [e3] at h3
  refine ⟨?_, ?_, ?_, h3, by simp, ?_⟩
  · exact (heap_alloc_old _ _ _ (by omega)).trans ((heap_alloc_old _ _ _ (by omega)).trans ((heap_alloc_old _ _ _ (by omega)).trans (heap_alloc_new w a)))
  · exact (heap_alloc_old _ _ _ (by omega)).trans ((heap_alloc_old _ _ _ (by omega)).trans h1)
  · exact (heap_alloc_old _ _ _ (by omega)).trans h2
  · exact ((((Below.refl _ w).alloc (Nat.le_refl _) _).alloc (by simp) _).alloc (by simp; omega) _).alloc (by simp; omega) _
theorem isSome_setCell {u : World} {b o : Nat} {v : Value} (h : ((u.setCell ⟨b, o, none⟩ v).cell? ⟨b, o, none⟩).isSome = true) : (u.cell? ⟨b, o, none⟩).isSome = true := by
  simp only [World.setCell, World.cell?, Array.getElem?_modify, ↓reduceIte] at h ⊢
  cases e : u.heap[b]? with
  | none => rw [e] at h; simp at h
  | some x =>
    rw [e] at h
    cases x with
    | cells c t f =>
      simp only [Option.map_some, Option.isSome_none, Bool.false_eq_true, ↓reduceIte] at h ⊢
      by_cases ho : o < c.size
      · simp [ho]
      · simp [ho] at h
    | _ => simp at h
/-- what a cell holds -/
def valAt (u : World) (p : Addr) : Value := (u.cell? p).getD undef
theorem valAt_some {u : World} {p : Addr} (h : (u.cell? p).isSome = true) : u.cell? p = some (valAt u p) := by
  unfold valAt
  cases e : u.cell? p with
  | none => rw [e] at h; cases h
  | some v => rfl
/-- what holds while the last line of isLoad runs -/
abbrev BS (w : World) (A : Option Addr) (n c : Nat) (m : Nat → Int) (hold : Int) (set D : Nat) (u : World) : Prop := u.cell? ⟨w.heap.size, 0, none⟩ = some (.slice A n c) ∧ u.cell? ⟨w.heap.size, 1, none⟩ = some (.int .u8 (m 0)) ∧ u.cell? ⟨w.heap.size, 2, none⟩ = some (.int .u8 (m 1)) ∧ u.cell? ⟨w.heap.size, 3, none⟩ = some (.int .u8 (m 2)) ∧ u.cell? ⟨w.heap.size, 4, none⟩ = some (.int .u8 (m 3)) ∧ u.cell? ⟨w.heap.size, 5, none⟩ = some (.int .u8 (m 4)) ∧ u.cell? ⟨w.heap.size, 6, none⟩ = some (.int .u8 (m 5)) ∧ u.cell? ⟨w.heap.size, 7, none⟩ = some (.int .u8 (m 6)) ∧ u.cell? ⟨w.heap.size, 8, none⟩ = some (.int .u8 (m 7)) ∧ u.cell? ⟨w.heap.size, 9, none⟩ = some (.int .i64 hold) ∧ u.cell? ⟨w.heap.size + 1, 0, none⟩ = some (.int .u8 set) ∧ u.cell? ⟨w.heap.size + 1 + 1, 0, none⟩ = some (valAt u ⟨w.heap.size + 1 + 1, 0, none⟩) ∧ u.frozen? ⟨w.heap.size + 1 + 1, 0, none⟩ = false ∧ Below w.heap.size w u ∧ w.heap.size + 1 + 1 < u.heap.size ∧ u.heap[D]? = some (.deferred (some []))
theorem BS.keep {w : World} {A : Option Addr} {n c : Nat} {m : Nat → Int} {hold : Int} {set D : Nat} {u v : World} (h : BS w A n c m hold set D u) (hk : ∀ (p : Addr) (x : Value), p.block = w.heap.size ∨ p.block = w.heap.size + 1 → u.cell? p = some x → v.cell? p = some x)
    (hs : (v.cell? ⟨w.heap.size + 1 + 1, 0, none⟩).isSome = true) (hfz : v.frozen? ⟨w.heap.size + 1 + 1, 0, none⟩ = false) (hB : Below w.heap.size w v) (hz : u.heap.size ≤ v.heap.size) (hD : v.heap[D]? = some (.deferred (some []))) : BS w A n c m hold set D v := by
  obtain ⟨c0, c1, c2, c3, c4, c5, c6, c7, c8, c9, k1, _, _, _, z, _⟩ := h
  exact ⟨hk ⟨w.heap.size, 0, none⟩ _ (.inl rfl) c0, hk ⟨w.heap.size, 1, none⟩ _ (.inl rfl) c1, hk ⟨w.heap.size, 2, none⟩ _ (.inl rfl) c2, hk ⟨w.heap.size, 3, none⟩ _ (.inl rfl) c3, hk ⟨w.heap.size, 4, none⟩ _ (.inl rfl) c4, hk ⟨w.heap.size, 5, none⟩ _ (.inl rfl) c5, hk ⟨w.heap.size, 6, none⟩ _ (.inl rfl) c6, hk ⟨w.heap.size, 7, none⟩ _ (.inl rfl) c7, hk ⟨w.heap.size, 8, none⟩ _ (.inl rfl) c8, hk ⟨w.heap.size, 9, none⟩ _ (.inl rfl) c9, hk ⟨w.heap.size + 1, 0, none⟩ _ (.inr rfl) k1, valAt_some hs, hfz, hB, Nat.lt_of_lt_of_le z hz, hD⟩
theorem BS.tail {w : World} {A : Option Addr} {n c : Nat} {m : Nat → Int} {hold : Int} {set D : Nat} {u : World} (h : BS w A n c m hold set D u) : (u.cell? ⟨w.heap.size + 1 + 1, 0, none⟩).isSome = true ∧ Below w.heap.size w u ∧ w.heap.size + 1 + 1 < u.heap.size ∧ u.heap[D]? = some (.deferred (some [])) ∧ u.frozen? ⟨w.heap.size + 1 + 1, 0, none⟩ = false := by
  obtain ⟨_c0, _c1, _c2, _c3, _c4, _c5, _c6, _c7, _c8, _c9, k1, h1, hf, h2, h3, h4⟩ := h
  exact ⟨by rw [h1]; rfl, h2, h3, h4, hf⟩
theorem BS.drewN {w : World} {A : Option Addr} {n c : Nat} {m : Nat → Int} {hold : Int} {set D : Nat} {u : World} (h : BS w A n c m hold set D u) (k : Nat) : BS w A n c m hold set D (u.drewN k) := h.keep (fun _ _ _ h => h) h.tail.1 h.tail.2.2.2.2 (h.tail.2.1.trans (below_drewN _ _ k)) (Nat.le_refl _) h.tail.2.2.2.1
theorem BS.next {w : World} {A : Option Addr} {n c : Nat} {m : Nat → Int} {hold : Int} {set D : Nat} {u v : World} (h : BS w A n c m hold set D u) (hb : Below u.heap.size u v) : BS w A n c m hold set D v := by
  obtain ⟨t1, t2, t3, t4, t5⟩ := h.tail
  have hDu : D < u.heap.size := (Array.getElem?_eq_some_iff.1 t4).1
  refine h.keep (fun p x hp hx => (hb.cell (p := p) (by omega)).trans hx) ?_ ?_ (t2.trans (hb.mono t2.size)) hb.size ((hb.block D hDu).trans t4)
  · rw [hb.cell (p := ⟨w.heap.size + 1 + 1, 0, none⟩) t3]
    exact t1
  · exact (hb.frozen (p := ⟨w.heap.size + 1 + 1, 0, none⟩) t3).trans t5
theorem BS.store {w : World} {A : Option Addr} {n c : Nat} {m : Nat → Int} {hold : Int} {set D : Nat} {u : World} (h : BS w A n c m hold set D u) (v : Value) : BS w A n c m hold set D (u.setCell ⟨w.heap.size + 1 + 1, 0, none⟩ v) := by
  obtain ⟨t1, t2, t3, t4, t5⟩ := h.tail
  refine h.keep (fun p x hp hx => (World.cell?_setCell_far _ _ _ _ (by show w.heap.size + 1 + 1 ≠ p.block; omega)).trans hx) ?_ (by rw [World.frozen?_setCell]; exact t5) (t2.setCell (p := ⟨w.heap.size + 1 + 1, 0, none⟩) (by show w.heap.size ≤ w.heap.size + 1 + 1; omega) _) (by simp) ((KeepsOthers.setCell _ _ _).same D _ t4 rfl)
  rw [World.cell?_setCell_same' _ _ _ t1]
  rfl

set_option maxRecDepth 100000 in
set_option maxHeartbeats 8000000 in
theorem isLoad_any (A : Option Addr) (n c : Nat) (gs : List Gar) (en : n = gs.length) (hn : n ≤ 1048576) (m : Nat → Int) (hold : Int) (set : Nat) (hset : set < 256) (hin : ∀ i, i < 8 → set.testBit i = true → i < n) (w : World) (hg : GS w w.heap.size A gs) (b : Bool) (hb : isLoadB gs m hold set = b) :
    Calls Tryd.prog 77 #[bV A n c m hold, .int .u8 set] w fun o w' => o = .returned (.bool b) ∧ Below w.heap.size w w' := by
  have En := Lib.hid en
  have HR := Lib.hid hb
  clear en hb
  refine (callsIn_wide (n := 3)).1 ?_
  refine callsIn_of_wp_marks Tryd.func77 rfl trivial ?_ rfl
  simp only [Tryd.ntmps77, List.size_toArray, List.length_cons, List.length_nil, Nat.reduceAdd, Nat.reduceSub, Array.replicate_succ, Array.replicate_zero, List.push_toArray, List.append_toArray, List.nil_append, List.cons_append]
  gi_wp2_with (refine ⟨trivial, ?_⟩; gi_at_call 117; refine (callsIn_wide.2 (members_any (set : Int) _)).mono ?_; rintro e w1 ⟨rfl, rfl⟩)
  have h4 := heap4 w (.cells (bC A n c m hold) 105) (.cells #[.int .u8 set] 5) (.cells #[.bool false] 4) (.cells #[.int .u8 set] 5)
  obtain ⟨W0, hW0⟩ : ∃ W0, W0 = ((((w.alloc (.cells (bC A n c m hold) 105)).alloc (.cells #[.int .u8 set] 5)).alloc (.cells #[.bool false] 4)).alloc (.cells #[.int .u8 set] 5)) := ⟨_, rfl⟩
  rw [← hW0] at h4 ⊢
  obtain ⟨g0, g1, g2, g3, hsz, hB0⟩ := h4
  have hbk0 : Bask W0 w.heap.size A n c m hold := ⟨cell_of_row _ _ _ _ _ _ g0, fun j hj => (cell_of_row _ _ _ _ _ _ g0).trans (bC_m A n c m hold j hj), cell_of_row _ _ _ _ _ _ g0⟩
  have k1 : W0.cell? ⟨w.heap.size + 1, 0, none⟩ = some (.int .u8 set) := cell_of_row _ _ _ _ _ _ g1
  have k2 : W0.cell? ⟨w.heap.size + 1 + 1, 0, none⟩ = some (.bool false) := cell_of_row _ _ _ _ _ _ g2
  have k3 : W0.cell? ⟨w.heap.size + 1 + 1 + 1, 0, none⟩ = some (.int .u8 set) := cell_of_row _ _ _ _ _ _ g3
  have f2 : W0.frozen? ⟨w.heap.size + 1 + 1, 0, none⟩ = false := by
    unfold World.frozen?
    rw [g2]
    rfl
  clear g0 g1 g2 g3 hW0
  refine wpIn_rangeFunc_ownG rfl (by decide) (gf := 133) (lb := #[.pointer (some ⟨w.heap.size + 1 + 1 + 1, 0, none⟩)]) rfl trivial (enters_of Tryd.func133 (by kernel_rfl) rfl)
    (members_stops (3 - 1) (by decide) (w.heap.size + 1 + 1 + 1) w.heap.size set hset W0 (by omega) k3) belowK_t (belowK_b (by omega)) (Below.refl _ _) (fun _ => rfl)
    (fun pre W => ((∀ i ∈ ids pre, offB m set i = 0) ∧ Bask W w.heap.size A n c m hold ∧ W.cell? ⟨w.heap.size + 1, 0, none⟩ = some (.int .u8 set) ∧ W.cell? ⟨w.heap.size + 1 + 1, 0, none⟩ = some (.bool false) ∧ W.frozen? ⟨w.heap.size + 1 + 1, 0, none⟩ = false) ∧ Below w.heap.size w W)
    (fun cc pre W => (cc = .ret ∧ (∃ i ∈ ids pre, offB m set i ≠ 0) ∧ W.cell? ⟨w.heap.size + 1 + 1, 0, none⟩ = some (.bool false)) ∧ Below w.heap.size w W)
    (OwnFrom.and (Own.from (fun s A B row hs hg hr => ⟨hs.1, hs.2.1.keep (fun _ _ h => cell_kept h hg hr), cell_kept hs.2.2.1 hg hr, cell_kept hs.2.2.2.1 hg hr, (frozen_kept hs.2.2.2.1 hg hr).trans hs.2.2.2.2⟩) _) (ownFrom_below (Nat.le_refl _) (by omega)))
    (fun cc => OwnFrom.and (Own.from (fun s A B row hs hg hr => ⟨hs.1, hs.2.1, cell_kept hs.2.2 hg hr⟩) _) (ownFrom_below (Nat.le_refl _) (by omega)))
    ⟨⟨by simp [ids], hbk0, k1, k2, f2⟩, hB0⟩
    (fun x => { tmps := #[bV A n c m hold, .int .u8 set, .pointer (some ⟨w.heap.size, 0, none⟩), .pointer (some ⟨w.heap.size + 1, 0, none⟩), .pointer (some ⟨w.heap.size + 1 + 1, 0, none⟩), .int .i64 (x.1 : Int), .int .u8 set, .func (.func 133) #[] #[.pointer (some ⟨w.heap.size + 1 + 1 + 1, 0, none⟩)], .int .i64 (x.1 : Int), undef, undef, undef, undef, undef, undef, undef, undef, undef, undef, undef, undef, undef, undef, undef, undef, undef], defers := [] }) ?assign ?body ?done ?stop
  case assign =>
    intro l x W K hK
    gi_wp2
    exact hK
  case body =>
    rintro l pre x W ⟨⟨hall, hbk, hs1, hres, hfr⟩, hB⟩ hlen
    obtain ⟨hx8, hxt⟩ := x.2
    have hm := hbk.m x.1 hx8
    have hmx : Tryd.prog.follows .mixedOrders = true := by kernel_rfl
    by_cases hz : bits BinOp.andNot IntKind.u8 (set : Int) (m x.1) = 0
    · have hz2 : (bits BinOp.andNot IntKind.u8 (set : Int) (m x.1) != 0) = false := by rw [hz]; rfl
      have hall2 : ∀ i ∈ ids (pre ++ [x]), offB m set i = 0 := fun i hi => by
        rw [ids_snoc] at hi
        rcases List.mem_append.1 hi with h1 | h1
        · exact hall i h1
        · rw [List.mem_singleton.1 h1]
          exact hz
      have HA := Lib.hid hall2
      clear hall hall2
      gi_wp2
      gi_region_with_o (fail)
      all_goals gi_wp2
      all_goals exact ⟨(KeepsOthers.drew W).from _, (Below.refl _ _).drew, ⟨HA.out, hbk.keep fun _ _ h => h, hs1, hres, hfr⟩, hB.drew⟩
    · have hz2 : (bits BinOp.andNot IntKind.u8 (set : Int) (m x.1) != 0) = true := by rw [bne_iff_ne]; exact hz
      have HA : Hid (∃ i ∈ ids (pre ++ [x]), offB m set i ≠ 0) := Lib.hid ⟨x.1, by rw [ids_snoc]; simp, hz⟩
      gi_wp2
      gi_region_with_o (fail)
      all_goals gi_wp2
      all_goals exact ⟨kf_store _ _ _ _, ⟨rfl, HA.out, World.cell?_setCell_same' _ _ _ (by rw [hres]; rfl)⟩, kb_store hB _ _ (by show w.heap.size ≤ w.heap.size + 1 + 1; omega)⟩
  case done =>
    rintro D ys W hD hys ⟨⟨hall, hbk, hs1, hres, hfr⟩, hB⟩ hK
    have hmx : Tryd.prog.follows .mixedOrders = true := by kernel_rfl
    obtain ⟨c0, c1, c2, c3, c4, c5, c6, c7, c8, c9⟩ : W.cell? ⟨w.heap.size, 0, none⟩ = some (.slice A n c) ∧ W.cell? ⟨w.heap.size, 1, none⟩ = some (.int .u8 (m 0)) ∧ W.cell? ⟨w.heap.size, 2, none⟩ = some (.int .u8 (m 1)) ∧ W.cell? ⟨w.heap.size, 3, none⟩ = some (.int .u8 (m 2)) ∧ W.cell? ⟨w.heap.size, 4, none⟩ = some (.int .u8 (m 3)) ∧ W.cell? ⟨w.heap.size, 5, none⟩ = some (.int .u8 (m 4)) ∧ W.cell? ⟨w.heap.size, 6, none⟩ = some (.int .u8 (m 5)) ∧ W.cell? ⟨w.heap.size, 7, none⟩ = some (.int .u8 (m 6)) ∧ W.cell? ⟨w.heap.size, 8, none⟩ = some (.int .u8 (m 7)) ∧ W.cell? ⟨w.heap.size, 9, none⟩ = some (.int .i64 hold) :=
      ⟨hbk.s, hbk.m 0 (by omega), hbk.m 1 (by omega), hbk.m 2 (by omega), hbk.m 3 (by omega), hbk.m 4 (by omega), hbk.m 5 (by omega), hbk.m 6 (by omega), hbk.m 7 (by omega), hbk.h⟩
    have hDW : D < W.heap.size := (Array.getElem?_eq_some_iff.1 hK).1
    have hall2 : (memb set).all (fun i => offB m set i == 0) = true := by
      rw [List.all_eq_true]
      intro i hi
      rw [← hys] at hi
      simp [hall i hi]
    have HA := Lib.hid hall2
    have HK := Lib.hid hK
    have HBk := Lib.hid hbk
    clear hall hall2 hbk
    have hsz2 := hB0.size
    have hzz : w.heap.size + 1 + 1 < W.heap.size := by omega
    have HG := Lib.hid ((hg.below hB).more hB.size)
    have hfin : ∀ (V : World) (v : Bool), Below W.heap.size W V → (isLoadB gs m hold set = v) → V.cell? ⟨w.heap.size + 1 + 1, 0, none⟩ = some (.bool false) → V.heap[D]? = some (.deferred (some [])) := fun V v hb _ _ => (hb.block D hDW).trans HK.out
    by_cases hz : set = 0
    · have hbf : Hid (b = false) := Lib.hid (by rw [← HR.out, isLoadB, hz]; simp)
      have hz2 : ((set : Int) != 0) = false := by rw [hz]; rfl
      have hz3 : ¬ ((set : Int) != 0) = true := by rw [hz2]; decide
      gi_wp2
      refine wpIn_wide.2 ?_
      go_wp2_with fail
      first | go_region_with ((fail)) | fail
      all_goals gi_wp2
      all_goals
        have hcv : (W.setCell ⟨w.heap.size + 1 + 1, 0, none⟩ (.bool false)).drew.cell? ⟨w.heap.size + 1 + 1, 0, none⟩ = some (.bool false) := World.cell?_setCell_same' W ⟨w.heap.size + 1 + 1, 0, none⟩ (.bool false) (by rw [hres]; rfl)
        have hkv : (W.setCell ⟨w.heap.size + 1 + 1, 0, none⟩ (.bool false)).drew.heap[D]? = some (.deferred (some [])) := (KeepsOthers.setCell W ⟨w.heap.size + 1 + 1, 0, none⟩ (.bool false)).same D _ HK.out rfl
        have hbv : Below w.heap.size w (W.setCell ⟨w.heap.size + 1 + 1, 0, none⟩ (.bool false)).drew := kb_store hB ⟨w.heap.size + 1 + 1, 0, none⟩ _ (by show w.heap.size ≤ w.heap.size + 1 + 1; omega)
        refine ⟨by simp, .inl ⟨_, _, rfl, run_takeDeferred hkv, ?_⟩⟩
        have hc5 := cell_kept hcv (grownBy_putObj' _ D (.deferred none)) (fun r e => by cases e; exact ⟨_, hkv, rfl⟩)
        refine ⟨.bool false, ?_, by rw [hbf.out], hbv.trans (belowK_b (w := w) (Nat.le_refl _) _ D _ _ (by omega) hkv rfl rfl)⟩
        simp [results, Tryd.f77, go_sem, hc5]
    · have hz2 : ((set : Int) != 0) = true := by rw [bne_iff_ne]; omega
      gi_wp2
      refine wpIn_wide.2 ?_
      go_wp2_with fail
      have S0 : Hid (BS w A n c m hold set D W) := Lib.hid ⟨c0, c1, c2, c3, c4, c5, c6, c7, c8, c9, hs1, valAt_some (by rw [hres]; rfl), hfr, hB, hzz, HK.out⟩
      clear c0 c1 c2 c3 c4 c5 c6 c7 c8 c9 hs1 hres hfr hB
      by_cases hle : wSum gs (memb set) ≤ hold
      · have hle2 : decide (wSum gs (memb set) ≤ hold) = true := by simpa using hle
        go_region_held3 (fun u => BS w A n c m hold set D u)
          (first | assumption | exact S0.out | exact S0.out.drewN 1 | exact BS.next (by assumption) hb2 | exact BS.store (by assumption) _)
          (first
            | (go_at_call 87; refine (weightOf_any A n c gs En.out hn m hold set hset hin _ ((hg.below (BS.tail (by assumption)).2.1).more (BS.tail (by assumption)).2.1.size)).mono ?_; rintro o w2 ⟨rfl, hb2⟩)
            | fail)
        have hbf : Hid (b = true) := Lib.hid (by rw [← HR.out, isLoadB, HA.out, hle2]; simpa using hz)
        rename_i hS
        gi_wp2
        obtain ⟨t1, t2, t3, t4, t5⟩ := hS.tail
        have hcv := World.cell?_setCell_same' w2 ⟨w.heap.size + 1 + 1, 0, none⟩ (.bool true) (isSome_setCell t1)
        refine ⟨by simp, .inl ⟨_, _, rfl, run_takeDeferred t4, ?_⟩⟩
        have hc5 := cell_kept hcv (grownBy_putObj' _ D (.deferred none)) (fun r e => by cases e; exact ⟨_, t4, rfl⟩)
        refine ⟨.bool true, ?_, by rw [hbf.out], t2.trans (belowK_b (w := w) (Nat.le_refl _) _ D _ _ (by omega) t4 rfl rfl)⟩
        simp [results, Tryd.f77, go_sem, hc5]
      · have hle2 : decide (wSum gs (memb set) ≤ hold) = false := by simpa using hle
        have hle3 : hold < wSum gs (memb set) := by omega
        go_region_held3 (fun u => BS w A n c m hold set D u)
          (first | assumption | exact S0.out | exact S0.out.drewN 1 | exact BS.next (by assumption) hb2 | exact BS.store (by assumption) _)
          (first
            | (go_at_call 87; refine (weightOf_any A n c gs En.out hn m hold set hset hin _ ((hg.below (BS.tail (by assumption)).2.1).more (BS.tail (by assumption)).2.1.size)).mono ?_; rintro o w2 ⟨rfl, hb2⟩)
            | fail)
        have hbf : Hid (b = false) := Lib.hid (by rw [← HR.out, isLoadB, hle2]; simp)
        rename_i hS
        gi_wp2
        obtain ⟨t1, t2, t3, t4, t5⟩ := hS.tail
        have hcv := World.cell?_setCell_same' w2 ⟨w.heap.size + 1 + 1, 0, none⟩ (.bool false) (isSome_setCell t1)
        refine ⟨by simp, .inl ⟨_, _, rfl, run_takeDeferred t4, ?_⟩⟩
        have hc5 := cell_kept hcv (grownBy_putObj' _ D (.deferred none)) (fun r e => by cases e; exact ⟨_, t4, rfl⟩)
        refine ⟨.bool false, ?_, by rw [hbf.out], t2.trans (belowK_b (w := w) (Nat.le_refl _) _ D _ _ (by omega) t4 rfl rfl)⟩
        simp [results, Tryd.f77, go_sem, hc5]
  case stop =>
    rintro D cc pre W hD hpre ⟨⟨rfl, ⟨i, hi, hio⟩, hres⟩, hB⟩ hK
    gi_wp2
    refine ⟨by simp, .inl ⟨_, _, rfl, run_takeDeferred hK, ?_⟩⟩
    have hc5 := cell_kept hres (grownBy_putObj' _ D (.deferred none)) (fun r e => by cases e; exact ⟨_, hK, rfl⟩)
    have hbf : b = false := by
      rw [← HR.out, isLoadB, Bool.and_eq_false_iff]
      refine .inl ?_
      rw [List.all_eq_false]
      exact ⟨i, hpre.subset hi, by simp [hio]⟩
    refine ⟨.bool false, ?_, by rw [hbf], hB.trans (belowK_b (w := w) (Nat.le_refl _) W D _ _ (by omega) hK rfl rfl)⟩
    simp [results, Tryd.f77, go_sem, hc5]
end Go.Proofs.YtekigapeekjigaaDoor.mem
