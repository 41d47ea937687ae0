/-
  A basket: what the sets of its garments weigh.
-/
import Derived.Test.YtekigapeekjigaaDoorMembers
import Derived.Test.YtekigapeekjigaaDoorMeet
import Derived.RangeFuncBox
namespace Go.Proofs.YtekigapeekjigaaDoor.mem
open Go Go.RowKit Go.Shelf errs garS
attribute [local go_sem] Oper.semAt_some

abbrev eightV (m : Nat → Int) : Value := .agg #[.int .u8 (m 0), .int .u8 (m 1), .int .u8 (m 2), .int .u8 (m 3), .int .u8 (m 4), .int .u8 (m 5), .int .u8 (m 6), .int .u8 (m 7)]
abbrev eightC (m : Nat → Int) : List Value := [.int .u8 (m 0), .int .u8 (m 1), .int .u8 (m 2), .int .u8 (m 3), .int .u8 (m 4), .int .u8 (m 5), .int .u8 (m 6), .int .u8 (m 7)]
/-- a basket -/
abbrev bV (A : Option Addr) (n c : Nat) (m : Nat → Int) (hold : Int) : Value := .agg #[.slice A n c, .int .u8 (m 0), .int .u8 (m 1), .int .u8 (m 2), .int .u8 (m 3), .int .u8 (m 4), .int .u8 (m 5), .int .u8 (m 6), .int .u8 (m 7), .int .i64 hold]
abbrev bC (A : Option Addr) (n c : Nat) (m : Nat → Int) (hold : Int) : Array Value := #[.slice A n c, .int .u8 (m 0), .int .u8 (m 1), .int .u8 (m 2), .int .u8 (m 3), .int .u8 (m 4), .int .u8 (m 5), .int .u8 (m 6), .int .u8 (m 7), .int .i64 hold]
/-- what one garment weighs -/
def wAt (gs : List Gar) (i : Nat) : Int := (gs[i]?.map (·.g)).getD 0
def wSum (gs : List Gar) (is : List Nat) : Int := is.foldl (fun s i => s + wAt gs i) 0
theorem wSum_snoc (gs : List Gar) (is : List Nat) (i : Nat) : wSum gs (is ++ [i]) = wSum gs is + wAt gs i := by simp [wSum]
theorem wSum_bound (gs : List Gar) (hf : ∀ x ∈ gs, x.Fits) (is : List Nat) : -32768 * (is.length : Int) ≤ wSum gs is ∧ wSum gs is ≤ 32768 * (is.length : Int) := by
  suffices h : ∀ (is : List Nat) (s : Int), s - 32768 * (is.length : Int) ≤ is.foldl (fun s i => s + wAt gs i) s ∧ is.foldl (fun s i => s + wAt gs i) s ≤ s + 32768 * (is.length : Int) by
    have := h is 0
    unfold wSum
    omega
  intro is
  induction is with
  | nil => intro s; simp
  | cons i is ih =>
    intro s
    have h1 := ih (s + wAt gs i)
    have h2 : -32768 ≤ wAt gs i ∧ wAt gs i ≤ 32767 := by
      unfold wAt
      cases hx : gs[i]? with
      | none => simp
      | some x =>
        have := hf x (List.mem_of_getElem? hx)
        obtain ⟨_, _, _, _, _, _, g0, g1⟩ := this
        simp
        omega
    have h3 : (((i :: is).length : Nat) : Int) = (is.length : Int) + 1 := by simp
    rw [List.foldl_cons, h3]
    omega

theorem kf_store (B : Nat) (W : World) (p : Addr) (v : Value) : KeepsFrom B W (W.setCell p v).drew := ((KeepsOthers.setCell W p v).trans (KeepsOthers.drew _)).from B
theorem kb_store {B : Nat} {a W : World} (h : Below B a W) (p : Addr) (v : Value) (hp : B ≤ p.block) : Below B a (W.setCell p v).drew := (h.setCell (p := p) hp v).drew
theorem fz_store (W : World) (p q : Addr) (v : Value) (h : W.frozen? q = false) : (W.setCell p v).drew.frozen? q = false := by rw [World.frozen?_drew, World.frozen?_setCell]; exact h
set_option maxRecDepth 100000 in
set_option maxHeartbeats 4000000 in
theorem weightOf_any (A : Option Addr) (n c : Nat) (gs : List Gar) (en : n = gs.length) (hn : n ≤ 1048576) (m : Nat → Int) (hold : Int) (set : Nat) (hset : set < 256) (hin : ∀ i, i < 8 → set.testBit i = true → i < n) (w : World) (hg : GS w w.heap.size A gs) :
    Calls Tryd.prog 87 #[bV A n c m hold, .int .u8 set] w fun o w' => o = .returned (.int .i64 (wSum gs (memb set))) ∧ Below w.heap.size w w' := by
  have En := Lib.hid en
  clear en
  refine (callsIn_wide (n := 3)).1 ?_
  refine callsIn_of_wp_marks Tryd.func87 rfl trivial ?_ rfl
  simp only [Tryd.ntmps87, List.size_toArray, List.length_cons, List.length_nil, Nat.reduceAdd, Nat.reduceSub, Array.replicate_succ, Array.replicate_zero, List.push_toArray, List.append_toArray, List.nil_append, List.cons_append]
  gi_wp2_with (refine ⟨trivial, ?_⟩; gi_at_call 117; refine (callsIn_wide.2 (members_any (set : Int) _)).mono ?_; rintro e w1 ⟨rfl, rfl⟩)
  have hbx : ∀ j, (((w.alloc (.cells (bC A n c m hold) 105)).alloc (.cells #[.int .i64 0] 2)).alloc (.cells #[.int .u8 set] 5)).cell? ⟨w.heap.size, j, none⟩ = (bC A n c m hold)[j]? := fun j => by
    have e1 : (w.alloc (.cells (bC A n c m hold) 105)).heap.size = w.heap.size + 1 := by simp
    have e2 : ((w.alloc (.cells (bC A n c m hold) 105)).alloc (.cells #[.int .i64 0] 2)).heap.size = w.heap.size + 1 + 1 := by simp
    exact cell_of_row _ _ _ _ _ _ ((heap_alloc_old _ _ _ (by rw [e2]; omega)).trans ((heap_alloc_old _ _ _ (by rw [e1]; omega)).trans (heap_alloc_new w _)))
  have bS := Boxed.new (w.alloc (.cells (bC A n c m hold) 105)) 2 (.int .i64 0)
  have bM := Boxed.new ((w.alloc (.cells (bC A n c m hold) 105)).alloc (.cells #[.int .i64 0] 2)) 5 (.int .u8 set)
  rw [World.size_alloc] at bS bM
  rw [World.size_alloc] at bM
  have hB0 : Below w.heap.size w (((w.alloc (.cells (bC A n c m hold) 105)).alloc (.cells #[.int .i64 0] 2)).alloc (.cells #[.int .u8 set] 5)) := (((Below.refl _ w).alloc (Nat.le_refl _) _).alloc (by simp) _).alloc (by simp; omega) _
  refine wpIn_rangeFunc_ownG rfl (by decide) (gf := 133) (lb := #[.pointer (some ⟨w.heap.size + 1 + 1, 0, none⟩)]) rfl trivial (enters_of Tryd.func133 (by kernel_rfl) rfl)
    (members_stops (3 - 1) (by decide) (w.heap.size + 1 + 1) w.heap.size set hset _ (by simp) bM.cell) belowK_t (belowK_b (by simp; omega)) (Below.refl _ _) (fun _ => rfl)
    (fun pre W => ((W.cell? ⟨w.heap.size + 1, 0, none⟩ = some (.int .i64 (wSum gs (ids pre))) ∧ W.frozen? ⟨w.heap.size + 1, 0, none⟩ = false) ∧ W.cell? ⟨w.heap.size, 0, none⟩ = some (.slice A n c)) ∧ Below w.heap.size w W)
    (fun _ _ _ => False)
    (OwnFrom.and (Own.from (fun s A B row hs hg hr => ⟨⟨cell_kept hs.1.1 hg hr, (frozen_kept hs.1.1 hg hr).trans hs.1.2⟩, cell_kept hs.2 hg hr⟩) _) (ownFrom_below (Nat.le_refl _) (by simp; omega)))
    (fun _ _ _ _ _ hs _ _ => hs)
    ⟨⟨⟨(bS.alloc _).cell, (bS.alloc _).frozen⟩, hbx 0⟩, hB0⟩
    (fun x => { tmps := #[bV A n c m hold, .int .u8 set, .pointer (some ⟨w.heap.size, 0, none⟩), undef, .int .i64 0, .pointer (some ⟨w.heap.size + 1, 0, none⟩), .int .i64 (x.1 : Int), .int .u8 set, .func (.func 133) #[] #[.pointer (some ⟨w.heap.size + 1 + 1, 0, none⟩)], .int .i64 (x.1 : Int), undef, undef, undef, undef, undef, undef, undef, undef, undef, undef], defers := [] }) ?assign ?body ?done ?stop
  case assign =>
    intro l x W K hK
    gi_wp2
    exact hK
  case body =>
    rintro l pre x W ⟨⟨⟨hc, hf⟩, hs⟩, hB⟩ hlen
    obtain ⟨hx8, hxt⟩ := x.2
    have hxn := hin x.1 hx8 hxt
    obtain ⟨y, hy⟩ : ∃ y, gs[x.1]? = some y := ⟨gs[x.1]'(by have := En.out; omega), List.getElem?_eq_getElem _⟩
    obtain ⟨a, ea, hab, hat⟩ := (hg.below hB).at_ x.1 y hy
    subst ea
    obtain ⟨_, _, _, q3⟩ := hat
    have hyf := hg.fits y (List.mem_of_getElem? hy)
    have hbd := wSum_bound gs hg.fits (ids pre)
    rw [ids_len] at hbd
    have hg0 := hyf.g0
    have hg1 := hyf.g1
    have hwr : IntKind.i64.wrap (wSum gs (ids pre) + y.g) = wSum gs (ids pre) + y.g := IntWalk.i64_in _ (by omega)
    have hwr2 : IntKind.i64.wrap y.g = y.g := IntWalk.i64_in _ (by omega)
    have hnx : wSum gs (ids (pre ++ [x])) = wSum gs (ids pre) + y.g := by rw [ids_snoc, wSum_snoc, wAt, hy]; rfl
    have hw64 : wrap64 (wSum gs (ids pre) + y.g) = wSum gs (ids pre) + y.g := by unfold wrap64; omega
    have HNX := Lib.hid hnx
    have hmx : Tryd.prog.follows .mixedOrders = true := by kernel_rfl
    clear hnx hy
    gi_wp2
    gi_region_with_o (fail)
    all_goals gi_wp2
    all_goals (try go_bits)
    all_goals exact ⟨kf_store _ _ _ _, kb_store (Below.refl w.heap.size W) _ _ (Nat.le_succ _), ⟨⟨by rw [HNX.out]; exact World.cell?_setCell_same' _ _ _ (by rw [hc]; rfl), fz_store _ _ _ _ hf⟩, (World.cell?_setCell_far _ _ _ _ (by simp)).trans hs⟩, kb_store hB _ _ (Nat.le_succ _)⟩
  case done =>
    rintro D ys W hD hys ⟨⟨⟨hc, _⟩, _⟩, hB⟩ hK
    gi_wp2
    refine ⟨by simp, .inl ⟨_, _, rfl, run_takeDeferred hK, ?_⟩⟩
    exact ⟨_, results_tmp rfl _ _ _, rfl, hB.trans (belowK_b (w := w) (Nat.le_refl _) W D _ _ (by simp at hD; omega) hK rfl rfl)⟩
  case stop =>
    rintro D c pre W _ _ h _
    exact h.elim
end Go.Proofs.YtekigapeekjigaaDoor.mem
