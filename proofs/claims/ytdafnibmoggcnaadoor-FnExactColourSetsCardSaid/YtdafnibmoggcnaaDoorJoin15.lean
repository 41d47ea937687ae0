/-
  Several texts of this proof, joined.
-/
import Derived.Test.YtdafnibmoggcnaaDoorGarm
import Derived.Test.YtdafnibmoggcnaaDoorJoin6
import Derived.WalkKit
import Derived.WalkSpells
import Derived.WalkLawsBesides
import Derived.Lib.Hide
import Derived.Deep.QuietTactic
import Derived.BigQuiet
import Derived.Deep.RegionHeld3
import Derived.Deep.MidRow
import Derived.Test.YtdafnibmoggcnaaDoorRows
import Derived.Test.YtdafnibmoggcnaaDoorSl
import Derived.Test.YtdafnibmoggcnaaDoorWords
/-
  Contracts of the functions on lists of garments: lists are copied, and held against each other.
-/
namespace Go.Proofs.YtdafnibmoggcnaaDoor.garS
open Go.RowKit

/-- a garment's four cells lie at p -/
structure GarAt (w : World) (p : Addr) (x : Gar) : Prop where
  c0 : w.cell? p = some (.int .u8 x.c)
  c1 : w.cell? ⟨p.block, p.off + 1, none⟩ = some (.int .i8 x.n)
  c2 : w.cell? ⟨p.block, p.off + 2, none⟩ = some (.int .i8 x.m)
  c3 : w.cell? ⟨p.block, p.off + 3, none⟩ = some (.int .i16 x.g)

/-- a slice that reads as a list of garments, all below block B -/
structure GS (w : World) (B : Nat) (A : Option Addr) (gs : List Gar) : Prop where
  at_ : ∀ k x, gs[k]? = some x → ∃ a, A = some a ∧ a.block < B ∧ GarAt w (a.add (k * 4)) x
  fits : ∀ x ∈ gs, x.Fits

theorem block_add (a : Addr) (n : Nat) : (a.add n).block = a.block := by unfold Addr.add; split <;> rfl

theorem GarAt.keep {w w' : World} {p : Addr} {x : Gar} (h : GarAt w p x) (hk : ∀ q : Addr, q.block = p.block → w'.cell? q = w.cell? q) : GarAt w' p x :=
  ⟨(hk p rfl).trans h.c0, (hk ⟨p.block, p.off + 1, none⟩ rfl).trans h.c1, (hk ⟨p.block, p.off + 2, none⟩ rfl).trans h.c2, (hk ⟨p.block, p.off + 3, none⟩ rfl).trans h.c3⟩
theorem GS.keep {w w' : World} {B : Nat} {A : Option Addr} {gs : List Gar} (h : GS w B A gs) (hk : ∀ q : Addr, q.block < B → w'.cell? q = w.cell? q) : GS w' B A gs :=
  ⟨fun k x hx => by
    obtain ⟨a, e, hb, hg⟩ := h.at_ k x hx
    exact ⟨a, e, hb, hg.keep fun q hq => hk q (by rw [hq, block_add]; exact hb)⟩, h.fits⟩
theorem GS.below {w w' : World} {B : Nat} {A : Option Addr} {gs : List Gar} (h : GS w B A gs) (hb : Below B w w') : GS w' B A gs := h.keep fun _ hq => hb.cell hq
theorem GS.more {w : World} {B B' : Nat} {A : Option Addr} {gs : List Gar} (h : GS w B A gs) (hB : B ≤ B') : GS w B' A gs :=
  ⟨fun k x hx => by
    obtain ⟨a, e, hb, hg⟩ := h.at_ k x hx
    exact ⟨a, e, Nat.lt_of_lt_of_le hb hB, hg⟩, h.fits⟩

/-- block g holds the first k of some garments -/
structure Part (w : World) (g n : Nat) (gs : List Gar) (k : Nat) (cs : Array Value) : Prop where
  heap : w.heap[g]? = some (.cells cs 56 (0, 0))
  size : cs.size = n * 4
  at_ : ∀ i x, i < k → gs[i]? = some x → cs[i * 4]? = some (.int .u8 x.c) ∧ cs[i * 4 + 1]? = some (.int .i8 x.n) ∧ cs[i * 4 + 2]? = some (.int .i8 x.m) ∧ cs[i * 4 + 3]? = some (.int .i16 x.g)

theorem Part.step {w : World} {g n : Nat} {gs : List Gar} {k : Nat} {cs : Array Value} (h : Part w g n gs k cs) {x : Gar} (hx : gs[k]? = some x) (hk : k < n) :
    ∃ cs', Part (w.setCells g (k * 4) [.int .u8 x.c, .int .i8 x.n, .int .i8 x.m, .int .i16 x.g]) g n gs (k + 1) cs' := by
  have h0 := heap_setCell_same w g (k * 4) cs 56 (.int .u8 x.c) h.heap
  have h1 := heap_setCell_same _ g (k * 4 + 1) _ 56 (.int .i8 x.n) h0
  have h2 := heap_setCell_same _ g (k * 4 + 1 + 1) _ 56 (.int .i8 x.m) h1
  have h3 := heap_setCell_same _ g (k * 4 + 1 + 1 + 1) _ 56 (.int .i16 x.g) h2
  have hs := h.size
  refine ⟨_, h3, by simp [h.size], fun i y hi hy => ?_⟩
  rcases Nat.lt_or_ge i k with hik | hik
  · obtain ⟨e0, e1, e2, e3⟩ := h.at_ i y hik hy
    refine ⟨?_, ?_, ?_, ?_⟩
    all_goals
      rw [Array.getElem?_setIfInBounds_ne (by omega), Array.getElem?_setIfInBounds_ne (by omega), Array.getElem?_setIfInBounds_ne (by omega), Array.getElem?_setIfInBounds_ne (by omega)]
      assumption
  · obtain rfl : i = k := by omega
    obtain rfl : x = y := by rw [hx] at hy; exact Option.some.inj hy
    refine ⟨?_, ?_, ?_, ?_⟩
    · rw [Array.getElem?_setIfInBounds_ne (by omega), Array.getElem?_setIfInBounds_ne (by omega), Array.getElem?_setIfInBounds_ne (by omega), Array.getElem?_setIfInBounds_self_of_lt (by omega)]
    · rw [Array.getElem?_setIfInBounds_ne (by omega), Array.getElem?_setIfInBounds_ne (by omega), Array.getElem?_setIfInBounds_self_of_lt (by simp; omega)]
    · rw [Array.getElem?_setIfInBounds_ne (by omega), Array.getElem?_setIfInBounds_self_of_lt (by simp; omega)]
    · rw [Array.getElem?_setIfInBounds_self_of_lt (by simp; omega)]

theorem Part.there {w : World} {g n : Nat} {gs : List Gar} {k : Nat} {cs : Array Value} (h : Part w g n gs k cs) (hk : k < n) : w.there g (k * 4) 4 := by
  have hs := h.size
  intro j hj
  refine ⟨?_, ?_⟩
  · rw [cell_of_row _ _ _ _ _ _ h.heap]
    simp
    omega
  · simp [World.frozen?, h.heap]
theorem Part.frozen {w : World} {g n : Nat} {gs : List Gar} {k : Nat} {cs : Array Value} (h : Part w g n gs k cs) (j : Nat) : w.frozen? ⟨g, j, none⟩ = false := by
  simp [World.frozen?, h.heap]
theorem Part.cells {w : World} {g n : Nat} {gs : List Gar} {k : Nat} {cs : Array Value} (h : Part w g n gs k cs) (hk : k < n) :
    ∃ v0 v1 v2 v3, w.cell? ⟨g, k * 4, none⟩ = some v0 ∧ w.cell? ⟨g, k * 4 + 1, none⟩ = some v1 ∧ w.cell? ⟨g, k * 4 + 2, none⟩ = some v2 ∧ w.cell? ⟨g, k * 4 + 3, none⟩ = some v3 := by
  have hs := h.size
  have e : ∀ j, j < n * 4 → ∃ v, w.cell? ⟨g, j, none⟩ = some v := fun j hj => ⟨cs[j], (cell_of_row _ _ _ _ _ _ h.heap).trans (Array.getElem?_eq_getElem (by omega))⟩
  obtain ⟨v0, e0⟩ := e (k * 4) (by omega)
  obtain ⟨v1, e1⟩ := e (k * 4 + 1) (by omega)
  obtain ⟨v2, e2⟩ := e (k * 4 + 2) (by omega)
  obtain ⟨v3, e3⟩ := e (k * 4 + 3) (by omega)
  exact ⟨v0, v1, v2, v3, e0, e1, e2, e3⟩
theorem Part.lt {w : World} {g n : Nat} {gs : List Gar} {k : Nat} {cs : Array Value} (h : Part w g n gs k cs) : g < w.heap.size := by
  rcases Nat.lt_or_ge g w.heap.size with hlt | hge
  · exact hlt
  · have := h.heap
    rw [Array.getElem?_eq_none hge] at this
    cases this
theorem Part.next {w w' : World} {g n : Nat} {gs : List Gar} {k : Nat} {cs : Array Value} (h : Part w g n gs k cs) (hb : Below w.heap.size w w') : Part w' g n gs k cs :=
  ⟨(hb.block g h.lt).trans h.heap, h.size, h.at_⟩
/-- a whole block reads as the list -/
theorem Part.gs {w : World} {g : Nat} {gs : List Gar} {cs : Array Value} {B : Nat} (h : Part w g gs.length gs gs.length cs) (hB : g < B) (hf : ∀ x ∈ gs, x.Fits) : GS w B (some ⟨g, 0, none⟩) gs :=
  ⟨fun k x hx => by
    have hk : k < gs.length := (List.getElem?_eq_some_iff.1 hx).1
    obtain ⟨e0, e1, e2, e3⟩ := h.at_ k x hk hx
    have ea : (⟨g, 0, none⟩ : Addr).add (k * 4) = ⟨g, k * 4, none⟩ := by unfold Addr.add; split <;> simp_all
    refine ⟨_, rfl, hB, ?_⟩
    rw [ea]
    exact ⟨(cell_of_row _ _ _ _ _ _ h.heap).trans e0, (cell_of_row _ _ _ _ _ _ h.heap).trans e1, (cell_of_row _ _ _ _ _ _ h.heap).trans e2, (cell_of_row _ _ _ _ _ _ h.heap).trans e3⟩, hf⟩

theorem below_setCells {B : Nat} {a w : World} (h : Below B a w) {g : Nat} (hg : B ≤ g) : ∀ (vs : List Value) (o : Nat), Below B a (w.setCells g o vs) := by
  intro vs
  induction vs generalizing w with
  | nil => intro o; exact h
  | cons v r ih => intro o; exact ih (h.setCell (p := ⟨g, o, none⟩) hg v) (o + 1)

theorem infoG : (Tryd.prog.info? 56).map (fun i => (i.zero, i.size, i.bytes)) = some (some (.agg #[.int .u8 0, .int .i8 0, .int .i8 0, .int .i16 0]), 4, 6) := by kernel_rfl

set_option maxHeartbeats 2000000 in
theorem toGarmentS_any (A : Option Addr) (c : Nat) (gs : List Gar) (hn : gs.length ≤ 1048576) (w : World) (hg : GS w w.heap.size A gs) :
    Calls Tryd.prog 11 #[.slice A gs.length c] w fun e w' => ∃ g cs, e = .returned (.slice (some ⟨g, 0, none⟩) gs.length gs.length) ∧ w.heap.size ≤ g ∧ Part w' g gs.length gs gs.length cs ∧ Below w.heap.size w w' := by
  obtain ⟨i0, hi, hz0, hz1, hz2⟩ := info_parts infoG
  obtain ⟨n, en⟩ : ∃ n, n = gs.length := ⟨_, rfl⟩
  rw [← en] at hn ⊢
  have En := Lib.hid en
  clear en
  have hmk : ∀ u : World, (Instr.makeSlice 30 (.int .i64 (n : Int)) (.int .i64 (n : Int))).run Tryd.prog u =
      .ok (.slice (some ⟨u.heap.size, 0, none⟩) n n) (u.alloc (.cells (madeCells #[.int .u8 0, .int .i8 0, .int .i8 0, .int .i16 0] (n * 4)) 56)) := fun u => by
    have h := run_make (P := Tryd.prog) u 30 56 i0 _ Tryd.underlying30 hi hz0 .i64 .i64 (n : Int) (n : Int) (by omega) (Int.le_refl _) (by rw [hz2]; omega) (by omega)
    have e : ((n : Int)).toNat = n := by omega
    rw [e] at h
    simpa [hz1, Value.cells] using h
  go_enter Tryd.func11, Tryd.ntmps11
  have hB0 : Below w.heap.size w (w.alloc (.cells (madeCells #[.int .u8 0, .int .i8 0, .int .i8 0, .int .i16 0] (n * 4)) 56)) := (Below.refl _ _).alloc (Nat.le_refl _) _
  have hP0 : Part (w.alloc (.cells (madeCells #[.int .u8 0, .int .i8 0, .int .i8 0, .int .i16 0] (n * 4)) 56)) w.heap.size n gs 0 (madeCells #[.int .u8 0, .int .i8 0, .int .i8 0, .int .i16 0] (n * 4)) :=
    ⟨heap_alloc_new w _, size_madeCells _ _, fun i x hi => absurd hi (by omega)⟩
  have HP0 := Lib.hid hP0
  clear hP0
  go_wp2_with fail
  go_loopw [4] (fun vi wr => ∃ k cs, k ≤ n ∧ vi = .int .i64 (k : Nat) ∧ Part wr w.heap.size n gs k cs ∧ Below w.heap.size w wr) (fun vi _ => n - (intOf vi).toNat)
  case atStart => exact ⟨0, _, by omega, rfl, HP0.out, hB0⟩
  case round =>
    clear hB0 HP0
    obtain ⟨k, cs, hk, rfl, hP, hB⟩ := hrel
    by_cases hlt : k < n
    · have hl := En.out
      obtain ⟨x, hx⟩ : ∃ x, gs[k]? = some x := ⟨gs[k], List.getElem?_eq_getElem (by omega)⟩
      clear hl
      obtain ⟨a, rfl, hab, hg0, hg1, hg2, hg3⟩ := (hg.below hB).at_ k x hx
      have HX := Lib.hid hx
      clear hx
      go_wp2_with fail
      refine (garm.toGarment_any x _).mono ?_
      rintro e w2 ⟨rfl, hb2⟩
      have hP2 := hP.next hb2
      have hB2 := hB.trans (hb2.mono hB.size)
      clear hg0 hg1 hg2 hg3 hb2
      obtain ⟨v0, v1, v2, v3, s0, s1, s2, s3⟩ := hP2.cells hlt
      have f0 := hP2.frozen (k * 4)
      have f1 := hP2.frozen (k * 4 + 1)
      have f2 := hP2.frozen (k * 4 + 2)
      have f3 := hP2.frozen (k * 4 + 3)
      go_wp2_with fail
      go_roundw
      case rel =>
        obtain ⟨cs', hP3⟩ := hP2.step HX.out hlt
        exact ⟨k + 1, cs', by omega, by go_num, hP3, below_setCells hB2 (Nat.le_refl _) [.int .u8 x.c, .int .i8 x.n, .int .i8 x.m, .int .i16 x.g] (k * 4)⟩
      case measure => simp [intOf]; omega
    · go_wp2_with fail
      obtain rfl : k = n := by omega
      go_ret
      exact ⟨_, cs, rfl, Nat.le_refl _, hP, hB⟩

set_option maxHeartbeats 1000000 in
theorem eqGarment_any (x y : Gar) (w : World) :
    Calls Tryd.prog 46 #[x.v, y.v] w fun e w' => e = .returned (.bool (gEq x y)) ∧ Below w.heap.size w w' := by
  go_enter Tryd.func46, Tryd.ntmps46
  go_wp2_with fail
  all_goals go_ret
  all_goals exact ⟨ret_bool (by simp only [gEq]; first | (simp [*]; done) | (simp_all; done)), ((Below.refl _ _).alloc (Nat.le_refl _) _).alloc (by simp) _⟩


abbrev Eight (p p' : Addr) (x y : Gar) (W u : World) : Prop :=
  u.cell? p = some (.int .u8 x.c) ∧ u.cell? ⟨p.block, p.off + 1, none⟩ = some (.int .i8 x.n) ∧ u.cell? ⟨p.block, p.off + 2, none⟩ = some (.int .i8 x.m) ∧ u.cell? ⟨p.block, p.off + 3, none⟩ = some (.int .i16 x.g) ∧
  u.cell? p' = some (.int .u8 y.c) ∧ u.cell? ⟨p'.block, p'.off + 1, none⟩ = some (.int .i8 y.n) ∧ u.cell? ⟨p'.block, p'.off + 2, none⟩ = some (.int .i8 y.m) ∧ u.cell? ⟨p'.block, p'.off + 3, none⟩ = some (.int .i16 y.g) ∧ Below W.heap.size W u
theorem Eight.next {p p' : Addr} {x y : Gar} {W u v : World} (h : Eight p p' x y W u) (hp : p.block < W.heap.size) (hp' : p'.block < W.heap.size) (hb : Below u.heap.size u v) : Eight p p' x y W v := by
  obtain ⟨h0, h1, h2, h3, h4, h5, h6, h7, hB⟩ := h
  have hs := hB.size
  have k := hb.mono hs
  exact ⟨(k.cell (p := p) hp).trans h0, (k.cell (p := ⟨p.block, p.off + 1, none⟩) hp).trans h1, (k.cell (p := ⟨p.block, p.off + 2, none⟩) hp).trans h2, (k.cell (p := ⟨p.block, p.off + 3, none⟩) hp).trans h3,
    (k.cell (p := p') hp').trans h4, (k.cell (p := ⟨p'.block, p'.off + 1, none⟩) hp').trans h5, (k.cell (p := ⟨p'.block, p'.off + 2, none⟩) hp').trans h6, (k.cell (p := ⟨p'.block, p'.off + 3, none⟩) hp').trans h7, hB.trans k⟩

theorem Eight.below {p p' : Addr} {x y : Gar} {W u : World} (h : Eight p p' x y W u) : Below W.heap.size W u := h.2.2.2.2.2.2.2.2

set_option maxHeartbeats 4000000 in
theorem eqGarmentS_any (A A' : Option Addr) (c c' : Nat) (gs gs' : List Gar) (hn : gs.length ≤ 1048576) (w : World) (hg : GS w w.heap.size A gs) (hg' : GS w w.heap.size A' gs') (b : Bool) (hb : b = true ↔ gs = gs') :
    Calls Tryd.prog 14 #[.slice A gs.length c, .slice A' gs'.length c'] w fun e w' => e = .returned (.bool b) ∧ Below w.heap.size w w' := by
  by_cases hlen : gs.length = gs'.length
  · obtain ⟨n, en⟩ : ∃ n, n = gs.length := ⟨_, rfl⟩
    have en' : n = gs'.length := en.trans hlen
    rw [← en] at hn ⊢
    rw [← en']
    have En := Lib.hid en
    have En' := Lib.hid en'
    have Hb := Lib.hid hb
    clear en en' hb hlen
    go_enter Tryd.func14, Tryd.ntmps14
    go_wp2_with fail
    go_loopw [5] (fun vi wr => ∃ k : Nat, k ≤ n ∧ vi = .int .i64 k ∧ (∀ i, i < k → gs[i]? = gs'[i]?) ∧ Below w.heap.size w wr) (fun vi _ => n - (intOf vi).toNat)
    case atStart => exact ⟨0, by omega, rfl, fun i hi => absurd hi (by omega), Below.refl _ _⟩
    case round =>
      obtain ⟨k, hk, rfl, hsame, hB⟩ := hrel
      by_cases hlt : k < n
      · obtain ⟨x, hx⟩ : ∃ x, gs[k]? = some x := ⟨gs[k]'(by have := En.out; omega), List.getElem?_eq_getElem _⟩
        obtain ⟨y, hy⟩ : ∃ y, gs'[k]? = some y := ⟨gs'[k]'(by have := En'.out; omega), List.getElem?_eq_getElem _⟩
        obtain ⟨a, rfl, hab, hg0, hg1, hg2, hg3⟩ := (hg.below hB).at_ k x hx
        obtain ⟨a', rfl, hab', hg0', hg1', hg2', hg3'⟩ := (hg'.below hB).at_ k y hy
        have HX := Lib.hid hx
        have HY := Lib.hid hy
        clear hx hy
        have hp : (a.add (k * 4)).block < w.heap.size := by rw [block_add]; exact hab
        have hp' : (a'.add (k * 4)).block < w.heap.size := by rw [block_add]; exact hab'
        have h8 : Eight (a.add (k * 4)) (a'.add (k * 4)) x y w wr := ⟨hg0, hg1, hg2, hg3, hg0', hg1', hg2', hg3', hB⟩
        have H8 := Lib.hid h8
        clear h8
        go_wp2_with fail
        go_region_held3 (fun u => u.cell? (a.add (k * 4)) = some (.int .u8 x.c) ∧ u.cell? ⟨(a.add (k * 4)).block, (a.add (k * 4)).off + 1, none⟩ = some (.int .i8 x.n) ∧ u.cell? ⟨(a.add (k * 4)).block, (a.add (k * 4)).off + 2, none⟩ = some (.int .i8 x.m) ∧ u.cell? ⟨(a.add (k * 4)).block, (a.add (k * 4)).off + 3, none⟩ = some (.int .i16 x.g) ∧ u.cell? (a'.add (k * 4)) = some (.int .u8 y.c) ∧ u.cell? ⟨(a'.add (k * 4)).block, (a'.add (k * 4)).off + 1, none⟩ = some (.int .i8 y.n) ∧ u.cell? ⟨(a'.add (k * 4)).block, (a'.add (k * 4)).off + 2, none⟩ = some (.int .i8 y.m) ∧ u.cell? ⟨(a'.add (k * 4)).block, (a'.add (k * 4)).off + 3, none⟩ = some (.int .i16 y.g) ∧ Below w.heap.size w u)
          (first | exact H8.out.next hp hp' (below_drewN _ wr 1) | exact Eight.next (by assumption) hp hp' hb2)
          (first | (go_at_call 46; refine (eqGarment_any x y _).mono ?_; rintro e w2 ⟨rfl, hb2⟩))
        go_wp2_with fail
        · have hno : (!gEq x y) = true := by assumption
          go_ret
          refine ⟨ret_bool ?_, Eight.below (p := a.add (k * 4)) (p' := a'.add (k * 4)) (x := x) (y := y) (by assumption)⟩
          cases hbb : b with
          | false => rfl
          | true =>
            have he := Hb.out.1 hbb
            have h1 := HX.out
            rw [he, HY.out] at h1
            have h2 : gEq x y = true := (gEq_iff x y).2 (Option.some.inj h1).symm
            rw [h2] at hno
            cases hno
        · have hno : (!gEq x y) = false := by assumption
          have he : x = y := (gEq_iff x y).1 (by simpa using hno)
          clear hno
          go_roundw
          case rel => exact ⟨k + 1, by omega, by go_num, fun i hi => by
            rcases Nat.lt_or_ge i k with h1 | h1
            · exact hsame i h1
            · obtain rfl : i = k := by omega
              rw [HX.out, HY.out, he], Eight.below (p := a.add (k * 4)) (p' := a'.add (k * 4)) (x := x) (y := y) (by assumption)⟩
          case measure => simp [intOf]; omega
      · go_wp2_with fail
        go_ret
        refine ⟨ret_bool ?_, hB⟩
        exact (Hb.out.2 (lists_eq En.out En'.out fun i hi => hsame i (by omega))).symm
  · have hno : b = false := by
      cases hbb : b with
      | false => rfl
      | true => exact absurd (congrArg List.length (hb.1 hbb)) hlen
    subst hno
    have hl : ((gs.length : Int) != (gs'.length : Int)) = true := by rw [bne_iff_ne]; omega
    clear hlen hb
    go_enter Tryd.func14, Tryd.ntmps14
    go_wp2_with fail
    go_ret
    exact ⟨rfl, Below.refl _ _⟩

set_option maxHeartbeats 1000000 in
/-- how many are left -/
theorem szGarmentS_any (A : Option Addr) (n c : Nat) (left : Int) (hn : n ≤ 9223372036854775807) (hl : 0 ≤ left ∧ left ≤ 1048576) (w : World) :
    Calls Tryd.prog 8 #[.slice A n c, .int .i64 left] w fun e w' => e = .returned (.int .i64 (if left - n < 0 then -1 else left - n)) ∧ w = w' := by
  go_enter Tryd.func8, Tryd.ntmps8
  go_wp2_with fail
  all_goals go_ret
  all_goals exact ⟨rfl, rfl⟩
end Go.Proofs.YtdafnibmoggcnaaDoor.garS

/-
  Cloth: its contracts: copied, held against another one, counted.
-/
namespace Go.Proofs.YtdafnibmoggcnaaDoor
open Go.RowKit

/-- the numbers of a Cloth -/
structure Clo where
  wide : Int
  heavy : Int

/-- they are in the range of their kinds -/
structure Clo.Fits (x : Clo) : Prop where
  wide0 : -32768 ≤ x.wide
  wide1 : x.wide ≤ 32767
  heavy0 : -32768 ≤ x.heavy
  heavy1 : x.heavy ≤ 32767
abbrev Clo.cells (x : Clo) : List Value := [.int .i16 x.wide, .int .i16 x.heavy]
abbrev Clo.v (x : Clo) : Value := .agg #[.int .i16 x.wide, .int .i16 x.heavy]
theorem Clo.len (xs : List Clo) : ∀ x ∈ xs, (Clo.cells x).length = 2 := fun _ _ => rfl
/-- are two equal -/
def Clo.eq (x y : Clo) : Bool := x.wide == y.wide && (x.heavy == y.heavy)
theorem Clo.eq_iff (x y : Clo) : Clo.eq x y = true ↔ x = y := by
  cases x
  cases y
  simp [Clo.eq]
end Go.Proofs.YtdafnibmoggcnaaDoor
namespace Go.Proofs.YtdafnibmoggcnaaDoor.cloS
open Go.RowKit sl

theorem at_ {w : World} {p : Addr} {x : Clo} (h : At w p x.cells) :
    w.cell? p = some (.int .i16 x.wide) ∧ w.cell? ⟨p.block, p.off + 1, none⟩ = some (.int .i16 x.heavy) :=
  ⟨h 0 _ rfl, h 1 _ rfl⟩




end Go.Proofs.YtdafnibmoggcnaaDoor.cloS

/-
  Line: its contracts: copied, held against another one, counted.
-/
namespace Go.Proofs.YtdafnibmoggcnaaDoor
open Go.RowKit

/-- the numbers of a Line -/
structure Lin where
  long : Int
  most : Int

/-- they are in the range of their kinds -/
structure Lin.Fits (x : Lin) : Prop where
  long0 : -32768 ≤ x.long
  long1 : x.long ≤ 32767
  most0 : -32768 ≤ x.most
  most1 : x.most ≤ 32767
abbrev Lin.cells (x : Lin) : List Value := [.int .i16 x.long, .int .i16 x.most]
abbrev Lin.v (x : Lin) : Value := .agg #[.int .i16 x.long, .int .i16 x.most]
theorem Lin.len (xs : List Lin) : ∀ x ∈ xs, (Lin.cells x).length = 2 := fun _ _ => rfl
/-- are two equal -/
def Lin.eq (x y : Lin) : Bool := x.long == y.long && (x.most == y.most)
theorem Lin.eq_iff (x y : Lin) : Lin.eq x y = true ↔ x = y := by
  cases x
  cases y
  simp [Lin.eq]
end Go.Proofs.YtdafnibmoggcnaaDoor
namespace Go.Proofs.YtdafnibmoggcnaaDoor.linS
open Go.RowKit sl

theorem at_ {w : World} {p : Addr} {x : Lin} (h : At w p x.cells) :
    w.cell? p = some (.int .i16 x.long) ∧ w.cell? ⟨p.block, p.off + 1, none⟩ = some (.int .i16 x.most) :=
  ⟨h 0 _ rfl, h 1 _ rfl⟩




end Go.Proofs.YtdafnibmoggcnaaDoor.linS

/-
  Cloths on a line, in plain words: which neighbours share a peg, where each one hangs, how many pegs are needed, how a line sags; no program in it.
-/
namespace Go.Proofs.YtdafnibmoggcnaaDoor.hang
open Go.RowKit

def Clo.valid (x : Clo) : Bool := decide (4 ≤ x.wide) && (decide (x.wide ≤ 200) && (decide (1 ≤ x.heavy) && decide (x.heavy ≤ 500)))
def Lin.valid (x : Lin) : Bool := decide (4 ≤ x.long) && (decide (x.long ≤ 2000) && (decide (1 ≤ x.most) && decide (x.most ≤ 2000)))
theorem clo_parts {x : Clo} (h : Clo.valid x = true) : 4 ≤ x.wide ∧ x.wide ≤ 200 ∧ 1 ≤ x.heavy ∧ x.heavy ≤ 500 := by
  simpa [Clo.valid, and_assoc] using h
theorem lin_parts {x : Lin} (h : Lin.valid x = true) : 4 ≤ x.long ∧ x.long ≤ 2000 ∧ 1 ≤ x.most ∧ x.most ≤ 2000 := by
  simpa [Lin.valid, and_assoc] using h
/-- do two neighbours share a peg -/
def shares (a b : Clo) : Bool := decide (a.heavy + b.heavy ≤ 120)
def gapOf : Option Clo → Clo → Int
  | none, _ => 0
  | some p, c => if shares p c = true then -2 else 1
def pegOf : Option Clo → Clo → Int
  | none, _ => 2
  | some p, c => if shares p c = true then 1 else 2
/-- what hangs: the last one, where it ends, where each one begins, how many pegs -/
structure Hung where
  last : Option Clo
  fin : Int
  places : List Int
  pegs : Int
def Hung.place (h : Hung) (c : Clo) : Int := h.fin + gapOf h.last c
def Hung.step (h : Hung) (c : Clo) : Hung := ⟨some c, h.place c + c.wide, h.places ++ [h.place c], h.pegs + pegOf h.last c⟩
def Hung.none : Hung := ⟨Option.none, 0, [], 0⟩
def hung (xs : List Clo) : Hung := xs.foldl Hung.step Hung.none
theorem hung_nil : hung [] = Hung.none := rfl
theorem hung_snoc (xs : List Clo) (c : Clo) : hung (xs ++ [c]) = (hung xs).step c := by simp [hung]
theorem hung_take {xs : List Clo} {k : Nat} {x : Clo} (hx : xs[k]? = some x) : hung (xs.take (k + 1)) = (hung (xs.take k)).step x := by rw [take_snoc hx, hung_snoc]
theorem snoc_ind {α : Type} {P : List α → Prop} (h0 : P []) (h1 : ∀ xs x, P xs → P (xs ++ [x])) (xs : List α) : P xs := by
  have : ∀ ys : List α, P ys.reverse := fun ys => by
    induction ys with
    | nil => exact h0
    | cons y r ih => rw [List.reverse_cons]; exact h1 _ _ ih
  rw [← List.reverse_reverse xs]
  exact this _
theorem hung_last (xs : List Clo) : (hung xs).last = xs.getLast? := by
  induction xs using snoc_ind with
  | h0 => rfl
  | h1 xs x _ => rw [hung_snoc]; simp [Hung.step]
theorem hung_len (xs : List Clo) : (hung xs).places.length = xs.length := by
  induction xs using snoc_ind with
  | h0 => rfl
  | h1 xs x ih => rw [hung_snoc]; simp [Hung.step, ih]
theorem gap_bd (p : Option Clo) (c : Clo) : -2 ≤ gapOf p c ∧ gapOf p c ≤ 1 := by
  cases p with
  | none => simp only [gapOf]; omega
  | some p => simp only [gapOf]; split <;> omega
theorem peg_bd (p : Option Clo) (c : Clo) : 1 ≤ pegOf p c ∧ pegOf p c ≤ 2 := by
  cases p with
  | none => simp only [pegOf]; omega
  | some p => simp only [pegOf]; split <;> omega
theorem hung_bd (xs : List Clo) (hv : ∀ x ∈ xs, Clo.valid x = true) : 0 ≤ (hung xs).fin ∧ (hung xs).fin ≤ 201 * xs.length ∧ (xs ≠ [] → 4 ≤ (hung xs).fin) ∧ 0 ≤ (hung xs).pegs ∧ (hung xs).pegs ≤ 2 * xs.length := by
  induction xs using snoc_ind with
  | h0 => exact ⟨by decide, by decide, fun h => absurd rfl h, by decide, by decide⟩
  | h1 xs x ih =>
    obtain ⟨h0, h1, h2, h3, h4⟩ := ih (fun y hy => hv y (List.mem_append_left _ hy))
    obtain ⟨w0, w1, _, _⟩ := clo_parts (hv x (by simp))
    have g := gap_bd (hung xs).last x
    have p := peg_bd (hung xs).last x
    have e : ((xs ++ [x]).length : Int) = xs.length + 1 := by simp
    have e2 : (hung (xs ++ [x])).fin = (hung xs).fin + gapOf (hung xs).last x + x.wide := by rw [hung_snoc]; rfl
    have e3 : (hung (xs ++ [x])).pegs = (hung xs).pegs + pegOf (hung xs).last x := by rw [hung_snoc]; rfl
    rw [e2, e3, e]
    have h4' : 4 ≤ (hung xs).fin + gapOf (hung xs).last x + x.wide := by
      by_cases hx : xs = []
      · subst hx
        have : gapOf (hung []).last x = 0 := rfl
        have f0 : (hung []).fin = 0 := rfl
        rw [this, f0]
        omega
      · have := h2 hx
        omega
    exact ⟨by omega, by omega, fun _ => h4', by omega, by omega⟩
theorem place_bd (xs : List Clo) (hv : ∀ x ∈ xs, Clo.valid x = true) (c : Clo) : 0 ≤ (hung xs).place c ∧ (hung xs).place c ≤ 201 * xs.length + 1 := by
  obtain ⟨h0, h1, h2, _, _⟩ := hung_bd xs hv
  have g := gap_bd (hung xs).last c
  unfold Hung.place
  by_cases hx : xs = []
  · subst hx
    have : gapOf (hung []).last c = 0 := rfl
    rw [this]
    omega
  · have := h2 hx
    omega
def heavyOf (xs : List Clo) : Int := xs.foldl (fun s c => s + c.heavy) 0
theorem heavy_snoc (xs : List Clo) (c : Clo) : heavyOf (xs ++ [c]) = heavyOf xs + c.heavy := by simp [heavyOf]
theorem heavy_take {xs : List Clo} {k : Nat} {x : Clo} (hx : xs[k]? = some x) : heavyOf (xs.take (k + 1)) = heavyOf (xs.take k) + x.heavy := by rw [take_snoc hx, heavy_snoc]
theorem heavy_bd (xs : List Clo) (hv : ∀ x ∈ xs, x.Fits) : -32768 * xs.length ≤ heavyOf xs ∧ heavyOf xs ≤ 32767 * xs.length := by
  induction xs using snoc_ind with
  | h0 => exact ⟨by decide, by decide⟩
  | h1 xs x ih =>
    obtain ⟨h0, h1⟩ := ih (fun y hy => hv y (List.mem_append_left _ hy))
    have hf := hv x (by simp)
    have := hf.heavy0
    have := hf.heavy1
    have e : ((xs ++ [x]).length : Int) = xs.length + 1 := by simp
    rw [heavy_snoc, e]
    omega
/-- do cloths fit on a line -/
def fitsB (l : Lin) (xs : List Clo) : Bool := decide ((hung xs).fin ≤ l.long) && decide (heavyOf xs ≤ l.most)
/-- the code of cloths of which there are at most so many -/
def codeMany (xs : List Clo) (most : Nat) : Nat := if xs.all Clo.valid = true then (if most < xs.length then 3 else 0) else 1
end Go.Proofs.YtdafnibmoggcnaaDoor.hang

/-
  Contracts of the functions on one cloth, one line, or the validity of a list of cloths.
-/
namespace Go.Proofs.YtdafnibmoggcnaaDoor.hang
open Go.RowKit sl

/-- is a number between two -/
def inB (n lo hi : Int) : Bool := decide (lo ≤ n) && decide (n ≤ hi)
theorem inB_iff {n lo hi : Int} : inB n lo hi = true ↔ lo ≤ n ∧ n ≤ hi := by simp [inB]
theorem clo_in (x : Clo) : Clo.valid x = (inB x.wide 4 200 && inB x.heavy 1 500) := by simp [Clo.valid, inB, Bool.and_assoc]
theorem lin_in (x : Lin) : Lin.valid x = (inB x.long 4 2000 && inB x.most 1 2000) := by simp [Lin.valid, inB, Bool.and_assoc]

theorem l00In_any (n lo hi : Int) (w : World) :
    Calls Tryd.prog 60 #[.int .i64 n, .int .i64 lo, .int .i64 hi] w fun o w' => o = .returned (.bool (inB n lo hi)) ∧ w = w' := by
  go_enter Tryd.func60, Tryd.ntmps60
  go_wp2_with fail
  all_goals go_ret
  all_goals exact ⟨ret_bool (by first | (simp [inB, *]; done) | (simp [inB]; omega)), rfl⟩
theorem l00In_b (n lo hi : Int) (b : Bool) (hb : inB n lo hi = b) (w : World) :
    Calls Tryd.prog 60 #[.int .i64 n, .int .i64 lo, .int .i64 hi] w fun o w' => o = .returned (.bool b) ∧ w = w' := by
  subst hb
  exact l00In_any n lo hi w

end Go.Proofs.YtdafnibmoggcnaaDoor.hang

/-
  Lists of numbers (uint8): copied, held against each other, marked.
-/
namespace Go.Proofs.YtdafnibmoggcnaaDoor.bytS
open Go.RowKit sl

abbrev C (x : Nat) : List Value := cInt .u8 (x : Int)
theorem len (xs : List Nat) : ∀ x ∈ xs, (C x).length = 1 := fun _ _ => rfl
theorem at_ {w : World} {a : Addr} {k : Nat} {x : Nat} (h : At w (a.add (k * 1)) (C x)) : w.cell? (a.add k) = some (.int .u8 x) := by
  have h0 := h 0 _ rfl
  rw [Nat.mul_one] at h0
  exact h0
theorem info : (Tryd.prog.info? 5).map (fun i => (i.zero, i.size, i.bytes)) = some (some (.int .u8 0), 1, 1) := by kernel_rfl


set_option maxHeartbeats 2000000 in
theorem eqS_any (A A' : Option Addr) (n n' c c' : Nat) (xs ys : List Nat) (en : n = xs.length) (en' : n' = ys.length) (hn : n ≤ 1048576) (hn' : n' ≤ 9223372036854775807) (w : World) (hg : Sl C 1 w w.heap.size A xs) (hg' : Sl C 1 w w.heap.size A' ys) (b : Bool) (hb : b = true ↔ xs = ys) :
    Calls Tryd.prog 20 #[.slice A n c, .slice A' n' c'] w fun e w' => e = .returned (.bool b) ∧ Below w.heap.size w w' := by
  have En := Lib.hid en
  have En' := Lib.hid en'
  have Hb := Lib.hid hb
  clear en en' hb
  by_cases hlen : n = n'
  · subst hlen
    go_enter Tryd.func20, Tryd.ntmps20
    go_wp2_with fail
    go_loopw [5] (fun vi wr => ∃ k : Nat, k ≤ n ∧ vi = .int .i64 k ∧ (∀ i, i < k → xs[i]? = ys[i]?) ∧ ∃ m, wr = w.drewN m) (fun vi _ => n - (intOf vi).toNat)
    case atStart => exact ⟨0, by omega, rfl, fun i hi => absurd hi (by omega), 0, rfl⟩
    case round =>
      obtain ⟨k, hk, rfl, hsame, m, rfl⟩ := hrel
      by_cases hlt : k < n
      · obtain ⟨x, hx⟩ : ∃ x, xs[k]? = some x := ⟨xs[k]'(by have := En.out; omega), List.getElem?_eq_getElem _⟩
        obtain ⟨y, hy⟩ : ∃ y, ys[k]? = some y := ⟨ys[k]'(by have := En'.out; omega), List.getElem?_eq_getElem _⟩
        obtain ⟨a, rfl, hab, hat⟩ := hg.at_ k x hx
        obtain ⟨a', rfl, hab', hat'⟩ := hg'.at_ k y hy
        have q0 := at_ hat
        have r0 := at_ hat'
        have HX := Lib.hid hx
        have HY := Lib.hid hy
        clear hx hy hat hat'
        by_cases hxy : x = y
        · subst hxy
          go_wp2_with fail
          go_quiet (fail)
          go_wp2_with fail
          go_roundw
          case rel => exact ⟨k + 1, by omega, by go_num, fun i hi => by
            rcases Nat.lt_or_ge i k with h1 | h1
            · exact hsame i h1
            · obtain rfl : i = k := by omega
              rw [HX.out, HY.out], _, rfl⟩
          case measure => simp [intOf]; omega
        · have hne : ((x : Int) != (y : Int)) = true := by rw [bne_iff_ne]; omega
          go_wp2_with fail
          go_quiet (fail)
          go_wp2_with fail
          go_ret
          refine ⟨ret_bool ?_, (below_drewN _ _ _).trans (below_drewN _ _ _)⟩
          cases hbb : b with
          | false => rfl
          | true =>
            have he := Hb.out.1 hbb
            have h1 := HX.out
            rw [he, HY.out] at h1
            exact absurd (Option.some.inj h1).symm hxy
      · go_wp2_with fail
        go_ret
        refine ⟨ret_bool ?_, below_drewN _ _ _⟩
        exact (Hb.out.2 (lists_eq En.out En'.out fun i hi => hsame i (by omega))).symm
  · have hno : b = false := by
      cases hbb : b with
      | false => rfl
      | true => exact absurd ((En.out.trans (congrArg List.length (Hb.out.1 hbb))).trans En'.out.symm) hlen
    subst hno
    have hl : ((n : Int) != (n' : Int)) = true := by rw [bne_iff_ne]; omega
    clear hlen
    go_enter Tryd.func20, Tryd.ntmps20
    go_wp2_with fail
    go_ret
    exact ⟨rfl, Below.refl _ _⟩

/-- the numbers from k on -/
def marks (k : Nat) (n : Nat) : List Nat := (List.range n).map fun i : Nat => (k + i) % 256
theorem wrap_mark (k i : Nat) : IntKind.u8.wrap ((k : Int) + (i : Int)) = (((k + i) % 256 : Nat) : Int) := by
  simp [IntKind.wrap, IntKind.bits, IntKind.signed]
theorem marks_len (k : Nat) (n : Nat) : (marks k n).length = n := by simp [marks]
theorem marks_at (k n i : Nat) (h : i < n) : (marks k n)[i]? = some ((k + i) % 256) := by simp [marks, h]

set_option maxHeartbeats 2000000 in
theorem markS_row (base g n c : Nat) (k0 : Nat) (hk : k0 ≤ 1000000000000) (hn : n ≤ 1048576) (L : List Value) (w : World) (hP : w.ownsRow base 5 1 (.slice (some ⟨g, 0, none⟩) n c) n L) :
    Calls Tryd.prog 21 #[.slice (some ⟨g, 0, none⟩) n c, .int .i64 (k0 : Int)] w fun e w' => e = .returned (.int .i64 ((k0 : Int) + n)) ∧
      w'.ownsRow base 5 1 (.slice (some ⟨g, 0, none⟩) n c) n ((marks k0 n).flatMap C) ∧ w.grownBy w' (some g) := by
  have HP0 := Lib.hid hP
  clear hP
  go_enter Tryd.func21, Tryd.ntmps21
  go_wp2_with fail
  go_loopw [1, 5] (fun vk vi wr => ∃ k L, k ≤ n ∧ vi = .int .i64 (k : Nat) ∧ vk = .int .i64 ((k0 : Int) + k) ∧ wr.ownsRow base 5 1 (.slice (some ⟨g, 0, none⟩) n c) n L ∧ Done C 1 (marks k0 n) k L ∧ w.grownBy wr (some g)) (fun _ vi _ => n - (intOf vi).toNat)
  case atStart => exact ⟨0, _, by omega, rfl, by simp, HP0.out, Done.zero _ _ _ _, ⟨rfl, rfl, rfl, Nat.le_refl _, fun _ _ _ => rfl⟩⟩
  case round =>
    obtain ⟨k, L, hk', rfl, rfl, hP, hD, hB⟩ := hrel
    by_cases hlt : k < n
    · have HX := Lib.hid (marks_at k0 n k hlt)
      have hwm := wrap_mark k0 k
      have HD := Lib.hid hD
      have hLL := hP.1
      obtain ⟨v0, s0⟩ : ∃ v, wr.cell? ⟨g, k, none⟩ = some v := ⟨L[k]'(by omega), (hP.cellAt k (by omega)).trans (List.getElem?_eq_getElem _)⟩
      have f0 := hP.frozenAt k
      have HLL := Lib.hid hLL
      have HP := Lib.hid hP
      clear hLL hP hD
      go_wp2_with fail
      go_roundw
      case rel =>
        have hP3 := HP.out.stored k (.int .u8 ((((k0 + k) % 256 : Nat)) : Int))
        have g2 := hP3.2
        refine ⟨k + 1, _, by omega, by go_num, by go_num, hP3.1, ?_, ⟨g2.os.trans hB.os, g2.tape.trans hB.tape, g2.output.trans hB.output, Nat.le_trans hB.size g2.size, fun i hi hne => (g2.block i (Nat.lt_of_lt_of_le hi hB.size) hne).trans (hB.block i hi hne)⟩⟩
        have hd := HD.out.step (len _) HX.out (by rw [HLL.out, marks_len])
        rw [Nat.mul_one] at hd
        exact hd
      case measure => simp [intOf]; omega
    · go_wp2_with fail
      obtain rfl : k = n := by omega
      go_ret
      have e : L = (marks k0 k).flatMap C := Done.full (by rw [marks_len]; exact hD) (len _) (by omega) (by rw [hP.1, marks_len])
      rw [← e]
      exact ⟨rfl, hP, hB⟩
set_option maxHeartbeats 1000000 in
theorem markS_nil (k0 : Nat) (w : World) :
    Calls Tryd.prog 21 #[.slice none 0 0, .int .i64 (k0 : Int)] w fun e w' => e = .returned (.int .i64 (k0 : Int)) ∧ w = w' := by
  go_enter Tryd.func21, Tryd.ntmps21
  go_wp2_with fail
  refine wp_loop_rounds 1 ?_
  rw [rounds_succ]
  go_wp2_with fail
  go_ret
  exact ⟨rfl, rfl⟩
/-- a row of the call's own is marked -/
theorem markS_any (base : Nat) (v : Value) (n : Nat) (k0 : Nat) (hk : k0 ≤ 1000000000000) (hn : n ≤ 1048576) (L : List Value) (w : World) (hP : w.ownsRow base 5 1 v n L) :
    Calls Tryd.prog 21 #[v, .int .i64 (k0 : Int)] w fun e w' => e = .returned (.int .i64 ((k0 : Int) + n)) ∧ w'.ownsRow base 5 1 v n ((marks k0 n).flatMap C) ∧ ∃ g, base ≤ g ∧ w.grownBy w' (some g) ∧ (v.ownBlock = none ∨ v.ownBlock = some g) := by
  obtain ⟨h1, h2⟩ := hP
  rcases h2 with ⟨rfl, rfl⟩ | ⟨g, c, cur, rfl, hg, rest⟩
  · refine (markS_nil k0 w).mono ?_
    rintro e w' ⟨rfl, rfl⟩
    exact ⟨by simp, by simpa [marks] using World.ownsRow_nil w base 5 1, base, Nat.le_refl _, ⟨rfl, rfl, rfl, Nat.le_refl _, fun _ _ _ => rfl⟩, .inl rfl⟩
  · refine (markS_row base g n c k0 hk hn L w ⟨h1, .inr ⟨g, c, cur, rfl, hg, rest⟩⟩).mono ?_
    rintro e w' ⟨rfl, hP', hgr⟩
    exact ⟨rfl, hP', g, hg, hgr, .inr rfl⟩

set_option maxHeartbeats 2000000 in
theorem heldS_any (A : Option Addr) (n c : Nat) (k0 : Nat) (hk : k0 ≤ 1000000000000) (hn : n ≤ 1048576) (w : World) (B : Nat) (hg : Sl C 1 w B A (marks k0 n)) :
    Calls Tryd.prog 22 #[.slice A n c, .int .i64 (k0 : Int)] w fun e w' => e = .returned (.int .i64 ((k0 : Int) + n)) ∧ w = w' := by
  go_enter Tryd.func22, Tryd.ntmps22
  go_wp2_with fail
  go_loop [1, 5] (fun vk vi => ∃ k : Nat, k ≤ n ∧ vi = .int .i64 k ∧ vk = .int .i64 ((k0 : Int) + k)) (fun _ vi => n - (intOf vi).toNat)
  case atStart => exact ⟨0, by omega, rfl, by simp⟩
  case round =>
    obtain ⟨k, hk', rfl, rfl⟩ := hrel
    by_cases hlt : k < n
    · obtain ⟨a, rfl, hab, hat⟩ := hg.at_ k _ (marks_at k0 n k hlt)
      have q0 := at_ hat
      have hwm := wrap_mark k0 k
      clear hat
      go_wp2_with fail
      go_round
      case rel => exact ⟨k + 1, by omega, by go_num, by go_num⟩
      case measure => simp [intOf]; omega
    · go_wp2_with fail
      obtain rfl : k = n := by omega
      go_ret
      exact ⟨rfl, rfl⟩
theorem markS_rowZ (base g n c : Nat) (k0 : Int) (hk : 0 ≤ k0 ∧ k0 ≤ 1000000000000) (hn : n ≤ 1048576) (L : List Value) (w : World) (hP : w.ownsRow base 5 1 (.slice (some ⟨g, 0, none⟩) n c) n L) :
    Calls Tryd.prog 21 #[.slice (some ⟨g, 0, none⟩) n c, .int .i64 k0] w fun e w' => e = .returned (.int .i64 (k0 + n)) ∧
      w'.ownsRow base 5 1 (.slice (some ⟨g, 0, none⟩) n c) n ((marks k0.toNat n).flatMap C) ∧ w.grownBy w' (some g) := by
  obtain ⟨k, rfl⟩ := Int.eq_ofNat_of_zero_le hk.1
  exact markS_row base g n c k (by omega) hn L w hP
theorem markS_anyZ (base : Nat) (v : Value) (n : Nat) (k0 : Int) (hk : 0 ≤ k0 ∧ k0 ≤ 1000000000000) (hn : n ≤ 1048576) (L : List Value) (w : World) (hP : w.ownsRow base 5 1 v n L) :
    Calls Tryd.prog 21 #[v, .int .i64 k0] w fun e w' => e = .returned (.int .i64 (k0 + n)) ∧ w'.ownsRow base 5 1 v n ((marks k0.toNat n).flatMap C) ∧ ∃ g, base ≤ g ∧ w.grownBy w' (some g) ∧ (v.ownBlock = none ∨ v.ownBlock = some g) := by
  obtain ⟨k, rfl⟩ := Int.eq_ofNat_of_zero_le hk.1
  exact markS_any base v n k (by omega) hn L w hP
theorem heldS_anyZ (A : Option Addr) (n c : Nat) (k0 : Int) (hk : 0 ≤ k0 ∧ k0 ≤ 1000000000000) (hn : n ≤ 1048576) (w : World) (B : Nat) (hg : Sl C 1 w B A (marks k0.toNat n)) :
    Calls Tryd.prog 22 #[.slice A n c, .int .i64 k0] w fun e w' => e = .returned (.int .i64 (k0 + n)) ∧ w = w' := by
  obtain ⟨k, rfl⟩ := Int.eq_ofNat_of_zero_le hk.1
  exact heldS_any A n c k (by omega) hn w B hg
end Go.Proofs.YtdafnibmoggcnaaDoor.bytS
