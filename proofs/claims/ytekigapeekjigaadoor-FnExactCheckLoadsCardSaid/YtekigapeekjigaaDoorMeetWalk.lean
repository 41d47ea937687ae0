/-
  Contract of the program's meetingSets.
-/
import Derived.Test.YtekigapeekjigaaDoorKnown
namespace Go.Proofs.YtekigapeekjigaaDoor.mem
open Go Go.RowKit Go.Maps errs garS heats meet load

theorem setOf_yes {r : Nat → Int} {gs : List Gar} {x y : Gar} {k : Nat} (hy : gs[k]? = some y) (h : meetB r x y = true) : setOf r gs x (k + 1) = setOf r gs x k ||| 2 ^ k := by
  rw [setOf_succ, if_pos (by rw [meetAt, hy]; simpa using h)]
theorem setOf_no {r : Nat → Int} {gs : List Gar} {x y : Gar} {k : Nat} (hy : gs[k]? = some y) (h : meetB r x y = false) : setOf r gs x (k + 1) = setOf r gs x k := by
  rw [setOf_succ, if_neg (by rw [meetAt, hy]; simp [h])]
theorem meet_v (r : Nat → Int) (hr : Six r) (a b : Gar) (ha : a.Fits) (hb : b.Fits) (va : a.valid = true) (vb : b.valid = true) (w : World) (v : Bool) (hv : meetB r a b = v) :
    Calls Tryd.prog 92 #[rulesV r, a.v, b.v] w fun o w' => o = .returned (.bool v) ∧ Below w.heap.size w w' := by
  subst hv
  exact meet_any r hr a b ha hb va vb w
/-- between two rounds: the map, the sets that have been laid, the room for the result -/
structure MQ (w W : World) (r : Nat → Int) (gs : List Gar) (N k : Nat) (seen : List Gar) : Prop where
  K : Known W (w.heap.size + 1) N r gs seen
  S : ∀ j, j < 8 → W.cell? ⟨w.heap.size + 1 + 1, j, none⟩ = some (.int .u8 (msOf r gs k j)) ∧ W.frozen? ⟨w.heap.size + 1 + 1, j, none⟩ = false
  R : ∀ j, j < 8 → W.cell? ⟨w.heap.size, j, none⟩ = some (.int .u8 0) ∧ W.frozen? ⟨w.heap.size, j, none⟩ = false
  B : Below w.heap.size w W
  z : w.heap.size + 1 + 1 < W.heap.size
theorem grown_of_below {w w' : World} (h : Below w.heap.size w w') : w.grownBy w' none := ⟨h.os, h.tape, h.output, h.size, fun k hk _ => h.block k hk⟩
theorem MQ.next {w W V : World} {r : Nat → Int} {gs : List Gar} {N k : Nat} {seen : List Gar} (h : MQ w W r gs N k seen) (hb : Below W.heap.size W V) : MQ w V r gs N k seen := by
  have hz := h.z
  exact ⟨h.K.kept (grown_of_below hb) (by simp), fun j hj => ⟨(hb.cell (p := ⟨w.heap.size + 1 + 1, j, none⟩) hz).trans (h.S j hj).1, (hb.frozen (p := ⟨w.heap.size + 1 + 1, j, none⟩) hz).trans (h.S j hj).2⟩,
    fun j hj => ⟨(hb.cell (p := ⟨w.heap.size, j, none⟩) (by show w.heap.size < _; omega)).trans (h.R j hj).1, (hb.frozen (p := ⟨w.heap.size, j, none⟩) (by show w.heap.size < _; omega)).trans (h.R j hj).2⟩,
    h.B.trans (hb.mono h.B.size), Nat.lt_of_lt_of_le hz hb.size⟩
theorem MQ.alloc {w W : World} {r : Nat → Int} {gs : List Gar} {N k : Nat} {seen : List Gar} (h : MQ w W r gs N k seen) (o : Obj) : MQ w (W.alloc o) r gs N k seen := h.next ((Below.refl _ _).alloc (Nat.le_refl _) _)
theorem MQ.turn {w W V : World} {r : Nat → Int} {gs : List Gar} {N N' k : Nat} {seen seen' : List Gar} (h : MQ w W r gs N k seen) (hg : W.grownBy V (some (w.heap.size + 1))) (hK : Known V (w.heap.size + 1) N' r gs seen') : MQ w V r gs N' k seen' := by
  have hz := h.z
  have c : ∀ p : Addr, p.block < W.heap.size → p.block ≠ w.heap.size + 1 → V.heap[p.block]? = W.heap[p.block]? := fun p h1 h2 => hg.block _ h1 (fun e => h2 (Option.some.inj e))
  have cc : ∀ p : Addr, p.block < W.heap.size → p.block ≠ w.heap.size + 1 → V.cell? p = W.cell? p := fun p h1 h2 => by unfold World.cell?; rw [c p h1 h2]
  have cf : ∀ p : Addr, p.block < W.heap.size → p.block ≠ w.heap.size + 1 → V.frozen? p = W.frozen? p := fun p h1 h2 => by unfold World.frozen?; rw [c p h1 h2]
  refine ⟨hK, fun j hj => ⟨(cc ⟨w.heap.size + 1 + 1, j, none⟩ hz (by show w.heap.size + 1 + 1 ≠ _; omega)).trans (h.S j hj).1, (cf ⟨w.heap.size + 1 + 1, j, none⟩ hz (by show w.heap.size + 1 + 1 ≠ _; omega)).trans (h.S j hj).2⟩,
    fun j hj => ⟨(cc ⟨w.heap.size, j, none⟩ (by show w.heap.size < _; omega) (by show w.heap.size ≠ _; omega)).trans (h.R j hj).1, (cf ⟨w.heap.size, j, none⟩ (by show w.heap.size < _; omega) (by show w.heap.size ≠ _; omega)).trans (h.R j hj).2⟩,
    h.B.grown hg h.B.size (fun k e => by cases e; omega), Nat.lt_of_lt_of_le hz hg.size⟩
theorem MQ.seen {w W : World} {r : Nat → Int} {gs : List Gar} {N N' k : Nat} {s s' : List Gar} (h : MQ w W r gs N k s) (hN : N ≤ N') (hs : ∀ y, y ∈ s ↔ y ∈ s') : MQ w W r gs N' k s' := by
  obtain ⟨⟨D, h1, h2⟩, b, c, d, e⟩ := h
  exact ⟨⟨D, h1.mono hN, fun y l hl => ⟨fun hy => (h2 y l hl).1 ((hs y).2 hy), fun hy => (h2 y l hl).2 fun q => hy ((hs y).1 q)⟩⟩, b, c, d, e⟩
theorem MQ.store {w W : World} {r : Nat → Int} {gs : List Gar} {N k : Nat} {seen : List Gar} (h : MQ w W r gs N k seen) (hk : k < 8) {x : Gar} (hx : gs[k]? = some x) : MQ w (W.setCell ⟨w.heap.size + 1 + 1, k, none⟩ (.int .u8 (setOf r gs x gs.length))) r gs N (k + 1) seen := by
  have hz := h.z
  refine ⟨?_, fun j hj => ⟨?_, by rw [World.frozen?_setCell]; exact (h.S j hj).2⟩, fun j hj => ⟨(World.cell?_setCell_far _ _ _ _ (by show w.heap.size + 1 + 1 ≠ w.heap.size; omega)).trans (h.R j hj).1, by rw [World.frozen?_setCell]; exact (h.R j hj).2⟩,
    h.B.setCell (p := ⟨w.heap.size + 1 + 1, k, none⟩) (by show w.heap.size ≤ w.heap.size + 1 + 1; omega) _, by rw [World.size_setCell]; exact hz⟩
  · obtain ⟨D, h1, h2⟩ := h.K
    exact ⟨D, h1.setCell (by show w.heap.size + 1 ≠ w.heap.size + 1 + 1; omega) _, h2⟩
  · by_cases e : j = k
    · subst e
      rw [World.cell?_setCell_same' _ _ _ (by rw [(h.S j hj).1]; rfl), msOf, if_pos (Nat.lt_succ_self j), hx]
      rfl
    · have hne : (⟨w.heap.size + 1 + 1, k, none⟩ : Addr) ≠ ⟨w.heap.size + 1 + 1, j, none⟩ := fun e2 => e (by injection e2 with _ e3 _; exact e3.symm)
      have hc : (W.setCell ⟨w.heap.size + 1 + 1, k, none⟩ (.int .u8 (setOf r gs x gs.length))).cell? ⟨w.heap.size + 1 + 1, j, none⟩ = W.cell? ⟨w.heap.size + 1 + 1, j, none⟩ := by first | exact World.cell?_setCell_other _ hne | exact World.cell?_setCell_other _ _ _ hne | exact World.cell?_setCell_other _ _ _ _ hne
      rw [hc, (h.S j hj).1]
      have e3 : msOf r gs (k + 1) j = msOf r gs k j := by
        unfold msOf
        by_cases h1 : j < k
        · rw [if_pos h1, if_pos (by omega)]
        · rw [if_neg h1, if_neg (by omega)]
      rw [e3]
abbrev zero8 : Array Value := #[.int .u8 0, .int .u8 0, .int .u8 0, .int .u8 0, .int .u8 0, .int .u8 0, .int .u8 0, .int .u8 0]
theorem zero8_at : ∀ j, j < 8 → zero8[j]? = some (.int .u8 0)
  | 0, _ => rfl
  | 1, _ => rfl
  | 2, _ => rfl
  | 3, _ => rfl
  | 4, _ => rfl
  | 5, _ => rfl
  | 6, _ => rfl
  | 7, _ => rfl
theorem or_pow (a q : Nat) (ha : a < 256) (hq : q < 8) : bits BinOp.or IntKind.u8 (a : Int) (2 ^ q % 256) = ((a ||| 2 ^ q : Nat) : Int) := by
  have h2 : 2 ^ q < 256 := Nat.pow_lt_pow_right (by decide) hq
  obtain ⟨p, hp⟩ : ∃ p : Nat, p = 2 ^ q := ⟨_, rfl⟩
  have e1 : ((2 : Int) ^ q) = (p : Int) := by rw [hp]; simp
  rw [← hp] at h2 ⊢
  rw [e1]
  have e : ((p : Int) % 256) = (p : Int) := by omega
  rw [e]
  exact (bits_nat .u8 8 (by decide) (fun n h0 h1 => by rw [IntKind.wrap_u8]; omega) a p ha h2).2
set_option maxRecDepth 100000 in
set_option maxHeartbeats 8000000 in
theorem meetingSets_any (r : Nat → Int) (hr : Six r) (A : Option Addr) (n c : Nat) (gs : List Gar) (en : n = gs.length) (hn : n ≤ 8) (hv : ∀ x ∈ gs, x.valid = true) (w : World) (hg : GS w w.heap.size A gs) :
    Calls Tryd.prog 115 #[.func (.func 92) #[rulesV r] #[], .slice A n c] w fun o w' => o = .returned (eightV (msOf r gs n)) ∧ Below w.heap.size w w' := by
  have En := Lib.hid en
  clear en
  have hmm := @run_makeMap Tryd.prog
  go_enter Tryd.func115, Tryd.ntmps115
  go_wp2_with fail
  go_loopw [16] (fun vi wr => ∃ k : Nat, k ≤ n ∧ vi = .int .i64 k ∧ MQ w wr r gs k k (gs.take k)) (fun vi _ => n - (intOf vi).toNat)
  case atStart =>
    have e1 : (w.alloc (.cells zero8 102)).heap.size = w.heap.size + 1 := by simp
    have e2 : ((w.alloc (.cells zero8 102)).alloc (.map #[] 0)).heap.size = w.heap.size + 1 + 1 := by simp
    have h1 := heap_alloc_new (w.alloc (.cells zero8 102)) (.map #[] 0)
    have h2 := heap_alloc_new ((w.alloc (.cells zero8 102)).alloc (.map #[] 0)) (.cells zero8 102)
    rw [e1] at h1
    rw [e2] at h2
    have h0 : (((w.alloc (.cells zero8 102)).alloc (.map #[] 0)).alloc (.cells zero8 102)).heap[w.heap.size]? = some (.cells zero8 102) := (heap_alloc_old _ _ _ (by omega)).trans ((heap_alloc_old _ _ _ (by omega)).trans (heap_alloc_new w _))
    have hK : Known ((w.alloc (.cells zero8 102)).alloc (.map #[] 0)) (w.heap.size + 1) 0 r gs [] := by
      have := Known.new (w.alloc (.cells zero8 102)) r gs
      rwa [e1] at this
    refine ⟨0, by omega, rfl, hK.kept (World.grownBy_alloc _ _ none) (by simp), fun j hj => ⟨(cell_of_row _ _ _ _ _ _ h2).trans ?_, ?_⟩, fun j hj => ⟨(cell_of_row _ _ _ _ _ _ h0).trans ?_, ?_⟩, (((Below.refl _ w).alloc (Nat.le_refl _) _).alloc (by simp) _).alloc (by simp; omega) _, by simp⟩
    · rw [zero8_at j hj]; rfl
    · unfold World.frozen?; rw [h2]; rfl
    · exact zero8_at j hj
    · unfold World.frozen?; rw [h0]; rfl
  case round =>
    obtain ⟨k, hk, rfl, hQ⟩ := hrel
    have HQ := Lib.hid hQ
    have hz := hQ.z
    clear hQ hmm
    obtain ⟨wo, rfl⟩ : ∃ wo, wo = wr := ⟨wr, rfl⟩
    by_cases hlt : k < n
    · obtain ⟨x, hx⟩ : ∃ x, gs[k]? = some x := ⟨gs[k]'(by have := En.out; omega), List.getElem?_eq_getElem _⟩
      obtain ⟨a, ea, hab, hg0, hg1, hg2, hg3⟩ := (hg.below HQ.out.B).at_ k x hx
      subst ea
      have hxf := hg.fits x (List.mem_of_getElem? hx)
      have hxv := hv x (List.mem_of_getElem? hx)
      have HX := Lib.hid hx
      have i0 : (0 : Int) ≤ (k : Int) := by omega
      have i1 : (k : Int) < (n : Int) := by omega
      have i2 : (k : Int) < 8 := by omega
      have HQ1 := Lib.hid (HQ.out.alloc (.cells #[.int .u8 x.c, .int .i8 x.n, .int .i8 x.m, .int .i16 x.g] 96))
      obtain ⟨l1, l2⟩ := HQ1.out.K.look x hxf
      obtain ⟨s1, s2⟩ := HQ.out.S k (by omega)
      have etk := Lib.hid (take_snoc hx)
      clear hx
      by_cases hin : x ∈ gs.take k
      · have hl := l1 hin
        have HIN := Lib.hid hin
        clear l1 l2 hin
        go_wp2_with fail
        go_roundw
        case rel =>
          refine ⟨k + 1, by omega, by go_num, ?_⟩
          refine (((HQ.out.store (by omega) HX.out).alloc _).seen (Nat.le_succ _) fun y => ?_)
          rw [etk.out, List.mem_append, List.mem_singleton]
          exact ⟨.inl, fun h => h.elim id fun e => by rw [e]; exact HIN.out⟩
        case measure => simp [intOf]; omega
      · have hl := l2 hin
        have HIN := Lib.hid hin
        clear l1 l2 hin
        go_wp2_with fail
        obtain ⟨w1, hw1⟩ : ∃ w1, w1 = wo.alloc (.cells #[.int .u8 x.c, .int .i8 x.n, .int .i8 x.m, .int .i16 x.g] 96) := ⟨_, rfl⟩
        rw [← hw1] at HQ1 ⊢
        have q0 : w1.cell? ⟨wo.heap.size, 0, none⟩ = some (.int .u8 x.c) := by rw [hw1]; exact cell_of_row _ _ _ _ _ _ (heap_alloc_new wo _)
        have q1 : w1.cell? ⟨wo.heap.size, 1, none⟩ = some (.int .i8 x.n) := by rw [hw1]; exact cell_of_row _ _ _ _ _ _ (heap_alloc_new wo _)
        have q2 : w1.cell? ⟨wo.heap.size, 2, none⟩ = some (.int .i8 x.m) := by rw [hw1]; exact cell_of_row _ _ _ _ _ _ (heap_alloc_new wo _)
        have q3 : w1.cell? ⟨wo.heap.size, 3, none⟩ = some (.int .i16 x.g) := by rw [hw1]; exact cell_of_row _ _ _ _ _ _ (heap_alloc_new wo _)
        have hz1 : wo.heap.size < w1.heap.size := by rw [hw1]; simp
        clear hl hg0 hg1 hg2 hg3 s1 s2 hw1
        go_loopw [9, 31] (fun vs vq wz => ∃ q : Nat, q ≤ n ∧ vq = .int .i64 q ∧ vs = .int .u8 (setOf r gs x q) ∧ Below w1.heap.size w1 wz) (fun _ vq _ => n - (intOf vq).toNat)
        case atStart => exact ⟨0, by omega, rfl, rfl, Below.refl _ _⟩
        case round =>
          obtain ⟨q, hq, rfl, rfl, hb⟩ := hrel
          by_cases hqn : q < n
          · obtain ⟨y, hy⟩ : ∃ y, gs[q]? = some y := ⟨gs[q]'(by have := En.out; omega), List.getElem?_eq_getElem _⟩
            obtain ⟨a', ea', hab', hga'⟩ := (hg.below (HQ1.out.B.trans (hb.mono HQ1.out.B.size))).at_ q y hy
            obtain rfl := Option.some.inj ea'
            obtain ⟨p0, p1, p2, p3⟩ := hga'
            have hyf := hg.fits y (List.mem_of_getElem? hy)
            have hyv := hv y (List.mem_of_getElem? hy)
            have HY := Lib.hid hy
            have HBz := Lib.hid hb
            have r0 := (hb.cell (p := ⟨wo.heap.size, 0, none⟩) hz1).trans q0
            have r1 := (hb.cell (p := ⟨wo.heap.size, 1, none⟩) hz1).trans q1
            have r2 := (hb.cell (p := ⟨wo.heap.size, 2, none⟩) hz1).trans q2
            have r3 := (hb.cell (p := ⟨wo.heap.size, 3, none⟩) hz1).trans q3
            have j0 : (0 : Int) ≤ (q : Int) := by omega
            have j1 : (q : Int) < (n : Int) := by omega
            have hlt2 := setOf_lt r gs x q (by omega)
            have hwz := hb.size
            have hoz : wo.heap.size < wr.heap.size := by omega
            have hoz2 : ¬ wo.heap.size = wr.heap.size := by omega
            have hoz3 : ¬ wr.heap.size = wo.heap.size := by omega
            clear q0 q1 q2 q3 hb hy ea'
            cases hv2 : meetB r x y with
            | true =>
              have HV := Lib.hid hv2
              clear hv2
              go_wp2_with (go_at_call 92; refine (meet_v r hr x y hxf hyf hxv hyv _ true HV.out).mono ?_; rintro o w3 ⟨rfl, hb3⟩)
              go_roundw
              case rel => exact ⟨q + 1, by omega, by go_num, by rw [or_pow _ _ hlt2 (by omega), setOf_yes HY.out HV.out], HBz.out.trans (((Below.refl _ _).alloc (Nat.le_refl _) _).trans (hb3.mono (by simp)) |>.mono hwz)⟩
              case measure => simp [intOf]; omega
            | false =>
              have HV := Lib.hid hv2
              clear hv2
              go_wp2_with (go_at_call 92; refine (meet_v r hr x y hxf hyf hxv hyv _ false HV.out).mono ?_; rintro o w3 ⟨rfl, hb3⟩)
              go_roundw
              case rel => exact ⟨q + 1, by omega, by go_num, by rw [setOf_no HY.out HV.out], HBz.out.trans (((Below.refl _ _).alloc (Nat.le_refl _) _).trans (hb3.mono (by simp)) |>.mono hwz)⟩
              case measure => simp [intOf]; omega
          · obtain rfl : q = n := by omega
            have HQ2 := Lib.hid (HQ1.out.next hb)
            obtain ⟨w4, hput, hK4, hg4⟩ := HQ2.out.K.put (by unfold maxLen; omega) (by have := En.out; omega) x hxf
            rw [← En.out] at hput
            have HQ4 := Lib.hid (HQ2.out.turn hg4 hK4)
            obtain ⟨s1, s2⟩ := HQ4.out.S k (by omega)
            have r0 := (hb.cell (p := ⟨wo.heap.size, 0, none⟩) hz1).trans q0
            have r1 := (hb.cell (p := ⟨wo.heap.size, 1, none⟩) hz1).trans q1
            have r2 := (hb.cell (p := ⟨wo.heap.size, 2, none⟩) hz1).trans q2
            have r3 := (hb.cell (p := ⟨wo.heap.size, 3, none⟩) hz1).trans q3
            clear q0 q1 q2 q3 hb hK4 hg4
            go_wp2_with fail
            go_roundw
            case rel =>
              have h5 := HQ4.out.store (by omega) HX.out
              rw [← En.out, ← etk.out] at h5
              exact ⟨k + 1, by omega, by go_num, h5⟩
            case measure => simp [intOf]; omega
    · obtain rfl : k = n := by omega
      obtain ⟨sa0, sb0⟩ := HQ.out.S 0 (by omega)
      obtain ⟨ra0, rb0⟩ := HQ.out.R 0 (by omega)
      obtain ⟨sa1, sb1⟩ := HQ.out.S 1 (by omega)
      obtain ⟨ra1, rb1⟩ := HQ.out.R 1 (by omega)
      obtain ⟨sa2, sb2⟩ := HQ.out.S 2 (by omega)
      obtain ⟨ra2, rb2⟩ := HQ.out.R 2 (by omega)
      obtain ⟨sa3, sb3⟩ := HQ.out.S 3 (by omega)
      obtain ⟨ra3, rb3⟩ := HQ.out.R 3 (by omega)
      obtain ⟨sa4, sb4⟩ := HQ.out.S 4 (by omega)
      obtain ⟨ra4, rb4⟩ := HQ.out.R 4 (by omega)
      obtain ⟨sa5, sb5⟩ := HQ.out.S 5 (by omega)
      obtain ⟨ra5, rb5⟩ := HQ.out.R 5 (by omega)
      obtain ⟨sa6, sb6⟩ := HQ.out.S 6 (by omega)
      obtain ⟨ra6, rb6⟩ := HQ.out.R 6 (by omega)
      obtain ⟨sa7, sb7⟩ := HQ.out.S 7 (by omega)
      obtain ⟨ra7, rb7⟩ := HQ.out.R 7 (by omega)
      go_wp2_with fail
      obtain ⟨V, hV⟩ : ∃ V, V = wo.setCells w.heap.size 0 [.int .u8 (msOf r gs k 0), .int .u8 (msOf r gs k 1), .int .u8 (msOf r gs k 2), .int .u8 (msOf r gs k 3), .int .u8 (msOf r gs k 4), .int .u8 (msOf r gs k 5), .int .u8 (msOf r gs k 6), .int .u8 (msOf r gs k 7)] := ⟨_, rfl⟩
      have hbV : Below w.heap.size w V := by rw [hV]; exact below_setCells HQ.out.B (Nat.le_refl _) _ _
      have hcV : ∀ (j : Nat) (hj : j < 8), V.cell? ⟨w.heap.size, j, none⟩ = some ([Value.int .u8 (msOf r gs k 0), .int .u8 (msOf r gs k 1), .int .u8 (msOf r gs k 2), .int .u8 (msOf r gs k 3), .int .u8 (msOf r gs k 4), .int .u8 (msOf r gs k 5), .int .u8 (msOf r gs k 6), .int .u8 (msOf r gs k 7)][j]'hj) := fun j hj => by
        have h := World.cell?_setCells_in w.heap.size [.int .u8 (msOf r gs k 0), .int .u8 (msOf r gs k 1), .int .u8 (msOf r gs k 2), .int .u8 (msOf r gs k 3), .int .u8 (msOf r gs k 4), .int .u8 (msOf r gs k 5), .int .u8 (msOf r gs k 6), .int .u8 (msOf r gs k 7)] 0 wo (fun i hi => by rw [Nat.zero_add, (HQ.out.R i hi).1]; rfl) j hj
        rw [Nat.zero_add] at h
        rw [hV]
        exact h
      have hV2 := hV
      simp only [World.setCells, Nat.reduceAdd] at hV2
      rw [← hV2]
      have d0 := hcV 0 (by omega)
      have d1 := hcV 1 (by omega)
      have d2 := hcV 2 (by omega)
      have d3 := hcV 3 (by omega)
      have d4 := hcV 4 (by omega)
      have d5 := hcV 5 (by omega)
      have d6 := hcV 6 (by omega)
      have d7 := hcV 7 (by omega)
      clear hV hV2 hcV
      refine bodyPost_ret (v := eightV (msOf r gs k)) ?_ rfl ⟨rfl, hbV⟩
      simp only [List.getElem_cons_zero, List.getElem_cons_succ] at d0 d1 d2 d3 d4 d5 d6 d7
      simp [results, Tryd.results115, go_sem, d0, d1, d2, d3, d4, d5, d6, d7]
end Go.Proofs.YtekigapeekjigaaDoor.mem
