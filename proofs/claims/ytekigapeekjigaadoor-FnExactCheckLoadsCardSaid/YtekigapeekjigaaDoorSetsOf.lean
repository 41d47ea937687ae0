/-
  Contract of the program's setsOf: the sets that loads tell.
-/
import Derived.Test.YtekigapeekjigaaDoorLoadJ
import Derived.Test.YtekigapeekjigaaDoorWith
import Derived.RegionTactic
import Derived.ChangeAlike
import Derived.Outline
namespace Go.Proofs.YtekigapeekjigaaDoor.mem
open Go Go.RowKit errs garS heats meet load sl

/-- the set of each number -/
def setF (ls : List Int) (k : Nat) : Nat → Int := fun j => ((setK ls (j : Int) k : Nat) : Int)
def zeroF : Nat → Int := fun _ => 0
/-- what setsOf returns -/
def setsV (ls : List Int) (n : Nat) (b : Bool) : Nat → Int := if b = true then setF ls n else zeroF
/-- a basket in its box, the room for the result, none, and the sets -/
structure SQ (w W : World) (A : Option Addr) (n c : Nat) (m : Nat → Int) (hold : Int) (f : Nat → Int) : Prop where
  K : Bask W w.heap.size A n c m hold
  R : ∀ j, j < 8 → W.cell? ⟨w.heap.size + 1, j, none⟩ = some (.int .u8 0) ∧ W.frozen? ⟨w.heap.size + 1, j, none⟩ = false
  N : ∀ j, j < 8 → W.cell? ⟨w.heap.size + 1 + 1, j, none⟩ = some (.int .u8 0) ∧ W.frozen? ⟨w.heap.size + 1 + 1, j, none⟩ = false
  S : ∀ j, j < 8 → W.cell? ⟨w.heap.size + 1 + 1 + 1, j, none⟩ = some (.int .u8 (f j)) ∧ W.frozen? ⟨w.heap.size + 1 + 1 + 1, j, none⟩ = false
  B : Below w.heap.size w W
  z : w.heap.size + 1 + 1 + 1 < W.heap.size
theorem SQ.next {w W V : World} {A : Option Addr} {n c : Nat} {m : Nat → Int} {hold : Int} {f : Nat → Int} (h : SQ w W A n c m hold f) (hb : Below W.heap.size W V) : SQ w V A n c m hold f := by
  have hz := h.z
  have cc : ∀ g j, g ≤ w.heap.size + 1 + 1 + 1 → V.cell? ⟨g, j, none⟩ = W.cell? ⟨g, j, none⟩ := fun g j hg => hb.cell (p := ⟨g, j, none⟩) (by show g < _; omega)
  have cf : ∀ g j, g ≤ w.heap.size + 1 + 1 + 1 → V.frozen? ⟨g, j, none⟩ = W.frozen? ⟨g, j, none⟩ := fun g j hg => hb.frozen (p := ⟨g, j, none⟩) (by show g < _; omega)
  refine ⟨h.K.keep fun j v hv => (cc _ _ (by omega)).trans hv, fun j hj => ⟨(cc _ _ (by omega)).trans (h.R j hj).1, (cf _ _ (by omega)).trans (h.R j hj).2⟩, fun j hj => ⟨(cc _ _ (by omega)).trans (h.N j hj).1, (cf _ _ (by omega)).trans (h.N j hj).2⟩,
    fun j hj => ⟨(cc _ _ (by omega)).trans (h.S j hj).1, (cf _ _ (by omega)).trans (h.S j hj).2⟩, h.B.trans (hb.mono h.B.size), Nat.lt_of_lt_of_le hz hb.size⟩
theorem cell_setCell_ne (W : World) (g a b : Nat) (v : Value) (h : a ≠ b) : (W.setCell ⟨g, a, none⟩ v).cell? ⟨g, b, none⟩ = W.cell? ⟨g, b, none⟩ := by
  have hne : (⟨g, a, none⟩ : Addr) ≠ ⟨g, b, none⟩ := fun e2 => h (by injection e2)
  first | exact World.cell?_setCell_other _ hne | exact World.cell?_setCell_other _ _ _ hne | exact World.cell?_setCell_other _ _ _ _ hne
theorem SQ.put {w W : World} {A : Option Addr} {n c : Nat} {m : Nat → Int} {hold : Int} {f f' : Nat → Int} (h : SQ w W A n c m hold f) (a : Nat) (ha : a < 8) (v : Int) (h1 : f' a = v) (h2 : ∀ j, j ≠ a → f' j = f j) : SQ w (W.setCell ⟨w.heap.size + 1 + 1 + 1, a, none⟩ (.int .u8 v)) A n c m hold f' := by
  have hz := h.z
  have cc : ∀ g j, g ≤ w.heap.size + 1 + 1 → (W.setCell ⟨w.heap.size + 1 + 1 + 1, a, none⟩ (.int .u8 v)).cell? ⟨g, j, none⟩ = W.cell? ⟨g, j, none⟩ := fun g j hg => World.cell?_setCell_far _ _ _ _ (by show w.heap.size + 1 + 1 + 1 ≠ g; omega)
  refine ⟨h.K.keep fun j v hv => (cc _ _ (by omega)).trans hv, fun j hj => ⟨(cc _ _ (by omega)).trans (h.R j hj).1, by rw [World.frozen?_setCell]; exact (h.R j hj).2⟩, fun j hj => ⟨(cc _ _ (by omega)).trans (h.N j hj).1, by rw [World.frozen?_setCell]; exact (h.N j hj).2⟩,
    fun j hj => ⟨?_, by rw [World.frozen?_setCell]; exact (h.S j hj).2⟩, h.B.setCell (p := ⟨w.heap.size + 1 + 1 + 1, a, none⟩) (by show w.heap.size ≤ w.heap.size + 1 + 1 + 1; omega) _, by rw [World.size_setCell]; exact hz⟩
  by_cases e : j = a
  · subst e
    rw [World.cell?_setCell_same' _ _ _ (by rw [(h.S j hj).1]; rfl), h1]
  · rw [cell_setCell_ne _ _ _ _ _ (Ne.symm e), (h.S j hj).1, h2 j e]
theorem SQ.new (w : World) (A : Option Addr) (n c : Nat) (m : Nat → Int) (hold : Int) (ls : List Int) (t t' : TypeId) : SQ w ((((w.alloc (.cells (bC A n c m hold) t)).alloc (.cells zero8 t')).alloc (.cells zero8 t')).alloc (.cells zero8 t')) A n c m hold (setF ls 0) := by
  obtain ⟨g0, g1, g2, g3, hsz, hB⟩ := heap4 w (.cells (bC A n c m hold) t) (.cells zero8 t') (.cells zero8 t') (.cells zero8 t')
  have fz : ∀ {W : World} {g j : Nat}, W.heap[g]? = some (.cells zero8 t' (0, 0)) → W.frozen? ⟨g, j, none⟩ = false := fun h => by unfold World.frozen?; rw [h]; rfl
  refine ⟨⟨cell_of_row _ _ _ _ _ _ g0, fun j hj => (cell_of_row _ _ _ _ _ _ g0).trans (bC_m A n c m hold j hj), cell_of_row _ _ _ _ _ _ g0⟩, fun j hj => ⟨(cell_of_row _ _ _ _ _ _ g1).trans (zero8_at j hj), fz g1⟩, fun j hj => ⟨(cell_of_row _ _ _ _ _ _ g2).trans (zero8_at j hj), fz g2⟩, fun j hj => ⟨(cell_of_row _ _ _ _ _ _ g3).trans (zero8_at j hj), fz g3⟩, hB, by omega⟩
theorem setF_put {ls : List Int} {k a : Nat} (hx : ls[k]? = some (a : Int)) : setF ls (k + 1) a = ((setK ls a k ||| 2 ^ k : Nat) : Int) := by
  unfold setF
  rw [setK, if_pos hx]
theorem setF_else {ls : List Int} {k a : Nat} (hx : ls[k]? = some (a : Int)) (j : Nat) (hj : j ≠ a) : setF ls (k + 1) j = setF ls k j := by
  unfold setF
  rw [setK, if_neg (by rw [hx]; simp; omega)]
theorem upto {p : Nat → Prop} {q : Nat} (h1 : ∀ j : Nat, j < q → p j) (h2 : p q) : ∀ j : Nat, j < q + 1 → p j := fun j hj => by
  rcases Nat.lt_or_ge j q with h3 | h3
  · exact h1 j h3
  · obtain rfl : j = q := by omega
    exact h2
theorem run_index_eight (f : Nat → Int) {k : Nat} (hk : k < 8) (s : Int) (hs : f k = s) (u : World) : (Instr.index 102 (eightV f) (.int .i64 k)).run Tryd.prog u = .ok (.int .u8 s) u := by
  subst hs
  have i0 : (Instr.index 102 (eightV f) (.int .i64 (0 : Nat))).run Tryd.prog u = .ok (.int .u8 (f 0)) u := by kernel_rfl
  have i1 : (Instr.index 102 (eightV f) (.int .i64 (1 : Nat))).run Tryd.prog u = .ok (.int .u8 (f 1)) u := by kernel_rfl
  have i2 : (Instr.index 102 (eightV f) (.int .i64 (2 : Nat))).run Tryd.prog u = .ok (.int .u8 (f 2)) u := by kernel_rfl
  have i3 : (Instr.index 102 (eightV f) (.int .i64 (3 : Nat))).run Tryd.prog u = .ok (.int .u8 (f 3)) u := by kernel_rfl
  have i4 : (Instr.index 102 (eightV f) (.int .i64 (4 : Nat))).run Tryd.prog u = .ok (.int .u8 (f 4)) u := by kernel_rfl
  have i5 : (Instr.index 102 (eightV f) (.int .i64 (5 : Nat))).run Tryd.prog u = .ok (.int .u8 (f 5)) u := by kernel_rfl
  have i6 : (Instr.index 102 (eightV f) (.int .i64 (6 : Nat))).run Tryd.prog u = .ok (.int .u8 (f 6)) u := by kernel_rfl
  have i7 : (Instr.index 102 (eightV f) (.int .i64 (7 : Nat))).run Tryd.prog u = .ok (.int .u8 (f 7)) u := by kernel_rfl
  match k, hk with
  | 0, _ => exact i0
  | 1, _ => exact i1
  | 2, _ => exact i2
  | 3, _ => exact i3
  | 4, _ => exact i4
  | 5, _ => exact i5
  | 6, _ => exact i6
  | 7, _ => exact i7
set_option maxRecDepth 100000 in
set_option maxHeartbeats 8000000 in
theorem setsOf_any (A : Option Addr) (n c : Nat) (gs : List Gar) (en : n = gs.length) (hn : n ≤ 8) (ms : Nat → Int) (hold : Int) (A' : Option Addr) (m c' : Nat) (ls : List Int) (em : m = ls.length) (hm : m ≤ 1048576) (w : World) (hg : GS w w.heap.size A gs) (ho : Sl intS.C 1 w w.heap.size A' ls) (b : Bool) (hb : b = true ↔ RightB gs ms hold ls) :
    Calls Tryd.prog 70 #[bV A n c ms hold, .slice A' m c'] w fun o w' => o = .returned (.tuple #[eightV (setsV ls n b), .bool b]) ∧ Below w.heap.size w w' := by
  have En := Lib.hid en
  have Em := Lib.hid em
  have HB := Lib.hid hb
  clear en em hb
  have S0 := Lib.hid (SQ.new w A n c ms hold ls 105 102)
  have hno : ∀ {p : Prop}, ¬ p → (b = true → p) → b = false := fun hp h => by
    cases hbb : b with
    | false => rfl
    | true => exact absurd (h hbb) hp
  by_cases hmn : m = n
  · subst hmn
    have c0 := S0.out.K.s
    go_enter Tryd.func70, Tryd.ntmps70
    go_wp2_with fail
    go_loopw [21] (fun vi wr => ∃ k : Nat, k ≤ m ∧ vi = .int .i64 k ∧ (∀ j x, j < k → ls[j]? = some x → 0 ≤ x ∧ x < 8) ∧ SQ w wr A m c ms hold (setF ls k)) (fun vi _ => m - (intOf vi).toNat)
    case atStart => exact ⟨0, by omega, rfl, fun j x h => absurd h (by omega), S0.out⟩
    case round =>
      clear S0 c0
      obtain ⟨k, hk, rfl, hq, hQ⟩ := hrel
      have HQ := Lib.hid hq
      have HS := Lib.hid hQ
      clear hq
      by_cases hlt : k < m
      · obtain ⟨x, hx⟩ : ∃ x, ls[k]? = some x := ⟨ls[k]'(by have := Em.out; omega), List.getElem?_eq_getElem _⟩
        obtain ⟨a, rfl, hab, hat⟩ := (ho.below hQ.B).at_ k x hx
        have q0 := intS.at_ hat
        have HX := Lib.hid hx
        clear hx hat hQ
        by_cases hx0 : x < 0
        · have hbf : b = false := hno (p := 0 ≤ x ∧ x < 8) (by omega) fun h => (HB.out.1 h).2.1 x (List.mem_of_getElem? HX.out)
          obtain ⟨ra0, rb0⟩ := HS.out.R 0 (by omega)
          obtain ⟨ra1, rb1⟩ := HS.out.R 1 (by omega)
          obtain ⟨ra2, rb2⟩ := HS.out.R 2 (by omega)
          obtain ⟨ra3, rb3⟩ := HS.out.R 3 (by omega)
          obtain ⟨ra4, rb4⟩ := HS.out.R 4 (by omega)
          obtain ⟨ra5, rb5⟩ := HS.out.R 5 (by omega)
          obtain ⟨ra6, rb6⟩ := HS.out.R 6 (by omega)
          obtain ⟨ra7, rb7⟩ := HS.out.R 7 (by omega)
          obtain ⟨na0, nb0⟩ := HS.out.N 0 (by omega)
          obtain ⟨na1, nb1⟩ := HS.out.N 1 (by omega)
          obtain ⟨na2, nb2⟩ := HS.out.N 2 (by omega)
          obtain ⟨na3, nb3⟩ := HS.out.N 3 (by omega)
          obtain ⟨na4, nb4⟩ := HS.out.N 4 (by omega)
          obtain ⟨na5, nb5⟩ := HS.out.N 5 (by omega)
          obtain ⟨na6, nb6⟩ := HS.out.N 6 (by omega)
          obtain ⟨na7, nb7⟩ := HS.out.N 7 (by omega)
          subst hbf
          go_wp2_with fail
          obtain ⟨V, hV⟩ : ∃ V, V = wr.setCells (w.heap.size + 1) 0 [.int .u8 (zeroF 0), .int .u8 (zeroF 1), .int .u8 (zeroF 2), .int .u8 (zeroF 3), .int .u8 (zeroF 4), .int .u8 (zeroF 5), .int .u8 (zeroF 6), .int .u8 (zeroF 7)] := ⟨_, rfl⟩
          have hbV : Below w.heap.size w V := by rw [hV]; exact below_setCells HS.out.B (by omega) _ _
          have hcV : ∀ (j : Nat) (hj : j < 8), V.cell? ⟨w.heap.size + 1, j, none⟩ = some ([Value.int .u8 (zeroF 0), .int .u8 (zeroF 1), .int .u8 (zeroF 2), .int .u8 (zeroF 3), .int .u8 (zeroF 4), .int .u8 (zeroF 5), .int .u8 (zeroF 6), .int .u8 (zeroF 7)][j]'hj) := fun j hj => by
            have h := World.cell?_setCells_in (w.heap.size + 1) [.int .u8 (zeroF 0), .int .u8 (zeroF 1), .int .u8 (zeroF 2), .int .u8 (zeroF 3), .int .u8 (zeroF 4), .int .u8 (zeroF 5), .int .u8 (zeroF 6), .int .u8 (zeroF 7)] 0 wr (fun i hi => by rw [Nat.zero_add, (HS.out.R i hi).1]; rfl) j hj
            rw [Nat.zero_add] at h
            rw [hV]
            exact h
          have hV2 := hV
          simp only [World.setCells, Nat.reduceAdd, zeroF] at hV2
          rw [← hV2]
          have d0 := hcV 0 (by omega)
          have d1 := hcV 1 (by omega)
          have d2 := hcV 2 (by omega)
          have d3 := hcV 3 (by omega)
          have d4 := hcV 4 (by omega)
          have d5 := hcV 5 (by omega)
          have d6 := hcV 6 (by omega)
          have d7 := hcV 7 (by omega)
          clear hV hV2 hcV
          simp only [List.getElem_cons_zero, List.getElem_cons_succ] at d0 d1 d2 d3 d4 d5 d6 d7
          refine bodyPost_ret (v := .tuple #[eightV zeroF, .bool false]) ?_ rfl ⟨rfl, hbV⟩
          simp [results, Tryd.results70, go_sem, d0, d1, d2, d3, d4, d5, d6, d7]
        · by_cases hx1 : 8 ≤ x
          · have hbf : b = false := hno (p := 0 ≤ x ∧ x < 8) (by omega) fun h => (HB.out.1 h).2.1 x (List.mem_of_getElem? HX.out)
            obtain ⟨ra0, rb0⟩ := HS.out.R 0 (by omega)
            obtain ⟨ra1, rb1⟩ := HS.out.R 1 (by omega)
            obtain ⟨ra2, rb2⟩ := HS.out.R 2 (by omega)
            obtain ⟨ra3, rb3⟩ := HS.out.R 3 (by omega)
            obtain ⟨ra4, rb4⟩ := HS.out.R 4 (by omega)
            obtain ⟨ra5, rb5⟩ := HS.out.R 5 (by omega)
            obtain ⟨ra6, rb6⟩ := HS.out.R 6 (by omega)
            obtain ⟨ra7, rb7⟩ := HS.out.R 7 (by omega)
            obtain ⟨na0, nb0⟩ := HS.out.N 0 (by omega)
            obtain ⟨na1, nb1⟩ := HS.out.N 1 (by omega)
            obtain ⟨na2, nb2⟩ := HS.out.N 2 (by omega)
            obtain ⟨na3, nb3⟩ := HS.out.N 3 (by omega)
            obtain ⟨na4, nb4⟩ := HS.out.N 4 (by omega)
            obtain ⟨na5, nb5⟩ := HS.out.N 5 (by omega)
            obtain ⟨na6, nb6⟩ := HS.out.N 6 (by omega)
            obtain ⟨na7, nb7⟩ := HS.out.N 7 (by omega)
            subst hbf
            go_wp2_with fail
            obtain ⟨V, hV⟩ : ∃ V, V = wr.setCells (w.heap.size + 1) 0 [.int .u8 (zeroF 0), .int .u8 (zeroF 1), .int .u8 (zeroF 2), .int .u8 (zeroF 3), .int .u8 (zeroF 4), .int .u8 (zeroF 5), .int .u8 (zeroF 6), .int .u8 (zeroF 7)] := ⟨_, rfl⟩
            have hbV : Below w.heap.size w V := by rw [hV]; exact below_setCells HS.out.B (by omega) _ _
            have hcV : ∀ (j : Nat) (hj : j < 8), V.cell? ⟨w.heap.size + 1, j, none⟩ = some ([Value.int .u8 (zeroF 0), .int .u8 (zeroF 1), .int .u8 (zeroF 2), .int .u8 (zeroF 3), .int .u8 (zeroF 4), .int .u8 (zeroF 5), .int .u8 (zeroF 6), .int .u8 (zeroF 7)][j]'hj) := fun j hj => by
              have h := World.cell?_setCells_in (w.heap.size + 1) [.int .u8 (zeroF 0), .int .u8 (zeroF 1), .int .u8 (zeroF 2), .int .u8 (zeroF 3), .int .u8 (zeroF 4), .int .u8 (zeroF 5), .int .u8 (zeroF 6), .int .u8 (zeroF 7)] 0 wr (fun i hi => by rw [Nat.zero_add, (HS.out.R i hi).1]; rfl) j hj
              rw [Nat.zero_add] at h
              rw [hV]
              exact h
            have hV2 := hV
            simp only [World.setCells, Nat.reduceAdd, zeroF] at hV2
            rw [← hV2]
            have d0 := hcV 0 (by omega)
            have d1 := hcV 1 (by omega)
            have d2 := hcV 2 (by omega)
            have d3 := hcV 3 (by omega)
            have d4 := hcV 4 (by omega)
            have d5 := hcV 5 (by omega)
            have d6 := hcV 6 (by omega)
            have d7 := hcV 7 (by omega)
            clear hV hV2 hcV
            simp only [List.getElem_cons_zero, List.getElem_cons_succ] at d0 d1 d2 d3 d4 d5 d6 d7
            refine bodyPost_ret (v := .tuple #[eightV zeroF, .bool false]) ?_ rfl ⟨rfl, hbV⟩
            simp [results, Tryd.results70, go_sem, d0, d1, d2, d3, d4, d5, d6, d7]
          · obtain ⟨y, rfl⟩ : ∃ y : Nat, x = (y : Int) := ⟨x.toNat, by omega⟩
            have hy : y < 8 := by omega
            obtain ⟨s1, s2⟩ := HS.out.S y hy
            have hk8 : k < 8 := by omega
            have hsl := setK_lt ls (y : Int) k (by omega)
            have z0 : (0 : Int) ≤ (y : Int) := by omega
            have z1 : (y : Int) < 8 := by omega
            have z2 : (0 : Int) ≤ (k : Int) := by omega
            clear hx0 hx1
            go_wp2_with fail
            go_region
            all_goals
              go_wp2_with fail
              go_roundw
              case rel => exact ⟨k + 1, by omega, by go_num, fun j x hj hx => by
                rcases Nat.lt_or_ge j k with h1 | h1
                · exact HQ.out j x h1 hx
                · obtain rfl : j = k := by omega
                  have e := HX.out
                  rw [hx] at e
                  rw [Option.some.inj e]
                  omega, (HS.out.put y hy _ ((setF_put HX.out).trans (or_pow _ _ hsl hk8).symm) (setF_else HX.out)).next ((Below.refl _ _).drew)⟩
              case measure => simp [intOf]; omega
      · obtain rfl : k = m := by omega
        obtain ⟨sa0, sb0⟩ := HS.out.S 0 (by omega)
        obtain ⟨sa1, sb1⟩ := HS.out.S 1 (by omega)
        obtain ⟨sa2, sb2⟩ := HS.out.S 2 (by omega)
        obtain ⟨sa3, sb3⟩ := HS.out.S 3 (by omega)
        obtain ⟨sa4, sb4⟩ := HS.out.S 4 (by omega)
        obtain ⟨sa5, sb5⟩ := HS.out.S 5 (by omega)
        obtain ⟨sa6, sb6⟩ := HS.out.S 6 (by omega)
        obtain ⟨sa7, sb7⟩ := HS.out.S 7 (by omega)
        clear hQ
        go_wp2_with fail
        clear sa0 sa1 sa2 sa3 sa4 sa5 sa6 sa7 sb0 sb1 sb2 sb3 sb4 sb5 sb6 sb7
        obtain ⟨w1, rfl⟩ : ∃ w1, w1 = wr := ⟨wr, rfl⟩
        go_loopw [42] (fun vi wr => ∃ q : Nat, q ≤ 8 ∧ vi = .int .i64 q ∧ (∀ j : Nat, j < q → setK ls j k = 0 ∨ isLoadB gs ms hold (setK ls j k) = true) ∧ SQ w wr A k c ms hold (setF ls k)) (fun vi _ => 8 - (intOf vi).toNat)
        case atStart => exact ⟨0, by omega, rfl, fun j h => absurd h (by omega), HS.out⟩
        case round =>
          clear HS
          obtain ⟨q, hq, rfl, hp, hQ⟩ := hrel
          have HP := Lib.hid hp
          have HS := Lib.hid hQ
          clear hp
          by_cases hlt : q < 8
          · obtain ⟨s, hs⟩ : ∃ s, s = setK ls (q : Int) k := ⟨_, rfl⟩
            have hidx : ∀ u, (Instr.index 102 (eightV (setF ls k)) (.int .i64 q)).run Tryd.prog u = .ok (.int .u8 (s : Int)) u := run_index_eight (setF ls k) hlt (s : Int) (by rw [hs]; rfl)
            have hs256 : s < 256 := by rw [hs]; exact setK_lt ls q k hn
            have hin : ∀ i, i < 8 → s.testBit i = true → i < k := by rw [hs]; exact setK_in ls q k
            have HSS := Lib.hid hs
            have HIN := Lib.hid hin
            clear hs hin
            clear hQ
            by_cases hz : s = 0
            · have hz2 : ((s : Int) != 0) = false := by rw [hz]; rfl
              have HZ := Lib.hid hz
              clear hz
              go_wp2_with fail
              go_roundw
              case rel => exact ⟨q + 1, by omega, by go_num, upto HP.out (.inl (HSS.out.symm.trans HZ.out)), HS.out⟩
              case measure => simp [intOf]; omega
            · have hz2 : ((s : Int) != 0) = true := by rw [bne_iff_ne]; omega
              have c0 := HS.out.K.s
              have c9 := HS.out.K.h
              have c1 := HS.out.K.m 0 (by omega)
              have c2 := HS.out.K.m 1 (by omega)
              have c3 := HS.out.K.m 2 (by omega)
              have c4 := HS.out.K.m 3 (by omega)
              have c5 := HS.out.K.m 4 (by omega)
              have c6 := HS.out.K.m 5 (by omega)
              have c7 := HS.out.K.m 6 (by omega)
              have c8 := HS.out.K.m 7 (by omega)
              simp only [Nat.reduceAdd, Nat.add_zero] at c1 c2 c3 c4 c5 c6 c7 c8
              have HG := Lib.hid ((hg.below HS.out.B).more HS.out.B.size)
              cases hv : isLoadB gs ms hold s with
              | true =>
                have HV := Lib.hid hv
                clear hv hz
                go_wp2_with fail
                refine (isLoad_any A k c gs En.out (by omega) ms hold s hs256 HIN.out _ HG.out true HV.out).mono ?_
                rintro o w2 ⟨rfl, hb2⟩
                have HS2 := Lib.hid (HS.out.next hb2)
                clear hb2 c0 c1 c2 c3 c4 c5 c6 c7 c8 c9
                go_wp2_with fail
                go_roundw
                case rel => exact ⟨q + 1, by omega, by go_num, upto HP.out (.inr (by rw [← HSS.out]; exact HV.out)), HS2.out⟩
                case measure => simp [intOf]; omega
              | false =>
                have hbf : b = false := hno (p := s = 0 ∨ isLoadB gs ms hold s = true) (by rw [hv]; simpa using hz) fun h => by
                  have h3 := (HB.out.1 h).2.2 q hlt
                  rwa [← En.out, ← HSS.out] at h3
                have HV := Lib.hid hv
                subst hbf
                clear hv hz
                go_wp2_with fail
                refine (isLoad_any A k c gs En.out (by omega) ms hold s hs256 HIN.out _ HG.out false HV.out).mono ?_
                rintro o w2 ⟨rfl, hb2⟩
                have HS2 := Lib.hid (HS.out.next hb2)
                clear hb2 c0 c1 c2 c3 c4 c5 c6 c7 c8 c9
                obtain ⟨ra0, rb0⟩ := HS2.out.R 0 (by omega)
                obtain ⟨ra1, rb1⟩ := HS2.out.R 1 (by omega)
                obtain ⟨ra2, rb2⟩ := HS2.out.R 2 (by omega)
                obtain ⟨ra3, rb3⟩ := HS2.out.R 3 (by omega)
                obtain ⟨ra4, rb4⟩ := HS2.out.R 4 (by omega)
                obtain ⟨ra5, rb5⟩ := HS2.out.R 5 (by omega)
                obtain ⟨ra6, rb6⟩ := HS2.out.R 6 (by omega)
                obtain ⟨ra7, rb7⟩ := HS2.out.R 7 (by omega)
                obtain ⟨na0, nb0⟩ := HS2.out.N 0 (by omega)
                obtain ⟨na1, nb1⟩ := HS2.out.N 1 (by omega)
                obtain ⟨na2, nb2⟩ := HS2.out.N 2 (by omega)
                obtain ⟨na3, nb3⟩ := HS2.out.N 3 (by omega)
                obtain ⟨na4, nb4⟩ := HS2.out.N 4 (by omega)
                obtain ⟨na5, nb5⟩ := HS2.out.N 5 (by omega)
                obtain ⟨na6, nb6⟩ := HS2.out.N 6 (by omega)
                obtain ⟨na7, nb7⟩ := HS2.out.N 7 (by omega)
                go_wp2_with fail
                obtain ⟨V, hV⟩ : ∃ V, V = w2.setCells (w.heap.size + 1) 0 [.int .u8 (zeroF 0), .int .u8 (zeroF 1), .int .u8 (zeroF 2), .int .u8 (zeroF 3), .int .u8 (zeroF 4), .int .u8 (zeroF 5), .int .u8 (zeroF 6), .int .u8 (zeroF 7)] := ⟨_, rfl⟩
                have hbV : Below w.heap.size w V := by rw [hV]; exact below_setCells HS2.out.B (by omega) _ _
                have hcV : ∀ (j : Nat) (hj : j < 8), V.cell? ⟨w.heap.size + 1, j, none⟩ = some ([Value.int .u8 (zeroF 0), .int .u8 (zeroF 1), .int .u8 (zeroF 2), .int .u8 (zeroF 3), .int .u8 (zeroF 4), .int .u8 (zeroF 5), .int .u8 (zeroF 6), .int .u8 (zeroF 7)][j]'hj) := fun j hj => by
                  have h := World.cell?_setCells_in (w.heap.size + 1) [.int .u8 (zeroF 0), .int .u8 (zeroF 1), .int .u8 (zeroF 2), .int .u8 (zeroF 3), .int .u8 (zeroF 4), .int .u8 (zeroF 5), .int .u8 (zeroF 6), .int .u8 (zeroF 7)] 0 w2 (fun i hi => by rw [Nat.zero_add, (HS2.out.R i hi).1]; rfl) j hj
                  rw [Nat.zero_add] at h
                  rw [hV]
                  exact h
                have hV2 := hV
                simp only [World.setCells, Nat.reduceAdd, zeroF] at hV2
                rw [← hV2]
                have d0 := hcV 0 (by omega)
                have d1 := hcV 1 (by omega)
                have d2 := hcV 2 (by omega)
                have d3 := hcV 3 (by omega)
                have d4 := hcV 4 (by omega)
                have d5 := hcV 5 (by omega)
                have d6 := hcV 6 (by omega)
                have d7 := hcV 7 (by omega)
                clear hV hV2 hcV
                simp only [List.getElem_cons_zero, List.getElem_cons_succ] at d0 d1 d2 d3 d4 d5 d6 d7
                refine bodyPost_ret (v := .tuple #[eightV zeroF, .bool false]) ?_ rfl ⟨rfl, hbV⟩
                simp [results, Tryd.results70, go_sem, d0, d1, d2, d3, d4, d5, d6, d7]
          · obtain rfl : q = 8 := by omega
            have hbt : b = true := HB.out.2 ⟨by have := En.out; have := Em.out; omega, fun x hx => by
              obtain ⟨j, hj⟩ := List.mem_iff_getElem?.1 hx
              exact HQ.out j x (by have := (List.getElem?_eq_some_iff.1 hj).1; have := Em.out; omega) hj, fun j hj => by
              have := HP.out j hj
              rwa [En.out] at this⟩
            subst hbt
            obtain ⟨ra0, rb0⟩ := HS.out.R 0 (by omega)
            obtain ⟨ra1, rb1⟩ := HS.out.R 1 (by omega)
            obtain ⟨ra2, rb2⟩ := HS.out.R 2 (by omega)
            obtain ⟨ra3, rb3⟩ := HS.out.R 3 (by omega)
            obtain ⟨ra4, rb4⟩ := HS.out.R 4 (by omega)
            obtain ⟨ra5, rb5⟩ := HS.out.R 5 (by omega)
            obtain ⟨ra6, rb6⟩ := HS.out.R 6 (by omega)
            obtain ⟨ra7, rb7⟩ := HS.out.R 7 (by omega)
            obtain ⟨sa0, sb0⟩ := HS.out.S 0 (by omega)
            obtain ⟨sa1, sb1⟩ := HS.out.S 1 (by omega)
            obtain ⟨sa2, sb2⟩ := HS.out.S 2 (by omega)
            obtain ⟨sa3, sb3⟩ := HS.out.S 3 (by omega)
            obtain ⟨sa4, sb4⟩ := HS.out.S 4 (by omega)
            obtain ⟨sa5, sb5⟩ := HS.out.S 5 (by omega)
            obtain ⟨sa6, sb6⟩ := HS.out.S 6 (by omega)
            obtain ⟨sa7, sb7⟩ := HS.out.S 7 (by omega)
            clear hQ
            go_wp2_with fail
            obtain ⟨V, hV⟩ : ∃ V, V = wr.setCells (w.heap.size + 1) 0 [.int .u8 ((setF ls k) 0), .int .u8 ((setF ls k) 1), .int .u8 ((setF ls k) 2), .int .u8 ((setF ls k) 3), .int .u8 ((setF ls k) 4), .int .u8 ((setF ls k) 5), .int .u8 ((setF ls k) 6), .int .u8 ((setF ls k) 7)] := ⟨_, rfl⟩
            have hbV : Below w.heap.size w V := by rw [hV]; exact below_setCells HS.out.B (by omega) _ _
            have hcV : ∀ (j : Nat) (hj : j < 8), V.cell? ⟨w.heap.size + 1, j, none⟩ = some ([Value.int .u8 ((setF ls k) 0), .int .u8 ((setF ls k) 1), .int .u8 ((setF ls k) 2), .int .u8 ((setF ls k) 3), .int .u8 ((setF ls k) 4), .int .u8 ((setF ls k) 5), .int .u8 ((setF ls k) 6), .int .u8 ((setF ls k) 7)][j]'hj) := fun j hj => by
              have h := World.cell?_setCells_in (w.heap.size + 1) [.int .u8 ((setF ls k) 0), .int .u8 ((setF ls k) 1), .int .u8 ((setF ls k) 2), .int .u8 ((setF ls k) 3), .int .u8 ((setF ls k) 4), .int .u8 ((setF ls k) 5), .int .u8 ((setF ls k) 6), .int .u8 ((setF ls k) 7)] 0 wr (fun i hi => by rw [Nat.zero_add, (HS.out.R i hi).1]; rfl) j hj
              rw [Nat.zero_add] at h
              rw [hV]
              exact h
            have hV2 := hV
            simp only [World.setCells, Nat.reduceAdd, zeroF] at hV2
            rw [← hV2]
            have d0 := hcV 0 (by omega)
            have d1 := hcV 1 (by omega)
            have d2 := hcV 2 (by omega)
            have d3 := hcV 3 (by omega)
            have d4 := hcV 4 (by omega)
            have d5 := hcV 5 (by omega)
            have d6 := hcV 6 (by omega)
            have d7 := hcV 7 (by omega)
            clear hV hV2 hcV
            simp only [List.getElem_cons_zero, List.getElem_cons_succ] at d0 d1 d2 d3 d4 d5 d6 d7
            refine bodyPost_ret (v := .tuple #[eightV (setF ls k), .bool true]) ?_ rfl ⟨rfl, hbV⟩
            simp [results, Tryd.results70, go_sem, d0, d1, d2, d3, d4, d5, d6, d7]
  · have hbf : b = false := hno (p := m = n) hmn fun h => by
      have := (HB.out.1 h).1
      have := En.out
      have := Em.out
      omega
    have d1 : ((m : Int) != (n : Int)) = true := by rw [bne_iff_ne]; omega
    have c0 := S0.out.K.s
    obtain ⟨ra0, rb0⟩ := S0.out.R 0 (by omega)
    obtain ⟨ra1, rb1⟩ := S0.out.R 1 (by omega)
    obtain ⟨ra2, rb2⟩ := S0.out.R 2 (by omega)
    obtain ⟨ra3, rb3⟩ := S0.out.R 3 (by omega)
    obtain ⟨ra4, rb4⟩ := S0.out.R 4 (by omega)
    obtain ⟨ra5, rb5⟩ := S0.out.R 5 (by omega)
    obtain ⟨ra6, rb6⟩ := S0.out.R 6 (by omega)
    obtain ⟨ra7, rb7⟩ := S0.out.R 7 (by omega)
    obtain ⟨na0, nb0⟩ := S0.out.N 0 (by omega)
    obtain ⟨na1, nb1⟩ := S0.out.N 1 (by omega)
    obtain ⟨na2, nb2⟩ := S0.out.N 2 (by omega)
    obtain ⟨na3, nb3⟩ := S0.out.N 3 (by omega)
    obtain ⟨na4, nb4⟩ := S0.out.N 4 (by omega)
    obtain ⟨na5, nb5⟩ := S0.out.N 5 (by omega)
    obtain ⟨na6, nb6⟩ := S0.out.N 6 (by omega)
    obtain ⟨na7, nb7⟩ := S0.out.N 7 (by omega)
    subst hbf
    clear hno
    go_enter Tryd.func70, Tryd.ntmps70
    go_wp2_with fail
    obtain ⟨w4, hw4⟩ : ∃ u, u = ((((w.alloc (.cells (bC A n c ms hold) 105)).alloc (.cells zero8 102)).alloc (.cells zero8 102)).alloc (.cells zero8 102)) := ⟨_, rfl⟩
    rw [← hw4] at S0 ⊢
    clear c0 ra0 ra1 ra2 ra3 ra4 ra5 ra6 ra7 rb0 rb1 rb2 rb3 rb4 rb5 rb6 rb7 na0 na1 na2 na3 na4 na5 na6 na7 nb0 nb1 nb2 nb3 nb4 nb5 nb6 nb7
    obtain ⟨da0, db0⟩ := S0.out.R 0 (by omega)
    obtain ⟨da1, db1⟩ := S0.out.R 1 (by omega)
    obtain ⟨da2, db2⟩ := S0.out.R 2 (by omega)
    obtain ⟨da3, db3⟩ := S0.out.R 3 (by omega)
    obtain ⟨da4, db4⟩ := S0.out.R 4 (by omega)
    obtain ⟨da5, db5⟩ := S0.out.R 5 (by omega)
    obtain ⟨da6, db6⟩ := S0.out.R 6 (by omega)
    obtain ⟨da7, db7⟩ := S0.out.R 7 (by omega)
    refine bodyPost_ret (v := .tuple #[eightV zeroF, .bool false]) ?_ rfl ⟨rfl, S0.out.B⟩
    simp [results, Tryd.results70, go_sem, zeroF, da0, da1, da2, da3, da4, da5, da6, da7]
end Go.Proofs.YtekigapeekjigaaDoor.mem
