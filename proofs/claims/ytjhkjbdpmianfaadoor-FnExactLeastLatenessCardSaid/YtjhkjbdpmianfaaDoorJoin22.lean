/-
  Several texts of this proof, joined.
-/
import Derived.Maps.Keyed
import Derived.Maps.Own
import Derived.Maps.OwnOps
import Derived.DeepKeys4
import Derived.ProofKit
import Derived.Test.YtjhkjbdpmianfaaDoorJoin19
import Derived.Maps.OwnSet
import Derived.Test.YtjhkjbdpmianfaaDoorScopeG
import Derived.WalkMore
import Derived.Test.YtjhkjbdpmianfaaDoorStill
/-
  Settled pieces as keys of a map.
-/
namespace Go.Proofs.YtjhkjbdpmianfaaDoor.iron
open Go Go.RowKit Go.Maps sl stk errs row ins

theorem laidIr : laidOutB Tryd.prog = true := by kernel_rfl
theorem rowO : (58 : TypeId) < Tryd.prog.types.size := of_decide_eq_true (by kernel_rfl)
theorem wideO : (match Tryd.prog.underlying 58 with | some (.array _ _) | some (.struct _) => true | _ => false) = true := by kernel_rfl
set_option maxRecDepth 100000 in
theorem lawO : WideMaps.KeyLaw Tryd.prog 58 := deep_law_laid laidIr (m := 2) (by omega) rowO (by kernel_rfl) wideO
theorem keyedO : Keyed Tryd.prog 58 := Keyed.of_law lawO
theorem cellsO : Tryd.prog.cellsOf 58 = 8 := by kernel_rfl
theorem keyTO : Tryd.prog.keyType 58 = true := by kernel_rfl
theorem keyLits_i (d : Nat) (t : TypeId) (q : IntKind) (n : Int) (ht : Tryd.prog.underlying t = some (.int q)) (hw : (Lit.int q n).wf = true) : Tryd.prog.keyLits (d + 1) t [.int q n] = some [.int q n] := by
  unfold Program.keyLits
  rw [ht]
  simp [hw]
set_option maxRecDepth 100000 in
theorem keyOrd (g : Nat → Int) (hg : ∀ j, j < 8 → -128 ≤ g j ∧ g j ≤ 127) : ∃ l, keyOf Tryd.prog 58 (ordV g) = some l := by
  have hu := Tryd.underlying58
  obtain ⟨d, hd⟩ : ∃ d, Tryd.prog.types.size = d + 1 := ⟨Tryd.prog.types.size - 1, by have h0 : 0 < Tryd.prog.types.size := Nat.lt_of_le_of_lt (Nat.zero_le _) rowO; exact (Nat.sub_add_cancel h0).symm⟩
  have hform : (ordV g).formed Tryd.prog 58 = true := by simp [Value.formed, hu, cellsO, ordCs_size]
  have c1 : Tryd.prog.cellsOf 22 = 1 := by kernel_rfl
  have hk : ∀ j, j < 8 → Tryd.prog.keyLits (d + 1) 22 [.int .i8 (g j)] = some [.int .i8 (g j)] := fun j hj => keyLits_i d 22 .i8 (g j) (by kernel_rfl) (by
    have := hg j hj
    simp only [Lit.wf]
    show (decide (IntKind.i8.min ≤ g j) && decide (g j ≤ IntKind.i8.max)) = true
    simp
    exact this)
  have h0 := hk 0 (by omega)
  have h1 := hk 1 (by omega)
  have h2 := hk 2 (by omega)
  have h3 := hk 3 (by omega)
  have h4 := hk 4 (by omega)
  have h5 := hk 5 (by omega)
  have h6 := hk 6 (by omega)
  have h7 := hk 7 (by omega)
  have hl : Tryd.prog.keyLits (Tryd.prog.types.size + 1) 58 (ordV g).cells.toList = some [.int .i8 (g 0), .int .i8 (g 1), .int .i8 (g 2), .int .i8 (g 3), .int .i8 (g 4), .int .i8 (g 5), .int .i8 (g 6), .int .i8 (g 7)] := by
    rw [hd]
    unfold Program.keyLits
    rw [hu]
    have hc : (ordV g).cells.toList = [.int .i8 (g 0), .int .i8 (g 1), .int .i8 (g 2), .int .i8 (g 3), .int .i8 (g 4), .int .i8 (g 5), .int .i8 (g 6), .int .i8 (g 7)] := rfl
    rw [hc]
    simp only
    rw [if_pos (by rw [cellsO]; rfl), c1]
    simp [List.range_succ, h0, h1, h2, h3, h4, h5, h6, h7]
  refine ⟨.string (keyBytes [.int .i8 (g 0), .int .i8 (g 1), .int .i8 (g 2), .int .i8 (g 3), .int .i8 (g 4), .int .i8 (g 5), .int .i8 (g 6), .int .i8 (g 7)]), ?_⟩
  unfold keyOf
  rw [hu]
  simp only
  rw [keyTO, hform, hl]
  rfl
theorem ordV_inj {f g : Nat → Int} (h : ordV f = ordV g) : ∀ j, j < 8 → f j = g j := fun j hj => by
  have h1 : lst 8 (ordC f) = lst 8 (ordC g) := by
    have := congrArg Value.cells h
    have := congrArg Array.toList this
    simpa [ordV, ordCs, Value.cells] using this
  have h2 := lst_ext h1 j hj
  simpa [ordC] using h2
end Go.Proofs.YtjhkjbdpmianfaaDoor.iron

/-
  What the program's search has seen: its map.
-/
namespace Go.Proofs.YtjhkjbdpmianfaaDoor.iron
open Go Go.RowKit Go.Maps sl stk errs row ins

def litV : Value → DataW Unit
  | .int q n => .lit (.int q n)
  | _ => .nil
/-- how a start reads: cell by cell -/
def readS : Value → Option (DataW Unit × List MemPlace)
  | .agg cs => some (.agg (cs.toList.map litV), [])
  | _ => some (.nil, [])
def sdat (f : Str) : DataW Unit := .agg ((lst 12 (cellR f)).map litV)
theorem litV_inv {v : Value} {q : IntKind} {n : Int} (h : litV v = .lit (.int q n)) : v = .int q n := by
  unfold litV at h
  split at h
  · injection h with h
    injection h with h1 h2
    rw [h1, h2]
  · cases h
theorem litV_map : ∀ (xs ys : List Value), (∀ y ∈ ys, ∃ q n, y = .int q n) → xs.map litV = ys.map litV → xs = ys
  | [], [], _, _ => rfl
  | [], _ :: _, _, h => by simp at h
  | _ :: _, [], _, h => by simp at h
  | a :: xs, b :: ys, hy, h => by
    rw [List.map_cons, List.map_cons] at h
    injection h with h1 h2
    obtain ⟨q, n, rfl⟩ := hy b (List.mem_cons_self ..)
    rw [litV_inv h1, litV_map xs ys (fun y hm => hy y (List.mem_cons_of_mem _ hm)) h2]
theorem cellR_int (f : Str) (j : Nat) : ∃ q n, cellR f j = .int q n := by
  unfold cellR
  split
  · exact ⟨_, _, rfl⟩
  · split <;> exact ⟨_, _, rfl⟩
theorem readS_str (f : Str) : readS (strV f) = some (sdat f, []) := by
  unfold readS strV strCs sdat
  simp
theorem readS_inv {v : Value} {f : Str} {ps : List MemPlace} (h : readS v = some (sdat f, ps)) : v = strV f := by
  unfold readS at h
  split at h
  · rename_i cs
    injection h with h
    injection h with h _
    unfold sdat at h
    injection h with h
    have := litV_map _ _ (fun y hy => by
      obtain ⟨j, _, rfl⟩ := List.mem_map.1 hy
      exact cellR_int f j) h
    unfold strV strCs
    rw [← this]
  · injection h with h
    injection h with h _
    cases h
theorem undMS : Tryd.prog.underlying 79 = some (.map 58 61) := by kernel_rfl
theorem zeroMS (w : World) : (zeroValue 61).run Tryd.prog w = .ok (strV zeroR) w := (zero_of_info zeroRi).1 w
structure GoodO (os : List Int) : Prop where
  len : os.length ≤ 8
  rng : ∀ i ∈ os, 0 ≤ i ∧ i < 8
theorem GoodO.key {os : List Int} (h : GoodO os) : ∀ z ∈ keyO os, 1 ≤ z ∧ z ≤ 8 := fun z hz => by
  have e : z - 1 ∈ os := (keyO_mem os (z - 1)).1 (by rwa [Int.sub_add_cancel])
  have := h.rng _ e
  omega
theorem GoodO.keyF {os : List Int} (h : GoodO os) (j : Nat) : 0 ≤ keyF os j ∧ keyF os j ≤ 8 := by
  unfold iron.keyF
  rw [List.getD_eq_getElem?_getD]
  cases hz : (keyO os)[j]? with
  | none => simp
  | some z =>
    have := h.key z (List.mem_of_getElem? hz)
    show 0 ≤ z ∧ z ≤ 8
    omega
theorem GoodO.inj {os es : List Int} (h : GoodO os) (h' : GoodO es) (e : ordV (iron.keyF os) = ordV (iron.keyF es)) : keyO os = keyO es := by
  have hj := ordV_inj e
  have ho : (keyO os).length ≤ 8 := by rw [keyO_len]; exact h.len
  have he : (keyO es).length ≤ 8 := by rw [keyO_len]; exact h'.len
  refine List.ext_getElem? fun j => ?_
  rcases Nat.lt_or_ge j 8 with h8 | h8
  · have h1 := hj j h8
    unfold iron.keyF at h1
    rw [List.getD_eq_getElem?_getD, List.getD_eq_getElem?_getD] at h1
    cases hz : (keyO os)[j]? with
    | none =>
      rw [hz] at h1
      cases hy : (keyO es)[j]? with
      | none => rfl
      | some y =>
        rw [hy] at h1
        have := h'.key y (List.mem_of_getElem? hy)
        simp at h1
        omega
    | some z =>
      rw [hz] at h1
      have := h.key z (List.mem_of_getElem? hz)
      cases hy : (keyO es)[j]? with
      | none =>
        rw [hy] at h1
        simp at h1
        omega
      | some y =>
        rw [hy] at h1
        simp at h1
        rw [h1]
  · rw [List.getElem?_eq_none (by omega), List.getElem?_eq_none (by omega)]
/-- block b is a map from settled pieces to the starts that have come -/
def SeenM (x : Iro) (a : Nat) (ps : List Pie) (w : World) (b N : Nat) (seen : List Int → Option (List Int)) : Prop :=
  ∃ D : DataW Unit, w.ownsMap Tryd.prog 58 readS b N D ∧ ∀ (os : List Int) (l : Lit), GoodO os → keyOf Tryd.prog 58 (ordV (keyF os)) = some l →
    (∀ e, seen (keyO os) = some e → D.atKey l (sdat zeroR) = sdat (strOf e (runs x a ps e)) ∧ has D l = true) ∧ (seen (keyO os) = none → D.atKey l (sdat zeroR) = sdat zeroR ∧ has D l = false)
theorem SeenM.new (x : Iro) (a : Nat) (ps : List Pie) (w : World) : SeenM x a ps (w.alloc (.map #[] 0)) w.heap.size 0 fun _ => none :=
  ⟨.map [], World.ownsMap_made w _ _ _, fun os l _ _ => ⟨fun e h => (by cases h), fun _ => ⟨atKey_of_not_has (by simp [has_eq]) _, by simp [has_eq]⟩⟩⟩
theorem SeenM.kept {x : Iro} {a : Nat} {ps : List Pie} {w w' : World} {b N : Nat} {seen : List Int → Option (List Int)} {row : Option Nat} (h : SeenM x a ps w b N seen) (hg : w.grownBy w' row) (hne : some b ≠ row) : SeenM x a ps w' b N seen := by
  obtain ⟨D, h1, h2⟩ := h
  exact ⟨D, h1.kept hg hne, h2⟩
set_option maxRecDepth 100000 in
theorem SeenM.look {x : Iro} {a : Nat} {ps : List Pie} {w : World} {b N : Nat} {seen : List Int → Option (List Int)} (h : SeenM x a ps w b N seen) {os : List Int} (ho : GoodO os) :
    (∀ e, seen (keyO os) = some e → (Instr.lookup 79 (.map (some b)) (ordV (keyF os)) true).run Tryd.prog w = .ok (.tuple #[strV (strOf e (runs x a ps e)), .bool true]) w) ∧
    (seen (keyO os) = none → (Instr.lookup 79 (.map (some b)) (ordV (keyF os)) true).run Tryd.prog w = .ok (.tuple #[strV zeroR, .bool false]) w) := by
  obtain ⟨D, hown, hD⟩ := h
  obtain ⟨l, hl⟩ := keyOrd (keyF os) (fun j _ => by have := ho.keyF j; omega)
  obtain ⟨v, qs, hrun, hR⟩ := hown.look_ok keyedO undMS (zeroMS w) (readS_str zeroR) hl
  obtain ⟨h1, h2⟩ := hD os l ho hl
  constructor
  · intro e he
    obtain ⟨k1, k2⟩ := h1 e he
    rw [k1] at hR
    rw [k2, readS_inv hR] at hrun
    exact hrun
  · intro he
    obtain ⟨k1, k2⟩ := h2 he
    rw [k1] at hR
    rw [k2, readS_inv hR] at hrun
    exact hrun
set_option maxRecDepth 100000 in
theorem SeenM.put {x : Iro} {a : Nat} {ps : List Pie} {w : World} {b N : Nat} {seen : List Int → Option (List Int)} (h : SeenM x a ps w b N seen) (hN : N < maxLen) {os : List Int} (ho : GoodO os) :
    ∃ w', (Instr.mapUpdate 79 (.map (some b)) (ordV (keyF os)) (strV (strOf os (runs x a ps os)))).run Tryd.prog w = .ok () w' ∧ SeenM x a ps w' b (N + 1) (putS seen os) ∧ w.grownBy w' (some b) := by
  obtain ⟨D, hown, hD⟩ := h
  obtain ⟨l, hl⟩ := keyOrd (keyF os) (fun j _ => by have := ho.keyF j; omega)
  obtain ⟨w', hrun, h1, h2⟩ := hown.update keyedO undMS hN hl (readS_str (strOf os (runs x a ps os)))
  refine ⟨w', hrun, ⟨_, h1, fun es k he hk => ?_⟩, h2⟩
  by_cases e : k = l
  · subst e
    have ek : keyO es = keyO os := he.inj ho (keyedO.inj hk hl)
    have es' : putS seen os (keyO es) = some os := by unfold putS; rw [if_pos ek]
    rw [es']
    exact ⟨fun z hz => by rw [← Option.some.inj hz]; exact ⟨atKey_put_same hown.isMap (keyedO.key hl) _ _, has_put_same hown.isMap (keyedO.key hl) _⟩, fun hz => by cases hz⟩
  · have hne : keyO es ≠ keyO os := fun ek => by
      have : ordV (keyF es) = ordV (keyF os) := by unfold keyF; rw [ek]
      rw [this, hl] at hk
      exact e (Option.some.inj hk).symm
    have es' : putS seen os (keyO es) = seen (keyO es) := by unfold putS; rw [if_neg hne]
    rw [es', atKey_put_other e, has_put_other e]
    exact hD es k he hk
end Go.Proofs.YtjhkjbdpmianfaaDoor.iron

/-
  The program's best: what holds whenever the next start is taken, and that it holds at first.
-/
namespace Go.Proofs.YtjhkjbdpmianfaaDoor.iron
open Go Go.RowKit Go.Maps sl stk errs row ins

/-- the best start so far -/
def bstF (x : Iro) (a : Nat) (ps : List Pie) : Bst → Str
  | none => fun j => if j = 11 then 9223372036854775807 else 0
  | some d => strOf d.1 (runs x a ps d.1)
structure OrdOk (n : Nat) (os : List Int) : Prop where
  nd : os.Nodup
  rng : ∀ i ∈ os, 0 ≤ i ∧ i < n
  len : os.length ≤ n
/-- what holds in plain words -/
structure BP (x : Iro) (a : Nat) (ps : List Pie) (O : List (List Int)) (S : SeS) (N : Nat) : Prop where
  ok : ∀ os ∈ O, OrdOk ps.length os
  fin : (drain x a ps O S).b = bestB x a ps
  cnt : N + wgts ps.length O ≤ wgt ps.length ps.length
  bst : ∀ d, S.b = some d → d.2 = (runs x a ps d.1).sum ∧ OrdOk ps.length d.1
theorem BP.start {x : Iro} {a : Nat} {ps : List Pie} (hx : iroB x = true) (hp : ps.all pieB = true) : BP x a ps [[]] ⟨none, fun _ => none⟩ 0 :=
  ⟨fun os hos => by rw [List.mem_singleton.1 hos]; exact ⟨List.Pairwise.nil, fun i hi => (by cases hi), Nat.zero_le _⟩, best_seen hx hp, by simp [wgts], fun d hd => (by cases hd)⟩
/-- .. and in the world -/
structure BW (x : Iro) (a : Nat) (A : Option Addr) (n c : Nat) (fm : Value) (ps : List Pie) (O : List (List Int)) (S : SeS) (N : Nat) (vo : Value) (w u : World) : Prop where
  g0 : u.cell? ⟨w.heap.size, 0, none⟩ = some (.int .i8 x.up)
  g1 : u.cell? ⟨w.heap.size, 1, none⟩ = some (.int .i8 x.down)
  g2 : u.cell? ⟨w.heap.size, 2, none⟩ = some (.slice A n c)
  g3 : u.cell? ⟨w.heap.size, 3, none⟩ = some fm
  r : StrOwn u (w.heap.size + 1) 0 zeroR
  m : SeenM x a ps u (w.heap.size + 2) N S.seen
  t : StrOwn u (w.heap.size + 3) 0 (bstF x a ps S.b)
  o : u.ownsRow (w.heap.size + 4) 61 12 vo O.length ((O.map fun os => strOf os (runs x a ps os)).flatMap strC)
  b : Below w.heap.size w u
abbrev maxS : Str := fun j => if j = 11 then 9223372036854775807 else 0
set_option maxRecDepth 100000 in
theorem build_max (u : World) : (Instr.build 61 #[(4, .int .i64 9223372036854775807)]).run Tryd.prog u = .ok (strV maxS) u := by kernel_rfl
set_option maxRecDepth 100000 in
theorem build_zeroStr (u : World) : (Instr.build 61 #[]).run Tryd.prog u = .ok (strV zeroR) u := by kernel_rfl
theorem BW.start (x : Iro) (a : Nat) (A : Option Addr) (n c : Nat) (fm : Value) (ps : List Pie) (w : World) (T U : TypeId) :
    BW x a A n c fm ps [[]] ⟨none, fun _ => none⟩ 0 (.slice (some ⟨w.heap.size + 4, 0, none⟩) 1 1) w
      ((((((w.alloc (.cells #[.int .i8 x.up, .int .i8 x.down, .slice A n c, fm] T)).alloc (.cells (strCs zeroR) U)).alloc (.map #[] 0)).alloc (.cells (strCs zeroR) U)).setCells (w.heap.size + 3) 0 (lst 12 (cellR maxS))).alloc (.cells (strCs zeroR) 61)) := by
  obtain ⟨u0, hu0⟩ : ∃ u, u = w.alloc (.cells #[.int .i8 x.up, .int .i8 x.down, .slice A n c, fm] T) := ⟨_, rfl⟩
  have e0 : u0.heap.size = w.heap.size + 1 := by rw [hu0]; simp
  obtain ⟨u1, hu1⟩ : ∃ u, u = u0.alloc (.cells (strCs zeroR) U) := ⟨_, rfl⟩
  have e1 : u1.heap.size = w.heap.size + 2 := by rw [hu1]; simp [e0]
  obtain ⟨u2, hu2⟩ : ∃ u, u = u1.alloc (.map #[] 0) := ⟨_, rfl⟩
  have e2 : u2.heap.size = w.heap.size + 3 := by rw [hu2]; simp [e1]
  obtain ⟨u3, hu3⟩ : ∃ u, u = u2.alloc (.cells (strCs zeroR) U) := ⟨_, rfl⟩
  have e3 : u3.heap.size = w.heap.size + 4 := by rw [hu3]; simp [e2]
  obtain ⟨u4, hu4⟩ : ∃ u, u = u3.setCells (w.heap.size + 3) 0 (lst 12 (cellR maxS)) := ⟨_, rfl⟩
  have e4 : u4.heap.size = w.heap.size + 4 := by rw [hu4, size_setCells, e3]
  rw [← hu0, ← hu1, ← hu2, ← hu3, ← hu4]
  have b0 : Below w.heap.size w u0 := by rw [hu0]; exact (Below.refl _ _).alloc (Nat.le_refl _) _
  have b1 : Below u0.heap.size u0 u1 := by rw [hu1]; exact (Below.refl _ _).alloc (Nat.le_refl _) _
  have b2 : Below u1.heap.size u1 u2 := by rw [hu2]; exact (Below.refl _ _).alloc (Nat.le_refl _) _
  have b3 : Below u2.heap.size u2 u3 := by rw [hu3]; exact (Below.refl _ _).alloc (Nat.le_refl _) _
  have b4 : Below (w.heap.size + 3) u3 u4 := by rw [hu4]; exact below_cells (Below.refl _ _) (Nat.le_refl _) _ _
  have b5 : Below u4.heap.size u4 (u4.alloc (.cells (strCs zeroR) 61)) := (Below.refl _ _).alloc (Nat.le_refl _) _
  have hc : ∀ i, u0.cell? ⟨w.heap.size, i, none⟩ = (#[.int .i8 x.up, .int .i8 x.down, .slice A n c, fm] : Array Value)[i]? := fun i => by rw [hu0]; exact cell_of_row _ _ _ _ _ _ (heap_alloc_new w _)
  have f : ∀ i, (u4.alloc (.cells (strCs zeroR) 61)).cell? ⟨w.heap.size, i, none⟩ = (#[.int .i8 x.up, .int .i8 x.down, .slice A n c, fm] : Array Value)[i]? := fun i => by
    rw [← hc i]
    have hb := (((b1.mono (by omega)).trans (b2.mono (show w.heap.size + 1 ≤ _ by omega))).trans (b3.mono (by omega))).trans ((b4.mono (show w.heap.size + 1 ≤ _ by omega)).trans (b5.mono (by omega)))
    exact hb.cell (p := ⟨w.heap.size, i, none⟩) (by show w.heap.size < _; omega)
  have r1 : StrOwn u1 (w.heap.size + 1) 0 zeroR := by have := StrOwn.new u0 zeroR U; rw [e0] at this; rw [hu1]; exact this
  have m2 : SeenM x a ps u2 (w.heap.size + 2) 0 fun _ => none := by have := SeenM.new x a ps u1; rw [e1] at this; rw [hu2]; exact this
  have t3 : StrOwn u3 (w.heap.size + 3) 0 zeroR := by have := StrOwn.new u2 zeroR U; rw [e2] at this; rw [hu3]; exact this
  have t4 : StrOwn u4 (w.heap.size + 3) 0 maxS := by rw [hu4]; exact StrOwn.stored t3 maxS
  have g4 : u3.grownBy u4 (some (w.heap.size + 3)) := by rw [hu4]; exact grownBy_cells _ _ (grownBy_refl _ _)
  refine ⟨f 0, f 1, f 2, f 3, ?_, ?_, t4.next b5, ?_, ?_⟩
  · exact (((r1.next b2).next b3).below b4 (by omega)).next b5
  · exact ((m2.kept (grownBy_below (r := none) b3) (fun h => (by cases h))).kept g4 (fun h => by have := Option.some.inj h; omega)).kept (grownBy_below (r := none) b5) (fun h => (by cases h))
  · have h := World.ownsRow_lit (base := w.heap.size + 4) (e := 61) u4 (strCs zeroR) 1 (by omega) (by unfold maxLen; omega) (show (strCs zeroR).size = 1 * 12 by rw [strCs_size])
    rw [e4] at h
    have e : ((([[]] : List (List Int)).map fun os => strOf os (runs x a ps os)).flatMap strC) = (strCs zeroR).toList := by
      show strC (strOf [] sta0) ++ [] = _
      rw [strOf_zero, List.append_nil]
      rfl
    rw [e]
    exact h
  · exact (((b0.trans (b1.mono (by omega))).trans (b2.mono (by omega))).trans (b3.mono (by omega))).trans ((b4.mono (by omega)).trans (b5.mono (by omega)))
end Go.Proofs.YtjhkjbdpmianfaaDoor.iron

/-
  The program's best: what a round does to what holds, in plain words and in the world.
-/
namespace Go.Proofs.YtjhkjbdpmianfaaDoor.iron
open Go Go.RowKit Go.Maps sl stk errs row ins

theorem asc_len : ∀ (l : List Int) (lo hi : Int), l.Pairwise (· < ·) → (∀ i ∈ l, lo ≤ i ∧ i < hi) → lo ≤ hi → (l.length : Int) ≤ hi - lo
  | [], lo, hi, _, _, h => by simp; omega
  | x :: t, lo, hi, hp, hr, h => by
    have hx := hr x (List.mem_cons_self ..)
    have hp' := List.pairwise_cons.1 hp
    have := asc_len t (x + 1) hi hp'.2 (fun i hi => ⟨hp'.1 i hi, (hr i (List.mem_cons_of_mem _ hi)).2⟩) (by omega)
    rw [List.length_cons]
    omega
theorem nd_len {n : Nat} {l : List Int} (nd : l.Nodup) (rng : ∀ i ∈ l, 0 ≤ i ∧ i < n) : l.length ≤ n := by
  have h := asc_len (srt id l) 0 n (srt_strict nd) (fun i hi => rng i (srt_mem.1 hi)) (by omega)
  rw [srt_len] at h
  omega
theorem OrdOk.full {n : Nat} {os : List Int} (h : OrdOk n os) (hl : n ≤ os.length) (k : Nat) (hk : k < n) : (k : Int) ∈ os := by
  refine Classical.byContradiction fun hno => ?_
  have := nd_len (n := n) (l := (k : Int) :: os) (List.nodup_cons.2 ⟨hno, h.nd⟩) (fun i hi => by
    rcases List.mem_cons.1 hi with rfl | hi
    · omega
    · exact h.rng i hi)
  rw [List.length_cons] at this
  omega
theorem OrdOk.nexts_full {n : Nat} {os : List Int} (h : OrdOk n os) (hl : n ≤ os.length) : nexts n os = [] := by
  have : leftP n os = [] := by
    unfold leftP
    rw [List.filter_eq_nil_iff]
    intro k hk
    simp [h.full hl k (by simpa using hk)]
  unfold nexts
  rw [this]
  rfl
theorem OrdOk.nexts {n : Nat} {os : List Int} (h : OrdOk n os) : ∀ o ∈ nexts n os, OrdOk n o := by
  intro o ho
  unfold iron.nexts at ho
  obtain ⟨k, hk, rfl⟩ := List.mem_map.1 ho
  unfold leftP at hk
  obtain ⟨h1, h2⟩ := List.mem_filter.1 hk
  have h1 : k < n := by simpa using h1
  have h2 : (k : Int) ∉ os := by simpa using h2
  have nd : (os ++ [(k : Int)]).Nodup := by
    rw [List.nodup_append]
    refine ⟨h.nd, by simp, fun a ha b hb => ?_⟩
    rw [List.mem_singleton] at hb
    subst hb
    exact fun e => h2 (e ▸ ha)
  have rng : ∀ i ∈ os ++ [(k : Int)], 0 ≤ i ∧ i < n := fun i hi => by
    rcases List.mem_append.1 hi with hi | hi
    · exact h.rng i hi
    · rw [List.mem_singleton] at hi; omega
  exact ⟨nd, rng, nd_len nd rng⟩
theorem OrdOk.good {n : Nat} {os : List Int} (h : OrdOk n os) (hn : n ≤ 8) : GoodO os := ⟨by have := h.len; omega, fun i hi => by have := h.rng i hi; omega⟩
theorem BP.prune {x : Iro} {a : Nat} {ps : List Pie} {O : List (List Int)} {os : List Int} {S : SeS} {N : Nat} (h : BP x a ps (O ++ [os]) S N) (hp : prnA x a ps S os = true) : BP x a ps O S N := by
  have hf := h.fin
  rw [drain_snoc, visit_prn hp] at hf
  have hc := h.cnt
  rw [wgts_append] at hc
  exact ⟨fun o ho => h.ok o (List.mem_append_left _ ho), hf, by omega, h.bst⟩
def nowB (x : Iro) (a : Nat) (ps : List Pie) (os : List Int) (b : Bst) : Bst := if os.length = ps.length then some (os, (runs x a ps os).sum) else b
theorem BP.enter {x : Iro} {a : Nat} {ps : List Pie} {O : List (List Int)} {os : List Int} {S : SeS} {N : Nat} (h : BP x a ps (O ++ [os]) S N) (hp : prnA x a ps S os = false) : BP x a ps (O ++ (nexts ps.length os).reverse) ⟨nowB x a ps os S.b, putS S.seen os⟩ (N + 1) := by
  have hf := h.fin
  have ho := h.ok os (by simp)
  have hno : ¬ prnA x a ps S os = true := by rw [hp]; simp
  have hc := h.cnt
  have h1 : wgts ps.length [os] = wgt ps.length (ps.length - os.length) := by simp [wgts]
  rw [wgts_append, h1] at hc
  rw [drain_snoc] at hf
  have hb : ∀ d, nowB x a ps os S.b = some d → d.2 = (runs x a ps d.1).sum ∧ OrdOk ps.length d.1 := fun d hd => by
    unfold nowB at hd
    split at hd
    · rw [← Option.some.inj hd]; exact ⟨rfl, ho⟩
    · exact h.bst d hd
  by_cases hl : os.length = ps.length
  · rw [visit_all hno hl] at hf
    have hn := ho.nexts_full (by omega)
    have hp := wgt_pos ps.length (ps.length - os.length)
    rw [hn, List.reverse_nil, List.append_nil]
    refine ⟨fun o ho => h.ok o (List.mem_append_left _ ho), ?_, by omega, hb⟩
    unfold nowB
    rw [if_pos hl]
    exact hf
  · have hlt : os.length < ps.length := by have := ho.len; omega
    rw [visit_more hno hlt, ← drain_append] at hf
    have hw := wgts_nexts hlt
    refine ⟨fun o hm => ?_, ?_, by rw [wgts_append, wgts_rev]; omega, hb⟩
    · rcases List.mem_append.1 hm with hm | hm
      · exact h.ok o (List.mem_append_left _ hm)
      · exact ho.nexts o (List.mem_reverse.1 hm)
    · unfold nowB
      rw [if_neg hl]
      exact hf
theorem wgts_less {n : Nat} {O : List (List Int)} {os : List Int} (ho : OrdOk n os) : wgts n (O ++ (nexts n os).reverse) < wgts n (O ++ [os]) := by
  have h1 : wgts n [os] = wgt n (n - os.length) := by simp [wgts]
  rw [wgts_append, wgts_append, h1, wgts_rev]
  by_cases hl : os.length < n
  · have := wgts_nexts hl; omega
  · rw [ho.nexts_full (by omega)]
    have := wgt_pos n (n - os.length)
    simp [wgts]
    exact this
theorem wgts_pop {n : Nat} {O : List (List Int)} {os : List Int} : wgts n O < wgts n (O ++ [os]) := by
  have h1 : wgts n [os] = wgt n (n - os.length) := by simp [wgts]
  have := wgt_pos n (n - os.length)
  rw [wgts_append, h1]
  omega
theorem len_wgts (n : Nat) : ∀ (O : List (List Int)), O.length ≤ wgts n O
  | [] => Nat.zero_le _
  | o :: O => by
    have h := len_wgts n O
    have hp := wgt_pos n (n - o.length)
    have e : wgts n (o :: O) = wgt n (n - o.length) + wgts n O := by simp [wgts]
    rw [List.length_cons, e]
    omega
theorem runs_sum_in {x : Iro} {a : Nat} {ps : List Pie} (hv : iroB x = true) (hp : ps.all pieB = true) {os : List Int} (h8 : os.length ≤ 8) : (runs x a ps os).Ok os.length := by
  have := runs_ok a hv hp (os := os) os.length (Nat.le_refl _) h8
  rwa [List.take_of_length_le (Nat.le_refl _)] at this
/-- the sum is compared with that of the best so far -/
theorem lss_prn {x : Iro} {a : Nat} {ps : List Pie} {os : List Int} {b : Bst} (hs : (runs x a ps os).sum < 9223372036854775807) (hb : ∀ d, b = some d → d.2 = (runs x a ps d.1).sum) (t : Int) (ht : bstF x a ps b 11 = t) : decide ((runs x a ps os).sum < t) = !prnB b (runs x a ps os).sum := by
  subst ht
  cases b with
  | none => exact decide_eq_true hs
  | some d =>
    have h1 := hb d rfl
    have h2 : bstF x a ps (some d) 11 = d.2 := by rw [h1]; rfl
    have h3 : prnB (some d) (runs x a ps os).sum = decide (d.2 ≤ (runs x a ps os).sum) := rfl
    rw [h3, Bool.eq_iff_iff, Bool.not_eq_true', decide_eq_true_iff, decide_eq_false_iff_not, h2]
    omega
section
variable {u v : World} {b p g : Nat}
theorem StrOwn.grown {f : Str} (h : StrOwn u b p f) (hg : u.grownBy v (some g)) (hne : b ≠ g) : StrOwn v b p f := by
  have hb := hg.block b h.lt (fun e => hne (Option.some.inj e))
  exact ⟨⟨Nat.lt_of_lt_of_le h.lt hg.size, fun j hj => (World.cell?_of_block (a := ⟨b, p + j, none⟩) hb).trans (h.cell j hj)⟩, fun j hj => (World.frozen?_of_block (a := ⟨b, p + j, none⟩) hb).trans (h.free j hj)⟩
theorem OrdOwn.grown {f : Nat → Int} (h : OrdOwn u b p f) (hg : u.grownBy v (some g)) (hne : b ≠ g) : OrdOwn v b p f := by
  have hb := hg.block b h.lt (fun e => hne (Option.some.inj e))
  exact ⟨⟨Nat.lt_of_lt_of_le h.lt hg.size, fun j hj => (World.cell?_of_block (a := ⟨b, p + j, none⟩) hb).trans (h.cell j hj)⟩, fun j hj => (World.frozen?_of_block (a := ⟨b, p + j, none⟩) hb).trans (h.free j hj)⟩
end
section
variable {x : Iro} {a : Nat} {A : Option Addr} {n c : Nat} {fm : Value} {ps : List Pie} {O : List (List Int)} {S : SeS} {N : Nat} {vo : Value} {w u v : World}
theorem BW.sz (h : BW x a A n c fm ps O S N vo w u) : w.heap.size + 4 ≤ u.heap.size := h.t.lt
theorem BW.next (h : BW x a A n c fm ps O S N vo w u) (hb : Below u.heap.size u v) : BW x a A n c fm ps O S N vo w v := by
  have hz := h.sz
  exact ⟨(hb.cell (p := ⟨_, 0, none⟩) (by show w.heap.size < _; omega)).trans h.g0, (hb.cell (p := ⟨_, 1, none⟩) (by show w.heap.size < _; omega)).trans h.g1, (hb.cell (p := ⟨_, 2, none⟩) (by show w.heap.size < _; omega)).trans h.g2, (hb.cell (p := ⟨_, 3, none⟩) (by show w.heap.size < _; omega)).trans h.g3,
    h.r.next hb, h.m.kept (grownBy_below (r := none) hb) (fun e => (by cases e)), h.t.next hb, owns_next h.o hb, h.b.trans (hb.mono (by omega))⟩
theorem BW.remake {O' : List (List Int)} {S' : SeS} {N' : Nat} {vo' : Value} {q : Nat} (h : BW x a A n c fm ps O S N vo w u) (hg : u.grownBy v (some q)) (hq : w.heap.size + 2 ≤ q)
    (m' : SeenM x a ps v (w.heap.size + 2) N' S'.seen) (t' : StrOwn v (w.heap.size + 3) 0 (bstF x a ps S'.b)) (o' : v.ownsRow (w.heap.size + 4) 61 12 vo' O'.length ((O'.map fun os => strOf os (runs x a ps os)).flatMap strC)) : BW x a A n c fm ps O' S' N' vo' w v := by
  have hz := h.sz
  have far : ∀ i, v.cell? ⟨w.heap.size, i, none⟩ = u.cell? ⟨w.heap.size, i, none⟩ := fun i => World.cell?_of_block (a := ⟨w.heap.size, i, none⟩) (hg.block w.heap.size (by omega) (fun e => by have := Option.some.inj e; omega))
  exact ⟨(far 0).trans h.g0, (far 1).trans h.g1, (far 2).trans h.g2, (far 3).trans h.g3, h.r.grown hg (by omega), m', t', o', below_grown h.b hg (by omega) (by omega)⟩
theorem BW.put (h : BW x a A n c fm ps O S N vo w u) (hg : u.grownBy v (some (w.heap.size + 2))) (os : List Int) (m' : SeenM x a ps v (w.heap.size + 2) (N + 1) (putS S.seen os)) : BW x a A n c fm ps O ⟨S.b, putS S.seen os⟩ (N + 1) vo w v :=
  h.remake hg (Nat.le_refl _) m' (h.t.grown hg (by omega)) (owns_other h.o hg fun k hk => by have := (h.o.lt k hk).1; omega)
theorem BW.best (h : BW x a A n c fm ps O S N vo w u) (b' : Bst) : BW x a A n c fm ps O ⟨b', S.seen⟩ N vo w (u.setCells (w.heap.size + 3) 0 (lst 12 (cellR (bstF x a ps b')))) := by
  have hg : u.grownBy (u.setCells (w.heap.size + 3) 0 (lst 12 (cellR (bstF x a ps b')))) (some (w.heap.size + 3)) := grownBy_cells _ _ (grownBy_refl _ _)
  exact h.remake hg (by omega) (h.m.kept hg (fun e => by have := Option.some.inj e; omega)) (h.t.stored _) (owns_other h.o hg fun k hk => by have := (h.o.lt k hk).1; omega)
/-- the last start is taken away -/
theorem BW.pop {os : List Int} (h : BW x a A n c fm ps (O ++ [os]) S N vo w u) : ∃ G cap, vo = .slice (some ⟨G, 0, none⟩) (O.length + 1) cap ∧ w.heap.size + 4 ≤ G ∧ G < u.heap.size ∧ O.length + 1 ≤ cap ∧ cap ≤ maxLen ∧
    StrAt u G (O.length * 12) (strOf os (runs x a ps os)) ∧ BW x a A n c fm ps O S N (.slice (some ⟨G, 0, none⟩) O.length cap) w u := by
  have ho := h.o
  rw [List.length_append, List.length_singleton] at ho
  rcases ho.2 with ⟨_, h0⟩ | ⟨G, cap, cur, rfl, hG, hh, hnc, hcm, hcs, ht⟩
  · cases h0
  · refine ⟨G, cap, rfl, hG, (ho.lt G rfl).2, hnc, hcm, ?_, ?_⟩
    · have h1 := row_at (L := (O ++ [os]).map fun os => strOf os (runs x a ps os)) (k := O.length) (f := strOf os (runs x a ps os)) ho (by simp)
      exact h1
    · have hl : ((O.map fun os => strOf os (runs x a ps os)).flatMap strC).length = O.length * 12 := by
        rw [flat_len (sz := 12) (strC_len _), List.length_map]
      refine ⟨h.g0, h.g1, h.g2, h.g3, h.r, h.m, h.t, ⟨hl, .inr ⟨G, cap, cur, rfl, hG, hh, by omega, hcm, hcs, ?_⟩⟩, h.b⟩
      have h3 := congrArg (List.take (O.length * 12)) ht
      rw [List.take_take, Nat.min_eq_left (by omega), List.map_append, List.flatMap_append, List.take_left' hl] at h3
      exact h3
end
/-- a start read under a guard that is met -/
theorem wpl_load_strw {ops : Array Oper} {rest : List Oper} {op : Oper} {a : Act} {u : World} {Q : Exit → Act → World → Prop} (hgd : Region.wanted op (yielded ops a.tmps) = true) (x : Operand) (ho : op.op = .load 61 x) (b p : Nat) (hx : a.eval x = .pointer (some ⟨b, p, none⟩))
    {f : Str} (h : StrAt u b p f) (hK : wpList Tryd.prog ops Q rest (a.put op.dst (strV f)) u) : wpList Tryd.prog ops Q (op :: rest) a u := by
  rw [wpList, if_pos hgd]
  exact .inl (wp_load_mid 61 x ho b p hx (lst 12 (cellR f)) _ h.range Tryd.underlying61 rfl (by rw [infoR, lst_len]) hK)
/-- what the map tells of a start -/
theorem look_any {x : Iro} {a : Nat} {ps : List Pie} {w : World} {b N : Nat} {seen : List Int → Option (List Int)} (h : SeenM x a ps w b N seen) {os : List Int} (ho : GoodO os) :
    ∃ (g : Str) (fd : Bool), (Instr.lookup 79 (.map (some b)) (ordV (keyF os)) true).run Tryd.prog w = .ok (.tuple #[strV g, .bool fd]) w ∧
      prnS x a ps seen os = (fd && (decide (g 10 ≤ (runs x a ps os).at_) && decide (g 11 ≤ (runs x a ps os).sum))) := by
  obtain ⟨h1, h2⟩ := h.look ho
  cases hs : seen (keyO os) with
  | none => exact ⟨zeroR, false, h2 hs, by unfold prnS; rw [hs]; rfl⟩
  | some e => exact ⟨strOf e (runs x a ps e), true, h1 e hs, by unfold prnS; rw [hs]; rfl⟩
/-- what a round has in its blocks besides -/
structure RD (x : Iro) (a : Nat) (A : Option Addr) (n c : Nat) (fm : Value) (ps : List Pie) (O : List (List Int)) (S : SeS) (N : Nat) (vo : Value) (f : Str) (k : Nat → Int) (b6 b7 : Nat) (w u : World) : Prop where
  bw : BW x a A n c fm ps O S N vo w u
  s : StrOwn u b6 0 f
  k : OrdOwn u b7 0 k
  l6 : w.heap.size + 4 ≤ b6
  l7 : w.heap.size + 4 ≤ b7
section
variable {x : Iro} {a : Nat} {A : Option Addr} {n c : Nat} {fm : Value} {ps : List Pie} {O : List (List Int)} {S : SeS} {N : Nat} {vo : Value} {f : Str} {k : Nat → Int} {b6 b7 : Nat} {w u v : World}
theorem RD.next (h : RD x a A n c fm ps O S N vo f k b6 b7 w u) (hb : Below u.heap.size u v) : RD x a A n c fm ps O S N vo f k b6 b7 w v := ⟨h.bw.next hb, h.s.next hb, h.k.next hb, h.l6, h.l7⟩
theorem RD.put (h : RD x a A n c fm ps O S N vo f k b6 b7 w u) (hg : u.grownBy v (some (w.heap.size + 2))) (os : List Int) (m' : SeenM x a ps v (w.heap.size + 2) (N + 1) (putS S.seen os)) : RD x a A n c fm ps O ⟨S.b, putS S.seen os⟩ (N + 1) vo f k b6 b7 w v :=
  ⟨h.bw.put hg os m', h.s.grown hg (by have := h.l6; omega), h.k.grown hg (by have := h.l7; omega), h.l6, h.l7⟩
theorem RD.best (h : RD x a A n c fm ps O S N vo f k b6 b7 w u) (b' : Bst) : RD x a A n c fm ps O ⟨b', S.seen⟩ N vo f k b6 b7 w (u.setCells (w.heap.size + 3) 0 (lst 12 (cellR (bstF x a ps b')))) := by
  have hg : u.grownBy (u.setCells (w.heap.size + 3) 0 (lst 12 (cellR (bstF x a ps b')))) (some (w.heap.size + 3)) := grownBy_cells _ _ (grownBy_refl _ _)
  exact ⟨h.bw.best b', h.s.grown hg (by have := h.l6; omega), h.k.grown hg (by have := h.l7; omega), h.l6, h.l7⟩
theorem RD.push {O' : List (List Int)} {q : Nat} {vo' : Value} (h : RD x a A n c fm ps O S N vo f k b6 b7 w u) (hg : u.grownBy v (some q)) (hq : w.heap.size + 4 ≤ q) (o' : v.ownsRow (w.heap.size + 4) 61 12 vo' O'.length ((O'.map fun os => strOf os (runs x a ps os)).flatMap strC)) : BW x a A n c fm ps O' S N vo' w v :=
  h.bw.remake hg (by omega) (h.bw.m.kept hg (fun e => by have := Option.some.inj e; omega)) (h.bw.t.grown hg (by omega)) o'
end
/-- what the next round finds -/
def RA (x : Iro) (a : Nat) (A : Option Addr) (n c : Nat) (fm : Value) (ps : List Pie) (w : World) (M : Nat) (vo : Value) (u : World) : Prop := ∃ O S N, BP x a ps O S N ∧ BW x a A n c fm ps O S N vo w u ∧ wgts ps.length O < M
set_option maxRecDepth 100000 in
theorem reverse_none (w : World) : Calls Tryd.prog 46 #[.slice none 0 0] w fun o w' => o = .returned (.tuple #[]) ∧ w = w' := by
  go_enter Tryd.func46, Tryd.ntmps46
  go_wp2_with fail
  go_loop [2, 3] (fun vi vj => vi = .int .i64 0 ∧ vj = .int .i64 (-1)) (fun _ _ => 0)
  case atStart => exact ⟨rfl, rfl⟩
  case round =>
    obtain ⟨rfl, rfl⟩ := hrel
    go_wp2_with fail
    go_end0
    exact ⟨rfl, rfl⟩
end Go.Proofs.YtjhkjbdpmianfaaDoor.iron

/-
  There is a best order, and what is known of it.
-/
namespace Go.Proofs.YtjhkjbdpmianfaaDoor.iron
open Go Go.RowKit sl stk errs row ins

theorem mem_suf {n : Nat} : ∀ (r : Nat) {os t : List Int}, (os ++ t).Nodup → (∀ i ∈ t, 0 ≤ i ∧ i < n) → t.length = r → t ∈ suf n r os
  | 0, os, t, _, _, hl => by rw [List.length_eq_zero_iff.1 hl, suf]; exact List.mem_singleton.2 rfl
  | r + 1, os, [], _, _, hl => by cases hl
  | r + 1, os, k :: t, hn, hr, hl => by
    obtain ⟨j, rfl⟩ := Int.eq_ofNat_of_zero_le (hr k (List.mem_cons_self ..)).1
    have hj : j < n := by have := (hr (j : Int) (List.mem_cons_self ..)).2; omega
    have hk : (j : Int) ∉ os := fun h => (List.nodup_append.1 hn).2.2 _ h _ (List.mem_cons_self ..) rfl
    rw [suf, List.mem_flatMap]
    refine ⟨j, ?_, List.mem_map.2 ⟨t, mem_suf r (by rw [List.append_assoc]; exact hn) (fun i hi => hr i (List.mem_cons_of_mem _ hi)) (by simpa using hl), rfl⟩⟩
    unfold leftP
    rw [List.mem_filter]
    exact ⟨by simpa using hj, by simp [hk]⟩
theorem suf_rng {n : Nat} : ∀ (r : Nat) {os t : List Int}, t ∈ suf n r os → ∀ i ∈ t, 0 ≤ i ∧ i < n
  | 0, _, t, h => by rw [suf, List.mem_singleton] at h; subst h; intro i hi; cases hi
  | r + 1, os, t, h => by
    rw [suf, List.mem_flatMap] at h
    obtain ⟨k, hk, h⟩ := h
    obtain ⟨u, hu, rfl⟩ := List.mem_map.1 h
    intro i hi
    rcases List.mem_cons.1 hi with rfl | hi
    · have : k < n := by simpa using (List.mem_filter.1 hk).1
      omega
    · exact suf_rng r hu i hi
structure BestOk (x : Iro) (a : Nat) (ps : List Pie) (d : List Int × Int) : Prop where
  len : d.1.length = ps.length
  rng : ∀ i ∈ d.1, 0 ≤ i ∧ i < ps.length
  sum : d.2 = (runs x a ps d.1).sum
theorem bestB_some (x : Iro) (a : Nat) (ps : List Pie) : ∃ d, bestB x a ps = some d ∧ BestOk x a ps d := by
  have ho := near_ok x ps ps.length (Nat.le_refl _)
  have hm := mem_suf (n := ps.length) ps.length (os := []) (t := nearO x ps ps.length) (by simpa using ho.nd) ho.rng ho.len
  obtain ⟨d, hd, _⟩ := fold_cls (cmpl x a ps ps.length []) none _ (List.mem_map.2 ⟨_, hm, rfl⟩)
  refine ⟨d, hd, ?_⟩
  rcases fold_mem _ hd with h | h
  · cases h
  · obtain ⟨t, ht, rfl⟩ := List.mem_map.1 h
    exact ⟨suf_len _ ht, suf_rng _ ht, rfl⟩
theorem best_yes {a : Nat} {x : Iro} {ps : List Pie} {ys : List Int} {r0 : Int} {r1 : Nat} (h : bestR a x ps = (ys, r0, r1)) (hc : codeIr x ps = 0) : bestB x a ps = some (ys, r0) ∧ BestOk x a ps (ys, r0) ∧ r1 = 0 := by
  obtain ⟨d, hd, ho⟩ := bestB_some x a ps
  rw [bestR, if_pos hc, hd] at h
  simp at h
  obtain ⟨rfl, rfl, rfl⟩ := h
  exact ⟨hd, ho, rfl⟩
theorem best_no {a : Nat} {x : Iro} {ps : List Pie} {ys : List Int} {r0 : Int} {r1 i : Nat} (h : bestR a x ps = (ys, r0, r1)) (hc : codeIr x ps = i + 1) : ys = [] ∧ r0 = 0 ∧ r1 = i + 1 := by
  rw [bestR, if_neg (by omega), hc] at h
  simp at h
  exact ⟨h.1, h.2.1.symm, h.2.2.symm⟩
end Go.Proofs.YtjhkjbdpmianfaaDoor.iron
