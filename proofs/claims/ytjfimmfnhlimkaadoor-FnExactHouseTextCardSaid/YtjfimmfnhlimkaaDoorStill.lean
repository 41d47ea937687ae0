/-
  A region whose operations are still, but for its tail; rows where another block grows.
-/
import Derived.Test.YtjfimmfnhlimkaaDoorRowAt
import Derived.Test.YtjfimmfnhlimkaaDoorRows
import Derived.StillTailTactics
import Derived.Laws.AppendOwn
namespace Go.Proofs.YtjfimmfnhlimkaaDoor.row
open Go Go.RowKit sl

/-- a region whose operations are still, but for its tail: the world keeps its spelling -/
theorem still_region {id : Nat} {Q : Exit → Act → World → Prop} {a : Act} {w : World} {l : List Oper} (n : Nat) (hB : Region.lexTailB .any l.toArray n = true)
    (h : wpStill Tryd.prog l.toArray w.drew (fun a' => wpList Tryd.prog l.toArray Q (l.drop n) a' w.drew) (l.take n) a) : (Code.region id l.toArray true).wp Tryd.prog Q a w :=
  wp_region_still_tail n (by kernel_rfl) hB h
theorem RowAt.grown {u v : World} {b p n : Nat} {c : Nat → Value} {g : Nat} (h : RowAt u b p n c) (hg : u.grownBy v (some g)) (hne : g ≠ b) : RowAt v b p n c :=
  h.keep hg.size fun q hq => World.cell?_of_block (hg.block q.block (by rw [hq]; exact h.lt) (by rw [hq]; intro e; exact hne (Option.some.inj e).symm))
theorem RowOwn.grown {u v : World} {b p n : Nat} {c : Nat → Value} {g : Nat} (h : RowOwn u b p n c) (hg : u.grownBy v (some g)) (hne : g ≠ b) : RowOwn v b p n c :=
  ⟨h.toRowAt.grown hg hne, fun j hj => (World.frozen?_of_block (a := ⟨b, p + j, none⟩) (hg.block b h.lt (by intro e; exact hne (Option.some.inj e).symm))).trans (h.free j hj)⟩
theorem grownBy_refl (w : World) (r : Option Nat) : w.grownBy w r := ⟨rfl, rfl, rfl, Nat.le_refl _, fun _ _ _ => rfl⟩
theorem grownBy_trans {a b c : World} {r : Option Nat} (h : a.grownBy b r) (k : b.grownBy c r) : a.grownBy c r :=
  ⟨k.os.trans h.os, k.tape.trans h.tape, k.output.trans h.output, Nat.le_trans h.size k.size, fun i hi hn => (k.block i (Nat.lt_of_lt_of_le hi h.size) hn).trans (h.block i hi hn)⟩
theorem grownBy_drew {a b : World} {r : Option Nat} (h : a.grownBy b r) : a.grownBy b.drew r := ⟨h.os, h.tape, h.output, h.size, h.block⟩
theorem grownBy_drewN {a b : World} {r : Option Nat} (h : a.grownBy b r) (n : Nat) : a.grownBy (b.drewN n) r := ⟨h.os, h.tape, h.output, h.size, h.block⟩
theorem grownBy_set {a b : World} {g : Nat} (h : a.grownBy b (some g)) {p : Addr} (hp : p.block = g) (v : Value) : a.grownBy (b.setCell p v) (some g) :=
  grownBy_trans h ⟨rfl, rfl, rfl, by simp [World.setCell], fun k hk hn => Below.heap_setCell _ _ _ _ (by rw [hp]; intro e; exact hn (by rw [e]))⟩
theorem grownBy_below {a b : World} {r : Option Nat} (h : Below a.heap.size a b) : a.grownBy b r := ⟨h.os, h.tape, h.output, h.size, fun k hk _ => h.block k hk⟩
/-- what was written lies in a block that is new to the call -/
theorem below_grown {B : Nat} {a b c : World} {g : Nat} (h : Below B a b) (k : b.grownBy c (some g)) (hB : B ≤ b.heap.size) (hg : B ≤ g) : Below B a c :=
  h.grown k hB fun i hi => by have := Option.some.inj hi; omega
theorem owns_set {u : World} {base : Nat} {e : TypeId} {sz : Nat} {v : Value} {m : Nat} {L : List Value} (h : u.ownsRow base e sz v m L) (b i : Nat) (x : Value) : ∃ L', (u.setCell ⟨b, i, none⟩ x).ownsRow base e sz v m L' := by
  by_cases hv : v.ownBlock = some b
  · rcases h.2 with ⟨rfl, hn⟩ | ⟨g, cap, cur, rfl, hg, hh, rest⟩
    · cases hv
    · obtain rfl : g = b := Option.some.inj hv
      exact ⟨_, (h.stored i x).1⟩
  · exact ⟨L, owns_other h (grownBy_set (grownBy_refl u (some b)) rfl x) fun k hk e => hv (hk.trans (by rw [e]))⟩
/-- of what was there, nothing but n cells from p of block b on has changed -/
structure Chg (w w' : World) (b p n : Nat) : Prop where
  g : w.grownBy w' (some b)
  out : ∀ i, i < p ∨ p + n ≤ i → w'.cell? ⟨b, i, none⟩ = w.cell? ⟨b, i, none⟩
  fz : ∀ i, w'.frozen? ⟨b, i, none⟩ = w.frozen? ⟨b, i, none⟩
  own : ∀ (base : Nat) (e : TypeId) (sz : Nat) (v : Value) (m : Nat) (L : List Value), w.ownsRow base e sz v m L → ∃ L', w'.ownsRow base e sz v m L'
theorem Chg.refl (w : World) (b p n : Nat) : Chg w w b p n := ⟨grownBy_refl _ _, fun _ _ => rfl, fun _ => rfl, fun _ _ _ _ _ L h => ⟨L, h⟩⟩
theorem Chg.trans {u v w : World} {b p n : Nat} (h : Chg u v b p n) (k : Chg v w b p n) : Chg u w b p n :=
  ⟨grownBy_trans h.g k.g, fun i hi => (k.out i hi).trans (h.out i hi), fun i => (k.fz i).trans (h.fz i), fun ba e sz v m L hL => by
    obtain ⟨L1, h1⟩ := h.own ba e sz v m L hL
    exact k.own ba e sz v m L1 h1⟩
theorem Chg.drew {u v : World} {b p n : Nat} (h : Chg u v b p n) : Chg u v.drew b p n := ⟨grownBy_drew h.g, h.out, h.fz, fun ba e sz x m L hL => by
    obtain ⟨L1, h1⟩ := h.own ba e sz x m L hL
    exact ⟨L1, h1⟩⟩
theorem Chg.drewN {u v : World} {b p n : Nat} (h : Chg u v b p n) (k : Nat) : Chg u (v.drewN k) b p n := ⟨grownBy_drewN h.g k, h.out, h.fz, fun ba e sz x m L hL => by
    obtain ⟨L1, h1⟩ := h.own ba e sz x m L hL
    exact ⟨L1, h1⟩⟩
theorem Chg.set {u v : World} {b p n : Nat} (h : Chg u v b p n) {i : Nat} (h0 : p ≤ i) (h1 : i < p + n) (x : Value) : Chg u (v.setCell ⟨b, i, none⟩ x) b p n :=
  ⟨grownBy_set h.g rfl x, fun j hj => (World.cell?_setCell_other _ _ _ _ (fun e => by have := congrArg Addr.off e; dsimp at this; omega)).trans (h.out j hj), fun j => (World.frozen?_setCell _ _ _ _).trans (h.fz j), fun ba e sz v m L hL => by
    obtain ⟨L1, k⟩ := h.own ba e sz v m L hL
    exact owns_set k b i x⟩
theorem Chg.below {u v : World} {b p n : Nat} (hb : Below u.heap.size u v) (hlt : b < u.heap.size) : Chg u v b p n :=
  ⟨grownBy_below hb, fun i _ => hb.cell (p := ⟨b, i, none⟩) hlt, fun i => hb.frozen (p := ⟨b, i, none⟩) hlt, fun _ _ _ _ _ L hL => ⟨L, owns_next hL hb⟩⟩
theorem RowAt.chg {u v : World} {b p n b' p' n' : Nat} {c : Nat → Value} (h : RowAt u b' p' n' c) (k : Chg u v b p n) (ha : b ≠ b' ∨ p' + n' ≤ p ∨ p + n ≤ p') : RowAt v b' p' n' c := by
  by_cases e : b = b'
  · subst e
    exact ⟨Nat.lt_of_lt_of_le h.lt k.g.size, fun j hj => (k.out (p' + j) (by rcases ha with ha | ha | ha; exact absurd rfl ha; all_goals omega)).trans (h.cell j hj)⟩
  · exact h.grown k.g e
theorem RowOwn.chg {u v : World} {b p n b' p' n' : Nat} {c : Nat → Value} (h : RowOwn u b' p' n' c) (k : Chg u v b p n) (ha : b ≠ b' ∨ p' + n' ≤ p ∨ p + n ≤ p') : RowOwn v b' p' n' c := by
  refine ⟨h.toRowAt.chg k ha, fun j hj => ?_⟩
  by_cases e : b = b'
  · subst e
    exact (k.fz _).trans (h.free j hj)
  · exact (h.grown k.g e).free j hj
/-- a struct or an array that is written out is built as told -/
theorem wpl_built {P : Program} {ops : Array Oper} {rest : List Oper} {o : Oper} {a : Act} {w w' : World} {v : Value} {Q : Exit → Act → World → Prop} (hgd : o.guard = none) (t : TypeId) (parts : Array (Nat × Operand)) (ho : o.op = .build t parts)
    (vals : Array (Nat × Value)) (hp : (parts.map fun (i, x) => (i, a.eval x)) = vals) (hrun : (Instr.build t vals).run P w = .ok v w') (h : wpList P ops Q rest (a.put o.dst v) w') : wpList P ops Q (o :: rest) a w :=
  wpList_plain hgd fun _ hK => by
    unfold Oper.wp execOp
    simp only [ho, hp, hrun, Sem.run_bind, Sem.run_pure, Result.andThen_ok]
    exact hK _ _ h
/-- a long load in such a region -/
theorem still_load {P : Program} {ops : Array Oper} {w : World} {Q : Act → Prop} {a : Act} {o : Oper} {rest : List Oper} (hgd : Region.wanted o (yielded ops a.tmps) = true) (ty : TypeId) (x : Operand) (ho : o.op = .load ty x)
    (b p : Nat) (hx : a.eval x = .pointer (some ⟨b, p, none⟩)) (cs : List Value) (d : TypeDesc) (hc : w.rangeAt b p cs) (hu : P.underlying ty = some d) (hd : d.isRow = true) (hi : (P.info? ty).map (·.size) = some cs.length)
    (h : wpStill P ops w Q rest (a.put o.dst (.agg cs.toArray))) : wpStill P ops w Q (o :: rest) a := by
  rw [wpStill, if_pos hgd]
  unfold Oper.still execOp
  simp only [ho, hx, Instr.loadAt, Instr.sureAddr, Sem.run_bind, Sem.run_pure, Result.andThen_ok, run_loadVar_mid w b p ty cs d hc hu hd hi]
  exact ⟨rfl, h⟩
theorem grownBy_cells {a : World} {g : Nat} : ∀ (vs : List Value) (o : Nat) {b : World}, a.grownBy b (some g) → a.grownBy (b.setCells g o vs) (some g)
  | [], _, _, h => h
  | v :: r, o, _, h => grownBy_cells r (o + 1) (grownBy_set h rfl v)
end Go.Proofs.YtjfimmfnhlimkaaDoor.row
