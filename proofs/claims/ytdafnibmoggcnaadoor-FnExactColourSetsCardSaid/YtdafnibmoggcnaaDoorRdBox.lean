/-
  What a reader keeps over the parts of a text: the variables of its results, its list in a box, the iterator's box.
-/
import Derived.Test.YtdafnibmoggcnaaDoorRdRange
import Derived.Test.YtdafnibmoggcnaaDoorSl
import Derived.RangeFuncBox
namespace Go.Proofs.YtdafnibmoggcnaaDoor.rng
open Go Go.RowKit sl

theorem boxed_below {W W' : World} {B : Nat} {t : TypeId} {v : Value} (h : Boxed W B t v) (hb : Below W.heap.size W W') : Boxed W' B t v := (hb.block B h.lt).trans h
theorem boxed_not {W W' : World} {row : Option Nat} {B : Nat} {t : TypeId} {v : Value} (h : Boxed W B t v) (hg : W.grownBy W' row) (hr : ∀ r, row = some r → ∃ o : Obj, W.heap[r]? = some o ∧ o.isCells = false) : Boxed W' B t v :=
  h.kept hg fun e => by
    obtain ⟨o, ho, hc⟩ := hr B e.symm
    rw [show W.heap[B]? = _ from h] at ho
    cases ho
    cases hc
theorem owns_not {W W' : World} {row : Option Nat} {base : Nat} {E : TypeId} {sz k : Nat} {v : Value} {L : List Value} (h : W.ownsRow base E sz v k L) (hg : W.grownBy W' row) (hr : ∀ r, row = some r → ∃ o : Obj, W.heap[r]? = some o ∧ o.isCells = false) : W'.ownsRow base E sz v k L :=
  h.kept hg (by
    rcases h.2 with ⟨rfl, _⟩ | ⟨g, cap, cur, rfl, _, hgb, _⟩
    · exact .inl rfl
    · refine .inr fun e => ?_
      obtain ⟨o, ho, hc⟩ := hr g (by simpa [Value.ownBlock] using e.symm)
      rw [hgb] at ho
      cases ho
      cases hc)
theorem owns_ge {W : World} {base : Nat} {E : TypeId} {sz k : Nat} {v : Value} {L : List Value} (h : W.ownsRow base E sz v k L) : ∀ g, v.ownBlock = some g → base ≤ g := by
  rcases h.2 with ⟨rfl, _⟩ | ⟨g, cap, cur, rfl, hb, _⟩
  · intro g hg; simp [Value.ownBlock] at hg
  · intro g' hg; simp only [Value.ownBlock, Option.some.injEq] at hg; omega
theorem owns_low {W : World} {base b0 : Nat} {E : TypeId} {sz k : Nat} {v : Value} {L : List Value} (h : W.ownsRow base E sz v k L) (hb : b0 ≤ base) : W.ownsRow b0 E sz v k L := by
  refine ⟨h.1, ?_⟩
  rcases h.2 with h1 | ⟨g, cap, cur, rfl, h2, h3⟩
  · exact .inl h1
  · exact .inr ⟨g, cap, cur, rfl, by omega, h3⟩

/-- b: the heap's size at the start; the results' variables at b and b + 1, the list's at b + 2, the iterator's at b + 3, rows from b + 6 on -/
structure RB (b : Nat) (Tl Te Ts E : TypeId) (sz : Nat) (L : List Value) (k : Nat) (W : World) : Prop where
  r : Boxed W b Tl (.slice none 0 0)
  e : Boxed W (b + 1) Te .nilIface
  l : ∃ v, Boxed W (b + 1 + 1) Tl v ∧ W.ownsRow (b + 6) E sz v k L
  s : ∃ t, Boxed W (b + 1 + 1 + 1) Ts (.string t)
  n : b + 6 ≤ W.heap.size
variable {b : Nat} {Tl Te Ts E : TypeId} {sz k : Nat} {L : List Value} {W W' : World}
theorem RB.grown {row : Option Nat} (h : RB b Tl Te Ts E sz L k W) (hg : W.grownBy W' row) (hr : ∀ r, row = some r → ∃ o : Obj, W.heap[r]? = some o ∧ o.isCells = false) : RB b Tl Te Ts E sz L k W' := by
  obtain ⟨h1, h2, ⟨v, h3, h4⟩, ⟨t, h5⟩, h6⟩ := h
  exact ⟨boxed_not h1 hg hr, boxed_not h2 hg hr, ⟨v, boxed_not h3 hg hr, owns_not h4 hg hr⟩, ⟨t, boxed_not h5 hg hr⟩, Nat.le_trans h6 hg.size⟩
theorem RB.below (h : RB b Tl Te Ts E sz L k W) (hb : Below W.heap.size W W') : RB b Tl Te Ts E sz L k W' := by
  obtain ⟨h1, h2, ⟨v, h3, h4⟩, ⟨t, h5⟩, h6⟩ := h
  exact ⟨boxed_below h1 hb, boxed_below h2 hb, ⟨v, boxed_below h3 hb, owns_next h4 hb⟩, ⟨t, boxed_below h5 hb⟩, Nat.le_trans h6 hb.size⟩
theorem RB.store (h : RB b Tl Te Ts E sz L k W) (u : ByteArray) : RB b Tl Te Ts E sz L k (W.setCell ⟨b + 1 + 1 + 1, 0, none⟩ (.string u)) := by
  obtain ⟨h1, h2, ⟨v, h3, h4⟩, ⟨t, h5⟩, h6⟩ := h
  have hg := grownBy_setCell' W (b + 1 + 1 + 1) (.string u)
  exact ⟨h1.kept hg (by simp <;> omega), h2.kept hg (by simp <;> omega), ⟨v, h3.kept hg (by simp <;> omega), h4.kept hg (.inr fun e => by have := owns_ge h4 _ e; omega)⟩, ⟨u, h5.set _⟩, Nat.le_trans h6 hg.size⟩
/-- the list has grown, and lies in its box again -/
theorem RB.append {w1 : World} {tmp : Obj} {v v' : Value} {k' : Nat} {L' : List Value} (h : RB b Tl Te Ts E sz L k W) (hv : Boxed W (b + 1 + 1) Tl v) (hrow : W.ownsRow (b + 6) E sz v k L)
    (hown : w1.ownsRow (b + 6) E sz v' k' L') (hgr : (W.alloc tmp).grownBy w1 v.ownBlock) :
    Boxed w1 (b + 1 + 1) Tl v ∧ RB b Tl Te Ts E sz L' k' (w1.setCell ⟨b + 1 + 1, 0, none⟩ v') ∧ KeepsOthers W (w1.setCell ⟨b + 1 + 1, 0, none⟩ v') ∧ Below b W (w1.setCell ⟨b + 1 + 1, 0, none⟩ v') ∧ KeepB (b + 1 + 1 + 1) (b + 6) W (w1.setCell ⟨b + 1 + 1, 0, none⟩ v') := by
  obtain ⟨h1, h2, ⟨_, _, _⟩, ⟨t, h5⟩, h6⟩ := h
  have hge := owns_ge hrow
  have hne : ∀ j, j < b + 6 → some j ≠ v.ownBlock := fun j hj e => by have := hge j e.symm; omega
  have hv1 : Boxed w1 (b + 1 + 1) Tl v := (hv.alloc tmp).kept hgr (hne _ (by omega))
  have hg2 := grownBy_setCell' w1 (b + 1 + 1) v'
  have hn1 : b + 6 ≤ w1.heap.size := by have := hgr.size; simp at this; omega
  refine ⟨hv1, ⟨((h1.alloc tmp).kept hgr (hne _ (by omega))).kept hg2 (by simp <;> omega), ((h2.alloc tmp).kept hgr (hne _ (by omega))).kept hg2 (by simp <;> omega), ⟨v', hv1.set v', hown.kept hg2 (.inr fun e => by have := owns_ge hown _ e; omega)⟩, ⟨t, ((h5.alloc tmp).kept hgr (hne _ (by omega))).kept hg2 (by simp <;> omega)⟩, Nat.le_trans hn1 hg2.size⟩, ?_, ?_, ?_⟩
  · refine ((KeepsOthers.alloc W tmp).trans (KeepsOthers.of_grownBy hgr fun j o ej hj => ?_)).trans (KeepsOthers.setCell _ _ _)
    rcases hrow.2 with ⟨rfl, _⟩ | ⟨g, cap, cur, rfl, _, hgb, _⟩
    · simp [Value.ownBlock] at ej
    · obtain rfl : g = j := by simpa [Value.ownBlock] using ej
      rw [Below.heap_alloc _ _ _ (Array.getElem?_eq_some_iff.1 hgb).1, hgb] at hj
      cases hj
      rfl
  · exact (((Below.refl b W).alloc (by omega) tmp).grown hgr (by simp; omega) fun j ej => by have := hge j ej; omega).setCell (p := ⟨b + 1 + 1, 0, none⟩) (by show b ≤ b + 1 + 1; omega) v'
  · intro j h1 h2
    refine (Below.heap_setCell w1 ⟨b + 1 + 1, 0, none⟩ v' j (by show j ≠ b + 1 + 1; omega)).trans ((hgr.block j (by simp; omega) (hne j h2)).trans (Below.heap_alloc _ _ _ (by omega)))
/-- how a reader leaves: the error is stored -/
theorem RB.fail (h : RB b Tl Te Ts E sz L k W) (ev : Value) : Boxed ((W.setCell ⟨b, 0, none⟩ (.slice none 0 0)).setCell ⟨b + 1, 0, none⟩ ev) b Tl (.slice none 0 0) ∧ Boxed ((W.setCell ⟨b, 0, none⟩ (.slice none 0 0)).setCell ⟨b + 1, 0, none⟩ ev) (b + 1) Te ev :=
  ⟨(h.r.set _).kept (grownBy_setCell' _ _ _) (by simp <;> omega), (h.e.kept (grownBy_setCell' _ _ _) (by simp <;> omega)).set _⟩
theorem RB.fail2 (h : RB b Tl Te Ts E sz L k W) (ev : Value) : Boxed ((W.setCell ⟨b + 1, 0, none⟩ ev).setCell ⟨b, 0, none⟩ (.slice none 0 0)) b Tl (.slice none 0 0) ∧ Boxed ((W.setCell ⟨b + 1, 0, none⟩ ev).setCell ⟨b, 0, none⟩ (.slice none 0 0)) (b + 1) Te ev :=
  ⟨(h.r.kept (grownBy_setCell' _ _ _) (by simp <;> omega)).set _, (h.e.set _).kept (grownBy_setCell' _ _ _) (by simp <;> omega)⟩
/-- two stores of a call's own variables -/
theorem two_stores (W : World) (p q : Nat) (u v : Value) (B : Nat) : KeepsFrom B W ((W.setCell ⟨p, 0, none⟩ u).setCell ⟨q, 0, none⟩ v).drew := (((KeepsOthers.setCell W _ u).trans (KeepsOthers.setCell _ _ v)).trans (KeepsOthers.drew _)).from B
theorem two_below {W0 W : World} {n : Nat} (h : Below n W0 W) (p q : Nat) (hp : n ≤ p) (hq : n ≤ q) (u v : Value) : Below n W0 ((W.setCell ⟨p, 0, none⟩ u).setCell ⟨q, 0, none⟩ v).drew := ((h.setCell (p := ⟨p, 0, none⟩) hp u).setCell (p := ⟨q, 0, none⟩) hq v).drew
theorem keeps_below {W W' : World} (B : Nat) (h : Below W.heap.size W W') : KeepsFrom B W W' := ⟨h.size, fun k _o _ hk _ => (h.block k (Array.getElem?_eq_some_iff.1 hk).1).trans hk⟩
/-- an operation without a guard is wanted -/
theorem wanted_none {o : Oper} {ys : Nat → Option Bool} {A C : Prop} (hg : o.guard = none) (h : A) : if Region.wanted o ys = true then A else C := by
  have e : Region.wanted o ys = true := by unfold Region.wanted; rw [hg]
  rw [if_pos e]
  exact h
theorem wrap_fits16 {n : Int} (h0 : -32768 ≤ n) (h1 : n ≤ 32767) : IntKind.i16.wrap n = n := by
  simp [IntKind.wrap, IntKind.bits, IntKind.signed]
  split <;> omega
theorem wrap_fits8 {n : Int} (h0 : -128 ≤ n) (h1 : n ≤ 127) : IntKind.i8.wrap n = n := by
  simp [IntKind.wrap, IntKind.bits, IntKind.signed]
  split <;> omega
end Go.Proofs.YtdafnibmoggcnaaDoor.rng
