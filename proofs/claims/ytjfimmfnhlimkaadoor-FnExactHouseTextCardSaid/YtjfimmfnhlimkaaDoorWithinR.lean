/-
  One error alone: a number that is out of its range.
-/
import Derived.Test.YtjfimmfnhlimkaaDoorJoin16
import Derived.Test.YtjfimmfnhlimkaaDoorLaid
namespace Go.Proofs.YtjfimmfnhlimkaaDoor.errs
open Go Go.RowKit sl

/-- the variable of one error -/
structure ER (w : World) (B : Nat) (a : Addr) : Prop where
  c1 : w.cell? ⟨3, 0, none⟩ = some (errV a)
  lt : 3 < B
theorem ER.below {w w' : World} {B : Nat} {a : Addr} (h : ER w B a) (hb : Below B w w') : ER w' B a := ⟨(hb.cell (p := ⟨_, 0, none⟩) h.lt).trans h.c1, h.lt⟩
theorem ER.of {w : World} {B : Nat} {e : Nat → Addr} (h : Errs w B e) : ER w B (e 1) := ⟨h.c1, h.size.2.1⟩
theorem checkWithin_er (x lo hi : Int) {w : World} {B : Nat} {e : Nat → Addr} (h : ER w B (e 1)) :
    Calls Tryd.prog 166 #[.int .i64 x, .int .i64 lo, .int .i64 hi] w fun o w' => o = .returned (errOf e (if lo ≤ x ∧ x ≤ hi then 0 else 2)) ∧ w = w' := by
  obtain ⟨c1, _⟩ := h
  by_cases h0 : lo ≤ x ∧ x ≤ hi
  · rw [if_pos h0]
    obtain ⟨h1, h2⟩ := h0
    have h3 : ¬ x < lo := by omega
    have h4 : ¬ hi < x := by omega
    go_enter Tryd.func166, Tryd.ntmps166
    go_wp2_with fail
    all_goals go_ret
    all_goals exact ⟨rfl, rfl⟩
  · rw [if_neg h0]
    by_cases h1 : x < lo
    · go_enter Tryd.func166, Tryd.ntmps166
      go_wp2_with fail
      all_goals go_ret
      all_goals exact ⟨rfl, rfl⟩
    · have h2 : hi < x := by omega
      go_enter Tryd.func166, Tryd.ntmps166
      go_wp2_with fail
      all_goals go_ret
      all_goals exact ⟨rfl, rfl⟩
/-- what a row's list gives: one error -/
theorem err1_of {W : World} (l : List (String × DataW Unit)) (h : laidMet Tryd.prog l W) (hl : l = (listOf l).map (sent "*errors.errorString"))
    (hty : ∀ x ∈ listOf l, ∃ g, Tryd.prog.globalNamed x.1 = some g ∧ (Tryd.prog.globals[g]?).map (·.type) = some 94)
    (hk : ((listOf l)[0]?).bind (fun x => Tryd.prog.globalNamed x.1) = some 3) : ∃ a, ER W W.heap.size a := by
  obtain ⟨ps, hv, hnd, hrows⟩ := h
  rw [hl] at hv
  obtain ⟨As, hlen, hndA, hmem, hat⟩ := sentinels Tryd.underlying94 rowE Tryd.underlying284 fldE rfl rfl Tryd.underlying9 cellsE cellsStr (listOf l) ps hty hv hnd hrows
  cases hx : (listOf l)[0]? with
  | none => rw [hx] at hk; cases hk
  | some x =>
    rw [hx] at hk
    obtain ⟨a, g, ha, hg, hc⟩ := hat 0 x hx
    have : g = 3 := Option.some.inj (hg.symm.trans hk)
    subst this
    exact ⟨a, hc, lt_of_cell hc⟩
theorem vars1_of {H : Type} {enc : TypeId × Value → H} {P : Program} {W : World} {sp : Nat → Bool} {n0 : String} {gs : List (DataW H)} {q : List MemPlace} (h : DataW.TrodVars enc P W sp [n0] gs q) : ∃ z0, gs = [z0] := by
  match gs, h with
  | [z0], _ => exact ⟨z0, rfl⟩
  | [], h => exact h.elim
  | _ :: _ :: _, h => obtain ⟨_, _, _, _, _, _, _, _, _, _, h, _⟩ := h; exact h.elim
end Go.Proofs.YtjfimmfnhlimkaaDoor.errs
