/-
  A range over a function whose value writes one box of its own between two rounds.
-/
import Derived.RangeFuncNested
import Derived.RangeFuncBound
import Derived.RangeFuncCalls
import Derived.RangeFuncLeaves
import Derived.Shelf.Abstract
import Derived.Shelf.RegionOpen
import Derived.WalkKit
import Derived.OwnWalkIn
import Derived.TacticsInMore
import Derived.LoopNIn
import Derived.LoopIn
import Derived.Test.YtdafnibmoggcnaaDoorProg
namespace Go.Proofs.YtdafnibmoggcnaaDoor.rng
open Go Go.RowKit

/-- some blocks lie as they lay -/
def KeepB (lo hi : Nat) (W W' : World) : Prop := ∀ k, lo ≤ k → k < hi → W'.heap[k]? = W.heap[k]?
theorem KeepB.refl (lo hi : Nat) (W : World) : KeepB lo hi W W := fun _ _ _ => rfl
theorem KeepB.trans {lo hi : Nat} {A B C : World} (h : KeepB lo hi A B) (k : KeepB lo hi B C) : KeepB lo hi A C := fun i h1 h2 => (k i h1 h2).trans (h i h1 h2)
theorem KeepB.put {lo hi l : Nat} {W : World} (o : Obj) (h : hi ≤ l) : KeepB lo hi W (W.putObj l o) := fun k _ h2 => World.putObj_heap_other (by omega)
theorem KeepB.cell {lo hi b o : Nat} {W W' : World} (h : KeepB lo hi W W') (h1 : lo ≤ b) (h2 : b < hi) : W'.cell? ⟨b, o, none⟩ = W.cell? ⟨b, o, none⟩ := World.cell?_of_block (h b h1 h2)
theorem KeepB.frozen {lo hi b o : Nat} {W W' : World} (h : KeepB lo hi W W') (h1 : lo ≤ b) (h2 : b < hi) : W'.frozen? ⟨b, o, none⟩ = W.frozen? ⟨b, o, none⟩ := World.frozen?_of_block (h b h1 h2)
theorem KeepB.below {lo hi n : Nat} {W W' : World} (h : Below n W W') (hn : hi ≤ n) : KeepB lo hi W W' := fun k _ h2 => h.block k (by omega)
/-- what a caller's words bear: new blocks, a walk's object laid later, and the iterator's box -/
def Bears {α : Type} (B Bs : Nat) (J : List α → World → Prop) : Prop :=
  AbidesFrom B J ∧ ∀ pre A t, J pre A → J pre (A.setCell ⟨Bs, 0, none⟩ (.string t))
/-- the contract of such a value, called in a world that has grown from w -/
def SeqBox {α : Type} (F : Fence) (n : Nat) (P : Program) (gf : Nat) (lb : Array Value) (encs : α → Array Value) (lo n₀ Bs : Nat) (S Sp : List α → Prop) (N : Nat) (w : World) : Prop :=
  ∀ (l : Nat) (J Jx : List α → World → Prop) (W : World), Below w.heap.size w W → Bears W.heap.size Bs J →
    (∀ pre x X, J pre X → pre.length < N → YieldAt F (n - 1) P l (encs x) X fun e X' =>
      (e = .returned (.bool true) ∧ J (pre ++ [x]) X' ∧ KeepB lo n₀ X X') ∨ (e = .returned (.bool false) ∧ Jx (pre ++ [x]) X')) →
    J [] W → CallsIn F n P gf (#[.func (.yield l) #[] #[]] ++ lb) W fun e W' => (∃ v, e = .returned v) ∧ ((∃ xs, S xs ∧ J xs W') ∨ (∃ pre, Sp pre ∧ Jx pre W'))

variable {F : Fence} {n : Nat} {P : Program} {w : World}

theorem at_setCell {A : World} {Bs k : Nat} {v : Value} {o : Obj} (h : A.heap[k]? = some o) (hne : k ≠ Bs) : (A.setCell ⟨Bs, 0, none⟩ v).heap[k]? = some o :=
  (Below.heap_setCell A ⟨Bs, 0, none⟩ v k hne).trans h

/-- the two blocks that such a loop lays: its record, and the list of the rounds' calls -/
structure Book (w : World) (l : Loop) (W : World) : Prop where
  record : W.heap[w.heap.size + 1]? = some (.loop l)
  calls : W.heap[w.heap.size]? = some (.deferred (some []))

theorem Book.start (w : World) (l : Loop) : Book w l ((w.alloc (.deferred (some []))).alloc (.loop l)) :=
  ⟨by have h := World.alloc_heap_new (w.alloc (.deferred (some []))) (.loop l); rwa [World.size_alloc] at h, (Below.heap_alloc _ _ _ (by simp)).trans (World.alloc_heap_new w _)⟩
theorem Book.put {l : Loop} {W : World} (h : Book w l W) (l' : Loop) : Book w l' (W.putObj (w.heap.size + 1) (.loop l')) :=
  ⟨World.putObj_heap_same (Array.getElem?_eq_some_iff.1 h.record).1, (World.putObj_heap_other (by omega)).trans h.calls⟩
theorem Book.kept {l : Loop} {W W' : World} (h : Book w l W) (k : KeepsFrom w.heap.size W W') : Book w l W' :=
  ⟨k.same _ _ (by omega) h.record rfl, k.same _ _ (Nat.le_refl _) h.calls rfl⟩
theorem Book.grown {l : Loop} {A B : World} {row : Option Nat} (h : Book w l A) (hg : A.grownBy B row) (hr : ∀ r, row = some r → ∃ o : Obj, A.heap[r]? = some o ∧ o.isWalk = true) : Book w l B :=
  ⟨(grownBy_keeps hg hr h.record rfl).trans h.record, (grownBy_keeps hg hr h.calls rfl).trans h.calls⟩
theorem Book.store {l : Loop} {A : World} {Bs : Nat} (h : Book w l A) (hBs : Bs < w.heap.size) (t : Value) : Book w l (A.setCell ⟨Bs, 0, none⟩ t) :=
  ⟨at_setCell h.record (by omega), at_setCell h.calls (by omega)⟩

theorem range_box {α : Type} {g : Operand} {ps : Array Tmp} {assign body : Code} {Q : Exit → Act → World → Prop} {a : Act} {lo n₀ Bs : Nat} (hBs : Bs < w.heap.size) (hn₀ : n₀ ≤ w.heap.size)
    (hro : F.round = none) (h1 : 1 ≤ n) {gf : Nat} {lb : Array Value} (hg : a.eval g = .func (.func gf) #[] lb) (hFg : F.fn gf) (eg : ∀ args w, (callFunc gf args).run P w = .ok (.enter gf args) w)
    {encs : α → Array Value} {S Sp : List α → Prop} {N : Nat} (hseq : SeqBox F (n - 1) P gf lb encs lo n₀ Bs S Sp N w) (hps : ∀ x, (encs x).size = ps.size)
    (I : List α → World → Prop) (Ix : Code → List α → World → Prop) (hI : OwnFrom w.heap.size I) (hIx : ∀ c, OwnFrom w.heap.size (Ix c)) (hIs : ∀ pre A t, I pre A → I pre (A.setCell ⟨Bs, 0, none⟩ (.string t))) (h0 : I [] w) (a₁ : α → Act)
    (hassign : ∀ (l : Nat) (x : α) (W : World) (K : Act → World → Prop), K (a₁ x) W →
      assign.wpIn (F.inRound l) (n - 1 - 1) P (Exit.then K (fun _ _ _ => False)) { tmps := (ps.zip (encs x)).foldl (fun t (p, v) => t.setIfInBounds p v) a.tmps, defers := [] } W)
    (hbody : ∀ (l : Nat) (pre : List α) (x : α) (W : World), I pre W → pre.length < N → body.wpIn (F.inRound l) (n - 1 - 1) P (ownPostG w.heap.size (KeepB lo n₀) I Ix (pre ++ [x]) W) (a₁ x) W)
    (hdone : ∀ (D : Nat) (xs : List α) (W : World), w.heap.size ≤ D → S xs → I xs W → W.heap[D]? = some (.deferred (some [])) → Q .normal { a with defers := { target := .collected D, args := #[] } :: a.defers } W)
    (hstop : ∀ (D : Nat) (c : Code) (pre : List α) (W : World), w.heap.size ≤ D → Sp pre → Ix c pre W → W.heap[D]? = some (.deferred (some [])) → c.wpIn F n P Q { a with defers := { target := .collected D, args := #[] } :: a.defers } W) :
    (Code.rangeFunc g ps assign body).wpIn F n P Q a w := by
  apply wpIn_rangeFunc
  intro fn hfn
  obtain ⟨lp, hlp⟩ : ∃ f : LoopState → Option Code → Loop, f = fun st pe => { state := st, pending := pe, fn, tmps := a.tmps, params := ps, assign, body, defers := w.heap.size } := ⟨_, rfl⟩
  have hst := Book.start w (lp .ready none)
  have hIt : I [] ((w.alloc (.deferred (some []))).alloc (.loop (lp .ready none))) := hI.alloc _ (hI.alloc _ h0)
  have hBt : Below w.heap.size w ((w.alloc (.deferred (some []))).alloc (.loop (lp .ready none))) := (((Below.refl _ w).alloc (Nat.le_refl _) _).alloc (by simp) _)
  have hsz : ((w.alloc (.deferred (some []))).alloc (.loop (lp .ready none))).heap.size = w.heap.size + 1 + 1 := by simp
  obtain ⟨W1, hW1⟩ : ∃ W1, W1 = (w.alloc (.deferred (some []))).alloc (.loop (lp .ready none)) := ⟨_, rfl⟩
  rw [← hW1] at hst hIt hBt hsz
  have hdrop : ∀ {A : World} {row : Option Nat}, (∀ r, row = some r → W1.heap.size ≤ r ∧ ∃ o : Obj, A.heap[r]? = some o ∧ o.isWalk = true) → ∀ r, row = some r → w.heap.size ≤ r ∧ ∃ o : Obj, A.heap[r]? = some o ∧ o.isCells = false :=
    fun hr r e => by obtain ⟨hB, o, ho, hw⟩ := hr r e; exact ⟨by omega, o, ho, Obj.not_cells_of_walk hw⟩
  -- how a round ends
  have hend : ∀ (j : Option Code) (X X' : World), Book w (lp .busy none) X → KeepsFrom w.heap.size X X' →
      (Instr.endRound (w.heap.size + 1) j).run P X' = .ok (.bool j.isNone) (X'.putObj (w.heap.size + 1) (.loop (lp (if j.isNone then .ready else .done) j))) ∧ Book w (lp (if j.isNone then .ready else .done) j) (X'.putObj (w.heap.size + 1) (.loop (lp (if j.isNone then .ready else .done) j))) := fun j X X' hb hk => by
    have hb' := hb.kept hk
    have hr := run_endRound (P := P) j hb'.record
    refine ⟨?_, hb'.put _⟩
    rw [hlp] at hr ⊢
    exact hr
  have hleft : ∀ (c : Code) (pre : List α) (X X' : World), Book w (lp .busy none) X → KeepsFrom w.heap.size X X' → Ix c pre X' →
      ∃ v X'', (Instr.endRound (w.heap.size + 1) (some c)).run P X' = .ok v X'' ∧ ((v = .bool true ∧ False) ∨ (v = .bool false ∧ ∃ c, Ix c pre X'' ∧ Book w (lp .done (some c)) X'')) := fun c pre X X' hb hk hi => by
    obtain ⟨hr, hb2⟩ := hend (some c) X X' hb hk
    exact ⟨_, _, hr, .inr ⟨rfl, c, (hIx c).putObj _ hi (by omega) (hb.kept hk).record rfl, hb2⟩⟩
  refine ⟨w.heap.size + 1, [{ target := .collected w.heap.size, args := #[] }], W1, { target := .fn (.func gf) lb, args := #[.func (.yield (w.heap.size + 1)) #[] #[]] }, W1, gf,
    #[.func (.yield (w.heap.size + 1)) #[] #[]] ++ lb, W1, ?_, ?_, ?_, ?_, fun _ => h1, ?_⟩
  · rw [hro, hW1, hlp]
    exact run_enterLoop_outer _ _ _ _ _
  · simp only [resolve, hg]
    simp [go_sem]
  · intro f' hf'
    simp [Target.leads] at hf'
    subst hf'
    exact hFg
  · simp [invoke, go_sem, eg]
  · refine (hseq (w.heap.size + 1) (fun pre W => I pre W ∧ Book w (lp .ready none) W) (fun pre W => ∃ c, Ix c pre W ∧ Book w (lp .done (some c)) W) W1 hBt
      ⟨fun s A B row hs hg' hr => ⟨hI s A B row hs.1 hg' (hdrop hr), hs.2.grown hg' fun r e => (hr r e).2⟩, fun pre A t hs => ⟨hIs pre A t hs.1, hs.2.store hBs _⟩⟩ ?_ ⟨hIt, hst⟩).mono ?_
    · rintro pre x X ⟨hi, hb⟩ hlen
      have hy := run_yield (P := P) (args := encs x) hb.record (by rw [hlp]; exact hps x)
      rw [hlp] at hy
      refine ⟨fn, _, assign, body, hy, roundIn_of_wpIn hfn (hassign _ x X _ ⟨_, run_beginRound hb.record (by rw [hlp]), ?_⟩)⟩
      have hb2 : Book w (lp .busy none) (X.putObj (w.heap.size + 1) (.loop { lp .ready none with state := .busy })) := by
        have h := hb.put { lp .ready none with state := .busy }
        rw [hlp] at h ⊢
        exact h
      have hk2 : KeepB lo n₀ X (X.putObj (w.heap.size + 1) (.loop { lp .ready none with state := .busy })) := KeepB.put _ (by omega)
      refine wpIn_mono (hbody _ pre x _ (hI.putObj _ hi (by omega) hb.record rfl) hlen) ?_
      rintro e a3 X3 hp
      cases e with
      | normal =>
        obtain ⟨hk3, hkp3, hi3⟩ := hp
        obtain ⟨hr, hb4⟩ := hend none _ X3 hb2 hk3
        exact ⟨_, _, hr, .inl ⟨rfl, ⟨hI.putObj _ hi3 (by omega) (hb2.kept hk3).record rfl, hb4⟩, (hk2.trans hkp3).trans (KeepB.put _ (by omega))⟩⟩
      | ret =>
        obtain ⟨v, X4, hr, ⟨_, hf⟩ | ⟨rfl, hj⟩⟩ := hleft .ret _ _ X3 hb2 hp.1 hp.2
        · exact hf.elim
        · exact ⟨_, _, hr, .inr ⟨rfl, hj⟩⟩
      | exit id =>
        obtain ⟨v, X4, hr, ⟨_, hf⟩ | ⟨rfl, hj⟩⟩ := hleft (.exit id) _ _ X3 hb2 hp.1 hp.2
        · exact hf.elim
        · exact ⟨_, _, hr, .inr ⟨rfl, hj⟩⟩
      | goto t =>
        obtain ⟨v, X4, hr, ⟨_, hf⟩ | ⟨rfl, hj⟩⟩ := hleft (.goto t) _ _ X3 hb2 hp.1 hp.2
        · exact hf.elim
        · exact ⟨_, _, hr, .inr ⟨rfl, hj⟩⟩
      | panic ch => exact hp.elim
      | outgrown => exact hp.elim
    · rintro e W2 ⟨⟨v, rfl⟩, (⟨xs, hS, hi, hb⟩ | ⟨pre, hSp, c, hi, hb⟩)⟩
      · refine ⟨none, W2.putObj (w.heap.size + 1) (.loop { lp .ready none with state := .exhausted }), ?_, hdone _ xs _ (Nat.le_refl _) hS (hI.putObj _ hi (by omega) hb.record rfl) ((World.putObj_heap_other (by omega)).trans hb.calls)⟩
        have h := run_endLoop (P := P) hb.record (by rw [hlp]; simp)
        rw [hlp] at h ⊢
        exact h
      · refine ⟨some c, W2.putObj (w.heap.size + 1) (.loop { lp .done (some c) with state := .exhausted }), ?_, hstop _ c pre _ (Nat.le_refl _) hSp ((hIx c).putObj _ hi (by omega) hb.record rfl) ((World.putObj_heap_other (by omega)).trans hb.calls)⟩
        have h := run_endLoop (P := P) hb.record (by rw [hlp]; simp)
        rw [hlp] at h ⊢
        exact h
end Go.Proofs.YtdafnibmoggcnaaDoor.rng
