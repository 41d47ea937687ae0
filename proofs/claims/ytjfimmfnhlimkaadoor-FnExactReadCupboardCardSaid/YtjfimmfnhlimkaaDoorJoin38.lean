/-
  Several texts of this proof, joined.
-/
import Derived.Test.YtjfimmfnhlimkaaDoorRdCup
import Derived.Test.YtjfimmfnhlimkaaDoorJoin18
import Derived.Test.YtjfimmfnhlimkaaDoorJoin22
import Derived.Test.YtjfimmfnhlimkaaDoorCupTi
import Derived.Test.YtjfimmfnhlimkaaDoorJoin29
import Derived.Test.YtjfimmfnhlimkaaDoorCupS
/-
  A cupboard read from a text: the program's readCupboard.
-/
namespace Go.Proofs.YtjfimmfnhlimkaaDoor.rows
open Go Go.RowKit sl rng

theorem OW.grown {w w' : World} {base : Nat} {v : Value} {rs : List Rw} {row : Option Nat} (h : OW w base v rs) (hg : w.grownBy w' row) (hr : ∀ r, row = some r → ∃ o : Obj, w.heap[r]? = some o ∧ o.isCells = false) : OW w' base v rs :=
  ⟨owns_not h.outer hg hr, fun r hr' => owns_not (h.each r hr') hg hr, h.dist⟩
theorem OW.set {w : World} {base p : Nat} {v : Value} {rs : List Rw} (h : OW w base v rs) (hp : p < base) (u : Value) : OW (w.setCell ⟨p, 0, none⟩ u) base v rs :=
  ⟨h.outer.kept (grownBy_setCell' w p u) (.inr fun e => by have := owns_ge h.outer _ e; omega), fun r hr => (h.each r hr).kept (grownBy_setCell' w p u) (.inr fun e => by have := owns_ge (h.each r hr) _ e; omega), h.dist⟩
theorem OW.low {w : World} {base b0 : Nat} {v : Value} {rs : List Rw} (h : OW w base v rs) (hb : b0 ≤ base) : OW w b0 v rs :=
  ⟨owns_low h.outer hb, fun r hr => owns_low (h.each r hr) hb, h.dist⟩
theorem OW.nil (w : World) (base : Nat) : OW w base (.slice none 0 0) [] := ⟨World.ownsRow_nil _ _ _ _, fun _r hr => (List.not_mem_nil hr).elim, List.Pairwise.nil⟩
end Go.Proofs.YtjfimmfnhlimkaaDoor.rows
namespace Go.Proofs.YtjfimmfnhlimkaaDoor.rd
open Go Go.RowKit Go.Shelf sl dec txt errs rng rows
attribute [local go_sem] Oper.semAt_some

/-- what readCupboard keeps: as RB, with rows of rows -/
structure RO (b : Nat) (rs : List Rw) (W : World) : Prop where
  r : Boxed W b 78 (.slice none 0 0)
  e : Boxed W (b + 1) 94 .nilIface
  l : ∃ v, Boxed W (b + 1 + 1) 78 v ∧ OW W (b + 6) v rs
  s : ∃ t, Boxed W (b + 1 + 1 + 1) 9 (.string t)
  n : b + 6 ≤ W.heap.size
theorem RO.grown {b : Nat} {rs : List Rw} {W W' : World} {row : Option Nat} (h : RO b rs W) (hg : W.grownBy W' row) (hr : ∀ r, row = some r → ∃ o : Obj, W.heap[r]? = some o ∧ o.isCells = false) : RO b rs W' := by
  obtain ⟨h1, h2, ⟨v, h3, h4⟩, ⟨t, h5⟩, h6⟩ := h
  exact ⟨boxed_not h1 hg hr, boxed_not h2 hg hr, ⟨v, boxed_not h3 hg hr, h4.grown hg hr⟩, ⟨t, boxed_not h5 hg hr⟩, Nat.le_trans h6 hg.size⟩
theorem RO.below {b : Nat} {rs : List Rw} {W W' : World} (h : RO b rs W) (hb : Below W.heap.size W W') : RO b rs W' := by
  obtain ⟨h1, h2, ⟨v, h3, h4⟩, ⟨t, h5⟩, h6⟩ := h
  exact ⟨boxed_below h1 hb, boxed_below h2 hb, ⟨v, boxed_below h3 hb, h4.next hb⟩, ⟨t, boxed_below h5 hb⟩, Nat.le_trans h6 hb.size⟩
theorem RO.store {b : Nat} {rs : List Rw} {W : World} (h : RO b rs W) (u : ByteArray) : RO b rs (W.setCell ⟨b + 1 + 1 + 1, 0, none⟩ (.string u)) := by
  obtain ⟨h1, h2, ⟨v, h3, h4⟩, ⟨t, h5⟩, h6⟩ := h
  have hg := grownBy_setCell' W (b + 1 + 1 + 1) (.string u)
  exact ⟨h1.kept hg (by simp <;> omega), h2.kept hg (by simp <;> omega), ⟨v, h3.kept hg (by simp <;> omega), h4.set (by omega) _⟩, ⟨u, h5.set _⟩, Nat.le_trans h6 hg.size⟩
/-- one more row, and the list lies in its box again -/
theorem RO.append {b : Nat} {rs : List Rw} {W W1 w1 : World} {tmp : Obj} {v v' : Value} {r : Rw} (h : RO b rs W1) (hb : Below W.heap.size W W1) (hbW : b + 6 ≤ W.heap.size) (hv : Boxed W1 (b + 1 + 1) 78 v) (ho : OW W (b + 6) v rs)
    (hr : W1.ownsRow W.heap.size 2 1 r.v r.xs.length (r.xs.flatMap intS.C)) (hown : w1.ownsRow (b + 6) 101 1 v' (rs.length + 1) (rs.map Rw.v ++ [r.v])) (hgr : (W1.alloc tmp).grownBy w1 v.ownBlock) :
    Boxed w1 (b + 1 + 1) 78 v ∧ RO b (rs ++ [r]) (w1.setCell ⟨b + 1 + 1, 0, none⟩ v') ∧ KeepsOthers W1 (w1.setCell ⟨b + 1 + 1, 0, none⟩ v') ∧ Below b W1 (w1.setCell ⟨b + 1 + 1, 0, none⟩ v') ∧ KeepB (b + 1 + 1 + 1) (b + 6) W1 (w1.setCell ⟨b + 1 + 1, 0, none⟩ v') := by
  obtain ⟨h1, h2, ⟨_, _, _⟩, ⟨t, h5⟩, h6⟩ := h
  have ho1 := ho.next hb
  have hrow := ho1.outer
  have hge := owns_ge hrow
  have hne : ∀ j, j < b + 6 → some j ≠ v.ownBlock := fun j hj e => by have := hge j e.symm; omega
  have hv1 : Boxed w1 (b + 1 + 1) 78 v := (hv.alloc tmp).kept hgr (hne _ (by omega))
  have hg2 := grownBy_setCell' w1 (b + 1 + 1) v'
  have hn1 : b + 6 ≤ w1.heap.size := by have := hgr.size; simp at this; omega
  have hub : Below W1.heap.size W1 (W1.alloc tmp) := (Below.refl _ _).alloc (Nat.le_refl _) _
  have hO := ho.snoc (r := r) (below_next hb hub (Nat.le_refl _)) (owns_below (owns_next hr hub) hbW) (fun k hk => (hr.lt k hk).1) hgr hown
  refine ⟨hv1, ⟨((h1.alloc tmp).kept hgr (hne _ (by omega))).kept hg2 (by simp <;> omega), ((h2.alloc tmp).kept hgr (hne _ (by omega))).kept hg2 (by simp <;> omega), ⟨v', hv1.set v', hO.set (by omega) _⟩, ⟨t, ((h5.alloc tmp).kept hgr (hne _ (by omega))).kept hg2 (by simp <;> omega)⟩, Nat.le_trans hn1 hg2.size⟩, ?_, ?_, ?_⟩
  · refine ((KeepsOthers.alloc W1 tmp).trans (KeepsOthers.of_grownBy hgr fun j o ej hj => ?_)).trans (KeepsOthers.setCell _ _ _)
    rcases hrow.2 with ⟨rfl, _⟩ | ⟨g, cap, cur, rfl, _, hgb, _⟩
    · simp [Value.ownBlock] at ej
    · obtain rfl : g = j := by simpa [Value.ownBlock] using ej
      rw [Below.heap_alloc _ _ _ (Array.getElem?_eq_some_iff.1 hgb).1, hgb] at hj
      cases hj
      rfl
  · exact (((Below.refl b W1).alloc (by omega) tmp).grown hgr (by simp; omega) fun j ej => by have := hge j ej; omega).setCell (p := ⟨b + 1 + 1, 0, none⟩) (by show b ≤ b + 1 + 1; omega) v'
  · intro j h1 h2
    refine (Below.heap_setCell w1 ⟨b + 1 + 1, 0, none⟩ v' j (by show j ≠ b + 1 + 1; omega)).trans ((hgr.block j (by simp; omega) (hne j h2)).trans (Below.heap_alloc _ _ _ (by omega)))
theorem RO.fail {b : Nat} {rs : List Rw} {W : World} (h : RO b rs W) (ev : Value) : Boxed ((W.setCell ⟨b, 0, none⟩ (.slice none 0 0)).setCell ⟨b + 1, 0, none⟩ ev) b 78 (.slice none 0 0) ∧ Boxed ((W.setCell ⟨b, 0, none⟩ (.slice none 0 0)).setCell ⟨b + 1, 0, none⟩ ev) (b + 1) 94 ev :=
  ⟨(h.r.set _).kept (grownBy_setCell' _ _ _) (by simp <;> omega), (h.e.kept (grownBy_setCell' _ _ _) (by simp <;> omega)).set _⟩
/-- between two parts -/
def ICu (w : World) (b : Nat) (pre : List Part) (W : World) : Prop := (∃ rs, (readL kindI (parts pre) = some (nums rs) ∧ rs.length ≤ 6) ∧ RO b rs W) ∧ Below w.heap.size w W
/-- where the reader has left -/
def XCu (w : World) (b : Nat) (ev : Value) (cc : Code) (pre : List Part) (W : World) : Prop := cc = .ret ∧ ((readL kindI (parts pre) = none ∨ 6 < pre.length) ∧ Boxed W b 78 (.slice none 0 0) ∧ Boxed W (b + 1) 94 ev) ∧ Below w.heap.size w W
theorem post_stopU {B lo hi b : Nat} {w W Y : World} {ev : Value} {pre : List Part} {a : Act} (h1 : KeepsFrom B W Y) (h2 : (readL kindI (parts pre) = none ∨ 6 < pre.length) ∧ Boxed Y b 78 (.slice none 0 0) ∧ Boxed Y (b + 1) 94 ev) (h3 : Below w.heap.size w Y) :
    ownPostG B (KeepB lo hi) (ICu w b) (XCu w b ev) pre W .ret a Y := And.intro h1 (And.intro rfl (And.intro h2 h3))
theorem post_nextU {B lo hi b : Nat} {w W Y : World} {ev : Value} {pre : List Part} {a : Act} {rs : List Rw} (h1 : KeepsFrom B W Y) (h2 : KeepB lo hi W Y) (h3 : readL kindI (parts pre) = some (nums rs)) (h4 : rs.length ≤ 6) (h5 : RO b rs Y) (h6 : Below w.heap.size w Y) :
    ownPostG B (KeepB lo hi) (ICu w b) (XCu w b ev) pre W .normal a Y := And.intro h1 (And.intro h2 (And.intro ⟨rs, ⟨h3, h4⟩, h5⟩ h6))
set_option maxRecDepth 100000 in
set_option maxHeartbeats 8000000 in
theorem readCupboard_any (s : ByteArray) (hs : s.size ≤ 1048576) {w : World} {B : Nat} {e : Nat → Addr} (h : Errs w B e) (hn : NE w B) (hB : B ≤ w.heap.size) (R : Option (List (List Int))) (hR : kindU s.data.toList = R) :
    Calls Tryd.prog 113 #[.string s] w fun o w' => ((R = none ∧ o = .returned (.tuple #[.slice none 0 0, errV (e 4)])) ∨ ∃ rs v, R = some (nums rs) ∧ o = .returned (.tuple #[v, .nilIface]) ∧ OW w' w.heap.size v rs) ∧ Below w.heap.size w w' := by
  obtain ⟨i0, hi, hz0, hz1, hz2⟩ := info_parts infoRow
  have HR := Lib.hid hR
  have HE := Lib.hid (fun (u : World) (hu : Below w.heap.size w u) => h.below (hu.mono hB))
  have HNE := Lib.hid (fun (u : World) (hu : Below w.heap.size w u) => hn.below (hu.mono hB))
  clear hR h hn
  have hs0 : s.data.toList.length ≤ 1048576 := by rw [len_list]; exact hs
  have HS := Lib.hid (show kindU s.data.toList = match readL kindI (splitB 47 s.data.toList) with | some D => if D.length ≤ 6 then some D else none | none => none from rfl)
  refine (callsIn_wide (n := 3)).1 ?_
  refine callsIn_of_wp_marks Tryd.func113 rfl trivial ?_ rfl
  simp only [Tryd.ntmps113, List.size_toArray, List.length_cons, List.length_nil, Nat.reduceAdd, Nat.reduceSub, Array.replicate_succ, Array.replicate_zero, List.push_toArray, List.append_toArray, List.nil_append, List.cons_append]
  gi_wp2_with (refine ⟨trivial, ?_⟩; gi_at_call 122; refine (callsIn_wide.2 (splitSeq_any s 47 _)).mono ?_; rintro e w1 ⟨rfl, rfl⟩)
  have h6 := heap6 w (.cells #[.slice none 0 0] 78) (.cells #[.nilIface] 94) (.cells #[.slice none 0 0] 78) (.cells #[.string s] 9) (.cells #[.string ⟨#[47]⟩] 9) (.cells #[.int .i64 0] 3)
  obtain ⟨W0, hW0⟩ : ∃ W0, W0 = ((((((w.alloc (.cells #[.slice none 0 0] 78)).alloc (.cells #[.nilIface] 94)).alloc (.cells #[.slice none 0 0] 78)).alloc (.cells #[.string s] 9)).alloc (.cells #[.string ⟨#[47]⟩] 9)).alloc (.cells #[.int .i64 0] 3)) := ⟨_, rfl⟩
  rw [← hW0] at h6 ⊢
  obtain ⟨⟨g0, g1, g2, g3, g4, g5⟩, hsz, hB0⟩ := h6
  have k3 : Boxed W0 (w.heap.size + 1 + 1 + 1) 9 (.string s) := g3
  have k4 : Boxed W0 (w.heap.size + 1 + 1 + 1 + 1) 9 (.string ⟨#[47]⟩) := g4
  have k5 : Boxed W0 (w.heap.size + 1 + 1 + 1 + 1 + 1) 3 (.int .i64 0) := g5
  have hRB : RO w.heap.size [] W0 := ⟨g0, g1, ⟨_, g2, OW.nil _ _⟩, ⟨s, k3⟩, by omega⟩
  clear g0 g1 g2 g3 g4 g5 hW0
  refine range_box (Bs := w.heap.size + 1 + 1 + 1) (by omega) (Nat.le_of_eq hsz.symm) rfl (by decide) (gf := 179) (lb := #[.pointer (some ⟨w.heap.size + 1 + 1 + 1 + 1, 0, none⟩), .pointer (some ⟨w.heap.size + 1 + 1 + 1, 0, none⟩), .pointer (some ⟨w.heap.size + 1 + 1 + 1 + 1 + 1, 0, none⟩)]) rfl trivial (enters_of Tryd.func179 (by kernel_rfl) rfl)
    (split_seq (3 - 1) (by decide) (w.heap.size + 1 + 1 + 1) (w.heap.size + 1 + 1 + 1 + 1) (w.heap.size + 1 + 1 + 1 + 1 + 1) (w.heap.size + 1 + 1 + 1) (w.heap.size + 6) 47 s.data.toList hs0 ⟨⟨by omega, by omega⟩, ⟨by omega, by omega⟩, ⟨by omega, by omega⟩, by omega, by omega⟩ W0 (by omega) (by rw [bsJ_of]; exact k3.cell) k3.frozen k4.cell k5.cell) (fun _ => rfl)
    (ICu w w.heap.size) (XCu w w.heap.size (errV (e 4)))
    (OwnFrom.and (fun s A B row hs hg hr => by obtain ⟨rs, hD, h⟩ := hs; exact ⟨rs, hD, h.grown hg fun r e => (hr r e).2⟩) (ownFrom_below (Nat.le_refl _) (by omega)))
    (fun cc => OwnFrom.and (fun s A B row hs _ _ => hs) (OwnFrom.and (fun s A B row hs hg hr => ⟨hs.1, boxed_not hs.2.1 hg fun r e => (hr r e).2, boxed_not hs.2.2 hg fun r e => (hr r e).2⟩) (ownFrom_below (Nat.le_refl _) (by omega))))
    (fun pre A t hs => ⟨by obtain ⟨rs, hD, h⟩ := hs.1; exact ⟨rs, hD, h.store t⟩, hs.2.setCell (p := ⟨w.heap.size + 1 + 1 + 1, 0, none⟩) (by show w.heap.size ≤ w.heap.size + 1 + 1 + 1; omega) _⟩)
    ⟨⟨[], ⟨rfl, by simp⟩, hRB⟩, hB0⟩
    (fun x => { tmps := #[.string s, undef, .pointer (some ⟨w.heap.size, 0, none⟩), .pointer (some ⟨w.heap.size + 1, 0, none⟩), .pointer (some ⟨w.heap.size + 1 + 1, 0, none⟩), .string (bsJ x.1), undef, undef, .string s, .func (.func 179) #[] #[.pointer (some ⟨w.heap.size + 1 + 1 + 1 + 1, 0, none⟩), .pointer (some ⟨w.heap.size + 1 + 1 + 1, 0, none⟩), .pointer (some ⟨w.heap.size + 1 + 1 + 1 + 1 + 1, 0, none⟩)], .string (bsJ x.1), undef, undef, undef, undef, undef, undef, undef, undef, undef, undef, undef, undef, undef, undef, undef, undef, undef, undef], defers := [] }) ?assign ?body ?done ?stop
  case assign =>
    intro l x W K hK
    gi_wp2
    exact hK
  case body =>
    rintro l pre x W ⟨⟨rs, ⟨hD, hDl⟩, hrb⟩, hbw⟩ hlen
    have hmx : Tryd.prog.follows .mixedOrders = true := by kernel_rfl
    have hxl := x.2
    have hsz := hrb.n
    have HRB := Lib.hid hrb
    have hg0 : ¬ 0 = w.heap.size := by have h1 := (HE.out _ (Below.refl _ _)).size; omega
    have HD := Lib.hid hD
    have HBW := Lib.hid hbw
    have n1 : ∀ {X : World}, Below W.heap.size W X → Below w.heap.size w X := fun h => HBW.out.trans (h.mono HBW.out.size)
    -- how the error is returned, whatever order is drawn
    have hbad : ∀ (X : World) (a : Act), Below W.heap.size W X → (readL kindI (parts (pre ++ [x])) = none ∨ 6 < (pre ++ [x]).length) →
        ownPostG W0.heap.size (KeepB (w.heap.size + 1 + 1 + 1) (w.heap.size + 6)) (ICu w w.heap.size) (XCu w w.heap.size (errV (e 4))) (pre ++ [x]) W .ret a ((X.setCell ⟨w.heap.size, 0, none⟩ (.slice none 0 0)).setCell ⟨w.heap.size + 1, 0, none⟩ (.iface 284 (.pointer (some (e 4))))).drew := fun X a hX hno =>
      post_stopU ((keeps_below _ hX).trans (two_stores _ _ _ _ _ _)) ⟨hno, ((HRB.out.below hX).fail _).1, ((HRB.out.below hX).fail _).2⟩ (two_below (n1 hX) _ _ (Nat.le_refl _) (Nat.le_succ _) _ _)
    have HBAD := Lib.hid hbad
    clear hbad
    obtain ⟨RP, hRP⟩ : ∃ RP, kindI x.1 = RP := ⟨_, rfl⟩
    have HPC := Lib.hid (fun (u : World) (hu : Below w.heap.size w u) => readPile_any (bsJ x.1) (by rw [bsJ_size]; exact x.2) (HE.out u hu) (HNE.out u hu) (Nat.le_trans hB hu.size) RP (by simpa using hRP))
    have HRP := Lib.hid hRP
    have hgl : ¬ 0 = w.heap.size := hg0
    have hgl2 : ¬ w.heap.size = 0 := fun e => hg0 e.symm
    clear hrb hD hRP
    gi_wp2
    refine ⟨trivial, (CallsIn.inRound l (callsIn_wide.2 (HPC.out _ HBW.out))).mono ?_⟩
    rintro o W1 ⟨⟨rfl, rfl⟩ | ⟨D, v1, rfl, rfl, hrow1⟩, hb1⟩
    · have B1 := Lib.hid hb1
      have hrx := HRB.out.below B1.out
      have HNO : Hid (readL kindI (parts (pre ++ [x])) = none ∨ 6 < (pre ++ [x]).length) := Lib.hid (.inl (by rw [parts_snoc, readL_snoc, HD.out, HRP.out]))
      have f1 := hrx.r.frozen
      have f2 := hrx.e.frozen
      have q1 := hrx.r.cell
      have q2 := hrx.e.cell
      have hce : W1.cell? ⟨0, 0, none⟩ = some (.iface 284 (.pointer (some (e 4)))) := (HE.out _ (n1 B1.out)).c4
      clear hb1 HPC hrx
      gi_wp2
      refine wpIn_region_any hmx ?_
      refine wpAnyIn_all (rs := [0, 1]) (by kernel_rfl) (by simp) ?_
      intro iIn hIn
      rcases List.mem_cons.1 hIn with rfl | hIn
      · skip
        refine wpOpIn_step rfl (fun K' hK' => ?_)
        refine wanted_none rfl ?_
        gi_wp2
        refine wpAnyIn_all (rs := [1]) (by kernel_rfl) (by simp) ?_
        intro iIn hIn
        obtain rfl := List.mem_singleton.1 hIn
        clear hIn
        refine wpOpIn_step rfl (fun K' hK' => ?_)
        refine wanted_none rfl ?_
        gi_wp2
        refine wpAnyIn_all (rs := [2]) (by kernel_rfl) (by simp) ?_
        intro iIn hIn
        obtain rfl := List.mem_singleton.1 hIn
        clear hIn
        refine wpOpIn_step rfl (fun K' hK' => ?_)
        refine wanted_none rfl ?_
        gi_wp2
        refine wpAnyIn_done (by kernel_rfl) ?_ _
        gi_wp2
        exact HBAD.out W1 _ B1.out HNO.out
      · obtain rfl := List.mem_singleton.1 hIn
        clear hIn
        refine wpOpIn_step rfl (fun K' hK' => ?_)
        refine wanted_none rfl ?_
        gi_wp2
        refine wpAnyIn_all (rs := [0]) (by kernel_rfl) (by simp) ?_
        intro iIn hIn
        obtain rfl := List.mem_singleton.1 hIn
        clear hIn
        refine wpOpIn_step rfl (fun K' hK' => ?_)
        refine wanted_none rfl ?_
        gi_wp2
        refine wpAnyIn_all (rs := [2]) (by kernel_rfl) (by simp) ?_
        intro iIn hIn
        obtain rfl := List.mem_singleton.1 hIn
        clear hIn
        refine wpOpIn_step rfl (fun K' hK' => ?_)
        refine wanted_none rfl ?_
        gi_wp2
        refine wpAnyIn_done (by kernel_rfl) ?_ _
        gi_wp2
        exact HBAD.out W1 _ B1.out HNO.out
    · obtain ⟨A1, c1, rfl, _⟩ := owns_slice hrow1
      have B1 := Lib.hid hb1
      have hrx := HRB.out.below B1.out
      obtain ⟨v, hv0, how⟩ := HRB.out.l
      have hv := boxed_below hv0 B1.out
      obtain ⟨Av, cv, rfl, _⟩ := owns_slice how.outer
      have hvc := hv.cell
      have HR1 := Lib.hid hrow1
      clear hb1 HPC hrow1 hv0
      by_cases hfull : rs.length = 6
      · have hdec : ((rs.length : Int) == 6) = true := by rw [hfull]; rfl
        have HNO : Hid (readL kindI (parts (pre ++ [x])) = none ∨ 6 < (pre ++ [x]).length) := Lib.hid (.inr (by
          have h1 := readL_len HD.out
          rw [parts_len] at h1
          simp only [nums, List.length_map] at h1
          rw [List.length_append, List.length_singleton]
          omega))
        have f1 := hrx.r.frozen
        have f2 := hrx.e.frozen
        have q1 := hrx.r.cell
        have q2 := hrx.e.cell
        have hce : W1.cell? ⟨0, 0, none⟩ = some (.iface 284 (.pointer (some (e 4)))) := (HE.out _ (n1 B1.out)).c4
        clear hrx hv how
        gi_wp2
        refine wpIn_region_any hmx ?_
        refine wpAnyIn_all (rs := [0, 1]) (by kernel_rfl) (by simp) ?_
        intro iIn hIn
        rcases List.mem_cons.1 hIn with rfl | hIn
        · skip
          refine wpOpIn_step rfl (fun K' hK' => ?_)
          refine wanted_none rfl ?_
          gi_wp2
          refine wpAnyIn_all (rs := [1]) (by kernel_rfl) (by simp) ?_
          intro iIn hIn
          obtain rfl := List.mem_singleton.1 hIn
          clear hIn
          refine wpOpIn_step rfl (fun K' hK' => ?_)
          refine wanted_none rfl ?_
          gi_wp2
          refine wpAnyIn_all (rs := [2]) (by kernel_rfl) (by simp) ?_
          intro iIn hIn
          obtain rfl := List.mem_singleton.1 hIn
          clear hIn
          refine wpOpIn_step rfl (fun K' hK' => ?_)
          refine wanted_none rfl ?_
          gi_wp2
          refine wpAnyIn_done (by kernel_rfl) ?_ _
          gi_wp2
          exact HBAD.out W1 _ B1.out HNO.out
        · obtain rfl := List.mem_singleton.1 hIn
          clear hIn
          refine wpOpIn_step rfl (fun K' hK' => ?_)
          refine wanted_none rfl ?_
          gi_wp2
          refine wpAnyIn_all (rs := [0]) (by kernel_rfl) (by simp) ?_
          intro iIn hIn
          obtain rfl := List.mem_singleton.1 hIn
          clear hIn
          refine wpOpIn_step rfl (fun K' hK' => ?_)
          refine wanted_none rfl ?_
          gi_wp2
          refine wpAnyIn_all (rs := [2]) (by kernel_rfl) (by simp) ?_
          intro iIn hIn
          obtain rfl := List.mem_singleton.1 hIn
          clear hIn
          refine wpOpIn_step rfl (fun K' hK' => ?_)
          refine wanted_none rfl ?_
          gi_wp2
          refine wpAnyIn_done (by kernel_rfl) ?_ _
          gi_wp2
          exact HBAD.out W1 _ B1.out HNO.out
      · have hdec : ((rs.length : Int) == 6) = false := by simp; omega
        have HX := Lib.hid hrx
        have HV := Lib.hid hv
        have HOW := Lib.hid how
        have hvf := hv.frozen
        have hrow := (how.next B1.out).outer
        have HROW := Lib.hid hrow
        clear hrx hv how hrow
        gi_wp2_with (gi_at_builtin; refine wpListIn_append_own _ rfl (.tmp 24) (.tmp 26) 78 rfl (w.heap.size + 6) 101 i0 (.slice none 0 0) 1 24 Tryd.underlying78 hi hz0 hz1 hz2 rfl (by decide) _ _ _ rfl (HROW.out.alloc _) ⟨W1.heap.size, 0, none⟩ 1 1 [.slice A1 D.length c1] rfl rfl (one_newR _ _ _) (one_cellR rfl) (by unfold maxLen; omega) (by omega) (by have := HX.out.n; simp; omega) ?_; intro v' w5 hown' hgr _; obtain ⟨g', cap', rfl⟩ := ownsRow_succ hown'; obtain ⟨hb5, hrb5, hk5, hl5, hj5⟩ := HX.out.append (r := ⟨A1, c1, D⟩) B1.out hsz HV.out HOW.out HR1.out hown' hgr; have hc5 := hb5.cell; have hf5 := hb5.frozen; have RB5 := Lib.hid hrb5; have KF5 := Lib.hid hk5; have BL5 := Lib.hid hl5; have KB5 := Lib.hid hj5; clear hown' hgr hb5 hrb5 hk5 hl5 hj5)
        refine post_nextU ((keeps_below _ B1.out).trans (KF5.out.from _)) ((KeepB.below B1.out hsz).trans KB5.out) (rs := rs ++ [⟨A1, c1, D⟩]) (by rw [parts_snoc, readL_snoc, HD.out, HRP.out]; simp [nums]) (by rw [List.length_append, List.length_singleton]; omega) RB5.out ((n1 B1.out).trans BL5.out)
  case done =>
    rintro Dd ys W hDd hys ⟨⟨rs, ⟨hD, hDl⟩, hrb⟩, hbw⟩ hK
    obtain ⟨h1, h2, ⟨v, h3, h4⟩, ⟨t, h5⟩, h6⟩ := hrb
    have hfin : R = some (nums rs) := by rw [← HR.out, HS.out, ← hys, hD]; simp only; rw [if_pos (by simpa [nums] using hDl)]
    obtain ⟨Av, cv, rfl, _⟩ := owns_slice h4.outer
    have c3 := h3.cell
    have f1 := h1.frozen
    have f2 := h2.frozen
    have q1 := h1.cell
    have q2 := h2.cell
    gi_wp2
    have hg1 := grownBy_setCell' W w.heap.size (.slice Av rs.length cv)
    have hg2 := grownBy_setCell' (W.setCell ⟨w.heap.size, 0, none⟩ (.slice Av rs.length cv)) (w.heap.size + 1) .nilIface
    have r1 := (h1.set (.slice Av rs.length cv)).kept hg2 (by simp <;> omega)
    have r2 := (h2.kept hg1 (by simp <;> omega)).set .nilIface
    have r4 := (h4.set (p := w.heap.size) (by omega) (.slice Av rs.length cv)).set (p := w.heap.size + 1) (by omega) .nilIface
    have kv := ((KeepsOthers.setCell W ⟨w.heap.size, 0, none⟩ (.slice Av rs.length cv)).trans (KeepsOthers.setCell _ ⟨w.heap.size + 1, 0, none⟩ .nilIface)).same Dd _ hK rfl
    refine ⟨by simp, .inl ⟨_, _, rfl, run_takeDeferred kv, ?_⟩⟩
    have c1 := boxed_not r1 (grownBy_putObj' _ Dd (.deferred none)) (fun r e => by cases e; exact ⟨_, kv, rfl⟩)
    have c2 := boxed_not r2 (grownBy_putObj' _ Dd (.deferred none)) (fun r e => by cases e; exact ⟨_, kv, rfl⟩)
    refine ⟨.tuple #[.slice Av rs.length cv, .nilIface], ?_, .inr ⟨rs, _, hfin, rfl, (r4.grown (grownBy_putObj' _ Dd (.deferred none)) (fun r e => by cases e; exact ⟨_, kv, rfl⟩)).low (by omega)⟩, ((hbw.setCell (p := ⟨w.heap.size, 0, none⟩) (Nat.le_refl _) _).setCell (p := ⟨w.heap.size + 1, 0, none⟩) (Nat.le_succ _) _).trans (belowK_b (w := w) (Nat.le_refl _) _ Dd _ _ (by omega) kv rfl rfl)⟩
    simp [results, Tryd.f113, go_sem, c1.cell, c2.cell]
  case stop =>
    rintro Dd cc pre W hDd hpre ⟨rfl, ⟨hwhy, hc1, hc2⟩, hbw⟩ hK
    have hno : R = none := by
      rw [← HR.out, HS.out]
      rcases hwhy with hw | hw
      · rw [readL_prefix hw hpre]
      · cases hrl : readL kindI (splitB 47 s.data.toList) with
        | none => rfl
        | some E =>
          have h1 := readL_len hrl
          have h2 := hpre.length_le
          rw [parts_len] at h2
          simp only
          rw [if_neg (by omega)]
    clear hwhy
    gi_wp2
    refine ⟨by simp, .inl ⟨_, _, rfl, run_takeDeferred hK, ?_⟩⟩
    have c1 := boxed_not hc1 (grownBy_putObj' _ Dd (.deferred none)) (fun r e => by cases e; exact ⟨_, hK, rfl⟩)
    have c2 := boxed_not hc2 (grownBy_putObj' _ Dd (.deferred none)) (fun r e => by cases e; exact ⟨_, hK, rfl⟩)
    refine ⟨.tuple #[.slice none 0 0, errV (e 4)], ?_, .inl ⟨hno, rfl⟩, hbw.trans (belowK_b (w := w) (Nat.le_refl _) W Dd _ _ (by omega) hK rfl rfl)⟩
    simp [results, Tryd.f113, go_sem, c1.cell, c2.cell]
end Go.Proofs.YtjfimmfnhlimkaaDoor.rd

/-
  A cupboard read from a text: ReadCupboard of the program.
-/
namespace Go.Proofs.YtjfimmfnhlimkaaDoor.rd
open Go Go.RowKit sl dec txt errs rows cup cupt

theorem bytes_neU {a b : ByteArray} (h : ¬ a = b) : (a.toList == b.toList) = false := by
  rw [Lib.toList_data, Lib.toList_data, beq_eq_false_iff_ne]
  intro e
  apply h
  rw [← bsJ_of a, ← bsJ_of b, e]
theorem tot_small : ∀ {rs : List Rw}, (∀ r ∈ rs, r.xs.length ≤ 8) → tot rs ≤ 8 * rs.length
  | [], _ => by simp [tot]
  | r :: t, h => by
    have h1 := h r (List.mem_cons_self ..)
    have h2 := tot_small (rs := t) fun x hx => h x (List.mem_cons_of_mem _ hx)
    simp only [tot, List.length_cons]
    omega
set_option maxRecDepth 100000 in
set_option maxHeartbeats 4000000 in
theorem ReadCupboard_any (s : ByteArray) (hs : s.size ≤ 1048576) (L : List (List Int)) (k : Nat) (hr : rdU s.data.toList = (L, k)) {w : World} {B : Nat} {e : Nat → Addr} (h : Errs w B e) (hn : NE w B) (hB : B ≤ w.heap.size) (ht : TabJ w) :
    Calls Tryd.prog 58 #[.string s] w fun o w' => ∃ A c rs, o = .returned (.tuple #[.slice A rs.length c, .int .i64 k]) ∧ nums rs = L ∧ OS w' w.heap.size A c rs ∧ Below w.heap.size w w' := by
  obtain ⟨R, hR⟩ : ∃ R, kindU s.data.toList = R := ⟨_, rfl⟩
  have HRC := Lib.hid (readCupboard_any s hs h hn hB R hR)
  have HE := Lib.hid (fun (u : World) (hu : Below w.heap.size w u) => h.below (hu.mono hB))
  have HTB := Lib.hid ht
  rw [rdU, progU, hR, bsJ_of] at hr
  have HK := Lib.hid hR
  have HR2 := Lib.hid hr
  clear hR hr h hn ht
  go_enter Tryd.func58, Tryd.ntmps58
  go_wp2_with fail
  refine HRC.out.mono ?_
  rintro o w1 ⟨⟨rfl, rfl⟩ | ⟨rs, v, rfl, rfl, hown⟩, hb⟩
  · have hr := HR2.out
    try simp only at hr
    obtain ⟨rfl, rfl⟩ := Prod.mk.inj hr
    have HB1 := Lib.hid hb
    clear hb hr HR2 HRC
    go_wp2_with fail
    refine (codeOf_any (HE.out _ HB1.out) 5 (by decide)).mono ?_
    rintro o u ⟨rfl, rfl⟩
    go_wp2_with fail
    go_ret2
    exact ⟨none, 0, [], rfl, rfl, OW.os (OW.nil _ _), HB1.out⟩
  · obtain ⟨hlen, hrow⟩ := kindU_len HK.out
    have hl6 : rs.length ≤ 6 := by simpa [nums] using hlen
    obtain ⟨A, c, rfl, _⟩ := owns_slice hown.outer
    have hos := OW.os hown
    have HB1 := Lib.hid hb
    have HOW := Lib.hid hos
    obtain ⟨n, hn⟩ : ∃ n, n = rs.length := ⟨_, rfl⟩
    have HN := Lib.hid hn
    rw [← hn] at hl6 ⊢
    clear hb hown hos hlen hrow HRC HK hn
    go_wp2_with fail
    refine (CupboardText_any A n c rs HN.out (by omega) (E1.of (HE.out _ HB1.out)) (Nat.le_trans hB HB1.out.size) (fun w' hw' => HTB.out w' (HB1.out.trans (hw'.mono HB1.out.size))) HOW.out.ss (cupB (nums rs)) (cupB_iff _)).mono ?_
    rintro o w2 ⟨rfl, hb2⟩
    have HB2 := Lib.hid (below_next HB1.out hb2 (Nat.le_refl _))
    have HOW2 := Lib.hid (HOW.out.next hb2)
    clear hb2 HB1 HOW
    have hr := HR2.out
    try simp only at hr
    clear HR2
    have hct : (if cupB (nums rs) = true then bsT (cupT (nums rs)) else ⟨#[]⟩) = cupText (nums rs) := rfl
    rw [hct]
    clear hct
    obtain ⟨T, hT⟩ : ∃ T, cupText (nums rs) = T := ⟨_, rfl⟩
    rw [hT] at hr ⊢
    by_cases hc : T = s
    · rw [if_pos hc] at hr
      try simp only at hr
      obtain ⟨rfl, rfl⟩ := Prod.mk.inj hr
      have hbe : (T.toList == s.toList) = true := by rw [hc]; simp
      clear hr hT hc
      go_wp2_with fail
      go_ret2
      exact ⟨A, c, rs, by rw [← HN.out]; rfl, rfl, HOW2.out, HB2.out⟩
    · rw [if_neg hc] at hr
      try simp only at hr
      obtain ⟨rfl, rfl⟩ := Prod.mk.inj hr
      have hbe : (T.toList == s.toList) = false := bytes_neU hc
      have hce : w2.cell? ⟨0, 0, none⟩ = some (errV (e 4)) := (HE.out _ HB2.out).c4
      clear hr hT hc
      go_wp2_with fail
      refine (codeOf_any (HE.out _ HB2.out) 5 (by decide)).mono ?_
      rintro o u ⟨rfl, rfl⟩
      go_wp2_with fail
      go_ret2
      exact ⟨none, 0, [], rfl, rfl, OW.os (OW.nil _ _), HB2.out⟩
end Go.Proofs.YtjfimmfnhlimkaaDoor.rd

/-
  A cupboard read from a text: the model's.
-/
namespace Go.Proofs.YtjfimmfnhlimkaaDoor.rd
open Go Go.RowKit sl dec txt errs fold rng rows cup cupt

theorem numI_eq (p : List UInt8) : (numO p = none ∧ numI p = none) ∨ ∃ n : Nat, numO p = some n ∧ numI p = some (n : Int) := by
  rw [numI]
  cases numO p with
  | none => exact .inl ⟨rfl, rfl⟩
  | some n => exact .inr ⟨n, rfl, rfl⟩
theorem OW.made (w : World) {base : Nat} (hb : base ≤ w.heap.size) : OW (w.alloc (.cells #[] 101)) base (.slice (some ⟨w.heap.size, 0, none⟩) 0 0) [] :=
  ⟨World.ownsRow_made (e := 101) (size := 1) w #[] 0 hb (Nat.zero_le _) rfl, fun _r hr => (List.not_mem_nil hr).elim, List.Pairwise.nil⟩
theorem flat_snocI (D : List Int) (x : Int) : D.flatMap intS.C ++ [Value.int .i64 x] = (D ++ [x]).flatMap intS.C := by simp []
set_option maxRecDepth 100000 in
set_option maxHeartbeats 8000000 in
theorem ReadCupboard_spec (s : ByteArray) (hs : s.size ≤ 1048576) (L : List (List Int)) (k : Nat) (hr : rdU s.data.toList = (L, k)) (w : World) :
    Calls Tryd.prog 57 #[.string s] w fun o w' => ∃ A c rs, o = .returned (.tuple #[.slice A rs.length c, .int .i64 k]) ∧ nums rs = L ∧ OS w' w.heap.size A c rs ∧ Below w.heap.size w w' := by
  obtain ⟨i0, hi, hz0, hz1, hz2⟩ := info_parts infoRow
  obtain ⟨j0, hj, hy0, hy1, hy2⟩ := info_parts intS.info
  rw [rdU, progU_eq, specU] at hr
  obtain ⟨ls, hls⟩ : ∃ ls, splitB 47 s.data.toList = ls := ⟨_, rfl⟩
  rw [hls] at hr
  have hsp : ∀ u : World, Calls Tryd.prog 68 #[.string s, .int .u8 47] u fun o w' => ∃ v, o = .returned v ∧ w'.ownsRow u.heap.size 9 1 v ls.length (ls.flatMap sJ) ∧ Below u.heap.size u w' := fun u => by
    have h := l01Split_any s hs 47 u
    rw [hls] at h
    exact h
  have HSP := Lib.hid hsp
  have HLL : Hid (ls.length ≤ 1048577) := Lib.hid (by
    have h := splitB_len 47 s.data.toList
    rw [hls, len_list] at h
    omega)
  have HPL : Hid (∀ p ∈ ls, p.length ≤ 1048576) := Lib.hid (fun p hp => by
    rw [← hls] at hp
    have h := piece_len 47 hp
    rw [len_list] at h
    omega)
  clear hsp hls
  obtain ⟨n, hn⟩ : ∃ n, ls.length = n := ⟨_, rfl⟩
  have HN := Lib.hid hn
  have HLN : Hid (n ≤ 1048577) := Lib.hid (hn ▸ HLL.out)
  have HR := Lib.hid hr
  clear hr
  go_enter Tryd.func57, Tryd.ntmps57
  go_wp2_with fail
  refine (HSP.out _).mono ?_
  rintro o w1 ⟨wv, rfl, hP, hb1⟩
  obtain ⟨Aw, cw, rfl, _⟩ := owns_slice hP
  rw [hn] at hP ⊢
  have HW1 := Lib.hid hP
  have HB1 := Lib.hid hb1
  clear hn hP hb1
  have HO1 : Hid (OW (w1.alloc (.cells #[] 101)) w.heap.size (.slice (some ⟨w1.heap.size, 0, none⟩) 0 0) []) := Lib.hid (OW.made w1 HB1.out.size)
  have hub1 : Below w1.heap.size w1 (w1.alloc (.cells #[] 101)) := (Below.refl _ _).alloc (Nat.le_refl _) _
  have HW2 := Lib.hid (owns_next HW1.out hub1)
  have HB2 := Lib.hid (below_next HB1.out hub1 (Nat.le_refl _))
  clear hub1 HW1 HB1
  go_wp2_with fail
  go_loopw [5, 6, 7, 8, 9, 10, 11] (fun vo vi _ _ _ _ _ wr => ∃ (i : Nat) (rs : List Rw), i ≤ n ∧ vi = .int .i64 (i : Nat) ∧ readL numU (ls.take i) = some (nums rs) ∧ OW wr w.heap.size vo rs ∧ wr.ownsRow w.heap.size 9 1 (.slice Aw n cw) n (ls.flatMap sJ) ∧ Below w.heap.size w wr) (fun _ vi _ _ _ _ _ _ => n - (intOf vi).toNat)
  case atStart => exact ⟨0, [], by omega, rfl, rfl, HO1.out, HW2.out, HB2.out⟩
  case round =>
    clear HO1 HW2 HB2
    obtain ⟨i, rs, hi', rfl, hD, hO, hW, hB⟩ := hrel
    obtain ⟨Ao, co, rfl, _⟩ := owns_slice hO.outer
    obtain ⟨wo, hwo⟩ : ∃ wo : World, wo = wr := ⟨_, rfl⟩
    subst hwo
    have HD := Lib.hid hD
    have HO := Lib.hid hO
    have HW := Lib.hid hW
    have HB := Lib.hid hB
    have hDl : rs.length = i := by
      have h := readL_len hD
      rw [List.length_take] at h
      have := HN.out
      simp only [nums, List.length_map] at h
      omega
    have HDL := Lib.hid hDl
    clear hD hO hW hB hDl
    by_cases hlt : i < n
    · obtain ⟨p, hp⟩ : ∃ p, ls[i]? = some p := ⟨ls[i]'(by have := HN.out; omega), List.getElem?_eq_getElem _⟩
      obtain ⟨gw, rfl, hgw, hcw⟩ := owns_str HW.out hp
      have hplen := HPL.out p (List.mem_of_getElem? hp)
      have htk : ls.take (i + 1) = ls.take i ++ [p] := by rw [List.take_add_one, hp]; rfl
      have HTK := Lib.hid htk
      have hnone : numU p = none → L = [] ∧ k = 5 := fun hn2 => by
        have h1 : readL numU ls = none := readL_prefix (pre := ls.take (i + 1)) (by rw [htk, readL_snoc, HD.out, hn2]) (List.take_prefix _ _)
        have h2 := HR.out
        rw [h1] at h2
        obtain ⟨rfl, rfl⟩ := Prod.mk.inj h2
        exact ⟨rfl, rfl⟩
      have HNONE := Lib.hid hnone
      -- one more row
      have hstep : ∀ {D : List Int}, numU p = some D → readL numU (ls.take (i + 1)) = some (nums (rs ++ [⟨none, 0, D⟩])) := fun {D} hu => by
        rw [htk, readL_snoc, HD.out, hu]
        simp [nums]
      have HSTEP := Lib.hid (fun (D : List Int) (hu : numU p = some D) => @hstep D hu)
      have hsz := HB.out.size
      clear hp htk hnone hstep
      obtain ⟨w3, hw3⟩ : ∃ u, u = wo.alloc (.cells #[] 2) := ⟨_, rfl⟩
      have hb3 : Below wo.heap.size wo w3 := by rw [hw3]; exact (Below.refl _ _).alloc (Nat.le_refl _) _
      have hown3 : w3.ownsRow wo.heap.size 2 1 (.slice (some ⟨wo.heap.size, 0, none⟩) 0 0) 0 (([] : List Int).flatMap intS.C) := by rw [hw3]; exact World.ownsRow_made (e := 2) (size := 1) wo #[] 0 (Nat.le_refl _) (Nat.zero_le _) rfl
      have hcw3 : w3.cell? ⟨gw, i, none⟩ = some (.string (bsJ p)) := (hb3.cell (p := ⟨gw, i, none⟩) (block_lt_of_cell hcw)).trans hcw
      have HW3 := Lib.hid hw3
      have HB3 := Lib.hid hb3
      have HOW3 := Lib.hid hown3
      clear hw3 hb3 hown3 hcw
      have hil : i ≤ 1048577 := by have := HLN.out; omega
      by_cases hpe : p = []
      · subst hpe
        have HU : Hid (numU [] = some []) := Lib.hid rfl
        have HROW := Lib.hid (HO.out.next HB3.out).outer
        have hz3 := HB3.out.size
        clear hplen
        go_wp2_with (first | (at_builtin; refine wpList_append_own _ rfl (.tmp 53) (.tmp 55) 78 rfl w.heap.size 101 i0 (.slice none 0 0) 1 24 Tryd.underlying78 hi hz0 hz1 hz2 rfl (by decide) _ _ _ rfl (HROW.out.alloc _) ⟨_, 0, none⟩ 1 1 [.slice (some ⟨wo.heap.size, 0, none⟩) 0 0] rfl rfl (one_newB _ _ _ _ (by simp)) (one_cellI (by rfl)) (by have := HDL.out; unfold maxLen; omega) (by have := HDL.out; omega) (by simp; omega) ?_; intro v3 w5 hP5 hgr _; have HW5 := Lib.hid (((owns_next HW.out HB3.out).alloc _).kept hgr (.inr fun e => owns_apart (owns_next HW.out HB3.out) HROW.out (by decide) gw rfl e.symm)); have HG5 := Lib.hid hgr; have HP5 := Lib.hid hP5; clear hP5 hgr) | (rw [← HW3.out]) | fail)
        go_roundw
        case rel =>
          have hub : Below w3.heap.size w3 (w3.alloc (.cells #[.slice (some ⟨wo.heap.size, 0, none⟩) 0 0] 101)) := (Below.refl _ _).alloc (Nat.le_refl _) _
          have hS := HO.out.snoc (r := ⟨some ⟨wo.heap.size, 0, none⟩, 0, []⟩) (below_next HB3.out hub (Nat.le_refl _)) (owns_below (owns_next HOW3.out hub) HB.out.size) (fun k hk => (HOW3.out.lt k hk).1) HG5.out HP5.out
          have hB5 := (HB.out.trans ((below_next HB3.out hub (Nat.le_refl _)).mono HB.out.size)).grown HG5.out (by have := HB.out.size; simp; omega) (fun g hg => (HROW.out.lt g hg).1)
          exact ⟨i + 1, _, by omega, by go_num, by have := HSTEP.out _ HU.out; simpa [nums] using this, hS, HW5.out, hB5⟩
        case measure => simp [intOf]; omega
      · have hpb : p.isEmpty = false := by simpa using hpe
        obtain ⟨qs, hqs⟩ : ∃ qs, splitB 44 p = qs := ⟨_, rfl⟩
        have hnu : numU p = readL numI qs := by rw [numU, if_neg hpe, hqs]
        have HNU := Lib.hid hnu
        have hsp2 : ∀ u : World, Calls Tryd.prog 68 #[.string (bsJ p), .int .u8 44] u fun o w' => ∃ v, o = .returned v ∧ w'.ownsRow u.heap.size 9 1 v qs.length (qs.flatMap sJ) ∧ Below u.heap.size u w' := fun u => by
          have h := l01Split_any (bsJ p) (by rw [bsJ_size]; exact hplen) 44 u
          simp only [] at h
          rw [hqs] at h
          exact h
        have HSP2 := Lib.hid hsp2
        have HQL : Hid (qs.length ≤ 1048577) := Lib.hid (by
          have h := splitB_len 44 p
          rw [hqs] at h
          omega)
        have HQP : Hid (∀ q ∈ qs, q.length ≤ 1048576) := Lib.hid (fun q hq => by
          rw [← hqs] at hq
          have h := piece_len 44 hq
          omega)
        clear hnu hsp2 hqs hpe
        obtain ⟨m, hm⟩ : ∃ m, qs.length = m := ⟨_, rfl⟩
        have HM := Lib.hid hm
        have HLM : Hid (m ≤ 1048577) := Lib.hid (hm ▸ HQL.out)
        go_wp2_with (first | (rw [← HW3.out]) | fail)
        refine (HSP2.out _).mono ?_
        rintro o w4 ⟨qv, rfl, hP4, hb4⟩
        obtain ⟨Aq, cq, rfl, _⟩ := owns_slice hP4
        rw [hm] at hP4 ⊢
        have HQ4 := Lib.hid (owns_below hP4 HB3.out.size)
        have HOW4 := Lib.hid (owns_next HOW3.out hb4)
        have HB4 := Lib.hid (below_next HB3.out hb4 (Nat.le_refl _))
        clear hm hP4 hb4 HOW3 hcw3 HW3 HSP2
        go_wp2_with fail
        go_loopw [7, 9, 10, 11] (fun vo vj _ _ wr => ∃ (j : Nat) (D : List Int), j ≤ m ∧ vj = .int .i64 (j : Nat) ∧ readL numI (qs.take j) = some D ∧ wr.ownsRow wo.heap.size 2 1 vo D.length (D.flatMap intS.C) ∧ wr.ownsRow wo.heap.size 9 1 (.slice Aq m cq) m (qs.flatMap sJ) ∧ Below wo.heap.size wo wr) (fun _ vj _ _ _ => m - (intOf vj).toNat)
        case atStart => exact ⟨0, [], by omega, rfl, rfl, HOW4.out, HQ4.out, HB4.out⟩
        case round =>
          clear HOW4 HQ4 HB4 HB3
          obtain ⟨j, D, hj', rfl, hD2, hO2, hQ2, hB2⟩ := hrel
          obtain ⟨A2, c2, rfl, _⟩ := owns_slice hO2
          have HD2 := Lib.hid hD2
          have HO2 := Lib.hid hO2
          have HQ2 := Lib.hid hQ2
          have HB5 := Lib.hid hB2
          have hDl2 : D.length = j := by
            have h := readL_len hD2
            rw [List.length_take] at h
            have := HM.out
            omega
          have HDL2 := Lib.hid hDl2
          clear hD2 hO2 hQ2 hB2 hDl2
          by_cases hlt2 : j < m
          · obtain ⟨q, hq⟩ : ∃ q, qs[j]? = some q := ⟨qs[j]'(by have := HM.out; omega), List.getElem?_eq_getElem _⟩
            obtain ⟨gq, rfl, hgq, hcq⟩ := owns_str HQ2.out hq
            have hqlen := HQP.out q (List.mem_of_getElem? hq)
            have htk2 : qs.take (j + 1) = qs.take j ++ [q] := by rw [List.take_add_one, hq]; rfl
            have HTK2 := Lib.hid htk2
            have hln : ∀ u : World, Calls Tryd.prog 112 #[.string (bsJ q)] u fun o w' => o = .returned (.tuple #[.int .i64 (numV (numO q)), .bool (numO q).isSome]) ∧ w' = u := fun u => by
              have h := l01Number_any (bsJ q) (by rw [bsJ_size]; omega) u
              simp only [] at h
              exact h
            have HLNN := Lib.hid hln
            clear hq htk2 hln hqlen
            have hjl : j ≤ 1048577 := by have := HLM.out; omega
            go_wp2_with fail
            refine (HLNN.out _).mono ?_
            rintro o u ⟨rfl, rfl⟩
            rcases numI_eq q with ⟨hn1, hn2⟩ | ⟨x, hn1, hn2⟩
            · rw [hn1]
              have hno : numU p = none := by
                rw [HNU.out]
                exact readL_prefix (pre := qs.take (j + 1)) (by rw [HTK2.out, readL_snoc, HD2.out, hn2]) (List.take_prefix _ _)
              obtain ⟨rfl, rfl⟩ := HNONE.out hno
              clear hn1 hn2 hno HR HNONE
              have hzz := (HB.out.trans (HB5.out.mono HB.out.size)).size
              go_wp2_with fail
              go_ret2
              exact ⟨_, 0, [], rfl, rfl, OW.os (OW.made _ hzz), (HB.out.trans (HB5.out.mono HB.out.size)).alloc hzz _⟩
            · rw [hn1]
              have HNX : Hid (readL numI (qs.take (j + 1)) = some (D ++ [(x : Int)])) := Lib.hid (by rw [HTK2.out, readL_snoc, HD2.out, hn2])
              have hz5 := HB5.out.size
              clear hn1 hn2
              simp only [numV, Option.isSome_some]
              go_wp2_with (first | (at_builtin; refine wpList_append_own _ rfl (.tmp 49) (.tmp 51) 101 rfl wo.heap.size 2 j0 (.int .i64 0) 1 8 Tryd.underlying101 hj hy0 hy1 hy2 rfl (by decide) _ _ _ rfl (HO2.out.alloc _) ⟨_, 0, none⟩ 1 1 [.int .i64 (x : Int)] rfl rfl (one_newB _ _ _ _ (by simp)) (one_cellI (by rfl)) (by have := HDL2.out; unfold maxLen; omega) (by have := HDL2.out; omega) (by simp; omega) ?_; intro v3 w6 hP6 hgr _; have HQ6 := Lib.hid ((HQ2.out.alloc _).kept hgr (.inr fun e => owns_apart HQ2.out HO2.out (by decide) gq rfl e.symm)); have HB6 := Lib.hid (Below.grown (HB5.out.alloc HB5.out.size _) hgr (by simp; omega) (fun g hg => (HO2.out.lt g hg).1)); have HP6 := Lib.hid hP6; clear hP6 hgr) | fail)
              go_roundw
              case rel => exact ⟨j + 1, D ++ [(x : Int)], by omega, by first | rfl | go_num, HNX.out, by rw [← flat_snocI, List.length_append]; exact HP6.out, HQ6.out, HB6.out⟩
              case measure => simp [intOf]; omega
          · obtain rfl : j = m := by omega
            have htk2 : qs.take j = qs := List.take_of_length_le (by have := HM.out; omega)
            have hu : numU p = some D := by rw [HNU.out, ← htk2]; exact HD2.out
            have HU := Lib.hid hu
            have HROW := Lib.hid (HO.out.next HB5.out).outer
            have hz5 := HB5.out.size
            clear htk2 hu
            go_wp2_with (first | (at_builtin; go_must (refine wpList_append_own _ rfl (.tmp 53) (.tmp 55) 78 rfl w.heap.size 101 i0 (.slice none 0 0) 1 24 Tryd.underlying78 hi hz0 hz1 hz2 rfl (by decide) (.slice Ao rs.length co) rs.length (rs.map Rw.v) rfl (HROW.out.alloc _) ⟨_, 0, none⟩ 1 1 [.slice A2 D.length c2] rfl rfl (one_newB _ _ _ _ (by simp)) (one_cellI (by rfl)) (by have := HDL.out; unfold maxLen; omega) (by have := HDL.out; omega) (by simp; omega) ?_); intro v3 w5 hP5 hgr _; have HW5 := Lib.hid (((owns_next HW.out HB5.out).alloc _).kept hgr (.inr fun e => owns_apart (owns_next HW.out HB5.out) HROW.out (by decide) gw rfl e.symm)); have HG5 := Lib.hid hgr; have HP5 := Lib.hid hP5; clear hP5 hgr) | fail)
            go_roundw
            case rel =>
              have hub : ∀ q : World, Below q.heap.size q (q.alloc (.cells #[.slice A2 D.length c2] 101)) := fun q => (Below.refl _ _).alloc (Nat.le_refl _) _
              have hS := HO.out.snoc (r := ⟨A2, c2, D⟩) (below_next HB5.out (hub _) (Nat.le_refl _)) (owns_below (owns_next HO2.out (hub _)) HB.out.size) (fun k hk => (HO2.out.lt k hk).1) HG5.out HP5.out
              have hB5 := (HB.out.trans ((below_next HB5.out (hub _) (Nat.le_refl _)).mono HB.out.size)).grown HG5.out (by have := HB.out.size; simp; omega) (fun g hg => (HROW.out.lt g hg).1)
              exact ⟨i + 1, _, by omega, by go_num, by have := HSTEP.out _ HU.out; simpa [nums] using this, hS, HW5.out, hB5⟩
            case measure => simp [intOf]; omega
    · obtain rfl : i = n := by omega
      have htk : ls.take i = ls := List.take_of_length_le (by have := HN.out; omega)
      have hres : readL numU ls = some (nums rs) := by rw [← htk]; exact HD.out
      have hr := HR.out
      rw [hres] at hr
      have HRR := Lib.hid hr
      have HOS := Lib.hid (OW.os HO.out)
      have HCB := Lib.hid (l04Cupboard_any Ao rs.length co rs rfl (by have := HDL.out; have := HLN.out; omega) wo HOS.out.ss (cupB (nums rs)) (cupB_iff _))
      clear htk hres HR hr
      go_wp2_with fail
      refine HCB.out.mono ?_
      rintro o u ⟨rfl, hbu⟩
      have HBU := Lib.hid (below_next HB.out hbu (Nat.le_refl _))
      have HOU := Lib.hid (HOS.out.next hbu)
      have hzu := HBU.out.size
      clear hbu HCB HOS
      have hr := HRR.out
      cases hcb : cupB (nums rs) with
      | true =>
        rw [hcb] at hr
        simp only [if_true] at hr
        obtain ⟨rfl, rfl⟩ := Prod.mk.inj hr
        clear hr HRR hcb
        go_wp2_with fail
        go_ret2
        exact ⟨Ao, co, rs, rfl, rfl, HOU.out, HBU.out⟩
      | false =>
        rw [hcb] at hr
        simp only [Bool.false_eq_true, if_false] at hr
        obtain ⟨rfl, rfl⟩ := Prod.mk.inj hr
        clear hr HRR hcb
        go_wp2_with fail
        go_ret2
        exact ⟨_, 0, [], rfl, rfl, OW.os (OW.made _ hzu), HBU.out.alloc hzu _⟩
end Go.Proofs.YtjfimmfnhlimkaaDoor.rd
