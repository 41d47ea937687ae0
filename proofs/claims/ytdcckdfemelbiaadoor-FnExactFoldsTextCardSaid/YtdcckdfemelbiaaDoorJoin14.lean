/-
  Several texts of this proof, joined.
-/
import Derived.Test.YtdcckdfemelbiaaDoorJoin13
import Derived.Deep.RegionWith
import Derived.Laws.EntriesVeiled
import Derived.Test.YtdcckdfemelbiaaDoorJoin12
import Derived.Test.YtdcckdfemelbiaaDoorJoin11
/-
  Edges behind one fold, whichever: the program's function.
-/
namespace Go.Proofs.YtdcckdfemelbiaaDoor.fold
open Go Go.RowKit sl errs

/-- edges in a block of the call's own, and a place for the result -/
structure EB (x : Edg) (W u : World) : Prop where
  cs : u.rangeAt W.heap.size 0 x.cells
  fz : ∀ i, u.frozen? ⟨W.heap.size, i, none⟩ = false
  th : u.there (W.heap.size + 1) 0 4
  lt : W.heap.size + 1 < u.heap.size
  below : Below W.heap.size W u
theorem EB.next {x : Edg} {W u v : World} (h : EB x W u) (hb : Below u.heap.size u v) : EB x W v := by
  have hl := h.lt
  refine ⟨fun j y hj => (hb.cell (p := ⟨W.heap.size, 0 + j, none⟩) (by show W.heap.size < _; omega)).trans (h.cs j y hj), fun i => (hb.frozen (p := ⟨W.heap.size, i, none⟩) (by show W.heap.size < _; omega)).trans (h.fz i),
    fun j hj => ⟨by rw [hb.cell (p := ⟨W.heap.size + 1, 0 + j, none⟩) hl]; exact (h.th j hj).1, by rw [hb.frozen (p := ⟨W.heap.size + 1, 0 + j, none⟩) hl]; exact (h.th j hj).2⟩, Nat.lt_of_lt_of_le hl hb.size, below_next h.below hb (Nat.le_refl _)⟩
theorem EB.new (x : Edg) (w : World) (T T' : TypeId) : EB x w ((w.alloc (.cells #[.int .i64 x.l, .int .i64 x.r, .int .i64 x.u, .int .i64 x.d] T)).alloc (.cells #[.int .i64 0, .int .i64 0, .int .i64 0, .int .i64 0] T')) := by
  have hh : ((w.alloc (.cells #[.int .i64 x.l, .int .i64 x.r, .int .i64 x.u, .int .i64 x.d] T)).alloc (.cells #[.int .i64 0, .int .i64 0, .int .i64 0, .int .i64 0] T')).heap[w.heap.size]? = some (.cells #[.int .i64 x.l, .int .i64 x.r, .int .i64 x.u, .int .i64 x.d] T (0, 0)) := by
    rw [heap_alloc_old _ _ (by simp)]
    exact heap_alloc_new _ _
  refine ⟨fun j y hj => ?_, fun i => frozen_of_row _ _ i _ _ hh, there_new w _ [.int .i64 0, .int .i64 0, .int .i64 0, .int .i64 0] _ rfl, by simp, ((Below.refl _ _).alloc (Nat.le_refl _) _).alloc (by simp) _⟩
  rw [Nat.zero_add, cell_of_row _ _ _ _ _ _ hh]
  simpa using hj
theorem EB.cells {x : Edg} {W u : World} (h : EB x W u) : u.cell? ⟨W.heap.size, 0, none⟩ = some (.int .i64 x.l) ∧ u.cell? ⟨W.heap.size, 1, none⟩ = some (.int .i64 x.r) ∧ u.cell? ⟨W.heap.size, 2, none⟩ = some (.int .i64 x.u) ∧ u.cell? ⟨W.heap.size, 3, none⟩ = some (.int .i64 x.d) :=
  ⟨by simpa using h.cs 0 _ rfl, by simpa using h.cs 1 _ rfl, by simpa using h.cs 2 _ rfl, by simpa using h.cs 3 _ rfl⟩
theorem EB.place {x : Edg} {W u : World} (h : EB x W u) : ∃ v0 v1 v2 v3, u.cell? ⟨W.heap.size + 1, 0, none⟩ = some v0 ∧ u.cell? ⟨W.heap.size + 1, 1, none⟩ = some v1 ∧ u.cell? ⟨W.heap.size + 1, 2, none⟩ = some v2 ∧ u.cell? ⟨W.heap.size + 1, 3, none⟩ = some v3 ∧ u.frozen? ⟨W.heap.size + 1, 0, none⟩ = false ∧ u.frozen? ⟨W.heap.size + 1, 1, none⟩ = false ∧ u.frozen? ⟨W.heap.size + 1, 2, none⟩ = false ∧ u.frozen? ⟨W.heap.size + 1, 3, none⟩ = false := by
  obtain ⟨v0, h0⟩ := Option.isSome_iff_exists.1 (h.th 0 (by omega)).1
  obtain ⟨v1, h1⟩ := Option.isSome_iff_exists.1 (h.th 1 (by omega)).1
  obtain ⟨v2, h2⟩ := Option.isSome_iff_exists.1 (h.th 2 (by omega)).1
  obtain ⟨v3, h3⟩ := Option.isSome_iff_exists.1 (h.th 3 (by omega)).1
  exact ⟨v0, v1, v2, v3, by simpa using h0, by simpa using h1, by simpa using h2, by simpa using h3, by simpa using (h.th 0 (by omega)).2, by simpa using (h.th 1 (by omega)).2, by simpa using (h.th 2 (by omega)).2, by simpa using (h.th 3 (by omega)).2⟩
/-- one more is written -/
theorem EB.set4 {x : Edg} {W u : World} (h : EB x W u) (y : Edg) : EB y W ((((u.setCell ⟨W.heap.size, 0, none⟩ (.int .i64 y.l)).setCell ⟨W.heap.size, 1, none⟩ (.int .i64 y.r)).setCell ⟨W.heap.size, 2, none⟩ (.int .i64 y.u)).setCell ⟨W.heap.size, 3, none⟩ (.int .i64 y.d)) := by
  have ht : u.there W.heap.size 0 4 := fun j hj => by
    have hc : ∃ y, x.cells[j]? = some y := ⟨x.cells[j]'(by simpa using hj), List.getElem?_eq_getElem _⟩
    obtain ⟨y, hy⟩ := hc
    exact ⟨by rw [h.cs j y hy]; rfl, h.fz _⟩
  have f : ∀ (a : World) (p q : Addr) (v : Value), (a.setCell p v).frozen? q = a.frozen? q := fun a p q v => World.frozen?_setCell a p q v
  exact ⟨range4 ht, fun i => by rw [f, f, f, f]; exact h.fz i, there_set' (there_set' (there_set' (there_set' h.th))), by have := h.lt; simpa [World.setCell] using this, below_cells h.below (Nat.le_refl _) y.cells 0⟩
theorem EB.set1 {x y : Edg} {W u : World} (h : EB x W u) (k : Nat) (v : Int) (hk : k < 4) (hy : y.cells = x.cells.set k (.int .i64 v)) : EB y W (u.setCell ⟨W.heap.size, k, none⟩ (.int .i64 v)) := by
  refine ⟨fun j t hj => ?_, fun i => by rw [World.frozen?_setCell]; exact h.fz i, there_set' h.th, by have := h.lt; simpa [World.setCell] using this, h.below.setCell (p := ⟨W.heap.size, k, none⟩) (Nat.le_refl _) _⟩
  rw [hy] at hj
  have hc : ∃ t, x.cells[k]? = some t := ⟨x.cells[k]'(by simpa using hk), List.getElem?_eq_getElem _⟩
  obtain ⟨t0, ht0⟩ := hc
  by_cases e : j = k
  · subst e
    rw [List.getElem?_set_self (by simpa using hk)] at hj
    obtain rfl := Option.some.inj hj
    rw [Nat.zero_add]
    have h0 := h.cs j t0 ht0
    rw [Nat.zero_add] at h0
    exact World.cell?_setCell_same _ _ _ h0
  · rw [List.getElem?_set_ne (fun h => e h.symm)] at hj
    rw [Nat.zero_add, World.cell?_setCell_other _ _ _ _ (by simp only [ne_eq, Addr.mk.injEq, true_and, and_true]; omega)]
    have := h.cs j t hj
    rwa [Nat.zero_add] at this
theorem parts_w (n r : Int) (h : (n = 0 ∧ r = 2) ∨ (n = 1 ∧ r = 2) ∨ (n = 2 ∧ r = 3) ∨ (n = 3 ∧ r = 3)) (w : World) :
    Calls Tryd.prog 173 #[.int .u8 n] w fun o w' => o = .returned (.int .i64 r) ∧ w' = w := parts_q n r h w
/-- the sides along a fold, multiplied up to the side k -/
def mulE (n : Nat) (x : Edg) (k : Nat) : Edg :=
  match n with
  | 0 => ⟨x.l, x.r, if 2 < k then x.u * 2 else x.u, if 3 < k then x.d * 2 else x.d⟩
  | 1 => ⟨if 0 < k then x.l * 2 else x.l, if 1 < k then x.r * 2 else x.r, x.u, x.d⟩
  | 2 => ⟨x.l, x.r, if 2 < k then x.u * 3 else x.u, if 3 < k then x.d * 3 else x.d⟩
  | _ => ⟨if 0 < k then x.l * 3 else x.l, if 1 < k then x.r * 3 else x.r, x.u, x.d⟩
theorem mulE_start (n : Nat) (x : Edg) : mulE n x 0 = x := by
  unfold mulE
  split <;> simp
theorem mulE_end (n : Nat) (x : Edg) : mulE n (joinE n x) 4 = stepE n x := by
  unfold mulE joinE stepE
  split <;> simp
end Go.Proofs.YtdcckdfemelbiaaDoor.fold

/-
  EdgesAfter, the program's.
-/
namespace Go.Proofs.YtdcckdfemelbiaaDoor.fold
open Go Go.RowKit sl errs

/-- edges behind some folds -/
def edgesOf (x : Edg) (ks : List Int) : Edg := ks.foldl (fun e k => stepE k.toNat e) x
abbrev oneE : Edg := ⟨1, 1, 1, 1⟩
theorem edgesOf_snoc (x : Edg) (ks : List Int) (k : Int) : edgesOf x (ks ++ [k]) = stepE k.toNat (edgesOf x ks) := by simp [edgesOf]
theorem snoc_ind' {α : Type} {P : List α → Prop} (h0 : P []) (h1 : ∀ xs x, P xs → P (xs ++ [x])) (xs : List α) : P xs := by
  have : ∀ ys : List α, P ys.reverse := fun ys => by
    induction ys with
    | nil => exact h0
    | cons y r ih => rw [List.reverse_cons]; exact h1 _ _ ih
  rw [← List.reverse_reverse xs]
  exact this _
theorem edges_in : ∀ ks : List Int, (edgesOf oneE ks).In (((3 ^ ks.length : Nat)) : Int) := by
  intro ks
  induction ks using snoc_ind' with
  | h0 => exact ⟨by decide, by decide, by decide, by decide, by decide, by decide, by decide, by decide⟩
  | h1 ks k ih =>
    rw [edgesOf_snoc]
    have := stepE_in (n := k.toNat) ih
    have e : (((3 ^ (ks ++ [k]).length : Nat)) : Int) = 3 * (((3 ^ ks.length : Nat)) : Int) := by
      rw [List.length_append, List.length_singleton, Nat.pow_succ]
      omega
    rw [e]
    exact this
theorem In.mono {x : Edg} {m m' : Int} (h : x.In m) (hm : m ≤ m') : x.In m' := by
  obtain ⟨a, b, c, d, e, f, g, i⟩ := h
  exact ⟨a, by omega, c, by omega, e, by omega, g, by omega⟩
theorem edges_small {ks : List Int} (h : ks.length ≤ 12) : (edgesOf oneE ks).In 1000000 := by
  have h1 : 3 ^ ks.length ≤ 3 ^ 12 := Nat.pow_le_pow_right (by decide) h
  have h2 : 3 ^ 12 = 531441 := by decide
  exact In.mono (edges_in ks) (by omega)
/-- the code of some folds -/
def codeE (ks : List Int) : Nat := if 12 < ks.length then 3 else if (ks.all fun k => inB k 0 3) = true then 0 else 2
theorem codeE_le (ks : List Int) : codeE ks ≤ 3 := by unfold codeE; split <;> (try split) <;> omega
def edgesR (ks : List Int) : Edg := if codeE ks = 0 then edgesOf oneE ks else ⟨0, 0, 0, 0⟩
theorem codeE_all {ks : List Int} (h : codeE ks = 0) : ks.length ≤ 12 ∧ ∀ k ∈ ks, 0 ≤ k ∧ k ≤ 3 := by
  unfold codeE at h
  split at h
  · cases h
  · split at h
    · rename_i h2
      exact ⟨by omega, fun k hk => (inB_iff _ _ _).1 (List.all_eq_true.1 h2 k hk)⟩
    · cases h
abbrev cU (x : Int) : List Value := [.int .u8 x]
theorem cU_len (xs : List Int) : ∀ x ∈ xs, (cU x).length = 1 := fun _ _ => rfl
theorem cU_at {w : World} {a : Addr} {k : Nat} {x : Int} (h : At w (a.add (k * 1)) (cU x)) : w.cell? (a.add k) = some (.int .u8 x) := by
  have h0 := h 0 _ rfl
  rw [Nat.mul_one] at h0
  exact h0
theorem infoF : (Tryd.prog.info? 84).map (fun i => (i.zero, i.size, i.bytes)) = some (some (.int .u8 0), 1, 1) := by kernel_rfl
set_option maxRecDepth 100000 in
set_option maxHeartbeats 8000000 in
theorem foldsOf_any (A : Option Addr) (n c : Nat) (ks : List Int) (en : n = ks.length) (hn : n ≤ 1048576) {w : World} {B : Nat} {e : Nat → Addr} (h : Errs w B e) (hB : B ≤ w.heap.size) (hg : Sl intS.C 1 w w.heap.size A ks) (code : Nat) (hc : code = codeE ks) :
    Calls Tryd.prog 60 #[.slice A n c] w fun o w' => ∃ v, o = .returned (.tuple #[v, errOf e code]) ∧ (code = 0 → w'.ownsRow w.heap.size 84 1 v n (ks.flatMap cU)) ∧ Below w.heap.size w w' := by
  obtain ⟨i0, hi, hz0, hz1, hz2⟩ := info_parts infoF
  obtain ⟨k0, hk0⟩ : ∃ k : Nat, k = if 12 < n then 3 else 0 := ⟨_, rfl⟩
  have En := Lib.hid en
  have HC := Lib.hid hc
  have HE := Lib.hid h
  have HK0 := Lib.hid hk0
  clear en hc h hk0
  by_cases h12 : 12 < n
  · have ek : k0 = 3 := by rw [HK0.out, if_pos h12]
    have ec : code = 3 := by rw [HC.out, codeE, if_pos (by have := En.out; omega)]
    subst ek ec
    go_enter Tryd.func60, Tryd.ntmps60
    go_wp2_with fail
    refine (checkFoldCount_any A n c (by omega) HE.out 3 HK0.out).mono ?_
    rintro o u ⟨rfl, rfl⟩
    have e0 : errOf e 3 = errV (e 2) := rfl
    rw [e0]
    go_wp2_with fail
    go_ret2
    exact ⟨_, rfl, (fun h => by cases h), Below.refl _ _⟩
  · have ek : k0 = 0 := by rw [HK0.out, if_neg h12]
    subst ek
    have hmk : ∀ u : World, (Instr.makeSlice 78 (.int .i64 (n : Int)) (.int .i64 (n : Int))).run Tryd.prog u =
        .ok (.slice (some ⟨u.heap.size, 0, none⟩) n n) (u.alloc (.cells (madeCells #[.int .u8 0] n) 84)) := fun u => by
      have h := run_make (P := Tryd.prog) u 78 84 i0 _ Tryd.underlying78 hi hz0 .i64 .i64 (n : Int) (n : Int) (by omega) (Int.le_refl _) (by rw [hz2]; omega) (by omega)
      have e : ((n : Int)).toNat = n := by omega
      rw [e] at h
      simpa [hz1, Value.cells] using h
    go_enter Tryd.func60, Tryd.ntmps60
    go_wp2_with fail
    refine (checkFoldCount_any A n c (by omega) HE.out 0 HK0.out).mono ?_
    rintro o u ⟨rfl, rfl⟩
    have e0 : errOf e 0 = .nilIface := rfl
    rw [e0]
    clear e0
    have hB0 : Below w.heap.size w (w.alloc (.cells (madeCells #[.int .u8 0] n) 84)) := (Below.refl _ _).alloc (Nat.le_refl _) _
    have hP0 : (w.alloc (.cells (madeCells #[.int .u8 0] n) 84)).ownsRow w.heap.size 84 1 (.slice (some ⟨w.heap.size, 0, none⟩) n n) n _ :=
      World.ownsRow_lit w (madeCells #[.int .u8 0] n) n (Nat.le_refl _) (by unfold maxLen; omega) (by rw [size_madeCells, Nat.mul_one])
    have HP0 := Lib.hid hP0
    clear hP0
    go_wp2_with fail
    go_loopw [20, 6, 7, 8, 9] (fun vi _ _ _ _ wr => ∃ k L, k ≤ n ∧ vi = .int .i64 (k : Nat) ∧ wr.ownsRow w.heap.size 84 1 (.slice (some ⟨w.heap.size, 0, none⟩) n n) n L ∧ Done cU 1 ks k L ∧ (∀ i x, i < k → ks[i]? = some x → inB x 0 3 = true) ∧ Below w.heap.size w wr) (fun vi _ _ _ _ _ => n - (intOf vi).toNat)
    case atStart => exact ⟨0, _, by omega, rfl, HP0.out, Done.zero _ _ _ _, fun i x hi => absurd hi (by omega), hB0⟩
    case round =>
      clear hB0 HP0
      obtain ⟨k, L, hk, rfl, hP, hD, hR, hB⟩ := hrel
      have HR := Lib.hid hR
      have HD := Lib.hid hD
      have HB := Lib.hid hB
      clear hR hD hB
      by_cases hlt : k < n
      · obtain ⟨x, hx⟩ : ∃ x, ks[k]? = some x := ⟨ks[k]'(by have := En.out; omega), List.getElem?_eq_getElem _⟩
        obtain ⟨a, rfl, hab, hat⟩ := (hg.below HB.out).at_ k x hx
        have q0 := intS.at_ hat
        have HX := Lib.hid hx
        clear hx hat
        cases hv : inB x 0 3 with
        | true =>
          have hx3 := (inB_iff _ _ _).1 hv
          have HV := Lib.hid hv
          clear hv
          obtain ⟨m, rfl⟩ : ∃ m : Nat, x = m := ⟨x.toNat, by omega⟩
          have hLL := hP.1
          obtain ⟨v0, s0⟩ : ∃ v, wr.cell? ⟨w.heap.size, k, none⟩ = some v := ⟨L[k]'(by omega), (hP.cellAt k (by omega)).trans (List.getElem?_eq_getElem _)⟩
          have f0 := hP.frozenAt k
          have HLL := Lib.hid hLL
          have HP := Lib.hid hP
          clear hLL hP
          go_wp2_with fail
          refine (foldOf_any (m : Int) (HE.out.below (HB.out.mono (by omega))) m 0 (.inl ⟨rfl, by omega, rfl⟩)).mono ?_
          rintro o u ⟨rfl, rfl⟩
          have e0 : errOf e 0 = .nilIface := rfl
          rw [e0]
          clear e0
          go_wp2_with fail
          go_roundw
          case rel =>
            have hP3 := (HP.out.stored k (.int .u8 m)).1
            refine ⟨k + 1, _, by omega, by go_num, hP3, ?_, fun i y hi hy => ?_, HB.out.setCell (p := ⟨w.heap.size, k, none⟩) (Nat.le_refl _) _⟩
            · have hd := HD.out.step (cU_len ks) HX.out (by rw [HLL.out, En.out])
              rw [Nat.mul_one] at hd
              exact hd
            · rcases Nat.lt_or_ge i k with h1 | h1
              · exact HR.out i y h1 hy
              · obtain rfl : i = k := by omega
                have := HX.out
                rw [hy] at this
                rw [Option.some.inj this]
                exact HV.out
          case measure => simp [intOf]; omega
        | false =>
          have ec : code = 2 := by
            rw [HC.out, codeE, if_neg (by have := En.out; omega), all_not (p := fun k => inB k 0 3) HX.out hv]
            rfl
          subst ec
          have hnx : ¬ (0 ≤ x ∧ x ≤ 3) := fun h => by rw [(inB_iff _ _ _).2 h] at hv; cases hv
          have HNX := Lib.hid hnx
          clear hv hnx hP
          go_wp2_with fail
          refine (foldOf_any x (HE.out.below (HB.out.mono (by omega))) 0 2 (.inr ⟨HNX.out, rfl, rfl⟩)).mono ?_
          rintro o u ⟨rfl, rfl⟩
          have e0 : errOf e 2 = errV (e 1) := rfl
          rw [e0]
          go_wp2_with fail
          go_ret2
          exact ⟨_, rfl, (fun h => by cases h), HB.out⟩
      · obtain rfl : k = n := by omega
        have ec : code = 0 := by
          rw [HC.out, codeE, if_neg (by have := En.out; omega), all_of_idx (p := fun k => inB k 0 3) fun i x hi hx => HR.out i x (by have := En.out; omega) hx]
          rfl
        subst ec
        have HP := Lib.hid hP
        clear hP
        go_wp2_with fail
        go_ret2
        have hl := En.out
        have e2 : L = ks.flatMap cU := Done.full (by rw [← hl]; exact HD.out) (cU_len ks) (by omega) (by rw [HP.out.1, hl])
        have hP := HP.out
        rw [e2] at hP
        exact ⟨_, rfl, by first | exact hP | exact fun _ => hP, HB.out⟩
/-- edges in a block of the call's own, b, and a place for the result -/
structure EI (x : Edg) (b : Nat) (W u : World) : Prop where
  cs : u.rangeAt b 0 x.cells
  fz : ∀ i, u.frozen? ⟨b, i, none⟩ = false
  th : u.there W.heap.size 0 4
  lt : b < u.heap.size
  gt : W.heap.size < b
  below : Below W.heap.size W u
theorem EI.cells {x : Edg} {b : Nat} {W u : World} (h : EI x b W u) : u.cell? ⟨b, 0, none⟩ = some (.int .i64 x.l) ∧ u.cell? ⟨b, 1, none⟩ = some (.int .i64 x.r) ∧ u.cell? ⟨b, 2, none⟩ = some (.int .i64 x.u) ∧ u.cell? ⟨b, 3, none⟩ = some (.int .i64 x.d) :=
  ⟨by simpa using h.cs 0 _ rfl, by simpa using h.cs 1 _ rfl, by simpa using h.cs 2 _ rfl, by simpa using h.cs 3 _ rfl⟩
theorem there_next {u v : World} {b n : Nat} (h : u.there b 0 n) (hl : b < u.heap.size) (hb : Below u.heap.size u v) : v.there b 0 n := fun j hj =>
  ⟨by rw [hb.cell (p := ⟨b, 0 + j, none⟩) hl]; exact (h j hj).1, by rw [hb.frozen (p := ⟨b, 0 + j, none⟩) hl]; exact (h j hj).2⟩
theorem EI.next {x : Edg} {b : Nat} {W u v : World} (h : EI x b W u) (hb : Below u.heap.size u v) : EI x b W v := by
  have hl := h.lt
  have hg := h.gt
  exact ⟨fun j y hj => (hb.cell (p := ⟨b, 0 + j, none⟩) hl).trans (h.cs j y hj), fun i => (hb.frozen (p := ⟨b, i, none⟩) hl).trans (h.fz i), there_next h.th (by omega) hb, Nat.lt_of_lt_of_le hl hb.size, hg, below_next h.below hb (Nat.le_refl _)⟩
theorem EI.there {x : Edg} {b : Nat} {W u : World} (h : EI x b W u) : u.there b 0 4 := fun j hj => by
  obtain ⟨y, hy⟩ : ∃ y, x.cells[j]? = some y := ⟨x.cells[j]'(by simpa using hj), List.getElem?_eq_getElem _⟩
  exact ⟨by rw [h.cs j y hy]; rfl, h.fz _⟩
theorem EI.set4 {x : Edg} {b : Nat} {W u : World} (h : EI x b W u) (y : Edg) : EI y b W ((((u.setCell ⟨b, 0, none⟩ (.int .i64 y.l)).setCell ⟨b, 1, none⟩ (.int .i64 y.r)).setCell ⟨b, 2, none⟩ (.int .i64 y.u)).setCell ⟨b, 3, none⟩ (.int .i64 y.d)) := by
  have f : ∀ (a : World) (p q : Addr) (v : Value), (a.setCell p v).frozen? q = a.frozen? q := fun a p q v => World.frozen?_setCell a p q v
  exact ⟨range4 h.there, fun i => by rw [f, f, f, f]; exact h.fz i, there_set' (there_set' (there_set' (there_set' h.th))), by have := h.lt; simpa [World.setCell] using this, h.gt, below_cells h.below (Nat.le_of_lt h.gt) y.cells 0⟩
theorem place4 {u : World} {b : Nat} (h : u.there b 0 4) : ∃ v0 v1 v2 v3, u.cell? ⟨b, 0, none⟩ = some v0 ∧ u.cell? ⟨b, 1, none⟩ = some v1 ∧ u.cell? ⟨b, 2, none⟩ = some v2 ∧ u.cell? ⟨b, 3, none⟩ = some v3 ∧ u.frozen? ⟨b, 0, none⟩ = false ∧ u.frozen? ⟨b, 1, none⟩ = false ∧ u.frozen? ⟨b, 2, none⟩ = false ∧ u.frozen? ⟨b, 3, none⟩ = false := by
  obtain ⟨v0, h0⟩ := Option.isSome_iff_exists.1 (h 0 (by omega)).1
  obtain ⟨v1, h1⟩ := Option.isSome_iff_exists.1 (h 1 (by omega)).1
  obtain ⟨v2, h2⟩ := Option.isSome_iff_exists.1 (h 2 (by omega)).1
  obtain ⟨v3, h3⟩ := Option.isSome_iff_exists.1 (h 3 (by omega)).1
  exact ⟨v0, v1, v2, v3, by simpa using h0, by simpa using h1, by simpa using h2, by simpa using h3, by simpa using (h 0 (by omega)).2, by simpa using (h 1 (by omega)).2, by simpa using (h 2 (by omega)).2, by simpa using (h 3 (by omega)).2⟩
theorem EI.new (x : Edg) {w u : World} (h : u.there w.heap.size 0 4) (hl : w.heap.size < u.heap.size) (hB : Below w.heap.size w u) (T : TypeId) : EI x u.heap.size w (u.alloc (.cells #[.int .i64 x.l, .int .i64 x.r, .int .i64 x.u, .int .i64 x.d] T)) := by
  have hh := heap_alloc_new u (.cells #[.int .i64 x.l, .int .i64 x.r, .int .i64 x.u, .int .i64 x.d] T)
  refine ⟨fun j y hj => ?_, fun i => frozen_of_row _ _ i _ _ hh, there_next h hl ((Below.refl _ _).alloc (Nat.le_refl _) _), by simp, hl, hB.alloc hB.size _⟩
  rw [Nat.zero_add, cell_of_row _ _ _ _ _ _ hh]
  simpa using hj
abbrev edgesInt (x : Edg) (c : Nat) : Value := .tuple #[x.v, .int .i64 c]
theorem there_one (w : World) (vs : List Value) (T : TypeId) {n : Nat} (hn : n = vs.length) : (w.alloc (.cells vs.toArray T)).there w.heap.size 0 n := fun j hj => by
  have hh := heap_alloc_new w (.cells vs.toArray T)
  rw [Nat.zero_add]
  refine ⟨?_, frozen_of_row _ _ _ _ _ hh⟩
  rw [cell_of_row _ _ _ _ _ _ hh, List.getElem?_toArray, List.getElem?_eq_getElem (by omega)]
  rfl
end Go.Proofs.YtdcckdfemelbiaaDoor.fold
