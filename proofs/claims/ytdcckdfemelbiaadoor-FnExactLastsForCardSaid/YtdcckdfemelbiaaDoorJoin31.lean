/-
  Several texts of this proof, joined.
-/
import Derived.Test.YtdcckdfemelbiaaDoorJoin30
import Derived.Test.YtdcckdfemelbiaaDoorJoin16
import Derived.Test.YtdcckdfemelbiaaDoorJoin24
import Derived.Defers
import Derived.Recover
import Derived.Stop.Asserts
import Derived.Lib.SliceRun
/-
  Days gone through, the program's: what goThrough defers; its variables; the kinds copied.
-/
namespace Go.Proofs.YtdcckdfemelbiaaDoor.hou
open Go Go.RowKit sl row stk errs fold rows Go.Stop

/-- the four variables of goThrough -/
structure GT (w : World) (v : Value) (t x d : Int) (vb : Value) (tb xb db : Int) (vs ve : Value) (u : World) : Prop where
  h : HouAt u w.heap.size v t x d
  bh : HouAt u (w.heap.size + 1) vb tb xb db
  sh : u.cell? ⟨w.heap.size + 2, 0, none⟩ = some vs
  shf : u.frozen? ⟨w.heap.size + 2, 0, none⟩ = false
  er : u.cell? ⟨w.heap.size + 3, 0, none⟩ = some ve
  erf : u.frozen? ⟨w.heap.size + 3, 0, none⟩ = false
  lt : w.heap.size + 4 ≤ u.heap.size
  b : Below w.heap.size w u
section
variable {w : World} {v : Value} {t x d : Int} {vb : Value} {tb xb db : Int} {vs ve : Value} {u u' : World}
theorem GT.keep (h : GT w v t x d vb tb xb db vs ve u) (hb : Below (w.heap.size + 4) u u') : GT w v t x d vb tb xb db vs ve u' :=
  ⟨h.h.below hb (by omega), h.bh.below hb (by omega), (hb.cell (p := ⟨w.heap.size + 2, 0, none⟩) (by simp)).trans h.sh, (World.frozen?_of_block (hb.block (w.heap.size + 2) (by omega))).trans h.shf,
    (hb.cell (p := ⟨w.heap.size + 3, 0, none⟩) (by simp)).trans h.er, (World.frozen?_of_block (hb.block (w.heap.size + 3) (by omega))).trans h.erf, Nat.le_trans h.lt hb.size, h.b.trans (hb.mono (by omega))⟩
theorem GT.next (h : GT w v t x d vb tb xb db vs ve u) (hb : Below u.heap.size u u') : GT w v t x d vb tb xb db vs ve u' := h.keep (hb.mono h.lt)
theorem GT.kinds (h : GT w v t x d vb tb xb db vs ve u) (v' : Value) : GT w v t x d v' tb xb db vs ve (u.setCell ⟨w.heap.size + 1, 0, none⟩ v') :=
  ⟨h.h.set_ne (by simp) _, ⟨World.cell?_setCell_same' _ _ _ (by rw [h.bh.c0]; rfl), (World.cell?_setCell_other _ _ _ _ (by simp)).trans h.bh.c1, (World.cell?_setCell_other _ _ _ _ (by simp)).trans h.bh.c2, (World.cell?_setCell_other _ _ _ _ (by simp)).trans h.bh.c3,
    fun i => (World.frozen?_setCell _ _ _ _).trans (h.bh.fz i), by simpa [World.setCell] using h.bh.lt⟩,
    (World.cell?_setCell_other _ _ _ _ (by simp)).trans h.sh, (World.frozen?_setCell _ _ _ _).trans h.shf, (World.cell?_setCell_other _ _ _ _ (by simp)).trans h.er, (World.frozen?_setCell _ _ _ _).trans h.erf,
    by simpa [World.setCell] using h.lt, h.b.setCell (p := ⟨w.heap.size + 1, 0, none⟩) (by simp) _⟩
theorem GT.house (h : GT w v t x d vb tb xb db vs ve u) (v' : Value) (t' x' d' : Int) : GT w v t x d v' t' x' d' vs ve (u.setCells (w.heap.size + 1) 0 (houL v' t' x' d')) := by
  have hg := grownBy_cells (houL v' t' x' d') 0 (grownBy_refl u (some (w.heap.size + 1)))
  have hk : ∀ k, k ≠ w.heap.size + 1 → k < w.heap.size + 4 → (u.setCells (w.heap.size + 1) 0 (houL v' t' x' d')).heap[k]? = u.heap[k]? := fun k h1 h2 => hg.block k (by have := h.lt; omega) (by simpa using h1)
  exact ⟨h.h.same hg.size (hk _ (by omega) (by omega)), h.bh.stored, (World.cell?_of_block (a := ⟨w.heap.size + 2, 0, none⟩) (hk _ (by simp) (by simp))).trans h.sh, (World.frozen?_of_block (a := ⟨w.heap.size + 2, 0, none⟩) (hk _ (by simp) (by simp))).trans h.shf,
    (World.cell?_of_block (a := ⟨w.heap.size + 3, 0, none⟩) (hk _ (by simp) (by simp))).trans h.er, (World.frozen?_of_block (a := ⟨w.heap.size + 3, 0, none⟩) (hk _ (by simp) (by simp))).trans h.erf, Nat.le_trans h.lt hg.size, below_cells h.b (by omega) _ _⟩
theorem GT.shorts (h : GT w v t x d vb tb xb db vs ve u) (v' : Value) : GT w v t x d vb tb xb db v' ve (u.setCell ⟨w.heap.size + 2, 0, none⟩ v') :=
  ⟨h.h.set_ne (by simp) _, h.bh.set_ne (by simp) _,
    World.cell?_setCell_same' _ _ _ (by rw [h.sh]; rfl), (World.frozen?_setCell _ _ _ _).trans h.shf, (World.cell?_setCell_other _ _ _ _ (by simp)).trans h.er, (World.frozen?_setCell _ _ _ _).trans h.erf,
    by simpa [World.setCell] using h.lt, h.b.setCell (p := ⟨w.heap.size + 2, 0, none⟩) (by simp) _⟩
theorem GT.err (h : GT w v t x d vb tb xb db vs ve u) (v' : Value) : GT w v t x d vb tb xb db vs v' (u.setCell ⟨w.heap.size + 3, 0, none⟩ v') :=
  ⟨h.h.set_ne (by simp) _, h.bh.set_ne (by simp) _,
    (World.cell?_setCell_other _ _ _ _ (by simp)).trans h.sh, (World.frozen?_setCell _ _ _ _).trans h.shf, World.cell?_setCell_same' _ _ _ (by rw [h.er]; rfl), (World.frozen?_setCell _ _ _ _).trans h.erf,
    by simpa [World.setCell] using h.lt, h.b.setCell (p := ⟨w.heap.size + 3, 0, none⟩) (by simp) _⟩
theorem GT.new (w : World) (v : Value) (t x d : Int) (T1 T2 T3 T4 : TypeId) : GT w v t x d (.slice none 0 0) 0 0 0 (.slice none 0 0) .nilIface
    ((((w.alloc (.cells #[v, .int .i16 t, .int .i8 x, .int .i16 d] T1)).alloc (.cells #[.slice none 0 0, .int .i16 0, .int .i8 0, .int .i16 0] T2)).alloc (.cells #[.slice none 0 0] T3)).alloc (.cells #[.nilIface] T4)) := by
  obtain ⟨u2, hu2⟩ : ∃ u2, u2 = (w.alloc (.cells #[v, .int .i16 t, .int .i8 x, .int .i16 d] T1)).alloc (.cells #[.slice none 0 0, .int .i16 0, .int .i8 0, .int .i16 0] T2) := ⟨_, rfl⟩
  have hs : u2.heap.size = w.heap.size + 2 := by rw [hu2]; simp
  have hr : HR w v t x d u2 := by rw [hu2]; exact HR.new w v t x d T1 T2
  rw [← hu2]
  have b3 : Below u2.heap.size u2 ((u2.alloc (.cells #[.slice none 0 0] T3)).alloc (.cells #[.nilIface] T4)) := ((Below.refl _ _).alloc (Nat.le_refl _) _).alloc (by simp) _
  have h4 := hr.next b3
  obtain ⟨u3, hu3⟩ : ∃ u3, u3 = u2.alloc (.cells #[.slice none 0 0] T3) := ⟨_, rfl⟩
  have hs3 : u3.heap.size = w.heap.size + 3 := by rw [hu3]; simp [hs]
  have n3 : u3.heap[u2.heap.size]? = some (.cells #[.slice none 0 0] T3) := by rw [hu3]; exact heap_alloc_new _ _
  have n4 := heap_alloc_new u3 (.cells #[.nilIface] T4)
  have b4 : Below u3.heap.size u3 (u3.alloc (.cells #[.nilIface] T4)) := (Below.refl _ _).alloc (Nat.le_refl _) _
  have hlt : u2.heap.size < u3.heap.size := by omega
  rw [← hu3]
  rw [← hu3] at h4
  have m3 := (b4.block u2.heap.size hlt).trans n3
  rw [hs] at m3
  rw [hs3] at n4
  exact ⟨h4.h, h4.r, cell_of_row _ _ 0 _ _ _ m3, frozen_of_row _ _ _ _ _ m3, cell_of_row _ _ 0 _ _ _ n4, frozen_of_row _ _ _ _ _ n4, by simp [hs3], h4.b⟩
end
theorem OW.other {w w' : World} {base : Nat} {v : Value} {rs : List Rw} {g : Nat} (h : OW w base v rs) (hg : w.grownBy w' (some g)) (hb : g < base) : OW w' base v rs :=
  ⟨owns_other h.outer hg (fun k hk => by have := (h.outer.lt k hk).1; omega), fun r hr => owns_other (h.each r hr) hg (fun k hk => by have := ((h.each r hr).lt k hk).1; omega), h.dist⟩
/-- one more row, which lies there already -/
theorem OW.snoc2 {w w' : World} {base : Nat} {v v' : Value} {rs : List Rw} {r : Rw} (h : OW w base v rs) (hr : w.ownsRow base 2 1 r.v r.xs.length (r.xs.flatMap intS.C)) (hne : ∀ x ∈ rs, ∀ k, x.v.ownBlock = some k → r.v.ownBlock ≠ some k) (hg : w.grownBy w' v.ownBlock)
    (ho : w'.ownsRow base 22 1 v' (rs.length + 1) (rs.map Rw.v ++ [r.v])) : OW w' base v' (rs ++ [r]) := by
  have keep : ∀ x : Rw, w.ownsRow base 2 1 x.v x.xs.length (x.xs.flatMap intS.C) → w'.ownsRow base 2 1 x.v x.xs.length (x.xs.flatMap intS.C) := fun x hx => owns_but hx ⟨hg.os, hg.tape, hg.output, hg.size, fun k hk hS => hg.block k hk hS⟩ (fun g hg' e => rows_ne (Own1.of_owns hx) h.outer g hg' e.symm)
  refine ⟨by simpa using ho, fun x hx => ?_, ?_⟩
  · rcases List.mem_append.1 hx with h2 | h2
    · exact keep x (h.each x h2)
    · obtain rfl := List.mem_singleton.1 h2
      exact keep _ hr
  · rw [List.map_append, List.map_cons, List.map_nil]
    refine List.pairwise_append.2 ⟨h.dist, List.pairwise_singleton _ _, fun a ha b hb' k hk e => ?_⟩
    obtain rfl := List.mem_singleton.1 hb'
    obtain ⟨x, hx, rfl⟩ := List.mem_map.1 ha
    exact hne x hx k hk e
theorem is_imp (a : Addr) (w : World) : (Instr.typeAssert (impV (errV a)) 20 191 true).run Tryd.prog w = .ok (.tuple #[.agg #[errV a], .bool true]) w :=
  by kernel_rfl
theorem zeroImp : (Tryd.prog.info? 191).map (fun i => (i.zero, i.size)) = some (some (.agg #[.nilIface]), 1) := by kernel_rfl
set_option maxHeartbeats 1000000 in
theorem go_idle (p q r : Addr) (w : World) :
    CallsD Tryd.prog 150 #[.pointer (some p), .pointer (some q), .pointer (some r)] .returning w fun e u' w' => e = .returned (.tuple #[]) ∧ u' = .returning ∧ w' = w := by
  have hn : ∀ w : World, (binOp BinOp.eql 20 .nilIface .nilIface).run Tryd.prog w = .ok (.bool true) w := fun _ => by kernel_rfl
  refine callsD_of_wpS Tryd.func150 rfl fun c₀ cs hu => ?_
  apply wpS_seq
  apply wpS_region
  simp [wpOpsS, go_sem, recoverD, hu, Tryd.ntmps150, Exit.thenS]
  refine wpS_of_wp ?_
  go_wp2_with fail
  exact ⟨rfl, .returning, by cases c₀; simp_all, _, by simp [results, Tryd.results150], rfl, rfl, rfl⟩
set_option maxRecDepth 100000 in
set_option maxHeartbeats 4000000 in
theorem go_panics (w : World) (v : Value) (t x d : Int) (vb : Value) (tb xb db : Int) (vs ve : Value) (u : World) (a : Addr) (h : GT w v t x d vb tb xb db vs ve u) :
    CallsD Tryd.prog 150 #[.pointer (some ⟨w.heap.size + 1, 0, none⟩), .pointer (some ⟨w.heap.size + 2, 0, none⟩), .pointer (some ⟨w.heap.size + 3, 0, none⟩)] (.panicking [{ v := impV (errV a), recovered := false }]) u fun e u' w' =>
      e = .returned (.tuple #[]) ∧ u' = .panicking [{ v := impV (errV a), recovered := true }] ∧ GT w v t x d (.slice none 0 0) 0 0 0 (.slice none 0 0) (errV a) w' := by
  have h1 := is_imp a
  have hzz : ∀ u : World, (zeroValue 191).run Tryd.prog u = .ok (.agg #[.nilIface]) u := (zero_of_info zeroImp).1
  have hne : ∀ w : World, (binOp BinOp.eql 20 (impV (errV a)) .nilIface).run Tryd.prog w = .ok (.bool false) w := fun _ => by kernel_rfl
  have HG := Lib.hid h
  have c0 := h.bh.c0
  clear h
  refine callsD_of_wpS Tryd.func150 rfl fun c₀ cs hu => ?_
  apply wpS_seq
  apply wpS_region
  simp [wpOpsS, go_sem, recoverD, hu, Tryd.ntmps150, Exit.thenS]
  refine wpS_of_wp ?_
  go_wp2_with fail
  have hul : u.heap.size < (u.alloc (.cells #[errV a] 191)).heap.size := by simp
  have hb1 : Below u.heap.size u (u.alloc (.cells #[errV a] 191)).drew := ((Below.refl _ _).alloc (Nat.le_refl _) _).drew
  have q0 : (u.alloc (.cells #[errV a] 191)).drew.cell? ⟨u.heap.size, 0, none⟩ = some (errV a) := by
    show (u.alloc (.cells #[errV a] 191)).cell? ⟨u.heap.size, 0, none⟩ = some (errV a)
    simp
  have H1 := Lib.hid (HG.out.next hb1)
  refine wp_region_held_drew (S := fun v => v.cell? ⟨u.heap.size, 0, none⟩ = some (errV a)) (by kernel_rfl) q0 (fun hHeld => ?_)
  generalize (u.alloc (.cells #[errV a] 191)).drew = w1 at H1 hHeld ⊢
  clear hul hb1 q0 c0
  refine wpAnyH_take (i := 0) (v := ?_) rfl (by kernel_rfl) (by kernel_rfl) (by kernel_rfl) (fun _ _ _ h => h) (Or.inl ⟨by rfl, ?_⟩) (by assumption) ?_
  rotate_left
  · intro u hSu
    (try dsimp only at hSu)
    first | (go_simp; done) | (go_simp; with_reducible rfl)
  try simp only [Act.put, List.getElem_toArray, List.getElem_cons_zero]
  refine wpAnyH_take (i := 1) (v := ?_) rfl (by kernel_rfl) (by kernel_rfl) (by kernel_rfl) (fun _ _ _ h => h) (Or.inl ⟨by rfl, ?_⟩) (by assumption) ?_
  rotate_left
  · intro u hSu
    (try dsimp only at hSu)
    first | (go_simp; done) | (go_simp; with_reducible rfl)
  try simp only [Act.put, List.getElem_toArray, List.getElem_cons_zero, List.getElem_cons_succ]
  refine wpAnyH_take (i := 2) (v := ?_) rfl (by kernel_rfl) (by kernel_rfl) (by kernel_rfl) (fun _ _ _ h => h) (Or.inl ⟨by rfl, ?_⟩) (by assumption) ?_
  rotate_left
  · intro u hSu
    (try dsimp only at hSu)
    first | (go_simp; done) | (go_simp; with_reducible rfl)
  try simp only [Act.put, List.getElem_toArray, List.getElem_cons_zero, List.getElem_cons_succ]
  have c0 := H1.out.bh.c0
  have c1 := H1.out.bh.c1
  have c2 := H1.out.bh.c2
  have c3 := H1.out.bh.c3
  have f0 := H1.out.bh.fz 0
  have f1 := H1.out.bh.fz 1
  have f2 := H1.out.bh.fz 2
  have f3 := H1.out.bh.fz 3
  have HLT := Lib.hid HG.out.lt
  refine wpAnyH_ready (rs := [3]) (by kernel_rfl) (by simp) ?_
  refine AllReadyH.cons rfl (fun K hK => ?_) AllReadyH.nil
  go_simp
  obtain ⟨w2, hw2⟩ : ∃ u, u = w1.setCells (w.heap.size + 1) 0 (houL (.slice none 0 0) 0 0 0) := ⟨_, rfl⟩
  have H2 : Hid (GT w v t x d (.slice none 0 0) 0 0 0 vs ve w2) := Lib.hid (by rw [hw2]; exact H1.out.house _ 0 0 0)
  have S2 : Hid (w2.cell? ⟨u.heap.size, 0, none⟩ = some (errV a)) := Lib.hid (by
    rw [hw2]
    exact (World.cell?_of_block (a := ⟨u.heap.size, 0, none⟩) ((grownBy_cells (houL (.slice none 0 0) 0 0 0) 0 (grownBy_refl w1 (some (w.heap.size + 1)))).block u.heap.size (World.block_lt_of_cell? w1 _ hHeld) (by have := HLT.out; simp; omega))).trans hHeld)
  show K _ (w1.setCells (w.heap.size + 1) 0 (houL (.slice none 0 0) 0 0 0))
  rw [← hw2]
  clear hw2 c0 c1 c2 c3 f0 f1 f2 f3
  refine hK.out _ _ (S2.out) (fun hHeld2 => ?_)
  clear hK K hHeld
  have hHeld := hHeld2
  clear hHeld2
  try simp only [Act.put, List.getElem_toArray, List.getElem_cons_zero, List.getElem_cons_succ, List.setIfInBounds_toArray, List.set_cons_zero, List.set_cons_succ]
  have g0 := H2.out.sh
  have g1 := H2.out.shf
  refine wpAnyH_ready (rs := [4]) (by kernel_rfl) (by simp) ?_
  refine AllReadyH.cons rfl (fun K hK => ?_) AllReadyH.nil
  go_simp
  have S3 : Hid ((w2.setCell ⟨w.heap.size + 2, 0, none⟩ (.slice none 0 0)).cell? ⟨u.heap.size, 0, none⟩ = some (errV a)) := Lib.hid ((World.cell?_setCell_other _ _ _ _ (by have := HLT.out; first | (simp; done) | (simp; omega))).trans S2.out)
  have H3 := Lib.hid (H2.out.shorts (.slice none 0 0))
  generalize w2.setCell ⟨w.heap.size + 2, 0, none⟩ (.slice none 0 0) = w3 at S3 H3 ⊢
  clear g0 g1
  refine hK.out _ _ (S3.out) (fun hHeld2 => ?_)
  clear hK K hHeld
  have hHeld := hHeld2
  clear hHeld2
  try simp only [Act.put, List.getElem_toArray, List.getElem_cons_zero, List.getElem_cons_succ, List.setIfInBounds_toArray, List.set_cons_zero, List.set_cons_succ]
  have g0 := H3.out.er
  have g1 := H3.out.erf
  refine wpAnyH_ready (rs := [5]) (by kernel_rfl) (by simp) ?_
  refine AllReadyH.cons rfl (fun K hK => ?_) AllReadyH.nil
  go_simp
  have S4 : Hid ((w3.setCell ⟨w.heap.size + 3, 0, none⟩ (errV a)).cell? ⟨u.heap.size, 0, none⟩ = some (errV a)) := Lib.hid ((World.cell?_setCell_other _ _ _ _ (by have := HLT.out; first | (simp; done) | (simp; omega))).trans S3.out)
  have H4 := Lib.hid (H3.out.err (errV a))
  refine hK.out _ _ (S4.out) (fun hHeld2 => ?_)
  clear hK K hHeld
  have hHeld := hHeld2
  clear hHeld2
  try simp only [Act.put, List.getElem_toArray, List.getElem_cons_zero, List.getElem_cons_succ, List.setIfInBounds_toArray, List.set_cons_zero, List.set_cons_succ]
  refine wpAnyH_done (by kernel_rfl) ?_ _
  go_wp2_with fail
  exact ⟨rfl, _, rfl, _, by simp [results, Tryd.results150], rfl, rfl, H4.out⟩
set_option maxRecDepth 100000 in
set_option maxHeartbeats 4000000 in
theorem CloneK_any (a : Addr) (n c : Nat) (xs : List Stk) (en : n = xs.length) (hn : n ≤ 1048576) (w : World) (hg : Sl stkC 25 w w.heap.size (some a) xs) :
    Calls Tryd.prog 151 #[.slice (some a) n c] w fun o w' => ∃ v, o = .returned v ∧ KO w' w.heap.size v xs ∧ Below w.heap.size w w' := by
  obtain ⟨i0, hi, hz0, hz1, hz2⟩ := info_parts infoSs
  have hown := World.ownsRow_made (e := 179) (size := 25) w #[] 0 (Nat.le_refl _) (Nat.zero_le _) rfl
  have hcells := sl_cells (hg.below ((Below.refl w.heap.size w).alloc (Nat.le_refl _) (.cells #[] 179)))
  have hfl : (xs.flatMap stkC).length = n * 25 := by rw [flat_len (stkC_len _), en]
  have q0 := fun u => Lib.run_eql_slice_nil (P := Tryd.prog) u 56 179 (some a) n c 0 0 Tryd.underlying56
  have En := Lib.hid en
  clear en hg
  go_enter Tryd.func151, Tryd.ntmps151
  go_wp2_with (first | (at_builtin; refine wpList_append_own _ rfl (.tmp 5) (.tmp 6) 56 rfl w.heap.size 179 i0 (.agg (stkCs zeroS)) 25 52 Tryd.underlying56 hi hz0 hz1 hz2 (stkCs_size _) (by decide) _ 0 [] rfl hown a n c (xs.flatMap stkC) rfl hfl hcells (fun u hu => by obtain ⟨q, _, hq⟩ := List.mem_flatMap.1 hu; exact stkC_one q u hq) (by unfold maxLen; omega) (by omega) (by simp) ?_; intro v3 w3 hP3 hgr _; have B3 := Lib.hid (Below.grown ((Below.refl w.heap.size w).alloc (Nat.le_refl _) (.cells #[] 179)) hgr (by simp) (fun g hg => by obtain rfl := Option.some.inj hg; exact Nat.le_refl _)); have HP3 := Lib.hid hP3; clear hP3 hgr) | fail)
  go_ret
  refine ⟨_, rfl, ⟨?_⟩, B3.out⟩
  have := HP3.out
  rw [Nat.zero_add, List.nil_append, En.out] at this
  exact this
end Go.Proofs.YtdcckdfemelbiaaDoor.hou

/-
  Days gone through, the program's: goThrough.
-/
namespace Go.Proofs.YtdcckdfemelbiaaDoor.hou
open Go Go.RowKit sl row stk errs fold rows Go.Stop

/-- the code of days gone through -/
def codeG (xs : List Stk) (t x d : Int) (L : List (List Int)) : Nat := if codeO xs t x d = 0 then (if 60 < L.length then 3 else codS t x L (xs, d)) else 1
theorem codeO_nums {xs : List Stk} {t e d : Int} (h : codeO xs t e d = 0) : ((1 ≤ xs.length ∧ xs.length ≤ 4) ∧ (0 ≤ t ∧ t ≤ 1000) ∧ (1 ≤ e ∧ e ≤ 7) ∧ 0 ≤ d ∧ d ≤ 60) ∧ ∀ f ∈ xs, stk.Good f := by
  have hq : houOk xs t e d = true := by
    unfold codeO at h
    by_cases a : houOk xs t e d = true
    · exact a
    · rw [if_neg a] at h; cases h
  unfold houOk at hq
  rw [Bool.and_eq_true] at hq
  exact ⟨numsOk_iff.1 hq.1, fun f hf => valid_good.1 (List.all_eq_true.1 hq.2 f hf)⟩
/-- what goThrough returns -/
def GoR (w : World) (e : Nat → Addr) (xs : List Stk) (t x d : Int) (L : List (List Int)) (o : Ending) (w' : World) : Prop :=
  (∃ i, codeG xs t x d L = i + 1 ∧ o = .returned (.tuple #[houV (.slice none 0 0) 0 0 0, .slice none 0 0, errV (e i)]) ∧ Below w.heap.size w w') ∨
  (codeG xs t x d L = 0 ∧ ∃ v vs rs', o = .returned (.tuple #[houV v t x (finS t x L (xs, d)).2, vs, .nilIface]) ∧ KO w' w.heap.size v (finS t x L (xs, d)).1 ∧ nums rs' = shsS t x L (xs, d) ∧ OW w' w.heap.size vs rs' ∧ Below w.heap.size w w')
theorem fin_step {t x : Int} {L : List (List Int)} {i : Nat} {ns : List Int} (h : L[i]? = some ns) (s : List Stk × Int) : finS t x (L.drop i) s = finS t x (L.drop (i + 1)) (dayS t x s ns) ∧ shsS t x (L.drop i) s = useX s.1 ns :: shsS t x (L.drop (i + 1)) (dayS t x s ns) ∧ codS t x (L.drop i) s = (if codeY s ns = 0 then codS t x (L.drop (i + 1)) (dayS t x s ns) else codeY s ns) := by
  obtain ⟨hi, rfl⟩ := List.getElem?_eq_some_iff.1 h
  rw [List.drop_eq_getElem_cons hi]
  exact ⟨rfl, rfl, rfl⟩
theorem results_go {fn : Func} {p q r : Nat} (hf : fn.results = #[.cell p 58, .cell q 27, .cell r 80]) {tmps : Array Value} {w u : World} {v : Value} {t x d : Int} {vb : Value} {tb xb db : Int} {A : Option Addr} {n c : Nat} {ve : Value}
    (hp : tmps.getD p undef = .pointer (some ⟨w.heap.size + 1, 0, none⟩)) (hq : tmps.getD q undef = .pointer (some ⟨w.heap.size + 2, 0, none⟩)) (hr : tmps.getD r undef = .pointer (some ⟨w.heap.size + 3, 0, none⟩)) (h : GT w v t x d vb tb xb db (.slice A n c) ve u) :
    (results fn tmps).run Tryd.prog u = .ok (.tuple #[houV vb tb xb db, .slice A n c, ve]) u := by
  have h1 := run_loadVar_mid (P := Tryd.prog) u (w.heap.size + 1) 0 58 (houL vb tb xb db) _ h.bh.range Tryd.underlying58 rfl (by kernel_rfl)
  have h2 := h.sh
  have h3 := h.er
  have l2 : (loadVar 27 ⟨w.heap.size + 2, 0, none⟩).run Tryd.prog u = .ok (.slice A n c) u := by simp [go_sem, h2]
  have l3 : (loadVar 80 ⟨w.heap.size + 3, 0, none⟩).run Tryd.prog u = .ok ve u := by simp [go_sem, h3]
  have hp' : tmps[p]?.getD undef = .pointer (some ⟨w.heap.size + 1, 0, none⟩) := by rw [← hp]; simp
  have hq' : tmps[q]?.getD undef = .pointer (some ⟨w.heap.size + 2, 0, none⟩) := by rw [← hq]; simp
  have hr' : tmps[r]?.getD undef = .pointer (some ⟨w.heap.size + 3, 0, none⟩) := by rw [← hr]; simp
  show _ = Result.ok (Value.tuple #[.agg (houL vb tb xb db).toArray, .slice A n c, ve]) u
  generalize Value.agg (houL vb tb xb db).toArray = dv at h1 ⊢
  simp [results, hf, hp', hq', hr', Sem.run_bind, h1, l2, l3, asAddr]
set_option maxRecDepth 100000 in
set_option maxHeartbeats 8000000 in
theorem goThrough_any (A : Option Addr) (n c : Nat) (xs : List Stk) (t x d : Int) (en : n = xs.length) (hn : n ≤ 1048576) (hcap : n ≤ c) (hcm : c ≤ maxLen) (hf : ∀ x ∈ xs, Fits x) (ht : -32768 ≤ t ∧ t ≤ 32767) (hx : -128 ≤ x ∧ x ≤ 127) (hd : -32768 ≤ d ∧ d ≤ 32767)
    (A' : Option Addr) (m c' : Nat) (rs : List Rw) (em : m = rs.length) (hm : m ≤ 9223372036854775807) {w : World} {B : Nat} {e : Nat → Addr} (h : Errs w B e) (hB : B ≤ w.heap.size) (hg : Sl stkC 25 w w.heap.size A xs) (hg' : SS w w.heap.size A' rs) :
    Calls Tryd.prog 106 #[houV (.slice A n c) t x d, .slice A' m c'] w (GoR w e xs t x d (nums rs)) := by
  obtain ⟨i0, hi, hz0, hz1, hz2⟩ := info_parts infoR
  obtain ⟨u0, hu0⟩ : ∃ u0, u0 = ((((w.alloc (.cells #[.slice A n c, .int .i16 t, .int .i8 x, .int .i16 d] 58)).alloc (.cells #[.slice none 0 0, .int .i16 0, .int .i8 0, .int .i16 0] 58)).alloc (.cells #[.slice none 0 0] 27)).alloc (.cells #[.nilIface] 80)) := ⟨_, rfl⟩
  have H0 : Hid (GT w (.slice A n c) t x d (.slice none 0 0) 0 0 0 (.slice none 0 0) .nilIface u0) := Lib.hid (by rw [hu0]; exact GT.new w _ t x d _ _ _ _)
  have HU0 := Lib.hid hu0
  have HE : Hid (∀ u, Below w.heap.size w u → Errs u B e ∧ B ≤ u.heap.size ∧ Sl stkC 25 u u.heap.size A xs ∧ SS u u.heap.size A' rs) := Lib.hid fun u hu => ⟨h.below (hu.mono hB), Nat.le_trans hB hu.size, (hg.below hu).more hu.size, (hg'.below hu).more hu.size⟩
  obtain ⟨k1, hk1⟩ : ∃ q, q = codeO xs t x d := ⟨_, rfl⟩
  obtain ⟨k2, hk2⟩ : ∃ q, q = if 60 < m then 3 else 0 := ⟨_, rfl⟩
  obtain ⟨k, hk⟩ : ∃ q, q = firstCode [k1, k2] := ⟨_, rfl⟩
  have hlm : (nums rs).length = m := by simp [nums, em]
  have hkg : (∃ i, k = i + 1 ∧ codeG xs t x d (nums rs) = i + 1) ∨ (k = 0 ∧ codeO xs t x d = 0 ∧ m ≤ 60 ∧ codeG xs t x d (nums rs) = codS t x (nums rs) (xs, d)) := by
    rw [hk, hk1, hk2]
    unfold codeG
    rw [hlm]
    rcases codeO_or xs t x d with h0 | h0
    · rw [h0]
      by_cases h6 : 60 < m
      · rw [if_pos h6, if_pos rfl, if_pos h6]; exact .inl ⟨2, rfl, rfl⟩
      · rw [if_neg h6, if_pos rfl, if_neg h6]; exact .inr ⟨rfl, rfl, by omega, rfl⟩
    · rw [h0]
      by_cases h6 : 60 < m
      · rw [if_pos h6]; exact .inl ⟨0, rfl, rfl⟩
      · rw [if_neg h6]; exact .inl ⟨0, rfl, rfl⟩
  have HF := Lib.hid hk.symm
  have HKG := Lib.hid hkg
  have HK1 := Lib.hid hk1
  have HK2 := Lib.hid hk2
  have En := Lib.hid en
  have Em := Lib.hid em
  have HM := Lib.hid hm
  have HN := Lib.hid hn
  have HFT := Lib.hid hf
  have HCP := Lib.hid (And.intro hcap hcm)
  have HT := Lib.hid ht
  have HX := Lib.hid hx
  have HD := Lib.hid hd
  have HLM := Lib.hid hlm
  have c0 := H0.out.h.c0
  have c1 := H0.out.h.c1
  have c2 := H0.out.h.c2
  have c3 := H0.out.h.c3
  clear hu0 hk1 hk2 hk hkg en em hm hn hf hg hg' h hcap hcm ht hx hd hlm
  go_enter_defers Tryd.func106, Tryd.ntmps106
  go_wp2_with (first | (rw [← HU0.out]) | fail)
  refine (checkHouse_any A n c xs t x d En.out HN.out HFT.out HT.out HX.out HD.out (HE.out _ H0.out.b).1 (HE.out _ H0.out.b).2.1 (HE.out _ H0.out.b).2.2.1 k1 HK1.out).mono ?_
  rintro o w1 ⟨rfl, hb⟩
  have H1 := Lib.hid (H0.out.next hb)
  clear hb c0 c1 c2 c3 H0 HU0
  go_wp2_with fail
  refine (checkDayCount_any A' m c' HM.out (HE.out _ H1.out.b).1 k2 HK2.out).mono ?_
  rintro o w2 ⟨rfl, hw⟩
  obtain rfl := hw.symm
  clear hw
  go_wp2_with (refine wpList_listed rfl 156 2 _ rfl #[(0, errOf e k1), (1, errOf e k2)] ?hp (buildSlice2 e k1 k2 _) ?_; case hp => simp [Act.eval])
  have HCE := Lib.hid (cells_errs e [k1, k2] w1 80 #[errOf e k1, errOf e k2] rfl)
  have H2 := Lib.hid (H1.out.next ((Below.refl _ _).alloc (Nat.le_refl _) (.cells #[errOf e k1, errOf e k2] 80)))
  refine (firstOf_any e [k1, k2] _ 2 2 rfl (by decide) _ HCE.out).mono ?_
  rintro o u ⟨rfl, hw⟩
  obtain rfl := hw.symm
  clear hw
  rw [HF.out]
  generalize w1.alloc (.cells #[errOf e k1, errOf e k2] 80) = w2 at H2 HCE ⊢
  clear HCE H1
  obtain ⟨w3, hw3⟩ : ∃ u, u = w2.setCell ⟨w.heap.size + 3, 0, none⟩ (errOf e k) := ⟨_, rfl⟩
  have H3 : Hid (GT w (.slice A n c) t x d (.slice none 0 0) 0 0 0 (.slice none 0 0) (errOf e k) w3) := Lib.hid (by rw [hw3]; exact H2.out.err _)
  have HW3 := Lib.hid hw3
  have r0 := H2.out.er
  have r1 := H2.out.erf
  have d0 := H3.out.er
  clear hw3
  rcases HKG.out with ⟨i, hki, hcg⟩ | ⟨hk0, hco, hm60, hcg⟩
  · obtain rfl := hki
    rw [show errOf e (i + 1) = errV (e i) from rfl] at HW3 H3 d0 ⊢
    go_wp2_with (first | (rw [← HW3.out]) | fail)
    clear r0 r1 HW3 H2
    have q0 : w3.drew.cell? ⟨w.heap.size + 3, 0, none⟩ = some (errV (e i)) := d0
    have H4 := Lib.hid (H3.out.next (Below.refl _ _).drew)
    refine wp_region_noPanic ?_
    refine wp_region_held_drew (S := fun v => v.cell? ⟨w.heap.size + 3, 0, none⟩ = some (errV (e i))) (by kernel_rfl) q0 (fun hHeld => ?_)
    generalize w3.drew = w4 at H4 hHeld ⊢
    clear q0 d0
    refine wpAnyH_take (i := 0) (v := ?_) rfl (by kernel_rfl) (by kernel_rfl) (by kernel_rfl) (fun _ _ _ h => h) (Or.inl ⟨by rfl, ?_⟩) (by assumption) ?_
    rotate_left
    · intro u hSu
      (try dsimp only at hSu)
      first | (go_simp; done) | (go_simp; with_reducible rfl)
    try simp only [Act.put, List.getElem_toArray, List.getElem_cons_zero, List.setIfInBounds_toArray, List.set_cons_zero, List.set_cons_succ]
    refine wpAnyH_take (i := 1) (v := ?_) rfl (by kernel_rfl) (by kernel_rfl) (by kernel_rfl) (fun _ _ _ h => h) (Or.inl ⟨by rfl, ?_⟩) (by assumption) ?_
    rotate_left
    · intro u hSu
      (try dsimp only at hSu)
      first | (go_simp; done) | (go_simp; with_reducible rfl)
    try simp only [Act.put, List.getElem_toArray, List.getElem_cons_zero, List.getElem_cons_succ, List.setIfInBounds_toArray, List.set_cons_zero, List.set_cons_succ]
    have c0 := H4.out.bh.c0
    have c1 := H4.out.bh.c1
    have c2 := H4.out.bh.c2
    have c3 := H4.out.bh.c3
    have f0 := H4.out.bh.fz 0
    have f1 := H4.out.bh.fz 1
    have f2 := H4.out.bh.fz 2
    have f3 := H4.out.bh.fz 3
    refine wpAnyH_ready (rs := [2]) (by kernel_rfl) (by simp) ?_
    refine AllReadyH.cons rfl (fun K hK => ?_) AllReadyH.nil
    go_simp
    obtain ⟨w5, hw5⟩ : ∃ u, u = w4.setCells (w.heap.size + 1) 0 (houL (.slice none 0 0) 0 0 0) := ⟨_, rfl⟩
    have H5 : Hid (GT w (.slice A n c) t x d (.slice none 0 0) 0 0 0 (.slice none 0 0) (errV (e i)) w5) := Lib.hid (by rw [hw5]; exact H4.out.house _ 0 0 0)
    show K _ (w4.setCells (w.heap.size + 1) 0 (houL (.slice none 0 0) 0 0 0))
    rw [← hw5]
    clear hw5 c0 c1 c2 c3 f0 f1 f2 f3
    refine hK.out _ _ (H5.out.er) (fun hHeld2 => ?_)
    clear hK K hHeld
    have hHeld := hHeld2
    clear hHeld2
    try simp only [Act.put, List.getElem_toArray, List.getElem_cons_zero, List.getElem_cons_succ, List.setIfInBounds_toArray, List.set_cons_zero, List.set_cons_succ]
    have g0 := H5.out.sh
    have g1 := H5.out.shf
    refine wpAnyH_ready (rs := [3]) (by kernel_rfl) (by simp) ?_
    refine AllReadyH.cons rfl (fun K hK => ?_) AllReadyH.nil
    go_simp
    have H6 := Lib.hid (H5.out.shorts (.slice none 0 0))
    generalize w5.setCell ⟨w.heap.size + 2, 0, none⟩ (.slice none 0 0) = w6 at H6 ⊢
    clear g0 g1
    refine hK.out _ _ (H6.out.er) (fun hHeld2 => ?_)
    clear hK K hHeld
    have hHeld := hHeld2
    clear hHeld2
    try simp only [Act.put, List.getElem_toArray, List.getElem_cons_zero, List.getElem_cons_succ, List.setIfInBounds_toArray, List.set_cons_zero, List.set_cons_succ]
    have g0 := H6.out.er
    have g1 := H6.out.erf
    refine wpAnyH_ready (rs := [4]) (by kernel_rfl) (by simp) ?_
    refine AllReadyH.cons rfl (fun K hK => ?_) AllReadyH.nil
    go_simp
    have H7 := Lib.hid (H6.out.err (errV (e i)))
    refine hK.out _ _ (H7.out.er) (fun hHeld2 => ?_)
    clear hK K hHeld
    have hHeld := hHeld2
    clear hHeld2
    try simp only [Act.put, List.getElem_toArray, List.getElem_cons_zero, List.getElem_cons_succ, List.setIfInBounds_toArray, List.set_cons_zero, List.set_cons_succ]
    refine wpAnyH_done (by kernel_rfl) (NoPanic.normal ?_) _
    clear g0 g1 hHeld
    generalize w6.setCell ⟨w.heap.size + 3, 0, none⟩ (errV (e i)) = w7 at H7 ⊢
    go_wp2_with fail
    exact ⟨_, results_go Tryd.results106 rfl rfl rfl H7.out, .inl ⟨i, hcg, rfl, H7.out.b⟩⟩
  · subst hk0
    rw [show errOf e 0 = .nilIface from rfl] at HW3 H3 d0 ⊢
    obtain ⟨⟨hn14, ht1, hx1, hd1⟩, hgd⟩ := codeO_nums hco
    rw [← En.out] at hn14
    have HN4 := Lib.hid hn14
    have HT1 := Lib.hid ht1
    have HX1 := Lib.hid hx1
    have HD1 := Lib.hid hd1
    have HGD := Lib.hid hgd
    have HCG := Lib.hid hcg
    obtain ⟨a, rfl⟩ : ∃ a, A = some a := by
      obtain ⟨a, h, _⟩ := (HE.out _ H3.out.b).2.2.1.at_ 0 (xs[0]'(by have := En.out; omega)) (List.getElem?_eq_getElem _)
      exact ⟨a, h⟩
    have c0 := H3.out.h.c0
    have c1 := H3.out.h.c1
    have c2 := H3.out.h.c2
    have c3 := H3.out.h.c3
    have b0 := H3.out.bh.c0
    have b1 := H3.out.bh.c1
    have b2 := H3.out.bh.c2
    have b3 := H3.out.bh.c3
    have f0 := H3.out.bh.fz 0
    have f1 := H3.out.bh.fz 1
    have f2 := H3.out.bh.fz 2
    have f3 := H3.out.bh.fz 3
    obtain ⟨w4, hw4⟩ : ∃ u, u = ((((w3.setCell ⟨w.heap.size + 1, 0, none⟩ (.slice (some a) n c)).setCell ⟨w.heap.size + 1, 1, none⟩ (.int .i16 t)).setCell ⟨w.heap.size + 1, 2, none⟩ (.int .i8 x)).setCell ⟨w.heap.size + 1, 3, none⟩ (.int .i16 d)) := ⟨_, rfl⟩
    have H4 : Hid (GT w (.slice (some a) n c) t x d (.slice (some a) n c) t x d (.slice none 0 0) .nilIface w4) := Lib.hid (by rw [hw4]; exact H3.out.house _ t x d)
    have HW4 := Lib.hid hw4
    have e0 := H4.out.h.c0
    clear hw4 hn14 ht1 hx1 hd1 hgd hcg hco HKG
    go_wp2_with (first | (rw [← HW3.out]) | (rw [← HW4.out]) | fail)
    refine (CloneK_any a n c xs En.out HN.out _ (HE.out _ H4.out.b).2.2.1).mono ?_
    rintro o w5 ⟨v5, rfl, hK, hb⟩
    have H5 := Lib.hid (H4.out.next hb)
    obtain ⟨A5, c5, rfl, _⟩ := owns_slice hK.o
    obtain ⟨v5, hv5⟩ : ∃ v, v = Value.slice A5 xs.length c5 := ⟨_, rfl⟩
    rw [← hv5] at hK
    have HV5 := Lib.hid hv5
    have HK5 := Lib.hid hK
    have HLT4 := Lib.hid H4.out.lt
    clear r0 r1 d0 c0 c1 c2 c3 b0 b1 b2 b3 f0 f1 f2 f3 e0 hK hb H2 H3 HW3 HW4
    have b0 := H5.out.bh.c0
    have f0 := H5.out.bh.fz 0
    obtain ⟨w6, hw6⟩ : ∃ u, u = w5.setCell ⟨w.heap.size + 1, 0, none⟩ (.slice A5 xs.length c5) := ⟨_, rfl⟩
    have hg6 : w5.grownBy w6 (some (w.heap.size + 1)) := by rw [hw6]; exact grownBy_set (p := ⟨w.heap.size + 1, 0, none⟩) (grownBy_refl _ _) rfl _
    have H6 : Hid (GT w (.slice (some a) n c) t x d v5 t x d (.slice none 0 0) .nilIface w6) := Lib.hid (by rw [hw6, hv5]; exact H5.out.kinds _)
    have K6 : Hid (KO w6 (w.heap.size + 4) v5 xs) := Lib.hid ⟨owns_other (owns_below HK5.out.o HLT4.out) hg6 (fun k hk => by have := (HK5.out.o.lt k hk).1; have := HLT4.out; omega)⟩
    have HW6 := Lib.hid hw6
    clear hw6 hg6 hv5 H4
    obtain ⟨L, hL⟩ : ∃ L, L = nums rs := ⟨_, rfl⟩
    rw [← hL] at HCG HLM
    have HL := Lib.hid hL
    obtain ⟨FIN, hFIN⟩ : ∃ q, q = finS t x L (xs, d) := ⟨_, rfl⟩
    obtain ⟨SHS, hSHS⟩ : ∃ q, q = shsS t x L (xs, d) := ⟨_, rfl⟩
    obtain ⟨COD, hCOD⟩ : ∃ q, q = codS t x L (xs, d) := ⟨_, rfl⟩
    have HFIN := Lib.hid (And.intro hFIN (And.intro hSHS hCOD))
    have hE0 : w6.ownsRow (w.heap.size + 4) 22 1 (.slice none 0 0) 0 [] := World.ownsRow_nil _ _ _ _
    have HE0 := Lib.hid hE0
    clear hL hFIN hSHS hCOD hE0
    go_wp2_with (first | (rw [← HW6.out]) | fail)
    go_loopw [8, 9, 28] (fun _ _ vi wr => ∃ (i : Nat) (ks : List Stk) (di : Int) (vb vs : Value) (rs' : List Rw), i ≤ m ∧ vi = .int .i64 (i : Nat) ∧ GT w (.slice (some a) n c) t x d vb t x di vs .nilIface wr ∧ KO wr (w.heap.size + 4) vb ks ∧ OW wr (w.heap.size + 4) vs rs' ∧
      finS t x (L.drop i) (ks, di) = FIN ∧ nums rs' ++ shsS t x (L.drop i) (ks, di) = SHS ∧ codS t x (L.drop i) (ks, di) = COD ∧ ks.length = n ∧ (∀ f ∈ ks, stk.Good f) ∧ (0 ≤ di ∧ di ≤ 60) ∧ rs'.length = i) (fun _ _ vi _ => m - (intOf vi).toNat)
    case atStart => exact ⟨0, xs, d, v5, .slice none 0 0, [], by omega, rfl, H6.out, K6.out, ⟨HE0.out, (fun r hr => by cases hr), List.Pairwise.nil⟩, by rw [List.drop_zero]; exact HFIN.out.1.symm, by rw [List.drop_zero]; exact HFIN.out.2.1.symm, by rw [List.drop_zero]; exact HFIN.out.2.2.symm, En.out.symm, HGD.out, HD1.out, rfl⟩
    case round =>
      clear H6 K6 HE0 HW6 H5 HK5 HV5 b0 f0
      obtain ⟨i, ks, di, vb, vs, rs', hi', rfl, hG, hK, hO, hfin, hshs, hcod, hkl, hkg, hdi, hrl⟩ := hrel
      have HG := Lib.hid hG
      have HK := Lib.hid hK
      have HO := Lib.hid hO
      have HRF := Lib.hid (And.intro hfin (And.intro hshs hcod))
      have HKL := Lib.hid (And.intro hkl hkg)
      have HDI := Lib.hid hdi
      have HRL := Lib.hid hrl
      clear hG hK hO hfin hshs hcod hkl hkg hdi hrl
      obtain ⟨Ab, cb, hvb, r1, r2, hS⟩ := HK.out.room (by rw [HKL.out.1]; exact HN4.out.1)
      rw [HKL.out.1] at hvb r1
      subst hvb
      have HRM := Lib.hid (And.intro r1 r2)
      obtain ⟨As, cs, rfl, _⟩ := owns_slice HO.out.outer
      have HSB := Lib.hid hS
      clear r1 r2 hS
      have b0 := HG.out.bh.c0
      have b1 := HG.out.bh.c1
      have b2 := HG.out.bh.c2
      have b3 := HG.out.bh.c3
      by_cases hlt : i < m
      · obtain ⟨r, hr⟩ : ∃ r, rs[i]? = some r := ⟨rs[i]'(by have := Em.out; omega), List.getElem?_eq_getElem _⟩
        obtain ⟨ar, rfl, hab, q0⟩ := (HE.out _ HG.out.b).2.2.2.head hr
        have hrl := (HE.out _ HG.out.b).2.2.2.short r (List.mem_of_getElem? hr)
        have HRI := Lib.hid ((HE.out _ HG.out.b).2.2.2.each r (List.mem_of_getElem? hr))
        have hLi : L[i]? = some r.xs := by rw [HL.out]; simp [nums, hr]
        have hst := fin_step (t := t) (x := x) hLi (ks, di)
        have HST := Lib.hid hst
        have HR := Lib.hid hr
        obtain ⟨rA, rc, ns⟩ := r
        simp only [] at q0 HRI hrl HST
        obtain ⟨lr, hlr⟩ : ∃ l, l = ns.length := ⟨_, rfl⟩
        rw [← hlr] at q0 hrl
        have HLR := Lib.hid hlr
        have hrl2 : lr ≤ 9223372036854775807 := by unfold maxLen at hrl; omega
        obtain ⟨k, hk⟩ : ∃ k, k = codeY (ks, di) ns := ⟨_, rfl⟩
        have HKY := Lib.hid hk
        clear hr hLi hst hlr hk hrl
        go_wp2_with fail
        refine (nextDay_any Ab n cb ks t x di HKL.out.1.symm HN4.out.1 HN4.out.2 HRM.out.1 HRM.out.2 HKL.out.2 HT1.out HX1.out HDI.out rA lr rc ns HLR.out hrl2 (HE.out _ HG.out.b).1 (HE.out _ HG.out.b).2.1 HSB.out HRI.out k HKY.out).mono ?_
        rintro o w7 (⟨j, hkj, rfl, hb⟩ | ⟨hk0, v7, A7, c7, rfl, hK7, hP7, hb⟩)
        · have HG7 := Lib.hid (HG.out.next hb)
          refine leaves_cons (f := 150) (args := #[.pointer (some ⟨w.heap.size + 1, 0, none⟩), .pointer (some ⟨w.heap.size + 2, 0, none⟩), .pointer (some ⟨w.heap.size + 3, 0, none⟩)]) (by simp) (by simp [go_sem]) ?_
          refine (go_panics w _ t x d _ t x di _ _ _ (e j) HG7.out).mono ?_
          rintro o u' w'' ⟨rfl, rfl, hG⟩
          have hc : COD = j + 1 := by
            have h1 := HRF.out.2.2
            rw [HST.out.2.2, if_neg (by rw [← HKY.out, hkj]; omega), ← HKY.out, hkj] at h1
            exact h1.symm
          exact ⟨_, results_go Tryd.results106 rfl rfl rfl hG, .inl ⟨j, by rw [← HL.out, HCG.out, ← HFIN.out.2.2]; exact hc, rfl, hG.b⟩⟩
        · subst hk0
          obtain ⟨A8, c8, rfl, _⟩ := owns_slice hK7.o
          obtain ⟨hl0, hpc, hd60⟩ := codeY_zero HKY.out.symm
          have hdl : (dayS t x (ks, di) ns).1.length = n := by rw [dayS_len hl0]; exact HKL.out.1
          have hdg := dayS_good (t := t) (x := x) (s := (ks, di)) HKL.out.2 hpc HT1.out.1
          have hxl : (useX ks ns).length = n := by rw [useX_len hl0]; exact HKL.out.1
          have HDY := Lib.hid (And.intro hdl (And.intro hdg hxl))
          have HD60 : Hid (di ≠ 60) := Lib.hid hd60
          rw [hdl]
          rw [hdl] at hK7
          have H7 := Lib.hid (HG.out.next hb)
          have HK7 := Lib.hid hK7
          have HP7 := Lib.hid hP7
          have HO7 := Lib.hid (HO.out.next hb)
          have HLW := Lib.hid HG.out.lt
          have HVL : Hid (∀ k, (Value.slice As rs'.length cs).ownBlock = some k → k < wr.heap.size) := Lib.hid fun k hk => (HO.out.outer.lt k hk).2
          have HRL1 : Hid (∀ x ∈ rs', ∀ k, x.v.ownBlock = some k → k < wr.heap.size) := Lib.hid fun x hx k hk => ((HO.out.each x hx).lt k hk).2
          clear hK7 hP7 hdl hdg hxl hl0 hpc hd60 hb b0 b1 b2 b3
          have d0 := H7.out.bh.c0
          have d1 := H7.out.bh.c1
          have d2 := H7.out.bh.c2
          have d3 := H7.out.bh.c3
          have p0 := H7.out.bh.fz 0
          have p1 := H7.out.bh.fz 1
          have p2 := H7.out.bh.fz 2
          have p3 := H7.out.bh.fz 3
          obtain ⟨w8, hw8⟩ : ∃ u, u = ((((w7.setCell ⟨w.heap.size + 1, 0, none⟩ (.slice A8 n c8)).setCell ⟨w.heap.size + 1, 1, none⟩ (.int .i16 t)).setCell ⟨w.heap.size + 1, 2, none⟩ (.int .i8 x)).setCell ⟨w.heap.size + 1, 3, none⟩ (.int .i16 (di + 1))) := ⟨_, rfl⟩
          have hg8 : w7.grownBy w8 (some (w.heap.size + 1)) := by rw [hw8]; exact grownBy_cells (houL (.slice A8 n c8) t x (di + 1)) 0 (grownBy_refl w7 (some (w.heap.size + 1)))
          have H8 : Hid (GT w (.slice (some a) n c) t x d (.slice A8 n c8) t x (di + 1) (.slice As rs'.length cs) .nilIface w8) := Lib.hid (by rw [hw8]; exact H7.out.house _ t x (di + 1))
          have HK8 : Hid (KO w8 wr.heap.size (.slice A8 n c8) (dayS t x (ks, di) ns).1) := Lib.hid ⟨owns_other HK7.out.o hg8 (fun k hk => by have := (HK7.out.o.lt k hk).1; have := HLW.out; omega)⟩
          have HP8 := Lib.hid (owns_other HP7.out hg8 (fun k hk => by have := (HP7.out.lt k hk).1; have := HLW.out; omega))
          have HO8 := Lib.hid (OW.other HO7.out hg8 (by omega))
          have HW8 := Lib.hid hw8
          have s0 := H8.out.sh
          have HLT8 := Lib.hid H8.out.lt
          obtain ⟨w9, hw9⟩ : ∃ u, u = w8.alloc (.cells #[.slice A7 n c7] 22) := ⟨_, rfl⟩
          have hb9 : Below w8.heap.size w8 w9 := by rw [hw9]; exact (Below.refl _ _).alloc (Nat.le_refl _) _
          have HB9 := Lib.hid hb9
          have HO9 := Lib.hid (HO8.out.next hb9)
          have HP9 := Lib.hid (owns_next HP8.out hb9)
          have HK9 := Lib.hid (HK8.out.next hb9)
          have HOU : Hid (w9.ownsRow (w.heap.size + 4) 22 1 (.slice As rs'.length cs) rs'.length (rs'.map Rw.v)) := Lib.hid HO9.out.outer
          have HN1 : Hid (w9.cell? ⟨w8.heap.size, 0, none⟩ = some (.slice A7 n c7)) := Lib.hid (by rw [hw9]; exact cell_of_row _ _ 0 _ _ _ (heap_alloc_new w8 _))
          have HW9 := Lib.hid hw9
          have hi60 : rs'.length ≤ 60 := by have := HRL.out; omega
          have hz9 : w9.heap.size = w8.heap.size + 1 := by rw [hw9]; simp
          have HZ9 := Lib.hid hz9
          clear hw8 hg8 hw9 hb9 hz9
          go_wp2_with (first
            | (rw [← HW8.out])
            | (rw [← HW9.out])
            | (at_builtin; refine wpList_append_own _ rfl (.tmp 38) (.tmp 40) 27 rfl (w.heap.size + 4) 22 i0 (.slice none 0 0) 1 24 Tryd.underlying27 hi hz0 hz1 hz2 rfl (by decide) _ _ _ rfl HOU.out ⟨_, 0, none⟩ 1 1 [.slice A7 n c7] rfl rfl (fun j u hj => by rw [HW9.out]; exact one_newB _ _ _ _ rfl j u hj) (one_cellI (by rfl)) (by unfold maxLen; omega) (by omega) (by have := HZ9.out; have := HLT8.out; omega) ?_; intro v3 w10 hP10 hgr _; obtain ⟨A3, c3', rfl, _⟩ := owns_slice hP10; have HG10 := Lib.hid hgr; have HP10 := Lib.hid hP10; have B10 := Lib.hid (Below.grown (HB9.out.mono HLT8.out) hgr (by have := HZ9.out; have := HLT8.out; omega) (fun g hg => (HOU.out.lt g hg).1)); have H10 := Lib.hid (H8.out.keep B10.out); have s1 := H10.out.sh; have s2 := H10.out.shf; clear hP10 hgr)
            | fail)
          go_roundw
          case rel =>
            have hg11 : w10.grownBy (w10.setCell ⟨w.heap.size + 2, 0, none⟩ (.slice A3 (rs'.length + 1) c3')) (some (w.heap.size + 2)) := grownBy_set (p := ⟨w.heap.size + 2, 0, none⟩) (grownBy_refl _ _) rfl _
            have hrow : (⟨A7, c7, useX ks ns⟩ : Rw).v = .slice A7 n c7 := by show Value.slice A7 (useX ks ns).length c7 = _; rw [HDY.out.2.2]
            have hk10 : KO w10 wr.heap.size (.slice A8 n c8) (dayS t x (ks, di) ns).1 := ⟨HK9.out.o.kept HG10.out (by
              cases hv : (Value.slice A8 n c8).ownBlock with
              | none => exact .inl rfl
              | some k => exact .inr (fun e => by
                have h1 := HVL.out k e.symm
                have h2 := (HK9.out.o.lt k hv).1
                omega))⟩
            have hk11 : KO (w10.setCell ⟨w.heap.size + 2, 0, none⟩ (.slice A3 (rs'.length + 1) c3')) (w.heap.size + 4) (.slice A8 n c8) (dayS t x (ks, di) ns).1 := ⟨owns_other (owns_below hk10.o HLW.out) hg11 (fun k hk => by have := (hk10.o.lt k hk).1; have := HLW.out; omega)⟩
            have ho10 := OW.snoc2 (r := ⟨A7, c7, useX ks ns⟩) HO9.out (by rw [hrow]; show w9.ownsRow _ _ _ _ (useX ks ns).length _; rw [HDY.out.2.2]; exact owns_below HP9.out HLW.out)
              (fun y hy k hk e => by
                rw [hrow] at e
                have h1 := HRL1.out y hy k hk
                have h2 := (HP9.out.lt k e).1
                omega) HG10.out (by rw [hrow]; exact HP10.out)
            have hln : (rs' ++ [(⟨A7, c7, useX ks ns⟩ : Rw)]).length = i + 1 := by rw [List.length_append, HRL.out]; rfl
            refine ⟨i + 1, (dayS t x (ks, di) ns).1, di + 1, .slice A8 n c8, .slice A3 (rs'.length + 1) c3', rs' ++ [⟨A7, c7, useX ks ns⟩], by omega, by first | rfl | go_num, H10.out.shorts _, hk11, OW.other ho10 hg11 (by omega), HST.out.1.symm.trans HRF.out.1, ?_, ?_, HDY.out.1, HDY.out.2.1, by have := HDI.out; have := HD60.out; omega, hln⟩
            · have h1 := HRF.out.2.1
              rw [HST.out.2.1] at h1
              rw [← h1]
              show (rs' ++ [(⟨A7, c7, useX ks ns⟩ : Rw)]).map Rw.xs ++ _ = _
              rw [List.map_append, List.append_assoc]
              rfl
            · have h1 := HRF.out.2.2
              rw [HST.out.2.2, if_pos HKY.out.symm] at h1
              exact h1
          case measure => simp [intOf]; omega
      · obtain rfl : i = m := by omega
        have hdr : L.drop i = [] := List.drop_of_length_le (by rw [HLM.out]; exact Nat.le_refl _)
        have hrf := HRF.out
        rw [hdr] at hrf
        have HRF2 := Lib.hid hrf
        have HLW := Lib.hid HG.out.lt
        clear hdr hrf HRF b0 b1 b2 b3
        go_wp2_with fail
        refine wp_region_noPanic ?_
        have HG1 := Lib.hid (HG.out.next (Below.refl _ _).drew)
        have HK1' := Lib.hid (HK.out.next (Below.refl _ _).drew)
        have HO1 := Lib.hid (HO.out.next (Below.refl _ _).drew)
        refine wp_region_held_drew (S := fun v => GT w (.slice (some a) n c) t x d (.slice Ab n cb) t x di (.slice As rs'.length cs) .nilIface v) (by kernel_rfl) HG1.out (fun hHeld => ?_)
        generalize wr.drew = w5 at HG1 HK1' HO1 hHeld ⊢
        clear HG HK HO HSB
        refine wpAnyH_take (i := 0) (v := houV (.slice Ab n cb) t x di) rfl (by kernel_rfl) (by kernel_rfl) (by kernel_rfl) (fun _ _ _ h => h) (yieldsIf_load_mid (by rfl) 58 (.tmp 4) rfl (w.heap.size + 1) 0 rfl (houL (.slice Ab n cb) t x di) _ (fun u h => h.bh.range) Tryd.underlying58 rfl (by rw [infoH]; rfl)) hHeld ?_
        (try simp only [Act.put, List.getElem_toArray, List.getElem_cons_zero, List.setIfInBounds_toArray, List.set_cons_zero, List.set_cons_succ])
        refine wpAnyH_take (i := 1) (v := .slice As rs'.length cs) rfl (by kernel_rfl) (by kernel_rfl) (by kernel_rfl) (fun _ _ _ h => h) (Or.inl ⟨by rfl, ?_⟩) hHeld ?_
        · intro u hSu
          have hq := hSu.sh
          clear hSu
          first | (go_simp; done) | (go_simp; with_reducible rfl)
        (try simp only [Act.put, List.getElem_toArray, List.getElem_cons_zero, List.getElem_cons_succ, List.setIfInBounds_toArray, List.set_cons_zero, List.set_cons_succ])
        have c0 := HG1.out.bh.c0
        have c1 := HG1.out.bh.c1
        have c2 := HG1.out.bh.c2
        have c3 := HG1.out.bh.c3
        have f0 := HG1.out.bh.fz 0
        have f1 := HG1.out.bh.fz 1
        have f2 := HG1.out.bh.fz 2
        have f3 := HG1.out.bh.fz 3
        refine wpAnyH_ready (rs := [2]) (by kernel_rfl) (by simp) ?_
        refine AllReadyH.cons rfl (fun K hK => ?_) AllReadyH.nil
        go_simp
        obtain ⟨w6, hw6⟩ : ∃ u, u = w5.setCells (w.heap.size + 1) 0 (houL (.slice Ab n cb) t x di) := ⟨_, rfl⟩
        have hg6 : w5.grownBy w6 (some (w.heap.size + 1)) := by rw [hw6]; exact grownBy_cells _ 0 (grownBy_refl _ _)
        have HG6 : Hid (GT w (.slice (some a) n c) t x d (.slice Ab n cb) t x di (.slice As rs'.length cs) .nilIface w6) := Lib.hid (by rw [hw6]; exact HG1.out.house _ t x di)
        have HK6 : Hid (KO w6 (w.heap.size + 4) (.slice Ab n cb) ks) := Lib.hid ⟨owns_other HK1'.out.o hg6 (fun k hk => by have := (HK1'.out.o.lt k hk).1; omega)⟩
        have HO6 := Lib.hid (OW.other HO1.out hg6 (by omega))
        show K _ (w5.setCells (w.heap.size + 1) 0 (houL (.slice Ab n cb) t x di))
        rw [← hw6]
        clear hw6 hg6 c0 c1 c2 c3 f0 f1 f2 f3
        refine hK.out _ _ (HG6.out) (fun hHeld2 => ?_)
        clear hK K hHeld
        have hHeld := hHeld2
        clear hHeld2
        try simp only [Act.put, List.getElem_toArray, List.getElem_cons_zero, List.getElem_cons_succ, List.setIfInBounds_toArray, List.set_cons_zero, List.set_cons_succ]
        have g0 := HG6.out.sh
        have g1 := HG6.out.shf
        refine wpAnyH_ready (rs := [3]) (by kernel_rfl) (by simp) ?_
        refine AllReadyH.cons rfl (fun K hK => ?_) AllReadyH.nil
        go_simp
        have hg7 : w6.grownBy (w6.setCell ⟨w.heap.size + 2, 0, none⟩ (.slice As rs'.length cs)) (some (w.heap.size + 2)) := grownBy_set (p := ⟨w.heap.size + 2, 0, none⟩) (grownBy_refl _ _) rfl _
        have HG7 := Lib.hid (HG6.out.shorts (.slice As rs'.length cs))
        have HK7 : Hid (KO (w6.setCell ⟨w.heap.size + 2, 0, none⟩ (.slice As rs'.length cs)) (w.heap.size + 4) (.slice Ab n cb) ks) := Lib.hid ⟨owns_other HK6.out.o hg7 (fun k hk => by have := (HK6.out.o.lt k hk).1; omega)⟩
        have HO7 := Lib.hid (OW.other HO6.out hg7 (by omega))
        clear hg7 g0 g1
        generalize w6.setCell ⟨w.heap.size + 2, 0, none⟩ (.slice As rs'.length cs) = w7 at HG7 HK7 HO7 ⊢
        refine hK.out _ _ (HG7.out) (fun hHeld2 => ?_)
        clear hK K hHeld
        have hHeld := hHeld2
        clear hHeld2
        try simp only [Act.put, List.getElem_toArray, List.getElem_cons_zero, List.getElem_cons_succ, List.setIfInBounds_toArray, List.set_cons_zero, List.set_cons_succ]
        have g0 := HG7.out.er
        have g1 := HG7.out.erf
        refine wpAnyH_ready (rs := [4]) (by kernel_rfl) (by simp) ?_
        refine AllReadyH.cons rfl (fun K hK => ?_) AllReadyH.nil
        go_simp
        have hg8 : w7.grownBy (w7.setCell ⟨w.heap.size + 3, 0, none⟩ .nilIface) (some (w.heap.size + 3)) := grownBy_set (p := ⟨w.heap.size + 3, 0, none⟩) (grownBy_refl _ _) rfl _
        have HG8 := Lib.hid (HG7.out.err .nilIface)
        have HK8 : Hid (KO (w7.setCell ⟨w.heap.size + 3, 0, none⟩ .nilIface) (w.heap.size + 4) (.slice Ab n cb) ks) := Lib.hid ⟨owns_other HK7.out.o hg8 (fun k hk => by have := (HK7.out.o.lt k hk).1; omega)⟩
        have HO8 := Lib.hid (OW.other HO7.out hg8 (by omega))
        clear hg8 g0 g1
        generalize w7.setCell ⟨w.heap.size + 3, 0, none⟩ .nilIface = w8 at HG8 HK8 HO8 ⊢
        refine hK.out _ _ (HG8.out) (fun hHeld2 => ?_)
        clear hK K hHeld
        have hHeld := hHeld2
        clear hHeld2
        try simp only [Act.put, List.getElem_toArray, List.getElem_cons_zero, List.getElem_cons_succ, List.setIfInBounds_toArray, List.set_cons_zero, List.set_cons_succ]
        refine wpAnyH_done (by kernel_rfl) (NoPanic.normal ?_) _
        clear hHeld
        go_wp2_with fail
        refine leaves_cons (f := 150) (args := #[.pointer (some ⟨w.heap.size + 1, 0, none⟩), .pointer (some ⟨w.heap.size + 2, 0, none⟩), .pointer (some ⟨w.heap.size + 3, 0, none⟩)]) (by simp) (by simp [go_sem]) ?_
        refine (go_idle _ _ _ _).mono ?_
        rintro o u' w'' ⟨rfl, rfl, rfl⟩
        refine ⟨_, results_go Tryd.results106 rfl rfl rfl HG8.out, .inr ⟨?_, .slice Ab n cb, .slice As rs'.length cs, rs', ?_, ?_, ?_, ?_, HG8.out.b⟩⟩
        · rw [← HL.out, HCG.out, ← HFIN.out.2.2]; exact HRF2.out.2.2.symm
        · rw [← HL.out, ← HFIN.out.1, ← HRF2.out.1]; rfl
        · rw [← HL.out, ← HFIN.out.1, ← HRF2.out.1]
          exact ⟨owns_below HK8.out.o (by omega)⟩
        · rw [← HL.out, ← HFIN.out.2.1, ← HRF2.out.2.1]; simp [shsS]
        · exact ⟨owns_below HO8.out.outer (by omega), fun r hr => owns_below (HO8.out.each r hr) (by omega), HO8.out.dist⟩
end Go.Proofs.YtdcckdfemelbiaaDoor.hou

/-
  Days gone through, the model's: DayAll.
-/
namespace Go.Proofs.YtdcckdfemelbiaaDoor.hou
open Go Go.RowKit sl row stk errs fold rows

def dayK (xs : List Stk) (t x d : Int) (L : List (List Int)) : List Stk := if codeG xs t x d L = 0 then (finS t x L (xs, d)).1 else []
def dayN (xs : List Stk) (t x d : Int) (L : List (List Int)) (y : Int) : Int := if codeG xs t x d L = 0 then y else 0
def dayX (xs : List Stk) (t x d : Int) (L : List (List Int)) : List (List Int) := if codeG xs t x d L = 0 then shsS t x L (xs, d) else []
/-- a house of the call's own, rows of the call's own, and a code -/
def OwnD (w : World) (ks : List Stk) (t x d : Int) (xss : List (List Int)) (z : Nat) (o : Ending) (w' : World) : Prop :=
  ∃ v vs rs', o = .returned (.tuple #[houV v t x d, vs, .int .i64 (z : Nat)]) ∧ KO w' w.heap.size v ks ∧ nums rs' = xss ∧ OW w' w.heap.size vs rs' ∧ Below w.heap.size w w'
theorem OW.but {w w' : World} {base : Nat} {v : Value} {rs : List Rw} {S : Nat → Prop} (h : OW w base v rs) (hb : But S w w') (ho : ∀ k, v.ownBlock = some k → ¬ S k) (hr : ∀ r ∈ rs, ∀ k, r.v.ownBlock = some k → ¬ S k) : OW w' base v rs :=
  ⟨owns_but h.outer hb ho, fun r hr' => owns_but (h.each r hr') hb (hr r hr'), h.dist⟩
theorem OW.lower {w : World} {base base' : Nat} {v : Value} {rs : List Rw} (h : OW w base v rs) (hb : base' ≤ base) : OW w base' v rs :=
  ⟨owns_below h.outer hb, fun r hr => owns_below (h.each r hr) hb, h.dist⟩
theorem OW.cells {w : World} {base : Nat} {v : Value} {rs : List Rw} (h : OW w base v rs) (g : Nat) (hb : g < base) (o : Nat) (vs : List Value) : OW (w.setCells g o vs) base v rs := OW.other h (grownBy_cells vs o (grownBy_refl w (some g))) hb
theorem owns_cells {w : World} {base : Nat} {e : TypeId} {sz n : Nat} {v : Value} {L : List Value} (h : w.ownsRow base e sz v n L) (g : Nat) (hb : g < base) (o : Nat) (vs : List Value) : (w.setCells g o vs).ownsRow base e sz v n L :=
  owns_other h (grownBy_cells vs o (grownBy_refl w (some g))) (fun k hk => by have := (h.lt k hk).1; omega)
theorem dayAll_no {xs : List Stk} {t x d : Int} {L : List (List Int)} {k : Nat} (h : codeG xs t x d L = k + 1) : dayK xs t x d L = [] ∧ (∀ y, dayN xs t x d L y = 0) ∧ dayX xs t x d L = [] := by
  refine ⟨?_, fun y => ?_, ?_⟩
  · rw [dayK, h, if_neg (by omega)]
  · rw [dayN, h, if_neg (by omega)]
  · rw [dayX, h, if_neg (by omega)]
theorem dayAll_yes {xs : List Stk} {t x d : Int} {L : List (List Int)} (h : codeG xs t x d L = 0) : dayK xs t x d L = (finS t x L (xs, d)).1 ∧ (∀ y, dayN xs t x d L y = y) ∧ dayX xs t x d L = shsS t x L (xs, d) := by
  refine ⟨?_, fun y => ?_, ?_⟩
  · rw [dayK, if_pos h]
  · rw [dayN, if_pos h]
  · rw [dayX, if_pos h]
set_option maxRecDepth 100000 in
theorem build_rows0 (u : World) : (Instr.buildSlice 27 0 #[]).run Tryd.prog u = .ok (.slice (some ⟨u.heap.size, 0, none⟩) 0 0) (u.alloc (.cells #[] 22)) := by
  kernel_rfl
set_option maxRecDepth 100000 in
set_option maxHeartbeats 8000000 in
theorem DayAll_spec (g n c : Nat) (xs : List Stk) (t x d : Int) (en : n = xs.length) (hn : n ≤ 1048576) (hf : ∀ x ∈ xs, Fits x) (ht : -32768 ≤ t ∧ t ≤ 32767) (hx : -128 ≤ x ∧ x ≤ 127) (hd : -32768 ≤ d ∧ d ≤ 32767)
    (A' : Option Addr) (m c' : Nat) (rs : List Rw) (em : m = rs.length) (hm : m ≤ 9223372036854775807) (w : World) (hg : Sl stkC 25 w w.heap.size (some ⟨g, 0, none⟩) xs) (hg' : SS w w.heap.size A' rs) :
    Calls Tryd.prog 48 #[houV (.slice (some ⟨g, 0, none⟩) n c) t x d, .slice A' m c'] w (OwnD w (dayK xs t x d (nums rs)) (dayN xs t x d (nums rs) t) (dayN xs t x d (nums rs) x) (dayN xs t x d (nums rs) (finS t x (nums rs) (xs, d)).2) (dayX xs t x d (nums rs)) (codeG xs t x d (nums rs))) := by
  obtain ⟨i0, hi, hz0, hz1, hz2⟩ := info_parts infoR
  obtain ⟨u0, hu0⟩ : ∃ u0, u0 = (w.alloc (.cells #[.slice (some ⟨g, 0, none⟩) n c, .int .i16 t, .int .i8 x, .int .i16 d] 58)).alloc (.cells #[.slice none 0 0, .int .i16 0, .int .i8 0, .int .i16 0] 58) := ⟨_, rfl⟩
  have H0 : Hid (HR w (.slice (some ⟨g, 0, none⟩) n c) t x d u0) := Lib.hid (by rw [hu0]; exact HR.new w _ t x d _ _)
  have HU0 := Lib.hid hu0
  obtain ⟨u1, hu1⟩ : ∃ u, u = u0.alloc (.cells #[] 22) := ⟨_, rfl⟩
  have hb1 : Below u0.heap.size u0 u1 := by rw [hu1]; exact (Below.refl _ _).alloc (Nat.le_refl _) _
  have HU1 := Lib.hid hu1
  have H1 := Lib.hid (H0.out.next hb1)
  have hz0' : u0.heap.size = w.heap.size + 2 := by rw [hu0]; simp
  have hown : u1.ownsRow (w.heap.size + 2) 22 1 (.slice (some ⟨w.heap.size + 2, 0, none⟩) 0 0) 0 [] := by rw [hu1, ← hz0']; exact World.ownsRow_made (e := 22) (size := 1) u0 #[] 0 (Nat.le_refl _) (Nat.zero_le _) rfl
  have O1 : Hid (OW u1 (w.heap.size + 2) (.slice (some ⟨w.heap.size + 2, 0, none⟩) 0 0) []) := Lib.hid ⟨hown, (fun r hr => by cases hr), List.Pairwise.nil⟩
  have HE : Hid (∀ u, Below w.heap.size w u → Sl stkC 25 u u.heap.size (some ⟨g, 0, none⟩) xs ∧ SS u w.heap.size A' rs) := Lib.hid fun u hu => ⟨(hg.below hu).more hu.size, hg'.below hu⟩
  obtain ⟨q, hq⟩ : ∃ q, houOk xs t x d = q := ⟨_, rfl⟩
  obtain ⟨L, hL⟩ : ∃ L, L = nums rs := ⟨_, rfl⟩
  rw [← hL]
  obtain ⟨COD, hCOD⟩ : ∃ q, q = codeG xs t x d L := ⟨_, rfl⟩
  rw [← hCOD]
  have hlm : L.length = m := by rw [hL]; simp [nums, em]
  have HCOD := Lib.hid hCOD
  have HL := Lib.hid hL
  have HLM := Lib.hid hlm
  have HQ := Lib.hid hq
  have En := Lib.hid en
  have Em := Lib.hid em
  have HN := Lib.hid hn
  have HM := Lib.hid hm
  have HFT := Lib.hid hf
  have HT := Lib.hid ht
  have HX := Lib.hid hx
  have HD := Lib.hid hd
  have hzz : u0.heap.size = w.heap.size + 1 + 1 := by rw [hz0']
  have HZ0 := Lib.hid hz0'
  clear hu0 hu1 hb1 hown hq hL hCOD hlm en em hn hm hf ht hx hd hg hg' hz0'
  go_enter Tryd.func48, Tryd.ntmps48
  go_wp2_with (first | (rw [← HU0.out]) | (rw [← HU1.out]) | fail)
  refine (l05Ok_any g n c xs t x d En.out HN.out HFT.out HT.out HX.out HD.out w.heap.size _ H1.out.h (HE.out _ H1.out.b).1 q HQ.out.symm).mono ?_
  rintro o w1 ⟨rfl, hb⟩
  have H2 := Lib.hid (H1.out.next hb)
  have O2 := Lib.hid (O1.out.next hb)
  clear hb H0 H1 O1 HU0 HU1
  clear hzz
  have hR := H2.out.r
  have r0 := hR.c0
  have r1 := hR.c1
  have r2 := hR.c2
  have r3 := hR.c3
  have q0 := hR.fz 0
  have q1 := hR.fz 1
  have q2 := hR.fz 2
  have q3 := hR.fz 3
  have HRT := Lib.hid hR
  clear hR
  cases q with
  | false =>
    have hc1 : COD = 0 + 1 := by rw [HCOD.out, codeG, codeO, HQ.out]; rfl
    have HNO := Lib.hid (dayAll_no (HCOD.out.symm.trans hc1))
    have HC1 := Lib.hid hc1
    clear hc1
    go_wp2_with fail
    refine bodyPost_ret (v := .tuple #[houV (.slice none 0 0) 0 0 0, .slice (some ⟨w.heap.size + 2, 0, none⟩) 0 0, .int .i64 1]) (results_row_2 (u := w1.setCells (w.heap.size + 1) 0 (houL (.slice none 0 0) 0 0 0)) (b := w.heap.size + 1) (cs := houL (.slice none 0 0) 0 0 0) Tryd.results48 rfl (World.rangeAt_setCells_same _ _ _ _ HRT.out.there) Tryd.underlying58 rfl (by kernel_rfl)) rfl ⟨_, _, [], by rw [HNO.out.2.1, HNO.out.2.1, HNO.out.2.1, HC1.out]; rfl, ?_, ?_, ?_, ?_⟩
    · rw [HNO.out.1]; exact KO.nil _ _
    · rw [HNO.out.2.2]; rfl
    · exact OW.lower (base := w.heap.size + 2) (OW.cells O2.out (w.heap.size + 1) (by omega) 0 (houL (.slice none 0 0) 0 0 0)) (by omega)
    · exact below_cells H2.out.b (by omega) (houL _ 0 0 0) 0
  | true =>
    have hk0 : codeO xs t x d = 0 := by rw [codeO, HQ.out]; rfl
    by_cases h60 : 60 < m
    · have hc1 : COD = 2 + 1 := by rw [HCOD.out, codeG, if_pos hk0, HLM.out, if_pos h60]
      have HNO := Lib.hid (dayAll_no (HCOD.out.symm.trans hc1))
      have HC1 := Lib.hid hc1
      clear hc1 hk0
      go_wp2_with fail
      refine bodyPost_ret (v := .tuple #[houV (.slice none 0 0) 0 0 0, .slice (some ⟨w.heap.size + 2, 0, none⟩) 0 0, .int .i64 3]) (results_row_2 (u := w1.setCells (w.heap.size + 1) 0 (houL (.slice none 0 0) 0 0 0)) (b := w.heap.size + 1) (cs := houL (.slice none 0 0) 0 0 0) Tryd.results48 rfl (World.rangeAt_setCells_same _ _ _ _ HRT.out.there) Tryd.underlying58 rfl (by kernel_rfl)) rfl ⟨_, _, [], by rw [HNO.out.2.1, HNO.out.2.1, HNO.out.2.1, HC1.out]; rfl, ?_, ?_, ?_, ?_⟩
      · rw [HNO.out.1]; exact KO.nil _ _
      · rw [HNO.out.2.2]; rfl
      · exact OW.lower (base := w.heap.size + 2) (OW.cells O2.out (w.heap.size + 1) (by omega) 0 (houL (.slice none 0 0) 0 0 0)) (by omega)
      · exact below_cells H2.out.b (by omega) (houL _ 0 0 0) 0
    · have hcg : COD = codS t x L (xs, d) := by rw [HCOD.out, codeG, if_pos hk0, HLM.out, if_neg h60]
      obtain ⟨⟨hn14, ht1, hx1, hd1⟩, hgd⟩ := codeO_nums hk0
      rw [← En.out] at hn14
      have HN4 := Lib.hid hn14
      have HT1 := Lib.hid ht1
      have HX1 := Lib.hid hx1
      have HD1 := Lib.hid hd1
      have HGD := Lib.hid hgd
      have HCG := Lib.hid hcg
      have hm60 : m ≤ 60 := by omega
      have hdc : decide ((60 : Int) < (m : Int)) = false := decide_eq_false (by omega)
      clear hk0 h60 hcg hn14 ht1 hx1 hd1 hgd r0 r1 r2 r3 q0 q1 q2 q3 HRT
      go_wp2_with fail
      refine (l05Own_any g n c xs t x d En.out HN.out w.heap.size _ H2.out.h (HE.out _ H2.out.b).1).mono ?_
      rintro o w2 ⟨v2, rfl, hK, hb⟩
      have H3 := Lib.hid (H2.out.next hb)
      have O3 := Lib.hid (O2.out.next hb)
      obtain ⟨g9, c9, rfl, hg9, hl9⟩ : ∃ g9 c9, v2 = .slice (some ⟨g9, 0, none⟩) n c9 ∧ w1.heap.size ≤ g9 ∧ g9 < w2.heap.size := by
        rcases hK.shape with ⟨_, h0⟩ | ⟨g9, c9, h1, h2⟩
        · have := En.out
          have := HN4.out
          rw [h0] at *
          simp at *
          omega
        · exact ⟨g9, c9, by rw [h1, En.out], h2⟩
      obtain ⟨w3, hw3⟩ : ∃ u, u = w2.alloc (.cells #[.slice (some ⟨g9, 0, none⟩) n c9, .int .i16 t, .int .i8 x, .int .i16 d] 58) := ⟨_, rfl⟩
      have hb3 : Below w2.heap.size w2 w3 := by rw [hw3]; exact (Below.refl _ _).alloc (Nat.le_refl _) _
      have H4 := Lib.hid (H3.out.next hb3)
      have O4 := Lib.hid (O3.out.next hb3)
      have A4 : Hid (HouAt w3 w2.heap.size (.slice (some ⟨g9, 0, none⟩) n c9) t x d) := Lib.hid (by rw [hw3]; exact HouAt.new w2 _ t x d _)
      have K4 : Hid (StkOwns w3 w1.heap.size (.slice (some ⟨g9, 0, none⟩) n c9) n (xs.flatMap stkC)) := Lib.hid (by have ho := (hK.next hb3).o; rwa [← En.out] at ho)
      have HW3 := Lib.hid hw3
      have HLT : Hid (w.heap.size + 2 < w1.heap.size ∧ w1.heap.size ≤ g9 ∧ g9 < w2.heap.size) := Lib.hid ⟨(O2.out.outer.lt _ rfl).2, hg9, hl9⟩
      clear hK hb hb3 hw3 hg9 hl9 H3 O3 O2
      go_wp2_with (first | (rw [← HW3.out]) | fail)
      obtain ⟨FIN, hFIN⟩ : ∃ q, q = finS t x L (xs, d) := ⟨_, rfl⟩
      obtain ⟨SHS, hSHS⟩ : ∃ q, q = shsS t x L (xs, d) := ⟨_, rfl⟩
      have HFIN := Lib.hid (And.intro hFIN hSHS)
      clear hFIN hSHS hdc
      go_loopw [7, 9, 10, 11] (fun v7 v9 _ _ wr => ∃ (i : Nat) (ks : List Stk) (di : Int) (vs : Value) (rs' : List Rw), i ≤ m ∧ v9 = .int .i64 (i : Nat) ∧ vs = v7 ∧ HR w (.slice (some ⟨g, 0, none⟩) n c) t x d wr ∧ HouAt wr w2.heap.size (.slice (some ⟨g9, 0, none⟩) n c9) t x di ∧ StkOwns wr w1.heap.size (.slice (some ⟨g9, 0, none⟩) n c9) n (ks.flatMap stkC) ∧ OW wr (w.heap.size + 2) vs rs' ∧
        ((∀ k, vs.ownBlock = some k → k ≠ w2.heap.size ∧ k ≠ g9) ∧ (∀ r ∈ rs', ∀ k, r.v.ownBlock = some k → w2.heap.size < k) ∧ w2.heap.size < wr.heap.size) ∧
        finS t x (L.drop i) (ks, di) = FIN ∧ nums rs' ++ shsS t x (L.drop i) (ks, di) = SHS ∧ codS t x (L.drop i) (ks, di) = COD ∧ ks.length = n ∧ (∀ f ∈ ks, stk.Good f) ∧ (0 ≤ di ∧ di ≤ 60) ∧ rs'.length = i) (fun _ v9 _ _ _ => m - (intOf v9).toNat)
      case atStart => exact ⟨0, xs, d, _, [], by omega, rfl, rfl, H4.out, A4.out, K4.out, O4.out, ⟨(fun k hk => by have h : w.heap.size + 2 = k := Option.some.inj hk; have := HLT.out; omega), (fun r hr => by cases hr), A4.out.lt⟩, by rw [List.drop_zero]; exact HFIN.out.1.symm, by rw [List.drop_zero]; exact HFIN.out.2.symm, by rw [List.drop_zero]; exact HCG.out.symm, En.out.symm, HGD.out, HD1.out, rfl⟩
      case round =>
        clear H2 H4 A4 K4 O4 HW3
        obtain ⟨i, ks, di, vs, rs', hi', rfl, rfl, hR, hA, hK, hO, hne, hfin, hshs, hcod, hkl, hkg, hdi, hrl⟩ := hrel
        have HR1 := Lib.hid hR
        have HA := Lib.hid hA
        have HK := Lib.hid hK
        have HO := Lib.hid hO
        have HNE := Lib.hid hne
        have HRF := Lib.hid (And.intro hfin (And.intro hshs hcod))
        have HKL := Lib.hid (And.intro hkl hkg)
        have HDI := Lib.hid hdi
        have HRL := Lib.hid hrl
        clear hR hA hK hO hne hfin hshs hcod hkl hkg hdi hrl
        by_cases hlt : i < m
        · obtain ⟨r, hr⟩ : ∃ r, rs[i]? = some r := ⟨rs[i]'(by have := Em.out; omega), List.getElem?_eq_getElem _⟩
          obtain ⟨ar, rfl, hab, p0⟩ := (HE.out _ HR1.out.b).2.head hr
          have hrl := (HE.out _ HR1.out.b).2.short r (List.mem_of_getElem? hr)
          have HRI := Lib.hid ((HE.out _ HR1.out.b).2.each r (List.mem_of_getElem? hr))
          have hLi : L[i]? = some r.xs := by rw [HL.out]; simp [nums, hr]
          have hst := fin_step (t := t) (x := x) hLi (ks, di)
          have HST := Lib.hid hst
          obtain ⟨rA, rc, ns⟩ := r
          simp only [] at p0 HRI hrl HST
          obtain ⟨lr, hlr⟩ : ∃ l, l = ns.length := ⟨_, rfl⟩
          rw [← hlr] at p0 hrl
          have HLR := Lib.hid hlr
          have hrl2 : lr ≤ 9223372036854775807 := by unfold maxLen at hrl; omega
          obtain ⟨k, hk⟩ : ∃ k, k = codeY (ks, di) ns := ⟨_, rfl⟩
          have HKY := Lib.hid hk
          clear hr hLi hst hlr hk hrl
          go_wp2_with fail
          refine (l05Day_any g9 n c9 w2.heap.size ks t x di HKL.out.1.symm HN4.out.1 HN4.out.2 HKL.out.2 HT1.out HX1.out HDI.out w1.heap.size (by have := HLT.out; omega) rA lr rc ns HLR.out hrl2 _ HA.out HK.out (HRI.out.more (by have := HLT.out; omega)) k HKY.out).mono ?_
          rintro o w7 (⟨j, A0, c0, hkj, rfl, hb⟩ | ⟨hk0, A7, c7, rfl, hA7, hK7, hP7, hT7⟩)
          · have H7 := Lib.hid (HR1.out.next hb)
            have hc : COD = j + 1 := by
              have h1 := HRF.out.2.2
              rw [HST.out.2.2, if_neg (by rw [← HKY.out, hkj]; omega), ← HKY.out, hkj] at h1
              exact h1.symm
            have HNO := Lib.hid (dayAll_no (HCOD.out.symm.trans hc))
            have HC := Lib.hid (hkj.trans hc.symm)
            have hkne : ((k : Int) != 0) = true := by rw [bne_iff_ne]; omega
            have hR := H7.out.r
            obtain ⟨w8, hw8⟩ : ∃ u, u = w7.alloc (.cells #[] 22) := ⟨_, rfl⟩
            have hb8 : Below w7.heap.size w7 w8 := by rw [hw8]; exact (Below.refl _ _).alloc (Nat.le_refl _) _
            have H8 := Lib.hid (H7.out.next hb8)
            have hown : w8.ownsRow (w.heap.size + 2) 22 1 (.slice (some ⟨w7.heap.size, 0, none⟩) 0 0) 0 [] := owns_below (by rw [hw8]; exact World.ownsRow_made (e := 22) (size := 1) w7 #[] 0 (Nat.le_refl _) (Nat.zero_le _) rfl) H7.out.lt
            have O8 : Hid (OW w8 (w.heap.size + 2) (.slice (some ⟨w7.heap.size, 0, none⟩) 0 0) []) := Lib.hid ⟨hown, (fun r hr => by cases hr), List.Pairwise.nil⟩
            have HW8 := Lib.hid hw8
            have hR := H8.out.r
            have r0 := hR.c0
            have r1 := hR.c1
            have r2 := hR.c2
            have r3 := hR.c3
            have q0 := hR.fz 0
            have q1 := hR.fz 1
            have q2 := hR.fz 2
            have q3 := hR.fz 3
            have HRT := Lib.hid hR
            clear hR hw8 hb8 hown hc hkj hb
            go_wp2_with (first | (rw [← HW8.out]) | fail)
            refine bodyPost_ret (v := .tuple #[houV (.slice none 0 0) 0 0 0, .slice (some ⟨w7.heap.size, 0, none⟩) 0 0, .int .i64 (k : Nat)]) (results_row_2 (u := w8.setCells (w.heap.size + 1) 0 (houL (.slice none 0 0) 0 0 0)) (b := w.heap.size + 1) (cs := houL (.slice none 0 0) 0 0 0) Tryd.results48 rfl (World.rangeAt_setCells_same _ _ _ _ HRT.out.there) Tryd.underlying58 rfl (by kernel_rfl)) rfl ⟨_, _, [], by rw [HNO.out.2.1, HNO.out.2.1, HNO.out.2.1, HC.out], ?_, ?_, ?_, ?_⟩
            · rw [HNO.out.1]; exact KO.nil _ _
            · rw [HNO.out.2.2]; rfl
            · exact OW.lower (base := w.heap.size + 2) (OW.cells O8.out (w.heap.size + 1) (by omega) 0 (houL (.slice none 0 0) 0 0 0)) (by omega)
            · exact below_cells H8.out.b (by omega) (houL _ 0 0 0) 0
          · subst hk0
            obtain ⟨hl0, hpc, hd60⟩ := codeY_zero HKY.out.symm
            have hdl : (dayS t x (ks, di) ns).1.length = n := by rw [dayS_len hl0]; exact HKL.out.1
            have hdg := dayS_good (t := t) (x := x) (s := (ks, di)) HKL.out.2 hpc HT1.out.1
            have hxl : (useX ks ns).length = n := by rw [useX_len hl0]; exact HKL.out.1
            have HDY := Lib.hid (And.intro hdl (And.intro hdg hxl))
            have HD60 : Hid (di ≠ 60) := Lib.hid hd60
            have HTW := Lib.hid hT7
            have HA7 := Lib.hid hA7
            have HK7 := Lib.hid hK7
            have HP7 := Lib.hid hP7
            have H7 := Lib.hid (HR1.out.keep (But.below hT7 HR1.out.lt (fun k hk => by have := HLT.out; omega)))
            have HO7 := Lib.hid (OW.but HO.out hT7 (fun k hk e => by have := HNE.out.1 k hk; omega) (fun r hr k hk e => by have := HNE.out.2.1 r hr k hk; have := HLT.out; omega))
            have HZW := Lib.hid hT7.size
            have HB7 := Lib.hid (But.below (B := w1.heap.size) hT7 (by have := HNE.out.2.2; have := HLT.out; omega) (fun k hk => by have := HLT.out; omega))
            obtain ⟨w9, hw9⟩ : ∃ u, u = w7.alloc (.cells #[.slice A7 n c7] 22) := ⟨_, rfl⟩
            have hb9 : Below w7.heap.size w7 w9 := by rw [hw9]; exact (Below.refl _ _).alloc (Nat.le_refl _) _
            have HB9 := Lib.hid hb9
            have HO9 := Lib.hid (HO7.out.next hb9)
            have HP9 := Lib.hid (owns_next HP7.out hb9)
            have HA9 := Lib.hid (HA7.out.next hb9)
            have HK9 := Lib.hid (owns_next HK7.out hb9)
            have H9 := Lib.hid (H7.out.next hb9)
            have HOU : Hid (w9.ownsRow (w.heap.size + 2) 22 1 vs rs'.length (rs'.map Rw.v)) := Lib.hid HO9.out.outer
            have HVL : Hid (∀ k, vs.ownBlock = some k → k < wr.heap.size) := Lib.hid fun k hk => (HO.out.outer.lt k hk).2
            have HRLt : Hid (∀ y ∈ rs', ∀ k, y.v.ownBlock = some k → k < wr.heap.size) := Lib.hid fun y hy k hk => ((HO.out.each y hy).lt k hk).2
            have HW9 := Lib.hid hw9
            have hi60 : rs'.length ≤ 60 := by have := HRL.out; omega
            have HZ9 : Hid (w9.heap.size = w7.heap.size + 1) := Lib.hid (by rw [hw9]; simp)
            have HLWR := Lib.hid HR1.out.lt
            clear hw9 hb9 hdl hdg hxl hl0 hpc hd60 hT7 hA7 hK7 hP7
            go_wp2_with (first
              | (rw [← HW9.out])
              | (at_builtin; refine wpList_append_own_at _ rfl (.tmp 42) (.tmp 44) 27 rfl (w.heap.size + 2) 22 i0 (.slice none 0 0) 1 24 Tryd.underlying27 hi hz0 hz1 hz2 rfl (by decide) _ _ _ rfl HOU.out ⟨_, 0, none⟩ 1 1 [.slice A7 n c7] rfl rfl (fun j u hj => by rw [HW9.out]; exact one_newB _ _ _ _ rfl j u hj) (one_cellI (by rfl)) (by unfold maxLen; omega) (by omega) (by have := HZ9.out; have := H7.out.lt; omega) ?_; intro v3 w10 hP10 hgr _ hat; have HG10 := Lib.hid hgr; have HP10 := Lib.hid hP10; have HAT := Lib.hid hat; have B10 := Lib.hid (Below.grown (Below.refl (w.heap.size + 2) w9) hgr (by have := HZ9.out; have := H7.out.lt; omega) (fun k hk => (HOU.out.lt k hk).1)); clear hP10 hgr hat)
              | fail)
            go_roundw
            case rel =>
              have hrow : (⟨A7, c7, useX ks ns⟩ : Rw).v = .slice A7 n c7 := by show Value.slice A7 (useX ks ns).length c7 = _; rw [HDY.out.2.2]
              have ho10 := OW.snoc2 (r := ⟨A7, c7, useX ks ns⟩) HO9.out (by rw [hrow]; show w9.ownsRow _ _ _ _ (useX ks ns).length _; rw [HDY.out.2.2]; exact owns_below HP9.out HLWR.out)
                (fun y hy k hk e => by
                  rw [hrow] at e
                  have h1 := HRLt.out y hy k hk
                  have h2 := (HP9.out.lt k e).1
                  omega) HG10.out (by rw [hrow]; exact HP10.out)
              have hln : (rs' ++ [(⟨A7, c7, useX ks ns⟩ : Rw)]).length = i + 1 := by rw [List.length_append, HRL.out]; rfl
              have hg9 : w10.heap[w2.heap.size]? = w9.heap[w2.heap.size]? ∧ w10.heap[g9]? = w9.heap[g9]? := by
                have h1 := HNE.out.2.2
                have h2 := HZW.out
                have h3 := HZ9.out
                have h4 := HLT.out
                exact ⟨HG10.out.block _ (by omega) (fun e => (HNE.out.1 _ e.symm).1 rfl), HG10.out.block _ (by omega) (fun e => (HNE.out.1 _ e.symm).2 rfl)⟩
              refine ⟨i + 1, (dayS t x (ks, di) ns).1, di + 1, v3, rs' ++ [⟨A7, c7, useX ks ns⟩], by omega, by first | rfl | go_num, rfl, H9.out.keep B10.out, HA9.out.same B10.out.size hg9.1, owns_block HK9.out hg9.2, ho10, ⟨?_, ?_, ?_⟩, HST.out.1.symm.trans HRF.out.1, ?_, ?_, HDY.out.1, HDY.out.2.1, by have := HDI.out; have := HD60.out; omega, hln⟩
              · intro k hk
                rcases HAT.out with h1 | h1
                · exact HNE.out.1 k (h1 ▸ hk)
                · rw [h1] at hk
                  have h2 := Option.some.inj hk
                  have h3 := HNE.out.2.2
                  have h4 := HZW.out
                  have h5 := HZ9.out
                  have h6 := HLT.out
                  omega
              · intro y hy k hk
                rcases List.mem_append.1 hy with h1 | h1
                · exact HNE.out.2.1 y h1 k hk
                · obtain rfl := List.mem_singleton.1 h1
                  rw [hrow] at hk
                  have h2 := (HP9.out.lt k hk).1
                  have h3 := HNE.out.2.2
                  omega
              · have h2 := B10.out.size
                have h3 := HNE.out.2.2
                have h4 := HZW.out
                have h5 := HZ9.out
                omega
              · have h1 := HRF.out.2.1
                rw [HST.out.2.1] at h1
                rw [← h1]
                show (rs' ++ [(⟨A7, c7, useX ks ns⟩ : Rw)]).map Rw.xs ++ _ = _
                rw [List.map_append, List.append_assoc]
                rfl
              · have h1 := HRF.out.2.2
                rw [HST.out.2.2, if_pos HKY.out.symm] at h1
                exact h1
            case measure => simp [intOf]; omega
        · obtain rfl : i = m := by omega
          have hdr : L.drop i = [] := List.drop_of_length_le (by rw [HLM.out]; exact Nat.le_refl _)
          have hrf := HRF.out
          rw [hdr] at hrf
          have hc0 : COD = 0 := hrf.2.2.symm
          have HYES := Lib.hid (dayAll_yes (HCOD.out.symm.trans hc0))
          have HC0 := Lib.hid hc0
          have HRF2 := Lib.hid hrf
          clear hdr hrf HRF hc0
          have a0 := HA.out.c0
          have a1 := HA.out.c1
          have a2 := HA.out.c2
          have a3 := HA.out.c3
          have hR := HR1.out.r
          have r0 := hR.c0
          have r1 := hR.c1
          have r2 := hR.c2
          have r3 := hR.c3
          have q0 := hR.fz 0
          have q1 := hR.fz 1
          have q2 := hR.fz 2
          have q3 := hR.fz 3
          have HRT := Lib.hid hR
          clear hR
          go_wp2_with fail
          refine bodyPost_ret (v := .tuple #[houV (.slice (some ⟨g9, 0, none⟩) n c9) t x di, vs, .int .i64 0]) (results_row_2 (u := wr.setCells (w.heap.size + 1) 0 (houL (.slice (some ⟨g9, 0, none⟩) n c9) t x di)) (b := w.heap.size + 1) (cs := houL (.slice (some ⟨g9, 0, none⟩) n c9) t x di) Tryd.results48 rfl (World.rangeAt_setCells_same _ _ _ _ HRT.out.there) Tryd.underlying58 rfl (by kernel_rfl)) rfl ⟨.slice (some ⟨g9, 0, none⟩) n c9, vs, rs', ?_, ?_, ?_, ?_, ?_⟩
          · rw [HYES.out.2.1, HYES.out.2.1, HYES.out.2.1, HC0.out, ← HFIN.out.1, ← HRF2.out.1]; rfl
          · rw [HYES.out.1, ← HFIN.out.1, ← HRF2.out.1]
            refine ⟨?_⟩
            show StkOwns _ _ _ ks.length (ks.flatMap stkC)
            rw [HKL.out.1]
            exact owns_below (owns_cells HK.out (w.heap.size + 1) (by have := HLT.out; omega) 0 (houL (.slice (some ⟨g9, 0, none⟩) n c9) t x di)) (by have := HLT.out; omega)
          · rw [HYES.out.2.2, ← HFIN.out.2, ← HRF2.out.2.1]; simp [shsS]
          · exact OW.lower (base := w.heap.size + 2) (OW.cells HO.out (w.heap.size + 1) (by omega) 0 (houL (.slice (some ⟨g9, 0, none⟩) n c9) t x di)) (by omega)
          · exact below_cells HR1.out.b (by omega) (houL _ t x di) 0
end Go.Proofs.YtdcckdfemelbiaaDoor.hou

/-
  The first short day: the program's firstShort; pure.
-/
namespace Go.Proofs.YtdcckdfemelbiaaDoor.hou
open Go Go.RowKit sl row stk errs fold rows

/-- the first number above 0, counted from k on -/
def fk : List Int → Nat → Option Nat
  | [], _ => none
  | x :: r, k => if 0 < x then some k else fk r (k + 1)
/-- the first row that has one, counted from i on -/
def fd : List (List Int) → Nat → Option (Nat × Nat)
  | [], _ => none
  | xs :: r, i => ((fk xs 0).map fun k => (i, k)).orElse fun _ => fd r (i + 1)
theorem fk_step {xs : List Int} {k : Nat} {x : Int} (h : xs[k]? = some x) (j : Nat) : fk (xs.drop k) j = if 0 < x then some j else fk (xs.drop (k + 1)) (j + 1) := by
  obtain ⟨hi, rfl⟩ := List.getElem?_eq_some_iff.1 h
  rw [List.drop_eq_getElem_cons hi, fk]
theorem fd_step {xss : List (List Int)} {i : Nat} {xs : List Int} (h : xss[i]? = some xs) (j : Nat) : fd (xss.drop i) j = ((fk xs 0).map fun k => (j, k)).orElse fun _ => fd (xss.drop (i + 1)) (j + 1) := by
  obtain ⟨hi, rfl⟩ := List.getElem?_eq_some_iff.1 h
  rw [List.drop_eq_getElem_cons hi, fd]
def fday (o : Option (Nat × Nat)) : Int := match o with | some p => (p.1 : Int) | none => 0
def fkind (o : Option (Nat × Nat)) : Int := match o with | some p => (p.2 : Int) | none => 0
set_option maxRecDepth 100000 in
set_option maxHeartbeats 8000000 in
theorem firstShort_any (A : Option Addr) (n c : Nat) (rs : List Rw) (en : n = rs.length) (hn : n ≤ 9223372036854775807) (w : World) (B : Nat) (hg : SS w B A rs) (o : Option (Nat × Nat)) (ho : o = fd (nums rs) 0) :
    Calls Tryd.prog 109 #[.slice A n c] w fun e w' => e = .returned (.tuple #[.int .i64 (fday o), .int .i64 (fkind o), .bool o.isSome]) ∧ w' = w := by
  have En := Lib.hid en
  have HO := Lib.hid ho
  clear en ho
  go_enter Tryd.func109, Tryd.ntmps109
  go_wp2_with fail
  go_loopw [5, 6, 7, 8, 11] (fun _ _ _ _ vi wr => ∃ i : Nat, i ≤ n ∧ vi = .int .i64 (i : Nat) ∧ fd ((nums rs).drop i) i = o ∧ wr = w) (fun _ _ _ _ vi _ => n - (intOf vi).toNat)
  case atStart => exact ⟨0, by omega, rfl, by rw [List.drop_zero]; exact HO.out.symm, rfl⟩
  case round =>
    obtain ⟨i, hi, rfl, hf, rfl⟩ := hrel
    have HF := Lib.hid hf
    clear hf
    by_cases hlt : i < n
    · obtain ⟨r, hr⟩ : ∃ r, rs[i]? = some r := ⟨rs[i]'(by have := En.out; omega), List.getElem?_eq_getElem _⟩
      obtain ⟨a, rfl, hab, q0⟩ := hg.head hr
      have hsh := hg.short r (List.mem_of_getElem? hr)
      have HE := Lib.hid (hg.each r (List.mem_of_getElem? hr))
      have hst := fd_step (show (nums rs)[i]? = some r.xs by simp [nums, hr]) i
      have HST := Lib.hid (hst.symm.trans HF.out)
      obtain ⟨rA, rc, ys⟩ := r
      simp only [] at q0 hsh HE HST
      obtain ⟨l, hl⟩ : ∃ l, l = ys.length := ⟨_, rfl⟩
      rw [← hl] at q0 hsh
      have HL := Lib.hid hl
      unfold maxLen at hsh
      clear hr hl hst
      obtain ⟨wo, rfl⟩ : ∃ wo, wo = wr := ⟨wr, rfl⟩
      go_wp2_with fail
      go_loopw [7, 8, 18] (fun _ _ vj wr => ∃ j : Nat, j ≤ l ∧ vj = .int .i64 (j : Nat) ∧ fk (ys.drop j) j = fk ys 0 ∧ wr = wo) (fun _ _ vj _ => l - (intOf vj).toNat)
      case atStart => exact ⟨0, by omega, rfl, rfl, rfl⟩
      case round =>
        obtain ⟨j, hj, rfl, hk, rfl⟩ := hrel
        have HK := Lib.hid hk
        clear hk
        by_cases hlj : j < l
        · obtain ⟨x, hx⟩ : ∃ x, ys[j]? = some x := ⟨ys[j]'(by have := HL.out; omega), List.getElem?_eq_getElem _⟩
          obtain ⟨b, rfl, hbb, hat⟩ := HE.out.at_ j x hx
          have q1 := intS.at_ hat
          have hs := fk_step hx j
          rw [HK.out] at hs
          have HS := Lib.hid hs
          clear hx hat hs
          by_cases hp : 0 < x
          · have ho : o = some (i, j) := by
              have h1 := HST.out
              rw [HS.out, if_pos hp] at h1
              exact h1.symm
            subst ho
            go_wp2_with fail
            go_ret3
            exact ⟨rfl, by trivial⟩
          · have HN : Hid (fk ys 0 = fk (ys.drop (j + 1)) (j + 1)) := Lib.hid (by rw [HS.out, if_neg hp])
            go_wp2_with fail
            go_roundw
            case rel => exact ⟨j + 1, by omega, by go_num, HN.out.symm, by trivial⟩
            case measure => simp [intOf]; omega
        · obtain rfl : j = l := by omega
          have hnone : fk ys 0 = none := by
            have h1 := HK.out
            rw [List.drop_of_length_le (by have := HL.out; omega)] at h1
            rw [← h1]; rfl
          have HNN := Lib.hid hnone
          clear hnone
          go_wp2_with fail
          go_roundw
          case rel => exact ⟨i + 1, by omega, by go_num, by
            have h1 := HST.out
            rw [HNN.out] at h1
            exact h1, by trivial⟩
          case measure => simp [intOf]; omega
    · obtain rfl : i = n := by omega
      have hnone : o = none := by
        have h1 := HF.out
        rw [List.drop_of_length_le (by simp [nums, ← En.out])] at h1
        rw [← h1]; rfl
      subst hnone
      go_wp2_with fail
      go_ret3
      exact ⟨rfl, by trivial⟩
end Go.Proofs.YtdcckdfemelbiaaDoor.hou

/-
  The rags of a house: the program's and the model's; WornOut.
-/
namespace Go.Proofs.YtdcckdfemelbiaaDoor.hou
open Go Go.RowKit sl row stk errs fold rows

def ragsS : List Stk → Int
  | [] => 0
  | f :: r => f 24 + ragsS r
theorem ragsS_le : ∀ {xs : List Stk}, (∀ f ∈ xs, stk.Good f) → 0 ≤ ragsS xs ∧ ragsS xs ≤ 500 * xs.length
  | [], _ => by simp [ragsS]
  | f :: r, h => by
    have h1 := ragsS_le (xs := r) (fun g hg => h g (List.mem_cons_of_mem _ hg))
    have h2 := (h f (List.mem_cons_self ..)).pos 24 (by omega)
    have h3 := (h f (List.mem_cons_self ..)).le (show 24 < 25 by omega)
    rw [ragsS, List.length_cons]
    omega
theorem rags_step {xs : List Stk} {i : Nat} {f : Stk} (h : xs[i]? = some f) : ragsS (xs.drop i) = f 24 + ragsS (xs.drop (i + 1)) := by
  obtain ⟨hi, rfl⟩ := List.getElem?_eq_some_iff.1 h
  rw [List.drop_eq_getElem_cons hi, ragsS]
theorem wrap_i32 {x : Int} (h : 0 ≤ x ∧ x ≤ 500) : IntKind.i64.wrap x = x := IntWalk.i64_in _ (by omega)
set_option maxRecDepth 100000 in
set_option maxHeartbeats 8000000 in
theorem rags_any (A : Option Addr) (n c : Nat) (xs : List Stk) (t x d : Int) (en : n = xs.length) (hn : n ≤ 4) (hgd : ∀ f ∈ xs, stk.Good f) (w : World) (hg : Sl stkC 25 w w.heap.size A xs) :
    Calls Tryd.prog 108 #[houV (.slice A n c) t x d] w fun o w' => o = .returned (.int .i64 (ragsS xs)) ∧ Below w.heap.size w w' := by
  have hzz : ∀ u : World, (zeroValue 179).run Tryd.prog u = .ok (.agg (stkCs zeroS)) u := (zero_of_info zeroSi).1
  obtain ⟨R, hR⟩ : ∃ R, R = ragsS xs := ⟨_, rfl⟩
  rw [← hR]
  have HR0 := Lib.hid hR
  obtain ⟨u0, hu0⟩ : ∃ u0, u0 = w.alloc (.cells #[.slice A n c, .int .i16 t, .int .i8 x, .int .i16 d] 58) := ⟨_, rfl⟩
  have HA := Lib.hid (HouAt.new w (.slice A n c) t x d 58)
  rw [← hu0] at HA
  have hb0 : Below w.heap.size w u0 := by rw [hu0]; exact (Below.refl _ _).alloc (Nat.le_refl _) _
  have HB0 := Lib.hid hb0
  have HU0 := Lib.hid hu0
  have En := Lib.hid en
  have HGD := Lib.hid hgd
  have HG := Lib.hid (fun (u : World) (hu : Below w.heap.size w u) => hg.below hu)
  have c0 := HA.out.c0
  clear hR hu0 hb0 en hgd hg
  go_enter Tryd.func108, Tryd.ntmps108
  go_wp2_with (first | (rw [← HU0.out]) | fail)
  go_loopw [3, 5, 9] (fun v3 _ vi wr => ∃ (i : Nat) (s : Int), i ≤ n ∧ vi = .int .i64 (i : Nat) ∧ v3 = .int .i64 s ∧ s + ragsS (xs.drop i) = R ∧ (0 ≤ s ∧ s ≤ 500 * i) ∧ Below w.heap.size w wr) (fun _ _ vi _ => n - (intOf vi).toNat)
  case atStart => exact ⟨0, 0, by omega, rfl, rfl, by rw [List.drop_zero, Int.zero_add]; exact HR0.out.symm, by omega, HB0.out⟩
  case round =>
    clear c0 HU0 HB0 HA
    obtain ⟨i, s, hi, rfl, rfl, hs, hs2, hB⟩ := hrel
    have HS := Lib.hid hs
    have HB := Lib.hid hB
    clear hs hB
    by_cases hlt : i < n
    · obtain ⟨f, hf⟩ : ∃ f, xs[i]? = some f := ⟨xs[i]'(by have := En.out; omega), List.getElem?_eq_getElem _⟩
      obtain ⟨a, rfl, hab, hat⟩ := (HG.out _ HB.out).at_ i f hf
      have HAT := Lib.hid hat
      have HF := Lib.hid hf
      have hgf := HGD.out f (List.mem_of_getElem? hf)
      have h0 := hgf.pos 24 (by omega)
      have h1 := hgf.le (show 24 < 25 by omega)
      obtain ⟨w5, hw5⟩ : ∃ u, u = wr.alloc (.cells (stkCs zeroS) 179) := ⟨_, rfl⟩
      have T5 : Hid (StkOwn w5 wr.heap.size 0 zeroS) := Lib.hid (by rw [hw5]; exact StkOwn.new wr zeroS _)
      obtain ⟨w6, hw6⟩ : ∃ u, u = w5.setCells wr.heap.size 0 (lst 25 (cellS f)) := ⟨_, rfl⟩
      have T6 : StkOwn w6 wr.heap.size 0 f := by rw [hw6]; exact StkOwn.stored T5.out f
      have hb6 : Below wr.heap.size wr w6 := by
        rw [hw6, hw5]
        exact below_cells ((Below.refl _ _).alloc (Nat.le_refl _) _) (Nat.le_refl _) _ _
      have HB6 := Lib.hid (below_next HB.out hb6 (Nat.le_refl _))
      have hc24 : w6.cell? ⟨wr.heap.size, 24, none⟩ = some (.int .i32 (f 24)) := T6.cell 24 (by omega)
      have HST := Lib.hid (rags_step hf)
      obtain ⟨y, hy⟩ : ∃ y, f 24 = y := ⟨_, rfl⟩
      rw [hy] at h0 h1 hc24 HST
      have y0 : IntKind.i64.wrap y = y := wrap_i32 ⟨h0, h1⟩
      have y1 : wrap64 (s + y) = s + y := by unfold wrap64; omega
      have HW5 := Lib.hid hw5
      have HW6 := Lib.hid hw6
      clear hf hat hab hgf hw5 hw6 hb6 T6 hy
      go_wp2_with (first
        | (refine wpl_load_at rfl 179 (.tmp 11) rfl (a.add (i * 25)) rfl (stkC f) _ HAT.out Tryd.underlying179 rfl (by rw [infoS, lst_len]) ?_)
        | (rw [← HW5.out]; refine wpl_store_stk rfl (.tmp 5) (.tmp 12) rfl wr.heap.size 0 rfl (f := f) rfl T5.out ?_; rw [← HW6.out])
        | fail)
      go_roundw
      case rel => exact ⟨i + 1, s + y, by omega, by go_num, rfl, by have := HS.out; rw [HST.out] at this; omega, by omega, HB6.out⟩
      case measure => simp [intOf]; omega
    · obtain rfl : i = n := by omega
      have hfin : s = R := by
        have h1 := HS.out
        rw [List.drop_of_length_le (by have := En.out; omega)] at h1
        simpa [ragsS] using h1
      subst hfin
      go_wp2_with fail
      go_ret
      exact ⟨rfl, HB.out⟩
set_option maxRecDepth 100000 in
set_option maxHeartbeats 8000000 in
theorem l05Rags_any (g n c b : Nat) (xs : List Stk) (t x d : Int) (en : n = xs.length) (hn : n ≤ 4) (hgd : ∀ f ∈ xs, stk.Good f) (w : World) (hA : HouAt w b (.slice (some ⟨g, 0, none⟩) n c) t x d) (hg : Sl stkC 25 w w.heap.size (some ⟨g, 0, none⟩) xs) :
    Calls Tryd.prog 107 #[.pointer (some ⟨b, 0, none⟩)] w fun o w' => o = .returned (.int .i64 (ragsS xs)) ∧ w' = w := by
  obtain ⟨R, hR⟩ : ∃ R, R = ragsS xs := ⟨_, rfl⟩
  rw [← hR]
  have HR0 := Lib.hid hR
  have En := Lib.hid en
  have HGD := Lib.hid hgd
  have HG := Lib.hid hg
  have c0 := hA.c0
  clear hR en hgd hg hA
  go_enter Tryd.func107, Tryd.ntmps107
  go_wp2_with fail
  go_loopw [3, 4] (fun v3 vi wr => ∃ (i : Nat) (s : Int), i ≤ n ∧ vi = .int .i64 (i : Nat) ∧ v3 = .int .i64 s ∧ s + ragsS (xs.drop i) = R ∧ (0 ≤ s ∧ s ≤ 500 * i) ∧ wr = w) (fun _ vi _ => n - (intOf vi).toNat)
  case atStart => exact ⟨0, 0, by omega, rfl, rfl, by rw [List.drop_zero, Int.zero_add]; exact HR0.out.symm, by omega, rfl⟩
  case round =>
    obtain ⟨i, s, hi, rfl, rfl, hs, hs2, rfl⟩ := hrel
    have HS := Lib.hid hs
    clear hs
    by_cases hlt : i < n
    · obtain ⟨f, hf⟩ : ∃ f, xs[i]? = some f := ⟨xs[i]'(by have := En.out; omega), List.getElem?_eq_getElem _⟩
      have T := Sl.stk HG.out (Nat.le_refl _) hf
      have hgf := HGD.out f (List.mem_of_getElem? hf)
      have h0 := hgf.pos 24 (by omega)
      have h1 := hgf.le (show 24 < 25 by omega)
      have hc24 : wr.cell? ⟨g, i * 25 + 24, none⟩ = some (.int .i32 (f 24)) := T.cell 24 (by omega)
      have HST := Lib.hid (rags_step hf)
      obtain ⟨y, hy⟩ : ∃ y, f 24 = y := ⟨_, rfl⟩
      rw [hy] at h0 h1 hc24 HST
      have y0 : IntKind.i64.wrap y = y := wrap_i32 ⟨h0, h1⟩
      have y1 : wrap64 (s + y) = s + y := by unfold wrap64; omega
      clear hf hgf hy T
      go_wp2_with fail
      go_roundw
      case rel => exact ⟨i + 1, s + y, by omega, by go_num, rfl, by have := HS.out; rw [HST.out] at this; omega, by omega, by trivial⟩
      case measure => simp [intOf]; omega
    · obtain rfl : i = n := by omega
      have hfin : s = R := by
        have h1 := HS.out
        rw [List.drop_of_length_le (by have := En.out; omega)] at h1
        simpa [ragsS] using h1
      subst hfin
      go_wp2_with fail
      go_ret
      exact ⟨rfl, rfl⟩
end Go.Proofs.YtdcckdfemelbiaaDoor.hou

/-
  WornOut and FirstShort: the program's and the model's.
-/
namespace Go.Proofs.YtdcckdfemelbiaaDoor.hou
open Go Go.RowKit sl row stk errs fold rows

theorem fin_good {t x : Int} (ht : 0 ≤ t) : ∀ (L : List (List Int)) (s : List Stk × Int), codS t x L s = 0 → (∀ f ∈ s.1, stk.Good f) → (∀ f ∈ (finS t x L s).1, stk.Good f) ∧ (finS t x L s).1.length = s.1.length
  | [], s, _, h => ⟨h, rfl⟩
  | ns :: r, s, hc, h => by
    rw [codS] at hc
    by_cases h0 : codeY s ns = 0
    · rw [if_pos h0] at hc
      obtain ⟨a, b, _⟩ := codeY_zero h0
      obtain ⟨p, q⟩ := fin_good ht r (dayS t x s ns) hc (dayS_good h b ht)
      rw [finS]
      exact ⟨p, q.trans (dayS_len a)⟩
    · rw [if_neg h0] at hc; exact absurd hc h0
theorem codeG_zero {xs : List Stk} {t x d : Int} {L : List (List Int)} (h : codeG xs t x d L = 0) : codeO xs t x d = 0 ∧ L.length ≤ 60 ∧ codS t x L (xs, d) = 0 := by
  unfold codeG at h
  by_cases a : codeO xs t x d = 0
  · rw [if_pos a] at h
    by_cases b : 60 < L.length
    · rw [if_pos b] at h; cases h
    · rw [if_neg b] at h; exact ⟨a, by omega, h⟩
  · rw [if_neg a] at h; cases h
theorem codeG_le (xs : List Stk) (t x d : Int) (L : List (List Int)) : codeG xs t x d L ≤ 4 := by
  unfold codeG
  split
  · split
    · omega
    · rcases codS_or t x L (xs, d) with h | h | h <;> omega
  · omega
theorem codeG_fin {xs : List Stk} {t x d : Int} {L : List (List Int)} (h : codeG xs t x d L = 0) : (∀ f ∈ (finS t x L (xs, d)).1, stk.Good f) ∧ (finS t x L (xs, d)).1.length = xs.length ∧ (1 ≤ xs.length ∧ xs.length ≤ 4) ∧ (∀ f ∈ xs, stk.Good f) := by
  obtain ⟨a, _, b⟩ := codeG_zero h
  obtain ⟨⟨h1, h2, _⟩, h3⟩ := codeO_nums a
  obtain ⟨p, q⟩ := fin_good h2.1 L (xs, d) b h3
  exact ⟨p, q, h1, h3⟩
def wornN (xs : List Stk) (t x d : Int) (L : List (List Int)) : Int := if codeG xs t x d L = 0 then ragsS (finS t x L (xs, d)).1 - ragsS xs else 0
theorem codeErr {w : World} {B : Nat} {e : Nat → Addr} (h : Errs w B e) (i : Nat) (hi : i + 1 ≤ 4) : Calls Tryd.prog 70 #[errV (e i)] w fun o w' => o = .returned (.int .i64 ((i + 1 : Nat) : Int)) ∧ w' = w := by
  refine (codeOf_any h (i + 1) (by omega)).mono ?_
  rintro o u ⟨rfl, rfl⟩
  exact ⟨rfl, rfl⟩
set_option maxRecDepth 100000 in
set_option maxHeartbeats 8000000 in
theorem WornOut_any (A : Option Addr) (n c : Nat) (xs : List Stk) (t x d : Int) (en : n = xs.length) (hn : n ≤ 1048576) (hcap : n ≤ c) (hcm : c ≤ maxLen) (hf : ∀ x ∈ xs, Fits x) (ht : -32768 ≤ t ∧ t ≤ 32767) (hx : -128 ≤ x ∧ x ≤ 127) (hd : -32768 ≤ d ∧ d ≤ 32767)
    (A' : Option Addr) (m c' : Nat) (rs : List Rw) (em : m = rs.length) (hm : m ≤ 9223372036854775807) {w : World} {B : Nat} {e : Nat → Addr} (h : Errs w B e) (hB : B ≤ w.heap.size) (hg : Sl stkC 25 w w.heap.size A xs) (hg' : SS w w.heap.size A' rs) :
    Calls Tryd.prog 51 #[houV (.slice A n c) t x d, .slice A' m c'] w fun o w' => o = .returned (.tuple #[.int .i64 (wornN xs t x d (nums rs)), .int .i64 (codeG xs t x d (nums rs) : Nat)]) ∧ Below w.heap.size w w' := by
  obtain ⟨u0, hu0⟩ : ∃ u0, u0 = w.alloc (.cells #[.slice A n c, .int .i16 t, .int .i8 x, .int .i16 d] 58) := ⟨_, rfl⟩
  have HA := Lib.hid (HouAt.new w (.slice A n c) t x d 58)
  rw [← hu0] at HA
  have hb0 : Below w.heap.size w u0 := by rw [hu0]; exact (Below.refl _ _).alloc (Nat.le_refl _) _
  have HB0 := Lib.hid hb0
  have HU0 := Lib.hid hu0
  have HE : Hid (∀ u, Below w.heap.size w u → Errs u B e ∧ B ≤ u.heap.size ∧ Sl stkC 25 u u.heap.size A xs ∧ SS u u.heap.size A' rs) := Lib.hid fun u hu => ⟨h.below (hu.mono hB), Nat.le_trans hB hu.size, (hg.below hu).more hu.size, (hg'.below hu).more hu.size⟩
  obtain ⟨L, hL⟩ : ∃ L, L = nums rs := ⟨_, rfl⟩
  have HGO := Lib.hid (goThrough_any A n c xs t x d en hn hcap hcm hf ht hx hd A' m c' rs em hm (HE.out _ hb0).1 (HE.out _ hb0).2.1 (HE.out _ hb0).2.2.1 (HE.out _ hb0).2.2.2)
  rw [← hL] at HGO ⊢
  obtain ⟨RES, hRES⟩ : ∃ q, wornN xs t x d L = q := ⟨_, rfl⟩
  obtain ⟨k, hk⟩ : ∃ q, codeG xs t x d L = q := ⟨_, rfl⟩
  rw [hRES, hk]
  have HRES := Lib.hid hRES
  have HK := Lib.hid hk
  have En := Lib.hid en
  have c0 := HA.out.c0
  have c1 := HA.out.c1
  have c2 := HA.out.c2
  have c3 := HA.out.c3
  clear hRES hk hL hu0 hb0 en hn hcap hcm hf ht hx hd em hm h hg hg'
  go_enter Tryd.func51, Tryd.ntmps51
  go_wp2_with (first | (rw [← HU0.out]) | fail)
  refine HGO.out.mono ?_
  rintro o w1 (⟨i, hc, rfl, hb⟩ | ⟨hc, v, vs, rs', rfl, hK, hn', hO, hb⟩)
  · have HC := Lib.hid hc
    have hle := codeG_le xs t x d L
    rw [hc] at hle
    have HB1 := Lib.hid (below_next HB0.out hb (Nat.le_refl _))
    obtain ⟨w2, hw2⟩ : ∃ u, u = w1.alloc (.cells #[.slice none 0 0, .int .i16 0, .int .i8 0, .int .i16 0] 58) := ⟨_, rfl⟩
    have A2 : HouAt w2 w1.heap.size (.slice none 0 0) 0 0 0 := by rw [hw2]; exact HouAt.new w1 _ 0 0 0 _
    have HB3 : Hid (Below w.heap.size w (w2.setCells w1.heap.size 0 (houL (.slice none 0 0) 0 0 0))) := Lib.hid (by rw [hw2]; exact below_cells (HB1.out.alloc HB1.out.size _) HB1.out.size _ _)
    have HW2 := Lib.hid hw2
    have a0 := A2.c0
    have a1 := A2.c1
    have a2 := A2.c2
    have a3 := A2.c3
    have f0 := A2.fz 0
    have f1 := A2.fz 1
    have f2 := A2.fz 2
    have f3 := A2.fz 3
    have hw0 : RES = 0 := by rw [← HRES.out, wornN, hc, if_neg (by omega)]
    have hki : k = i + 1 := HK.out.symm.trans hc
    subst hw0 hki
    clear hc hb hw2 A2 c0 c1 c2 c3
    go_wp2_with (first | (rw [← HW2.out]) | fail)
    refine (codeErr (HE.out _ HB3.out).1 i (by omega)).mono ?_
    rintro o u ⟨rfl, hw⟩
    obtain rfl := hw.symm
    clear hw
    go_wp2_with fail
    go_ret2
    exact ⟨rfl, HB3.out⟩
  · obtain ⟨hfg, hfl, hn14, hgd⟩ := codeG_fin hc
    have HFG := Lib.hid (And.intro hfg (And.intro hfl (And.intro hn14 hgd)))
    obtain ⟨Ab, cb, rfl, hS⟩ := hK.sl
    rw [hfl] at hK ⊢
    have HB1 := Lib.hid (below_next HB0.out hb (Nat.le_refl _))
    have HA1 := Lib.hid (HA.out.next hb)
    obtain ⟨d2, hd2⟩ : ∃ q, q = (finS t x L (xs, d)).2 := ⟨_, rfl⟩
    rw [← hd2]
    obtain ⟨w2, hw2⟩ : ∃ u, u = w1.alloc (.cells #[.slice Ab xs.length cb, .int .i16 t, .int .i8 x, .int .i16 d2] 58) := ⟨_, rfl⟩
    have hb2 : Below w1.heap.size w1 w2 := by rw [hw2]; exact (Below.refl _ _).alloc (Nat.le_refl _) _
    have HA2 := Lib.hid (HA1.out.next hb2)
    have HB2 := Lib.hid (below_next HB1.out hb2 (Nat.le_refl _))
    have A2 : Hid (HouAt w2 w1.heap.size (.slice Ab xs.length cb) t x d2) := Lib.hid (by rw [hw2]; exact HouAt.new w1 _ t x d2 _)
    have HS2 := Lib.hid (hS.next hb2)
    have HW2 := Lib.hid hw2
    have hwn : wornN xs t x d L = ragsS (finS t x L (xs, d)).1 - ragsS xs := by rw [wornN, if_pos hc]
    have hr1 := ragsS_le hfg
    have hr2 := ragsS_le hgd
    rw [hfl] at hr1
    obtain rfl : k = 0 := HK.out.symm.trans hc
    rw [HRES.out] at hwn
    obtain ⟨R1, hR1⟩ : ∃ q, ragsS (finS t x L (xs, d)).1 = q := ⟨_, rfl⟩
    obtain ⟨R2, hR2⟩ : ∃ q, ragsS xs = q := ⟨_, rfl⟩
    rw [hR1, hR2] at hwn
    rw [hR1] at hr1
    rw [hR2] at hr2
    have y1 : wrap64 (R1 - R2) = RES := by unfold wrap64; omega
    have y2 : IntKind.i64.wrap (R1 - R2) = RES := by rw [hwn]; exact IntWalk.i64_in _ (by omega)
    clear hwn
    have HR1 := Lib.hid (And.intro hR1 hR2)
    clear hc hb hK hn' hO hS hb2 hw2 hr1 hr2 hR1 hR2 hfg hfl hn14 hgd hd2 c0 c1 c2 c3 HB1 HA1
    go_wp2_with (first | (rw [← HW2.out]) | fail)
    have B3 := Lib.hid (HB2.out.drew)
    refine wp_region_held_drew (S := fun u => HouAt u w1.heap.size (.slice Ab xs.length cb) t x d2 ∧ HouAt u w.heap.size (.slice A n c) t x d) (by kernel_rfl) ⟨A2.out.next (Below.refl _ _).drew, HA2.out.next (Below.refl _ _).drew⟩ (fun hHeld => ?_)
    have HS3 := Lib.hid (HS2.out.next (Below.refl _ _).drew)
    generalize w2.drew = w3 at B3 hHeld HS3 ⊢
    clear A2 HA2 HS2 HW2 HB2
    refine wpAnyH_take (i := 0) (v := houV (.slice Ab xs.length cb) t x d2) rfl (by kernel_rfl) (by kernel_rfl) (by kernel_rfl) (fun _ _ _ h => h) (yieldsIf_load_mid (by rfl) 58 (.tmp 6) rfl w1.heap.size 0 rfl (houL (.slice Ab xs.length cb) t x d2) _ (fun u h => h.1.range) Tryd.underlying58 rfl (by rw [infoH]; rfl)) hHeld ?_
    (try simp only [Act.put, List.getElem_toArray, List.getElem_cons_zero, List.setIfInBounds_toArray, List.set_cons_zero, List.set_cons_succ])
    refine wpAnyH_take (i := 2) (v := houV (.slice A n c) t x d) rfl (by kernel_rfl) (by kernel_rfl) (by kernel_rfl) (fun _ _ _ h => h) (yieldsIf_load_mid (by rfl) 58 (.tmp 2) rfl w.heap.size 0 rfl (houL (.slice A n c) t x d) _ (fun u h => h.2.range) Tryd.underlying58 rfl (by rw [infoH]; rfl)) hHeld ?_
    (try simp only [Act.put, List.getElem_toArray, List.getElem_cons_zero, List.getElem_cons_succ, List.setIfInBounds_toArray, List.set_cons_zero, List.set_cons_succ])
    refine wpAnyH_ready (rs := [1]) (by kernel_rfl) (by simp) ?_
    refine AllReadyH.cons rfl (fun K hK => ?_) AllReadyH.nil
    go_simp
    refine (rags_any Ab xs.length cb (finS t x L (xs, d)).1 t x d2 HFG.out.2.1.symm HFG.out.2.2.1.2 HFG.out.1 _ HS3.out).mono ?_
    rintro o w4 ⟨rfl, hb⟩
    rw [HR1.out.1]
    have B4 := Lib.hid (below_next B3.out hb (Nat.le_refl _))
    refine hK.out _ _ (⟨hHeld.1.next hb, hHeld.2.next hb⟩) (fun hHeld2 => ?_)
    clear hK K hHeld
    have hHeld := hHeld2
    clear hHeld2
    try simp only [Act.put, List.getElem_toArray, List.getElem_cons_zero, List.getElem_cons_succ, List.setIfInBounds_toArray, List.set_cons_zero, List.set_cons_succ]
    clear hb
    refine wpAnyH_ready (rs := [3]) (by kernel_rfl) (by simp) ?_
    refine AllReadyH.cons rfl (fun K hK => ?_) AllReadyH.nil
    go_simp
    refine (rags_any A n c xs t x d En.out (by rw [En.out]; exact HFG.out.2.2.1.2) HFG.out.2.2.2 _ (HE.out _ B4.out).2.2.1).mono ?_
    rintro o w5 ⟨rfl, hb⟩
    rw [HR1.out.2]
    have B5 := Lib.hid (below_next B4.out hb (Nat.le_refl _))
    refine hK.out _ _ (⟨hHeld.1.next hb, hHeld.2.next hb⟩) (fun hHeld2 => ?_)
    clear hK K hHeld
    have hHeld := hHeld2
    clear hHeld2
    try simp only [Act.put, List.getElem_toArray, List.getElem_cons_zero, List.getElem_cons_succ, List.setIfInBounds_toArray, List.set_cons_zero, List.set_cons_succ]
    clear hb
    refine wpAnyH_take (i := 4) (v := ?_) rfl (by kernel_rfl) (by kernel_rfl) (by kernel_rfl) (fun _ _ _ h => h) (Or.inl ⟨by rfl, ?_⟩) (by assumption) ?_
    rotate_left
    · intro u hSu
      (try dsimp only at hSu)
      first | (go_simp; done) | (go_simp; with_reducible rfl)
    try simp only [Act.put, List.getElem_toArray, List.getElem_cons_zero, List.getElem_cons_succ, List.setIfInBounds_toArray, List.set_cons_zero, List.set_cons_succ]
    refine wpAnyH_take (i := 5) (v := ?_) rfl (by kernel_rfl) (by kernel_rfl) (by kernel_rfl) (fun _ _ _ h => h) (Or.inl ⟨by rfl, ?_⟩) (by assumption) ?_
    rotate_left
    · intro u hSu
      (try dsimp only at hSu)
      first | (go_simp; done) | (go_simp; with_reducible rfl)
    try simp only [Act.put, List.getElem_toArray, List.getElem_cons_zero, List.getElem_cons_succ, List.setIfInBounds_toArray, List.set_cons_zero, List.set_cons_succ]
    refine wpAnyH_take (i := 6) (v := ?_) rfl (by kernel_rfl) (by kernel_rfl) (by kernel_rfl) (fun _ _ _ h => h) (Or.inl ⟨by rfl, ?_⟩) (by assumption) ?_
    rotate_left
    · intro u hSu
      (try dsimp only at hSu)
      first | (go_simp; done) | (go_simp; with_reducible rfl)
    try simp only [Act.put, List.getElem_toArray, List.getElem_cons_zero, List.getElem_cons_succ, List.setIfInBounds_toArray, List.set_cons_zero, List.set_cons_succ]
    refine wpAnyH_done (by kernel_rfl) ?_ _
    go_wp2_with fail
    go_ret2
    exact ⟨rfl, B5.out⟩
set_option maxRecDepth 100000 in
set_option maxHeartbeats 8000000 in
theorem WornOut_spec (g n c : Nat) (xs : List Stk) (t x d : Int) (en : n = xs.length) (hn : n ≤ 1048576) (hf : ∀ x ∈ xs, Fits x) (ht : -32768 ≤ t ∧ t ≤ 32767) (hx : -128 ≤ x ∧ x ≤ 127) (hd : -32768 ≤ d ∧ d ≤ 32767)
    (A' : Option Addr) (m c' : Nat) (rs : List Rw) (em : m = rs.length) (hm : m ≤ 9223372036854775807) (w : World) (hg : Sl stkC 25 w w.heap.size (some ⟨g, 0, none⟩) xs) (hg' : SS w w.heap.size A' rs) :
    Calls Tryd.prog 50 #[houV (.slice (some ⟨g, 0, none⟩) n c) t x d, .slice A' m c'] w fun o w' => o = .returned (.tuple #[.int .i64 (wornN xs t x d (nums rs)), .int .i64 (codeG xs t x d (nums rs) : Nat)]) ∧ Below w.heap.size w w' := by
  obtain ⟨u0, hu0⟩ : ∃ u0, u0 = w.alloc (.cells #[.slice (some ⟨g, 0, none⟩) n c, .int .i16 t, .int .i8 x, .int .i16 d] 58) := ⟨_, rfl⟩
  have HA := Lib.hid (HouAt.new w (.slice (some ⟨g, 0, none⟩) n c) t x d 58)
  rw [← hu0] at HA
  have hb0 : Below w.heap.size w u0 := by rw [hu0]; exact (Below.refl _ _).alloc (Nat.le_refl _) _
  have HB0 := Lib.hid hb0
  have HU0 := Lib.hid hu0
  obtain ⟨L, hL⟩ : ∃ L, L = nums rs := ⟨_, rfl⟩
  have HGO := Lib.hid (DayAll_spec g n c xs t x d en hn hf ht hx hd A' m c' rs em hm u0 ((hg.below hb0).more hb0.size) ((hg'.below hb0).more hb0.size))
  rw [← hL] at HGO ⊢
  obtain ⟨RES, hRES⟩ : ∃ q, wornN xs t x d L = q := ⟨_, rfl⟩
  obtain ⟨k, hk⟩ : ∃ q, codeG xs t x d L = q := ⟨_, rfl⟩
  rw [hRES, hk]
  have HRES := Lib.hid hRES
  have HK := Lib.hid hk
  have HG := Lib.hid (fun (u : World) (hu : Below w.heap.size w u) => (hg.below hu).more hu.size)
  have En := Lib.hid en
  have c0 := HA.out.c0
  have c1 := HA.out.c1
  have c2 := HA.out.c2
  have c3 := HA.out.c3
  clear hRES hk hL hu0 hb0 en hn hf ht hx hd em hm hg hg'
  go_enter Tryd.func50, Tryd.ntmps50
  go_wp2_with (first | (rw [← HU0.out]) | fail)
  refine HGO.out.mono ?_
  rintro o w1 ⟨v, vs, rs', rfl, hK, hn', hO, hb⟩
  have HB1 := Lib.hid (below_next HB0.out hb (Nat.le_refl _))
  have HA1 := Lib.hid (HA.out.next hb)
  generalize dayN xs t x d L t = t1 at hK ⊢
  generalize dayN xs t x d L x = x1 at hK ⊢
  generalize dayN xs t x d L (finS t x L (xs, d)).2 = d1 at hK ⊢
  obtain ⟨Ab, cb, rfl, hS⟩ := hK.sl
  obtain ⟨w2, hw2⟩ : ∃ u, u = w1.alloc (.cells #[.slice Ab (dayK xs t x d L).length cb, .int .i16 t1, .int .i8 x1, .int .i16 d1] 58) := ⟨_, rfl⟩
  have hb2 : Below w1.heap.size w1 w2 := by rw [hw2]; exact (Below.refl _ _).alloc (Nat.le_refl _) _
  have HA2 := Lib.hid (HA1.out.next hb2)
  have HB2 := Lib.hid (below_next HB1.out hb2 (Nat.le_refl _))
  have A2 : Hid (HouAt w2 w1.heap.size (.slice Ab (dayK xs t x d L).length cb) t1 x1 d1) := Lib.hid (by rw [hw2]; exact HouAt.new w1 _ t1 x1 d1 _)
  have HS2 := Lib.hid (hS.next hb2)
  have HSH := Lib.hid hK.shape
  have HW2 := Lib.hid hw2
  rw [HK.out]
  clear hb hK hn' hO hS hb2 hw2 c0 c1 c2 c3 HA1
  cases k with
  | succ i =>
    have hw0 : RES = 0 := by rw [← HRES.out, wornN, HK.out, if_neg (by omega)]
    subst hw0
    have hne : (((i + 1 : Nat) : Int) != 0) = true := by rw [bne_iff_ne]; omega
    have hne2 : (((i : Int) + 1) != 0) = true := by rw [bne_iff_ne]; omega
    go_wp2_with (first | (rw [← HW2.out]) | fail)
    go_ret2
    exact ⟨rfl, HB2.out⟩
  | zero =>
    obtain ⟨hfg, hfl, hn14, hgd⟩ := codeG_fin HK.out
    have hdk : dayK xs t x d L = (finS t x L (xs, d)).1 := by rw [dayK, if_pos HK.out]
    have hwn : wornN xs t x d L = ragsS (finS t x L (xs, d)).1 - ragsS xs := by rw [wornN, if_pos HK.out]
    rw [hdk, hfl] at A2 HSH HW2
    rw [hdk] at HS2
    rw [hdk, hfl]
    rw [HRES.out] at hwn
    obtain ⟨g9, rfl⟩ : ∃ g9, Ab = some ⟨g9, 0, none⟩ := by
      rcases HSH.out with ⟨h1, h2⟩ | ⟨g9, c9, h1, _⟩
      · rw [h2] at hfl; simp at hfl; omega
      · injection h1 with h3 _ _; exact ⟨g9, h3⟩
    have hr1 := ragsS_le hfg
    have hr2 := ragsS_le hgd
    rw [hfl] at hr1
    have HFG := Lib.hid (And.intro hfg (And.intro hfl (And.intro hn14 hgd)))
    obtain ⟨R1, hR1⟩ : ∃ q, ragsS (finS t x L (xs, d)).1 = q := ⟨_, rfl⟩
    obtain ⟨R2, hR2⟩ : ∃ q, ragsS xs = q := ⟨_, rfl⟩
    rw [hR1, hR2] at hwn
    rw [hR1] at hr1
    rw [hR2] at hr2
    have y1 : wrap64 (R1 - R2) = RES := by unfold wrap64; omega
    have y2 : IntKind.i64.wrap (R1 - R2) = RES := by rw [hwn]; exact IntWalk.i64_in _ (by omega)
    clear hwn
    have HR1 := Lib.hid (And.intro hR1 hR2)
    clear hdk hr1 hr2 hR1 hR2 hfg hfl hn14 hgd
    go_wp2_with (first | (rw [← HW2.out]) | fail)
    refine (l05Rags_any g9 xs.length cb w1.heap.size (finS t x L (xs, d)).1 t1 x1 d1 HFG.out.2.1.symm HFG.out.2.2.1.2 HFG.out.1 _ A2.out HS2.out).mono ?_
    rintro o u ⟨rfl, hw⟩
    obtain rfl := hw.symm
    clear hw
    rw [HR1.out.1]
    go_wp2_with fail
    refine (l05Rags_any g n c w.heap.size xs t x d En.out (by rw [En.out]; exact HFG.out.2.2.1.2) HFG.out.2.2.2 _ HA2.out (HG.out _ HB2.out)).mono ?_
    rintro o u ⟨rfl, hw⟩
    obtain rfl := hw.symm
    clear hw
    rw [HR1.out.2]
    go_wp2_with fail
    go_ret2
    exact ⟨rfl, HB2.out⟩
end Go.Proofs.YtdcckdfemelbiaaDoor.hou

/-
  How many days a house lasts: pure.
-/
namespace Go.Proofs.YtdcckdfemelbiaaDoor.hou
open Go Go.RowKit sl row stk errs fold rows

/-- the first short day where so many days are alike -/
def lasF (t x : Int) (ns : List Int) (f : Nat) (s : List Stk × Int) (i : Nat) : Option (Nat × Nat) := fd (shsS t x (List.replicate f ns) s) i
def nedOk (xs : List Stk) (ns : List Int) : Bool := decide (ns.length = xs.length ∧ pcsOk ns = true)
def codeLa (xs : List Stk) (t x d : Int) (ns : List Int) : Nat := if houOk xs t x d = true then (if nedOk xs ns = true then 0 else 2) else 1
def resLa (xs : List Stk) (t x d : Int) (ns : List Int) : Option (Nat × Nat) := if codeLa xs t x d ns = 0 then lasF t x ns 60 (xs, 0) 0 else none
def lasD (o : Option (Nat × Nat)) : Int := match o with | some p => (p.1 : Int) | none => 60
def numLa (xs : List Stk) (t x d : Int) (ns : List Int) : Int := if codeLa xs t x d ns = 0 then lasD (lasF t x ns 60 (xs, 0) 0) else 0
theorem las_step (t x : Int) (ns : List Int) {f : Nat} (s : List Stk × Int) (i : Nat) (h : i < 60) (hf : f = 60 - i) : lasF t x ns f s i = ((fk (useX s.1 ns) 0).map fun k => (i, k)).orElse fun _ => lasF t x ns (60 - (i + 1)) (dayS t x s ns) (i + 1) := by
  subst hf
  rw [lasF, show 60 - i = (60 - (i + 1)) + 1 by omega, List.replicate_succ, shsS, fd]
  rfl
theorem cod_rep (t x : Int) {ns : List Int} (hp : pcsOk ns = true) : ∀ (f : Nat) (s : List Stk × Int), ns.length = s.1.length → 0 ≤ s.2 → s.2 + f ≤ 60 → codS t x (List.replicate f ns) s = 0
  | 0, _, _, _, _ => rfl
  | f + 1, s, h1, h2, h3 => by
    have h0 : codeY s ns = 0 := by rw [codeY, if_pos ⟨h1, hp⟩, if_neg (by omega)]
    rw [List.replicate_succ, codS, if_pos h0]
    refine cod_rep t x hp f _ ?_ ?_ ?_
    · rw [dayS_len h1]; exact h1
    · show 0 ≤ s.2 + 1; omega
    · show s.2 + 1 + _ ≤ 60; omega
theorem shs_lenLa (t x : Int) : ∀ (L : List (List Int)) (s : List Stk × Int), (shsS t x L s).length = L.length
  | [], _ => rfl
  | ns :: r, s => by rw [shsS, List.length_cons, List.length_cons, shs_lenLa t x r]
theorem hou_today {xs : List Stk} {t x d : Int} (h : houOk xs t x d = true) : codeO xs t x 0 = 0 := by
  have h0 : codeO xs t x d = 0 := by rw [codeO, if_pos h]
  obtain ⟨⟨a, b, c, _⟩, g⟩ := codeO_nums h0
  rw [codeO, if_pos]
  unfold houOk at h ⊢
  rw [Bool.and_eq_true] at h ⊢
  exact ⟨numsOk_iff.2 ⟨⟨by omega, by omega⟩, b, c, by omega, by omega⟩, h.2⟩
theorem codeG_rep {xs : List Stk} {t x d : Int} {ns : List Int} (h : houOk xs t x d = true) : codeG xs t x 0 (List.replicate 60 ns) = if nedOk xs ns = true then 0 else 2 := by
  rw [codeG, if_pos (hou_today h), if_neg (by simp)]
  by_cases hn : nedOk xs ns = true
  · rw [if_pos hn]
    obtain ⟨h1, h2⟩ := of_decide_eq_true hn
    exact cod_rep t x h2 60 (xs, 0) h1 (Int.le_refl _) (by show (0 : Int) + _ ≤ 60; omega)
  · rw [if_neg hn, List.replicate_succ]
    have hy : codeY (xs, 0) ns = 2 := by rw [codeY, if_neg (fun hc => hn (decide_eq_true hc))]
    rw [codS, hy]
    rfl
end Go.Proofs.YtdcckdfemelbiaaDoor.hou

/-
  How many days a house lasts: the model's LastsFor.
-/
namespace Go.Proofs.YtdcckdfemelbiaaDoor.hou
open Go Go.RowKit sl row stk errs fold rows

set_option maxRecDepth 100000 in
set_option maxHeartbeats 8000000 in
theorem LastsFor_spec (g n c : Nat) (xs : List Stk) (t x d : Int) (en : n = xs.length) (hn : n ≤ 1048576) (hf : ∀ x ∈ xs, Fits x) (ht : -32768 ≤ t ∧ t ≤ 32767) (hx : -128 ≤ x ∧ x ≤ 127) (hd : -32768 ≤ d ∧ d ≤ 32767)
    (A' : Option Addr) (m c' : Nat) (ns : List Int) (em : m = ns.length) (hm : m ≤ 9223372036854775807) (w : World) (hg : Sl stkC 25 w w.heap.size (some ⟨g, 0, none⟩) xs) (hg' : Sl intS.C 1 w w.heap.size A' ns) :
    Calls Tryd.prog 56 #[houV (.slice (some ⟨g, 0, none⟩) n c) t x d, .slice A' m c'] w fun o w' => o = .returned (.tuple #[.int .i64 (numLa xs t x d ns), .int .i64 (codeLa xs t x d ns : Nat)]) ∧ Below w.heap.size w w' := by
  obtain ⟨u0, hu0⟩ : ∃ u0, u0 = w.alloc (.cells #[.slice (some ⟨g, 0, none⟩) n c, .int .i16 t, .int .i8 x, .int .i16 d] 58) := ⟨_, rfl⟩
  have hA := HouAt.new w (.slice (some ⟨g, 0, none⟩) n c) t x d 58
  rw [← hu0] at hA
  have hb0 : Below w.heap.size w u0 := by rw [hu0]; exact (Below.refl _ _).alloc (Nat.le_refl _) _
  have HA := Lib.hid hA
  have HB0 := Lib.hid hb0
  have HU0 := Lib.hid hu0
  have HE : Hid (∀ u, Below w.heap.size w u → Sl stkC 25 u u.heap.size (some ⟨g, 0, none⟩) xs ∧ Sl intS.C 1 u w.heap.size A' ns) := Lib.hid fun u hu => ⟨(hg.below hu).more hu.size, hg'.below hu⟩
  obtain ⟨q, hq⟩ : ∃ q, houOk xs t x d = q := ⟨_, rfl⟩
  obtain ⟨b, hb⟩ : ∃ b, nedOk xs ns = b := ⟨_, rfl⟩
  obtain ⟨NUM, hNUM⟩ : ∃ q, numLa xs t x d ns = q := ⟨_, rfl⟩
  obtain ⟨COD, hCOD⟩ : ∃ q, codeLa xs t x d ns = q := ⟨_, rfl⟩
  obtain ⟨RES, hRES⟩ : ∃ q, lasF t x ns 60 (xs, 0) 0 = q := ⟨_, rfl⟩
  rw [hNUM, hCOD]
  have hC2 : COD = if q = true then (if b = true then 0 else 2) else 1 := by rw [← hCOD, codeLa, hq, hb]
  have hN2 : NUM = if COD = 0 then lasD RES else 0 := by rw [← hNUM, numLa, hCOD, hRES]
  have hb2 : b = decide (ns.length = n ∧ pcsOk ns = true) := by rw [← hb, nedOk, en]
  have HC2 := Lib.hid hC2
  have HN2 := Lib.hid hN2
  have HB2 := Lib.hid hb2
  have HRES := Lib.hid hRES
  have HQ := Lib.hid hq
  have En := Lib.hid en
  have Em := Lib.hid em
  have HN := Lib.hid hn
  have HM := Lib.hid hm
  have HFT := Lib.hid hf
  have HT := Lib.hid ht
  have HX := Lib.hid hx
  have HD := Lib.hid hd
  have c0 := hA.c0
  have c1 := hA.c1
  have c2 := hA.c2
  have c3 := hA.c3
  clear hu0 hA hb0 hq hb hNUM hCOD hRES hC2 hN2 hb2 en em hn hm hf ht hx hd hg hg'
  go_enter Tryd.func56, Tryd.ntmps56
  go_wp2_with (first | (rw [← HU0.out]) | fail)
  refine (l05Ok_any g n c xs t x d En.out HN.out HFT.out HT.out HX.out HD.out w.heap.size _ HA.out (HE.out _ HB0.out).1 q HQ.out.symm).mono ?_
  rintro o w1 ⟨rfl, hb⟩
  have HA1 := Lib.hid (HA.out.next hb)
  have HB1 := Lib.hid (below_next HB0.out hb (Nat.le_refl _))
  clear hb c0 c1 c2 c3
  have c0 := HA1.out.c0
  have c1 := HA1.out.c1
  have c2 := HA1.out.c2
  have c3 := HA1.out.c3
  cases q with
  | false =>
    obtain rfl : COD = 1 := HC2.out
    obtain rfl : NUM = 0 := HN2.out
    go_wp2_with fail
    go_ret2
    exact ⟨rfl, HB1.out⟩
  | true =>
    have hOK := hou_today HQ.out
    obtain ⟨⟨hn14, ht1, hx1, _⟩, hgd⟩ := codeO_nums hOK
    rw [← En.out] at hn14
    have HN4 := Lib.hid hn14
    have HT1 := Lib.hid ht1
    have HX1 := Lib.hid hx1
    have HGD := Lib.hid hgd
    clear hOK hn14 ht1 hx1 hgd
    have hn63 : n ≤ 9223372036854775807 := by have := HN.out; omega
    go_wp2_with fail
    refine (l05Needs_any A' m c' ns Em.out HM.out n hn63 _ ((HE.out _ HB1.out).2.more HB1.out.size) b HB2.out).mono ?_
    rintro o u ⟨rfl, hw⟩
    obtain rfl := hw.symm
    clear hw
    cases b with
    | false =>
      obtain rfl : COD = 2 := HC2.out
      obtain rfl : NUM = 0 := HN2.out
      go_wp2_with fail
      go_ret2
      exact ⟨rfl, HB1.out⟩
    | true =>
      obtain rfl : COD = 0 := HC2.out
      obtain rfl : NUM = lasD RES := HN2.out
      obtain ⟨hnl, hpc⟩ := of_decide_eq_true HB2.out.symm
      have HNL := Lib.hid hnl
      have HPC := Lib.hid hpc
      clear hnl hpc
      go_wp2_with fail
      refine (l05Own_any g n c xs t x d En.out HN.out w.heap.size _ HA1.out (HE.out _ HB1.out).1).mono ?_
      rintro o w2 ⟨v2, rfl, hK, hb⟩
      have HB2' := Lib.hid (below_next HB1.out hb (Nat.le_refl _))
      obtain ⟨g9, c9, rfl, hg9, hl9⟩ : ∃ g9 c9, v2 = .slice (some ⟨g9, 0, none⟩) n c9 ∧ w1.heap.size ≤ g9 ∧ g9 < w2.heap.size := by
        rcases hK.shape with ⟨_, h0⟩ | ⟨g9, c9, h1, h2⟩
        · have := En.out
          have := HN4.out
          rw [h0] at *
          simp at *
          omega
        · exact ⟨g9, c9, by rw [h1, En.out], h2⟩
      obtain ⟨w3, hw3⟩ : ∃ u, u = w2.alloc (.cells #[.slice (some ⟨g9, 0, none⟩) n c9, .int .i16 t, .int .i8 x, .int .i16 d] 58) := ⟨_, rfl⟩
      have hb3 : Below w2.heap.size w2 w3 := by rw [hw3]; exact (Below.refl _ _).alloc (Nat.le_refl _) _
      have hA3 : HouAt w3 w2.heap.size (.slice (some ⟨g9, 0, none⟩) n c9) t x d := by rw [hw3]; exact HouAt.new w2 _ t x d _
      have K3 : StkOwns w3 w1.heap.size (.slice (some ⟨g9, 0, none⟩) n c9) n (xs.flatMap stkC) := by have ho := (hK.next hb3).o; rwa [← En.out] at ho
      have HB3 := Lib.hid (below_next HB2'.out hb3 (Nat.le_refl _))
      have s3 := hA3.c3
      have f3 := hA3.fz 3
      obtain ⟨w4, hw4⟩ : ∃ u, u = w3.setCell ⟨w2.heap.size, 3, none⟩ (.int .i16 0) := ⟨_, rfl⟩
      have hA4 : HouAt w4 w2.heap.size (.slice (some ⟨g9, 0, none⟩) n c9) t x 0 := by rw [hw4]; exact hA3.day 0
      have hG4 : w3.grownBy w4 (some w2.heap.size) := by rw [hw4]; exact grownBy_cells [.int .i16 0] 3 (grownBy_refl w3 _)
      have K4 := owns_other K3 hG4 (fun k hk => by obtain rfl : g9 = k := Option.some.inj hk; omega)
      have hB4 : Below w.heap.size w w4 := by rw [hw4]; exact HB3.out.setCell (p := ⟨w2.heap.size, 3, none⟩) HB2'.out.size _
      have HA4 := Lib.hid hA4
      have HK4 := Lib.hid K4
      have HB4 := Lib.hid hB4
      have HLT : Hid (w.heap.size ≤ w1.heap.size ∧ w1.heap.size ≤ g9 ∧ g9 < w2.heap.size) := Lib.hid ⟨HB1.out.size, hg9, hl9⟩
      have HW3 := Lib.hid hw3
      have HW4 := Lib.hid hw4
      clear hK hb hb3 hw3 hw4 hA3 hA4 K3 K4 hG4 hB4 hg9 hl9 c0 c1 c2 c3 HB3 HB2'
      go_wp2_with (first | (rw [← HW3.out]) | (rw [← HW4.out]) | fail)
      go_loopw [7, 8, 9, 10] (fun v7 _ _ _ wr => ∃ (i : Nat) (ks : List Stk), i ≤ 60 ∧ v7 = .int .i64 (i : Nat) ∧ HouAt wr w2.heap.size (.slice (some ⟨g9, 0, none⟩) n c9) t x (i : Nat) ∧ StkOwns wr w1.heap.size (.slice (some ⟨g9, 0, none⟩) n c9) n (ks.flatMap stkC) ∧ lasF t x ns (60 - i) (ks, ((i : Nat) : Int)) i = RES ∧ ks.length = n ∧ (∀ f ∈ ks, stk.Good f) ∧ Below w.heap.size w wr) (fun v7 _ _ _ _ => 60 - (intOf v7).toNat)
      case atStart => exact ⟨0, xs, by omega, rfl, HA4.out, HK4.out, HRES.out, En.out.symm, HGD.out, HB4.out⟩
      case round =>
        clear HA4 HK4 HB4 HW3 HW4
        obtain ⟨i, ks, hi', rfl, hA, hK, hres, hkl, hkg, hB⟩ := hrel
        have HA := Lib.hid hA
        have HK := Lib.hid hK
        have HKL := Lib.hid (And.intro hkl hkg)
        have HB := Lib.hid hB
        have HR := Lib.hid hres
        clear hA hK hres hkl hkg hB
        by_cases hlt : i < 60
        · have hst := las_step t x ns (ks, ((i : Nat) : Int)) i hlt rfl
          rw [HR.out] at hst
          have HST := Lib.hid hst
          have hcy : 0 = codeY (ks, ((i : Nat) : Int)) ns := by
            rw [codeY, if_pos ⟨by rw [HNL.out]; exact HKL.out.1.symm, HPC.out⟩, if_neg (by show ¬ (i : Int) = 60; omega)]
          have HCY := Lib.hid hcy
          clear hst hcy
          go_wp2_with fail
          refine (l05Day_any g9 n c9 w2.heap.size ks t x (i : Nat) HKL.out.1.symm HN4.out.1 HN4.out.2 HKL.out.2 HT1.out HX1.out (by omega) w1.heap.size (by have := HLT.out; omega) A' m c' ns Em.out HM.out _ HA.out HK.out ((HE.out _ HB.out).2.more (by have := HLT.out; omega)) 0 HCY.out).mono ?_
          rintro o w7 (⟨j, A0, c0, hkj, _, _⟩ | ⟨_, A7, c7, rfl, hA7, hK7, hP7, hT7⟩)
          · cases hkj
          · obtain ⟨hl0, hpc0, _⟩ := codeY_zero HCY.out.symm
            have hdl : (dayS t x (ks, ((i : Nat) : Int)) ns).1.length = n := by rw [dayS_len hl0]; exact HKL.out.1
            have hdg := dayS_good (t := t) (x := x) (s := (ks, ((i : Nat) : Int))) HKL.out.2 hpc0 HT1.out.1
            have hxl : (useX ks ns).length = n := by rw [useX_len hl0]; exact HKL.out.1
            have hds : dayS t x (ks, ((i : Nat) : Int)) ns = ((dayS t x (ks, ((i : Nat) : Int)) ns).1, ((i + 1 : Nat) : Int)) := Prod.ext rfl (by show (i : Int) + 1 = _; omega)
            have HDY := Lib.hid (And.intro hdl (And.intro hdg hds))
            have HB7 := Lib.hid (HB.out.trans (But.below (B := w.heap.size) hT7 HB.out.size (fun k hk => by have := HLT.out; omega)))
            have HA7 := Lib.hid hA7
            have HK7 := Lib.hid hK7
            have HS7 := Lib.hid (Sl.of_owns hP7 (intS.len _) (by decide))
            obtain ⟨ys, hys⟩ : ∃ ys, ys = useX ks ns := ⟨_, rfl⟩
            rw [← hys] at HST HS7 hxl
            have HYL := Lib.hid hxl
            clear hl0 hpc0 hdl hdg hxl hds hA7 hK7 hP7 hT7 hys HCY
            go_wp2_with fail
            obtain ⟨wo, rfl⟩ : ∃ wo, wo = w7 := ⟨w7, rfl⟩
            go_loopw [10] (fun vj wr => ∃ j : Nat, j ≤ n ∧ vj = .int .i64 (j : Nat) ∧ fk (ys.drop j) j = fk ys 0 ∧ wr = wo) (fun vj _ => n - (intOf vj).toNat)
            case atStart => exact ⟨0, by omega, rfl, rfl, rfl⟩
            case round =>
              obtain ⟨j, hj, rfl, hk, rfl⟩ := hrel
              have HKJ := Lib.hid hk
              clear hk
              by_cases hlj : j < n
              · obtain ⟨x', hx'⟩ : ∃ x', ys[j]? = some x' := ⟨ys[j]'(by have := HYL.out; omega), List.getElem?_eq_getElem _⟩
                obtain ⟨b, rfl, hbb, hat⟩ := HS7.out.at_ j x' hx'
                have q1 := intS.at_ hat
                have hs := fk_step hx' j
                rw [HKJ.out] at hs
                have HS := Lib.hid hs
                clear hx' hat hs
                by_cases hp : 0 < x'
                · have ho : RES = some (i, j) := by
                    have h1 := HST.out
                    rw [HS.out, if_pos hp] at h1
                    exact h1
                  subst ho
                  go_wp2_with fail
                  go_ret2
                  exact ⟨rfl, HB7.out⟩
                · have HN : Hid (fk ys 0 = fk (ys.drop (j + 1)) (j + 1)) := Lib.hid (by rw [HS.out, if_neg hp])
                  go_wp2_with fail
                  go_roundw
                  case rel => exact ⟨j + 1, by omega, by go_num, HN.out.symm, by trivial⟩
                  case measure => simp [intOf]; omega
              · obtain rfl : j = n := by omega
                have hnone : fk ys 0 = none := by
                  have h1 := HKJ.out
                  rw [List.drop_of_length_le (by have := HYL.out; omega)] at h1
                  rw [← h1]; rfl
                have HNN := Lib.hid hnone
                clear hnone
                go_wp2_with fail
                go_roundw
                case rel => exact ⟨i + 1, (dayS t x (ks, ((i : Nat) : Int)) ns).1, by omega, by go_num, HA7.out, HK7.out, by
                  have h1 := HST.out
                  rw [HNN.out, HDY.out.2.2] at h1
                  exact h1.symm, HDY.out.1, HDY.out.2.1, HB7.out⟩
                case measure => simp [intOf]; omega
        · obtain rfl : i = 60 := by omega
          have hno : RES = none := HR.out.symm
          subst hno
          go_wp2_with fail
          go_ret2
          exact ⟨rfl, HB.out⟩
end Go.Proofs.YtdcckdfemelbiaaDoor.hou
