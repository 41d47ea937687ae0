/-
  Several texts of this proof, joined.
-/
import Derived.Test.YtdafnibmoggcnaaDoorJoin19
import Derived.Deep.AppendLies
import Derived.Maps.AppendAt
/-
  Contract of the model's GreedyLoads.
-/
namespace Go.Proofs.YtdafnibmoggcnaaDoor.mem
open Go Go.RowKit errs garS heats meet load sl hang

/-- what GreedyLoads returns -/
structure GreedyRes (r : Nat → Int) (gs : List Gar) (hold : Int) (code : Nat) (ls : List Int) (num : Nat) : Prop where
  fine : code = 0 → Greedy r gs hold gs.length ls num
  fails : code ≠ 0 → ls = [] ∧ num = 0
theorem greedyRes_exists (r : Nat → Int) (gs : List Gar) (hold : Int) (code : Nat) : ∃ ls num, GreedyRes r gs hold code ls num := by
  by_cases h : code = 0
  · obtain ⟨ls, u, hg⟩ := greedy_exists r gs hold gs.length
    exact ⟨ls, u, fun _ => hg, fun h1 => absurd h h1⟩
  · exact ⟨[], 0, fun h1 => absurd h1 h, fun _ => ⟨rfl, rfl⟩⟩
theorem GreedyRes.len {r : Nat → Int} {gs : List Gar} {hold : Int} {code : Nat} {ls : List Int} {num : Nat} (h : GreedyRes r gs hold code ls num) (hn : gs.length ≤ 1048576) : ls.length ≤ 1048576 := by
  by_cases hc : code = 0
  · rw [(h.fine hc).len]; exact hn
  · rw [(h.fails hc).1]; simp
/-- an append inside a region that draws its order, guarded or not -/
theorem step_append_wanted2 {P : Program} {w : World} {ops : Array Oper} {o : Oper} {a : Act} {K : Act → World → Prop} {Q : Exit → Act → World → Prop} {E : Prop} (hw : Region.wanted o (yielded ops a.tmps) = true) (s x : Operand) (t : TypeId)
    (ho : o.op = .call { callee := .builtin .append, args := #[s, x], argTypes := #[t, t] })
    (base : Nat) (e : TypeId) (i : TypeInfo) (z : Value) (size bytes : Nat) (ht : P.underlying t = some (.slice e)) (hi : P.info? e = some i) (hz : i.zero = some z)
    (hsize : i.size = size) (hby : i.bytes = bytes) (hzs : z.cells.size = size) (hsz : 0 < size)
    (v : Value) (n : Nat) (xs : List Value) (hs : a.eval s = v) (hown : w.ownsRow base e size v n xs)
    (ad : Addr) (m c : Nat) (news : List Value) (hx : a.eval x = .slice (some ad) m c) (hl : news.length = m * size) (hnews : ∀ j u, news[j]? = some u → w.cell? (ad.add j) = some u) (h1 : ∀ u ∈ news, u.oneCell' = true)
    (hm : 0 < m) (h63 : n + m ≤ maxLen) (hbytes : (n + m) * bytes ≤ 140737488355328) (hbase : base ≤ w.heap.size) (H : Nat) (hH : w.heap.size = H)
    (h : ∀ g cap w', w'.ownsRow base e size (.slice (some ⟨g, 0, none⟩) (n + m) cap) (n + m) (xs ++ news) → w.grownBy w' v.ownBlock → (v.ownBlock = some g ∨ g = H) → g < w'.heap.size → K (a.put o.dst (.slice (some ⟨g, 0, none⟩) (n + m) cap)) w') :
    if Region.wanted o (yielded ops a.tmps) = true then Oper.wp P o a w K Q else E := by
  rw [if_pos hw]
  exact wp_append_lies (P := P) w s x t ho base e i z size bytes ht hi hz hsize hby hzs hsz v n xs hs hown ad m c news hx hl hnews h1 hm h63 hbytes hbase H hH h
/-- the rules' box, one garment, and nothing that was there in v is changed -/
abbrev DG (r : Nat → Int) (q : Nat) (v : World) (p : Addr) (x : Gar) (u : World) : Prop := SixAt r q u ∧ u.cell? p = some (.int .u8 x.c) ∧ u.cell? ⟨p.block, p.off + 1, none⟩ = some (.int .i8 x.n) ∧ u.cell? ⟨p.block, p.off + 2, none⟩ = some (.int .i8 x.m) ∧ u.cell? ⟨p.block, p.off + 3, none⟩ = some (.int .i16 x.g) ∧ Below v.heap.size v u
theorem DG.b {r : Nat → Int} {q : Nat} {v : World} {p : Addr} {x : Gar} {u : World} (h : DG r q v p x u) : Below v.heap.size v u := by
  obtain ⟨_, _, _, _, _, hb⟩ := h
  exact hb
theorem DG.to {r : Nat → Int} {q : Nat} {v : World} {p : Addr} {x : Gar} {u t : World} (h : DG r q v p x u) (hq : q < v.heap.size) (hp : p.block < v.heap.size) (hb : Below v.heap.size u t) : DG r q v p x t := by
  obtain ⟨h6, c0, c1, c2, c3, hB⟩ := h
  exact ⟨h6.to hb hq, (hb.cell (p := p) hp).trans c0, (hb.cell (p := ⟨p.block, p.off + 1, none⟩) hp).trans c1, (hb.cell (p := ⟨p.block, p.off + 2, none⟩) hp).trans c2, (hb.cell (p := ⟨p.block, p.off + 3, none⟩) hp).trans c3, hB.trans hb⟩
theorem DG.next {r : Nat → Int} {q : Nat} {v : World} {p : Addr} {x : Gar} {u t : World} (h : DG r q v p x u) (hq : q < v.heap.size) (hp : p.block < v.heap.size) (hb : Below u.heap.size u t) : DG r q v p x t := h.to hq hp (hb.mono h.b.size)
theorem DG.alloc {r : Nat → Int} {q : Nat} {v : World} {p : Addr} {x : Gar} {u : World} (h : DG r q v p x u) (hq : q < v.heap.size) (hp : p.block < v.heap.size) (o : Obj) : DG r q v p x (u.alloc o) := h.next hq hp ((Below.refl _ _).alloc (Nat.le_refl _) _)
theorem news4_at {v w2 : World} {a b c d : Value} {T : TypeId} {B : Nat} (hb : Below B ((v.alloc (.cells #[a, b, c, d] T)).drew) w2) (hB : v.heap.size < B) : ∀ j u, [a, b, c, d][j]? = some u → w2.cell? ((⟨v.heap.size, 0, none⟩ : Addr).add j) = some u := fun j u hj =>
  (hb.cell (by rw [sl.block_add]; exact hB)).trans (four_new v a b c d T j u hj)
theorem LS.grow {r : Nat → Int} {w u v : World} {row : Option Nat} (h : LS r w u) (hg : u.grownBy v row) (hr : ∀ k, row = some k → w.heap.size + 1 ≤ k) : LS r w v := by
  have hz := h.2.1
  have hb : Below (w.heap.size + 1) u v := (Below.refl _ _).grown hg (by omega) hr
  exact ⟨h.1.to hb (Nat.lt_succ_self _), Nat.lt_of_lt_of_le hz hb.size, h.2.2.trans (hb.mono (Nat.le_succ _))⟩
end Go.Proofs.YtdafnibmoggcnaaDoor.mem

/-
  What fits with a load: the model's.
-/
namespace Go.Proofs.YtdafnibmoggcnaaDoor.mem
open Go Go.RowKit errs garS heats meet load sl hang

/-- an append inside a region that draws its order, of however many, guarded or not -/
theorem step_append_any {P : Program} {w : World} {ops : Array Oper} {o : Oper} {a : Act} {K : Act → World → Prop} {Q : Exit → Act → World → Prop} {E : Prop} (hw : Region.wanted o (yielded ops a.tmps) = true) (s x : Operand) (t : TypeId)
    (ho : o.op = .call { callee := .builtin .append, args := #[s, x], argTypes := #[t, t] })
    (base : Nat) (e : TypeId) (i : TypeInfo) (z : Value) (size bytes : Nat) (ht : P.underlying t = some (.slice e)) (hi : P.info? e = some i) (hz : i.zero = some z)
    (hsize : i.size = size) (hby : i.bytes = bytes) (hzs : z.cells.size = size) (hsz : 0 < size)
    (v : Value) (n : Nat) (xs : List Value) (hs : a.eval s = v) (hown : w.ownsRow base e size v n xs)
    (ad : Addr) (m c : Nat) (news : List Value) (hx : a.eval x = .slice (some ad) m c) (hl : news.length = m * size) (hnews : ∀ j u, news[j]? = some u → w.cell? (ad.add j) = some u) (h1 : ∀ u ∈ news, u.oneCell' = true)
    (h63 : n + m ≤ maxLen) (hbytes : (n + m) * bytes ≤ 140737488355328) (hbase : base ≤ w.heap.size)
    (h : ∀ v' w', w'.ownsRow base e size v' (n + m) (xs ++ news) → w.grownBy w' v.ownBlock → K (a.put o.dst v') w') :
    if Region.wanted o (yielded ops a.tmps) = true then Oper.wp P o a w K Q else E := by
  rw [if_pos hw]
  obtain ⟨v', w', hr, h2, h3, _, _⟩ := run_append_own_at (P := P) w base t o.type e i z size bytes ht hi hz hsize hby hzs hsz v n xs hown ad m c news hl hnews h1 h63 hbytes hbase
  unfold Oper.wp execOp
  simp only [ho, resolve, invoke, builtin, Sem.run_bind, Sem.run_pure, Result.andThen_ok, List.map_toArray, List.map_cons, List.map_nil, hs, hx, hr]
  exact h v' w' h2 h3
theorem gar_flat (gs : List Gar) : (gs.flatMap Gar.cells).length = gs.length * 4 := by
  induction gs with
  | nil => rfl
  | cons x t ih => rw [List.flatMap_cons, List.length_append, ih, List.length_cons]; simp []; omega
theorem gar_one (gs : List Gar) : ∀ u ∈ gs.flatMap Gar.cells, u.oneCell' = true := by
  intro u hu
  obtain ⟨x, _, hx⟩ := List.mem_flatMap.1 hu
  simp only [Gar.cells, List.mem_cons, List.not_mem_nil, or_false] at hx
  rcases hx with rfl | rfl | rfl | rfl <;> rfl
theorem gs_cells {w : World} {B g : Nat} {gs : List Gar} (h : GS w B (some ⟨g, 0, none⟩) gs) : ∀ j u, (gs.flatMap Gar.cells)[j]? = some u → w.cell? ((⟨g, 0, none⟩ : Addr).add j) = some u := by
  intro j u hu
  have hl := (List.getElem?_eq_some_iff.1 hu).1
  rw [gar_flat] at hl
  have hk : j / 4 < gs.length := by omega
  obtain ⟨b, eb, _, g0, g1, g2, g3⟩ := h.at_ (j / 4) gs[j / 4] (List.getElem?_eq_getElem hk)
  obtain rfl := Option.some.inj eb
  rw [add_lit] at g0 g1 g2 g3 ⊢
  have hj : j = j / 4 * 4 + j % 4 := by omega
  have hr : j % 4 < 4 := Nat.mod_lt _ (by decide)
  have key : ∀ r v, (Gar.cells gs[j / 4])[r]? = some v → (gs.flatMap Gar.cells)[j / 4 * 4 + r]? = some v := fun r v hv => by
    have := flat_get (C := Gar.cells) (sz := 4) (fun y _ => rfl) (List.getElem?_eq_getElem hk) (j := r) (v := v) hv
    exact this
  rw [hj] at hu ⊢
  generalize j % 4 = r at hr hu ⊢
  match r, hr with
  | 0, _ => rw [key 0 _ rfl] at hu; rw [← Option.some.inj hu]; exact g0
  | 1, _ => rw [key 1 _ rfl] at hu; rw [← Option.some.inj hu]; exact g1
  | 2, _ => rw [key 2 _ rfl] at hu; rw [← Option.some.inj hu]; exact g2
  | 3, _ => rw [key 3 _ rfl] at hu; rw [← Option.some.inj hu]; exact g3
theorem one_newF (w : World) (u : Value) (T : TypeId) : ∀ (j : Nat) x, [u][j]? = some x → (w.alloc (.cells #[u] T)).cell? ((⟨w.heap.size, 0, none⟩ : Addr).add j) = some x := by
  intro j x hj
  rw [add_lit, cell_of_row _ _ _ _ _ _ (heap_alloc_new w _)]
  simpa using hj
theorem one_cellF {u : Value} (hu : u.oneCell' = true) : ∀ x ∈ [u], x.oneCell' = true := by
  intro x hx
  rw [List.mem_singleton.1 hx]
  exact hu
theorem loadF_v (r : Nat → Int) (hr : Six r) (hold : Int) (A : Option Addr) (n c : Nat) (gs : List Gar) (hn : n = gs.length) (hs : n ≤ 1048576) (hc : ∀ x ∈ gs, x.c < 6) (w : World) (base : Nat) (t : TypeId) (hg : w.ownsRow base t 4 (.slice A n c) n (gs.flatMap Gar.cells)) (hf : ∀ x ∈ gs, x.Fits) (b : Bool) (hb : b = true ↔ (Pairs r gs ∧ wAll gs ≤ hold)) :
    Calls Tryd.prog 31 #[rulesV r, .int .i64 hold, .slice A n c] w fun o w' => o = .returned (.bool b) ∧ Below w.heap.size w w' :=
  l01Load_any r hr hold A n c gs hn hs hc w (gs_of_owns hg hf) b hb
theorem fit_apart {W : World} {b1 b2 : Nat} {E1 E2 : TypeId} {s1 s2 n1 n2 : Nat} {v1 v2 : Value} {L1 L2 : List Value} (h1 : W.ownsRow b1 E1 s1 v1 n1 L1) (h2 : W.ownsRow b2 E2 s2 v2 n2 L2) (hne : E1 ≠ E2) : ∀ k, v1.ownBlock = some k → v2.ownBlock ≠ some k := by
  intro k hk hk2
  rcases h1.2 with ⟨rfl, _⟩ | ⟨g, cap, cur, rfl, _, hg, _⟩
  · simp [Value.ownBlock] at hk
  · rcases h2.2 with ⟨rfl, _⟩ | ⟨g', cap', cur', rfl, _, hg', _⟩
    · simp [Value.ownBlock] at hk2
    · simp only [Value.ownBlock, Option.some.injEq] at hk hk2
      subst hk
      subst hk2
      rw [hg] at hg'
      cases hg'
      exact hne rfl
/-- the rules in their box, and what lay below another world -/
abbrev LW (r : Nat → Int) (w v u : World) : Prop := SixAt r w.heap.size u ∧ w.heap.size < u.heap.size ∧ Below v.heap.size v u
theorem LW.next {r : Nat → Int} {w v u t : World} (h : LW r w v u) (hb : Below u.heap.size u t) : LW r w v t := ⟨h.1.to hb h.2.1, Nat.lt_of_lt_of_le h.2.1 hb.size, h.2.2.trans (hb.mono h.2.2.size)⟩
theorem LW.b {r : Nat → Int} {w v u : World} (h : LW r w v u) : Below v.heap.size v u := h.2.2
theorem made_after (X : World) (O : Obj) {base : Nat} (hb : base ≤ X.heap.size) : ((X.alloc O).alloc (.cells #[] 56)).ownsRow base 56 4 (.slice (some ⟨X.heap.size + 1, 0, none⟩) 0 0) 0 [] := by
  have h := World.ownsRow_made (base := base) (e := 56) (size := 4) (X.alloc O) #[] 0 (by simp; omega) (Nat.zero_le _) rfl
  rwa [World.size_alloc] at h
theorem undrew {W w4 : World} {row : Option Nat} (h : W.drew.grownBy w4 row) : W.grownBy w4 row := ⟨h.os, h.tape, h.output, h.size, h.block⟩
/-- an element that lay there before a list of the call's own has grown -/
theorem d_between {X w4 : World} {O : Obj} {row : Option Nat} {v0 v1 v2 v3 : Value} {T : TypeId} (hg : ((X.alloc O).alloc (.cells #[v0, v1, v2, v3] T)).grownBy w4 row) (hrow : row = some X.heap.size) : ∀ j u, [v0, v1, v2, v3][j]? = some u → w4.cell? ((⟨X.heap.size + 1, 0, none⟩ : Addr).add j) = some u := fun j u hj => by
  have h := four_new (X.alloc O) v0 v1 v2 v3 T j u hj
  rw [World.size_alloc] at h
  refine (hg.cell_far _ (by rw [garS.block_add]; simp) (by rw [garS.block_add, hrow]; simp)).trans h
theorem d_after {X w4 : World} {O : Obj} {row : Option Nat} {v0 v1 v2 v3 : Value} {T : TypeId} (hg : ((X.alloc (.cells #[v0, v1, v2, v3] T)).alloc O).grownBy w4 row) (hrow : row = some (X.heap.size + 1)) : ∀ j u, [v0, v1, v2, v3][j]? = some u → w4.cell? ((⟨X.heap.size, 0, none⟩ : Addr).add j) = some u := fun j u hj => by
  have h := four_new X v0 v1 v2 v3 T j u hj
  have hb : Below (X.alloc (.cells #[v0, v1, v2, v3] T)).heap.size (X.alloc (.cells #[v0, v1, v2, v3] T)) ((X.alloc (.cells #[v0, v1, v2, v3] T)).alloc O) := (Below.refl _ _).alloc (Nat.le_refl _) _
  refine (hg.cell_far _ (by rw [garS.block_add]; simp; omega) (by rw [garS.block_add, hrow]; simp)).trans ((hb.cell (by rw [garS.block_add]; simp)).trans h)
set_option maxRecDepth 100000 in
set_option maxHeartbeats 16000000 in
theorem FitsWith_spec (r : Nat → Int) (hr : Six r) (hold : Int) (A : Option Addr) (n c : Nat) (gs : List Gar) (en : n = gs.length) (hn : n ≤ 1048576) (A' : Option Addr) (m c' : Nat) (hs : List Gar) (em : m = hs.length) (hm : m ≤ 1048576) (hnm : n + m ≤ 1048576) (hA : ∃ g : Nat, A = some ⟨g, 0, none⟩) (hA' : ∃ g : Nat, A' = some ⟨g, 0, none⟩) (w : World) (hg : GS w w.heap.size A gs) (hg' : GS w w.heap.size A' hs) (fine : Bool) (hfine : decide (1 ≤ hold ∧ hold ≤ 20000) = fine) (ls : List Int) (code : Nat) (hres : FitRes r gs hs hold fine ls code) :
    Calls Tryd.prog 9 #[rulesV r, .int .i64 hold, .slice A n c, .slice A' m c'] w (Own2 w ls code) := by
  obtain ⟨ga, rfl⟩ := hA
  obtain ⟨ga', rfl⟩ := hA'
  obtain ⟨i0, hi, hz0, hz1, hz2⟩ := info_parts intS.info
  obtain ⟨j0, gi, gz0, gz1, gz2⟩ := info_parts gar_info
  have En := Lib.hid en
  have Em := Lib.hid em
  have HF : Hid (fine = true ↔ (1 ≤ hold ∧ hold ≤ 20000)) := Lib.hid (by rw [← hfine]; exact decide_eq_true_iff)
  have HRES := Lib.hid hres
  have HL1 := Lib.hid (gar_flat gs)
  have HL2 := Lib.hid (gar_flat hs)
  have HC1 := Lib.hid (fun (u : World) (hu : Below w.heap.size w u) => gs_cells (hg.below hu))
  have HC2 := Lib.hid (fun (u : World) (hu : Below w.heap.size w u) => gs_cells (hg'.below hu))
  have S0 : Hid (LS r w (w.alloc (.cells (rulesCs r) 28))) := Lib.hid ⟨SixAt.new r w 28, by simp, (Below.refl w.heap.size w).alloc (Nat.le_refl _) _⟩
  obtain ⟨w1, hw1⟩ : ∃ u, u = (w.alloc (.cells (rulesCs r) 28)).alloc (.cells #[] 2) := ⟨_, rfl⟩
  have S1 : Hid (LS r w w1) := Lib.hid (by rw [hw1]; exact S0.out.next ((Below.refl _ _).alloc (Nat.le_refl _) _))
  have P1 : Hid (w1.ownsRow (w.heap.size + 1) 2 1 (.slice (some ⟨w.heap.size + 1, 0, none⟩) 0 0) ([] : List Int).length (([] : List Int).flatMap intS.C)) := Lib.hid (by
    rw [hw1]
    have h := owns_void (w.alloc (.cells (rulesCs r) 28)) (b := w.heap.size + 1) (by simp)
    rw [World.size_alloc] at h
    exact h)
  have HW1 := Lib.hid hw1
  have hV : (w1.alloc (.cells #[] 56)).ownsRow (w.heap.size + 1) 56 4 (.slice (some ⟨w1.heap.size, 0, none⟩) 0 0) 0 [] := World.ownsRow_made (e := 56) (size := 4) w1 #[] 0 (by have := S1.out.2.1; omega) (Nat.zero_le _) rfl
  have HV := Lib.hid hV
  have S2 : Hid (LS r w (w1.alloc (.cells #[] 56))) := Lib.hid (S1.out.next ((Below.refl _ _).alloc (Nat.le_refl _) _))
  have P2 := Lib.hid (owns_next P1.out ((Below.refl w1.heap.size w1).alloc (Nat.le_refl _) (.cells #[] 56)))
  have hsz1 := S1.out.2.1
  clear en em hfine hres hw1 hV S0
  go_enter Tryd.func9, Tryd.ntmps9
  go_wp2_with (first
    | (rw [← HW1.out])
    | (at_builtin; (refine wpList_append_own _ rfl (.tmp 15) (.tmp 16) 30 rfl (w.heap.size + 1) 56 j0 (.agg #[.int .u8 0, .int .i8 0, .int .i8 0, .int .i16 0]) 4 6 Tryd.underlying30 gi gz0 gz1 gz2 rfl (by decide) _ 0 [] rfl HV.out ⟨ga, 0, none⟩ n c (gs.flatMap Gar.cells) rfl (by rw [HL1.out, En.out]) (HC1.out _ S2.out.2.2) (gar_one gs) (by unfold maxLen; omega) (by omega) (by have := S2.out.2.1; omega) ?_); intro v3 w3 hP3 hgr _; have S3 := Lib.hid (LS.grow S2.out hgr (fun g hg => (HV.out.lt g hg).1)); have P3 := Lib.hid (P2.out.kept hgr (.inr fun e => fit_apart P2.out HV.out (by decide) _ rfl e.symm)); have HP3 := Lib.hid hP3; clear hP3 hgr)
    | (at_builtin; go_must (refine wpList_append_own _ rfl (.tmp 17) (.tmp 18) 30 rfl (w.heap.size + 1) 56 j0 (.agg #[.int .u8 0, .int .i8 0, .int .i8 0, .int .i16 0]) 4 6 Tryd.underlying30 gi gz0 gz1 gz2 rfl (by decide) _ _ _ rfl HP3.out ⟨ga', 0, none⟩ m c' (hs.flatMap Gar.cells) rfl (by rw [HL2.out, Em.out]) (HC2.out _ S3.out.2.2) (gar_one hs) (by unfold maxLen; omega) (by omega) (by have := S3.out.2.1; omega) ?_); intro v4 w4 hP4 hgr _; have S4 := Lib.hid (LS.grow S3.out hgr (fun g hg => (HP3.out.lt g hg).1)); have P4 := Lib.hid (P3.out.kept hgr (.inr fun e => fit_apart P3.out HP3.out (by decide) _ rfl e.symm)); have HP4 := Lib.hid hP4; clear hP4 hgr)
    | fail)
  -- the list of both
  have hlen : 0 + n + m = (gs ++ hs).length := by rw [List.length_append, ← En.out, ← Em.out]; omega
  have hPB := HP4.out
  rw [List.nil_append, ← List.flatMap_append] at hPB
  obtain ⟨q, hq⟩ : ∃ q, 0 + n + m = q := ⟨_, rfl⟩
  have hq8 : q ≤ 1048576 := by omega
  rw [hq] at hPB hlen
  clear hq
  obtain ⟨Ab, cb, rfl, _⟩ := owns_slice hPB
  have hfit : ∀ x ∈ gs ++ hs, x.Fits := fun x hx => by
    rcases List.mem_append.1 hx with h | h
    · exact hg.fits x h
    · exact hg'.fits x h
  have HGB := Lib.hid (fun (u : World) (hu : Below w4.heap.size w4 u) => ((gs_of_owns hPB hfit).below hu).more hu.size)
  have HLEN := Lib.hid hlen
  obtain ⟨k0, hk0⟩ : ∃ k0, k0 = codeAsk r (gs ++ hs) fine := ⟨_, rfl⟩
  have HK0 := Lib.hid hk0
  have hle := codeAsk_le r (gs ++ hs) fine
  rw [← hk0] at hle
  have hcf := codeFit_ask r gs hs fine
  rw [← hk0, ← En.out, ← Em.out] at hcf
  have HCF := Lib.hid hcf
  obtain ⟨wv, hwv⟩ : ∃ u, u = w4 := ⟨_, rfl⟩
  obtain ⟨⟨s0, s1, s2, s3, s4, s5⟩, _, _⟩ := S4.out
  have B4 := Lib.hid (Below.refl w4.heap.size w4)
  clear hPB hfit hlen hk0 hcf HP3 HP4 HV S1 S2 S3 P1 P2 P3 HW1 HL2 hwv
  have T0 : Hid (SixAt r w.heap.size w4 ∧ w.heap.size < w4.heap.size ∧ Below w4.heap.size w4 w4) := Lib.hid ⟨S4.out.1, S4.out.2.1, B4.out⟩
  go_region_held3 (fun u => LW r w w4 u)
    (first | assumption | exact T0.out | exact LW.next T0.out (below_drewN _ _ 1) | exact LW.next (by assumption) hb2)
    (first
      | (go_at_call 30; refine (l01Hold_any hold _ fine HF.out).mono ?_; rintro o w2 ⟨rfl, rfl⟩)
      | (go_at_call 29; refine (l01Asked_any r hr Ab q cb (gs ++ hs) HLEN.out hq8 fine _ (HGB.out _ (LW.b (by assumption))) k0 HK0.out).mono ?_; rintro o w2 ⟨rfl, hb2⟩)
      | fail)
  rename_i hS
  have S5 : Hid (LS r w _) := Lib.hid ⟨hS.1, hS.2.1, S4.out.2.2.trans (hS.2.2.mono S4.out.2.2.size)⟩
  have P5 := Lib.hid (owns_next P4.out hS.2.2)
  clear hS T0 B4 s0 s1 s2 s3 s4 s5 HGB S4 P4 HC1 HC2
  obtain ⟨⟨s0, s1, s2, s3, s4, s5⟩, _, _⟩ := S5.out
  by_cases hz : codeFit r gs hs fine = 0
  · have hk : k0 = 0 ∨ (k0 = 3 ∧ n ≤ 8 ∧ m ≤ 8) := by
      have h := HCF.out
      rw [hz] at h
      by_cases hc : k0 = 3 ∧ n ≤ 8 ∧ m ≤ 8
      · exact .inr hc
      · rw [if_neg hc] at h
        exact .inl h.symm
    rcases hk with rfl | ⟨rfl, d1, d2⟩
    · skip
      obtain ⟨_, hva, hvb, _, hn8, hm8⟩ := codeFit_zero hz
      have HCL : Hid (∀ x ∈ gs ++ hs, x.c < 6) := Lib.hid fun x hx => by
        rcases List.mem_append.1 hx with h | h
        · exact (valid_parts (hva x h)).1
        · exact (valid_parts (hvb x h)).1
      rw [← En.out] at hn8
      rw [← Em.out] at hm8
      have HZ := Lib.hid hz
      clear hz hva hvb
      cases hrb : rightB r gs hold with
      | false =>
        obtain ⟨rfl, rfl⟩ := HRES.out.state HZ.out hrb
        have HB2 : Hid (false = true ↔ Pairs r gs ∧ wAll gs ≤ hold) := Lib.hid (by rw [← hrb]; exact rightB_iff r gs hold)
        clear hrb HRES
        go_wp2_with (first | (go_at_call 31; refine (l01Load_any r hr hold (some ⟨ga, 0, none⟩) n c gs En.out hn (fun x hx => HCL.out x (List.mem_append_left _ hx)) _ ((hg.below S5.out.2.2).more S5.out.2.2.size) false HB2.out).mono ?_; rintro o w6 ⟨rfl, hb6⟩; have S6 := Lib.hid (S5.out.next hb6); have P6 := Lib.hid (owns_next P5.out hb6); clear hb6 s0 s1 s2 s3 s4 s5) | fail)
        go_ret2
        exact ⟨_, rfl, owns_below P6.out (Nat.le_succ _), S6.out.2.2⟩
      | true =>
        obtain ⟨rfl, rfl⟩ := HRES.out.good HZ.out hrb
        have HB2 : Hid (true = true ↔ Pairs r gs ∧ wAll gs ≤ hold) := Lib.hid ⟨fun _ => (rightB_iff r gs hold).1 hrb, fun _ => rfl⟩
        have HPR : Hid (Pairs r gs) := Lib.hid (HB2.out.1 rfl).1
        clear hrb HRES
        go_wp2_with (first | (go_at_call 31; refine (l01Load_any r hr hold (some ⟨ga, 0, none⟩) n c gs En.out hn (fun x hx => HCL.out x (List.mem_append_left _ hx)) _ ((hg.below S5.out.2.2).more S5.out.2.2.size) true HB2.out).mono ?_; rintro o w6 ⟨rfl, hb6⟩; have S6 := Lib.hid (S5.out.next hb6); have P6 := Lib.hid (owns_next P5.out hb6); clear hb6 s0 s1 s2 s3 s4 s5) | fail)
        go_loopw [10, 13] (fun vo vi wr => ∃ k : Nat, k ≤ m ∧ vi = .int .i64 k ∧ wr.ownsRow (w.heap.size + 1) 2 1 vo (fitL r gs hold hs k).length ((fitL r gs hold hs k).flatMap intS.C) ∧ LS r w wr) (fun _ vi _ => m - (intOf vi).toNat)
        case atStart => exact ⟨0, by omega, rfl, P6.out, S6.out⟩
        case round =>
          clear S5 P5 S6 P6
          obtain ⟨k, hk, rfl, hP, hS⟩ := hrel
          obtain ⟨Ao, co, rfl, _⟩ := owns_slice hP
          have HP := Lib.hid hP
          have SR := Lib.hid hS
          clear hP hS
          by_cases hlt : k < m
          · obtain ⟨x, hx⟩ : ∃ x, hs[k]? = some x := ⟨hs[k]'(by have := Em.out; omega), List.getElem?_eq_getElem _⟩
            have HX := Lib.hid hx
            obtain ⟨a2, ea2, hab, q0, q1, q2, q3⟩ := (hg'.below SR.out.2.2).at_ k x hx
            obtain rfl := Option.some.inj ea2
            have hqz : w.heap.size < wr.heap.size := SR.out.2.1
            rw [add_lit] at q0 q1 q2 q3
            have hpz : (⟨ga', k * 4, none⟩ : Addr).block < wr.heap.size := Nat.lt_of_lt_of_le hab SR.out.2.2.size
            have D0 : Hid (DG r w.heap.size wr ⟨ga', k * 4, none⟩ x wr) := Lib.hid ⟨SR.out.1, q0, q1, q2, q3, Below.refl _ _⟩
            have wa : (0 : Int) ≤ (k : Int) := by omega
            have wb : (k : Int) < (m : Int) := by omega
            have hfl := fitL_le r gs hold hs k
            have HFL := Lib.hid hfl
            have HCE := Lib.hid (fun (u : World) (hu : Below wr.heap.size wr u) => gs_cells (hg.below (SR.out.2.2.trans (hu.mono SR.out.2.2.size))))
            have hmem : ∀ y ∈ gs ++ [x], y ∈ gs ++ hs := fun y hy => by
              rcases List.mem_append.1 hy with h1 | h1
              · exact List.mem_append_left _ h1
              · rw [List.mem_singleton.1 h1]
                exact List.mem_append_right _ (List.mem_of_getElem? hx)
            have HMC : Hid (∀ y ∈ gs ++ [x], y.c < 6) := Lib.hid fun y hy => HCL.out y (hmem y hy)
            have HMF : Hid (∀ y ∈ gs ++ [x], y.Fits) := Lib.hid fun y hy => by
              rcases List.mem_append.1 (hmem y hy) with h1 | h1
              · exact hg.fits y h1
              · exact hg'.fits y h1
            clear ea2 hx hmem hfl q0 q1 q2 q3
            cases hb : fitB r gs hold x with
            | false =>
              have HBF : Hid (false = true ↔ (Pairs r (gs ++ [x]) ∧ wAll (gs ++ [x]) ≤ hold)) := Lib.hid (by rw [← hb]; exact fitB_iff HPR.out x)
              have HNX := Lib.hid (fitL_no (hold := hold) HX.out (show ¬ fitB r gs hold x = true by rw [hb]; decide))
              clear hb
              go_wp2_with fail
              go_region_held3 (fun u => DG r w.heap.size wr ⟨ga', k * 4, none⟩ x u)
                (first | assumption | exact D0.out | exact D0.out.next hqz hpz (below_drewN _ _ 1) | exact DG.alloc (by assumption) hqz hpz _ | exact DG.to (by assumption) hqz hpz hb3 | exact DG.next (by assumption) hqz hpz hb2)
                (first
                  | (go_at_call 31; go_must (refine (loadF_v r hr hold A5 (n + 1) c5 (gs ++ [x]) (by rw [List.length_append, ← En.out]; rfl) (by omega) HMC.out _ _ _ (by rw [List.flatMap_append]; exact HO5.out) HMF.out false HBF.out).mono ?_); rintro e w6 ⟨rfl, hb2⟩)
                  | ((refine step_append_any (by rfl) (.tmp 60) (.tmp 65) 30 (by rfl) wr.heap.size 56 j0 (.agg #[.int .u8 0, .int .i8 0, .int .i8 0, .int .i16 0]) 4 6 Tryd.underlying30 gi gz0 gz1 gz2 rfl (by decide) _ _ _ (by rfl) (HO4.out.alloc _) ⟨w4.heap.size, 0, none⟩ 1 1 [.int .u8 x.c, .int .i8 x.n, .int .i8 x.m, .int .i16 x.g] (by rfl) (by rfl) (four_new w4 _ _ _ _ _) (four_cell rfl rfl rfl rfl) (by unfold maxLen; omega) (by omega) (by first | (simp; done) | (simp; omega) | omega) ?_); intro v5 w5 hown5 hgr5; have hb3 : Below wr.heap.size _ w5 := Below.grown (Below.refl wr.heap.size _) hgr5 (by first | (simp; done) | (simp; omega) | omega) (fun g hg => (HO4.out.lt g hg).1); rw [Nat.zero_add, List.nil_append] at hown5; obtain ⟨A5, c5, rfl, _⟩ := owns_slice hown5; have HO5 := Lib.hid hown5; clear hown5 hgr5)
                  | (refine step_append_any (by rfl) (.tmp 60) (.tmp 65) 30 (by rfl) wr.heap.size 56 j0 (.agg #[.int .u8 0, .int .i8 0, .int .i8 0, .int .i16 0]) 4 6 Tryd.underlying30 gi gz0 gz1 gz2 rfl (by decide) _ _ _ (by rfl) HO4.out ⟨_, 0, none⟩ 1 1 [.int .u8 x.c, .int .i8 x.n, .int .i8 x.m, .int .i16 x.g] (by rfl) (by rfl) HD4.out (four_cell rfl rfl rfl rfl) (by unfold maxLen; omega) (by omega) (by first | (simp; done) | (simp; omega) | omega) ?_; intro v5 w5 hown5 hgr5; have hb3 : Below wr.heap.size _ w5 := Below.grown (Below.refl wr.heap.size _) hgr5 (by first | (simp; done) | (simp; omega) | omega) (fun g hg => (HO4.out.lt g hg).1); rw [Nat.zero_add, List.nil_append] at hown5; obtain ⟨A5, c5, rfl, _⟩ := owns_slice hown5; have HO5 := Lib.hid hown5; clear hown5 hgr5)
                  | (refine step_append_any (by rfl) (.tmp 58) (.tmp 59) 30 (by rfl) wr.heap.size 56 j0 (.agg #[.int .u8 0, .int .i8 0, .int .i8 0, .int .i16 0]) 4 6 Tryd.underlying30 gi gz0 gz1 gz2 rfl (by decide) _ 0 [] (by rfl) ((World.ownsRow_made (e := 56) (size := 4) _ #[] 0 (by simp) (Nat.zero_le _) rfl).alloc _) ⟨ga, 0, none⟩ n c (gs.flatMap Gar.cells) (by rfl) (by rw [HL1.out, En.out]) (HCE.out _ (DG.b (by assumption))) (gar_one gs) (by unfold maxLen; omega) (by omega) (by first | (simp; done) | (simp; omega) | omega) ?_; go_must (intro v4 w4 hown4 hgr4; have hb3 : Below wr.heap.size _ w4 := Below.grown (Below.refl wr.heap.size _) hgr4 (by first | (simp; done) | (simp; omega) | omega) (fun g hg => by obtain rfl := Option.some.inj hg; simp); have hz4 := hgr4.size; simp at hz4; have HO4 := Lib.hid hown4; have HD4 := Lib.hid (d_between (show ((wr.alloc (.cells #[] 56)).alloc (.cells #[.int .u8 x.c, .int .i8 x.n, .int .i8 x.m, .int .i16 x.g] 56)).grownBy w4 (some wr.heap.size) by first | exact hgr4 | exact undrew hgr4) rfl); clear hown4 hgr4))
                  | (refine step_append_any (by rfl) (.tmp 58) (.tmp 59) 30 (by rfl) wr.heap.size 56 j0 (.agg #[.int .u8 0, .int .i8 0, .int .i8 0, .int .i16 0]) 4 6 Tryd.underlying30 gi gz0 gz1 gz2 rfl (by decide) _ 0 [] (by rfl) (made_after wr _ (Nat.le_refl _)) ⟨ga, 0, none⟩ n c (gs.flatMap Gar.cells) (by rfl) (by rw [HL1.out, En.out]) (HCE.out _ (DG.b (by assumption))) (gar_one gs) (by unfold maxLen; omega) (by omega) (by first | (simp; done) | (simp; omega) | omega) ?_; intro v4 w4 hown4 hgr4; have hb3 : Below wr.heap.size _ w4 := Below.grown (Below.refl wr.heap.size _) hgr4 (by first | (simp; done) | (simp; omega) | omega) (fun g hg => by obtain rfl := Option.some.inj hg; simp); have hz4 := hgr4.size; simp at hz4; have HO4 := Lib.hid hown4; have HD4 := Lib.hid (d_after (show ((wr.alloc (.cells #[.int .u8 x.c, .int .i8 x.n, .int .i8 x.m, .int .i16 x.g] 56)).alloc (.cells #[] 56)).grownBy w4 (some (wr.heap.size + 1)) by first | exact hgr4 | exact undrew hgr4) rfl); clear hown4 hgr4)
                  | (refine step_append_any (by rfl) (.tmp 58) (.tmp 59) 30 (by rfl) wr.heap.size 56 j0 (.agg #[.int .u8 0, .int .i8 0, .int .i8 0, .int .i16 0]) 4 6 Tryd.underlying30 gi gz0 gz1 gz2 rfl (by decide) _ 0 [] (by rfl) (World.ownsRow_made (e := 56) (size := 4) _ #[] 0 (by simp) (Nat.zero_le _) rfl) ⟨ga, 0, none⟩ n c (gs.flatMap Gar.cells) (by rfl) (by rw [HL1.out, En.out]) (HCE.out _ (DG.b (by assumption))) (gar_one gs) (by unfold maxLen; omega) (by omega) (by first | (simp; done) | (simp; omega) | omega) ?_; (intro v4 w4 hown4 hgr4; have hb3 : Below wr.heap.size _ w4 := Below.grown (Below.refl wr.heap.size _) hgr4 (by first | (simp; done) | (simp; omega) | omega) (fun g hg => by obtain rfl := Option.some.inj hg; simp); have hz4 := hgr4.size; simp at hz4; have HO4 := Lib.hid hown4; have HD4 : Hid True := Lib.hid True.intro; clear hown4 hgr4))
                  | fail)
              all_goals
                rename_i hS2
                have SZ := Lib.hid (SR.out.next (DG.b hS2))
                have PZ := Lib.hid (owns_next HP.out (DG.b hS2))
                clear hS2
                go_wp2_with fail
                go_roundw
                case rel => exact ⟨k + 1, by omega, by go_num, by rw [HNX.out]; exact PZ.out, SZ.out⟩
                case measure => simp [intOf]; omega
            | true =>
              have HBT := Lib.hid ((fitB_iff HPR.out x).1 hb)
              have HNX := Lib.hid (fitL_yes (hold := hold) HX.out hb)
              clear hb
              go_wp2_with fail
              go_region_held3 (fun u => DG r w.heap.size wr ⟨ga', k * 4, none⟩ x u)
                (first | assumption | exact D0.out | exact D0.out.next hqz hpz (below_drewN _ _ 1) | exact DG.alloc (by assumption) hqz hpz _ | exact DG.to (by assumption) hqz hpz hb3 | exact DG.next (by assumption) hqz hpz hb2)
                (first
                  | (go_at_call 31; go_must (refine (loadF_v r hr hold A5 (n + 1) c5 (gs ++ [x]) (by rw [List.length_append, ← En.out]; rfl) (by omega) HMC.out _ _ _ (by rw [List.flatMap_append]; exact HO5.out) HMF.out true ⟨fun _ => HBT.out, fun _ => rfl⟩).mono ?_); rintro e w6 ⟨rfl, hb2⟩)
                  | ((refine step_append_any (by rfl) (.tmp 60) (.tmp 65) 30 (by rfl) wr.heap.size 56 j0 (.agg #[.int .u8 0, .int .i8 0, .int .i8 0, .int .i16 0]) 4 6 Tryd.underlying30 gi gz0 gz1 gz2 rfl (by decide) _ _ _ (by rfl) (HO4.out.alloc _) ⟨w4.heap.size, 0, none⟩ 1 1 [.int .u8 x.c, .int .i8 x.n, .int .i8 x.m, .int .i16 x.g] (by rfl) (by rfl) (four_new w4 _ _ _ _ _) (four_cell rfl rfl rfl rfl) (by unfold maxLen; omega) (by omega) (by first | (simp; done) | (simp; omega) | omega) ?_); intro v5 w5 hown5 hgr5; have hb3 : Below wr.heap.size _ w5 := Below.grown (Below.refl wr.heap.size _) hgr5 (by first | (simp; done) | (simp; omega) | omega) (fun g hg => (HO4.out.lt g hg).1); rw [Nat.zero_add, List.nil_append] at hown5; obtain ⟨A5, c5, rfl, _⟩ := owns_slice hown5; have HO5 := Lib.hid hown5; clear hown5 hgr5)
                  | (refine step_append_any (by rfl) (.tmp 60) (.tmp 65) 30 (by rfl) wr.heap.size 56 j0 (.agg #[.int .u8 0, .int .i8 0, .int .i8 0, .int .i16 0]) 4 6 Tryd.underlying30 gi gz0 gz1 gz2 rfl (by decide) _ _ _ (by rfl) HO4.out ⟨_, 0, none⟩ 1 1 [.int .u8 x.c, .int .i8 x.n, .int .i8 x.m, .int .i16 x.g] (by rfl) (by rfl) HD4.out (four_cell rfl rfl rfl rfl) (by unfold maxLen; omega) (by omega) (by first | (simp; done) | (simp; omega) | omega) ?_; intro v5 w5 hown5 hgr5; have hb3 : Below wr.heap.size _ w5 := Below.grown (Below.refl wr.heap.size _) hgr5 (by first | (simp; done) | (simp; omega) | omega) (fun g hg => (HO4.out.lt g hg).1); rw [Nat.zero_add, List.nil_append] at hown5; obtain ⟨A5, c5, rfl, _⟩ := owns_slice hown5; have HO5 := Lib.hid hown5; clear hown5 hgr5)
                  | (refine step_append_any (by rfl) (.tmp 58) (.tmp 59) 30 (by rfl) wr.heap.size 56 j0 (.agg #[.int .u8 0, .int .i8 0, .int .i8 0, .int .i16 0]) 4 6 Tryd.underlying30 gi gz0 gz1 gz2 rfl (by decide) _ 0 [] (by rfl) ((World.ownsRow_made (e := 56) (size := 4) _ #[] 0 (by simp) (Nat.zero_le _) rfl).alloc _) ⟨ga, 0, none⟩ n c (gs.flatMap Gar.cells) (by rfl) (by rw [HL1.out, En.out]) (HCE.out _ (DG.b (by assumption))) (gar_one gs) (by unfold maxLen; omega) (by omega) (by first | (simp; done) | (simp; omega) | omega) ?_; go_must (intro v4 w4 hown4 hgr4; have hb3 : Below wr.heap.size _ w4 := Below.grown (Below.refl wr.heap.size _) hgr4 (by first | (simp; done) | (simp; omega) | omega) (fun g hg => by obtain rfl := Option.some.inj hg; simp); have hz4 := hgr4.size; simp at hz4; have HO4 := Lib.hid hown4; have HD4 := Lib.hid (d_between (show ((wr.alloc (.cells #[] 56)).alloc (.cells #[.int .u8 x.c, .int .i8 x.n, .int .i8 x.m, .int .i16 x.g] 56)).grownBy w4 (some wr.heap.size) by first | exact hgr4 | exact undrew hgr4) rfl); clear hown4 hgr4))
                  | (refine step_append_any (by rfl) (.tmp 58) (.tmp 59) 30 (by rfl) wr.heap.size 56 j0 (.agg #[.int .u8 0, .int .i8 0, .int .i8 0, .int .i16 0]) 4 6 Tryd.underlying30 gi gz0 gz1 gz2 rfl (by decide) _ 0 [] (by rfl) (made_after wr _ (Nat.le_refl _)) ⟨ga, 0, none⟩ n c (gs.flatMap Gar.cells) (by rfl) (by rw [HL1.out, En.out]) (HCE.out _ (DG.b (by assumption))) (gar_one gs) (by unfold maxLen; omega) (by omega) (by first | (simp; done) | (simp; omega) | omega) ?_; intro v4 w4 hown4 hgr4; have hb3 : Below wr.heap.size _ w4 := Below.grown (Below.refl wr.heap.size _) hgr4 (by first | (simp; done) | (simp; omega) | omega) (fun g hg => by obtain rfl := Option.some.inj hg; simp); have hz4 := hgr4.size; simp at hz4; have HO4 := Lib.hid hown4; have HD4 := Lib.hid (d_after (show ((wr.alloc (.cells #[.int .u8 x.c, .int .i8 x.n, .int .i8 x.m, .int .i16 x.g] 56)).alloc (.cells #[] 56)).grownBy w4 (some (wr.heap.size + 1)) by first | exact hgr4 | exact undrew hgr4) rfl); clear hown4 hgr4)
                  | (refine step_append_any (by rfl) (.tmp 58) (.tmp 59) 30 (by rfl) wr.heap.size 56 j0 (.agg #[.int .u8 0, .int .i8 0, .int .i8 0, .int .i16 0]) 4 6 Tryd.underlying30 gi gz0 gz1 gz2 rfl (by decide) _ 0 [] (by rfl) (World.ownsRow_made (e := 56) (size := 4) _ #[] 0 (by simp) (Nat.zero_le _) rfl) ⟨ga, 0, none⟩ n c (gs.flatMap Gar.cells) (by rfl) (by rw [HL1.out, En.out]) (HCE.out _ (DG.b (by assumption))) (gar_one gs) (by unfold maxLen; omega) (by omega) (by first | (simp; done) | (simp; omega) | omega) ?_; (intro v4 w4 hown4 hgr4; have hb3 : Below wr.heap.size _ w4 := Below.grown (Below.refl wr.heap.size _) hgr4 (by first | (simp; done) | (simp; omega) | omega) (fun g hg => by obtain rfl := Option.some.inj hg; simp); have hz4 := hgr4.size; simp at hz4; have HO4 := Lib.hid hown4; have HD4 : Hid True := Lib.hid True.intro; clear hown4 hgr4))
                  | fail)
              all_goals
                rename_i hS2
                have SZ := Lib.hid (SR.out.next (DG.b hS2))
                have PZ := Lib.hid (owns_next HP.out (DG.b hS2))
                have hzz := SZ.out.2.1
                have hfl := HFL.out
                clear hS2
                go_wp2_with (first | (at_builtin; refine wpList_append_own _ rfl (.tmp 68) (.tmp 70) 25 rfl (w.heap.size + 1) 2 i0 (.int .i64 0) 1 8 Tryd.underlying25 hi hz0 hz1 hz2 rfl (by decide) _ _ _ rfl (PZ.out.alloc _) ⟨_, 0, none⟩ 1 1 [.int .i64 (k : Int)] rfl rfl (one_newF _ _ _) (one_cellF (by rfl)) (by unfold maxLen; omega) (by omega) (by simp; omega) ?_; intro v7 w7 hP7 hgr _; have S7 := Lib.hid (LS.grow ((SZ.out.next ((Below.refl _ _).alloc (Nat.le_refl _) _))) hgr (fun g hg => (PZ.out.lt g hg).1)); have P7 := Lib.hid hP7; clear hP7 hgr) | fail)
                go_roundw
                case rel =>
                  have hp7 := P7.out
                  have e : (fitL r gs hold hs k ++ [(k : Int)]).flatMap intS.C = (fitL r gs hold hs k).flatMap intS.C ++ [.int .i64 (k : Int)] := by simp [intS.C]
                  rw [← e] at hp7
                  exact ⟨k + 1, by omega, by go_num, by rw [HNX.out, List.length_append]; exact hp7, S7.out⟩
                case measure => simp [intOf]; omega
          · obtain rfl : k = m := by omega
            go_wp2_with fail
            go_ret2
            refine ⟨_, rfl, ?_, SR.out.2.2⟩
            rw [← Em.out]
            exact owns_below HP.out (Nat.le_succ _)
    · have d1 : decide ((n : Int) ≤ 8) = true := decide_eq_true (by omega)
      have d2 : decide ((m : Int) ≤ 8) = true := decide_eq_true (by omega)
      obtain ⟨_, hva, hvb, _, hn8, hm8⟩ := codeFit_zero hz
      have HCL : Hid (∀ x ∈ gs ++ hs, x.c < 6) := Lib.hid fun x hx => by
        rcases List.mem_append.1 hx with h | h
        · exact (valid_parts (hva x h)).1
        · exact (valid_parts (hvb x h)).1
      rw [← En.out] at hn8
      rw [← Em.out] at hm8
      have HZ := Lib.hid hz
      clear hz hva hvb
      cases hrb : rightB r gs hold with
      | false =>
        obtain ⟨rfl, rfl⟩ := HRES.out.state HZ.out hrb
        have HB2 : Hid (false = true ↔ Pairs r gs ∧ wAll gs ≤ hold) := Lib.hid (by rw [← hrb]; exact rightB_iff r gs hold)
        clear hrb HRES
        go_wp2_with (first | (go_at_call 31; refine (l01Load_any r hr hold (some ⟨ga, 0, none⟩) n c gs En.out hn (fun x hx => HCL.out x (List.mem_append_left _ hx)) _ ((hg.below S5.out.2.2).more S5.out.2.2.size) false HB2.out).mono ?_; rintro o w6 ⟨rfl, hb6⟩; have S6 := Lib.hid (S5.out.next hb6); have P6 := Lib.hid (owns_next P5.out hb6); clear hb6 s0 s1 s2 s3 s4 s5) | fail)
        go_ret2
        exact ⟨_, rfl, owns_below P6.out (Nat.le_succ _), S6.out.2.2⟩
      | true =>
        obtain ⟨rfl, rfl⟩ := HRES.out.good HZ.out hrb
        have HB2 : Hid (true = true ↔ Pairs r gs ∧ wAll gs ≤ hold) := Lib.hid ⟨fun _ => (rightB_iff r gs hold).1 hrb, fun _ => rfl⟩
        have HPR : Hid (Pairs r gs) := Lib.hid (HB2.out.1 rfl).1
        clear hrb HRES
        go_wp2_with (first | (go_at_call 31; refine (l01Load_any r hr hold (some ⟨ga, 0, none⟩) n c gs En.out hn (fun x hx => HCL.out x (List.mem_append_left _ hx)) _ ((hg.below S5.out.2.2).more S5.out.2.2.size) true HB2.out).mono ?_; rintro o w6 ⟨rfl, hb6⟩; have S6 := Lib.hid (S5.out.next hb6); have P6 := Lib.hid (owns_next P5.out hb6); clear hb6 s0 s1 s2 s3 s4 s5) | fail)
        go_loopw [10, 13] (fun vo vi wr => ∃ k : Nat, k ≤ m ∧ vi = .int .i64 k ∧ wr.ownsRow (w.heap.size + 1) 2 1 vo (fitL r gs hold hs k).length ((fitL r gs hold hs k).flatMap intS.C) ∧ LS r w wr) (fun _ vi _ => m - (intOf vi).toNat)
        case atStart => exact ⟨0, by omega, rfl, P6.out, S6.out⟩
        case round =>
          clear S5 P5 S6 P6
          obtain ⟨k, hk, rfl, hP, hS⟩ := hrel
          obtain ⟨Ao, co, rfl, _⟩ := owns_slice hP
          have HP := Lib.hid hP
          have SR := Lib.hid hS
          clear hP hS
          by_cases hlt : k < m
          · obtain ⟨x, hx⟩ : ∃ x, hs[k]? = some x := ⟨hs[k]'(by have := Em.out; omega), List.getElem?_eq_getElem _⟩
            have HX := Lib.hid hx
            obtain ⟨a2, ea2, hab, q0, q1, q2, q3⟩ := (hg'.below SR.out.2.2).at_ k x hx
            obtain rfl := Option.some.inj ea2
            have hqz : w.heap.size < wr.heap.size := SR.out.2.1
            rw [add_lit] at q0 q1 q2 q3
            have hpz : (⟨ga', k * 4, none⟩ : Addr).block < wr.heap.size := Nat.lt_of_lt_of_le hab SR.out.2.2.size
            have D0 : Hid (DG r w.heap.size wr ⟨ga', k * 4, none⟩ x wr) := Lib.hid ⟨SR.out.1, q0, q1, q2, q3, Below.refl _ _⟩
            have wa : (0 : Int) ≤ (k : Int) := by omega
            have wb : (k : Int) < (m : Int) := by omega
            have hfl := fitL_le r gs hold hs k
            have HFL := Lib.hid hfl
            have HCE := Lib.hid (fun (u : World) (hu : Below wr.heap.size wr u) => gs_cells (hg.below (SR.out.2.2.trans (hu.mono SR.out.2.2.size))))
            have hmem : ∀ y ∈ gs ++ [x], y ∈ gs ++ hs := fun y hy => by
              rcases List.mem_append.1 hy with h1 | h1
              · exact List.mem_append_left _ h1
              · rw [List.mem_singleton.1 h1]
                exact List.mem_append_right _ (List.mem_of_getElem? hx)
            have HMC : Hid (∀ y ∈ gs ++ [x], y.c < 6) := Lib.hid fun y hy => HCL.out y (hmem y hy)
            have HMF : Hid (∀ y ∈ gs ++ [x], y.Fits) := Lib.hid fun y hy => by
              rcases List.mem_append.1 (hmem y hy) with h1 | h1
              · exact hg.fits y h1
              · exact hg'.fits y h1
            clear ea2 hx hmem hfl q0 q1 q2 q3
            cases hb : fitB r gs hold x with
            | false =>
              have HBF : Hid (false = true ↔ (Pairs r (gs ++ [x]) ∧ wAll (gs ++ [x]) ≤ hold)) := Lib.hid (by rw [← hb]; exact fitB_iff HPR.out x)
              have HNX := Lib.hid (fitL_no (hold := hold) HX.out (show ¬ fitB r gs hold x = true by rw [hb]; decide))
              clear hb
              go_wp2_with fail
              go_region_held3 (fun u => DG r w.heap.size wr ⟨ga', k * 4, none⟩ x u)
                (first | assumption | exact D0.out | exact D0.out.next hqz hpz (below_drewN _ _ 1) | exact DG.alloc (by assumption) hqz hpz _ | exact DG.to (by assumption) hqz hpz hb3 | exact DG.next (by assumption) hqz hpz hb2)
                (first
                  | (go_at_call 31; go_must (refine (loadF_v r hr hold A5 (n + 1) c5 (gs ++ [x]) (by rw [List.length_append, ← En.out]; rfl) (by omega) HMC.out _ _ _ (by rw [List.flatMap_append]; exact HO5.out) HMF.out false HBF.out).mono ?_); rintro e w6 ⟨rfl, hb2⟩)
                  | ((refine step_append_any (by rfl) (.tmp 60) (.tmp 65) 30 (by rfl) wr.heap.size 56 j0 (.agg #[.int .u8 0, .int .i8 0, .int .i8 0, .int .i16 0]) 4 6 Tryd.underlying30 gi gz0 gz1 gz2 rfl (by decide) _ _ _ (by rfl) (HO4.out.alloc _) ⟨w4.heap.size, 0, none⟩ 1 1 [.int .u8 x.c, .int .i8 x.n, .int .i8 x.m, .int .i16 x.g] (by rfl) (by rfl) (four_new w4 _ _ _ _ _) (four_cell rfl rfl rfl rfl) (by unfold maxLen; omega) (by omega) (by first | (simp; done) | (simp; omega) | omega) ?_); intro v5 w5 hown5 hgr5; have hb3 : Below wr.heap.size _ w5 := Below.grown (Below.refl wr.heap.size _) hgr5 (by first | (simp; done) | (simp; omega) | omega) (fun g hg => (HO4.out.lt g hg).1); rw [Nat.zero_add, List.nil_append] at hown5; obtain ⟨A5, c5, rfl, _⟩ := owns_slice hown5; have HO5 := Lib.hid hown5; clear hown5 hgr5)
                  | (refine step_append_any (by rfl) (.tmp 60) (.tmp 65) 30 (by rfl) wr.heap.size 56 j0 (.agg #[.int .u8 0, .int .i8 0, .int .i8 0, .int .i16 0]) 4 6 Tryd.underlying30 gi gz0 gz1 gz2 rfl (by decide) _ _ _ (by rfl) HO4.out ⟨_, 0, none⟩ 1 1 [.int .u8 x.c, .int .i8 x.n, .int .i8 x.m, .int .i16 x.g] (by rfl) (by rfl) HD4.out (four_cell rfl rfl rfl rfl) (by unfold maxLen; omega) (by omega) (by first | (simp; done) | (simp; omega) | omega) ?_; intro v5 w5 hown5 hgr5; have hb3 : Below wr.heap.size _ w5 := Below.grown (Below.refl wr.heap.size _) hgr5 (by first | (simp; done) | (simp; omega) | omega) (fun g hg => (HO4.out.lt g hg).1); rw [Nat.zero_add, List.nil_append] at hown5; obtain ⟨A5, c5, rfl, _⟩ := owns_slice hown5; have HO5 := Lib.hid hown5; clear hown5 hgr5)
                  | (refine step_append_any (by rfl) (.tmp 58) (.tmp 59) 30 (by rfl) wr.heap.size 56 j0 (.agg #[.int .u8 0, .int .i8 0, .int .i8 0, .int .i16 0]) 4 6 Tryd.underlying30 gi gz0 gz1 gz2 rfl (by decide) _ 0 [] (by rfl) ((World.ownsRow_made (e := 56) (size := 4) _ #[] 0 (by simp) (Nat.zero_le _) rfl).alloc _) ⟨ga, 0, none⟩ n c (gs.flatMap Gar.cells) (by rfl) (by rw [HL1.out, En.out]) (HCE.out _ (DG.b (by assumption))) (gar_one gs) (by unfold maxLen; omega) (by omega) (by first | (simp; done) | (simp; omega) | omega) ?_; go_must (intro v4 w4 hown4 hgr4; have hb3 : Below wr.heap.size _ w4 := Below.grown (Below.refl wr.heap.size _) hgr4 (by first | (simp; done) | (simp; omega) | omega) (fun g hg => by obtain rfl := Option.some.inj hg; simp); have hz4 := hgr4.size; simp at hz4; have HO4 := Lib.hid hown4; have HD4 := Lib.hid (d_between (show ((wr.alloc (.cells #[] 56)).alloc (.cells #[.int .u8 x.c, .int .i8 x.n, .int .i8 x.m, .int .i16 x.g] 56)).grownBy w4 (some wr.heap.size) by first | exact hgr4 | exact undrew hgr4) rfl); clear hown4 hgr4))
                  | (refine step_append_any (by rfl) (.tmp 58) (.tmp 59) 30 (by rfl) wr.heap.size 56 j0 (.agg #[.int .u8 0, .int .i8 0, .int .i8 0, .int .i16 0]) 4 6 Tryd.underlying30 gi gz0 gz1 gz2 rfl (by decide) _ 0 [] (by rfl) (made_after wr _ (Nat.le_refl _)) ⟨ga, 0, none⟩ n c (gs.flatMap Gar.cells) (by rfl) (by rw [HL1.out, En.out]) (HCE.out _ (DG.b (by assumption))) (gar_one gs) (by unfold maxLen; omega) (by omega) (by first | (simp; done) | (simp; omega) | omega) ?_; intro v4 w4 hown4 hgr4; have hb3 : Below wr.heap.size _ w4 := Below.grown (Below.refl wr.heap.size _) hgr4 (by first | (simp; done) | (simp; omega) | omega) (fun g hg => by obtain rfl := Option.some.inj hg; simp); have hz4 := hgr4.size; simp at hz4; have HO4 := Lib.hid hown4; have HD4 := Lib.hid (d_after (show ((wr.alloc (.cells #[.int .u8 x.c, .int .i8 x.n, .int .i8 x.m, .int .i16 x.g] 56)).alloc (.cells #[] 56)).grownBy w4 (some (wr.heap.size + 1)) by first | exact hgr4 | exact undrew hgr4) rfl); clear hown4 hgr4)
                  | (refine step_append_any (by rfl) (.tmp 58) (.tmp 59) 30 (by rfl) wr.heap.size 56 j0 (.agg #[.int .u8 0, .int .i8 0, .int .i8 0, .int .i16 0]) 4 6 Tryd.underlying30 gi gz0 gz1 gz2 rfl (by decide) _ 0 [] (by rfl) (World.ownsRow_made (e := 56) (size := 4) _ #[] 0 (by simp) (Nat.zero_le _) rfl) ⟨ga, 0, none⟩ n c (gs.flatMap Gar.cells) (by rfl) (by rw [HL1.out, En.out]) (HCE.out _ (DG.b (by assumption))) (gar_one gs) (by unfold maxLen; omega) (by omega) (by first | (simp; done) | (simp; omega) | omega) ?_; (intro v4 w4 hown4 hgr4; have hb3 : Below wr.heap.size _ w4 := Below.grown (Below.refl wr.heap.size _) hgr4 (by first | (simp; done) | (simp; omega) | omega) (fun g hg => by obtain rfl := Option.some.inj hg; simp); have hz4 := hgr4.size; simp at hz4; have HO4 := Lib.hid hown4; have HD4 : Hid True := Lib.hid True.intro; clear hown4 hgr4))
                  | fail)
              all_goals
                rename_i hS2
                have SZ := Lib.hid (SR.out.next (DG.b hS2))
                have PZ := Lib.hid (owns_next HP.out (DG.b hS2))
                clear hS2
                go_wp2_with fail
                go_roundw
                case rel => exact ⟨k + 1, by omega, by go_num, by rw [HNX.out]; exact PZ.out, SZ.out⟩
                case measure => simp [intOf]; omega
            | true =>
              have HBT := Lib.hid ((fitB_iff HPR.out x).1 hb)
              have HNX := Lib.hid (fitL_yes (hold := hold) HX.out hb)
              clear hb
              go_wp2_with fail
              go_region_held3 (fun u => DG r w.heap.size wr ⟨ga', k * 4, none⟩ x u)
                (first | assumption | exact D0.out | exact D0.out.next hqz hpz (below_drewN _ _ 1) | exact DG.alloc (by assumption) hqz hpz _ | exact DG.to (by assumption) hqz hpz hb3 | exact DG.next (by assumption) hqz hpz hb2)
                (first
                  | (go_at_call 31; go_must (refine (loadF_v r hr hold A5 (n + 1) c5 (gs ++ [x]) (by rw [List.length_append, ← En.out]; rfl) (by omega) HMC.out _ _ _ (by rw [List.flatMap_append]; exact HO5.out) HMF.out true ⟨fun _ => HBT.out, fun _ => rfl⟩).mono ?_); rintro e w6 ⟨rfl, hb2⟩)
                  | ((refine step_append_any (by rfl) (.tmp 60) (.tmp 65) 30 (by rfl) wr.heap.size 56 j0 (.agg #[.int .u8 0, .int .i8 0, .int .i8 0, .int .i16 0]) 4 6 Tryd.underlying30 gi gz0 gz1 gz2 rfl (by decide) _ _ _ (by rfl) (HO4.out.alloc _) ⟨w4.heap.size, 0, none⟩ 1 1 [.int .u8 x.c, .int .i8 x.n, .int .i8 x.m, .int .i16 x.g] (by rfl) (by rfl) (four_new w4 _ _ _ _ _) (four_cell rfl rfl rfl rfl) (by unfold maxLen; omega) (by omega) (by first | (simp; done) | (simp; omega) | omega) ?_); intro v5 w5 hown5 hgr5; have hb3 : Below wr.heap.size _ w5 := Below.grown (Below.refl wr.heap.size _) hgr5 (by first | (simp; done) | (simp; omega) | omega) (fun g hg => (HO4.out.lt g hg).1); rw [Nat.zero_add, List.nil_append] at hown5; obtain ⟨A5, c5, rfl, _⟩ := owns_slice hown5; have HO5 := Lib.hid hown5; clear hown5 hgr5)
                  | (refine step_append_any (by rfl) (.tmp 60) (.tmp 65) 30 (by rfl) wr.heap.size 56 j0 (.agg #[.int .u8 0, .int .i8 0, .int .i8 0, .int .i16 0]) 4 6 Tryd.underlying30 gi gz0 gz1 gz2 rfl (by decide) _ _ _ (by rfl) HO4.out ⟨_, 0, none⟩ 1 1 [.int .u8 x.c, .int .i8 x.n, .int .i8 x.m, .int .i16 x.g] (by rfl) (by rfl) HD4.out (four_cell rfl rfl rfl rfl) (by unfold maxLen; omega) (by omega) (by first | (simp; done) | (simp; omega) | omega) ?_; intro v5 w5 hown5 hgr5; have hb3 : Below wr.heap.size _ w5 := Below.grown (Below.refl wr.heap.size _) hgr5 (by first | (simp; done) | (simp; omega) | omega) (fun g hg => (HO4.out.lt g hg).1); rw [Nat.zero_add, List.nil_append] at hown5; obtain ⟨A5, c5, rfl, _⟩ := owns_slice hown5; have HO5 := Lib.hid hown5; clear hown5 hgr5)
                  | (refine step_append_any (by rfl) (.tmp 58) (.tmp 59) 30 (by rfl) wr.heap.size 56 j0 (.agg #[.int .u8 0, .int .i8 0, .int .i8 0, .int .i16 0]) 4 6 Tryd.underlying30 gi gz0 gz1 gz2 rfl (by decide) _ 0 [] (by rfl) ((World.ownsRow_made (e := 56) (size := 4) _ #[] 0 (by simp) (Nat.zero_le _) rfl).alloc _) ⟨ga, 0, none⟩ n c (gs.flatMap Gar.cells) (by rfl) (by rw [HL1.out, En.out]) (HCE.out _ (DG.b (by assumption))) (gar_one gs) (by unfold maxLen; omega) (by omega) (by first | (simp; done) | (simp; omega) | omega) ?_; go_must (intro v4 w4 hown4 hgr4; have hb3 : Below wr.heap.size _ w4 := Below.grown (Below.refl wr.heap.size _) hgr4 (by first | (simp; done) | (simp; omega) | omega) (fun g hg => by obtain rfl := Option.some.inj hg; simp); have hz4 := hgr4.size; simp at hz4; have HO4 := Lib.hid hown4; have HD4 := Lib.hid (d_between (show ((wr.alloc (.cells #[] 56)).alloc (.cells #[.int .u8 x.c, .int .i8 x.n, .int .i8 x.m, .int .i16 x.g] 56)).grownBy w4 (some wr.heap.size) by first | exact hgr4 | exact undrew hgr4) rfl); clear hown4 hgr4))
                  | (refine step_append_any (by rfl) (.tmp 58) (.tmp 59) 30 (by rfl) wr.heap.size 56 j0 (.agg #[.int .u8 0, .int .i8 0, .int .i8 0, .int .i16 0]) 4 6 Tryd.underlying30 gi gz0 gz1 gz2 rfl (by decide) _ 0 [] (by rfl) (made_after wr _ (Nat.le_refl _)) ⟨ga, 0, none⟩ n c (gs.flatMap Gar.cells) (by rfl) (by rw [HL1.out, En.out]) (HCE.out _ (DG.b (by assumption))) (gar_one gs) (by unfold maxLen; omega) (by omega) (by first | (simp; done) | (simp; omega) | omega) ?_; intro v4 w4 hown4 hgr4; have hb3 : Below wr.heap.size _ w4 := Below.grown (Below.refl wr.heap.size _) hgr4 (by first | (simp; done) | (simp; omega) | omega) (fun g hg => by obtain rfl := Option.some.inj hg; simp); have hz4 := hgr4.size; simp at hz4; have HO4 := Lib.hid hown4; have HD4 := Lib.hid (d_after (show ((wr.alloc (.cells #[.int .u8 x.c, .int .i8 x.n, .int .i8 x.m, .int .i16 x.g] 56)).alloc (.cells #[] 56)).grownBy w4 (some (wr.heap.size + 1)) by first | exact hgr4 | exact undrew hgr4) rfl); clear hown4 hgr4)
                  | (refine step_append_any (by rfl) (.tmp 58) (.tmp 59) 30 (by rfl) wr.heap.size 56 j0 (.agg #[.int .u8 0, .int .i8 0, .int .i8 0, .int .i16 0]) 4 6 Tryd.underlying30 gi gz0 gz1 gz2 rfl (by decide) _ 0 [] (by rfl) (World.ownsRow_made (e := 56) (size := 4) _ #[] 0 (by simp) (Nat.zero_le _) rfl) ⟨ga, 0, none⟩ n c (gs.flatMap Gar.cells) (by rfl) (by rw [HL1.out, En.out]) (HCE.out _ (DG.b (by assumption))) (gar_one gs) (by unfold maxLen; omega) (by omega) (by first | (simp; done) | (simp; omega) | omega) ?_; (intro v4 w4 hown4 hgr4; have hb3 : Below wr.heap.size _ w4 := Below.grown (Below.refl wr.heap.size _) hgr4 (by first | (simp; done) | (simp; omega) | omega) (fun g hg => by obtain rfl := Option.some.inj hg; simp); have hz4 := hgr4.size; simp at hz4; have HO4 := Lib.hid hown4; have HD4 : Hid True := Lib.hid True.intro; clear hown4 hgr4))
                  | fail)
              all_goals
                rename_i hS2
                have SZ := Lib.hid (SR.out.next (DG.b hS2))
                have PZ := Lib.hid (owns_next HP.out (DG.b hS2))
                have hzz := SZ.out.2.1
                have hfl := HFL.out
                clear hS2
                go_wp2_with (first | (at_builtin; refine wpList_append_own _ rfl (.tmp 68) (.tmp 70) 25 rfl (w.heap.size + 1) 2 i0 (.int .i64 0) 1 8 Tryd.underlying25 hi hz0 hz1 hz2 rfl (by decide) _ _ _ rfl (PZ.out.alloc _) ⟨_, 0, none⟩ 1 1 [.int .i64 (k : Int)] rfl rfl (one_newF _ _ _) (one_cellF (by rfl)) (by unfold maxLen; omega) (by omega) (by simp; omega) ?_; intro v7 w7 hP7 hgr _; have S7 := Lib.hid (LS.grow ((SZ.out.next ((Below.refl _ _).alloc (Nat.le_refl _) _))) hgr (fun g hg => (PZ.out.lt g hg).1)); have P7 := Lib.hid hP7; clear hP7 hgr) | fail)
                go_roundw
                case rel =>
                  have hp7 := P7.out
                  have e : (fitL r gs hold hs k ++ [(k : Int)]).flatMap intS.C = (fitL r gs hold hs k).flatMap intS.C ++ [.int .i64 (k : Int)] := by simp [intS.C]
                  rw [← e] at hp7
                  exact ⟨k + 1, by omega, by go_num, by rw [HNX.out, List.length_append]; exact hp7, S7.out⟩
                case measure => simp [intOf]; omega
          · obtain rfl : k = m := by omega
            go_wp2_with fail
            go_ret2
            refine ⟨_, rfl, ?_, SR.out.2.2⟩
            rw [← Em.out]
            exact owns_below HP.out (Nat.le_succ _)
  · obtain ⟨rfl, hcode⟩ := HRES.out.bad hz
    have hno : ¬ (k0 = 3 ∧ n ≤ 8 ∧ m ≤ 8) := fun h => hz (by rw [HCF.out, if_pos h])
    rw [HCF.out, if_neg hno] at hcode
    have hk1 : k0 ≠ 0 := fun h => hz (by rw [HCF.out, if_neg hno, h])
    subst hcode
    have hks : code = 1 ∨ code = 2 ∨ (code = 3 ∧ 8 < n) ∨ (code = 3 ∧ n ≤ 8 ∧ 8 < m) := by omega
    clear hno hk1 hz HRES HCF HK0 hle
    rcases hks with rfl | rfl | ⟨rfl, d1⟩ | ⟨rfl, d1, d2⟩
    · go_wp2_with fail
      go_ret2
      exact ⟨_, rfl, owns_below P5.out (Nat.le_succ _), S5.out.2.2⟩
    · go_wp2_with fail
      go_ret2
      exact ⟨_, rfl, owns_below P5.out (Nat.le_succ _), S5.out.2.2⟩
    · have d1 : decide ((n : Int) ≤ 8) = false := decide_eq_false (by omega)
      go_wp2_with fail
      go_ret2
      exact ⟨_, rfl, owns_below P5.out (Nat.le_succ _), S5.out.2.2⟩
    · have d1 : decide ((n : Int) ≤ 8) = true := decide_eq_true (by omega)
      have d2 : decide ((m : Int) ≤ 8) = false := decide_eq_false (by omega)
      go_wp2_with fail
      go_ret2
      exact ⟨_, rfl, owns_below P5.out (Nat.le_succ _), S5.out.2.2⟩
end Go.Proofs.YtdafnibmoggcnaaDoor.mem
