/-
  Several texts of this proof, joined.
-/
import Derived.Test.YtekigapeekjigaaDoorJoin19
import Derived.Deep.AppendLies
/-
  Contract of the model's GreedyLoads.
-/
namespace Go.Proofs.YtekigapeekjigaaDoor.mem
open Go Go.RowKit errs garS heats meet load sl hang

/-- what GreedyLoads returns -/
structure GreedyRes (r : Nat → Int) (gs : List Gar) (hold : Int) (code : Nat) (ls : List Int) (num : Nat) : Prop where
  fine : code = 0 → Greedy r gs hold gs.length ls num
  fails : code ≠ 0 → ls = [] ∧ num = 0
theorem greedyRes_exists (r : Nat → Int) (gs : List Gar) (hold : Int) (code : Nat) : ∃ ls num, GreedyRes r gs hold code ls num := by
  by_cases h : code = 0
  · obtain ⟨ls, u, hg⟩ := greedy_exists r gs hold gs.length
    exact ⟨ls, u, fun _ => hg, fun h1 => absurd h h1⟩
  · exact ⟨[], 0, fun h1 => absurd h1 h, fun _ => ⟨rfl, rfl⟩⟩
theorem GreedyRes.len {r : Nat → Int} {gs : List Gar} {hold : Int} {code : Nat} {ls : List Int} {num : Nat} (h : GreedyRes r gs hold code ls num) (hn : gs.length ≤ 1048576) : ls.length ≤ 1048576 := by
  by_cases hc : code = 0
  · rw [(h.fine hc).len]; exact hn
  · rw [(h.fails hc).1]; simp
/-- an append inside a region that draws its order, guarded or not -/
theorem step_append_wanted2 {P : Program} {w : World} {ops : Array Oper} {o : Oper} {a : Act} {K : Act → World → Prop} {Q : Exit → Act → World → Prop} {E : Prop} (hw : Region.wanted o (yielded ops a.tmps) = true) (s x : Operand) (t : TypeId)
    (ho : o.op = .call { callee := .builtin .append, args := #[s, x], argTypes := #[t, t] })
    (base : Nat) (e : TypeId) (i : TypeInfo) (z : Value) (size bytes : Nat) (ht : P.underlying t = some (.slice e)) (hi : P.info? e = some i) (hz : i.zero = some z)
    (hsize : i.size = size) (hby : i.bytes = bytes) (hzs : z.cells.size = size) (hsz : 0 < size)
    (v : Value) (n : Nat) (xs : List Value) (hs : a.eval s = v) (hown : w.ownsRow base e size v n xs)
    (ad : Addr) (m c : Nat) (news : List Value) (hx : a.eval x = .slice (some ad) m c) (hl : news.length = m * size) (hnews : ∀ j u, news[j]? = some u → w.cell? (ad.add j) = some u) (h1 : ∀ u ∈ news, u.oneCell' = true)
    (hm : 0 < m) (h63 : n + m ≤ maxLen) (hbytes : (n + m) * bytes ≤ 140737488355328) (hbase : base ≤ w.heap.size) (H : Nat) (hH : w.heap.size = H)
    (h : ∀ g cap w', w'.ownsRow base e size (.slice (some ⟨g, 0, none⟩) (n + m) cap) (n + m) (xs ++ news) → w.grownBy w' v.ownBlock → (v.ownBlock = some g ∨ g = H) → g < w'.heap.size → K (a.put o.dst (.slice (some ⟨g, 0, none⟩) (n + m) cap)) w') :
    if Region.wanted o (yielded ops a.tmps) = true then Oper.wp P o a w K Q else E := by
  rw [if_pos hw]
  exact wp_append_lies (P := P) w s x t ho base e i z size bytes ht hi hz hsize hby hzs hsz v n xs hs hown ad m c news hx hl hnews h1 hm h63 hbytes hbase H hH h
/-- the rules' box, one garment, and nothing that was there in v is changed -/
abbrev DG (r : Nat → Int) (q : Nat) (v : World) (p : Addr) (x : Gar) (u : World) : Prop := SixAt r q u ∧ u.cell? p = some (.int .u8 x.c) ∧ u.cell? ⟨p.block, p.off + 1, none⟩ = some (.int .i8 x.n) ∧ u.cell? ⟨p.block, p.off + 2, none⟩ = some (.int .i8 x.m) ∧ u.cell? ⟨p.block, p.off + 3, none⟩ = some (.int .i16 x.g) ∧ Below v.heap.size v u
theorem DG.b {r : Nat → Int} {q : Nat} {v : World} {p : Addr} {x : Gar} {u : World} (h : DG r q v p x u) : Below v.heap.size v u := by
  obtain ⟨_, _, _, _, _, hb⟩ := h
  exact hb
theorem DG.to {r : Nat → Int} {q : Nat} {v : World} {p : Addr} {x : Gar} {u t : World} (h : DG r q v p x u) (hq : q < v.heap.size) (hp : p.block < v.heap.size) (hb : Below v.heap.size u t) : DG r q v p x t := by
  obtain ⟨h6, c0, c1, c2, c3, hB⟩ := h
  exact ⟨h6.to hb hq, (hb.cell (p := p) hp).trans c0, (hb.cell (p := ⟨p.block, p.off + 1, none⟩) hp).trans c1, (hb.cell (p := ⟨p.block, p.off + 2, none⟩) hp).trans c2, (hb.cell (p := ⟨p.block, p.off + 3, none⟩) hp).trans c3, hB.trans hb⟩
theorem DG.next {r : Nat → Int} {q : Nat} {v : World} {p : Addr} {x : Gar} {u t : World} (h : DG r q v p x u) (hq : q < v.heap.size) (hp : p.block < v.heap.size) (hb : Below u.heap.size u t) : DG r q v p x t := h.to hq hp (hb.mono h.b.size)
theorem DG.alloc {r : Nat → Int} {q : Nat} {v : World} {p : Addr} {x : Gar} {u : World} (h : DG r q v p x u) (hq : q < v.heap.size) (hp : p.block < v.heap.size) (o : Obj) : DG r q v p x (u.alloc o) := h.next hq hp ((Below.refl _ _).alloc (Nat.le_refl _) _)
theorem news4_at {v w2 : World} {a b c d : Value} {T : TypeId} {B : Nat} (hb : Below B ((v.alloc (.cells #[a, b, c, d] T)).drew) w2) (hB : v.heap.size < B) : ∀ j u, [a, b, c, d][j]? = some u → w2.cell? ((⟨v.heap.size, 0, none⟩ : Addr).add j) = some u := fun j u hj =>
  (hb.cell (by rw [sl.block_add]; exact hB)).trans (four_new v a b c d T j u hj)
theorem LS.grow {r : Nat → Int} {w u v : World} {row : Option Nat} (h : LS r w u) (hg : u.grownBy v row) (hr : ∀ k, row = some k → w.heap.size + 1 ≤ k) : LS r w v := by
  have hz := h.2.1
  have hb : Below (w.heap.size + 1) u v := (Below.refl _ _).grown hg (by omega) hr
  exact ⟨h.1.to hb (Nat.lt_succ_self _), Nat.lt_of_lt_of_le hz hb.size, h.2.2.trans (hb.mono (Nat.le_succ _))⟩
theorem l01Load_v (r : Nat → Int) (hr : Six r) (hold : Int) (A : Option Addr) (n c : Nat) (gs : List Gar) (hn : n = gs.length) (hs : n ≤ 1048576) (hc : ∀ x ∈ gs, x.c < 6) (w : World) (base : Nat) (t : TypeId) (hg : w.ownsRow base t 4 (.slice A n c) n (gs.flatMap Gar.cells)) (hf : ∀ x ∈ gs, x.Fits) (b : Bool) (hb : b = true ↔ (Pairs r gs ∧ wAll gs ≤ hold)) :
    Calls Tryd.prog 73 #[rulesV r, .int .i64 hold, .slice A n c] w fun o w' => o = .returned (.bool b) ∧ Below w.heap.size w w' :=
  l01Load_any r hr hold A n c gs hn hs hc w (gs_of_owns hg hf) b hb
theorem one_new8 (w : World) (u : Value) (T : TypeId) : ∀ (j : Nat) x, [u][j]? = some x → (w.alloc (.cells #[u] T)).cell? ((⟨w.heap.size, 0, none⟩ : Addr).add j) = some x := by
  intro j x hj
  rw [add_lit, cell_of_row _ _ _ _ _ _ (heap_alloc_new w _)]
  simpa using hj
theorem one_cell8 {u : Value} (hu : u.oneCell' = true) : ∀ x ∈ [u], x.oneCell' = true := by
  intro x hx
  rw [List.mem_singleton.1 hx]
  exact hu
set_option maxRecDepth 100000 in
set_option maxHeartbeats 16000000 in
theorem GreedyLoads_spec (r : Nat → Int) (hr : Six r) (hold : Int) (A : Option Addr) (n c : Nat) (gs : List Gar) (en : n = gs.length) (hs : n ≤ 1048576) (w : World) (hg : GS w w.heap.size A gs) (fh : Bool) (hfh : decide (1 ≤ hold ∧ hold ≤ 20000) = fh) (code : Nat) (hcode : code = codeAlone r gs hold (fh && true)) (ls : List Int) (num : Nat) (hls : GreedyRes r gs hold code ls num) :
    Calls Tryd.prog 28 #[rulesV r, .int .i64 hold, .slice A n c] w (Own3 w ls num code) := by
  have En := Lib.hid en
  have HFH := Lib.hid hfh
  have HC := Lib.hid hcode
  have HLS := Lib.hid hls
  clear en hfh hls
  have S0 : Hid (LS r w (w.alloc (.cells (rulesCs r) 26))) := Lib.hid ⟨SixAt.new r w 26, by simp, (Below.refl w.heap.size w).alloc (Nat.le_refl _) _⟩
  obtain ⟨⟨s0, s1, s2, s3, s4, s5⟩, _, _⟩ := S0.out
  have key : ∀ u, LS r w u → GS u u.heap.size A gs := fun u h => (hg.below h.2.2).more h.2.2.size
  by_cases hc0 : code = 0
  · have HG := Lib.hid (HLS.out.fine hc0)
    subst hc0
    obtain ⟨hask, hlight⟩ := codeAlone_zero hcode
    have hFine := ask_good hask hg.fits
    have hn8 : n ≤ 8 := by have := En.out; have := hFine.len; omega
    have HCL := Lib.hid (ask_colour hask)
    have HW := Lib.hid (light_iff.1 hlight)
    clear hask hlight hcode hFine
    obtain ⟨i0, hi, hz0, hz1, hz2⟩ := info_parts intS.info
    obtain ⟨j0, gi, gz0, gz1, gz2⟩ := info_parts gar_info
    go_enter Tryd.func28, Tryd.ntmps28
    go_wp2_with fail
    refine (l01Alone_any r hr hold A n c gs En.out hs true _ (key _ S0.out) fh HFH.out 0 HC.out).mono ?_
    rintro o w1 ⟨rfl, hb1⟩
    have S1 := Lib.hid (S0.out.next hb1)
    have S2 := Lib.hid (S1.out.next ((Below.refl _ _).alloc (Nat.le_refl _) (.cells #[] 2)))
    have HP2 := Lib.hid (owns_void w1 (b := w.heap.size + 1) (by have := S1.out.2.1; omega))
    clear hb1 s0 s1 s2 s3 s4 s5 S0
    go_wp2_with fail
    go_loopw [10, 11, 12, 13] (fun vo vn vi _ wr => ∃ (k u : Nat) (ps : List Int), k ≤ n ∧ vi = .int .i64 k ∧ vn = .int .i64 u ∧ Greedy r gs hold k ps u ∧ wr.ownsRow (w.heap.size + 1) 2 1 vo k (ps.flatMap intS.C) ∧ LS r w wr) (fun _ _ vi _ _ => n - (intOf vi).toNat)
    case atStart => exact ⟨0, 0, [], by omega, rfl, rfl, .zero, HP2.out, S2.out⟩
    case round =>
      clear S2 HP2
      obtain ⟨k, u, ps, hk, rfl, rfl, hU, hP, hS⟩ := hrel
      have HU := Lib.hid hU
      have HP := Lib.hid hP
      have SR := Lib.hid hS
      by_cases hlt : k < n
      · obtain ⟨x, hx⟩ : ∃ x, gs[k]? = some x := ⟨gs[k]'(by have := En.out; omega), List.getElem?_eq_getElem _⟩
        have hxf := hg.fits x (List.mem_of_getElem? hx)
        obtain ⟨a, e0, hab, _⟩ := hg.at_ k x hx
        have hpb : (a.add (k * 4)).block < w.heap.size := by rw [garS.block_add]; exact hab
        have HX := Lib.hid hx
        have huk := hU.le
        have hlen := Lib.hid hU.len.symm
        have HLT := Lib.hid hU.lt
        obtain ⟨Ao, co, rfl, _⟩ := owns_slice hP
        subst e0
        obtain ⟨wo, rfl⟩ : ∃ wo, wo = wr := ⟨wr, rfl⟩
        have hoz := hS.2.1
        clear hx hU hP hS
        go_wp2_with fail
        go_loopw [13] (fun vj wz => ∃ j : Nat, j ≤ u ∧ vj = .int .i64 j ∧ (∀ i : Nat, i < j → ¬ Joins1 r gs hold ps k i) ∧ Below wo.heap.size wo wz) (fun vj _ => u + 1 - (intOf vj).toNat)
        case atStart => exact ⟨0, by omega, rfl, fun i hi => absurd hi (by omega), Below.refl _ _⟩
        case round =>
          obtain ⟨j, hj, rfl, hno, hbo⟩ := hrel
          have HNO := Lib.hid hno
          have HBO := Lib.hid hbo
          have SI := Lib.hid (SR.out.next hbo)
          have HPI := Lib.hid (owns_next HP.out hbo)
          obtain ⟨a2, ea2, _, q0, q1, q2, q3⟩ := (hg.below SI.out.2.2).at_ k x HX.out
          obtain rfl := Option.some.inj ea2
          have hqz : w.heap.size < wr.heap.size := SI.out.2.1
          have hpz : (a.add (k * 4)).block < wr.heap.size := by omega
          have D0 : Hid (DG r w.heap.size wr (a.add (k * 4)) x wr) := Lib.hid ⟨SI.out.1, q0, q1, q2, q3, Below.refl _ _⟩
          obtain ⟨z, hz⟩ : ∃ z, z = (withL gs ps (j : Int) k).length := ⟨_, rfl⟩
          have hz8 : z ≤ 8 := by
            have h1 := withL_len gs ps (j : Int) k
            omega
          have HZ := Lib.hid hz
          have hmem : ∀ y ∈ withL gs ps (j : Int) k ++ [x], y ∈ gs := fun y hy => by
            rcases List.mem_append.1 hy with h1 | h1
            · exact withL_in gs ps j k y h1
            · rw [List.mem_singleton.1 h1]
              exact List.mem_of_getElem? HX.out
          have HMC := Lib.hid (fun y hy => HCL.out y (hmem y hy))
          have HMF := Lib.hid (fun y hy => hg.fits y (hmem y hy))
          have wa : (0 : Int) ≤ (k : Int) := by omega
          have wb : (k : Int) < (n : Int) := by omega
          have gx : ∀ u, Below wr.heap.size wr u → GS u u.heap.size (some a) gs := fun u hb => (hg.below (SI.out.2.2.trans (hb.mono SI.out.2.2.size))).more (Nat.le_trans SI.out.2.2.size hb.size)
          have gy : ∀ u, Below wr.heap.size wr u → Sl intS.C 1 u u.heap.size Ao ps := fun u hb => Sl.of_owns (owns_next HPI.out hb) (intS.len _) (by decide)
          have GX := Lib.hid gx
          have GY := Lib.hid gy
          clear hno hbo ea2 hz hmem gx gy
          by_cases hju : j < u
          · obtain ⟨b, hb⟩ : ∃ b, b = (lightB [] 0 && @decide (Joins1 r gs hold ps k j) (Classical.propDecidable _)) := ⟨_, rfl⟩
            have hb2 : b = true ↔ Joins1 r gs hold ps k j := by
              rw [hb, show lightB [] 0 = true from rfl, Bool.true_and]
              exact @decide_eq_true_iff _ (Classical.propDecidable _)
            have hb3 : b = true ↔ (Pairs r (withL gs ps j k ++ [x]) ∧ wAll (withL gs ps j k ++ [x]) ≤ hold) := hb2.trans ⟨fun h => h x HX.out, fun h y hy => by rw [HX.out] at hy; rw [← Option.some.inj hy]; exact h⟩
            have HB2 := Lib.hid hb2
            have HB3 := Lib.hid hb3
            clear hb hb2 hb3 q0 q1 q2 q3
            cases b with
            | false =>
              have hnj : ¬ Joins1 r gs hold ps k j := fun h => by have := HB2.out.2 h; cases this
              have HNJ := Lib.hid hnj
              clear hnj
              have HB4 : Hid (¬ (Pairs r (withL gs ps j k ++ [x]) ∧ wAll (withL gs ps j k ++ [x]) ≤ hold)) := Lib.hid fun h => by have := HB3.out.2 h; cases this
              clear HB2 HB3
              go_wp2_with fail
              go_region_held3 (fun u => DG r w.heap.size wr (a.add (k * 4)) x u)
                (first | assumption | exact D0.out | exact D0.out.next hqz hpz (below_drewN _ _ 1) | exact DG.alloc (by assumption) hqz hpz _ | exact DG.to (by assumption) hqz hpz hb3 | exact DG.next (by assumption) hqz hpz hb2)
                (first
                  | (go_at_call 74; refine (l01With_any (some a) n c gs En.out hs Ao k co ps hlen.out (by omega) (j : Int) _ (GX.out _ (DG.b (by assumption))) (GY.out _ (DG.b (by assumption)))).mono ?_; rintro e w2 ⟨v, rfl, hPv, hb2⟩; rw [← HZ.out] at hPv; have HPV := Lib.hid hPv; have HB2 := Lib.hid hb2; clear hPv)
                  | (refine step_append_wanted2 (by rfl) (.tmp 38) (.tmp 43) 36 (by rfl) _ 96 j0 (.agg #[.int .u8 0, .int .i8 0, .int .i8 0, .int .i16 0]) 4 6 Tryd.underlying36 gi gz0 gz1 gz2 rfl (by decide) _ _ _ (by rfl) (HPV.out.alloc _) ⟨w2.heap.size, 0, none⟩ 1 1 [.int .u8 x.c, .int .i8 x.n, .int .i8 x.m, .int .i16 x.g] (by rfl) (by rfl) (four_new w2 _ _ _ _ _) (four_cell rfl rfl rfl rfl) (by omega) (by unfold maxLen; omega) (by omega) (Nat.le_trans HB2.out.size (by simp)) (w2.heap.size + 1) (by simp) ?_; intro gg cap w3 hown3 hgr _ _; have hb3 := Below.grown (Below.refl wr.heap.size _) hgr (Nat.le_trans (show wr.heap.size ≤ _ from HB2.out.size) (by simp)) (fun g hg => (HPV.out.lt g hg).1); have HO3 := Lib.hid hown3; clear hown3 hgr)
                  | (refine step_append_wanted2 (by rfl) (.tmp 38) (.tmp 43) 36 (by rfl) _ 96 j0 (.agg #[.int .u8 0, .int .i8 0, .int .i8 0, .int .i16 0]) 4 6 Tryd.underlying36 gi gz0 gz1 gz2 rfl (by decide) _ _ _ (by rfl) HPV.out ⟨wr.heap.size, 0, none⟩ 1 1 [.int .u8 x.c, .int .i8 x.n, .int .i8 x.m, .int .i16 x.g] (by rfl) (by rfl) (news4_at HB2.out (by simp)) (four_cell rfl rfl rfl rfl) (by omega) (by unfold maxLen; omega) (by omega) HB2.out.size w2.heap.size rfl ?_; intro gg cap w3 hown3 hgr _ _; have hb3 := Below.grown (Below.refl wr.heap.size _) hgr (Nat.le_trans (by simp) HB2.out.size) (fun g hg => Nat.le_trans (by simp) (HPV.out.lt g hg).1); have HO3 := Lib.hid hown3; clear hown3 hgr)
                  | (go_at_call 73; refine (l01Load_v r hr hold (some ⟨gg, 0, none⟩) (z + 1) cap (withL gs ps (j : Int) k ++ [x]) (by rw [HZ.out]; simp) (by omega) HMC.out _ _ _ (by rw [List.flatMap_append]; exact HO3.out) HMF.out false (by simp only [Bool.false_eq_true, false_iff]; exact HB4.out)).mono ?_; rintro e w4 ⟨rfl, hb4⟩; have hb2 := hb4)
                  | fail)
              all_goals
                rename_i hS2
                have HBZ := Lib.hid (HBO.out.trans ((DG.b hS2).mono HBO.out.size))
                clear hS2
                go_wp2_with fail
                go_roundw
                case rel =>
                  exact ⟨j + 1, by omega, by go_num, upto HNO.out HNJ.out, HBZ.out⟩
                case measure => simp [intOf]; omega
            | true =>
              have HYJ := Lib.hid (HB2.out.1 rfl)
              have HB4 := Lib.hid (HB3.out.1 rfl)
              clear HB2 HB3
              go_wp2_with fail
              go_region_held3 (fun u => DG r w.heap.size wr (a.add (k * 4)) x u)
                (first | assumption | exact D0.out | exact D0.out.next hqz hpz (below_drewN _ _ 1) | exact DG.alloc (by assumption) hqz hpz _ | exact DG.to (by assumption) hqz hpz hb3 | exact DG.next (by assumption) hqz hpz hb2)
                (first
                  | (go_at_call 74; refine (l01With_any (some a) n c gs En.out hs Ao k co ps hlen.out (by omega) (j : Int) _ (GX.out _ (DG.b (by assumption))) (GY.out _ (DG.b (by assumption)))).mono ?_; rintro e w2 ⟨v, rfl, hPv, hb2⟩; rw [← HZ.out] at hPv; have HPV := Lib.hid hPv; have HB2 := Lib.hid hb2; clear hPv)
                  | (refine step_append_wanted2 (by rfl) (.tmp 38) (.tmp 43) 36 (by rfl) _ 96 j0 (.agg #[.int .u8 0, .int .i8 0, .int .i8 0, .int .i16 0]) 4 6 Tryd.underlying36 gi gz0 gz1 gz2 rfl (by decide) _ _ _ (by rfl) (HPV.out.alloc _) ⟨w2.heap.size, 0, none⟩ 1 1 [.int .u8 x.c, .int .i8 x.n, .int .i8 x.m, .int .i16 x.g] (by rfl) (by rfl) (four_new w2 _ _ _ _ _) (four_cell rfl rfl rfl rfl) (by omega) (by unfold maxLen; omega) (by omega) (Nat.le_trans HB2.out.size (by simp)) (w2.heap.size + 1) (by simp) ?_; intro gg cap w3 hown3 hgr _ _; have hb3 := Below.grown (Below.refl wr.heap.size _) hgr (Nat.le_trans (show wr.heap.size ≤ _ from HB2.out.size) (by simp)) (fun g hg => (HPV.out.lt g hg).1); have HO3 := Lib.hid hown3; clear hown3 hgr)
                  | (refine step_append_wanted2 (by rfl) (.tmp 38) (.tmp 43) 36 (by rfl) _ 96 j0 (.agg #[.int .u8 0, .int .i8 0, .int .i8 0, .int .i16 0]) 4 6 Tryd.underlying36 gi gz0 gz1 gz2 rfl (by decide) _ _ _ (by rfl) HPV.out ⟨wr.heap.size, 0, none⟩ 1 1 [.int .u8 x.c, .int .i8 x.n, .int .i8 x.m, .int .i16 x.g] (by rfl) (by rfl) (news4_at HB2.out (by simp)) (four_cell rfl rfl rfl rfl) (by omega) (by unfold maxLen; omega) (by omega) HB2.out.size w2.heap.size rfl ?_; intro gg cap w3 hown3 hgr _ _; have hb3 := Below.grown (Below.refl wr.heap.size _) hgr (Nat.le_trans (by simp) HB2.out.size) (fun g hg => Nat.le_trans (by simp) (HPV.out.lt g hg).1); have HO3 := Lib.hid hown3; clear hown3 hgr)
                  | (go_at_call 73; refine (l01Load_v r hr hold (some ⟨gg, 0, none⟩) (z + 1) cap (withL gs ps (j : Int) k ++ [x]) (by rw [HZ.out]; simp) (by omega) HMC.out _ _ _ (by rw [List.flatMap_append]; exact HO3.out) HMF.out true (by simp [HB4.out])).mono ?_; rintro e w4 ⟨rfl, hb4⟩; have hb2 := hb4)
                  | fail)
              all_goals
                rename_i hS2
                have HBZ := Lib.hid (HBO.out.trans ((DG.b hS2).mono HBO.out.size))
                clear hS2
                have HN := Lib.hid (HU.out.next hj HNO.out (fun _ => HYJ.out))
                have HPo := Lib.hid (owns_next HP.out HBZ.out)
                have SZ := Lib.hid (SR.out.next HBZ.out)
                have hzs := SZ.out.2.1
                go_wp2_with (first | (at_builtin; refine wpList_append_own _ rfl (.tmp 50) (.tmp 52) 32 rfl (w.heap.size + 1) 2 i0 (.int .i64 0) 1 8 Tryd.underlying32 hi hz0 hz1 hz2 rfl (by decide) _ _ _ rfl (HPo.out.alloc _) ⟨_, 0, none⟩ 1 1 [.int .i64 (j : Int)] rfl rfl (one_new8 _ _ _) (one_cell8 (by rfl)) (by unfold maxLen; omega) (by omega) (by simp; omega) ?_; intro v3 w5 hP5 hgr _; have S5 := Lib.hid (LS.grow ((SZ.out.next ((Below.refl _ _).alloc (Nat.le_refl _) _))) hgr (fun g hg => (HPo.out.lt g hg).1)); have HP5 := Lib.hid hP5; clear hP5 hgr) | (go_at_call 75; refine (l00Max_any _ _ _).mono ?_; rintro o w6 ⟨rfl, rfl⟩) | fail)
                go_roundw
                case rel =>
                  have hp5 := HP5.out
                  have e : (ps ++ [(j : Int)]).flatMap intS.C = ps.flatMap intS.C ++ [.int .i64 (j : Int)] := by simp [intS.C]
                  rw [← e] at hp5
                  exact ⟨k + 1, _, _, by omega, by go_num, by first | rfl | (congr 1; omega), HN.out, hp5, S5.out⟩
                case measure => simp [intOf]; omega
          · obtain rfl : j = u := by omega
            go_wp2_with fail
            go_quiet (fail)
            have HBZ := Lib.hid (HBO.out.trans (below_drewN wo.heap.size wr nq))
            have HN := Lib.hid (HU.out.next hj HNO.out (fun h => absurd h (by omega)))
            have HPo := Lib.hid (owns_next HP.out HBZ.out)
            have SZ := Lib.hid (SR.out.next HBZ.out)
            have hzs := SZ.out.2.1
            go_wp2_with (first | (at_builtin; refine wpList_append_own _ rfl (.tmp 50) (.tmp 52) 32 rfl (w.heap.size + 1) 2 i0 (.int .i64 0) 1 8 Tryd.underlying32 hi hz0 hz1 hz2 rfl (by decide) _ _ _ rfl (HPo.out.alloc _) ⟨_, 0, none⟩ 1 1 [.int .i64 (j : Int)] rfl rfl (one_new8 _ _ _) (one_cell8 (by rfl)) (by unfold maxLen; omega) (by omega) (by simp; omega) ?_; intro v3 w5 hP5 hgr _; have S5 := Lib.hid (LS.grow ((SZ.out.next ((Below.refl _ _).alloc (Nat.le_refl _) _))) hgr (fun g hg => (HPo.out.lt g hg).1)); have HP5 := Lib.hid hP5; clear hP5 hgr) | (go_at_call 75; refine (l00Max_any _ _ _).mono ?_; rintro o w6 ⟨rfl, rfl⟩) | fail)
            go_roundw
            case rel =>
              have hp5 := HP5.out
              have e : (ps ++ [(j : Int)]).flatMap intS.C = ps.flatMap intS.C ++ [.int .i64 (j : Int)] := by simp [intS.C]
              rw [← e] at hp5
              exact ⟨k + 1, _, _, by omega, by go_num, by first | rfl | (congr 1; omega), HN.out, hp5, S5.out⟩
            case measure => simp [intOf]; omega
      · obtain rfl : k = n := by omega
        obtain ⟨e1, e2⟩ := (by rw [En.out] at hU; exact hU : Greedy r gs hold gs.length ps u).one HG.out
        subst e1 e2
        obtain ⟨Ao, co, rfl, _⟩ := owns_slice hP
        have e3 : ps.length = k := hU.len
        have HRES : Hid (Own3 w ps u 0 (.returned (.tuple #[.slice Ao k co, .int .i64 u, .int .i64 0])) wr) := Lib.hid ⟨_, rfl, by rw [e3]; exact owns_below hP (Nat.le_succ _), hS.2.2⟩
        clear hU hP hS e3
        go_wp2_with fail
        go_ret3
        exact HRES.out
  · obtain ⟨e1, e2⟩ := HLS.out.fails hc0
    subst e1 e2
    have hne : ((code : Int) != 0) = true := by rw [bne_iff_ne]; omega
    have hne3 : ((code : Int) == 0) = false := by rw [beq_eq_false_iff_ne]; omega
    clear hcode hc0
    go_enter Tryd.func28, Tryd.ntmps28
    go_wp2_with fail
    refine (l01Alone_any r hr hold A n c gs En.out hs true _ (key _ S0.out) fh HFH.out code HC.out).mono ?_
    rintro o w1 ⟨rfl, hb1⟩
    have S1 := Lib.hid (S0.out.next hb1)
    clear hb1 s0 s1 s2 s3 s4 s5
    go_wp2_with fail
    go_ret3
    exact ⟨_, by simp, owns_void _ S1.out.2.2.size, S1.out.2.2.alloc S1.out.2.2.size _⟩
end Go.Proofs.YtekigapeekjigaaDoor.mem

/-
  Contract of the program's GreedyLoads.
-/
namespace Go.Proofs.YtekigapeekjigaaDoor.mem
open Go Go.RowKit errs garS heats meet load sl hang

theorem greedy_take {r : Nat → Int} {gs : List Gar} {hold : Int} {n : Nat} {ls : List Int} {u : Nat} (h : Greedy r gs hold n ls u) : ∀ k, k ≤ n → ∃ v, Greedy r gs hold k (ls.take k) v := by
  induction h with
  | zero =>
    intro k hk
    have e : k = 0 := by omega
    rw [e]
    exact ⟨0, .zero⟩
  | @next n ls u a h1 ha hno hyes ih =>
    intro k hk
    rcases Nat.lt_or_ge n k with h2 | h2
    · obtain rfl : k = n + 1 := by omega
      rw [List.take_of_length_le (by simp [h1.len])]
      exact ⟨_, h1.next ha hno hyes⟩
    · obtain ⟨v, hv⟩ := ih k h2
      rw [List.take_append_of_le_length (by rw [h1.len]; exact h2)]
      exact ⟨v, hv⟩
/-- the next number is the one that greed gives in the end -/
theorem greedy_at {r : Nat → Int} {gs : List Gar} {hold : Int} {n : Nat} {ls : List Int} {num : Nat} (h : Greedy r gs hold n ls num) {k u a : Nat} (hk : k < n) (h1 : Greedy r gs hold k (ls.take k) u) (ha : a ≤ u) (hno : ∀ j, j < a → ¬ Joins1 r gs hold (ls.take k) k j) (hyes : a < u → Joins1 r gs hold (ls.take k) k a) :
    ls[k]? = some (a : Int) ∧ Greedy r gs hold (k + 1) (ls.take (k + 1)) (max u (a + 1)) := by
  have h2 := h1.next ha hno hyes
  obtain ⟨v, h3⟩ := greedy_take h (k + 1) (by omega)
  obtain ⟨e1, e2⟩ := h2.one h3
  have hl : (ls.take k).length = k := h1.len
  refine ⟨?_, by rw [← e1]; exact h2⟩
  have h4 : (ls.take (k + 1))[k]? = some (a : Int) := by rw [← e1, List.getElem?_append_right (by omega), hl]; simp
  rw [List.getElem?_take] at h4
  split at h4
  · exact h4
  · cases h4
theorem setK_take (ls : List Int) (j : Int) (k : Nat) : setK (ls.take k) j k = setK ls j k := by
  apply Nat.eq_of_testBit_eq
  intro i
  rw [setK_bit, setK_bit]
  by_cases h : i < k
  · rw [List.getElem?_take_of_lt h]
  · simp [h]
theorem grown_store (W : World) (g j : Nat) (v : Value) : W.grownBy (W.setCell ⟨g, j, none⟩ v).drew (some g) :=
  ⟨rfl, rfl, rfl, by rw [World.size_drew, World.size_setCell]; exact Nat.le_refl _, fun k _ hk => Below.heap_setCell W ⟨g, j, none⟩ v k (fun e => hk (by rw [e]))⟩
/-- a basket, the sets, and what lay below -/
structure GQ (w W : World) (g1 g2 : Nat) (A : Option Addr) (n c : Nat) (m : Nat → Int) (hold : Int) (f : Nat → Int) : Prop where
  K : Bask W g1 A n c m hold
  S : ∀ j, j < 8 → W.cell? ⟨g2, j, none⟩ = some (.int .u8 (f j)) ∧ W.frozen? ⟨g2, j, none⟩ = false
  B : Below w.heap.size w W
  z0 : w.heap.size ≤ g1
  z1 : g1 < g2
  z2 : g2 < W.heap.size
theorem GQ.move {w W V : World} {g1 g2 : Nat} {A : Option Addr} {n c : Nat} {m : Nat → Int} {hold : Int} {f : Nat → Int} (h : GQ w W g1 g2 A n c m hold f) (hb : Below (g2 + 1) W V) : GQ w V g1 g2 A n c m hold f := by
  have hz := h.z1
  refine ⟨h.K.keep fun j v hv => (hb.cell (p := ⟨g1, j, none⟩) (by show g1 < _; omega)).trans hv, fun j hj => ⟨(hb.cell (p := ⟨g2, j, none⟩) (Nat.lt_succ_self _)).trans (h.S j hj).1, (hb.frozen (p := ⟨g2, j, none⟩) (Nat.lt_succ_self _)).trans (h.S j hj).2⟩,
    h.B.trans (hb.mono (by have := h.z0; omega)), h.z0, h.z1, Nat.lt_of_lt_of_le h.z2 hb.size⟩
theorem GQ.next {w W V : World} {g1 g2 : Nat} {A : Option Addr} {n c : Nat} {m : Nat → Int} {hold : Int} {f : Nat → Int} (h : GQ w W g1 g2 A n c m hold f) (hb : Below W.heap.size W V) : GQ w V g1 g2 A n c m hold f := h.move (hb.mono h.z2)
theorem GQ.put {w W : World} {g1 g2 : Nat} {A : Option Addr} {n c : Nat} {m : Nat → Int} {hold : Int} {f f' : Nat → Int} (h : GQ w W g1 g2 A n c m hold f) (a : Nat) (v : Int) (h1 : f' a = v) (h2 : ∀ j, j ≠ a → f' j = f j) (ha : a < 8) : GQ w (W.setCell ⟨g2, a, none⟩ (.int .u8 v)) g1 g2 A n c m hold f' := by
  have hz := h.z1
  have cc : ∀ j, (W.setCell ⟨g2, a, none⟩ (.int .u8 v)).cell? ⟨g1, j, none⟩ = W.cell? ⟨g1, j, none⟩ := fun j => World.cell?_setCell_far _ _ _ _ (by show g2 ≠ g1; omega)
  refine ⟨h.K.keep fun j v hv => (cc j).trans hv, fun j hj => ⟨?_, by rw [World.frozen?_setCell]; exact (h.S j hj).2⟩, h.B.setCell (p := ⟨g2, a, none⟩) (by show w.heap.size ≤ g2; have := h.z0; omega) _, h.z0, h.z1, by rw [World.size_setCell]; exact h.z2⟩
  by_cases e : j = a
  · subst e
    rw [World.cell?_setCell_same' _ _ _ (by rw [(h.S j hj).1]; rfl), h1]
  · rw [cell_setCell_ne _ _ _ _ _ (Ne.symm e), (h.S j hj).1, h2 j e]
/-- what the question whether a garment fits reads -/
abbrev GX (v : World) (g1 g2 a : Nat) (A : Option Addr) (n c : Nat) (m : Nat → Int) (hold s : Int) (u : World) : Prop :=
  u.cell? ⟨g1, 0, none⟩ = some (.slice A n c) ∧ u.cell? ⟨g1, 1, none⟩ = some (.int .u8 (m 0)) ∧ u.cell? ⟨g1, 2, none⟩ = some (.int .u8 (m 1)) ∧ u.cell? ⟨g1, 3, none⟩ = some (.int .u8 (m 2)) ∧ u.cell? ⟨g1, 4, none⟩ = some (.int .u8 (m 3)) ∧ u.cell? ⟨g1, 5, none⟩ = some (.int .u8 (m 4)) ∧ u.cell? ⟨g1, 6, none⟩ = some (.int .u8 (m 5)) ∧ u.cell? ⟨g1, 7, none⟩ = some (.int .u8 (m 6)) ∧ u.cell? ⟨g1, 8, none⟩ = some (.int .u8 (m 7)) ∧ u.cell? ⟨g1, 9, none⟩ = some (.int .i64 hold) ∧ u.cell? ⟨g2, a, none⟩ = some (.int .u8 s) ∧ Below v.heap.size v u
theorem GX.b {v : World} {g1 g2 a : Nat} {A : Option Addr} {n c : Nat} {m : Nat → Int} {hold s : Int} {u : World} (h : GX v g1 g2 a A n c m hold s u) : Below v.heap.size v u := by
  obtain ⟨_, _, _, _, _, _, _, _, _, _, _, h⟩ := h
  exact h
theorem GX.mk {v w : World} {g1 g2 a : Nat} {A : Option Addr} {n c : Nat} {m : Nat → Int} {hold s : Int} {f : Nat → Int} (h : GQ w v g1 g2 A n c m hold f) (ha : a < 8) (hs : f a = s) {u : World} (hb : Below v.heap.size v u) : GX v g1 g2 a A n c m hold s u := by
  have h2 := h.next hb
  exact ⟨h2.K.s, h2.K.m 0 (by omega), h2.K.m 1 (by omega), h2.K.m 2 (by omega), h2.K.m 3 (by omega), h2.K.m 4 (by omega), h2.K.m 5 (by omega), h2.K.m 6 (by omega), h2.K.m 7 (by omega), h2.K.h, by rw [← hs]; exact (h2.S a ha).1, hb⟩
theorem codeAlone5 (r : Nat → Int) (gs : List Gar) (hold : Int) (n k1 k2 k3 k4 k5 : Nat) (fh : Bool) (en : n = gs.length) (hfh : decide (1 ≤ hold ∧ hold ≤ 20000) = fh) (h1 : k1 = if validRB r = true then 0 else 1) (h2 : k2 = if gs.all Gar.valid = true then 0 else 1) (h3 : k3 = if 1 ≤ hold ∧ hold ≤ 20000 then 0 else 2) (h4 : k4 = if 8 < n then 3 else 0) (h5 : k5 = if lightB gs hold = true then 0 else 6) :
    firstCode [k1, k2, k3, k4, k5] = codeAlone r gs hold (fh && true) := by
  have h6 := codeAsk4 r gs hold n k1 k2 k3 k4 (fh && true) en (by rw [Bool.and_true, ← hfh]; simp) h1 h2 h3 h4
  have h7 : firstCode [k1, k2, k3, k4, k5] = if firstCode [k1, k2, k3, k4] = 0 then k5 else firstCode [k1, k2, k3, k4] := by
    cases k1 with
    | succ k => rfl
    | zero => cases k2 with
      | succ k => rfl
      | zero => cases k3 with
        | succ k => rfl
        | zero => cases k4 with
          | succ k => rfl
          | zero => cases k5 <;> rfl
  rw [h7, h6, h5]
  rfl
theorem isLoad_v (A : Option Addr) (n c : Nat) (gs : List Gar) (en : n = gs.length) (hn : n ≤ 1048576) (m : Nat → Int) (hold : Int) (set : Nat) (hset : set < 256) (hin : ∀ i, i < 8 → set.testBit i = true → i < n) (z : Int) (hz : z = (set : Int)) (w : World) (hg : GS w w.heap.size A gs) (b : Bool) (hb : isLoadB gs m hold set = b) :
    Calls Tryd.prog 77 #[bV A n c m hold, .int .u8 z] w fun o w' => o = .returned (.bool b) ∧ Below w.heap.size w w' := by
  subst hz
  exact isLoad_any A n c gs en hn m hold set hset hin w hg b hb
set_option maxRecDepth 100000 in
set_option maxHeartbeats 16000000 in
theorem GreedyLoads_any (r : Nat → Int) (hr : Six r) (hold : Int) (A : Option Addr) (n c : Nat) (gs : List Gar) (en : n = gs.length) (hs : n ≤ 1048576) {w : World} {B : Nat} {e : Nat → Addr} (h : Errs w B e) (hB : B ≤ w.heap.size) (hg : GS w w.heap.size A gs) (fh : Bool) (hfh : decide (1 ≤ hold ∧ hold ≤ 20000) = fh) (code : Nat) (hcode : code = codeAlone r gs hold (fh && true)) (ls : List Int) (num : Nat) (hls : GreedyRes r gs hold code ls num) :
    Calls Tryd.prog 29 #[rulesV r, .int .i64 hold, .slice A n c] w (Own3 w ls num code) := by
  obtain ⟨k1, hk1⟩ : ∃ k : Nat, k = if validRB r = true then 0 else 1 := ⟨_, rfl⟩
  obtain ⟨k2, hk2⟩ : ∃ k : Nat, k = if gs.all Gar.valid = true then 0 else 1 := ⟨_, rfl⟩
  obtain ⟨k3, hk3⟩ : ∃ k : Nat, k = if 1 ≤ hold ∧ hold ≤ 20000 then 0 else 2 := ⟨_, rfl⟩
  obtain ⟨k4, hk4⟩ : ∃ k : Nat, k = if 8 < n then 3 else 0 := ⟨_, rfl⟩
  obtain ⟨k5, hk5⟩ : ∃ k : Nat, k = if lightB gs hold = true then 0 else 6 := ⟨_, rfl⟩
  have HF : Hid (firstCode [k1, k2, k3, k4, k5] = code) := Lib.hid ((codeAlone5 r gs hold n k1 k2 k3 k4 k5 fh en hfh hk1 hk2 hk3 hk4 hk5).trans hcode.symm)
  have hle : code ≤ 6 := by rw [hcode]; exact codeAlone_le _ _ _ _
  have HC := Lib.hid hcode
  have HK1 := Lib.hid hk1
  have HK2 := Lib.hid hk2
  have HK3 := Lib.hid hk3
  have HK4 := Lib.hid hk4
  have HK5 := Lib.hid hk5
  have En := Lib.hid en
  have HLS := Lib.hid hls
  have L0 : Hid (LS r w (w.alloc (.cells (rulesCs r) 26))) := Lib.hid ⟨SixAt.new r w 26, by simp, (Below.refl w.heap.size w).alloc (Nat.le_refl _) _⟩
  obtain ⟨⟨s0, s1, s2, s3, s4, s5⟩, _, _⟩ := L0.out
  clear hk1 hk2 hk3 hk4 hk5 en hls hcode hfh
  go_enter Tryd.func29, Tryd.ntmps29
  go_wp2_with fail
  refine (checkRules_any r hr (h.below (L0.out.2.2.mono hB)) (Nat.le_trans hB L0.out.2.2.size) k1 HK1.out).mono ?_
  rintro o w1 ⟨rfl, hb1⟩
  have L1 := Lib.hid (L0.out.next hb1)
  clear hb1 s0 s1 s2 s3 s4 s5
  go_wp2_with fail
  refine (checkGarments_any A n c gs En.out hs (h.below (L1.out.2.2.mono hB)) (Nat.le_trans hB L1.out.2.2.size) ((hg.below L1.out.2.2).more L1.out.2.2.size) k2 HK2.out).mono ?_
  rintro o w2 ⟨rfl, hb2⟩
  have L2 := Lib.hid (L1.out.next hb2)
  clear hb2
  go_wp2_with fail
  refine (checkHold_any hold (h.below (L2.out.2.2.mono hB))).mono ?_
  rintro o w3 ⟨rfl, rfl⟩
  rw [← HK3.out]
  go_wp2_with fail
  refine (checkCount_any A n c hs (h.below (L2.out.2.2.mono hB))).mono ?_
  rintro o w4 ⟨rfl, rfl⟩
  rw [← HK4.out]
  go_wp2_with fail
  refine (checkAlone_any hold A n c gs En.out hs (h.below (L2.out.2.2.mono hB)) (Nat.le_trans hB L2.out.2.2.size) ((hg.below L2.out.2.2).more L2.out.2.2.size) k5 HK5.out).mono ?_
  rintro o w4 ⟨rfl, hb4⟩
  have L4 := Lib.hid (L2.out.next hb4)
  clear hb4
  go_wp2_with (refine wpList_listed rfl 148 5 _ rfl #[(0, errOf e k1), (1, errOf e k2), (2, errOf e k3), (3, errOf e k4), (4, errOf e k5)] ?hp (buildSlice5 e k1 k2 k3 k4 k5 _) ?_; case hp => simp [Act.eval])
  have L3 := Lib.hid (L4.out.next ((Below.refl w4.heap.size w4).alloc (Nat.le_refl _) (.cells #[errOf e k1, errOf e k2, errOf e k3, errOf e k4, errOf e k5] 86)))
  refine (firstOf_any e [k1, k2, k3, k4, k5] _ 5 5 rfl (by decide) _ (cells_errs e [k1, k2, k3, k4, k5] w4 86 #[errOf e k1, errOf e k2, errOf e k3, errOf e k4, errOf e k5] rfl)).mono ?_
  rintro o w5 ⟨rfl, rfl⟩
  rw [HF.out]
  obtain ⟨w3, hw3⟩ : ∃ w3, w3 = w4.alloc (.cells #[errOf e k1, errOf e k2, errOf e k3, errOf e k4, errOf e k5] 86) := ⟨_, rfl⟩
  rw [← hw3] at L3 ⊢
  have HE := Lib.hid (h.below (L3.out.2.2.mono hB))
  clear hw3
  obtain ⟨⟨s0, s1, s2, s3, s4, s5⟩, _, _⟩ := L3.out
  cases code with
  | zero =>
    have e0 : errOf e 0 = .nilIface := rfl
    rw [e0]
    obtain ⟨hask, hlight⟩ := codeAlone_zero HC.out
    have hF := ask_good hask hg.fits
    have hn8 : n ≤ 8 := by have := En.out; have := hF.len; omega
    have HV := Lib.hid (ask_valid hask)
    have HW := Lib.hid (light_iff.1 hlight)
    have HM := Lib.hid (msOf_meets (r := r) hF.len)
    have HFF := Lib.hid hF
    have HG := Lib.hid (HLS.out.fine rfl)
    clear e0 hle hask hlight hF
    obtain ⟨i0, hi, hz0, hz1, hz2⟩ := info_parts intS.info
    have hmk : ∀ u : World, (Instr.makeSlice 32 (.int .i64 (n : Int)) (.int .i64 (n : Int))).run Tryd.prog u =
        .ok (.slice (some ⟨u.heap.size, 0, none⟩) n n) (u.alloc (.cells (madeCells #[.int .i64 0] n) 2)) := fun u => by
      have h := run_make (P := Tryd.prog) u 32 2 i0 _ Tryd.underlying32 hi hz0 .i64 .i64 (n : Int) (n : Int) (by omega) (Int.le_refl _) (by rw [hz2]; omega) (by omega)
      have e : ((n : Int)).toNat = n := by omega
      rw [e] at h
      simpa [hz1, Value.cells] using h
    go_wp2_with fail
    refine (newBasket_any r hr hold A n c gs En.out hn8 HV.out _ ((hg.below L3.out.2.2).more L3.out.2.2.size)).mono ?_
    rintro o w6 ⟨rfl, hb6⟩
    have B6 := Lib.hid (L3.out.2.2.trans (hb6.mono L3.out.2.2.size))
    obtain ⟨g1, hg1⟩ : ∃ g, g = w6.heap.size := ⟨_, rfl⟩
    have hQ0 : GQ w ((w6.alloc (.cells (bC A n c (msOf r gs n) hold) 105)).alloc (.cells zero8 102)) g1 (g1 + 1) A n c (msOf r gs n) hold (setF ls 0) := by
      have e1 : (w6.alloc (.cells (bC A n c (msOf r gs n) hold) 105)).heap.size = w6.heap.size + 1 := by simp
      have h0 : ((w6.alloc (.cells (bC A n c (msOf r gs n) hold) 105)).alloc (.cells zero8 102)).heap[w6.heap.size]? = some (.cells (bC A n c (msOf r gs n) hold) 105 (0, 0)) := (heap_alloc_old _ _ _ (by omega)).trans (heap_alloc_new w6 _)
      have h1 := heap_alloc_new (w6.alloc (.cells (bC A n c (msOf r gs n) hold) 105)) (.cells zero8 102)
      rw [e1] at h1
      rw [hg1]
      exact ⟨⟨cell_of_row _ _ _ _ _ _ h0, fun j hj => (cell_of_row _ _ _ _ _ _ h0).trans (bC_m A n c (msOf r gs n) hold j hj), cell_of_row _ _ _ _ _ _ h0⟩, fun j hj => ⟨(cell_of_row _ _ _ _ _ _ h1).trans (zero8_at j hj), by unfold World.frozen?; rw [h1]; rfl⟩, (B6.out.alloc B6.out.size _).alloc (by have := B6.out.size; simp; omega) _, B6.out.size, Nat.lt_succ_self _, by simp⟩
    have hP0 : (((w6.alloc (.cells (bC A n c (msOf r gs n) hold) 105)).alloc (.cells zero8 102)).alloc (.cells (madeCells #[.int .i64 0] n) 2)).ownsRow w.heap.size 2 1 (.slice (some ⟨g1 + 1 + 1, 0, none⟩) n n) n (madeCells #[.int .i64 0] n).toList := by
      have := World.ownsRow_lit (base := w.heap.size) (e := 2) (size := 1) ((w6.alloc (.cells (bC A n c (msOf r gs n) hold) 105)).alloc (.cells zero8 102)) (madeCells #[.int .i64 0] n) n (by have := B6.out.size; simp; omega) (by unfold maxLen; omega) (by rw [size_madeCells, Nat.mul_one])
      have e2 : ((w6.alloc (.cells (bC A n c (msOf r gs n) hold) 105)).alloc (.cells zero8 102)).heap.size = g1 + 1 + 1 := by rw [hg1]; simp
      rw [e2] at this
      exact this
    have HQ1 := Lib.hid (hQ0.next ((Below.refl _ _).alloc (Nat.le_refl _) (.cells (madeCells #[.int .i64 0] n) 2)))
    have HP0 := Lib.hid hP0
    have HG1 := Lib.hid hg1
    clear s0 s1 s2 s3 s4 s5 hb6 hQ0 hP0
    go_wp2_with fail
    rw [← HG1.out]
    clear hg1
    go_loopw [42, 13, 14, 15] (fun vi vn _ _ wr => ∃ (k u : Nat) (L : List Value), k ≤ n ∧ vi = .int .i64 k ∧ vn = .int .i64 u ∧ Greedy r gs hold k (ls.take k) u ∧ wr.ownsRow w.heap.size 2 1 (.slice (some ⟨g1 + 1 + 1, 0, none⟩) n n) n L ∧ Done intS.C 1 ls k L ∧ GQ w wr g1 (g1 + 1) A n c (msOf r gs n) hold (setF ls k)) (fun vi _ _ _ _ => n - (intOf vi).toNat)
    case atStart => exact ⟨0, 0, _, by omega, rfl, rfl, .zero, HP0.out, Done.zero _ _ _ _, HQ1.out⟩
    case round =>
      clear HP0 HQ1
      obtain ⟨k, u, L, hk, rfl, rfl, hU, hP, hD, hQ⟩ := hrel
      have HU := Lib.hid hU
      have HP := Lib.hid hP
      have HD := Lib.hid hD
      have HQ := Lib.hid hQ
      have hll : ls.length = n := by have := HG.out.len; have := En.out; omega
      by_cases hlt : k < n
      · obtain ⟨x, hx⟩ : ∃ x, gs[k]? = some x := ⟨gs[k]'(by have := En.out; omega), List.getElem?_eq_getElem _⟩
        have HX := Lib.hid hx
        have huk := hU.le
        have HLN := Lib.hid hU.len
        have HLT := Lib.hid hU.lt
        have HLL := Lib.hid hll
        obtain ⟨wo, rfl⟩ : ∃ wo, wo = wr := ⟨wr, rfl⟩
        clear hx hU hP hD hQ hll
        go_wp2_with fail
        go_loopw [15] (fun vj wz => ∃ j : Nat, j ≤ u ∧ vj = .int .i64 j ∧ (∀ i : Nat, i < j → ¬ Joins1 r gs hold (ls.take k) k i) ∧ Below wo.heap.size wo wz) (fun vj _ => u + 1 - (intOf vj).toNat)
        case atStart => exact ⟨0, by omega, rfl, fun i hi => absurd hi (by omega), Below.refl _ _⟩
        case round =>
          obtain ⟨j, hj, rfl, hno, hbo⟩ := hrel
          have HNO := Lib.hid hno
          have HBO := Lib.hid hbo
          have HQI := Lib.hid (HQ.out.next hbo)
          have HPI := Lib.hid (owns_next HP.out hbo)
          have hj8 : j < 8 := by omega
          have hk8 : k < 8 := by omega
          obtain ⟨t, ht⟩ : ∃ t, t = setK ls (j : Int) k ||| 2 ^ k := ⟨_, rfl⟩
          have hsl := setK_lt ls (j : Int) k (by omega)
          have ht256 : t < 256 := by
            rw [ht]
            exact Nat.or_lt_two_pow (n := 8) hsl (Nat.pow_lt_pow_right (by decide) hk8)
          have htin : ∀ i, i < 8 → t.testBit i = true → i < n := fun i hi hb => by
            rw [ht, Nat.testBit_or, Nat.testBit_two_pow] at hb
            rcases Bool.or_eq_true_iff.1 hb with h1 | h1
            · have := setK_in ls j k i hi h1
              omega
            · have : k = i := by simpa using h1
              omega
          have hor : bits BinOp.or IntKind.u8 (setF ls k j) (2 ^ k % 256) = (t : Int) := by rw [ht]; exact or_pow _ _ hsl hk8
          have HOR := Lib.hid hor
          have hjoin : isLoadB gs (msOf r gs n) hold t = true ↔ Joins1 r gs hold (ls.take k) k j := by
            have h1 := joins_iff HM.out hold (ls.take k) k j HLN.out (by have := En.out; omega) HFF.out.len HFF.out.meets HFF.out.self
            rw [setK_take] at h1
            rw [ht, En.out]
            exact h1
          have HJ := Lib.hid hjoin
          have HT := Lib.hid htin
          have X0 := Lib.hid (GX.mk (a := j) HQI.out hj8 rfl (Below.refl wr.heap.size wr))
          have wa : (0 : Int) ≤ (k : Int) := by omega
          have wb : (0 : Int) ≤ (j : Int) := by omega
          have wc : (j : Int) < 8 := by omega
          have GXX := Lib.hid (fun v (hb : Below wr.heap.size wr v) => ((hg.below (HQI.out.B.trans (hb.mono HQI.out.B.size))).more (Nat.le_trans HQI.out.B.size hb.size) : GS v v.heap.size A gs))
          clear hno hbo ht htin hjoin hor
          cases hv : isLoadB gs (msOf r gs n) hold t with
          | false =>
            have HV2 := Lib.hid hv
            have HNJ : Hid (¬ Joins1 r gs hold (ls.take k) k j) := Lib.hid fun h => by have := HJ.out.2 h; rw [hv] at this; cases this
            have hju : j < u := by
              apply Classical.byContradiction
              intro h1
              exact HNJ.out (joins_new HLT.out k j (by omega) HW.out)
            clear hv
            go_wp2_with fail
            go_region_held3 (fun u => GX wr g1 (g1 + 1) j A n c (msOf r gs n) hold (setF ls k j) u)
              (first | assumption | exact X0.out | exact GX.mk HQI.out hj8 rfl (below_drewN _ _ 1) | exact GX.mk HQI.out hj8 rfl (Below.trans (GX.b (by assumption)) (hb2.mono (GX.b (by assumption)).size)))
              (first
                | (go_at_call 77; refine (isLoad_v A n c gs En.out hs (msOf r gs n) hold t ht256 HT.out _ HOR.out _ (GXX.out _ (GX.b (by assumption))) false HV2.out).mono ?_; rintro o w8 ⟨rfl, hb2⟩)
                | fail)
            all_goals
              rename_i hS2
              have HBZ := Lib.hid (HBO.out.trans ((GX.b hS2).mono HBO.out.size))
              clear hS2
              go_wp2_with fail
              go_roundw
              case rel => exact ⟨j + 1, by omega, by go_num, upto HNO.out HNJ.out, HBZ.out⟩
              case measure => simp [intOf]; omega
          | true =>
            have HV2 := Lib.hid hv
            have HYJ := Lib.hid (HJ.out.1 hv)
            clear hv
            go_wp2_with fail
            go_region_held3 (fun u => GX wr g1 (g1 + 1) j A n c (msOf r gs n) hold (setF ls k j) u)
              (first | assumption | exact X0.out | exact GX.mk HQI.out hj8 rfl (below_drewN _ _ 1) | exact GX.mk HQI.out hj8 rfl (Below.trans (GX.b (by assumption)) (hb2.mono (GX.b (by assumption)).size)))
              (first
                | (go_at_call 77; refine (isLoad_v A n c gs En.out hs (msOf r gs n) hold t ht256 HT.out _ HOR.out _ (GXX.out _ (GX.b (by assumption))) true HV2.out).mono ?_; rintro o w8 ⟨rfl, hb2⟩)
                | fail)
            all_goals
              rename_i hS2
              have HBZ := Lib.hid (GX.b hS2)
              clear hS2
              obtain ⟨e1, e2⟩ := greedy_at HG.out (by have := En.out; omega) HU.out hj HNO.out (fun _ => HYJ.out)
              have HE1 := Lib.hid e1
              have HE2 := Lib.hid e2
              have HQZ := Lib.hid (HQI.out.next HBZ.out)
              have HPZ := Lib.hid (owns_next HPI.out HBZ.out)
              obtain ⟨s1, s2⟩ := HQZ.out.S j hj8
              clear e1 e2
              go_wp2_with fail
              go_region
              all_goals
                obtain ⟨w9, hw9⟩ : ∃ w9, w9 = (w8.setCell ⟨g1 + 1, j, none⟩ (.int .u8 (bits BinOp.or IntKind.u8 (setF ls k j) (2 ^ k % 256)))).drew := ⟨_, rfl⟩
                rw [← hw9]
                have hq9 : GQ w w9 g1 (g1 + 1) A n c (msOf r gs n) hold (setF ls (k + 1)) := by
                  rw [hw9]
                  exact (HQZ.out.put j _ ((setF_put HE1.out).trans (or_pow _ _ hsl hk8).symm) (setF_else HE1.out) hj8).next ((Below.refl _ _).drew)
                have hp9 : w9.ownsRow w.heap.size 2 1 (.slice (some ⟨g1 + 1 + 1, 0, none⟩) n n) n L := by
                  rw [hw9]
                  exact owns_other HPZ.out (grown_store w8 (g1 + 1) j _) (fun b hb e => by have : g1 + 1 + 1 = b := Option.some.inj hb; omega)
                have HQ9 := Lib.hid hq9
                have HP9 := Lib.hid hp9
                have hz9 := HQ9.out.z2
                obtain ⟨v0, t1⟩ : ∃ v, w9.cell? ⟨g1 + 1 + 1, k, none⟩ = some v := ⟨L[k]'(by have := hp9.1; omega), (hp9.cellAt k (by have := hp9.1; omega)).trans (List.getElem?_eq_getElem _)⟩
                have t2 := hp9.frozenAt k
                clear s1 s2 hw9 hq9 hp9
                go_wp2_with fail
                go_roundw
                case rel =>
                  have hP3 := (HP9.out.stored k (.int .i64 (j : Int))).1
                  exact ⟨k + 1, max u (j + 1), _, by omega, by go_num, by first | go_num | (congr 1; omega), HE2.out, hP3, by have := HD.out.step (C := intS.C) (sz := 1) (intS.len _) HE1.out (by rw [HP9.out.1, HLL.out]); simpa [intS.C, cInt, setList] using this, HQ9.out.move ((Below.refl _ _).setCell (p := ⟨g1 + 1 + 1, k, none⟩) (Nat.le_refl _) _)⟩
                case measure => simp [intOf]; omega
      · obtain rfl : k = n := by omega
        have e1 : ls.take k = ls := List.take_of_length_le (by omega)
        rw [e1] at hU
        obtain ⟨_, e2⟩ := (by rw [En.out] at hU; exact hU : Greedy r gs hold gs.length ls u).one HG.out
        subst e2
        have e3 : L = ls.flatMap intS.C := Done.full (by rw [hll]; exact hD) (intS.len _) (by omega) (by rw [hP.1, hll])
        have HRES : Hid (Own3 w ls u 0 (.returned (.tuple #[.slice (some ⟨g1 + 1 + 1, 0, none⟩) k k, .int .i64 u, .int .i64 0])) wr) := Lib.hid ⟨_, rfl, by rw [hll, ← e3]; exact hP, hQ.B⟩
        clear hU hP hD hQ hll e1 e3 hmk
        go_wp2_with fail
        go_ret3
        exact HRES.out
  | succ i =>
    obtain ⟨e1, e2⟩ := HLS.out.fails (by omega)
    subst e1 e2
    have e0 : errOf e (i + 1) = errV (e i) := rfl
    rw [e0]
    clear e0
    go_wp2_with fail
    refine (codeOf_any HE.out (i + 1) (by omega)).mono ?_
    rintro o w7 ⟨rfl, rfl⟩
    go_wp2_with fail
    go_ret3
    exact ⟨_, by simp, owns_none _ _, L3.out.2.2⟩
end Go.Proofs.YtekigapeekjigaaDoor.mem
