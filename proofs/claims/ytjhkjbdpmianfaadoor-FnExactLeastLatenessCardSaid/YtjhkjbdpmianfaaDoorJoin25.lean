/-
  Several texts of this proof, joined.
-/
import Derived.Test.YtjhkjbdpmianfaaDoorJoin22
import Derived.Outline
import Derived.Deep.CutRange
import Derived.Laws.AppendOwnNone
import Derived.Deep.DeepCutAuto
import Derived.Test.YtjhkjbdpmianfaaDoorJoin19
import Derived.Test.YtjhkjbdpmianfaaDoorJoin16
import Derived.Test.YtjhkjbdpmianfaaDoorJoin20
/-
  The program's best: its start.
-/
namespace Go.Proofs.YtjhkjbdpmianfaaDoor.iron
open Go Go.RowKit Go.Maps sl stk errs row ins

/-- what holds whenever the next start is taken: the frame, and what lies in the world -/
inductive JB (x : Iro) (a : Nat) (A : Option Addr) (n c : Nat) (fm : Value) (ps : List Pie) (w : World) : Nat → Act → World → Prop
  | mk (O : List (List Int)) (S : SeS) (N : Nat) (vo : Value) (u : World) (h1 : 0 < O.length) (h2 : BP x a ps O S N) (h3 : BW x a A n c fm ps O S N vo w u) (u6 u7 u8 u9 u10 u11 u12 u13 u14 u15 u16 u17 u18 u19 u20 u21 u22 u23 u24 u25 u26 u27 u28 u29 u30 u31 u32 u33 u34 u35 u36 u37 u38 u39 u40 u41 u42 u43 u44 u45 u46 u47 u48 u49 u50 u51 u52 u53 u54 u55 u56 u57 u58 u59 u60 u61 u62 u63 u64 u65 u66 u67 u68 u69 : Value) :
    JB x a A n c fm ps w (wgts ps.length O) { tmps := #[gV x A n c fm, .pointer (some ⟨w.heap.size, 0, none⟩), .pointer (some ⟨w.heap.size + 1, 0, none⟩), .map (some (w.heap.size + 2)), .pointer (some ⟨w.heap.size + 3, 0, none⟩), vo, u6, u7, u8, u9, u10, u11, u12, u13, u14, u15, u16, u17, u18, u19, u20, u21, u22, u23, u24, u25, u26, u27, u28, u29, u30, u31, u32, u33, u34, u35, u36, u37, u38, u39, u40, u41, u42, u43, u44, u45, u46, u47, u48, u49, u50, u51, u52, u53, u54, u55, u56, u57, u58, u59, u60, u61, u62, u63, u64, u65, u66, u67, u68, u69], defers := [] } u
set_option maxRecDepth 100000 in
set_option maxHeartbeats 8000000 in
theorem best_any (x : Iro) (a : Nat) (hv : iroB x = true) (A : Option Addr) (n c : Nat) (ps : List Pie) (en : n = ps.length) (hn : n ≤ 8) (hp : ps.all pieB = true) (F : Nat) (w : World) (hg : Sl Pie.cells 3 w w.heap.size A ps) (d : List Int × Int) (hd : bestB x a ps = some d)
    (hlong : ∀ (os : List Int), OrdOk ps.length os → ∀ u : World, Sl Pie.cells 3 u u.heap.size A ps → Calls Tryd.prog 45 #[gV x A n c (.func (.func F) #[] #[]), strV (strOf os (runs x a ps os))] u fun o w' => ∃ v, o = .returned v ∧ w'.ownsRow u.heap.size 61 12 v ((nexts ps.length os).map fun o => strOf o (runs x a ps o)).length (((nexts ps.length os).map fun o => strOf o (runs x a ps o)).flatMap strC) ∧ Below u.heap.size u w') :
    Calls Tryd.prog 34 #[gV x A n c (.func (.func F) #[] #[])] w fun o w' => o = .returned (strV (strOf d.1 (runs x a ps d.1))) ∧ Below w.heap.size w w' := by
  have hzz : ∀ u : World, (zeroValue 61).run Tryd.prog u = .ok (.agg (strCs zeroR)) u := (zero_of_info zeroRi).1
  have hmm := @run_makeMap Tryd.prog
  have hbw := BW.start x a A n c (.func (.func F) #[] #[]) ps w 65 61
  obtain ⟨u0, hu0⟩ : ∃ u, u = w.alloc (.cells #[.int .i8 x.up, .int .i8 x.down, .slice A n c, .func (.func F) #[] #[]] 65) := ⟨_, rfl⟩
  rw [← hu0] at hbw
  have e0 : u0.heap.size = w.heap.size + 1 := by rw [hu0]; simp
  obtain ⟨u1, hu1⟩ : ∃ u, u = u0.alloc (.cells (strCs zeroR) 61) := ⟨_, rfl⟩
  rw [← hu1] at hbw
  have e1 : u1.heap.size = w.heap.size + 2 := by rw [hu1]; simp [e0]
  obtain ⟨u2, hu2⟩ : ∃ u, u = u1.alloc (.map #[] 0) := ⟨_, rfl⟩
  rw [← hu2] at hbw
  have e2 : u2.heap.size = w.heap.size + 3 := by rw [hu2]; simp [e1]
  obtain ⟨u3, hu3⟩ : ∃ u, u = u2.alloc (.cells (strCs zeroR) 61) := ⟨_, rfl⟩
  rw [← hu3] at hbw
  have e3 : u3.heap.size = w.heap.size + 4 := by rw [hu3]; simp [e2]
  have t3 : StrOwn u3 (w.heap.size + 3) 0 zeroR := by have := StrOwn.new u2 zeroR 61; rw [e2] at this; rw [hu3]; exact this
  obtain ⟨u4, hu4⟩ : ∃ u, u = u3.setCells (w.heap.size + 3) 0 (lst 12 (cellR maxS)) := ⟨_, rfl⟩
  rw [← hu4] at hbw
  have e4 : u4.heap.size = w.heap.size + 4 := by rw [hu4, size_setCells, e3]
  obtain ⟨u5, hu5⟩ : ∃ u, u = u4.alloc (.cells (strCs zeroR) 61) := ⟨_, rfl⟩
  rw [← hu5] at hbw
  have hzo : ∀ u : World, (zeroValue 58).run Tryd.prog u = .ok (.agg (ordCs zeroR)) u := (zero_of_info zeroOi).1
  have HBW := Lib.hid hbw
  have HBP := Lib.hid (BP.start (a := a) hv hp)
  have HU0 := Lib.hid hu0
  have HU1 := Lib.hid hu1
  have HU2 := Lib.hid hu2
  have HU3 := Lib.hid hu3
  have HU4 := Lib.hid hu4
  have HU5 := Lib.hid hu5
  have HE0 := Lib.hid e0
  have HE1 := Lib.hid e1
  have HE2 := Lib.hid e2
  have HE4 := Lib.hid e4
  have HT3 := Lib.hid t3
  have En := Lib.hid en
  have HV := Lib.hid hv
  have HP := Lib.hid hp
  have HD := Lib.hid hd
  have HLONG := Lib.hid hlong
  obtain ⟨i0, hI, hz0, hz1, hz2⟩ := info_parts infoStr
  have HZC := Lib.hid (strCs_size zeroR)
  clear hlong en hv hp hd hbw hu0 hu1 hu2 hu3 hu4 hu5 e0 e1 e2 e3 e4 t3
  go_enter Tryd.func34, Tryd.ntmps34
  go_wp2_with fail
  refine wp_scope_enter2 0 (JB x a A n c (.func (.func F) #[] #[]) ps w) rfl (fun HR => ?_) ?_
  · go_upto_region 3 with (first
      | (rw [← HU0.out])
      | ((rw [← HU1.out]); try rw [HE0.out])
      | ((rw [← HU2.out]); try rw [HE1.out])
      | (refine wpl_built rfl 61 _ rfl #[(4, .int .i64 9223372036854775807)] ?hp (build_max _) ?_; case hp => simp [Act.eval, Act.put])
      | ((rw [← HU3.out]); try rw [HE2.out])
      | (refine wpl_store_str rfl (.tmp 4) (.tmp 12) rfl (w.heap.size + 3) 0 rfl rfl HT3.out ?_; rw [← HU4.out])
      | fail)
    go_wp2_with (first
      | (refine wpl_built rfl 61 _ rfl #[] ?hp2 (build_zeroStr _) ?_; case hp2 => simp [Act.eval, Act.put])
      | (refine wpList_listed rfl 80 1 _ rfl #[(0, strV zeroR)] ?hp3 (build_str zeroR _) ?_; (case hp3 => simp [Act.eval, Act.put]))
      | fail)
    rw [← HU5.out, HE4.out]
    go_step3
    rename_i K hKw
    refine hKw _ _ ?_
    exact HR.out _ _ _ (.mk [[]] ⟨none, fun _ => none⟩ 0 _ _ Nat.one_pos HBP.out HBW.out _ _ _ _ _ _ _ _ _ _ _ _ _ _ _ _ _ _ _ _ _ _ _ _ _ _ _ _ _ _ _ _ _ _ _ _ _ _ _ _ _ _ _ _ _ _ _ _ _ _ _ _ _ _ _ _ _ _ _ _ _ _ _ _)
  · intro m act u h
    cases h with
    | mk O0 S N vo _ hpos hbp hbw =>
    obtain ⟨O, os, rfl⟩ : ∃ O os, O0 = O ++ [os] := by
      rcases nil_or_snoc O0 with rfl | h
      · cases hpos
      · exact h
    obtain ⟨G, cap, rfl, hG, hGu, hcap, hcm, hso, hbw⟩ := hbw.pop
    have hcnt := hbp.cnt
    have hw8 := wgt_8 (n := ps.length) (by have := En.out; omega)
    have hlw : O.length < wgts ps.length (O ++ [os]) := by
      have := len_wgts ps.length (O ++ [os])
      rw [List.length_append, List.length_singleton] at this
      omega
    obtain ⟨L, hL⟩ : ∃ L, L = O.length := ⟨_, rfl⟩
    rw [← hL] at hcap hso hbw hlw ⊢
    obtain ⟨q, hq⟩ : ∃ q, q = L + 1 := ⟨_, rfl⟩
    rw [← hq] at hcap ⊢
    have hos := hbp.ok os (by simp)
    have h8 : os.length ≤ 8 := by have := hos.len; have := En.out; omega
    obtain ⟨f, hf⟩ : ∃ f, f = strOf os (runs x a ps os) := ⟨_, rfl⟩
    rw [← hf] at hso
    obtain ⟨b6, hb6⟩ : ∃ b, b = u.heap.size := ⟨_, rfl⟩
    obtain ⟨v1, hv1⟩ : ∃ v, v = u.alloc (.cells (strCs zeroR) 61) := ⟨_, rfl⟩
    have T1 : StrOwn v1 b6 0 zeroR := by have := StrOwn.new u zeroR 61; rw [hv1, hb6]; exact this
    obtain ⟨v2, hv2⟩ : ∃ v, v = v1.setCells b6 0 (lst 12 (cellR f)) := ⟨_, rfl⟩
    have T2 : StrOwn v2 b6 0 f := by rw [hv2]; exact T1.stored f
    have B2 : Below u.heap.size u v2 := by
      rw [hv2, hv1]
      exact below_cells ((Below.refl _ _).alloc (Nat.le_refl _) _) (by omega) _ _
    have HL6 : Hid (w.heap.size + 4 ≤ b6) := Lib.hid (by rw [hb6]; exact hbw.sz)
    have HW2 := Lib.hid (hbw.next B2)
    have HBP2 := Lib.hid hbp
    have HT1 := Lib.hid T1
    have HT2 := Lib.hid T2
    have HSO := Lib.hid hso
    have HV1 := Lib.hid hv1
    have HV2 := Lib.hid hv2
    have HB6 := Lib.hid hb6.symm
    have HF := Lib.hid hf
    have HQ := Lib.hid hq
    have HOS := Lib.hid hos
    have HL := Lib.hid hL
    have hL9 : L ≤ 19173961 := by omega
    have x1 : (q : Int) - 1 = (L : Int) := by omega
    have x2 : (0 : Int) ≤ (L : Int) := by omega
    have x3 : (L : Int) < (q : Int) := by omega
    have x4 : q ≤ 19173962 := by omega
    have x5 : L ≤ cap := by omega
    clear hpos hbp hbw hG hGu hso hcnt hw8 hlw hL hq hos hf hb6 hv1 T1 hv2 T2 B2
    go_upto_region 6 with (first
      | (refine wpl_load_str rfl (.tmp 19) rfl G (L * 12) rfl HSO.out ?_)
      | ((rw [← HV1.out]); try rw [HB6.out])
      | (refine wpl_store_str rfl (.tmp 6) (.tmp 20) rfl b6 0 (by rw [← HB6.out]; rfl) rfl HT1.out ?_; rw [← HV2.out])
      | fail)
    clear HSO HV1 HT1 HV2
    have HTS := Lib.hid (fun u => settled_any os h8 (runs x a ps os) u)
    rw [← HF.out] at HTS
    go_wp2_with (refine wpl_load_str rfl (.tmp 6) rfl b6 0 rfl HT2.out.toRowAt ?_)
    refine (HTS.out _).mono ?_
    rintro o v3 ⟨rfl, hb3⟩
    have HW3 := Lib.hid (HW2.out.next hb3)
    have HT3 := Lib.hid (HT2.out.next hb3)
    obtain ⟨b7, hb7⟩ : ∃ b, b = v3.heap.size := ⟨_, rfl⟩
    obtain ⟨v4, hv4⟩ : ∃ v, v = v3.alloc (.cells (ordCs zeroR) 58) := ⟨_, rfl⟩
    have K4 : OrdOwn v4 b7 0 zeroR := by have := RowOwn.new v3 8 (ordC zeroR) 58; rw [hv4, hb7]; exact this
    obtain ⟨v5, hv5⟩ : ∃ v, v = v4.setCells b7 0 (lst 8 (ordC (keyF os))) := ⟨_, rfl⟩
    have K5 : OrdOwn v5 b7 0 (keyF os) := by
      rw [hv5]
      exact (RowOwn.sets (o := 0) (m := 8) K4 (by omega) (ordC (keyF os))).to fun j hj => by rw [if_pos (by omega), Nat.sub_zero]
    have B5 : Below v3.heap.size v3 v5 := by
      rw [hv5, hv4]
      exact below_cells ((Below.refl _ _).alloc (Nat.le_refl _) _) (by omega) _ _
    have s5 : v5.heap.size = v3.heap.size + 1 := by rw [hv5, size_setCells, hv4]; simp
    have R5 : RD x a A n c (.func (.func F) #[] #[]) ps O S N (.slice (some ⟨G, 0, none⟩) L cap) f (keyF os) b6 b7 w v5 := ⟨HW3.out.next B5, HT3.out.next B5, K5, HL6.out, by have := HW3.out.sz; omega⟩
    obtain ⟨g, fd, hlook, hprn⟩ := look_any R5.bw.m (HOS.out.good (by have := En.out; omega))
    obtain ⟨b8, hb8⟩ : ∃ b, b = v5.heap.size := ⟨_, rfl⟩
    obtain ⟨v6, hv6⟩ : ∃ v, v = v5.alloc (.cells (strCs zeroR) 61) := ⟨_, rfl⟩
    have E6 : StrOwn v6 b8 0 zeroR := by have := StrOwn.new v5 zeroR 61; rw [hv6, hb8]; exact this
    obtain ⟨v7, hv7⟩ : ∃ v, v = v6.setCells b8 0 (lst 12 (cellR g)) := ⟨_, rfl⟩
    have E7 : StrOwn v7 b8 0 g := by rw [hv7]; exact E6.stored g
    have B7 : Below v5.heap.size v5 v7 := by
      rw [hv7, hv6]
      exact below_cells ((Below.refl _ _).alloc (Nat.le_refl _) _) (by omega) _ _
    have R7 := R5.next B7
    have HK4 := Lib.hid K4
    have HK5 := Lib.hid K5
    have HE6 := Lib.hid E6
    have HE7 := Lib.hid E7
    have HR7 := Lib.hid R7
    have HB7 := Lib.hid hb7.symm
    have HB8 := Lib.hid hb8.symm
    have HV4 := Lib.hid hv4
    have HV5 := Lib.hid hv5
    have HV6 := Lib.hid hv6
    have HV7 := Lib.hid hv7
    have HPR := Lib.hid hprn
    clear hb3 hb7 hv4 K4 hv5 K5 B5 s5 R5 hprn hb8 hv6 E6 hv7 E7 B7 R7
    go_upto_region 8 with (first
      | ((rw [← HV4.out]); try rw [HB7.out])
      | (refine wpl_store_ord rfl (.tmp 7) (.tmp 27) rfl b7 0 (by rw [← HB7.out]; rfl) rfl HK4.out ?_; rw [← HV5.out])
      | (refine wpl_load_ord rfl (.tmp 7) rfl b7 0 rfl HK5.out.toRowAt ?_)
      | ((rw [← HV6.out]); try rw [HB8.out])
      | (refine wpl_store_str rfl (.tmp 8) (.tmp 32) rfl b8 0 (by rw [← HB8.out]; rfl) rfl HE6.out ?_; rw [← HV7.out])
      | fail)
    clear HV4 HV5 HV6 HV7 HK4 HK5 HE6 HW2 HW3 HT2 HT3 hlook HTS HB7 HB6
    obtain ⟨sm, hsm⟩ : ∃ s, s = (runs x a ps os).sum := ⟨_, rfl⟩
    obtain ⟨t, ht⟩ : ∃ t, bstF x a ps S.b 11 = t := ⟨_, rfl⟩
    have hok := runs_sum_in (a := a) HV.out HP.out h8
    have HLS : Hid (decide (sm < t) = !prnB S.b sm) := Lib.hid (by
      rw [hsm]
      exact lss_prn (by have := hok.s1; omega) (fun d hd => (HBP2.out.bst d hd).1) t ht)
    have f11 : f 11 = sm := by rw [HF.out, strOf_11, hsm]
    have f10 : f 10 = (runs x a ps os).at_ := by rw [HF.out, strOf_10]
    have c1 : v7.cell? ⟨b6, 11, none⟩ = some (.int .i64 sm) := by
      have := HR7.out.s.cell 11 (by decide)
      rw [Nat.zero_add, cellR_11, f11] at this
      exact this
    have c2 : v7.cell? ⟨w.heap.size + 3, 11, none⟩ = some (.int .i64 t) := by
      have := HR7.out.bw.t.cell 11 (by decide)
      rw [Nat.zero_add, cellR_11, ht] at this
      exact this
    have HPB : Hid (prnA x a ps S os = (prnB S.b sm || (fd && (decide (g 10 ≤ f 10) && decide (g 11 ≤ f 11))))) := Lib.hid (by
      unfold prnA
      rw [HPR.out, f10, f11, ← hsm])
    obtain ⟨pr, hpr⟩ : ∃ p, p = prnA x a ps S os := ⟨_, rfl⟩
    rw [← hpr] at HPB
    have HPA := Lib.hid hpr
    clear hsm ht hok f11 f10 hpr
    go_cut [47] from 34 to 47 (fun v47 wx => v47 = .bool (!pr) ∧ RD x a A n c (.func (.func F) #[] #[]) ps O S N (.slice (some ⟨G, 0, none⟩) L cap) f (keyF os) b6 b7 w wx)
    case first =>
      obtain ⟨z, hz⟩ : ∃ z, z = (decide (g 10 ≤ f 10) && decide (g 11 ≤ f 11)) := ⟨_, rfl⟩
      rw [← hz] at HPB
      have HNB := Lib.hid (fun u => noBetter_any f g z hz u)
      clear hz
      cases hpb : prnB S.b sm with
      | true =>
        have hd : decide (sm < t) = false := by rw [HLS.out, hpb]; rfl
        have HPP : Hid (pr = true) := Lib.hid (by rw [HPB.out, hpb]; rfl)
        clear hpb HLS HPB
        go_wp2_with fail
        go_meet
        case rel => exact ⟨by rw [HPP.out]; rfl, HR7.out⟩
      | false =>
        have hd : decide (sm < t) = true := by rw [HLS.out, hpb]; rfl
        cases fd with
        | false =>
          have HPP : Hid (pr = false) := Lib.hid (by rw [HPB.out, hpb]; rfl)
          clear hpb HLS HPB
          go_wp2_with fail
          go_meet
          case rel => exact ⟨by rw [HPP.out]; rfl, HR7.out⟩
        | true =>
          have HPP : Hid (pr = z) := Lib.hid (by rw [HPB.out, hpb]; rfl)
          clear hpb HLS HPB
          go_wp2_with (first
            | (refine wpl_load_strw rfl (.tmp 6) rfl b6 0 rfl HR7.out.s.toRowAt ?_)
            | (refine wpl_load_strw rfl (.tmp 8) rfl b8 0 rfl HE7.out.toRowAt ?_)
            | fail)
          refine (HNB.out _).mono ?_
          rintro o v8 ⟨rfl, hb8⟩
          have HR8 := Lib.hid (HR7.out.next hb8)
          clear hb8 c1 c2 HR7 HE7
          go_wp2_with fail
          go_meet
          case rel => exact ⟨by rw [HPP.out], HR8.out⟩
    case rest =>
      obtain ⟨rfl, hR⟩ := hcut
      have HR := Lib.hid hR
      clear hR c1 c2 HR7 HE7 HLS HPB HPR HB8
      go_upto_if 47 with fail
      go_cut [5, 10] from 48 to 65 (fun vo v10 wx => RA x a A n c (.func (.func F) #[] #[]) ps w (wgts ps.length (O ++ [os])) vo wx)
      case first =>
        cases pr with
        | true =>
          go_wp2_with fail
          go_meet
          case rel => exact ⟨O, S, N, HBP2.out.prune HPA.out.symm, HR.out.bw, wgts_pop⟩
        | false =>
          have hcn := HBP2.out.cnt
          have hw8 := wgt_8 (n := ps.length) (by have := En.out; omega)
          obtain ⟨v9, hrun, hm9, hg9⟩ := HR.out.bw.m.put (by unfold maxLen; omega) (HOS.out.good (by have := En.out; omega))
          rw [← HF.out] at hrun
          have HR9 := Lib.hid (HR.out.put hg9 os hm9)
          obtain ⟨li, hli⟩ : ∃ l : Int, l = (os.length : Int) := ⟨_, rfl⟩
          have c8 : v9.cell? ⟨b6, 8, none⟩ = some (.int .i64 li) := by
            have := HR9.out.s.cell 8 (by decide)
            rw [Nat.zero_add, cellR_8, HF.out, strOf_8, ← hli] at this
            exact this
          have g2 := HR9.out.bw.g2
          have HLI := Lib.hid hli
          clear hcn hw8 hm9 hg9 hli
          go_upto_if 56 with (first
            | (refine wpl_load_ord rfl (.tmp 7) rfl b7 0 rfl HR.out.k.toRowAt ?_)
            | (refine wpl_load_str rfl (.tmp 6) rfl b6 0 rfl HR.out.s.toRowAt ?_)
            | fail)
          have HT9 := Lib.hid HR9.out.bw.t
          clear hrun HR c8 g2
          go_cut [57] from 48 to 57 (fun v57 wx => RD x a A n c (.func (.func F) #[] #[]) ps O ⟨nowB x a ps os S.b, putS S.seen os⟩ (N + 1) (.slice (some ⟨G, 0, none⟩) L cap) f (keyF os) b6 b7 w wx)
          case first =>
            by_cases hl : os.length = n
            · have hz : (li == (n : Int)) = true := by rw [HLI.out, beq_iff_eq]; omega
              have HNB : Hid (nowB x a ps os S.b = some (os, (runs x a ps os).sum)) := Lib.hid (by unfold nowB; rw [if_pos (hl.trans En.out)])
              have HBF : Hid (bstF x a ps (some (os, (runs x a ps os).sum)) = f) := Lib.hid HF.out.symm
              clear hl
              go_wp2_with (first
                | (refine wpl_load_str rfl (.tmp 6) rfl b6 0 rfl HR9.out.s.toRowAt ?_)
                | (refine wpl_store_str rfl (.tmp 4) (.tmp 57) rfl (w.heap.size + 3) 0 rfl rfl HT9.out ?_)
                | fail)
              go_meet
              case rel =>
                have h1 := HR9.out.best (some (os, (runs x a ps os).sum))
                rw [HBF.out] at h1
                rw [HNB.out]
                exact h1
            · have hz : (li == (n : Int)) = false := by
                rw [HLI.out, beq_eq_false_iff_ne]
                omega
              have HNB : Hid (nowB x a ps os S.b = S.b) := Lib.hid (by unfold nowB; rw [if_neg (by rw [← En.out]; exact hl)])
              clear hl
              go_wp2_with fail
              go_meet
              case rel => rw [HNB.out]; exact HR9.out
          case rest =>
            have HR10 := Lib.hid hcut
            clear hcut HR9 HT9
            have g0 := HR10.out.bw.g0
            have g1 := HR10.out.bw.g1
            have g2 := HR10.out.bw.g2
            have g3 := HR10.out.bw.g3
            have HLG := Lib.hid (HLONG.out os HOS.out _ ((hg.below HR10.out.bw.b).more HR10.out.bw.b.size))
            rw [← HF.out] at HLG
            obtain ⟨xs, hxs⟩ : ∃ xs, xs = (nexts ps.length os).map fun o => strOf o (runs x a ps o) := ⟨_, rfl⟩
            rw [← hxs] at HLG
            have hxl : xs.length ≤ 8 := by
              rw [hxs, List.length_map]
              unfold nexts
              rw [List.length_map]
              have := leftP_len ps.length os
              have := En.out
              omega
            have HXS := Lib.hid hxs
            obtain ⟨m, hm⟩ : ∃ m, m = xs.length := ⟨_, rfl⟩
            rw [← hm] at HLG hxl
            have HM := Lib.hid hm
            clear hxs hm
            go_wp2_with (refine wpl_load_str rfl (.tmp 6) rfl b6 0 rfl HR10.out.s.toRowAt ?_)
            refine HLG.out.mono ?_
            rintro o v11 ⟨vl, rfl, hl11, hb11⟩
            have HR11 := Lib.hid (HR10.out.next hb11)
            have hfin : ∀ (u v : World) (vo : Value), RD x a A n c (.func (.func F) #[] #[]) ps O ⟨nowB x a ps os S.b, putS S.seen os⟩ (N + 1) (.slice (some ⟨G, 0, none⟩) L cap) f (keyF os) b6 b7 w u → u.grownBy v (some G) → v.ownsRow (w.heap.size + 4) 61 12 vo (L + m) ((O.map fun os => strOf os (runs x a ps os)).flatMap strC ++ xs.reverse.flatMap strC) →
                RA x a A n c (.func (.func F) #[] #[]) ps w (wgts ps.length (O ++ [os])) vo v := fun u v vo hu hgr ho => by
              refine ⟨_, _, _, HBP2.out.enter HPA.out.symm, hu.push hgr (hu.bw.o.lt G rfl).1 ?_, wgts_less HOS.out⟩
              have e1 : (O ++ (nexts ps.length os).reverse).length = L + m := by rw [List.length_append, List.length_reverse, HL.out, HM.out, HXS.out, List.length_map]
              have e2 : ((O ++ (nexts ps.length os).reverse).map fun os => strOf os (runs x a ps os)).flatMap strC = (O.map fun os => strOf os (runs x a ps os)).flatMap strC ++ xs.reverse.flatMap strC := by
                rw [List.map_append, List.flatMap_append, HXS.out, ← List.map_reverse]
              rw [e1, e2]
              exact ho
            have HFN := Lib.hid hfin
            clear hfin g0 g1 g2 g3 HLG
            rcases hl11.2 with ⟨rfl, h0⟩ | ⟨g9, cap9, cur9, rfl, hg9, hh9, _⟩
            · have HX0 : Hid (xs = []) := Lib.hid (List.length_eq_zero_iff.1 (by rw [← HM.out]; exact h0))
              have HO : Hid (v11.ownsRow (w.heap.size + 4) 61 12 (.slice (some ⟨G, 0, none⟩) L cap) L ((O.map fun os => strOf os (runs x a ps os)).flatMap strC)) := Lib.hid (by have := HR11.out.bw.o; rwa [← HL.out] at this)
              have H0 := Lib.hid h0
              clear hl11 hb11 h0
              go_wp2_with fail
              refine (reverse_none _).mono ?_
              rintro o v12 ⟨rfl, rfl⟩
              go_wp2_with (at_builtin; refine wpList_append_own_none rfl (.tmp 63) (.tmp 64) 80 rfl (w.heap.size + 4) 61 i0 12 Tryd.underlying80 hI _ L _ rfl HO.out rfl ?_)
              go_meet
              case rel => exact HFN.out _ _ _ HR11.out (grownBy_refl _ _) (by rw [HX0.out, H0.out]; simpa using HO.out)
            · have HP11 := Lib.hid hl11
              have HB11 := Lib.hid hb11
              clear hl11 hb11 hh9 hg9
              go_wp2_with fail
              refine (reverse_any _ g9 m cap9 xs HM.out (by omega) _ HP11.out).mono ?_
              rintro o v12 ⟨rfl, hP12, hb12⟩
              have HR12 := Lib.hid (HR10.out.next (HB11.out.trans hb12))
              have HO : Hid (v12.ownsRow (w.heap.size + 4) 61 12 (.slice (some ⟨G, 0, none⟩) L cap) L ((O.map fun os => strOf os (runs x a ps os)).flatMap strC)) := Lib.hid (by have := HR12.out.bw.o; rwa [← HL.out] at this)
              have HP12 := Lib.hid hP12
              have hlen := hP12.1
              have hcells := hP12.cells rfl
              have hones : ∀ u ∈ xs.reverse.flatMap strC, u.oneCell' = true := fun u hu => by
                obtain ⟨y, _, hy⟩ := List.mem_flatMap.1 hu
                exact str_ones y u hy
              have hz12 := HR12.out.bw.sz
              have HLEN := Lib.hid hlen
              have HCELLS := Lib.hid hcells
              have HONES := Lib.hid hones
              clear hP12 hb12 HP11 HB11 HR11 hlen hcells hones
              go_wp2_with (at_builtin; refine wpList_append_own _ rfl (.tmp 63) (.tmp 64) 80 rfl (w.heap.size + 4) 61 i0 (.agg (strCs zeroR)) 12 40 Tryd.underlying80 hI hz0 hz1 hz2 HZC.out (by decide) _ L _ rfl HO.out ⟨g9, 0, none⟩ m cap9 (xs.reverse.flatMap strC) rfl HLEN.out HCELLS.out HONES.out (by unfold maxLen; omega) (by omega) hz12 ?_; intro v13 w13 hP13 hgr13 _; have HP13 := Lib.hid hP13; have HG13 := Lib.hid hgr13; clear hP13 hgr13)
              go_meet
              case rel => exact HFN.out _ _ _ HR12.out HG13.out HP13.out
      case rest =>
        obtain ⟨O', S', N', hbp, hbw, hlt⟩ := hcut
        obtain ⟨A', c', rfl, _⟩ := owns_slice hbw.o
        obtain ⟨l, hl⟩ : ∃ l, l = O'.length := ⟨_, rfl⟩
        rw [← hl] at hbw ⊢
        have HBP := Lib.hid hbp
        have HBW := Lib.hid hbw
        have HLT := Lib.hid hlt
        have HL' := Lib.hid hl
        clear hbp hbw hlt hl HR HBP2 HF HQ HOS HPA
        by_cases h0 : 0 < l
        · go_wp2_with fail
          go_step3
          exact ⟨rfl, _, HLT.out, .mk O' S' N' _ _ (by rw [← HL'.out]; exact h0) HBP.out HBW.out _ _ _ _ _ _ _ _ _ _ _ _ _ _ _ _ _ _ _ _ _ _ _ _ _ _ _ _ _ _ _ _ _ _ _ _ _ _ _ _ _ _ _ _ _ _ _ _ _ _ _ _ _ _ _ _ _ _ _ _ _ _ _ _⟩
        · obtain rfl : l = 0 := by omega
          have HT := Lib.hid HBW.out.t
          have HRR := Lib.hid HBW.out.r
          go_wp2_with (first
            | (refine wpl_load_str rfl (.tmp 4) rfl (w.heap.size + 3) 0 rfl HT.out.toRowAt ?_)
            | (refine wpl_store_str rfl (.tmp 2) (.tmp 69) rfl (w.heap.size + 1) 0 rfl rfl HRR.out ?_)
            | fail)
          simp only [Exit.jump]
          refine bodyPost_ret (v := strV (bstF x a ps S'.b)) (results_stored Tryd.results34 rfl (by rw [lst_len]; exact HRR.out.there) Tryd.underlying61 rfl (by rw [infoR, lst_len])) rfl ⟨?_, below_cells HBW.out.b (by omega) _ _⟩
          have h1 := HBP.out.fin
          rw [List.length_eq_zero_iff.1 HL'.out.symm, drain_nil, HD.out] at h1
          rw [h1]
          rfl
end Go.Proofs.YtjhkjbdpmianfaaDoor.iron

/-
  The least order by each measure, the program's.
-/
namespace Go.Proofs.YtjhkjbdpmianfaaDoor.iron
open Go Go.RowKit sl stk errs row ins

theorem longer_nexts {x : Iro} {a : Nat} {A : Option Addr} {n c : Nat} {F : Nat} {ps : List Pie} (en : n = ps.length) (h8 : n ≤ 8) (hv : iroB x = true) (hp : ps.all pieB = true)
    (h : ∀ (os : List Int), os.length ≤ 8 → (∀ i : Nat, i < n → (i : Int) ∉ os → os.length < 8) → ∀ (s : Sta), s.Ok os.length → ∀ w : World, Sl Pie.cells 3 w w.heap.size A ps → Calls Tryd.prog 45 #[gV x A n c (.func (.func F) #[] #[]), strV (strOf os s)] w fun o w' => ∃ v, o = .returned v ∧ w'.ownsRow w.heap.size 61 12 v (lonK x a ps os s n).length ((lonK x a ps os s n).flatMap strC) ∧ Below w.heap.size w w') :
    ∀ (os : List Int), OrdOk ps.length os → ∀ u : World, Sl Pie.cells 3 u u.heap.size A ps → Calls Tryd.prog 45 #[gV x A n c (.func (.func F) #[] #[]), strV (strOf os (runs x a ps os))] u fun o w' => ∃ v, o = .returned v ∧ w'.ownsRow u.heap.size 61 12 v ((nexts ps.length os).map fun o => strOf o (runs x a ps o)).length (((nexts ps.length os).map fun o => strOf o (runs x a ps o)).flatMap strC) ∧ Below u.heap.size u w' := by
  intro os ho u hu
  have hl : os.length ≤ 8 := by have := ho.len; omega
  have h1 := h os hl (fun i hi hni => by
    refine Classical.byContradiction fun hge => hni (ho.full (by omega) i (by omega))) (runs x a ps os) (runs_sum_in hv hp hl) u hu
  subst en
  rw [lonK_nexts] at h1
  exact h1
set_option maxRecDepth 100000 in
set_option maxHeartbeats 8000000 in
theorem leastBy_0 (x : Iro) (hx : x.Fits) (A : Option Addr) (n c : Nat) (ps : List Pie) (en : n = ps.length) (hn : n ≤ 1048576) (hf : ∀ p ∈ ps, p.Fits) (ys : List Int) (r0 : Int) (r1 : Nat) (hr : bestR 0 x ps = (ys, r0, r1)) {w : World} {B : Nat} {e : Nat → Addr} (h : Errs w B e) (hB : B ≤ w.heap.size) (hg : Sl Pie.cells 3 w w.heap.size A ps) :
    Calls Tryd.prog 25 #[x.v, .slice A n c, .int .u8 0] w fun o w' => ∃ v, o = .returned (.tuple #[v, .int .i64 r0, .int .i64 r1]) ∧ w'.ownsRow w.heap.size 2 1 v ys.length (ys.flatMap intS.C) ∧ Below w.heap.size w w' := by
  obtain ⟨k0, hk0⟩ : ∃ k : Nat, k = if iroB x = true then 0 else 1 := ⟨_, rfl⟩
  obtain ⟨k1, hk1⟩ : ∃ k : Nat, k = codePs ps := ⟨_, rfl⟩
  have HF := Lib.hid (code2i x ps k0 k1 hk0 hk1)
  have HK0 := Lib.hid hk0
  have HK1 := Lib.hid hk1
  have HR := Lib.hid hr
  have En := Lib.hid en
  have HFT := Lib.hid hf
  have S0 := Lib.hid (HotS.new x w 30)
  have c0 := S0.out.c0
  have c1 := S0.out.c1
  clear hk0 hk1 hr en hf
  go_enter Tryd.func25, Tryd.ntmps25
  go_wp2_with fail
  refine (checkIron_any x hx (h.below (S0.out.b.mono hB)) (Nat.le_trans hB S0.out.b.size) k0 HK0.out).mono ?_
  rintro o w1 ⟨rfl, hb1⟩
  have S1 := Lib.hid (S0.out.next hb1)
  clear c0 c1 hb1
  go_wp2_with fail
  refine (checkIroned_any A n c ps En.out hn HFT.out (h.below (S1.out.b.mono hB)) (Nat.le_trans hB S1.out.b.size) ((hg.below S1.out.b).more S1.out.b.size) k1 HK1.out).mono ?_
  rintro o w2 ⟨rfl, hb2⟩
  have S2 := Lib.hid (S1.out.next hb2)
  clear hb2
  go_wp2_with (refine wpList_listed rfl 75 2 _ rfl #[(0, errOf e k0), (1, errOf e k1)] ?hp (buildSlice2 e k0 k1 _) ?_; case hp => simp [Act.eval])
  refine (firstOf_any e [k0, k1] _ 2 2 rfl (by decide) _ (cells_errs2 e k0 k1 w2 52)).mono ?_
  rintro o w3 ⟨rfl, rfl⟩
  rw [HF.out]
  obtain ⟨w3, hw3⟩ : ∃ w3, w3 = w2.alloc (.cells #[errOf e k0, errOf e k1] 52) := ⟨_, rfl⟩
  have S3 := Lib.hid (S2.out.next ((Below.refl _ _).alloc (Nat.le_refl _) (.cells #[errOf e k0, errOf e k1] 52)))
  rw [← hw3] at S3 ⊢
  have H3 := Lib.hid (h.below (S3.out.b.mono hB))
  have c0 := S3.out.c0
  have c1 := S3.out.c1
  clear hw3
  cases hc : codeIr x ps with
  | zero =>
    have HC := Lib.hid hc
    clear hc
    obtain ⟨hv, hp, h8⟩ := codeIr_zero HC.out
    rw [← En.out] at h8
    have HV := Lib.hid hv
    have HP := Lib.hid hp
    clear hv hp
    rw [show errOf e 0 = .nilIface from rfl]
    obtain ⟨hbb, hbo, rfl⟩ := best_yes HR.out HC.out
    have HBB := Lib.hid hbb
    have HBO := Lib.hid hbo
    have hzz : ∀ u : World, (zeroValue 61).run Tryd.prog u = .ok (.agg (strCs zeroR)) u := (zero_of_info zeroRi).1
    clear hbb hbo
    go_wp2_with fail
    refine (newIroning_0 x A n c _).mono ?_
    rintro o w4 ⟨rfl, hb4⟩
    have S4 := Lib.hid (S3.out.next hb4)
    clear hb4 S3
    go_wp2_with fail
    refine (best_any x 0 HV.out A n c ps En.out h8 HP.out 53 _ ((hg.below S4.out.b).more S4.out.b.size) (ys, r0) HBB.out (longer_nexts En.out h8 HV.out HP.out fun os h1 h2 s hs u hu => longer_0 x HV.out A n c ps En.out h8 HP.out os h1 h2 s hs u hu)).mono ?_
    rintro o w5 ⟨rfl, hb5⟩
    have S5 := Lib.hid (S4.out.next hb5)
    obtain ⟨b5, hb5'⟩ : ∃ b, b = w5.heap.size := ⟨_, rfl⟩
    obtain ⟨f, hf⟩ : ∃ f, f = strOf ys (runs x 0 ps ys) := ⟨_, rfl⟩
    obtain ⟨v1, hv1⟩ : ∃ v, v = w5.alloc (.cells (strCs zeroR) 61) := ⟨_, rfl⟩
    have T1 : StrOwn v1 b5 0 zeroR := by have := StrOwn.new w5 zeroR 61; rw [hv1, hb5']; exact this
    obtain ⟨v2, hv2⟩ : ∃ v, v = v1.setCells b5 0 (lst 12 (cellR f)) := ⟨_, rfl⟩
    have T2 : StrOwn v2 b5 0 f := by rw [hv2]; exact T1.stored f
    have B2 : Below w5.heap.size w5 v2 := by
      rw [hv2, hv1]
      exact below_cells ((Below.refl _ _).alloc (Nat.le_refl _) _) (by omega) _ _
    have S6 := Lib.hid (S5.out.next B2)
    have HT1 := Lib.hid T1
    have HT2 := Lib.hid T2
    have HV1 := Lib.hid hv1
    have HV2 := Lib.hid hv2
    have HB5 := Lib.hid hb5'.symm
    have HF1 := Lib.hid hf
    have HTI := Lib.hid (fun u => indices_any ys (by have := HBO.out.len; have := En.out; show ys.length ≤ 8; simp only at *; omega) (fun i hi => by have := HBO.out.rng i hi; have := En.out; omega) (runs x 0 ps ys) u)
    rw [← hf] at HTI ⊢
    clear hb5 hb5' hv1 T1 hv2 T2 B2 hf S4 S5 c0 c1
    go_upto_region 5 with (first
      | ((rw [← HV1.out]); try rw [HB5.out])
      | (refine wpl_store_str rfl (.tmp 10) (.tmp 25) rfl b5 0 (by rw [← HB5.out]; rfl) rfl HT1.out ?_; rw [← HV2.out])
      | fail)
    have hS0 : StrAt v2.drew b5 0 f ∧ v2.drew.cell? ⟨b5, 11, none⟩ = some (.int .i64 r0) := by
      have h1 := HT2.out.toRowAt.next (Below.refl v2.heap.size v2).drew
      refine ⟨h1, ?_⟩
      have h2 := h1.cell 11 (by decide)
      rw [Nat.zero_add, cellR_11, HF1.out, strOf_11] at h2
      have h3 := HBO.out.sum
      simp only at h3
      rw [h2, ← h3]
    refine wp_region_held_drew (S := fun u => StrAt u b5 0 f ∧ u.cell? ⟨b5, 11, none⟩ = some (.int .i64 r0)) (by kernel_rfl) hS0 (fun hHeld => ?_)
    have S7 := Lib.hid (S6.out.next (Below.refl v2.heap.size v2).drew)
    clear hS0 HT1 HT2 HV1 HV2 S6
    generalize v2.drew = v3 at S7 hHeld ⊢
    refine wpAnyH_take (i := 0) (v := strV f) rfl (by kernel_rfl) (by kernel_rfl) (by kernel_rfl) (fun _ _ _ h => h) (yieldsIf_load_mid (by rfl) 61 (.tmp 10) rfl b5 0 rfl (lst 12 (cellR f)) _ (fun u h => h.1.range) Tryd.underlying61 rfl (by rw [infoR, lst_len])) hHeld ?_
    (try simp only [Act.put, List.getElem_toArray, List.getElem_cons_zero, List.getElem_cons_succ, List.setIfInBounds_toArray, List.set_cons_zero, List.set_cons_succ])
    refine wpAnyH_take (i := 2) (v := ?_) rfl (by kernel_rfl) (by kernel_rfl) (by kernel_rfl) (fun _ _ _ h => h) (Or.inl ⟨by rfl, ?_⟩) (by assumption) ?_
    rotate_left
    · intro u hSu
      (try dsimp only at hSu)
      first | (go_simp; done) | (go_simp; with_reducible rfl)
    try simp only [Act.put, List.getElem_toArray, List.getElem_cons_zero, List.getElem_cons_succ, List.setIfInBounds_toArray, List.set_cons_zero, List.set_cons_succ]
    refine wpAnyH_take (i := 3) (v := ?_) rfl (by kernel_rfl) (by kernel_rfl) (by kernel_rfl) (fun _ _ _ h => h) (Or.inl ⟨by rfl, ?_⟩) (by assumption) ?_
    rotate_left
    · intro u hSu
      (try dsimp only at hSu)
      first | (go_simp; done) | (go_simp; with_reducible rfl)
    try simp only [Act.put, List.getElem_toArray, List.getElem_cons_zero, List.getElem_cons_succ, List.setIfInBounds_toArray, List.set_cons_zero, List.set_cons_succ]
    refine wpAnyH_ready (rs := [1]) (by kernel_rfl) (by simp) ?_
    refine AllReadyH.cons rfl (fun K hK => ?_) AllReadyH.nil
    go_simp
    refine (HTI.out _).mono ?_
    rintro o v4 ⟨vi, rfl, hP4, hb4⟩
    have S8 := Lib.hid (S7.out.next hb4)
    have HP4 := Lib.hid hP4
    have hz7 := S7.out.b.size
    have hh : StrAt v4 b5 0 f ∧ v4.cell? ⟨b5, 11, none⟩ = some (.int .i64 r0) := ⟨hHeld.1.next hb4, (hb4.cell (p := ⟨b5, 11, none⟩) hHeld.1.lt).trans hHeld.2⟩
    clear hP4 hb4 S7
    refine hK.out _ _ (hh) (fun hHeld2 => ?_)
    clear hK K hHeld
    have hHeld := hHeld2
    clear hHeld2
    try simp only [Act.put, List.getElem_toArray, List.getElem_cons_zero, List.getElem_cons_succ, List.setIfInBounds_toArray, List.set_cons_zero, List.set_cons_succ]
    clear hh
    refine wpAnyH_take (i := 4) (v := ?_) rfl (by kernel_rfl) (by kernel_rfl) (by kernel_rfl) (fun _ _ _ h => h) (Or.inl ⟨by rfl, ?_⟩) (by assumption) ?_
    rotate_left
    · intro u hSu
      (try dsimp only at hSu)
      first | (go_simp; done) | (go_simp; with_reducible rfl)
    try simp only [Act.put, List.getElem_toArray, List.getElem_cons_zero, List.getElem_cons_succ, List.setIfInBounds_toArray, List.set_cons_zero, List.set_cons_succ]
    refine wpAnyH_take (i := 5) (v := ?_) rfl (by kernel_rfl) (by kernel_rfl) (by kernel_rfl) (fun _ _ _ h => h) (Or.inl ⟨by rfl, ?_⟩) (by assumption) ?_
    rotate_left
    · intro u hSu
      (try dsimp only at hSu)
      first | (go_simp; done) | (go_simp; with_reducible rfl)
    try simp only [Act.put, List.getElem_toArray, List.getElem_cons_zero, List.getElem_cons_succ, List.setIfInBounds_toArray, List.set_cons_zero, List.set_cons_succ]
    refine wpAnyH_take (i := 6) (v := ?_) rfl (by kernel_rfl) (by kernel_rfl) (by kernel_rfl) (fun _ _ _ h => h) (Or.inl ⟨by rfl, ?_⟩) (by assumption) ?_
    rotate_left
    · intro u hSu
      (try dsimp only at hSu)
      first | (go_simp; done) | (go_simp; with_reducible rfl)
    try simp only [Act.put, List.getElem_toArray, List.getElem_cons_zero, List.getElem_cons_succ, List.setIfInBounds_toArray, List.set_cons_zero, List.set_cons_succ]
    refine wpAnyH_done (by kernel_rfl) ?_ _
    clear hHeld
    go_wp2_with fail
    go_ret3
    exact ⟨_, rfl, owns_below HP4.out (by omega), S8.out.b⟩
  | succ i =>
    obtain ⟨rfl, rfl, rfl⟩ := best_no HR.out hc
    have hi := codeIr_le x ps
    rw [hc] at hi
    rw [show errOf e (i + 1) = errV (e i) from rfl]
    have HQ := Lib.hid (codeOf_any H3.out (i + 1) (by omega))
    rw [show errOf e (i + 1) = errV (e i) from rfl] at HQ
    clear hc hi
    go_wp2_with fail
    refine HQ.out.mono ?_
    rintro o w4 ⟨rfl, rfl⟩
    go_wp2_with fail
    go_ret3
    exact ⟨_, rfl, World.ownsRow_nil _ _ _ _, S3.out.b⟩
set_option maxRecDepth 100000 in
set_option maxHeartbeats 8000000 in
theorem leastBy_1 (x : Iro) (hx : x.Fits) (A : Option Addr) (n c : Nat) (ps : List Pie) (en : n = ps.length) (hn : n ≤ 1048576) (hf : ∀ p ∈ ps, p.Fits) (ys : List Int) (r0 : Int) (r1 : Nat) (hr : bestR 1 x ps = (ys, r0, r1)) {w : World} {B : Nat} {e : Nat → Addr} (h : Errs w B e) (hB : B ≤ w.heap.size) (hg : Sl Pie.cells 3 w w.heap.size A ps) :
    Calls Tryd.prog 25 #[x.v, .slice A n c, .int .u8 1] w fun o w' => ∃ v, o = .returned (.tuple #[v, .int .i64 r0, .int .i64 r1]) ∧ w'.ownsRow w.heap.size 2 1 v ys.length (ys.flatMap intS.C) ∧ Below w.heap.size w w' := by
  obtain ⟨k0, hk0⟩ : ∃ k : Nat, k = if iroB x = true then 0 else 1 := ⟨_, rfl⟩
  obtain ⟨k1, hk1⟩ : ∃ k : Nat, k = codePs ps := ⟨_, rfl⟩
  have HF := Lib.hid (code2i x ps k0 k1 hk0 hk1)
  have HK0 := Lib.hid hk0
  have HK1 := Lib.hid hk1
  have HR := Lib.hid hr
  have En := Lib.hid en
  have HFT := Lib.hid hf
  have S0 := Lib.hid (HotS.new x w 30)
  have c0 := S0.out.c0
  have c1 := S0.out.c1
  clear hk0 hk1 hr en hf
  go_enter Tryd.func25, Tryd.ntmps25
  go_wp2_with fail
  refine (checkIron_any x hx (h.below (S0.out.b.mono hB)) (Nat.le_trans hB S0.out.b.size) k0 HK0.out).mono ?_
  rintro o w1 ⟨rfl, hb1⟩
  have S1 := Lib.hid (S0.out.next hb1)
  clear c0 c1 hb1
  go_wp2_with fail
  refine (checkIroned_any A n c ps En.out hn HFT.out (h.below (S1.out.b.mono hB)) (Nat.le_trans hB S1.out.b.size) ((hg.below S1.out.b).more S1.out.b.size) k1 HK1.out).mono ?_
  rintro o w2 ⟨rfl, hb2⟩
  have S2 := Lib.hid (S1.out.next hb2)
  clear hb2
  go_wp2_with (refine wpList_listed rfl 75 2 _ rfl #[(0, errOf e k0), (1, errOf e k1)] ?hp (buildSlice2 e k0 k1 _) ?_; case hp => simp [Act.eval])
  refine (firstOf_any e [k0, k1] _ 2 2 rfl (by decide) _ (cells_errs2 e k0 k1 w2 52)).mono ?_
  rintro o w3 ⟨rfl, rfl⟩
  rw [HF.out]
  obtain ⟨w3, hw3⟩ : ∃ w3, w3 = w2.alloc (.cells #[errOf e k0, errOf e k1] 52) := ⟨_, rfl⟩
  have S3 := Lib.hid (S2.out.next ((Below.refl _ _).alloc (Nat.le_refl _) (.cells #[errOf e k0, errOf e k1] 52)))
  rw [← hw3] at S3 ⊢
  have H3 := Lib.hid (h.below (S3.out.b.mono hB))
  have c0 := S3.out.c0
  have c1 := S3.out.c1
  clear hw3
  cases hc : codeIr x ps with
  | zero =>
    have HC := Lib.hid hc
    clear hc
    obtain ⟨hv, hp, h8⟩ := codeIr_zero HC.out
    rw [← En.out] at h8
    have HV := Lib.hid hv
    have HP := Lib.hid hp
    clear hv hp
    rw [show errOf e 0 = .nilIface from rfl]
    obtain ⟨hbb, hbo, rfl⟩ := best_yes HR.out HC.out
    have HBB := Lib.hid hbb
    have HBO := Lib.hid hbo
    have hzz : ∀ u : World, (zeroValue 61).run Tryd.prog u = .ok (.agg (strCs zeroR)) u := (zero_of_info zeroRi).1
    clear hbb hbo
    go_wp2_with fail
    refine (newIroning_1 x A n c _).mono ?_
    rintro o w4 ⟨rfl, hb4⟩
    have S4 := Lib.hid (S3.out.next hb4)
    clear hb4 S3
    go_wp2_with fail
    refine (best_any x 1 HV.out A n c ps En.out h8 HP.out 54 _ ((hg.below S4.out.b).more S4.out.b.size) (ys, r0) HBB.out (longer_nexts En.out h8 HV.out HP.out fun os h1 h2 s hs u hu => longer_1 x HV.out A n c ps En.out h8 HP.out os h1 h2 s hs u hu)).mono ?_
    rintro o w5 ⟨rfl, hb5⟩
    have S5 := Lib.hid (S4.out.next hb5)
    obtain ⟨b5, hb5'⟩ : ∃ b, b = w5.heap.size := ⟨_, rfl⟩
    obtain ⟨f, hf⟩ : ∃ f, f = strOf ys (runs x 1 ps ys) := ⟨_, rfl⟩
    obtain ⟨v1, hv1⟩ : ∃ v, v = w5.alloc (.cells (strCs zeroR) 61) := ⟨_, rfl⟩
    have T1 : StrOwn v1 b5 0 zeroR := by have := StrOwn.new w5 zeroR 61; rw [hv1, hb5']; exact this
    obtain ⟨v2, hv2⟩ : ∃ v, v = v1.setCells b5 0 (lst 12 (cellR f)) := ⟨_, rfl⟩
    have T2 : StrOwn v2 b5 0 f := by rw [hv2]; exact T1.stored f
    have B2 : Below w5.heap.size w5 v2 := by
      rw [hv2, hv1]
      exact below_cells ((Below.refl _ _).alloc (Nat.le_refl _) _) (by omega) _ _
    have S6 := Lib.hid (S5.out.next B2)
    have HT1 := Lib.hid T1
    have HT2 := Lib.hid T2
    have HV1 := Lib.hid hv1
    have HV2 := Lib.hid hv2
    have HB5 := Lib.hid hb5'.symm
    have HF1 := Lib.hid hf
    have HTI := Lib.hid (fun u => indices_any ys (by have := HBO.out.len; have := En.out; show ys.length ≤ 8; simp only at *; omega) (fun i hi => by have := HBO.out.rng i hi; have := En.out; omega) (runs x 1 ps ys) u)
    rw [← hf] at HTI ⊢
    clear hb5 hb5' hv1 T1 hv2 T2 B2 hf S4 S5 c0 c1
    go_upto_region 5 with (first
      | ((rw [← HV1.out]); try rw [HB5.out])
      | (refine wpl_store_str rfl (.tmp 10) (.tmp 25) rfl b5 0 (by rw [← HB5.out]; rfl) rfl HT1.out ?_; rw [← HV2.out])
      | fail)
    have hS0 : StrAt v2.drew b5 0 f ∧ v2.drew.cell? ⟨b5, 11, none⟩ = some (.int .i64 r0) := by
      have h1 := HT2.out.toRowAt.next (Below.refl v2.heap.size v2).drew
      refine ⟨h1, ?_⟩
      have h2 := h1.cell 11 (by decide)
      rw [Nat.zero_add, cellR_11, HF1.out, strOf_11] at h2
      have h3 := HBO.out.sum
      simp only at h3
      rw [h2, ← h3]
    refine wp_region_held_drew (S := fun u => StrAt u b5 0 f ∧ u.cell? ⟨b5, 11, none⟩ = some (.int .i64 r0)) (by kernel_rfl) hS0 (fun hHeld => ?_)
    have S7 := Lib.hid (S6.out.next (Below.refl v2.heap.size v2).drew)
    clear hS0 HT1 HT2 HV1 HV2 S6
    generalize v2.drew = v3 at S7 hHeld ⊢
    refine wpAnyH_take (i := 0) (v := strV f) rfl (by kernel_rfl) (by kernel_rfl) (by kernel_rfl) (fun _ _ _ h => h) (yieldsIf_load_mid (by rfl) 61 (.tmp 10) rfl b5 0 rfl (lst 12 (cellR f)) _ (fun u h => h.1.range) Tryd.underlying61 rfl (by rw [infoR, lst_len])) hHeld ?_
    (try simp only [Act.put, List.getElem_toArray, List.getElem_cons_zero, List.getElem_cons_succ, List.setIfInBounds_toArray, List.set_cons_zero, List.set_cons_succ])
    refine wpAnyH_take (i := 2) (v := ?_) rfl (by kernel_rfl) (by kernel_rfl) (by kernel_rfl) (fun _ _ _ h => h) (Or.inl ⟨by rfl, ?_⟩) (by assumption) ?_
    rotate_left
    · intro u hSu
      (try dsimp only at hSu)
      first | (go_simp; done) | (go_simp; with_reducible rfl)
    try simp only [Act.put, List.getElem_toArray, List.getElem_cons_zero, List.getElem_cons_succ, List.setIfInBounds_toArray, List.set_cons_zero, List.set_cons_succ]
    refine wpAnyH_take (i := 3) (v := ?_) rfl (by kernel_rfl) (by kernel_rfl) (by kernel_rfl) (fun _ _ _ h => h) (Or.inl ⟨by rfl, ?_⟩) (by assumption) ?_
    rotate_left
    · intro u hSu
      (try dsimp only at hSu)
      first | (go_simp; done) | (go_simp; with_reducible rfl)
    try simp only [Act.put, List.getElem_toArray, List.getElem_cons_zero, List.getElem_cons_succ, List.setIfInBounds_toArray, List.set_cons_zero, List.set_cons_succ]
    refine wpAnyH_ready (rs := [1]) (by kernel_rfl) (by simp) ?_
    refine AllReadyH.cons rfl (fun K hK => ?_) AllReadyH.nil
    go_simp
    refine (HTI.out _).mono ?_
    rintro o v4 ⟨vi, rfl, hP4, hb4⟩
    have S8 := Lib.hid (S7.out.next hb4)
    have HP4 := Lib.hid hP4
    have hz7 := S7.out.b.size
    have hh : StrAt v4 b5 0 f ∧ v4.cell? ⟨b5, 11, none⟩ = some (.int .i64 r0) := ⟨hHeld.1.next hb4, (hb4.cell (p := ⟨b5, 11, none⟩) hHeld.1.lt).trans hHeld.2⟩
    clear hP4 hb4 S7
    refine hK.out _ _ (hh) (fun hHeld2 => ?_)
    clear hK K hHeld
    have hHeld := hHeld2
    clear hHeld2
    try simp only [Act.put, List.getElem_toArray, List.getElem_cons_zero, List.getElem_cons_succ, List.setIfInBounds_toArray, List.set_cons_zero, List.set_cons_succ]
    clear hh
    refine wpAnyH_take (i := 4) (v := ?_) rfl (by kernel_rfl) (by kernel_rfl) (by kernel_rfl) (fun _ _ _ h => h) (Or.inl ⟨by rfl, ?_⟩) (by assumption) ?_
    rotate_left
    · intro u hSu
      (try dsimp only at hSu)
      first | (go_simp; done) | (go_simp; with_reducible rfl)
    try simp only [Act.put, List.getElem_toArray, List.getElem_cons_zero, List.getElem_cons_succ, List.setIfInBounds_toArray, List.set_cons_zero, List.set_cons_succ]
    refine wpAnyH_take (i := 5) (v := ?_) rfl (by kernel_rfl) (by kernel_rfl) (by kernel_rfl) (fun _ _ _ h => h) (Or.inl ⟨by rfl, ?_⟩) (by assumption) ?_
    rotate_left
    · intro u hSu
      (try dsimp only at hSu)
      first | (go_simp; done) | (go_simp; with_reducible rfl)
    try simp only [Act.put, List.getElem_toArray, List.getElem_cons_zero, List.getElem_cons_succ, List.setIfInBounds_toArray, List.set_cons_zero, List.set_cons_succ]
    refine wpAnyH_take (i := 6) (v := ?_) rfl (by kernel_rfl) (by kernel_rfl) (by kernel_rfl) (fun _ _ _ h => h) (Or.inl ⟨by rfl, ?_⟩) (by assumption) ?_
    rotate_left
    · intro u hSu
      (try dsimp only at hSu)
      first | (go_simp; done) | (go_simp; with_reducible rfl)
    try simp only [Act.put, List.getElem_toArray, List.getElem_cons_zero, List.getElem_cons_succ, List.setIfInBounds_toArray, List.set_cons_zero, List.set_cons_succ]
    refine wpAnyH_done (by kernel_rfl) ?_ _
    clear hHeld
    go_wp2_with fail
    go_ret3
    exact ⟨_, rfl, owns_below HP4.out (by omega), S8.out.b⟩
  | succ i =>
    obtain ⟨rfl, rfl, rfl⟩ := best_no HR.out hc
    have hi := codeIr_le x ps
    rw [hc] at hi
    rw [show errOf e (i + 1) = errV (e i) from rfl]
    have HQ := Lib.hid (codeOf_any H3.out (i + 1) (by omega))
    rw [show errOf e (i + 1) = errV (e i) from rfl] at HQ
    clear hc hi
    go_wp2_with fail
    refine HQ.out.mono ?_
    rintro o w4 ⟨rfl, rfl⟩
    go_wp2_with fail
    go_ret3
    exact ⟨_, rfl, World.ownsRow_nil _ _ _ _, S3.out.b⟩
set_option maxRecDepth 100000 in
set_option maxHeartbeats 8000000 in
theorem leastBy_2 (x : Iro) (hx : x.Fits) (A : Option Addr) (n c : Nat) (ps : List Pie) (en : n = ps.length) (hn : n ≤ 1048576) (hf : ∀ p ∈ ps, p.Fits) (ys : List Int) (r0 : Int) (r1 : Nat) (hr : bestR 2 x ps = (ys, r0, r1)) {w : World} {B : Nat} {e : Nat → Addr} (h : Errs w B e) (hB : B ≤ w.heap.size) (hg : Sl Pie.cells 3 w w.heap.size A ps) :
    Calls Tryd.prog 25 #[x.v, .slice A n c, .int .u8 2] w fun o w' => ∃ v, o = .returned (.tuple #[v, .int .i64 r0, .int .i64 r1]) ∧ w'.ownsRow w.heap.size 2 1 v ys.length (ys.flatMap intS.C) ∧ Below w.heap.size w w' := by
  obtain ⟨k0, hk0⟩ : ∃ k : Nat, k = if iroB x = true then 0 else 1 := ⟨_, rfl⟩
  obtain ⟨k1, hk1⟩ : ∃ k : Nat, k = codePs ps := ⟨_, rfl⟩
  have HF := Lib.hid (code2i x ps k0 k1 hk0 hk1)
  have HK0 := Lib.hid hk0
  have HK1 := Lib.hid hk1
  have HR := Lib.hid hr
  have En := Lib.hid en
  have HFT := Lib.hid hf
  have S0 := Lib.hid (HotS.new x w 30)
  have c0 := S0.out.c0
  have c1 := S0.out.c1
  clear hk0 hk1 hr en hf
  go_enter Tryd.func25, Tryd.ntmps25
  go_wp2_with fail
  refine (checkIron_any x hx (h.below (S0.out.b.mono hB)) (Nat.le_trans hB S0.out.b.size) k0 HK0.out).mono ?_
  rintro o w1 ⟨rfl, hb1⟩
  have S1 := Lib.hid (S0.out.next hb1)
  clear c0 c1 hb1
  go_wp2_with fail
  refine (checkIroned_any A n c ps En.out hn HFT.out (h.below (S1.out.b.mono hB)) (Nat.le_trans hB S1.out.b.size) ((hg.below S1.out.b).more S1.out.b.size) k1 HK1.out).mono ?_
  rintro o w2 ⟨rfl, hb2⟩
  have S2 := Lib.hid (S1.out.next hb2)
  clear hb2
  go_wp2_with (refine wpList_listed rfl 75 2 _ rfl #[(0, errOf e k0), (1, errOf e k1)] ?hp (buildSlice2 e k0 k1 _) ?_; case hp => simp [Act.eval])
  refine (firstOf_any e [k0, k1] _ 2 2 rfl (by decide) _ (cells_errs2 e k0 k1 w2 52)).mono ?_
  rintro o w3 ⟨rfl, rfl⟩
  rw [HF.out]
  obtain ⟨w3, hw3⟩ : ∃ w3, w3 = w2.alloc (.cells #[errOf e k0, errOf e k1] 52) := ⟨_, rfl⟩
  have S3 := Lib.hid (S2.out.next ((Below.refl _ _).alloc (Nat.le_refl _) (.cells #[errOf e k0, errOf e k1] 52)))
  rw [← hw3] at S3 ⊢
  have H3 := Lib.hid (h.below (S3.out.b.mono hB))
  have c0 := S3.out.c0
  have c1 := S3.out.c1
  clear hw3
  cases hc : codeIr x ps with
  | zero =>
    have HC := Lib.hid hc
    clear hc
    obtain ⟨hv, hp, h8⟩ := codeIr_zero HC.out
    rw [← En.out] at h8
    have HV := Lib.hid hv
    have HP := Lib.hid hp
    clear hv hp
    rw [show errOf e 0 = .nilIface from rfl]
    obtain ⟨hbb, hbo, rfl⟩ := best_yes HR.out HC.out
    have HBB := Lib.hid hbb
    have HBO := Lib.hid hbo
    have hzz : ∀ u : World, (zeroValue 61).run Tryd.prog u = .ok (.agg (strCs zeroR)) u := (zero_of_info zeroRi).1
    clear hbb hbo
    go_wp2_with fail
    refine (newIroning_2 x A n c _).mono ?_
    rintro o w4 ⟨rfl, hb4⟩
    have S4 := Lib.hid (S3.out.next hb4)
    clear hb4 S3
    go_wp2_with fail
    refine (best_any x 2 HV.out A n c ps En.out h8 HP.out 56 _ ((hg.below S4.out.b).more S4.out.b.size) (ys, r0) HBB.out (longer_nexts En.out h8 HV.out HP.out fun os h1 h2 s hs u hu => longer_2 x HV.out A n c ps En.out h8 HP.out os h1 h2 s hs u hu)).mono ?_
    rintro o w5 ⟨rfl, hb5⟩
    have S5 := Lib.hid (S4.out.next hb5)
    obtain ⟨b5, hb5'⟩ : ∃ b, b = w5.heap.size := ⟨_, rfl⟩
    obtain ⟨f, hf⟩ : ∃ f, f = strOf ys (runs x 2 ps ys) := ⟨_, rfl⟩
    obtain ⟨v1, hv1⟩ : ∃ v, v = w5.alloc (.cells (strCs zeroR) 61) := ⟨_, rfl⟩
    have T1 : StrOwn v1 b5 0 zeroR := by have := StrOwn.new w5 zeroR 61; rw [hv1, hb5']; exact this
    obtain ⟨v2, hv2⟩ : ∃ v, v = v1.setCells b5 0 (lst 12 (cellR f)) := ⟨_, rfl⟩
    have T2 : StrOwn v2 b5 0 f := by rw [hv2]; exact T1.stored f
    have B2 : Below w5.heap.size w5 v2 := by
      rw [hv2, hv1]
      exact below_cells ((Below.refl _ _).alloc (Nat.le_refl _) _) (by omega) _ _
    have S6 := Lib.hid (S5.out.next B2)
    have HT1 := Lib.hid T1
    have HT2 := Lib.hid T2
    have HV1 := Lib.hid hv1
    have HV2 := Lib.hid hv2
    have HB5 := Lib.hid hb5'.symm
    have HF1 := Lib.hid hf
    have HTI := Lib.hid (fun u => indices_any ys (by have := HBO.out.len; have := En.out; show ys.length ≤ 8; simp only at *; omega) (fun i hi => by have := HBO.out.rng i hi; have := En.out; omega) (runs x 2 ps ys) u)
    rw [← hf] at HTI ⊢
    clear hb5 hb5' hv1 T1 hv2 T2 B2 hf S4 S5 c0 c1
    go_upto_region 5 with (first
      | ((rw [← HV1.out]); try rw [HB5.out])
      | (refine wpl_store_str rfl (.tmp 10) (.tmp 25) rfl b5 0 (by rw [← HB5.out]; rfl) rfl HT1.out ?_; rw [← HV2.out])
      | fail)
    have hS0 : StrAt v2.drew b5 0 f ∧ v2.drew.cell? ⟨b5, 11, none⟩ = some (.int .i64 r0) := by
      have h1 := HT2.out.toRowAt.next (Below.refl v2.heap.size v2).drew
      refine ⟨h1, ?_⟩
      have h2 := h1.cell 11 (by decide)
      rw [Nat.zero_add, cellR_11, HF1.out, strOf_11] at h2
      have h3 := HBO.out.sum
      simp only at h3
      rw [h2, ← h3]
    refine wp_region_held_drew (S := fun u => StrAt u b5 0 f ∧ u.cell? ⟨b5, 11, none⟩ = some (.int .i64 r0)) (by kernel_rfl) hS0 (fun hHeld => ?_)
    have S7 := Lib.hid (S6.out.next (Below.refl v2.heap.size v2).drew)
    clear hS0 HT1 HT2 HV1 HV2 S6
    generalize v2.drew = v3 at S7 hHeld ⊢
    refine wpAnyH_take (i := 0) (v := strV f) rfl (by kernel_rfl) (by kernel_rfl) (by kernel_rfl) (fun _ _ _ h => h) (yieldsIf_load_mid (by rfl) 61 (.tmp 10) rfl b5 0 rfl (lst 12 (cellR f)) _ (fun u h => h.1.range) Tryd.underlying61 rfl (by rw [infoR, lst_len])) hHeld ?_
    (try simp only [Act.put, List.getElem_toArray, List.getElem_cons_zero, List.getElem_cons_succ, List.setIfInBounds_toArray, List.set_cons_zero, List.set_cons_succ])
    refine wpAnyH_take (i := 2) (v := ?_) rfl (by kernel_rfl) (by kernel_rfl) (by kernel_rfl) (fun _ _ _ h => h) (Or.inl ⟨by rfl, ?_⟩) (by assumption) ?_
    rotate_left
    · intro u hSu
      (try dsimp only at hSu)
      first | (go_simp; done) | (go_simp; with_reducible rfl)
    try simp only [Act.put, List.getElem_toArray, List.getElem_cons_zero, List.getElem_cons_succ, List.setIfInBounds_toArray, List.set_cons_zero, List.set_cons_succ]
    refine wpAnyH_take (i := 3) (v := ?_) rfl (by kernel_rfl) (by kernel_rfl) (by kernel_rfl) (fun _ _ _ h => h) (Or.inl ⟨by rfl, ?_⟩) (by assumption) ?_
    rotate_left
    · intro u hSu
      (try dsimp only at hSu)
      first | (go_simp; done) | (go_simp; with_reducible rfl)
    try simp only [Act.put, List.getElem_toArray, List.getElem_cons_zero, List.getElem_cons_succ, List.setIfInBounds_toArray, List.set_cons_zero, List.set_cons_succ]
    refine wpAnyH_ready (rs := [1]) (by kernel_rfl) (by simp) ?_
    refine AllReadyH.cons rfl (fun K hK => ?_) AllReadyH.nil
    go_simp
    refine (HTI.out _).mono ?_
    rintro o v4 ⟨vi, rfl, hP4, hb4⟩
    have S8 := Lib.hid (S7.out.next hb4)
    have HP4 := Lib.hid hP4
    have hz7 := S7.out.b.size
    have hh : StrAt v4 b5 0 f ∧ v4.cell? ⟨b5, 11, none⟩ = some (.int .i64 r0) := ⟨hHeld.1.next hb4, (hb4.cell (p := ⟨b5, 11, none⟩) hHeld.1.lt).trans hHeld.2⟩
    clear hP4 hb4 S7
    refine hK.out _ _ (hh) (fun hHeld2 => ?_)
    clear hK K hHeld
    have hHeld := hHeld2
    clear hHeld2
    try simp only [Act.put, List.getElem_toArray, List.getElem_cons_zero, List.getElem_cons_succ, List.setIfInBounds_toArray, List.set_cons_zero, List.set_cons_succ]
    clear hh
    refine wpAnyH_take (i := 4) (v := ?_) rfl (by kernel_rfl) (by kernel_rfl) (by kernel_rfl) (fun _ _ _ h => h) (Or.inl ⟨by rfl, ?_⟩) (by assumption) ?_
    rotate_left
    · intro u hSu
      (try dsimp only at hSu)
      first | (go_simp; done) | (go_simp; with_reducible rfl)
    try simp only [Act.put, List.getElem_toArray, List.getElem_cons_zero, List.getElem_cons_succ, List.setIfInBounds_toArray, List.set_cons_zero, List.set_cons_succ]
    refine wpAnyH_take (i := 5) (v := ?_) rfl (by kernel_rfl) (by kernel_rfl) (by kernel_rfl) (fun _ _ _ h => h) (Or.inl ⟨by rfl, ?_⟩) (by assumption) ?_
    rotate_left
    · intro u hSu
      (try dsimp only at hSu)
      first | (go_simp; done) | (go_simp; with_reducible rfl)
    try simp only [Act.put, List.getElem_toArray, List.getElem_cons_zero, List.getElem_cons_succ, List.setIfInBounds_toArray, List.set_cons_zero, List.set_cons_succ]
    refine wpAnyH_take (i := 6) (v := ?_) rfl (by kernel_rfl) (by kernel_rfl) (by kernel_rfl) (fun _ _ _ h => h) (Or.inl ⟨by rfl, ?_⟩) (by assumption) ?_
    rotate_left
    · intro u hSu
      (try dsimp only at hSu)
      first | (go_simp; done) | (go_simp; with_reducible rfl)
    try simp only [Act.put, List.getElem_toArray, List.getElem_cons_zero, List.getElem_cons_succ, List.setIfInBounds_toArray, List.set_cons_zero, List.set_cons_succ]
    refine wpAnyH_done (by kernel_rfl) ?_ _
    clear hHeld
    go_wp2_with fail
    go_ret3
    exact ⟨_, rfl, owns_below HP4.out (by omega), S8.out.b⟩
  | succ i =>
    obtain ⟨rfl, rfl, rfl⟩ := best_no HR.out hc
    have hi := codeIr_le x ps
    rw [hc] at hi
    rw [show errOf e (i + 1) = errV (e i) from rfl]
    have HQ := Lib.hid (codeOf_any H3.out (i + 1) (by omega))
    rw [show errOf e (i + 1) = errV (e i) from rfl] at HQ
    clear hc hi
    go_wp2_with fail
    refine HQ.out.mono ?_
    rintro o w4 ⟨rfl, rfl⟩
    go_wp2_with fail
    go_ret3
    exact ⟨_, rfl, World.ownsRow_nil _ _ _ _, S3.out.b⟩
set_option maxRecDepth 100000 in
set_option maxHeartbeats 8000000 in
theorem leastBy_3 (x : Iro) (hx : x.Fits) (A : Option Addr) (n c : Nat) (ps : List Pie) (en : n = ps.length) (hn : n ≤ 1048576) (hf : ∀ p ∈ ps, p.Fits) (ys : List Int) (r0 : Int) (r1 : Nat) (hr : bestR 3 x ps = (ys, r0, r1)) {w : World} {B : Nat} {e : Nat → Addr} (h : Errs w B e) (hB : B ≤ w.heap.size) (hg : Sl Pie.cells 3 w w.heap.size A ps) :
    Calls Tryd.prog 25 #[x.v, .slice A n c, .int .u8 3] w fun o w' => ∃ v, o = .returned (.tuple #[v, .int .i64 r0, .int .i64 r1]) ∧ w'.ownsRow w.heap.size 2 1 v ys.length (ys.flatMap intS.C) ∧ Below w.heap.size w w' := by
  obtain ⟨k0, hk0⟩ : ∃ k : Nat, k = if iroB x = true then 0 else 1 := ⟨_, rfl⟩
  obtain ⟨k1, hk1⟩ : ∃ k : Nat, k = codePs ps := ⟨_, rfl⟩
  have HF := Lib.hid (code2i x ps k0 k1 hk0 hk1)
  have HK0 := Lib.hid hk0
  have HK1 := Lib.hid hk1
  have HR := Lib.hid hr
  have En := Lib.hid en
  have HFT := Lib.hid hf
  have S0 := Lib.hid (HotS.new x w 30)
  have c0 := S0.out.c0
  have c1 := S0.out.c1
  clear hk0 hk1 hr en hf
  go_enter Tryd.func25, Tryd.ntmps25
  go_wp2_with fail
  refine (checkIron_any x hx (h.below (S0.out.b.mono hB)) (Nat.le_trans hB S0.out.b.size) k0 HK0.out).mono ?_
  rintro o w1 ⟨rfl, hb1⟩
  have S1 := Lib.hid (S0.out.next hb1)
  clear c0 c1 hb1
  go_wp2_with fail
  refine (checkIroned_any A n c ps En.out hn HFT.out (h.below (S1.out.b.mono hB)) (Nat.le_trans hB S1.out.b.size) ((hg.below S1.out.b).more S1.out.b.size) k1 HK1.out).mono ?_
  rintro o w2 ⟨rfl, hb2⟩
  have S2 := Lib.hid (S1.out.next hb2)
  clear hb2
  go_wp2_with (refine wpList_listed rfl 75 2 _ rfl #[(0, errOf e k0), (1, errOf e k1)] ?hp (buildSlice2 e k0 k1 _) ?_; case hp => simp [Act.eval])
  refine (firstOf_any e [k0, k1] _ 2 2 rfl (by decide) _ (cells_errs2 e k0 k1 w2 52)).mono ?_
  rintro o w3 ⟨rfl, rfl⟩
  rw [HF.out]
  obtain ⟨w3, hw3⟩ : ∃ w3, w3 = w2.alloc (.cells #[errOf e k0, errOf e k1] 52) := ⟨_, rfl⟩
  have S3 := Lib.hid (S2.out.next ((Below.refl _ _).alloc (Nat.le_refl _) (.cells #[errOf e k0, errOf e k1] 52)))
  rw [← hw3] at S3 ⊢
  have H3 := Lib.hid (h.below (S3.out.b.mono hB))
  have c0 := S3.out.c0
  have c1 := S3.out.c1
  clear hw3
  cases hc : codeIr x ps with
  | zero =>
    have HC := Lib.hid hc
    clear hc
    obtain ⟨hv, hp, h8⟩ := codeIr_zero HC.out
    rw [← En.out] at h8
    have HV := Lib.hid hv
    have HP := Lib.hid hp
    clear hv hp
    rw [show errOf e 0 = .nilIface from rfl]
    obtain ⟨hbb, hbo, rfl⟩ := best_yes HR.out HC.out
    have HBB := Lib.hid hbb
    have HBO := Lib.hid hbo
    have hzz : ∀ u : World, (zeroValue 61).run Tryd.prog u = .ok (.agg (strCs zeroR)) u := (zero_of_info zeroRi).1
    clear hbb hbo
    go_wp2_with fail
    refine (newIroning_3 x A n c _).mono ?_
    rintro o w4 ⟨rfl, hb4⟩
    have S4 := Lib.hid (S3.out.next hb4)
    clear hb4 S3
    go_wp2_with fail
    refine (best_any x 3 HV.out A n c ps En.out h8 HP.out 57 _ ((hg.below S4.out.b).more S4.out.b.size) (ys, r0) HBB.out (longer_nexts En.out h8 HV.out HP.out fun os h1 h2 s hs u hu => longer_3 x HV.out A n c ps En.out h8 HP.out os h1 h2 s hs u hu)).mono ?_
    rintro o w5 ⟨rfl, hb5⟩
    have S5 := Lib.hid (S4.out.next hb5)
    obtain ⟨b5, hb5'⟩ : ∃ b, b = w5.heap.size := ⟨_, rfl⟩
    obtain ⟨f, hf⟩ : ∃ f, f = strOf ys (runs x 3 ps ys) := ⟨_, rfl⟩
    obtain ⟨v1, hv1⟩ : ∃ v, v = w5.alloc (.cells (strCs zeroR) 61) := ⟨_, rfl⟩
    have T1 : StrOwn v1 b5 0 zeroR := by have := StrOwn.new w5 zeroR 61; rw [hv1, hb5']; exact this
    obtain ⟨v2, hv2⟩ : ∃ v, v = v1.setCells b5 0 (lst 12 (cellR f)) := ⟨_, rfl⟩
    have T2 : StrOwn v2 b5 0 f := by rw [hv2]; exact T1.stored f
    have B2 : Below w5.heap.size w5 v2 := by
      rw [hv2, hv1]
      exact below_cells ((Below.refl _ _).alloc (Nat.le_refl _) _) (by omega) _ _
    have S6 := Lib.hid (S5.out.next B2)
    have HT1 := Lib.hid T1
    have HT2 := Lib.hid T2
    have HV1 := Lib.hid hv1
    have HV2 := Lib.hid hv2
    have HB5 := Lib.hid hb5'.symm
    have HF1 := Lib.hid hf
    have HTI := Lib.hid (fun u => indices_any ys (by have := HBO.out.len; have := En.out; show ys.length ≤ 8; simp only at *; omega) (fun i hi => by have := HBO.out.rng i hi; have := En.out; omega) (runs x 3 ps ys) u)
    rw [← hf] at HTI ⊢
    clear hb5 hb5' hv1 T1 hv2 T2 B2 hf S4 S5 c0 c1
    go_upto_region 5 with (first
      | ((rw [← HV1.out]); try rw [HB5.out])
      | (refine wpl_store_str rfl (.tmp 10) (.tmp 25) rfl b5 0 (by rw [← HB5.out]; rfl) rfl HT1.out ?_; rw [← HV2.out])
      | fail)
    have hS0 : StrAt v2.drew b5 0 f ∧ v2.drew.cell? ⟨b5, 11, none⟩ = some (.int .i64 r0) := by
      have h1 := HT2.out.toRowAt.next (Below.refl v2.heap.size v2).drew
      refine ⟨h1, ?_⟩
      have h2 := h1.cell 11 (by decide)
      rw [Nat.zero_add, cellR_11, HF1.out, strOf_11] at h2
      have h3 := HBO.out.sum
      simp only at h3
      rw [h2, ← h3]
    refine wp_region_held_drew (S := fun u => StrAt u b5 0 f ∧ u.cell? ⟨b5, 11, none⟩ = some (.int .i64 r0)) (by kernel_rfl) hS0 (fun hHeld => ?_)
    have S7 := Lib.hid (S6.out.next (Below.refl v2.heap.size v2).drew)
    clear hS0 HT1 HT2 HV1 HV2 S6
    generalize v2.drew = v3 at S7 hHeld ⊢
    refine wpAnyH_take (i := 0) (v := strV f) rfl (by kernel_rfl) (by kernel_rfl) (by kernel_rfl) (fun _ _ _ h => h) (yieldsIf_load_mid (by rfl) 61 (.tmp 10) rfl b5 0 rfl (lst 12 (cellR f)) _ (fun u h => h.1.range) Tryd.underlying61 rfl (by rw [infoR, lst_len])) hHeld ?_
    (try simp only [Act.put, List.getElem_toArray, List.getElem_cons_zero, List.getElem_cons_succ, List.setIfInBounds_toArray, List.set_cons_zero, List.set_cons_succ])
    refine wpAnyH_take (i := 2) (v := ?_) rfl (by kernel_rfl) (by kernel_rfl) (by kernel_rfl) (fun _ _ _ h => h) (Or.inl ⟨by rfl, ?_⟩) (by assumption) ?_
    rotate_left
    · intro u hSu
      (try dsimp only at hSu)
      first | (go_simp; done) | (go_simp; with_reducible rfl)
    try simp only [Act.put, List.getElem_toArray, List.getElem_cons_zero, List.getElem_cons_succ, List.setIfInBounds_toArray, List.set_cons_zero, List.set_cons_succ]
    refine wpAnyH_take (i := 3) (v := ?_) rfl (by kernel_rfl) (by kernel_rfl) (by kernel_rfl) (fun _ _ _ h => h) (Or.inl ⟨by rfl, ?_⟩) (by assumption) ?_
    rotate_left
    · intro u hSu
      (try dsimp only at hSu)
      first | (go_simp; done) | (go_simp; with_reducible rfl)
    try simp only [Act.put, List.getElem_toArray, List.getElem_cons_zero, List.getElem_cons_succ, List.setIfInBounds_toArray, List.set_cons_zero, List.set_cons_succ]
    refine wpAnyH_ready (rs := [1]) (by kernel_rfl) (by simp) ?_
    refine AllReadyH.cons rfl (fun K hK => ?_) AllReadyH.nil
    go_simp
    refine (HTI.out _).mono ?_
    rintro o v4 ⟨vi, rfl, hP4, hb4⟩
    have S8 := Lib.hid (S7.out.next hb4)
    have HP4 := Lib.hid hP4
    have hz7 := S7.out.b.size
    have hh : StrAt v4 b5 0 f ∧ v4.cell? ⟨b5, 11, none⟩ = some (.int .i64 r0) := ⟨hHeld.1.next hb4, (hb4.cell (p := ⟨b5, 11, none⟩) hHeld.1.lt).trans hHeld.2⟩
    clear hP4 hb4 S7
    refine hK.out _ _ (hh) (fun hHeld2 => ?_)
    clear hK K hHeld
    have hHeld := hHeld2
    clear hHeld2
    try simp only [Act.put, List.getElem_toArray, List.getElem_cons_zero, List.getElem_cons_succ, List.setIfInBounds_toArray, List.set_cons_zero, List.set_cons_succ]
    clear hh
    refine wpAnyH_take (i := 4) (v := ?_) rfl (by kernel_rfl) (by kernel_rfl) (by kernel_rfl) (fun _ _ _ h => h) (Or.inl ⟨by rfl, ?_⟩) (by assumption) ?_
    rotate_left
    · intro u hSu
      (try dsimp only at hSu)
      first | (go_simp; done) | (go_simp; with_reducible rfl)
    try simp only [Act.put, List.getElem_toArray, List.getElem_cons_zero, List.getElem_cons_succ, List.setIfInBounds_toArray, List.set_cons_zero, List.set_cons_succ]
    refine wpAnyH_take (i := 5) (v := ?_) rfl (by kernel_rfl) (by kernel_rfl) (by kernel_rfl) (fun _ _ _ h => h) (Or.inl ⟨by rfl, ?_⟩) (by assumption) ?_
    rotate_left
    · intro u hSu
      (try dsimp only at hSu)
      first | (go_simp; done) | (go_simp; with_reducible rfl)
    try simp only [Act.put, List.getElem_toArray, List.getElem_cons_zero, List.getElem_cons_succ, List.setIfInBounds_toArray, List.set_cons_zero, List.set_cons_succ]
    refine wpAnyH_take (i := 6) (v := ?_) rfl (by kernel_rfl) (by kernel_rfl) (by kernel_rfl) (fun _ _ _ h => h) (Or.inl ⟨by rfl, ?_⟩) (by assumption) ?_
    rotate_left
    · intro u hSu
      (try dsimp only at hSu)
      first | (go_simp; done) | (go_simp; with_reducible rfl)
    try simp only [Act.put, List.getElem_toArray, List.getElem_cons_zero, List.getElem_cons_succ, List.setIfInBounds_toArray, List.set_cons_zero, List.set_cons_succ]
    refine wpAnyH_done (by kernel_rfl) ?_ _
    clear hHeld
    go_wp2_with fail
    go_ret3
    exact ⟨_, rfl, owns_below HP4.out (by omega), S8.out.b⟩
  | succ i =>
    obtain ⟨rfl, rfl, rfl⟩ := best_no HR.out hc
    have hi := codeIr_le x ps
    rw [hc] at hi
    rw [show errOf e (i + 1) = errV (e i) from rfl]
    have HQ := Lib.hid (codeOf_any H3.out (i + 1) (by omega))
    rw [show errOf e (i + 1) = errV (e i) from rfl] at HQ
    clear hc hi
    go_wp2_with fail
    refine HQ.out.mono ?_
    rintro o w4 ⟨rfl, rfl⟩
    go_wp2_with fail
    go_ret3
    exact ⟨_, rfl, World.ownsRow_nil _ _ _ _, S3.out.b⟩
set_option maxRecDepth 100000 in
set_option maxHeartbeats 2000000 in
theorem ShortestOrder_any (x : Iro) (hx : x.Fits) (A : Option Addr) (n c : Nat) (ps : List Pie) (en : n = ps.length) (hn : n ≤ 1048576) (hf : ∀ p ∈ ps, p.Fits) (ys : List Int) (r0 : Int) (r1 : Nat) (hr : bestR 0 x ps = (ys, r0, r1)) {w : World} {B : Nat} {e : Nat → Addr} (h : Errs w B e) (hB : B ≤ w.heap.size) (hg : Sl Pie.cells 3 w w.heap.size A ps) :
    Calls Tryd.prog 11 #[x.v, .slice A n c] w fun o w' => ∃ v, o = .returned (.tuple #[v, .int .i64 r0, .int .i64 r1]) ∧ w'.ownsRow w.heap.size 2 1 v ys.length (ys.flatMap intS.C) ∧ Below w.heap.size w w' := by
  have S0 := Lib.hid (HotS.new x w 30)
  have c0 := S0.out.c0
  have c1 := S0.out.c1
  have HT := Lib.hid (leastBy_0 x hx A n c ps en hn hf ys r0 r1 hr (h.below (S0.out.b.mono hB)) (Nat.le_trans hB S0.out.b.size) ((hg.below S0.out.b).more S0.out.b.size))
  clear en hn hf hr
  go_enter Tryd.func11, Tryd.ntmps11
  go_wp2_with fail
  refine HT.out.mono ?_
  rintro o w2 ⟨v, rfl, hP, hb⟩
  have S1 := Lib.hid (S0.out.next hb)
  have HP := Lib.hid hP
  have hz := S0.out.b.size
  clear hP hb HT S0
  go_wp2_with fail
  go_ret3
  exact ⟨_, rfl, owns_below HP.out hz, S1.out.b⟩
set_option maxRecDepth 100000 in
set_option maxHeartbeats 2000000 in
theorem FewestLate_any (x : Iro) (hx : x.Fits) (A : Option Addr) (n c : Nat) (ps : List Pie) (en : n = ps.length) (hn : n ≤ 1048576) (hf : ∀ p ∈ ps, p.Fits) (ys : List Int) (r0 : Int) (r1 : Nat) (hr : bestR 1 x ps = (ys, r0, r1)) {w : World} {B : Nat} {e : Nat → Addr} (h : Errs w B e) (hB : B ≤ w.heap.size) (hg : Sl Pie.cells 3 w w.heap.size A ps) :
    Calls Tryd.prog 18 #[x.v, .slice A n c] w fun o w' => ∃ v, o = .returned (.tuple #[v, .int .i64 r0, .int .i64 r1]) ∧ w'.ownsRow w.heap.size 2 1 v ys.length (ys.flatMap intS.C) ∧ Below w.heap.size w w' := by
  have S0 := Lib.hid (HotS.new x w 30)
  have c0 := S0.out.c0
  have c1 := S0.out.c1
  have HT := Lib.hid (leastBy_1 x hx A n c ps en hn hf ys r0 r1 hr (h.below (S0.out.b.mono hB)) (Nat.le_trans hB S0.out.b.size) ((hg.below S0.out.b).more S0.out.b.size))
  clear en hn hf hr
  go_enter Tryd.func18, Tryd.ntmps18
  go_wp2_with fail
  refine HT.out.mono ?_
  rintro o w2 ⟨v, rfl, hP, hb⟩
  have S1 := Lib.hid (S0.out.next hb)
  have HP := Lib.hid hP
  have hz := S0.out.b.size
  clear hP hb HT S0
  go_wp2_with fail
  go_ret3
  exact ⟨_, rfl, owns_below HP.out hz, S1.out.b⟩
set_option maxRecDepth 100000 in
set_option maxHeartbeats 2000000 in
theorem LeastLateness_any (x : Iro) (hx : x.Fits) (A : Option Addr) (n c : Nat) (ps : List Pie) (en : n = ps.length) (hn : n ≤ 1048576) (hf : ∀ p ∈ ps, p.Fits) (ys : List Int) (r0 : Int) (r1 : Nat) (hr : bestR 2 x ps = (ys, r0, r1)) {w : World} {B : Nat} {e : Nat → Addr} (h : Errs w B e) (hB : B ≤ w.heap.size) (hg : Sl Pie.cells 3 w w.heap.size A ps) :
    Calls Tryd.prog 20 #[x.v, .slice A n c] w fun o w' => ∃ v, o = .returned (.tuple #[v, .int .i64 r0, .int .i64 r1]) ∧ w'.ownsRow w.heap.size 2 1 v ys.length (ys.flatMap intS.C) ∧ Below w.heap.size w w' := by
  have S0 := Lib.hid (HotS.new x w 30)
  have c0 := S0.out.c0
  have c1 := S0.out.c1
  have HT := Lib.hid (leastBy_2 x hx A n c ps en hn hf ys r0 r1 hr (h.below (S0.out.b.mono hB)) (Nat.le_trans hB S0.out.b.size) ((hg.below S0.out.b).more S0.out.b.size))
  clear en hn hf hr
  go_enter Tryd.func20, Tryd.ntmps20
  go_wp2_with fail
  refine HT.out.mono ?_
  rintro o w2 ⟨v, rfl, hP, hb⟩
  have S1 := Lib.hid (S0.out.next hb)
  have HP := Lib.hid hP
  have hz := S0.out.b.size
  clear hP hb HT S0
  go_wp2_with fail
  go_ret3
  exact ⟨_, rfl, owns_below HP.out hz, S1.out.b⟩
set_option maxRecDepth 100000 in
set_option maxHeartbeats 2000000 in
theorem LeastWait_any (x : Iro) (hx : x.Fits) (A : Option Addr) (n c : Nat) (ps : List Pie) (en : n = ps.length) (hn : n ≤ 1048576) (hf : ∀ p ∈ ps, p.Fits) (ys : List Int) (r0 : Int) (r1 : Nat) (hr : bestR 3 x ps = (ys, r0, r1)) {w : World} {B : Nat} {e : Nat → Addr} (h : Errs w B e) (hB : B ≤ w.heap.size) (hg : Sl Pie.cells 3 w w.heap.size A ps) :
    Calls Tryd.prog 22 #[x.v, .slice A n c] w fun o w' => ∃ v, o = .returned (.tuple #[v, .int .i64 r0, .int .i64 r1]) ∧ w'.ownsRow w.heap.size 2 1 v ys.length (ys.flatMap intS.C) ∧ Below w.heap.size w w' := by
  have S0 := Lib.hid (HotS.new x w 30)
  have c0 := S0.out.c0
  have c1 := S0.out.c1
  have HT := Lib.hid (leastBy_3 x hx A n c ps en hn hf ys r0 r1 hr (h.below (S0.out.b.mono hB)) (Nat.le_trans hB S0.out.b.size) ((hg.below S0.out.b).more S0.out.b.size))
  clear en hn hf hr
  go_enter Tryd.func22, Tryd.ntmps22
  go_wp2_with fail
  refine HT.out.mono ?_
  rintro o w2 ⟨v, rfl, hP, hb⟩
  have S1 := Lib.hid (S0.out.next hb)
  have HP := Lib.hid hP
  have hz := S0.out.b.size
  clear hP hb HT S0
  go_wp2_with fail
  go_ret3
  exact ⟨_, rfl, owns_below HP.out hz, S1.out.b⟩
end Go.Proofs.YtjhkjbdpmianfaaDoor.iron
