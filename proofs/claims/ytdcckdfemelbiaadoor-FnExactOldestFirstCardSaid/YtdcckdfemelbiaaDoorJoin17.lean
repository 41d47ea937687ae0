/-
  Several texts of this proof, joined.
-/
import Derived.Test.YtdcckdfemelbiaaDoorJoin16
import Derived.Deep.Cut
import Derived.Test.YtdcckdfemelbiaaDoorJoin11
/-
  OldestFirst, the model's.
-/
namespace Go.Proofs.YtdcckdfemelbiaaDoor.rows
open Go Go.RowKit sl fold cup errs

theorem hts_atE {xss : List (List Int)} {p : Nat} {h : Int} (e : (hts xss)[p]? = some h) : ∃ xs, xss[p]? = some xs ∧ h = (xs.length : Int) := by
  simp only [hts, List.getElem?_map, Option.map_eq_some_iff] at e
  obtain ⟨xs, h1, h2⟩ := e
  exact ⟨xs, h1, h2.symm⟩
theorem TL.void {w u : World} (hb : Below w.heap.size w u) (k : Nat) : OwnO w [] [] k (.returned (.tuple #[.slice (some ⟨u.heap.size, 0, none⟩) 0 0, .slice (some ⟨u.heap.size + 1, 0, none⟩) 0 0, .int .i64 k])) ((u.alloc (.cells #[] 2)).alloc (.cells #[] 22)) := by
  have h1 : (u.alloc (.cells #[] 2)).ownsRow w.heap.size 2 1 (.slice (some ⟨u.heap.size, 0, none⟩) 0 0) 0 [] := World.ownsRow_made u #[] 0 hb.size (Nat.zero_le _) rfl
  have hb1 : Below w.heap.size w (u.alloc (.cells #[] 2)) := hb.alloc hb.size _
  have hb2 : Below (u.alloc (.cells #[] 2)).heap.size (u.alloc (.cells #[] 2)) ((u.alloc (.cells #[] 2)).alloc (.cells #[] 22)) := (Below.refl _ _).alloc (Nat.le_refl _) _
  have hz : (u.alloc (.cells #[] 2)).heap.size = u.heap.size + 1 := by simp
  refine ⟨some ⟨u.heap.size + 1, 0, none⟩, 0, [], _, rfl, ⟨?_, owns_next h1 hb2, fun k hk => ?_⟩, rfl, hb1.alloc hb1.size _⟩
  · have := OT.empty (u.alloc (.cells #[] 2)) (base := w.heap.size) hb1.size
    rw [hz] at this
    exact this
  · rintro (⟨a, ha, e⟩ | ⟨r, hr, _⟩)
    · obtain rfl := Option.some.inj ha
      have h5 : u.heap.size = k := Option.some.inj hk
      simp only at e
      omega
    · cases hr
set_option maxRecDepth 100000 in
set_option maxHeartbeats 4000000 in
theorem OldestFirst_spec (A : Option Addr) (n c : Nat) (rs : List Rw) (t : Int) (ht63 : t ≤ 9223372036854775807) (en : n = rs.length) (hn : n + tot rs ≤ 1048576) (hN : ∀ r ∈ rs, r.A = none → r.c = 0) (w : World) (hg : SS w w.heap.size A rs) (ts : List Int) (out : List (List Int)) (k : Nat) (hr : OR (nums rs) t ts out k) :
    Calls Tryd.prog 27 #[.slice A n c, .int .i64 t] w (OwnO w ts out k) := by
  obtain ⟨i0, hI, hz0, hz1, hz2⟩ := info_parts intS.info
  have hs : ∀ r ∈ rs, r.xs.length ≤ 1048576 := tot_le hn
  have HSZ : Hid (szF (nums rs) ≤ 1048576) := Lib.hid (by rw [← tot_szF]; omega)
  have En := Lib.hid en
  have HR := Lib.hid hr
  have hn1 : n ≤ 1048576 := by omega
  clear en hr
  by_cases hc : CupOk (nums rs)
  · have HC := Lib.hid hc
    by_cases ht : t < 0
    · obtain ⟨rfl, rfl, rfl⟩ := HR.out.neg hc ht
      clear hc HR
      go_enter Tryd.func27, Tryd.ntmps27
      go_wp2_with fail
      refine (l04Cupboard_any A n c rs En.out (by omega) _ hg true ⟨fun _ => HC.out, fun _ => rfl⟩).mono ?_
      rintro o u ⟨rfl, hb⟩
      have HB := Lib.hid hb
      clear hb
      go_wp2_with fail
      go_ret3
      exact TL.void HB.out 2
    · obtain ⟨T, rfl⟩ : ∃ T : Nat, t = T := ⟨t.toNat, by omega⟩
      obtain ⟨R, hR, hfin⟩ := HR.out.ok hc T rfl
      have HRT := Lib.hid hR
      have HFN := Lib.hid hfin
      have hn0 : 0 < n := by have := hc.pos; simp only [nums, List.length_map] at this; have := En.out; omega
      clear hc HR hR hfin ht
      go_enter Tryd.func27, Tryd.ntmps27
      go_wp2_with fail
      refine (l04Cupboard_any A n c rs En.out (by omega) _ hg true ⟨fun _ => HC.out, fun _ => rfl⟩).mono ?_
      rintro o u ⟨rfl, hb⟩
      have HB := Lib.hid hb
      clear hb
      go_wp2_with fail
      have hown0 : (u.alloc (.cells #[] 2)).ownsRow w.heap.size 2 1 (.slice (some ⟨u.heap.size, 0, none⟩) 0 0) 0 [] := World.ownsRow_made u #[] 0 HB.out.size (Nat.zero_le _) rfl
      have HW0 := Lib.hid hown0
      have HB1 := Lib.hid (HB.out.alloc HB.out.size (.cells #[] 2))
      have hz1' : u.heap.size < (u.alloc (.cells #[] 2)).heap.size := by simp
      clear hown0
      refine (l04Own_any A n c rs En.out hn1 hs hN _ ((hg.below HB1.out).more HB1.out.size)).mono ?_
      rintro o u2 ⟨A2, c2, rs2, rfl, hl2, hn2, hO2, hb⟩
      obtain ⟨g, rfl⟩ : ∃ g, A2 = some ⟨g, 0, none⟩ := by
        rcases hO2.outer.2 with ⟨h, h0⟩ | ⟨g, cap, cur, h, _⟩
        · simp only [Value.slice.injEq] at h
          omega
        · simp only [Value.slice.injEq] at h
          exact ⟨g, h.1⟩
      have HB2 := Lib.hid (below_next HB1.out hb (Nat.le_refl _))
      have HL2 := Lib.hid hl2
      have HN2 := Lib.hid hn2
      have HT2 : Hid (TL u2 w.heap.size (some ⟨g, 0, none⟩) c2 rs2 (.slice (some ⟨u.heap.size, 0, none⟩) 0 0) []) := Lib.hid ⟨hO2.lower HB1.out.size, owns_next HW0.out hb, fun k hk hx => by
        have h5 : u.heap.size = k := Option.some.inj hk
        have h6 := (hO2.blocksE k hx).1
        omega⟩
      clear hb hl2 hn2 hO2 HB HB1 HW0 hz1'
      go_wp2_with fail
      go_loopw [7, 9] (fun v7 _ wr => ∃ (rs' : List Rw) (acc : List Int) (v : Value) (s : Nat) (r : Option (List Int × List (List Int))), v7 = v ∧ Tk (nums rs') s r ∧ R = ahead acc r ∧ acc.length + s = T ∧ rs'.length = n ∧ szF (nums rs') + acc.length ≤ 1048576 ∧ TL wr w.heap.size (some ⟨g, 0, none⟩) c2 rs' v acc ∧ Below w.heap.size w wr) (fun v7 _ _ => T - slen v7)
      case atStart => exact ⟨rs2, [], _, T, R, rfl, by rw [HN2.out]; exact HRT.out, by cases R <;> simp [ahead], by simp, HL2.out, by rw [HN2.out]; have := HSZ.out; simpa using this, HT2.out, HB2.out⟩
      case round =>
        clear HT2 HB2 HL2 HN2 HRT
        obtain ⟨rs', acc, v, s, r, rfl, htk, hRr, hks, hrl, hsz, hT, hBr⟩ := hrel
        obtain ⟨VA, Vc, rfl, _⟩ := owns_slice hT.own
        obtain ⟨la, hla⟩ : ∃ l, acc.length = l := ⟨_, rfl⟩
        have HLA := Lib.hid hla
        have hT0 := hT
        rw [hla] at hks hsz
        have HRL := Lib.hid hrl
        have HS := Lib.hid (szF_rows (rs := rs') (by omega))
        have HT := Lib.hid hT
        have HBR := Lib.hid hBr
        have HRR := Lib.hid hRr
        clear hrl hT hBr hRr
        rw [hla]
        rcases htk.inv with ⟨h0, h1⟩ | ⟨s2, p, h0, htop, h1⟩ | ⟨s2, p, hh, x, ys, r2, h0, htop, hh0, hp, htk2, h1⟩
        · have hd : decide ((la : Int) < (T : Int)) = false := decide_eq_false (by omega)
          have hfn : (ts, out, k) = (acc, nums rs', 0) := by rw [HFN.out, HRR.out, h1]; simp [ahead, finO]
          obtain ⟨rfl, rfl, rfl⟩ : ts = acc ∧ out = nums rs' ∧ k = 0 := by simpa using hfn
          clear hfn htk h1 hT0 hla
          go_wp2_with fail
          go_ret3
          have hT := HT.out
          rw [HLA.out] at hT
          exact ⟨_, _, rs', _, by rw [HRL.out]; rfl, hT, rfl, HBR.out⟩
        · have hd : decide ((la : Int) < (T : Int)) = true := decide_eq_true (by omega)
          have hfn : (ts, out, k) = ([], [], 6) := by rw [HFN.out, HRR.out, h1]; rfl
          obtain ⟨rfl, rfl, rfl⟩ : ts = [] ∧ out = [] ∧ k = 6 := by simpa using hfn
          have HTP := Lib.hid htop
          obtain ⟨xp, hxp, hx0⟩ := hts_atE htop.here
          obtain ⟨pre, rp, post, hrs, hpre, hrx⟩ := rows_at hxp
          have hrk : rs'[p]? = some rp := by rw [hrs, List.getElem?_append_right (by omega), hpre, Nat.sub_self]; rfl
          have hrl0 : rp.xs.length = 0 := by rw [hrx]; omega
          have HRK := Lib.hid hrk
          have hpn : p < n := by have := (List.getElem?_eq_some_iff.1 hrk).1; have := HRL.out; omega
          clear hfn htk h1 hT0 htop hla hxp hx0 hrs hpre hrx hrk
          go_wp2_with fail
          refine (l04Most_any (some ⟨g, 0, none⟩) n c2 rs' HRL.out.symm hn1 HS.out _ HT.out.ot.ss p 0 HTP.out).mono ?_
          rintro o u5 ⟨rfl, hb⟩
          have HB5 := Lib.hid (below_next HBR.out hb (Nat.le_refl _))
          obtain ⟨a, ea, hab, q0⟩ := (HT.out.next hb).ot.ss.head HRK.out
          obtain rfl := Option.some.inj ea
          rw [add_lit, hrl0] at q0
          clear hb ea hab
          go_wp2_with fail
          go_ret3
          exact TL.void HB5.out 6
        · have hd : decide ((la : Int) < (T : Int)) = true := decide_eq_true (by omega)
          have HTP := Lib.hid htop
          have hsz2 := sumF_set List.length ys hp
          simp only [List.length_cons] at hsz2
          have HSS : Hid (szF ((nums rs').set p ys) + (la + 1) ≤ 1048576) := Lib.hid (by simp only [szF] at hsz ⊢; omega)
          obtain ⟨pre, g1, o1, rc, post, rfl, hpre⟩ := take_row hT0.ot hp
          have HPR := Lib.hid hpre
          have hpn : p < n := by have := HRL.out; rw [← hpre]; simp at this; omega
          have HTK := Lib.hid htk2
          have HNS := Lib.hid (fun o2 : Nat => nums_set pre ⟨some ⟨g1, o1, none⟩, rc, x :: ys⟩ ⟨some ⟨g1, o2, none⟩, rc - 1, ys⟩ post hpre rfl)
          have HH1 := Lib.hid h1
          have hs2 : la + 1 + s2 = T := by omega
          clear htk h1 hT0 htop hla htk2 hpre hp hsz2 h0
          go_wp2_with fail
          refine (l04Most_any (some ⟨g, 0, none⟩) n c2 _ HRL.out.symm hn1 HS.out _ HT.out.ot.ss p hh HTP.out).mono ?_
          rintro o u5 ⟨rfl, hb⟩
          have HB5 := Lib.hid (below_next HBR.out hb (Nat.le_refl _))
          have hT5 := HT.out.next hb
          rw [HLA.out] at hT5
          have HT5 := Lib.hid hT5
          clear hT5
          obtain ⟨q0, f0, q1, hcap, hgl, hgb, hg1, _⟩ := take_at HT5.out.ot
          obtain ⟨m, hm⟩ : ∃ m, ys.length = m := ⟨_, rfl⟩
          rw [HPR.out] at q0 f0
          rw [hm] at q0 hcap
          have hm1 : ((m + 1 : Nat) : Int) ≠ 0 := by omega
          have hm2 : (((m + 1 : Nat) : Int) == 0) = false := by rw [beq_eq_false_iff_ne]; exact hm1
          have HM := Lib.hid hm
          have HT7 := Lib.hid (HT5.out.next ((Below.refl u5.heap.size u5).alloc (Nat.le_refl _) (.cells #[.int .i64 x] 2)))
          have BA := Lib.hid (HB5.out.alloc HB5.out.size (.cells #[.int .i64 x] 2))
          have HOW := Lib.hid HT7.out.own
          rw [HLA.out] at HOW
          clear hb hm
          go_upto_region 12 with (first | (at_builtin; refine wpList_append_own_at _ rfl (.tmp 36) (.tmp 43) 22 rfl w.heap.size 2 i0 (.int .i64 0) 1 8 Tryd.underlying22 hI hz0 hz1 hz2 rfl (by decide) (.slice VA la Vc) la (acc.flatMap intS.C) rfl HOW.out ⟨_, 0, none⟩ 1 1 [.int .i64 x] rfl rfl (one_newB _ _ _ _ (by simp)) (one_cellI (by rfl)) (by unfold maxLen; omega) (by omega) BA.out.size ?_; intro v3 w5 hP5 hgr _ hat5; obtain ⟨A3, c3, rfl, _⟩ := owns_slice hP5; have HP5 := Lib.hid hP5; have HGR := Lib.hid hgr; have HAT := Lib.hid hat5; clear hP5 hgr hat5) | fail)
          have hlen : (acc ++ [x]).length = la + 1 := by rw [List.length_append, HLA.out]; rfl
          have T8 := Lib.hid (HT7.out.rest (ys' := acc ++ [x]) HGR.out (by rw [hlen, flat_snoc]; exact HP5.out) HAT.out)
          have B8 := Lib.hid (Below.grown BA.out HGR.out BA.out.size (fun g hg => (HOW.out.lt g hg).1))
          have HLEN := Lib.hid hlen
          obtain ⟨t0, e0, _, _, _, _, _, hfin⟩ := take_at T8.out.ot
          rw [HPR.out] at t0 e0 hfin
          rw [HM.out] at t0 hfin
          have FIN := Lib.hid (fun (o2 : Nat) (ho : o2 = if rc = 1 then o1 else o1 + 1) => T8.out.set (hfin o2 ho) (fun k hk => take_blocks hk))
          have HGB : Hid (w.heap.size ≤ g) := Lib.hid hgb
          obtain ⟨o2, ho⟩ : ∃ o2, o2 = if rc = 1 then o1 else o1 + 1 := ⟨_, rfl⟩
          clear hlen hfin q0 f0 q1
          go_wp2_with fail
          have F3 := Lib.hid (FIN.out o2 ho)
          have B9 := Lib.hid (B8.out.setCell (p := ⟨g, p, none⟩) HGB.out (.slice (some ⟨g1, o2, none⟩) m (rc - 1)))
          go_roundw
          case rel =>
            have hif : (if rc = 1 then some (⟨g1, o1, none⟩ : Addr) else some ⟨g1, o1 + 1, none⟩) = some ⟨g1, o2, none⟩ := by rw [ho]; split <;> rfl
            rw [hif]
            exact ⟨pre ++ ⟨some ⟨g1, o2, none⟩, rc - 1, ys⟩ :: post, acc ++ [x], _, s2, r2, rfl, by rw [HNS.out o2]; exact HTK.out, by rw [HRR.out, HH1.out, ahead_step], by rw [HLEN.out]; exact hs2, by have := HRL.out; simpa using this, by rw [HNS.out o2, HLEN.out]; exact HSS.out, F3.out, B9.out⟩
          case measure => simp only [slen]; omega
  · obtain ⟨rfl, rfl, rfl⟩ := HR.out.bad hc
    have HC := Lib.hid hc
    clear hc HR
    go_enter Tryd.func27, Tryd.ntmps27
    go_wp2_with fail
    refine (l04Cupboard_any A n c rs En.out (by omega) _ hg false ⟨(fun h => by cases h), fun h => absurd h HC.out⟩).mono ?_
    rintro o u ⟨rfl, hb⟩
    have HB := Lib.hid hb
    clear hb
    go_wp2_with fail
    go_ret3
    exact TL.void HB.out 1
end Go.Proofs.YtdcckdfemelbiaaDoor.rows

/-
  OldestFirst: small facts for the law's walk.
-/
namespace Go.Proofs.YtdcckdfemelbiaaDoor.rows
open Go Go.RowKit sl fold cup
theorem blocks_markR {A : Option Addr} {rs : List Rw} {k : Nat} : ∀ {i : Int}, Blocks A (markR i rs) k → Blocks A rs k := by
  intro i h
  rcases h with h | ⟨r, hr, hk⟩
  · exact .inl h
  · refine .inr ?_
    induction rs generalizing i with
    | nil => cases hr
    | cons r0 rs ih =>
      rcases List.mem_cons.1 hr with rfl | hr
      · refine ⟨r0, List.mem_cons_self .., ?_⟩
        rw [← hk]
        unfold Rw.v Value.ownBlock
        cases r0.A <;> rfl
      · obtain ⟨r1, h1, h2⟩ := ih hr
        exact ⟨r1, List.mem_cons_of_mem _ h1, h2⟩
theorem markI_but (base : Nat) (v : Value) (n : Nat) (k0 : Int) (hk : 0 ≤ k0 ∧ k0 ≤ 1000000000000) (hn : n ≤ 1048576) (L : List Value) (w : World) (hP : w.ownsRow base 2 1 v n L) :
    Calls Tryd.prog 29 #[v, .int .i64 k0] w fun e w' => e = .returned (.int .i64 (k0 + n)) ∧ w'.ownsRow base 2 1 v n ((intS.marks k0 n).flatMap intS.C) ∧ But (fun k => v.ownBlock = some k) w w' := by
  obtain ⟨h1, h2⟩ := hP
  rcases h2 with ⟨rfl, rfl⟩ | ⟨g, c, cur, rfl, hg, rest⟩
  · refine (intS.markS_nil k0 w).mono ?_
    rintro e w' ⟨rfl, rfl⟩
    exact ⟨by simp, by simpa [intS.marks] using World.ownsRow_nil w base 2 1, But.refl _ _⟩
  · refine (intS.markS_row base g n c k0 hk hn L w ⟨h1, .inr ⟨g, c, cur, rfl, hg, rest⟩⟩).mono ?_
    rintro e w' ⟨rfl, hP', hgr⟩
    exact ⟨rfl, hP', (But.of_grown hgr).mono fun k hk => by subst hk; rfl⟩
end Go.Proofs.YtdcckdfemelbiaaDoor.rows
