/-
  THE LAW FnExactLevelCupboard: for every list of piles the law returns true: the program makes it level as the model does, changes no pile that it was given, and what it returns is its own. No condition but that the package's errors are what the program's text lays.
-/
import Derived.Test.YtdcckdfemelbiaaDoorJoin16
import Derived.Test.YtdcckdfemelbiaaDoorRowsOpen
import Derived.Test.YtdcckdfemelbiaaDoorClose
import Derived.Test.YtdcckdfemelbiaaDoorLaid
import Derived.Test.YtdcckdfemelbiaaDoorCards
import Derived.Test.YtdcckdfemelbiaaDoorTie
namespace Go.Proofs.YtdcckdfemelbiaaDoor.lawLevelCupboard
open Go.ChangeShapes Go.WideShapes Go.ChangeAt Go.RowKit Go.Joins sl errs fold rows cup

set_option maxRecDepth 100000 in
set_option maxHeartbeats 8000000 in
theorem walk (A : Option Addr) (n c : Nat) (rs : List Rw) (en : n = rs.length) (hm : n ≤ 9223372036854775807) (w : World) (e : Nat → Addr) (hE : Errs w w.heap.size e) (hg : SS w w.heap.size A rs) :
    Calls Tryd.prog 6 #[.slice A n c] w fun o w' => o = .returned (.bool true) ∧ Below w.heap.size w w' := by
  have En := Lib.hid en
  have HE := Lib.hid hE
  obtain ⟨out, x, k, hr⟩ := LR.exists (nums rs)
  have HR := Lib.hid hr
  have hout : n + tot rs ≤ 1048576 → ∀ rs2 : List Rw, nums rs2 = out → rs2.length ≤ n ∧ n + tot rs2 ≤ 1048576 := hr.small en
  have HOUT := Lib.hid hout
  clear en hE hr hout
  go_enter Tryd.func6, Tryd.ntmps6
  go_wp2_with fail
  refine (szSS_tot A n c rs En.out hm 1048576 (by omega) _ hg).mono ?_
  rintro o u ⟨z, rfl, rfl, hz0, hz1, hz⟩
  by_cases hz2 : z < 0
  · clear hz
    go_wp2_with fail
    go_ret
    exact ⟨rfl, Below.refl _ _⟩
  · have htot := hz (by omega)
    have HT := Lib.hid htot
    have HS := Lib.hid (tot_le htot)
    have hn : n ≤ 1048576 := by omega
    clear hz htot
    go_wp2_with fail
    refine (toSS_any A n c rs En.out hn HS.out _ hg).mono ?_
    rintro o u ⟨g1, rs1, rfl, l1, n1, O, hb⟩
    have B1 := Lib.hid hb
    have O1 := Lib.hid O
    have L1 := Lib.hid l1
    have N1 := Lib.hid n1
    have S1 : Hid (∀ r ∈ rs1, r.xs.length ≤ 1048576) := Lib.hid (tot_le (n := n) (by rw [tot_nums N1.out]; exact HT.out))
    clear hb O l1 n1
    go_wp2_with fail
    refine (LevelCupboard_spec (some ⟨g1, 0, none⟩) n n rs1 L1.out.symm (by rw [tot_nums N1.out]; exact HT.out) O1.out.noneC _ O1.out.ss out x k (by rw [N1.out]; exact HR.out)).mono ?_
    rintro o u2z ⟨Aw, cw, rsw, rfl, nw, Ow, hb⟩
    have B2 := Lib.hid (below_next B1.out hb (Nat.le_refl _))
    have OW2 := Lib.hid Ow
    have NW := Lib.hid nw
    clear hb O1 L1 N1 B1 Ow nw S1
    go_wp2_with fail
    refine (toSS_any A n c rs En.out hn HS.out _ ((hg.below B2.out).more B2.out.size)).mono ?_
    rintro o u ⟨g3, rs3, rfl, l3, n3, O, hb⟩
    have B3 := Lib.hid (below_next B2.out hb (Nat.le_refl _))
    have OW3 := Lib.hid (OW2.out.next hb)
    have BW : Hid (∀ j, Blocks Aw rsw j → j < u2z.heap.size) := Lib.hid fun j hj => (OW2.out.blocks j hj).2
    have B2z := Lib.hid B2.out
    have O3 := Lib.hid O
    have L3 := Lib.hid l3
    have N3 := Lib.hid n3
    have S3 : Hid (∀ r ∈ rs3, r.xs.length ≤ 1048576) := Lib.hid (tot_le (n := n) (by rw [tot_nums N3.out]; exact HT.out))
    clear hb O l3 n3 B2 OW2
    go_wp2_with fail
    refine (LevelCupboard_any (some ⟨g3, 0, none⟩) n n rs3 L3.out.symm (by rw [tot_nums N3.out]; exact HT.out) O3.out.noneC (HE.out.below B3.out) B3.out.size O3.out.ss out x k (by rw [N3.out]; exact HR.out)).mono ?_
    rintro o u4 ⟨Ag, cg, rsg, rfl, ng, Og, hb⟩
    have B4 := Lib.hid (below_next B3.out hb (Nat.le_refl _))
    have O4 := Lib.hid (OT.of (O3.out.next hb))
    have OW4 := Lib.hid (OW3.out.next hb)
    have BX : Hid (∀ k, Blocks (some ⟨g3, 0, none⟩) rs3 k → w.heap.size ≤ k ∧ k < u.heap.size ∧ (∀ j, Blocks Aw rsw j → j < k)) := Lib.hid fun k hk => by
      have h1 := (OT.of O3.out).blocks k hk
      exact ⟨by have := B2z.out.size; omega, h1.2, fun j hj => by have := BW.out j hj; omega⟩
    have BG : Hid (∀ k, Blocks Ag rsg k → u.heap.size ≤ k) := Lib.hid fun k hk => (Og.blocks k hk).1
    have OG := Lib.hid Og
    have NG := Lib.hid ng
    obtain ⟨lg, tg⟩ := HOUT.out HT.out rsg ng
    obtain ⟨lw, tw⟩ := HOUT.out HT.out rsw NW.out
    have SG : Hid (∀ r ∈ rsg, r.xs.length ≤ 1048576) := Lib.hid (tot_le (n := n) (by have := HT.out; omega))
    have hlg : rsg.length + tot rsg ≤ 1048576 := by have := HT.out; omega
    have HLG := Lib.hid hlg
    have hgb := B3.out.size
    have BWU : Hid (∀ k, Blocks Aw rsw k → k < u.heap.size) := Lib.hid fun k hk => (OW3.out.blocks k hk).2
    have HGU : Hid (w.heap.size ≤ u.heap.size) := Lib.hid hgb
    clear hb Og ng B3 O3 OW3 B2z BW hlg hgb tg tw
    go_wp2_with fail
    refine (eqSS_any Ag Aw rsg.length rsw.length cg cw rsg rsw rfl rfl (by omega) (by omega) SG.out _ OG.out.ss OW4.out.ss true (by rw [NG.out, NW.out]; simp)).mono ?_
    rintro o u5 ⟨rfl, hb⟩
    have B5 := Lib.hid (below_next B4.out hb (Nat.le_refl _))
    have O5 := Lib.hid (O4.out.next hb)
    have OW5 := Lib.hid (OW4.out.next hb)
    have OG5 := Lib.hid (OG.out.next hb)
    clear hb B4 O4 OW4 OG
    go_wp2_with fail
    refine (toSS_any A n c rs En.out hn HS.out _ ((hg.below B5.out).more B5.out.size)).mono ?_
    rintro o u6 ⟨g6, rs6, rfl, l6, n6, O, hb⟩
    have B6 := Lib.hid (below_next B5.out hb (Nat.le_refl _))
    have O6 := Lib.hid (O5.out.next hb)
    have OW6 := Lib.hid (OW5.out.next hb)
    have OG6 := Lib.hid (OG5.out.next hb)
    have T6 := Lib.hid O
    have L6 := Lib.hid l6
    have N6 := Lib.hid n6
    clear hb B5 O5 OW5 OG5 O l6 n6
    go_wp2_with fail
    refine (eqSS_any (some ⟨g3, 0, none⟩) (some ⟨g6, 0, none⟩) n n n n rs3 rs6 L3.out.symm L6.out.symm hn (by omega) S3.out _ O6.out.ss T6.out.ss true (by rw [N3.out, N6.out]; simp)).mono ?_
    rintro o u7 ⟨rfl, hb⟩
    have B7 := Lib.hid (below_next B6.out hb (Nat.le_refl _))
    have O7 := Lib.hid (O6.out.next hb)
    have OW7 := Lib.hid (OW6.out.next hb)
    have OG7 := Lib.hid (OG6.out.next hb)
    clear hb B6 O6 OW6 OG6 T6 L6 N6
    have ht3 : n + tot rs3 ≤ 1048576 := by rw [tot_nums N3.out]; exact HT.out
    have HT3 := Lib.hid ht3
    clear ht3
    go_wp2_with fail
    refine (markSS_any u7 u2z.heap.size (some ⟨g3, 0, none⟩) n n rs3 L3.out.symm O7.out 1 (by omega) HT3.out).mono ?_
    rintro o u8 ⟨rfl, _, hbut⟩
    have B8 := Lib.hid (B7.out.trans (hbut.below B7.out.size (fun k hk => (BX.out k hk).1)))
    have OW8 := Lib.hid (OW7.out.apart hbut (fun k hk hx => by have := (BX.out k hx).2.2 k hk; omega))
    have OG8 := Lib.hid (OG7.out.apart hbut (fun k hk hx => by have := (BX.out k hx).2.1; have := BG.out k hk; omega))
    have k8 : decide ((1 : Int) + (tot rs3 : Int) < 0) = false := by simp; omega
    clear hbut B7 O7 OW7 OG7
    go_wp2_with fail
    refine (eqSS_any Ag Aw rsg.length rsw.length cg cw rsg rsw rfl rfl (by omega) (by omega) SG.out _ OG8.out.ss OW8.out.ss true (by rw [NG.out, NW.out]; simp)).mono ?_
    rintro o u9 ⟨rfl, hb⟩
    have B9 := Lib.hid (below_next B8.out hb (Nat.le_refl _))
    have OW9 := Lib.hid (OW8.out.next hb)
    have OG9 := Lib.hid (OG8.out.next hb)
    clear hb B8 OW8 OG8
    go_wp2_with fail
    refine (markSS_any u9 u.heap.size Ag cg rsg.length rsg rfl OG9.out 1 (by omega) HLG.out).mono ?_
    rintro o u10 ⟨rfl, OM, hbut⟩
    have B10 := Lib.hid (B9.out.trans (hbut.below B9.out.size (fun k hk => by have := BG.out k hk; have := HGU.out; omega)))
    have BWG : Hid (∀ k, Blocks Aw rsw k → ¬ Blocks Ag rsg k) := Lib.hid fun k hk hx => by have h1 := BWU.out k hk; have h2 := BG.out k hx; omega
    have OW10 := Lib.hid (OW9.out.apart hbut BWG.out)
    have OM10 := Lib.hid OM
    have k10 : decide ((1 : Int) + (tot rsg : Int) < 0) = false := by simp; omega
    clear hbut B9 OW9 OG9 OM
    go_wp2_with fail
    refine (heldSS_any u10 Ag cg rsg.length rsg rfl 1 OM10.out.ss (by omega) HLG.out).mono ?_
    rintro o u11 ⟨rfl, rfl⟩
    go_wp2_with fail
    refine (toSS_any A n c rs En.out hn HS.out _ ((hg.below B10.out).more B10.out.size)).mono ?_
    rintro o u12 ⟨g12, rs12, rfl, l12, n12, O, hb⟩
    have B12 := Lib.hid (below_next B10.out hb (Nat.le_refl _))
    have OW12 := Lib.hid (OW10.out.next hb)
    have OM12 := Lib.hid (OM10.out.next hb)
    have O12 := Lib.hid O
    have L12 := Lib.hid l12
    have N12 := Lib.hid n12
    have S12 : Hid (∀ r ∈ rs12, r.xs.length ≤ 1048576) := Lib.hid (tot_le (n := n) (by rw [tot_nums N12.out]; exact HT.out))
    clear hb O l12 n12 B10 OW10 OM10
    go_wp2_with fail
    refine (LevelCupboard_any (some ⟨g12, 0, none⟩) n n rs12 L12.out.symm (by rw [tot_nums N12.out]; exact HT.out) O12.out.noneC (HE.out.below B12.out) B12.out.size O12.out.ss out x k (by rw [N12.out]; exact HR.out)).mono ?_
    rintro o u13 ⟨Ah, ch, rsh, rfl, nh, Oh, hb⟩
    have B13 := Lib.hid (below_next B12.out hb (Nat.le_refl _))
    have OW13 := Lib.hid (OW12.out.next hb)
    have OM13 := Lib.hid (OM12.out.next hb)
    have OH13 := Lib.hid Oh
    have NH := Lib.hid nh
    obtain ⟨lh, th⟩ := HOUT.out HT.out rsh nh
    have SH : Hid (∀ r ∈ rsh, r.xs.length ≤ 1048576) := Lib.hid (tot_le (n := n) (by have := HT.out; omega))
    clear hb Oh nh B12 OW12 OM12 O12 L12 N12 S12 th
    go_wp2_with fail
    refine (eqSS_any Ah Aw rsh.length rsw.length ch cw rsh rsw rfl rfl (by omega) (by omega) SH.out _ OH13.out.ss OW13.out.ss true (by rw [NH.out, NW.out]; simp)).mono ?_
    rintro o u14 ⟨rfl, hb⟩
    have B14 := Lib.hid (below_next B13.out hb (Nat.le_refl _))
    have OM14 := Lib.hid (OM13.out.next hb)
    clear hb B13 OW13 OM13 OH13
    go_wp2_with fail
    refine (heldSS_any u14 Ag cg rsg.length rsg rfl 1 OM14.out.ss (by omega) HLG.out).mono ?_
    rintro o u15 ⟨rfl, rfl⟩
    go_wp2_with fail
    go_ret
    exact ⟨rfl, B14.out⟩

theorem readables : ∀ t ∈ Tryd.f6.params.toList, Tryd.prog.readableRec t = true ∧ t < Tryd.prog.types.size := by
  rw [Tryd.params6]
  intro t ht
  simp only [List.mem_cons, List.not_mem_nil, or_false] at ht
  rcases ht with rfl | rfl <;> exact ⟨by kernel_rfl, of_decide_eq_true (by kernel_rfl)⟩

set_option maxRecDepth 100000 in
/-- what the row's list gives -/
theorem errsLaid {W : World} (h : laidMetH Tryd.prog Rows.fnExactLevelCupboardRow.laid W) : ∃ e, Errs W W.heap.size e := by
  rw [MakeChecks.laidMetH_plain _ _ _ (by kernel_rfl)] at h
  refine errs_of Rows.fnExactLevelCupboardRow.laid (fun i => i) h (by kernel_rfl) ?_ ?_ (fun i j _ _ h => h)
  · have hall : ((listOf Rows.fnExactLevelCupboardRow.laid).all fun x => match Tryd.prog.globalNamed x.1 with | some g => decide ((Tryd.prog.globals[g]?).map (·.type) = some 80) | none => false) = true := by kernel_rfl
    intro x hx
    have h1 := List.all_eq_true.1 hall x hx
    split at h1
    · rename_i g hg
      exact ⟨g, hg, of_decide_eq_true h1⟩
    · cases h1
  · have b0 : ((listOf Rows.fnExactLevelCupboardRow.laid)[0]?).bind (fun x => Tryd.prog.globalNamed x.1) = some (gvar 0) := by kernel_rfl
    have b1 : ((listOf Rows.fnExactLevelCupboardRow.laid)[1]?).bind (fun x => Tryd.prog.globalNamed x.1) = some (gvar 1) := by kernel_rfl
    have b2 : ((listOf Rows.fnExactLevelCupboardRow.laid)[2]?).bind (fun x => Tryd.prog.globalNamed x.1) = some (gvar 2) := by kernel_rfl
    have b3 : ((listOf Rows.fnExactLevelCupboardRow.laid)[3]?).bind (fun x => Tryd.prog.globalNamed x.1) = some (gvar 3) := by kernel_rfl
    have b4 : ((listOf Rows.fnExactLevelCupboardRow.laid)[4]?).bind (fun x => Tryd.prog.globalNamed x.1) = some (gvar 4) := by kernel_rfl
    have b5 : ((listOf Rows.fnExactLevelCupboardRow.laid)[5]?).bind (fun x => Tryd.prog.globalNamed x.1) = some (gvar 5) := by kernel_rfl
    have b6 : ((listOf Rows.fnExactLevelCupboardRow.laid)[6]?).bind (fun x => Tryd.prog.globalNamed x.1) = some (gvar 6) := by kernel_rfl
    intro i hi
    match i, hi with
    | 0, _ => exact b0
    | 1, _ => exact b1
    | 2, _ => exact b2
    | 3, _ => exact b3
    | 4, _ => exact b4
    | 5, _ => exact b5
    | 6, _ => exact b6

set_option maxRecDepth 100000 in
theorem contract (H : Type) (enc : TypeId × Value → H) (W : World) (base : Nat) (args : Array Value) (ds gs : List (DataW H)) (before : List MemPlace)
    (hval : ∀ (j : Nat) t v, Tryd.f6.params[j]? = some t → args[j]? = some v → Value.okWide Tryd.prog W .any base t v)
    (hW : DataW.Whole enc Tryd.prog Tryd.f6.params.toList Rows.fnExactLevelCupboardSpec.vars false W args.toList ds gs before) (hL : laidMetH Tryd.prog Rows.fnExactLevelCupboardRow.laid W) :
    Calls Tryd.prog 6 args W fun e W' => ∃ v, e = .returned v ∧ Rows.fnExactLevelCupboardSpec.post enc Tryd.prog Tryd.f6 false true false false W args v W' := by
  obtain ⟨ee, hE⟩ := errsLaid hL
  have hW' := hW
  obtain ⟨p, q, hA0, hV, rfl, hfz, hnd⟩ := hW
  have hA : DataW.TrodAll enc Tryd.prog W 0 (fun _ => true) true Tryd.f6.params.toList args.toList ds p := hA0
  rw [Tryd.params6] at hA hval
  clear hA0
  obtain ⟨v0, vs0, d0, ds0, p0, q0, hargs, rfl, rfl, h0, r0⟩ := trodAll_cons hA
  obtain ⟨rfl, rfl, rfl⟩ := trodAll_nil r0
  obtain rfl : args = #[v0] := by cases args; simp_all
  obtain ⟨z0, z1, z2, z3, z4, z5, z6, rfl⟩ := vars_of hV
  obtain ⟨A, c, rs, rfl, hl, hg⟩ := open_rows (hval 0 27 v0 rfl rfl) h0
  unfold maxLen at hl
  refine (walk A rs.length c rs rfl hl W ee hE hg).mono fun e W' ⟨he, hb⟩ => ?_
  subst he
  exact ⟨_, rfl, close_vars laidOut readables (by kernel_rfl) Tryd.underlying4 rfl rfl hW' hb⟩

end Go.Proofs.YtdcckdfemelbiaaDoor.lawLevelCupboard
