/-
  THE LAW FnExactLastsFor: for every house and all needs the law returns true: the program answers as the model does, and changes neither the stocks nor the needs that it was given. No condition but that the package's errors are what the program's text lays.
-/
import Derived.Test.YtdcckdfemelbiaaDoorJoin32
import Derived.Test.YtdcckdfemelbiaaDoorJoin31
import Derived.Test.YtdcckdfemelbiaaDoorJoin30
import Derived.Test.YtdcckdfemelbiaaDoorHouOpen
import Derived.Test.YtdcckdfemelbiaaDoorIntOpen
import Derived.Test.YtdcckdfemelbiaaDoorJoin16
import Derived.Test.YtdcckdfemelbiaaDoorClose
import Derived.Test.YtdcckdfemelbiaaDoorLaid
import Derived.Test.YtdcckdfemelbiaaDoorCards
import Derived.Test.YtdcckdfemelbiaaDoorTie
namespace Go.Proofs.YtdcckdfemelbiaaDoor.lawLastsFor
open Go.ChangeShapes Go.WideShapes Go.ChangeAt Go.RowKit Go.Joins sl errs stk row hou rows

set_option maxRecDepth 100000 in
set_option maxHeartbeats 8000000 in
theorem walk_fits (A : Option Addr) (n c : Nat) (xs : List Stk) (t x d : Int) (en : n = xs.length) (hn : n ≤ 1048576) (hf : ∀ x ∈ xs, Fits x) (ht : -32768 ≤ t ∧ t ≤ 32767) (hx : -128 ≤ x ∧ x ≤ 127) (hd : -32768 ≤ d ∧ d ≤ 32767) (A' : Option Addr) (m c' : Nat) (rs : List Int) (em : m = rs.length) (hm : m ≤ 9223372036854775807) (w : World) (e : Nat → Addr) (hE : Errs w w.heap.size e) (hg : Sl stkC 25 w w.heap.size A xs) (hg' : Sl intS.C 1 w w.heap.size A' rs) :
    Calls Tryd.prog 15 #[houV (.slice A n c) t x d, .slice A' m c'] w fun o w' => o = .returned (.bool true) ∧ Below w.heap.size w w' := by
  have En := Lib.hid en
  have Em := Lib.hid em
  have HE := Lib.hid hE
  have HA0 := Lib.hid (HouAt.new w (.slice A n c) t x d 54)
  have B0 := Lib.hid ((Below.refl w.heap.size w).alloc (Nat.le_refl _) (.cells #[.slice A n c, .int .i16 t, .int .i8 x, .int .i16 d] 54))
  have HLE : Hid (xs.length ≤ 1048576) := Lib.hid (by omega)
  have HF := Lib.hid hf
  have HT := Lib.hid ht
  have HX := Lib.hid hx
  have HD := Lib.hid hd
  have HN := Lib.hid hn
  have HM := Lib.hid hm
  have HG := Lib.hid hg
  have HG' := Lib.hid hg'
  have a0 := HA0.out.c0
  have a1 := HA0.out.c1
  have a2 := HA0.out.c2
  have a3 := HA0.out.c3
  obtain ⟨y0, hr0⟩ : ∃ q, numLa xs t x d rs = q := ⟨_, rfl⟩
  have HR0 := Lib.hid hr0
  obtain ⟨y1, hr1⟩ : ∃ q, codeLa xs t x d rs = q := ⟨_, rfl⟩
  have HR1 := Lib.hid hr1
  clear en em hE hf ht hx hd hn hg hg' hr0 hr1
  go_enter Tryd.func15, Tryd.ntmps15
  by_cases hbig : 1048576 < m
  · have hd1 : decide ((1048576 : Int) < (m : Int)) = true := decide_eq_true (by omega)
    go_wp2_with fail
    go_ret
    exact ⟨rfl, B0.out⟩
  · have hd1 : decide ((1048576 : Int) < (m : Int)) = false := decide_eq_false (by omega)
    have hm1 : m ≤ 1048576 := by omega
    clear hbig
    go_wp2_with fail
    refine (szHouse_any A n c t x d 1048576 (by have := HN.out; omega) (by omega) _).mono ?_
    rintro o w1 ⟨rfl, hb⟩
    rw [if_neg (by have := HN.out; omega)]
    have HA1 := Lib.hid (HA0.out.next hb)
    clear a0 a1 a2 a3
    have HB1 := Lib.hid (below_next B0.out hb (by simp))
    have hlf : ¬ (1048576 : Int) - (n : Int) < 0 := by have := HN.out; omega
    clear hb HA0 B0
    have HA2 := Lib.hid (HA1.out)
    have a0 := HA2.out.c0
    have a1 := HA2.out.c1
    have a2 := HA2.out.c2
    have a3 := HA2.out.c3
    go_wp2_with fail
    have h1 := toHouse_any A c xs t x d HLE.out _ ((HG.out.below HB1.out).more HB1.out.size)
    rw [← En.out] at h1
    refine h1.mono ?_
    clear h1
    rintro o w2 ⟨g2, rfl, hP, hb⟩
    have S2 := Lib.hid (Sl.of_owns hP (stkC_len xs) (by decide))
    have HA3 := Lib.hid (HA2.out.next hb)
    have HB2 := Lib.hid (below_next HB1.out hb (Nat.le_refl _))
    clear hb hP a0 a1 a2 a3 HA2 HA1 HB1
    go_wp2_with fail
    refine (intS.toS_any A' m c' rs Em.out hm1 _ ((HG'.out.below HB2.out).more HB2.out.size)).mono ?_
    rintro o u3 ⟨gu3, rfl, P, hb⟩
    have Yu3 := Lib.hid (Sl.of_owns P (intS.len _) (by decide))
    clear P
    have S3 := Lib.hid (S2.out.next hb)
    have HA4 := Lib.hid (HA3.out.next hb)
    have HB3 := Lib.hid (below_next HB2.out hb (Nat.le_refl _))
    clear hb S2 HA3 HB2
    have hcall := LastsFor_spec g2 n n xs t x d En.out HN.out HF.out HT.out HX.out HD.out (some ⟨gu3, 0, none⟩) m m rs Em.out (by omega) _ S3.out Yu3.out
    rw [HR0.out, HR1.out] at hcall
    go_wp2_with fail
    refine hcall.mono ?_
    clear hcall
    rintro o w4 ⟨rfl, hb⟩
    have HA5 := Lib.hid (HA4.out.next hb)
    have HB4 := Lib.hid (below_next HB3.out hb (Nat.le_refl _))
    clear hb S3 Yu3 HA4 HB3
    have a0 := HA5.out.c0
    have a1 := HA5.out.c1
    have a2 := HA5.out.c2
    have a3 := HA5.out.c3
    go_wp2_with fail
    have h1 := toHouse_any A c xs t x d HLE.out _ ((HG.out.below HB4.out).more HB4.out.size)
    rw [← En.out] at h1
    refine h1.mono ?_
    clear h1
    rintro o w5 ⟨g5, rfl, hP, hb⟩
    obtain ⟨w6, hw6⟩ : ∃ u, u = w5.alloc (.cells #[.slice (some ⟨g5, 0, none⟩) n n, .int .i16 t, .int .i8 x, .int .i16 d] 58) := ⟨_, rfl⟩
    have hb6 : Below w5.heap.size w5 w6 := by rw [hw6]; exact (Below.refl _ _).alloc (Nat.le_refl _) _
    have X6 : Hid (HouAt w6 w5.heap.size (.slice (some ⟨g5, 0, none⟩) n n) t x d) := Lib.hid (by rw [hw6]; exact HouAt.new w5 _ t x d _)
    have S6 := Lib.hid ((Sl.of_owns hP (stkC_len xs) (by decide)).next hb6)
    have HA6 := Lib.hid ((HA5.out.next hb).next hb6)
    have HB6 := Lib.hid (below_next (below_next HB4.out hb (Nat.le_refl _)) hb6 (Nat.le_refl _))
    have HW6 := Lib.hid hw6
    clear hP hb hb6 hw6 a0 a1 a2 a3 HA5 HB4
    go_wp2_with (first | (rw [← HW6.out]) | fail)
    refine (intS.toS_any A' m c' rs Em.out hm1 _ ((HG'.out.below HB6.out).more HB6.out.size)).mono ?_
    rintro o u7 ⟨gu7, rfl, P, hb⟩
    have Yu7 := Lib.hid (Sl.of_owns P (intS.len _) (by decide))
    clear P
    have X7 := Lib.hid (X6.out.next hb)
    have S7 := Lib.hid (S6.out.next hb)
    have HA7 := Lib.hid (HA6.out.next hb)
    have HB7 := Lib.hid (below_next HB6.out hb (Nat.le_refl _))
    clear hb X6 S6 HA6 HB6 HW6
    have x0 := X7.out.c0
    have x1 := X7.out.c1
    have x2 := X7.out.c2
    have x3 := X7.out.c3
    have hcall := LastsFor_any (some ⟨g5, 0, none⟩) n n xs t x d En.out HN.out (Nat.le_refl _) (by have := HN.out; unfold maxLen; omega) HF.out HT.out HX.out HD.out (some ⟨gu7, 0, none⟩) m m rs Em.out (by omega) (HE.out.below HB7.out) HB7.out.size S7.out Yu7.out
    rw [HR0.out, HR1.out] at hcall
    go_wp2_with fail
    refine hcall.mono ?_
    clear hcall
    rintro o w8 ⟨rfl, hb⟩
    have X8 := Lib.hid (X7.out.next hb)
    have S8 := Lib.hid (S7.out.next hb)
    have HA8 := Lib.hid (HA7.out.next hb)
    have HB8 := Lib.hid (below_next HB7.out hb (Nat.le_refl _))
    have Y8 := Lib.hid (Yu7.out.next hb)
    clear hb X7 S7 HA7 HB7 Yu7 x0 x1 x2 x3
    go_wp2_with fail
    have X9 := Lib.hid (X8.out.next (Below.refl _ _).drew)
    have HA9 := Lib.hid (HA8.out.next (Below.refl _ _).drew)
    have S9 := Lib.hid (S8.out.next (Below.refl _ _).drew)
    have Y9 := Lib.hid (Y8.out.next (Below.refl _ _).drew)
    have HB9 := Lib.hid (HB8.out.drew)
    refine wp_region_held_drew (S := fun u => HouAt u w5.heap.size (.slice (some ⟨g5, 0, none⟩) n n) t x d ∧ HouAt u w.heap.size (.slice A n c) t x d) (by kernel_rfl) ⟨X9.out, HA9.out⟩ (fun hHeld => ?_)
    generalize w8.drew = w9 at X9 HA9 S9 Y9 HB9 hHeld ⊢
    clear X8 S8 HA8 HB8 Y8
    refine wpAnyH_take (i := 0) (v := houV (.slice (some ⟨g5, 0, none⟩) n n) t x d) rfl (by kernel_rfl) (by kernel_rfl) (by kernel_rfl) (fun _ _ _ h => h) (yieldsIf_load_mid (by rfl) 58 (.tmp 8) rfl w5.heap.size 0 rfl (houL (.slice (some ⟨g5, 0, none⟩) n n) t x d) _ (fun u h => h.1.range) Tryd.underlying58 rfl infoH) hHeld ?_
    (try simp only [Act.put, List.getElem_toArray, List.getElem_cons_zero, List.getElem_cons_succ, List.setIfInBounds_toArray, List.set_cons_zero, List.set_cons_succ])
    refine wpAnyH_take (i := 1) (v := houV (.slice A n c) t x d) rfl (by kernel_rfl) (by kernel_rfl) (by kernel_rfl) (fun _ _ _ h => h) (yieldsIf_load_mid (by rfl) 54 (.tmp 2) rfl w.heap.size 0 rfl (houL (.slice A n c) t x d) _ (fun u h => h.2.range) Tryd.underlying54 rfl infoLH) hHeld ?_
    (try simp only [Act.put, List.getElem_toArray, List.getElem_cons_zero, List.getElem_cons_succ, List.setIfInBounds_toArray, List.set_cons_zero, List.set_cons_succ])
    refine wpAnyH_ready (rs := [2]) (by kernel_rfl) (by simp) ?_
    refine AllReadyH.cons rfl (fun K hK => ?_) AllReadyH.nil
    go_simp
    have h1 := toHouse_any A c xs t x d HLE.out _ ((HG.out.below HB9.out).more HB9.out.size)
    rw [← En.out] at h1
    refine h1.mono ?_
    clear h1
    rintro o w10 ⟨g10, rfl, hP, hb⟩
    have S10 := Lib.hid (Sl.of_owns hP (stkC_len xs) (by decide))
    have SX := Lib.hid (S9.out.next hb)
    have Y10 := Lib.hid (Y9.out.next hb)
    have HB10 := Lib.hid (below_next HB9.out hb (Nat.le_refl _))
    clear hP
    refine hK.out _ _ (⟨hHeld.1.next hb, hHeld.2.next hb⟩) (fun hHeld2 => ?_)
    clear hK K hHeld
    have hHeld := hHeld2
    clear hHeld2
    try simp only [Act.put, List.getElem_toArray, List.getElem_cons_zero, List.getElem_cons_succ, List.setIfInBounds_toArray, List.set_cons_zero, List.set_cons_succ]
    clear hb
    refine wpAnyH_ready (rs := [3]) (by kernel_rfl) (by simp) ?_
    refine AllReadyH.cons rfl (fun K hK => ?_) AllReadyH.nil
    go_simp
    refine (eqHouse_any (some ⟨g5, 0, none⟩) (some ⟨g10, 0, none⟩) n n n n xs xs t x d t x d En.out En.out HN.out (by have := HN.out; omega) _ SX.out S10.out true true (iff_of_true rfl (eqL_refl xs)) (by simp)).mono ?_
    rintro o w11 ⟨rfl, hb⟩
    have Y11 := Lib.hid (Y10.out.next hb)
    have HB11 := Lib.hid (below_next HB10.out hb (Nat.le_refl _))
    refine hK.out _ _ (⟨hHeld.1.next hb, hHeld.2.next hb⟩) (fun hHeld2 => ?_)
    clear hK K hHeld
    have hHeld := hHeld2
    clear hHeld2
    try simp only [Act.put, List.getElem_toArray, List.getElem_cons_zero, List.getElem_cons_succ, List.setIfInBounds_toArray, List.set_cons_zero, List.set_cons_succ]
    clear hb
    refine wpAnyH_ready (rs := [4]) (by kernel_rfl) (by simp) ?_
    refine AllReadyH.cons rfl (fun K hK => ?_) AllReadyH.nil
    go_simp
    refine hK.out _ _ (hHeld) (fun hHeld2 => ?_)
    clear hK K hHeld
    have hHeld := hHeld2
    clear hHeld2
    try simp only [Act.put, List.getElem_toArray, List.getElem_cons_zero, List.getElem_cons_succ, List.setIfInBounds_toArray, List.set_cons_zero, List.set_cons_succ]
    refine wpAnyH_done (by kernel_rfl) ?_ _
    clear hHeld S10 SX Y10 HB10 X9 HA9 S9 Y9 HB9
    go_wp2_with fail
    refine (intS.toS_any A' m c' rs Em.out hm1 _ ((HG'.out.below HB11.out).more HB11.out.size)).mono ?_
    rintro o u12 ⟨gu12, rfl, P, hb⟩
    have Yu12 := Lib.hid (Sl.of_owns P (intS.len _) (by decide))
    clear P
    have Y12 := Lib.hid (Y11.out.next hb)
    have HB12 := Lib.hid (below_next HB11.out hb (Nat.le_refl _))
    clear hb
    go_wp2_with fail
    refine (intS.eqS_any (some ⟨gu7, 0, none⟩) (some ⟨gu12, 0, none⟩) m m m m rs rs Em.out Em.out hm1 (by omega) _ Y12.out Yu12.out true (by simp)).mono ?_
    rintro o w13 ⟨rfl, hb⟩
    have HB13 := Lib.hid (below_next HB12.out hb (Nat.le_refl _))
    clear hb
    go_wp2_with fail
    go_ret
    exact ⟨rfl, HB13.out⟩
theorem walk_big (A : Option Addr) (n c : Nat) (t x d : Int) (hn : 1048576 < n) (hm : n ≤ 9223372036854775807) (A' : Option Addr) (m c' : Nat) (w : World) :
    Calls Tryd.prog 15 #[houV (.slice A n c) t x d, .slice A' m c'] w fun o w' => o = .returned (.bool true) ∧ Below w.heap.size w w' := by
  have B0 := Lib.hid ((Below.refl w.heap.size w).alloc (Nat.le_refl _) (.cells #[.slice A n c, .int .i16 t, .int .i8 x, .int .i16 d] 54))
  go_enter Tryd.func15, Tryd.ntmps15
  by_cases hbig : 1048576 < m
  · have hd1 : decide ((1048576 : Int) < (m : Int)) = true := decide_eq_true (by omega)
    go_wp2_with fail
    go_ret
    exact ⟨rfl, B0.out⟩
  · have hd1 : decide ((1048576 : Int) < (m : Int)) = false := decide_eq_false (by omega)
    go_wp2_with fail
    refine (szHouse_any A n c t x d 1048576 hm (by omega) _).mono ?_
    rintro o w1 ⟨rfl, hb1⟩
    rw [if_pos (by omega)]
    have HB1 := Lib.hid (below_next B0.out hb1 (by simp))
    clear hb1
    go_wp2_with fail
    go_ret
    exact ⟨rfl, HB1.out⟩

theorem readables : ∀ t ∈ Tryd.f15.params.toList, Tryd.prog.readableRec t = true ∧ t < Tryd.prog.types.size := by
  rw [Tryd.params15]
  intro t ht
  simp only [List.mem_cons, List.not_mem_nil, or_false] at ht
  rcases ht with rfl | rfl <;> exact ⟨by kernel_rfl, of_decide_eq_true (by kernel_rfl)⟩

set_option maxRecDepth 100000 in
/-- what the row's list gives -/
theorem errsLaid {W : World} (h : laidMetH Tryd.prog Rows.fnExactLastsForRow.laid W) : ∃ e, Errs W W.heap.size e := by
  rw [MakeChecks.laidMetH_plain _ _ _ (by kernel_rfl)] at h
  refine errs_of Rows.fnExactLastsForRow.laid (fun i => i) h (by kernel_rfl) ?_ ?_ (fun i j _ _ h => h)
  · have hall : ((listOf Rows.fnExactLastsForRow.laid).all fun x => match Tryd.prog.globalNamed x.1 with | some g => decide ((Tryd.prog.globals[g]?).map (·.type) = some 80) | none => false) = true := by kernel_rfl
    intro x hx
    have h1 := List.all_eq_true.1 hall x hx
    split at h1
    · rename_i g hg
      exact ⟨g, hg, of_decide_eq_true h1⟩
    · cases h1
  · have b0 : ((listOf Rows.fnExactLastsForRow.laid)[0]?).bind (fun x => Tryd.prog.globalNamed x.1) = some (gvar 0) := by kernel_rfl
    have b1 : ((listOf Rows.fnExactLastsForRow.laid)[1]?).bind (fun x => Tryd.prog.globalNamed x.1) = some (gvar 1) := by kernel_rfl
    have b2 : ((listOf Rows.fnExactLastsForRow.laid)[2]?).bind (fun x => Tryd.prog.globalNamed x.1) = some (gvar 2) := by kernel_rfl
    have b3 : ((listOf Rows.fnExactLastsForRow.laid)[3]?).bind (fun x => Tryd.prog.globalNamed x.1) = some (gvar 3) := by kernel_rfl
    have b4 : ((listOf Rows.fnExactLastsForRow.laid)[4]?).bind (fun x => Tryd.prog.globalNamed x.1) = some (gvar 4) := by kernel_rfl
    have b5 : ((listOf Rows.fnExactLastsForRow.laid)[5]?).bind (fun x => Tryd.prog.globalNamed x.1) = some (gvar 5) := by kernel_rfl
    have b6 : ((listOf Rows.fnExactLastsForRow.laid)[6]?).bind (fun x => Tryd.prog.globalNamed x.1) = some (gvar 6) := by kernel_rfl
    intro i hi
    match i, hi with
    | 0, _ => exact b0
    | 1, _ => exact b1
    | 2, _ => exact b2
    | 3, _ => exact b3
    | 4, _ => exact b4
    | 5, _ => exact b5
    | 6, _ => exact b6

set_option maxRecDepth 100000 in
theorem contract (H : Type) (enc : TypeId × Value → H) (W : World) (base : Nat) (args : Array Value) (ds gs : List (DataW H)) (before : List MemPlace)
    (hval : ∀ (j : Nat) t v, Tryd.f15.params[j]? = some t → args[j]? = some v → Value.okWide Tryd.prog W .any base t v)
    (hW : DataW.Whole enc Tryd.prog Tryd.f15.params.toList Rows.fnExactLastsForSpec.vars false W args.toList ds gs before) (hL : laidMetH Tryd.prog Rows.fnExactLastsForRow.laid W) :
    Calls Tryd.prog 15 args W fun e W' => ∃ v, e = .returned v ∧ Rows.fnExactLastsForSpec.post enc Tryd.prog Tryd.f15 false true false false W args v W' := by
  obtain ⟨ee, hE⟩ := errsLaid hL
  have hW' := hW
  obtain ⟨p, q, hA0, hV, rfl, hfz, hnd⟩ := hW
  have hA : DataW.TrodAll enc Tryd.prog W 0 (fun _ => true) true Tryd.f15.params.toList args.toList ds p := hA0
  rw [Tryd.params15] at hA hval
  clear hA0
  obtain ⟨v0, vs0, d0, ds0, p0, q0, hargs, rfl, rfl, h0, r0⟩ := trodAll_cons hA
  obtain ⟨v1, vs1, d1, ds1, p1, q1, rfl, rfl, rfl, h1, r1⟩ := trodAll_cons r0
  obtain ⟨rfl, rfl, rfl⟩ := trodAll_nil r1
  obtain rfl : args = #[v0, v1] := by cases args; simp_all
  obtain ⟨z0, z1, z2, z3, z4, z5, z6, rfl⟩ := vars_of hV
  obtain ⟨A, c, xs, t, x, d, rfl, hm, hS, hF, ht, hx, hd⟩ := open_house (hval 0 54 v0 rfl rfl) h0
  obtain ⟨A', c', rs, rfl, hm', hS'⟩ := intS.open_many (hval 1 22 v1 rfl rfl) h1
  have hw : Calls Tryd.prog 15 #[houV (.slice A xs.length c) t x d, .slice A' rs.length c'] W fun o w' => o = .returned (.bool true) ∧ Below W.heap.size W w' := by
    unfold maxLen at hm hm'
    by_cases hbig : xs.length ≤ 1048576
    · exact walk_fits A xs.length c xs t x d rfl hbig hF ht hx hd A' rs.length c' rs rfl (by omega) W ee hE hS hS'
    · exact walk_big A xs.length c t x d (by omega) (by omega) A' rs.length c' W
  refine hw.mono fun e W' ⟨he, hb⟩ => ?_
  subst he
  exact ⟨_, rfl, close_vars laidOut readables (by kernel_rfl) Tryd.underlying4 rfl rfl hW' hb⟩

end Go.Proofs.YtdcckdfemelbiaaDoor.lawLastsFor
