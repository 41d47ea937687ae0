/-
  THE LAW FnExactNewHouse: for every list of up to 1048576 numbers, every tub and all washing days the law returns true (and for longer lists, as the law itself says): the program answers as the model does, changes no number, and its house shares no memory. No condition but that the package's errors are what the program's text lays.
-/
import Derived.Test.YtfnlgpnocodonaaDoorJoin23
import Derived.Test.YtfnlgpnocodonaaDoorIntOpen
import Derived.Test.YtfnlgpnocodonaaDoorClose
import Derived.Test.YtfnlgpnocodonaaDoorLaid
import Derived.Test.YtfnlgpnocodonaaDoorCards
import Derived.Test.YtfnlgpnocodonaaDoorTie
namespace Go.Proofs.YtfnlgpnocodonaaDoor.lawNewHouse
open Go.ChangeShapes Go.WideShapes Go.ChangeAt Go.RowKit Go.Joins sl errs stk row hou

theorem newK_len (cs : List Int) (t x : Int) : (newK cs t x).length ≤ 4 := by
  unfold newK
  split
  · rename_i h
    have := (codeN_zero h).1
    simp; omega
  · simp
set_option maxRecDepth 100000 in
set_option maxHeartbeats 8000000 in
theorem walk_fits (A : Option Addr) (n c : Nat) (cs : List Int) (t x : Int) (en : n = cs.length) (hn : n ≤ 1048576) (w : World) (e : Nat → Addr) (hE : Errs w w.heap.size e) (hg : Sl intS.C 1 w w.heap.size A cs) :
    Calls Tryd.prog 5 #[.slice A n c, .int .i64 t, .int .i64 x] w fun o w' => o = .returned (.bool true) ∧ Below w.heap.size w w' := by
  have En := Lib.hid en
  have HE := Lib.hid hE
  obtain ⟨ks, hks⟩ : ∃ q, newK cs t x = q := ⟨_, rfl⟩
  obtain ⟨t1, ht1⟩ : ∃ q, newN cs t x t = q := ⟨_, rfl⟩
  obtain ⟨x1, hx1⟩ : ∃ q, newN cs t x x = q := ⟨_, rfl⟩
  obtain ⟨code, hcode⟩ : ∃ q, codeN cs t x = q := ⟨_, rfl⟩
  have hm4 := newK_len cs t x
  rw [hks] at hm4
  have HM4 := Lib.hid hm4
  have HR := Lib.hid (And.intro hks (And.intro ht1 (And.intro hx1 hcode)))
  clear en hE hks ht1 hx1 hcode hm4
  go_enter Tryd.func5, Tryd.ntmps5
  go_wp2_with fail
  refine (intS.toS_any A n c cs En.out hn _ hg).mono ?_
  rintro o w1 ⟨g1, rfl, hP, hb⟩
  have S1 := Lib.hid (Sl.of_owns hP (intS.len cs) (by decide))
  have B1 := Lib.hid hb
  clear hP hb
  go_wp2_with fail
  refine (NewHouse_spec (some ⟨g1, 0, none⟩) n n cs En.out hn t x _ S1.out).mono ?_
  rintro o w2 ⟨vw, rfl, hK, hb⟩
  rw [HR.out.1] at hK
  rw [HR.out.2.1, HR.out.2.2.1, HR.out.2.2.2]
  have B2 := Lib.hid (below_next B1.out hb (Nat.le_refl _))
  obtain ⟨Aw, cw, rfl, _⟩ := owns_slice hK.o
  obtain ⟨m, hm⟩ : ∃ m, m = ks.length := ⟨_, rfl⟩
  have HM := Lib.hid hm
  rw [← hm] at hK ⊢
  obtain ⟨w3, hw3⟩ : ∃ w3, w3 = w2.alloc (.cells #[.slice Aw m cw, .int .i16 t1, .int .i8 x1, .int .i16 0] 31) := ⟨_, rfl⟩
  have V3 : Hid (HV w3 w1.heap.size w2.heap.size (.slice Aw m cw) t1 x1 0 ks) := Lib.hid (by rw [hw3]; exact HV.new hK t1 x1 0 _)
  have B3 : Hid (Below w.heap.size w w3) := Lib.hid (by rw [hw3]; exact B2.out.alloc B2.out.size _)
  have HW3 := Lib.hid hw3
  have Z2 : Hid (w2.heap.size < w3.heap.size) := Lib.hid V3.out.h.lt
  have hvw : ∀ q, (Value.slice Aw m cw).ownBlock = some q → q < w2.heap.size := fun q hq => (hK.o.lt q hq).2
  have HVW := Lib.hid hvw
  clear hK hb hw3 hm S1 hvw
  go_wp2_with fail
  rw [← HW3.out]
  refine (intS.toS_any A n c cs En.out hn _ ((hg.below B3.out).more B3.out.size)).mono ?_
  rintro o w4 ⟨g4, rfl, hP, hb⟩
  have V4 := Lib.hid (V3.out.next hb)
  have B4 := Lib.hid (below_next B3.out hb (Nat.le_refl _))
  have X4 := Lib.hid hP
  have Z4 : Hid (w3.heap.size ≤ g4 ∧ g4 < w4.heap.size) := Lib.hid (hP.lt g4 rfl)
  clear hP hb V3 HW3 B2 B1
  go_wp2_with fail
  refine (NewHouse_any (some ⟨g4, 0, none⟩) n n cs En.out hn t x (HE.out.below B4.out) B4.out.size (Sl.of_owns X4.out (intS.len cs) (by decide))).mono ?_
  rintro o w5 ⟨vg, rfl, hK, hb⟩
  rw [HR.out.1] at hK
  rw [HR.out.2.1, HR.out.2.2.1, HR.out.2.2.2]
  have V5 := Lib.hid (V4.out.next hb)
  have B5 := Lib.hid (below_next B4.out hb (Nat.le_refl _))
  have X5 := Lib.hid (owns_next X4.out hb)
  obtain ⟨Ag, cg, rfl, _⟩ := owns_slice hK.o
  rw [← HM.out] at hK ⊢
  obtain ⟨w6, hw6⟩ : ∃ w6, w6 = w5.alloc (.cells #[.slice Ag m cg, .int .i16 t1, .int .i8 x1, .int .i16 0] 31) := ⟨_, rfl⟩
  have hb6 : Below w5.heap.size w5 w6 := by rw [hw6]; exact (Below.refl _ _).alloc (Nat.le_refl _) _
  have G6 : Hid (HV w6 w4.heap.size w5.heap.size (.slice Ag m cg) t1 x1 0 ks) := Lib.hid (by rw [hw6]; exact HV.new hK t1 x1 0 _)
  have V6 := Lib.hid (V5.out.next hb6)
  have B6 := Lib.hid (below_next B5.out hb6 (Nat.le_refl _))
  have X6 := Lib.hid (owns_next X5.out hb6)
  have HW6 := Lib.hid hw6
  have Z5 : Hid (w4.heap.size ≤ w5.heap.size) := Lib.hid hb.size
  have hvg : ∀ q, (Value.slice Ag m cg).ownBlock = some q → w4.heap.size ≤ q ∧ q < w5.heap.size := fun q hq => hK.o.lt q hq
  have HVG := Lib.hid hvg
  have v0 := V6.out.h.c0
  have v1 := V6.out.h.c1
  have v2 := V6.out.h.c2
  have v3 := V6.out.h.c3
  have k0 := G6.out.h.c0
  have k1 := G6.out.h.c1
  have k2 := G6.out.h.c2
  have k3 := G6.out.h.c3
  rw [hw6] at v0 v1 v2 v3 k0 k1 k2 k3
  clear hK hb hb6 hw6 hvg V5 V4 B5 B4 X5 X4
  go_wp2_with fail
  rw [← HW6.out]
  refine (eqHouse_same G6.out.k V6.out.k (by have := HM4.out; omega)).mono ?_
  rintro o w7 ⟨rfl, hb⟩
  have V7 := Lib.hid (V6.out.next hb)
  have G7 := Lib.hid (G6.out.next hb)
  have X7 := Lib.hid (owns_next X6.out hb)
  have B7 := Lib.hid (below_next B6.out hb (Nat.le_refl _))
  clear hb V6 G6 X6 B6 HW6 v0 v1 v2 v3 k0 k1 k2 k3
  go_wp2_with fail
  refine (intS.toS_any A n c cs En.out hn _ ((hg.below B7.out).more B7.out.size)).mono ?_
  rintro o w8 ⟨g8, rfl, hP, hb⟩
  have S8 := Lib.hid (Sl.of_owns hP (intS.len cs) (by decide))
  have V8 := Lib.hid (V7.out.next hb)
  have G8 := Lib.hid (G7.out.next hb)
  have X8 := Lib.hid (owns_next X7.out hb)
  have B8 := Lib.hid (below_next B7.out hb (Nat.le_refl _))
  clear hP hb V7 G7 X7 B7
  go_wp2_with fail
  refine (intS.eqS_any (some ⟨g4, 0, none⟩) (some ⟨g8, 0, none⟩) n n n n cs cs En.out En.out hn (by omega) _ (Sl.of_owns X8.out (intS.len cs) (by decide)) S8.out true (iff_of_true rfl rfl)).mono ?_
  rintro o w9 ⟨rfl, hb⟩
  have V9 := Lib.hid (V8.out.next hb)
  have G9 := Lib.hid (G8.out.next hb)
  have X9 := Lib.hid (owns_next X8.out hb)
  have B9 := Lib.hid (below_next B8.out hb (Nat.le_refl _))
  clear hb V8 G8 X8 B8 S8
  go_wp2_with fail
  refine (intS.markS_any _ _ n 1 (by omega) hn _ _ X9.out).mono ?_
  rintro o w10 ⟨rfl, hX, g10, hg10, hgr, hor⟩
  obtain rfl : g4 = g10 := by
    rcases hor with h | h
    · cases h
    · exact Option.some.inj h
  have hsame : ∀ b, b < w9.heap.size → b ≠ g4 → w10.heap[b]? = w9.heap[b]? := fun b hb hne => hgr.block b hb (fun e => hne (Option.some.inj e))
  have V10 := Lib.hid (V9.out.same hgr.size (hsame _ V9.out.h.lt (by have := Z4.out; have := Z2.out; omega)) fun q hq => hsame q ((V9.out.k.o.lt q hq).2) (by have := HVW.out q hq; have := Z4.out; have := Z2.out; omega))
  have G10 := Lib.hid (G9.out.same hgr.size (hsame _ G9.out.h.lt (by have := Z4.out; have := Z5.out; omega)) fun q hq => hsame q ((G9.out.k.o.lt q hq).2) (by have := HVG.out q hq; have := Z4.out; omega))
  have B10 := Lib.hid (B9.out.grown hgr B9.out.size (fun q hq => by have := Option.some.inj hq; have := Z4.out; have := B3.out.size; omega))
  have v0 := V10.out.h.c0
  have v1 := V10.out.h.c1
  have v2 := V10.out.h.c2
  have v3 := V10.out.h.c3
  have k0 := G10.out.h.c0
  have k1 := G10.out.h.c1
  have k2 := G10.out.h.c2
  have k3 := G10.out.h.c3
  clear hX hgr hor hsame hg10 V9 G9 X9 B9
  go_wp2_with fail
  refine (eqHouse_same G10.out.k V10.out.k (by have := HM4.out; omega)).mono ?_
  rintro o w11 ⟨rfl, hb⟩
  have V11 := Lib.hid (V10.out.next hb)
  have G11 := Lib.hid (G10.out.next hb)
  have B11 := Lib.hid (below_next B10.out hb (Nat.le_refl _))
  clear hb V10 G10 B10 v0 v1 v2 v3 k0 k1 k2 k3
  have k0 := G11.out.h.c0
  have k1 := G11.out.h.c1
  have k2 := G11.out.h.c2
  have k3 := G11.out.h.c3
  go_wp2_with fail
  refine (markHouse_any G11.out.k (by have := G11.out.h.lt; have := Z5.out; omega) t1 x1 0 1 (by omega) (by have := HM4.out; omega)).mono ?_
  rintro o w12 ⟨rfl, hK, hb, hsame⟩
  rw [← HM.out] at hK ⊢
  have V12 := Lib.hid (V11.out.same (by have := hb.size; omega) (hsame _ V11.out.h.lt (fun h => by have := HVG.out _ h; have := Z2.out; have := Z4.out; omega)) fun q hq => hsame q ((V11.out.k.o.lt q hq).2) (fun h => by have := HVG.out _ h; have := HVW.out q hq; have := Z2.out; have := Z4.out; omega))
  have GH12 := Lib.hid (G11.out.h.same (by have := hb.size; omega) (hsame _ G11.out.h.lt (fun h => by have := HVG.out _ h; omega)))
  have GK12 := Lib.hid hK
  have B12 := Lib.hid (B11.out.trans (hb.mono (by have := B3.out.size; have := Z4.out; omega)))
  clear hK hb hsame V11 G11 B11 k0 k1 k2 k3
  have k0 := GH12.out.c0
  have k1 := GH12.out.c1
  have k2 := GH12.out.c2
  have k3 := GH12.out.c3
  go_wp2_with fail
  refine (heldHouse_any GK12.out t1 x1 0 (by omega) (by have := HM4.out; have := HM.out; omega)).mono ?_
  rintro o w13 ⟨rfl, hb⟩
  have V13 := Lib.hid (V12.out.next hb)
  have GH13 := Lib.hid (GH12.out.next hb)
  have GK13 := Lib.hid (GK12.out.next hb)
  have B13 := Lib.hid (below_next B12.out hb (Nat.le_refl _))
  obtain ⟨kk, hkk⟩ : ∃ kk, kk = 1 + 25 * (m : Int) := ⟨_, rfl⟩
  have HKK := Lib.hid hkk
  have hpos : ¬ kk < 0 := by omega
  rw [← hkk]
  clear hb hkk V12 GH12 GK12 B12 k0 k1 k2 k3
  go_wp2_with fail
  refine (intS.toS_any A n c cs En.out hn _ ((hg.below B13.out).more B13.out.size)).mono ?_
  rintro o w14 ⟨g14, rfl, hP, hb⟩
  have S14 := Lib.hid (Sl.of_owns hP (intS.len cs) (by decide))
  have V14 := Lib.hid (V13.out.next hb)
  have GH14 := Lib.hid (GH13.out.next hb)
  have GK14 := Lib.hid (GK13.out.next hb)
  have B14 := Lib.hid (below_next B13.out hb (Nat.le_refl _))
  clear hP hb V13 GH13 GK13 B13
  go_wp2_with fail
  refine (NewHouse_any (some ⟨g14, 0, none⟩) n n cs En.out hn t x (HE.out.below B14.out) B14.out.size S14.out).mono ?_
  rintro o w15 ⟨vh, rfl, hK, hb⟩
  rw [HR.out.1] at hK
  rw [HR.out.2.1, HR.out.2.2.1, HR.out.2.2.2]
  obtain ⟨Ah, ch, rfl, _⟩ := owns_slice hK.o
  rw [← HM.out] at hK ⊢
  obtain ⟨w16, hw16⟩ : ∃ w, w = w15.alloc (.cells #[.slice Ah m ch, .int .i16 t1, .int .i8 x1, .int .i16 0] 31) := ⟨_, rfl⟩
  have hb16 : Below w15.heap.size w15 w16 := by rw [hw16]; exact (Below.refl _ _).alloc (Nat.le_refl _) _
  have N16 : Hid (HV w16 w14.heap.size w15.heap.size (.slice Ah m ch) t1 x1 0 ks) := Lib.hid (by rw [hw16]; exact HV.new hK t1 x1 0 _)
  have V16 := Lib.hid ((V14.out.next hb).next hb16)
  have GH16 := Lib.hid ((GH14.out.next hb).next hb16)
  have GK16 := Lib.hid ((GK14.out.next hb).next hb16)
  have B16 := Lib.hid (below_next (below_next B14.out hb (Nat.le_refl _)) hb16 (Nat.le_refl _))
  have HW16 := Lib.hid hw16
  have v0 := V16.out.h.c0
  have v1 := V16.out.h.c1
  have v2 := V16.out.h.c2
  have v3 := V16.out.h.c3
  have k0 := N16.out.h.c0
  have k1 := N16.out.h.c1
  have k2 := N16.out.h.c2
  have k3 := N16.out.h.c3
  rw [hw16] at v0 v1 v2 v3 k0 k1 k2 k3
  clear hK hb hb16 hw16 V14 GH14 GK14 B14 S14
  go_wp2_with fail
  rw [← HW16.out]
  refine (eqHouse_same N16.out.k V16.out.k (by have := HM4.out; omega)).mono ?_
  rintro o w17 ⟨rfl, hb⟩
  have GH17 := Lib.hid (GH16.out.next hb)
  have GK17 := Lib.hid (GK16.out.next hb)
  have B17 := Lib.hid (below_next B16.out hb (Nat.le_refl _))
  clear hb V16 N16 GH16 GK16 B16 HW16 v0 v1 v2 v3 k0 k1 k2 k3
  have k0 := GH17.out.c0
  have k1 := GH17.out.c1
  have k2 := GH17.out.c2
  have k3 := GH17.out.c3
  go_wp2_with fail
  refine (heldHouse_any GK17.out t1 x1 0 (by omega) (by have := HM4.out; have := HM.out; omega)).mono ?_
  rintro o w18 ⟨rfl, hb⟩
  have B18 := Lib.hid (below_next B17.out hb (Nat.le_refl _))
  rw [← HKK.out]
  clear hb GH17 GK17 B17 k0 k1 k2 k3
  go_wp2_with fail
  go_ret
  exact ⟨rfl, B18.out⟩
theorem walk_big (A : Option Addr) (n c : Nat) (t x : Int) (hn : 1048576 < n) (hm : n ≤ 9223372036854775807) (w : World) :
    Calls Tryd.prog 5 #[.slice A n c, .int .i64 t, .int .i64 x] w fun o w' => o = .returned (.bool true) ∧ Below w.heap.size w w' := by
  go_enter Tryd.func5, Tryd.ntmps5
  go_wp2_with fail
  go_ret
  exact ⟨rfl, Below.refl _ _⟩

theorem readables : ∀ t ∈ Tryd.f5.params.toList, Tryd.prog.readableRec t = true ∧ t < Tryd.prog.types.size := by
  rw [Tryd.params5]
  intro t ht
  simp only [List.mem_cons, List.not_mem_nil, or_false] at ht
  rcases ht with rfl | rfl | rfl
  all_goals exact ⟨by kernel_rfl, of_decide_eq_true (by kernel_rfl)⟩

set_option maxRecDepth 100000 in
/-- what the row's list gives -/
theorem errsLaid {W : World} (h : laidMetH Tryd.prog Rows.fnExactNewHouseRow.laid W) : ∃ e, Errs W W.heap.size e := by
  rw [MakeChecks.laidMetH_plain _ _ _ (by kernel_rfl)] at h
  refine errs_of Rows.fnExactNewHouseRow.laid (fun i => i) h (by kernel_rfl) ?_ ?_ (fun i j _ _ h => h)
  · have hall : ((listOf Rows.fnExactNewHouseRow.laid).all fun x => match Tryd.prog.globalNamed x.1 with | some g => decide ((Tryd.prog.globals[g]?).map (·.type) = some 77) | none => false) = true := by kernel_rfl
    intro x hx
    have h1 := List.all_eq_true.1 hall x hx
    split at h1
    · rename_i g hg
      exact ⟨g, hg, of_decide_eq_true h1⟩
    · cases h1
  · have b0 : ((listOf Rows.fnExactNewHouseRow.laid)[0]?).bind (fun x => Tryd.prog.globalNamed x.1) = some (gvar 0) := by kernel_rfl
    have b1 : ((listOf Rows.fnExactNewHouseRow.laid)[1]?).bind (fun x => Tryd.prog.globalNamed x.1) = some (gvar 1) := by kernel_rfl
    have b2 : ((listOf Rows.fnExactNewHouseRow.laid)[2]?).bind (fun x => Tryd.prog.globalNamed x.1) = some (gvar 2) := by kernel_rfl
    have b3 : ((listOf Rows.fnExactNewHouseRow.laid)[3]?).bind (fun x => Tryd.prog.globalNamed x.1) = some (gvar 3) := by kernel_rfl
    have b4 : ((listOf Rows.fnExactNewHouseRow.laid)[4]?).bind (fun x => Tryd.prog.globalNamed x.1) = some (gvar 4) := by kernel_rfl
    have b5 : ((listOf Rows.fnExactNewHouseRow.laid)[5]?).bind (fun x => Tryd.prog.globalNamed x.1) = some (gvar 5) := by kernel_rfl
    have b6 : ((listOf Rows.fnExactNewHouseRow.laid)[6]?).bind (fun x => Tryd.prog.globalNamed x.1) = some (gvar 6) := by kernel_rfl
    intro i hi
    match i, hi with
    | 0, _ => exact b0
    | 1, _ => exact b1
    | 2, _ => exact b2
    | 3, _ => exact b3
    | 4, _ => exact b4
    | 5, _ => exact b5
    | 6, _ => exact b6

set_option maxRecDepth 100000 in
theorem contract (H : Type) (enc : TypeId × Value → H) (W : World) (base : Nat) (args : Array Value) (ds gs : List (DataW H)) (before : List MemPlace)
    (hval : ∀ (j : Nat) t v, Tryd.f5.params[j]? = some t → args[j]? = some v → Value.okWide Tryd.prog W .any base t v)
    (hW : DataW.Whole enc Tryd.prog Tryd.f5.params.toList Rows.fnExactNewHouseSpec.vars false W args.toList ds gs before) (hL : laidMetH Tryd.prog Rows.fnExactNewHouseRow.laid W) :
    Calls Tryd.prog 5 args W fun e W' => ∃ v, e = .returned v ∧ Rows.fnExactNewHouseSpec.post enc Tryd.prog Tryd.f5 false true false false W args v W' := by
  obtain ⟨ee, hE⟩ := errsLaid hL
  have hW' := hW
  obtain ⟨p, q, hA0, hV, rfl, hfz, hnd⟩ := hW
  have hA : DataW.TrodAll enc Tryd.prog W 0 (fun _ => true) true Tryd.f5.params.toList args.toList ds p := hA0
  rw [Tryd.params5] at hA hval
  clear hA0
  obtain ⟨v0, vs0, d0, ds0, p0, q0, hargs, rfl, rfl, h0, r0⟩ := trodAll_cons hA
  obtain ⟨v1, vs1, d1, ds1, p1, q1, rfl, rfl, rfl, h1, r1⟩ := trodAll_cons r0
  obtain ⟨v2, vs2, d2, ds2, p2, q2, rfl, rfl, rfl, h2, r2⟩ := trodAll_cons r1
  obtain ⟨rfl, rfl, rfl⟩ := trodAll_nil r2
  obtain rfl : args = #[v0, v1, v2] := by cases args; simp_all
  obtain ⟨z0, z1, z2, z3, z4, z5, z6, rfl⟩ := vars_of hV
  obtain ⟨A, c, xs, rfl, hm, hS⟩ := intS.open_many (hval 0 43 v0 rfl rfl) h0
  obtain ⟨t, rfl, rfl, rfl, _⟩ := open_int Tryd.underlying2 (hval 1 2 v1 rfl rfl) h1
  obtain ⟨x, rfl, rfl, rfl, _⟩ := open_int Tryd.underlying2 (hval 2 2 v2 rfl rfl) h2
  have hw : Calls Tryd.prog 5 #[.slice A xs.length c, .int .i64 t, .int .i64 x] W fun o w' => o = .returned (.bool true) ∧ Below W.heap.size W w' := by
    by_cases hbig : xs.length ≤ 1048576
    · exact walk_fits A xs.length c xs t x rfl hbig W ee hE hS
    · exact walk_big A xs.length c t x (by omega) (by unfold maxLen at hm; omega) W
  refine hw.mono fun e W' ⟨he, hb⟩ => ?_
  subst he
  exact ⟨_, rfl, close_vars laidOut readables (by kernel_rfl) Tryd.underlying4 rfl rfl hW' hb⟩

end Go.Proofs.YtfnlgpnocodonaaDoor.lawNewHouse
