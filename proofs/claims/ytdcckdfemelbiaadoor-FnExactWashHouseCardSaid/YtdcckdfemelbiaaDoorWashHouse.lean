/-
  THE LAW FnExactWashHouse: for every house of up to 1048576 kinds the law returns true (and for greater ones, as the law itself says): the program answers as the model does, changes no stock of the given house, and its house shares no memory. No condition but that the package's errors are what the program's text lays.
-/
import Derived.Test.YtdcckdfemelbiaaDoorJoin26
import Derived.Test.YtdcckdfemelbiaaDoorHouOpen
import Derived.Test.YtdcckdfemelbiaaDoorClose
import Derived.Test.YtdcckdfemelbiaaDoorLaid
import Derived.Test.YtdcckdfemelbiaaDoorCards
import Derived.Test.YtdcckdfemelbiaaDoorTie
namespace Go.Proofs.YtdcckdfemelbiaaDoor.lawWashHouse
open Go.ChangeShapes Go.WideShapes Go.ChangeAt Go.RowKit Go.Joins sl errs stk row hou

theorem wasK_len (xs : List Stk) (t x d : Int) : (wasK xs t x d).length ≤ 4 := by
  unfold wasK
  split
  · rename_i h
    rw [washS_len]
    have := (codeO_zero h).1
    omega
  · simp
/-- what the law keeps while it looks at what was given -/
structure LA (w : World) (A : Option Addr) (n c : Nat) (xs : List Stk) (t x d : Int) (bx sx : Nat) (X : Value) (bv sv bg sg : Nat) (V G : Value) (t1 x1 d1 : Int) (ks : List Stk) (u : World) : Prop where
  a : HouAt u w.heap.size (.slice A n c) t x d
  x : HV u sx bx X t x d xs
  v : HV u sv bv V t1 x1 d1 ks
  g : HV u sg bg G t1 x1 d1 ks
  b : Below w.heap.size w u
theorem LA.next {w : World} {A : Option Addr} {n c : Nat} {xs : List Stk} {t x d : Int} {bx sx : Nat} {X : Value} {bv sv bg sg : Nat} {V G : Value} {t1 x1 d1 : Int} {ks : List Stk} {u u' : World} (h : LA w A n c xs t x d bx sx X bv sv bg sg V G t1 x1 d1 ks u) (hb : Below u.heap.size u u') : LA w A n c xs t x d bx sx X bv sv bg sg V G t1 x1 d1 ks u' :=
  ⟨h.a.next hb, h.x.next hb, h.v.next hb, h.g.next hb, below_next h.b hb (Nat.le_refl _)⟩
set_option maxRecDepth 100000 in
set_option maxHeartbeats 8000000 in
theorem walk_fits (A : Option Addr) (n c : Nat) (xs : List Stk) (t x d : Int) (en : n = xs.length) (hn : n ≤ 1048576) (hf : ∀ x ∈ xs, Fits x) (ht : -32768 ≤ t ∧ t ≤ 32767) (hx : -128 ≤ x ∧ x ≤ 127) (hd : -32768 ≤ d ∧ d ≤ 32767) (w : World) (e : Nat → Addr) (hE : Errs w w.heap.size e) (hg : Sl stkC 25 w w.heap.size A xs) :
    Calls Tryd.prog 9 #[houV (.slice A n c) t x d] w fun o w' => o = .returned (.bool true) ∧ Below w.heap.size w w' := by
  have En := Lib.hid en
  have HE := Lib.hid hE
  have HA0 := Lib.hid (HouAt.new w (.slice A n c) t x d 54)
  have B0 := Lib.hid ((Below.refl w.heap.size w).alloc (Nat.le_refl _) (.cells #[.slice A n c, .int .i16 t, .int .i8 x, .int .i16 d] 54))
  have HLE : Hid (xs.length ≤ 1048576) := Lib.hid (by omega)
  have HF := Lib.hid hf
  have HT := Lib.hid ht
  have HX := Lib.hid hx
  have HD := Lib.hid hd
  have HN := Lib.hid hn
  have HG := Lib.hid hg
  obtain ⟨ks, hks⟩ : ∃ q, wasK xs t x d = q := ⟨_, rfl⟩
  obtain ⟨t1, ht1⟩ : ∃ q, wasN xs t x d t = q := ⟨_, rfl⟩
  obtain ⟨x1, hx1⟩ : ∃ q, wasN xs t x d x = q := ⟨_, rfl⟩
  obtain ⟨d1, hd1⟩ : ∃ q, wasN xs t x d d = q := ⟨_, rfl⟩
  obtain ⟨y1, hy1⟩ : ∃ q, wasC xs t x d = q := ⟨_, rfl⟩
  obtain ⟨code, hcode⟩ : ∃ q, codeO xs t x d = q := ⟨_, rfl⟩
  have hm4 := wasK_len xs t x d
  rw [hks] at hm4
  have HM4 := Lib.hid hm4
  have HR := Lib.hid (And.intro hks (And.intro ht1 (And.intro hx1 (And.intro hd1 (And.intro hy1 hcode)))))
  obtain ⟨m, hm⟩ : ∃ m, m = ks.length := ⟨_, rfl⟩
  have HM := Lib.hid hm
  clear en hE hks ht1 hx1 hd1 hy1 hcode hm4 hf ht hx hd hn hg hm
  go_enter Tryd.func9, Tryd.ntmps9
  go_wp2_with fail
  refine (szHouse_any A n c t x d 1048576 (by have := HN.out; omega) (by omega) _).mono ?_
  rintro o w1 ⟨rfl, hb⟩
  rw [if_neg (by have := HN.out; omega)]
  have HA1 := Lib.hid (HA0.out.next hb)
  have HB1 := Lib.hid (below_next B0.out hb (by simp))
  have a0 := HA1.out.c0
  have a1 := HA1.out.c1
  have a2 := HA1.out.c2
  have a3 := HA1.out.c3
  have hn0 := HN.out
  clear hb HA0 B0
  go_wp2_with fail
  clear hn0
  have h1 := toHouse_any A c xs t x d HLE.out _ ((HG.out.below HB1.out).more HB1.out.size)
  rw [← En.out] at h1
  refine h1.mono ?_
  clear h1
  rintro o w2 ⟨g2, rfl, hP, hb⟩
  have S2 := Lib.hid (Sl.of_owns hP (stkC_len xs) (by decide))
  have HA2 := Lib.hid (HA1.out.next hb)
  have HB2 := Lib.hid (below_next HB1.out hb (Nat.le_refl _))
  clear hb hP a0 a1 a2 a3 HA1 HB1
  go_wp2_with fail
  refine (WashHouse_spec g2 n n xs t x d En.out HN.out HF.out HT.out HX.out HD.out _ S2.out).mono ?_
  rintro o w3 ⟨vw, rfl, hK, hb⟩
  rw [HR.out.1] at hK
  rw [HR.out.2.1, HR.out.2.2.1, HR.out.2.2.2.1, HR.out.2.2.2.2.1, HR.out.2.2.2.2.2]
  obtain ⟨Aw, cw, rfl, _⟩ := owns_slice hK.o
  rw [← HM.out] at hK ⊢
  obtain ⟨w4, hw4⟩ : ∃ u, u = w3.alloc (.cells #[.slice Aw m cw, .int .i16 t1, .int .i8 x1, .int .i16 d1] 58) := ⟨_, rfl⟩
  have hb4 : Below w3.heap.size w3 w4 := by rw [hw4]; exact (Below.refl _ _).alloc (Nat.le_refl _) _
  have V4 : Hid (HV w4 w2.heap.size w3.heap.size (.slice Aw m cw) t1 x1 d1 ks) := Lib.hid (by rw [hw4]; exact HV.new hK t1 x1 d1 _)
  have HA4 := Lib.hid ((HA2.out.next hb).next hb4)
  have HB4 := Lib.hid (below_next (below_next HB2.out hb (Nat.le_refl _)) hb4 (Nat.le_refl _))
  have HW4 := Lib.hid hw4
  have HVW : Hid (∀ q, (Value.slice Aw m cw).ownBlock = some q → w2.heap.size ≤ q ∧ q < w3.heap.size) := Lib.hid fun q hq => hK.o.lt q hq
  have Z4 : Hid (w.heap.size < w2.heap.size ∧ w2.heap.size ≤ w3.heap.size ∧ w3.heap.size < w4.heap.size) := Lib.hid ⟨HA2.out.lt, hb.size, V4.out.h.lt⟩
  have a0 := HA4.out.c0
  have a1 := HA4.out.c1
  have a2 := HA4.out.c2
  have a3 := HA4.out.c3
  rw [hw4] at a0 a1 a2 a3
  clear hK hb hb4 hw4 S2 HA2 HB2
  go_wp2_with fail
  rw [← HW4.out]
  have h1 := toHouse_any A c xs t x d HLE.out _ ((HG.out.below HB4.out).more HB4.out.size)
  rw [← En.out] at h1
  refine h1.mono ?_
  clear h1
  rintro o w5 ⟨g5, rfl, hP, hb⟩
  obtain ⟨w6, hw6⟩ : ∃ u, u = w5.alloc (.cells #[.slice (some ⟨g5, 0, none⟩) n n, .int .i16 t, .int .i8 x, .int .i16 d] 58) := ⟨_, rfl⟩
  have hb6 : Below w5.heap.size w5 w6 := by rw [hw6]; exact (Below.refl _ _).alloc (Nat.le_refl _) _
  have hK : KO w5 w4.heap.size (.slice (some ⟨g5, 0, none⟩) n n) xs := ⟨by rw [← En.out]; exact hP⟩
  have X6 : Hid (HV w6 w4.heap.size w5.heap.size (.slice (some ⟨g5, 0, none⟩) n n) t x d xs) := Lib.hid (by rw [hw6]; exact HV.new hK t x d _)
  have V6 := Lib.hid ((V4.out.next hb).next hb6)
  have HA6 := Lib.hid ((HA4.out.next hb).next hb6)
  have HB6 := Lib.hid (below_next (below_next HB4.out hb (Nat.le_refl _)) hb6 (Nat.le_refl _))
  have S6 := Lib.hid ((Sl.of_owns hP (stkC_len xs) (by decide)).next hb6)
  have HW6 := Lib.hid hw6
  have HVX : Hid (∀ q, (Value.slice (some ⟨g5, 0, none⟩) n n).ownBlock = some q → w4.heap.size ≤ q ∧ q < w5.heap.size) := Lib.hid fun q hq => hK.o.lt q hq
  have Z6 : Hid (w4.heap.size ≤ w5.heap.size ∧ w5.heap.size < w6.heap.size) := Lib.hid ⟨hb.size, X6.out.h.lt⟩
  clear hK hP hb hb6 hw6 a0 a1 a2 a3 V4 HA4 HB4 HW4
  go_wp2_with fail
  rw [← HW6.out]
  refine (WashHouse_any (some ⟨g5, 0, none⟩) n n xs t x d En.out HN.out (Nat.le_refl _) (by have := HN.out; unfold maxLen; omega) HF.out HT.out HX.out HD.out (HE.out.below HB6.out) HB6.out.size S6.out).mono ?_
  rintro o w7 ⟨vg, rfl, hK, hb⟩
  rw [HR.out.1] at hK
  rw [HR.out.2.1, HR.out.2.2.1, HR.out.2.2.2.1, HR.out.2.2.2.2.1, HR.out.2.2.2.2.2]
  obtain ⟨Ag, cg, rfl, _⟩ := owns_slice hK.o
  rw [← HM.out] at hK ⊢
  obtain ⟨w8, hw8⟩ : ∃ u, u = w7.alloc (.cells #[.slice Ag m cg, .int .i16 t1, .int .i8 x1, .int .i16 d1] 58) := ⟨_, rfl⟩
  have hb8 : Below w7.heap.size w7 w8 := by rw [hw8]; exact (Below.refl _ _).alloc (Nat.le_refl _) _
  have G8 : Hid (HV w8 w6.heap.size w7.heap.size (.slice Ag m cg) t1 x1 d1 ks) := Lib.hid (by rw [hw8]; exact HV.new hK t1 x1 d1 _)
  have L8 : Hid (LA w A n c xs t x d w5.heap.size w4.heap.size (.slice (some ⟨g5, 0, none⟩) n n) w3.heap.size w2.heap.size w7.heap.size w6.heap.size (.slice Aw m cw) (.slice Ag m cg) t1 x1 d1 ks w8) := Lib.hid ⟨(HA6.out.next hb).next hb8, (X6.out.next hb).next hb8, (V6.out.next hb).next hb8, G8.out, below_next (below_next HB6.out hb (Nat.le_refl _)) hb8 (Nat.le_refl _)⟩
  have HW8 := Lib.hid hw8
  have HVG : Hid (∀ q, (Value.slice Ag m cg).ownBlock = some q → w6.heap.size ≤ q ∧ q < w7.heap.size) := Lib.hid fun q hq => hK.o.lt q hq
  have Z8 : Hid (w6.heap.size ≤ w7.heap.size ∧ w7.heap.size < w8.heap.size) := Lib.hid ⟨hb.size, G8.out.h.lt⟩
  have v0 := L8.out.v.h.c0
  have v1 := L8.out.v.h.c1
  have v2 := L8.out.v.h.c2
  have v3 := L8.out.v.h.c3
  have k0 := L8.out.g.h.c0
  have k1 := L8.out.g.h.c1
  have k2 := L8.out.g.h.c2
  have k3 := L8.out.g.h.c3
  rw [hw8] at v0 v1 v2 v3 k0 k1 k2 k3
  clear hK hb hb8 hw8 V6 HA6 HB6 HW6 X6 S6 G8
  go_wp2_with fail
  rw [← HW8.out]
  refine (eqHouse_same L8.out.g.k L8.out.v.k (by have := HM4.out; omega)).mono ?_
  rintro o w9 ⟨rfl, hb⟩
  have L9 := Lib.hid ((L8.out.next hb).next (Below.refl _ _).drew)
  clear hb L8 HW8 v0 v1 v2 v3 k0 k1 k2 k3
  go_wp2_with fail
  refine wp_region_held_drew (S := LA w A n c xs t x d w5.heap.size w4.heap.size (.slice (some ⟨g5, 0, none⟩) n n) w3.heap.size w2.heap.size w7.heap.size w6.heap.size (.slice Aw m cw) (.slice Ag m cg) t1 x1 d1 ks) (by kernel_rfl) L9.out (fun hHeld => ?_)
  refine wpAnyH_take (i := 0) (v := houV (.slice (some ⟨g5, 0, none⟩) n n) t x d) rfl (by kernel_rfl) (by kernel_rfl) (by kernel_rfl) (fun _ _ _ h => h) (yieldsIf_load_mid (by rfl) 58 (.tmp 7) rfl w5.heap.size 0 rfl (houL (.slice (some ⟨g5, 0, none⟩) n n) t x d) _ (fun u h => h.x.h.range) Tryd.underlying58 rfl infoH) hHeld ?_
  (try simp only [Act.put, List.getElem_toArray, List.getElem_cons_zero, List.getElem_cons_succ, List.setIfInBounds_toArray, List.set_cons_zero, List.set_cons_succ])
  refine wpAnyH_take (i := 1) (v := houV (.slice A n c) t x d) rfl (by kernel_rfl) (by kernel_rfl) (by kernel_rfl) (fun _ _ _ h => h) (yieldsIf_load_mid (by rfl) 54 (.tmp 1) rfl w.heap.size 0 rfl (houL (.slice A n c) t x d) _ (fun u h => h.a.range) Tryd.underlying54 rfl infoLH) hHeld ?_
  (try simp only [Act.put, List.getElem_toArray, List.getElem_cons_zero, List.getElem_cons_succ, List.setIfInBounds_toArray, List.set_cons_zero, List.set_cons_succ])
  refine wpAnyH_ready (rs := [2]) (by kernel_rfl) (by simp) ?_
  refine AllReadyH.cons rfl (fun K hK => ?_) AllReadyH.nil
  go_simp
  have h1 := toHouse_any A c xs t x d HLE.out _ ((HG.out.below hHeld.b).more hHeld.b.size)
  rw [← En.out] at h1
  refine h1.mono ?_
  clear h1
  rintro o w10 ⟨g10, rfl, hP, hb⟩
  have hS10 := Lib.hid (Sl.of_owns hP (stkC_len xs) (by decide))
  clear hP
  refine hK.out _ _ (hHeld.next hb) (fun hHeld2 => ?_)
  clear hK K hHeld
  have hHeld := hHeld2
  clear hHeld2
  try simp only [Act.put, List.getElem_toArray, List.getElem_cons_zero, List.getElem_cons_succ, List.setIfInBounds_toArray, List.set_cons_zero, List.set_cons_succ]
  clear hb
  refine wpAnyH_ready (rs := [3]) (by kernel_rfl) (by simp) ?_
  refine AllReadyH.cons rfl (fun K hK => ?_) AllReadyH.nil
  go_simp
  have hSX := Lib.hid hHeld.x.k.o
  rw [← En.out] at hSX
  refine (eqHouse_any (some ⟨g5, 0, none⟩) (some ⟨g10, 0, none⟩) n n n n xs xs t x d t x d En.out En.out HN.out (by have := HN.out; omega) _ (Sl.of_owns hSX.out (stkC_len xs) (by decide)) hS10.out true true (iff_of_true rfl (eqL_refl xs)) (by simp)).mono ?_
  rintro o w11 ⟨rfl, hb⟩
  refine hK.out _ _ (hHeld.next hb) (fun hHeld2 => ?_)
  clear hK K hHeld
  have hHeld := hHeld2
  clear hHeld2
  try simp only [Act.put, List.getElem_toArray, List.getElem_cons_zero, List.getElem_cons_succ, List.setIfInBounds_toArray, List.set_cons_zero, List.set_cons_succ]
  refine wpAnyH_ready (rs := [4]) (by kernel_rfl) (by simp) ?_
  refine AllReadyH.cons rfl (fun K hK => ?_) AllReadyH.nil
  go_simp
  refine hK.out _ _ (hHeld) (fun hHeld2 => ?_)
  clear hK K hHeld
  have hHeld := hHeld2
  clear hHeld2
  try simp only [Act.put, List.getElem_toArray, List.getElem_cons_zero, List.getElem_cons_succ, List.setIfInBounds_toArray, List.set_cons_zero, List.set_cons_succ]
  refine wpAnyH_done (by kernel_rfl) ?_ _
  have L11 := Lib.hid hHeld
  clear hHeld hb hSX hS10 L9
  have k0 := L11.out.x.h.c0
  have k1 := L11.out.x.h.c1
  have k2 := L11.out.x.h.c2
  have k3 := L11.out.x.h.c3
  go_wp2_with fail
  have hXK := L11.out.x.k
  refine (markHouse_any hXK (by have := L11.out.x.h.lt; have := Z6.out; omega) t x d 1 (by omega) HLE.out).mono ?_
  rintro o w12 ⟨rfl, hK, hb, hsame⟩
  have V12 := Lib.hid (L11.out.v.same (by have := hb.size; omega) (hsame _ L11.out.v.h.lt (fun h => by have := HVX.out _ h; have := Z4.out; omega)) fun q hq => hsame q ((L11.out.v.k.o.lt q hq).2) (fun h => by have := HVX.out _ h; have := HVW.out q hq; have := Z4.out; omega))
  have G12 := Lib.hid (L11.out.g.same (by have := hb.size; omega) (hsame _ L11.out.g.h.lt (fun h => by have := HVX.out _ h; have := Z6.out; have := Z8.out; omega)) fun q hq => hsame q ((L11.out.g.k.o.lt q hq).2) (fun h => by have := HVX.out _ h; have := HVG.out q hq; have := Z6.out; omega))
  have A12 := Lib.hid (L11.out.a.same (by have := hb.size; omega) (hsame _ L11.out.a.lt (fun h => by have := HVX.out _ h; have := Z4.out; omega)))
  have B12 := Lib.hid (L11.out.b.trans (hb.mono (by have := Z4.out; omega)))
  clear hK hb hsame hXK L11 k0 k1 k2 k3
  have v0 := V12.out.h.c0
  have v1 := V12.out.h.c1
  have v2 := V12.out.h.c2
  have v3 := V12.out.h.c3
  have k0 := G12.out.h.c0
  have k1 := G12.out.h.c1
  have k2 := G12.out.h.c2
  have k3 := G12.out.h.c3
  go_wp2_with fail
  refine (eqHouse_same G12.out.k V12.out.k (by have := HM4.out; omega)).mono ?_
  rintro o w13 ⟨rfl, hb⟩
  have V13 := Lib.hid (V12.out.next hb)
  have G13 := Lib.hid (G12.out.next hb)
  have A13 := Lib.hid (A12.out.next hb)
  have B13 := Lib.hid (below_next B12.out hb (Nat.le_refl _))
  clear hb V12 G12 A12 B12 v0 v1 v2 v3 k0 k1 k2 k3
  have k0 := G13.out.h.c0
  have k1 := G13.out.h.c1
  have k2 := G13.out.h.c2
  have k3 := G13.out.h.c3
  go_wp2_with fail
  refine (markHouse_any G13.out.k (by have := G13.out.h.lt; have := Z8.out; omega) t1 x1 d1 1 (by omega) (by have := HM4.out; omega)).mono ?_
  rintro o w14 ⟨rfl, hK, hb, hsame⟩
  rw [← HM.out] at hK ⊢
  have V14 := Lib.hid (V13.out.same (by have := hb.size; omega) (hsame _ V13.out.h.lt (fun h => by have := HVG.out _ h; have := Z4.out; have := Z6.out; omega)) fun q hq => hsame q ((V13.out.k.o.lt q hq).2) (fun h => by have := HVG.out _ h; have := HVW.out q hq; have := Z4.out; have := Z6.out; omega))
  have A14 := Lib.hid (A13.out.same (by have := hb.size; omega) (hsame _ A13.out.lt (fun h => by have := HVG.out _ h; have := Z4.out; have := Z6.out; omega)))
  have GH14 := Lib.hid (G13.out.h.same (by have := hb.size; omega) (hsame _ G13.out.h.lt (fun h => by have := HVG.out _ h; omega)))
  have GK14 := Lib.hid hK
  have B14 := Lib.hid (B13.out.trans (hb.mono (by have := Z4.out; have := Z6.out; omega)))
  clear hK hb hsame V13 G13 A13 B13 k0 k1 k2 k3
  have k0 := GH14.out.c0
  have k1 := GH14.out.c1
  have k2 := GH14.out.c2
  have k3 := GH14.out.c3
  go_wp2_with fail
  refine (heldHouse_any GK14.out t1 x1 d1 (by omega) (by have := HM4.out; have := HM.out; omega)).mono ?_
  rintro o w15 ⟨rfl, hb⟩
  have V15 := Lib.hid (V14.out.next hb)
  have A15 := Lib.hid (A14.out.next hb)
  have GH15 := Lib.hid (GH14.out.next hb)
  have GK15 := Lib.hid (GK14.out.next hb)
  have B15 := Lib.hid (below_next B14.out hb (Nat.le_refl _))
  obtain ⟨kk, hkk⟩ : ∃ kk, kk = 1 + 25 * (m : Int) := ⟨_, rfl⟩
  have HKK := Lib.hid hkk
  have hpos : ¬ kk < 0 := by omega
  rw [← hkk]
  clear hb hkk V14 A14 GH14 GK14 B14 k0 k1 k2 k3
  have a0 := A15.out.c0
  have a1 := A15.out.c1
  have a2 := A15.out.c2
  have a3 := A15.out.c3
  go_wp2_with fail
  have h1 := toHouse_any A c xs t x d HLE.out _ ((HG.out.below B15.out).more B15.out.size)
  rw [← En.out] at h1
  refine h1.mono ?_
  clear h1
  rintro o w16 ⟨g16, rfl, hP, hb⟩
  have S16 := Lib.hid (Sl.of_owns hP (stkC_len xs) (by decide))
  have V16 := Lib.hid (V15.out.next hb)
  have GH16 := Lib.hid (GH15.out.next hb)
  have GK16 := Lib.hid (GK15.out.next hb)
  have B16 := Lib.hid (below_next B15.out hb (Nat.le_refl _))
  clear hP hb V15 A15 GH15 GK15 B15 a0 a1 a2 a3
  go_wp2_with fail
  refine (WashHouse_any (some ⟨g16, 0, none⟩) n n xs t x d En.out HN.out (Nat.le_refl _) (by have := HN.out; unfold maxLen; omega) HF.out HT.out HX.out HD.out (HE.out.below B16.out) B16.out.size S16.out).mono ?_
  rintro o w17 ⟨vh, rfl, hK, hb⟩
  rw [HR.out.1] at hK
  rw [HR.out.2.1, HR.out.2.2.1, HR.out.2.2.2.1, HR.out.2.2.2.2.1, HR.out.2.2.2.2.2]
  obtain ⟨Ah, ch, rfl, _⟩ := owns_slice hK.o
  rw [← HM.out] at hK ⊢
  obtain ⟨w18, hw18⟩ : ∃ w, w = w17.alloc (.cells #[.slice Ah m ch, .int .i16 t1, .int .i8 x1, .int .i16 d1] 58) := ⟨_, rfl⟩
  have hb18 : Below w17.heap.size w17 w18 := by rw [hw18]; exact (Below.refl _ _).alloc (Nat.le_refl _) _
  have N18 : Hid (HV w18 w16.heap.size w17.heap.size (.slice Ah m ch) t1 x1 d1 ks) := Lib.hid (by rw [hw18]; exact HV.new hK t1 x1 d1 _)
  have V18 := Lib.hid ((V16.out.next hb).next hb18)
  have GH18 := Lib.hid ((GH16.out.next hb).next hb18)
  have GK18 := Lib.hid ((GK16.out.next hb).next hb18)
  have B18 := Lib.hid (below_next (below_next B16.out hb (Nat.le_refl _)) hb18 (Nat.le_refl _))
  have HW18 := Lib.hid hw18
  have v0 := V18.out.h.c0
  have v1 := V18.out.h.c1
  have v2 := V18.out.h.c2
  have v3 := V18.out.h.c3
  have k0 := N18.out.h.c0
  have k1 := N18.out.h.c1
  have k2 := N18.out.h.c2
  have k3 := N18.out.h.c3
  rw [hw18] at v0 v1 v2 v3 k0 k1 k2 k3
  clear hK hb hb18 hw18 V16 GH16 GK16 B16 S16
  go_wp2_with fail
  rw [← HW18.out]
  refine (eqHouse_same N18.out.k V18.out.k (by have := HM4.out; omega)).mono ?_
  rintro o w19 ⟨rfl, hb⟩
  have GH19 := Lib.hid (GH18.out.next hb)
  have GK19 := Lib.hid (GK18.out.next hb)
  have B19 := Lib.hid (below_next B18.out hb (Nat.le_refl _))
  clear hb V18 N18 GH18 GK18 B18 HW18 v0 v1 v2 v3 k0 k1 k2 k3
  have k0 := GH19.out.c0
  have k1 := GH19.out.c1
  have k2 := GH19.out.c2
  have k3 := GH19.out.c3
  go_wp2_with fail
  refine (heldHouse_any GK19.out t1 x1 d1 (by omega) (by have := HM4.out; have := HM.out; omega)).mono ?_
  rintro o w20 ⟨rfl, hb⟩
  have B20 := Lib.hid (below_next B19.out hb (Nat.le_refl _))
  rw [← HKK.out]
  clear hb GH19 GK19 B19 k0 k1 k2 k3
  go_wp2_with fail
  go_ret
  exact ⟨rfl, B20.out⟩
theorem walk_big (A : Option Addr) (n c : Nat) (t x d : Int) (hn : 1048576 < n) (hm : n ≤ 9223372036854775807) (w : World) :
    Calls Tryd.prog 9 #[houV (.slice A n c) t x d] w fun o w' => o = .returned (.bool true) ∧ Below w.heap.size w w' := by
  have B0 := Lib.hid ((Below.refl w.heap.size w).alloc (Nat.le_refl _) (.cells #[.slice A n c, .int .i16 t, .int .i8 x, .int .i16 d] 54))
  go_enter Tryd.func9, Tryd.ntmps9
  go_wp2_with fail
  refine (szHouse_any A n c t x d 1048576 hm (by omega) _).mono ?_
  rintro o w1 ⟨rfl, hb1⟩
  rw [if_pos (by omega)]
  have HB1 := Lib.hid (below_next B0.out hb1 (by simp))
  clear hb1
  go_wp2_with fail
  go_ret
  exact ⟨rfl, HB1.out⟩

theorem readables : ∀ t ∈ Tryd.f9.params.toList, Tryd.prog.readableRec t = true ∧ t < Tryd.prog.types.size := by
  rw [Tryd.params9]
  intro t ht
  simp only [List.mem_cons, List.not_mem_nil, or_false] at ht
  subst ht
  exact ⟨by kernel_rfl, of_decide_eq_true (by kernel_rfl)⟩

set_option maxRecDepth 100000 in
/-- what the row's list gives -/
theorem errsLaid {W : World} (h : laidMetH Tryd.prog Rows.fnExactWashHouseRow.laid W) : ∃ e, Errs W W.heap.size e := by
  rw [MakeChecks.laidMetH_plain _ _ _ (by kernel_rfl)] at h
  refine errs_of Rows.fnExactWashHouseRow.laid (fun i => i) h (by kernel_rfl) ?_ ?_ (fun i j _ _ h => h)
  · have hall : ((listOf Rows.fnExactWashHouseRow.laid).all fun x => match Tryd.prog.globalNamed x.1 with | some g => decide ((Tryd.prog.globals[g]?).map (·.type) = some 80) | none => false) = true := by kernel_rfl
    intro x hx
    have h1 := List.all_eq_true.1 hall x hx
    split at h1
    · rename_i g hg
      exact ⟨g, hg, of_decide_eq_true h1⟩
    · cases h1
  · have b0 : ((listOf Rows.fnExactWashHouseRow.laid)[0]?).bind (fun x => Tryd.prog.globalNamed x.1) = some (gvar 0) := by kernel_rfl
    have b1 : ((listOf Rows.fnExactWashHouseRow.laid)[1]?).bind (fun x => Tryd.prog.globalNamed x.1) = some (gvar 1) := by kernel_rfl
    have b2 : ((listOf Rows.fnExactWashHouseRow.laid)[2]?).bind (fun x => Tryd.prog.globalNamed x.1) = some (gvar 2) := by kernel_rfl
    have b3 : ((listOf Rows.fnExactWashHouseRow.laid)[3]?).bind (fun x => Tryd.prog.globalNamed x.1) = some (gvar 3) := by kernel_rfl
    have b4 : ((listOf Rows.fnExactWashHouseRow.laid)[4]?).bind (fun x => Tryd.prog.globalNamed x.1) = some (gvar 4) := by kernel_rfl
    have b5 : ((listOf Rows.fnExactWashHouseRow.laid)[5]?).bind (fun x => Tryd.prog.globalNamed x.1) = some (gvar 5) := by kernel_rfl
    have b6 : ((listOf Rows.fnExactWashHouseRow.laid)[6]?).bind (fun x => Tryd.prog.globalNamed x.1) = some (gvar 6) := by kernel_rfl
    intro i hi
    match i, hi with
    | 0, _ => exact b0
    | 1, _ => exact b1
    | 2, _ => exact b2
    | 3, _ => exact b3
    | 4, _ => exact b4
    | 5, _ => exact b5
    | 6, _ => exact b6

set_option maxRecDepth 100000 in
theorem contract (H : Type) (enc : TypeId × Value → H) (W : World) (base : Nat) (args : Array Value) (ds gs : List (DataW H)) (before : List MemPlace)
    (hval : ∀ (j : Nat) t v, Tryd.f9.params[j]? = some t → args[j]? = some v → Value.okWide Tryd.prog W .any base t v)
    (hW : DataW.Whole enc Tryd.prog Tryd.f9.params.toList Rows.fnExactWashHouseSpec.vars false W args.toList ds gs before) (hL : laidMetH Tryd.prog Rows.fnExactWashHouseRow.laid W) :
    Calls Tryd.prog 9 args W fun e W' => ∃ v, e = .returned v ∧ Rows.fnExactWashHouseSpec.post enc Tryd.prog Tryd.f9 false true false false W args v W' := by
  obtain ⟨ee, hE⟩ := errsLaid hL
  have hW' := hW
  obtain ⟨p, q, hA0, hV, rfl, hfz, hnd⟩ := hW
  have hA : DataW.TrodAll enc Tryd.prog W 0 (fun _ => true) true Tryd.f9.params.toList args.toList ds p := hA0
  rw [Tryd.params9] at hA hval
  clear hA0
  obtain ⟨v0, vs0, d0, ds0, p0, q0, hargs, rfl, rfl, h0, r0⟩ := trodAll_cons hA
  obtain ⟨rfl, rfl, rfl⟩ := trodAll_nil r0
  obtain rfl : args = #[v0] := by cases args; simp_all
  obtain ⟨z0, z1, z2, z3, z4, z5, z6, rfl⟩ := vars_of hV
  obtain ⟨A, c, xs, t, x, d, rfl, hm, hS, hF, ht, hx, hd⟩ := open_house (hval 0 54 v0 rfl rfl) h0
  have hw : Calls Tryd.prog 9 #[houV (.slice A xs.length c) t x d] W fun o w' => o = .returned (.bool true) ∧ Below W.heap.size W w' := by
    by_cases hbig : xs.length ≤ 1048576
    · exact walk_fits A xs.length c xs t x d rfl hbig hF ht hx hd W ee hE hS
    · exact walk_big A xs.length c t x d (by omega) (by unfold maxLen at hm; omega) W
  refine hw.mono fun e W' ⟨he, hb⟩ => ?_
  subst he
  exact ⟨_, rfl, close_vars laidOut readables (by kernel_rfl) Tryd.underlying4 rfl rfl hW' hb⟩

end Go.Proofs.YtdcckdfemelbiaaDoor.lawWashHouse
