/-
  THE LAW FnExactSameHouse: for every two houses of up to 1048576 kinds together the law returns true (and for greater ones, as the law itself says): the program says that they are equal just where the model does, and changes no stock. No condition.
-/
import Derived.Test.YtfnlgpnocodonaaJoin6
import Derived.Test.YtfnlgpnocodonaaHouOpen
import Derived.Test.YtfnlgpnocodonaaClose
namespace Go.Proofs.Ytfnlgpnocodonaa.sameHouse
open Go.ChangeShapes Go.WideShapes Go.ChangeAt Go.RowKit Go.Joins sl stk row hou

/-- what the law keeps: what was given -/
structure L0 (w : World) (v v' : Value) (t x d t' x' d' : Int) (u : World) : Prop where
  a : HouAt u w.heap.size v t x d
  c : HouAt u (w.heap.size + 1) v' t' x' d'
  b : Below w.heap.size w u
theorem L0.next {w : World} {v v' : Value} {t x d t' x' d' : Int} {u u' : World} (h : L0 w v v' t x d t' x' d' u) (hb : Below u.heap.size u u') : L0 w v v' t x d t' x' d' u' :=
  ⟨h.a.next hb, h.c.next hb, below_next h.b hb (Nat.le_refl _)⟩
/-- .. and its copies -/
structure L2 (w : World) (v v' : Value) (t x d t' x' d' : Int) (xs ys : List Stk) (n n' b1 g1 b2 g2 : Nat) (u : World) : Prop where
  h : L0 w v v' t x d t' x' d' u
  k1 : HouAt u b1 (.slice (some ⟨g1, 0, none⟩) n n) t x d
  s1 : Sl stkC 25 u u.heap.size (some ⟨g1, 0, none⟩) xs
  k2 : HouAt u b2 (.slice (some ⟨g2, 0, none⟩) n' n') t' x' d'
  s2 : Sl stkC 25 u u.heap.size (some ⟨g2, 0, none⟩) ys
theorem L2.next {w : World} {v v' : Value} {t x d t' x' d' : Int} {xs ys : List Stk} {n n' b1 g1 b2 g2 : Nat} {u u' : World} (h : L2 w v v' t x d t' x' d' xs ys n n' b1 g1 b2 g2 u) (hb : Below u.heap.size u u') : L2 w v v' t x d t' x' d' xs ys n n' b1 g1 b2 g2 u' :=
  ⟨h.h.next hb, h.k1.next hb, h.s1.next hb, h.k2.next hb, h.s2.next hb⟩
set_option maxRecDepth 100000 in
set_option maxHeartbeats 8000000 in
theorem walk_fits (A A' : Option Addr) (n c n' c' : Nat) (xs ys : List Stk) (t x d t' x' d' : Int) (en : n = xs.length) (en' : n' = ys.length) (hn : n + n' ≤ 1048576) (w : World) (hg : Sl stkC 25 w w.heap.size A xs) (hg' : Sl stkC 25 w w.heap.size A' ys) :
    Calls Try.prog 4 #[houV (.slice A n c) t x d, houV (.slice A' n' c') t' x' d'] w fun o w' => o = .returned (.bool true) ∧ Below w.heap.size w w' := by
  have En := Lib.hid en
  have En' := Lib.hid en'
  obtain ⟨u, hu⟩ : ∃ u, u = (w.alloc (.cells #[.slice A n c, .int .i16 t, .int .i8 x, .int .i16 d] 33)).alloc (.cells #[.slice A' n' c', .int .i16 t', .int .i8 x', .int .i16 d'] 33) := ⟨_, rfl⟩
  have H0 : Hid (L0 w (.slice A n c) (.slice A' n' c') t x d t' x' d' u) := Lib.hid (by
    rw [hu]
    refine ⟨(HouAt.new w _ t x d _).next ((Below.refl _ _).alloc (Nat.le_refl _) _), ?_, ((Below.refl _ _).alloc (Nat.le_refl _) _).alloc (by simp) _⟩
    have := HouAt.new (w.alloc (.cells #[.slice A n c, .int .i16 t, .int .i8 x, .int .i16 d] 33)) (.slice A' n' c') t' x' d' 33
    rwa [World.size_alloc] at this)
  have HU := Lib.hid hu
  obtain ⟨b0, hb0⟩ := some_bool (eqL xs ys)
  obtain ⟨b, hb⟩ : ∃ b, b = sameR b0 t x d t' x' d' := ⟨_, rfl⟩
  have Hb0 := Lib.hid hb0
  have Hb := Lib.hid hb
  have HLE : Hid (xs.length ≤ 1048576) := Lib.hid (by omega)
  have HLE' : Hid (ys.length ≤ 1048576) := Lib.hid (by omega)
  clear hu hb0 hb en en'
  go_enter Try.func4, Try.ntmps4
  go_wp2_with fail
  rw [← HU.out]
  refine (szHouse_any A n c t x d 1048576 (by omega) (by omega) _).mono ?_
  rintro o w1 ⟨rfl, hb1⟩
  rw [if_neg (by omega)]
  have H1 := Lib.hid (H0.out.next hb1)
  have c0 := H1.out.c.c0
  have c1 := H1.out.c.c1
  have c2 := H1.out.c.c2
  have c3 := H1.out.c.c3
  clear hb1 H0 HU
  go_wp2_with fail
  refine (szHouse_any A' n' c' t' x' d' (1048576 - n) (by omega) (by omega) _).mono ?_
  rintro o w2 ⟨rfl, hb1⟩
  rw [if_neg (by omega)]
  have H2 := Lib.hid ((H1.out.next hb1).next (Below.refl _ _).drew)
  clear hb1 H1 c0 c1 c2 c3
  go_wp2_with fail
  refine wp_region_held_drew (S := L0 w (.slice A n c) (.slice A' n' c') t x d t' x' d') (by kernel_rfl) H2.out (fun hHeld => ?_)
  refine wpAnyH_take (i := 0) (v := houV (.slice A n c) t x d) rfl (by kernel_rfl) (by kernel_rfl) (by kernel_rfl) (fun _ _ _ h => h) (yieldsIf_load_mid (by rfl) 33 (.tmp 2) rfl (w.heap.size) 0 rfl (houL (.slice A n c) t x d) _ (fun u h => h.a.range) Try.underlying33 rfl infoLH) hHeld ?_
  (try simp only [Act.put, List.getElem_toArray, List.getElem_cons_zero, List.getElem_cons_succ, List.setIfInBounds_toArray, List.set_cons_zero, List.set_cons_succ])
  refine wpAnyH_take (i := 2) (v := houV (.slice A' n' c') t' x' d') rfl (by kernel_rfl) (by kernel_rfl) (by kernel_rfl) (fun _ _ _ h => h) (yieldsIf_load_mid (by rfl) 33 (.tmp 3) rfl (w.heap.size + 1) 0 rfl (houL (.slice A' n' c') t' x' d') _ (fun u h => h.c.range) Try.underlying33 rfl infoLH) hHeld ?_
  (try simp only [Act.put, List.getElem_toArray, List.getElem_cons_zero, List.getElem_cons_succ, List.setIfInBounds_toArray, List.set_cons_zero, List.set_cons_succ])
  refine wpAnyH_ready (rs := [1]) (by kernel_rfl) (by simp) ?_
  refine AllReadyH.cons rfl (fun K hK => ?_) AllReadyH.nil
  go_simp
  have h1 := toHouse_any A c xs t x d HLE.out _ ((hg.below hHeld.b).more hHeld.b.size)
  rw [← En.out] at h1
  refine h1.mono ?_
  clear h1
  rintro o w3 ⟨g3, rfl, hP, hb⟩
  have S3 := Lib.hid (Sl.of_owns hP (stkC_len xs) (by decide))
  clear hP
  refine hK.out _ _ (hHeld.next hb) (fun hHeld2 => ?_)
  clear hK K hHeld
  have hHeld := hHeld2
  clear hHeld2
  try simp only [Act.put, List.getElem_toArray, List.getElem_cons_zero, List.getElem_cons_succ, List.setIfInBounds_toArray, List.set_cons_zero, List.set_cons_succ]
  clear hb
  refine wpAnyH_ready (rs := [3]) (by kernel_rfl) (by simp) ?_
  refine AllReadyH.cons rfl (fun K hK => ?_) AllReadyH.nil
  go_simp
  have h1 := toHouse_any A' c' ys t' x' d' HLE'.out _ ((hg'.below hHeld.b).more hHeld.b.size)
  rw [← En'.out] at h1
  refine h1.mono ?_
  clear h1
  rintro o w4 ⟨g4, rfl, hP, hb⟩
  have S4 := Lib.hid (Sl.of_owns hP (stkC_len ys) (by decide))
  have S34 := Lib.hid (S3.out.next hb)
  clear hP
  refine hK.out _ _ (hHeld.next hb) (fun hHeld2 => ?_)
  clear hK K hHeld
  have hHeld := hHeld2
  clear hHeld2
  try simp only [Act.put, List.getElem_toArray, List.getElem_cons_zero, List.getElem_cons_succ, List.setIfInBounds_toArray, List.set_cons_zero, List.set_cons_succ]
  clear hb S3
  refine wpAnyH_ready (rs := [4]) (by kernel_rfl) (by simp) ?_
  refine AllReadyH.cons rfl (fun K hK => ?_) AllReadyH.nil
  go_simp
  refine (SameHouse_spec (some ⟨g3, 0, none⟩) (some ⟨g4, 0, none⟩) n n' n n' xs ys t x d t' x' d' En.out En'.out (by omega) (by omega) _ S34.out S4.out b0 b Hb0.out Hb.out).mono ?_
  rintro o w5 ⟨rfl, hb⟩
  refine hK.out _ _ (hHeld.next hb) (fun hHeld2 => ?_)
  clear hK K hHeld
  have hHeld := hHeld2
  clear hHeld2
  try simp only [Act.put, List.getElem_toArray, List.getElem_cons_zero, List.getElem_cons_succ, List.setIfInBounds_toArray, List.set_cons_zero, List.set_cons_succ]
  clear hb
  refine wpAnyH_ready (rs := [5]) (by kernel_rfl) (by simp) ?_
  refine AllReadyH.cons rfl (fun K hK => ?_) AllReadyH.nil
  go_simp
  refine hK.out _ _ (hHeld) (fun hHeld2 => ?_)
  clear hK K hHeld
  have hHeld := hHeld2
  clear hHeld2
  try simp only [Act.put, List.getElem_toArray, List.getElem_cons_zero, List.getElem_cons_succ, List.setIfInBounds_toArray, List.set_cons_zero, List.set_cons_succ]
  refine wpAnyH_done (by kernel_rfl) ?_ _
  have H5 := Lib.hid hHeld
  clear hHeld S4 S34 H2
  have a0 := H5.out.a.c0
  have a1 := H5.out.a.c1
  have a2 := H5.out.a.c2
  have a3 := H5.out.a.c3
  go_wp2_with fail
  have h1 := toHouse_any A c xs t x d HLE.out _ ((hg.below H5.out.b).more H5.out.b.size)
  rw [← En.out] at h1
  refine h1.mono ?_
  clear h1
  rintro o w6 ⟨g6, rfl, hP, hb⟩
  obtain ⟨w7, hw7⟩ : ∃ w7, w7 = w6.alloc (.cells #[.slice (some ⟨g6, 0, none⟩) n n, .int .i16 t, .int .i8 x, .int .i16 d] 38) := ⟨_, rfl⟩
  have hb7 : Below w6.heap.size w6 w7 := by
    rw [hw7]
    exact (Below.refl _ _).alloc (Nat.le_refl _) _
  have H7 := Lib.hid ((H5.out.next hb).next hb7)
  have K7 : Hid (HouAt w7 w6.heap.size (.slice (some ⟨g6, 0, none⟩) n n) t x d) := Lib.hid (by rw [hw7]; exact HouAt.new w6 _ t x d _)
  have S7 := Lib.hid ((Sl.of_owns hP (stkC_len xs) (by decide)).next hb7)
  have HW7 := Lib.hid hw7
  have c0 := H7.out.c.c0
  have c1 := H7.out.c.c1
  have c2 := H7.out.c.c2
  have c3 := H7.out.c.c3
  rw [hw7] at c0 c1 c2 c3
  clear hb hP hw7 hb7 a0 a1 a2 a3 H5
  go_wp2_with fail
  rw [← HW7.out]
  have h1 := toHouse_any A' c' ys t' x' d' HLE'.out _ ((hg'.below H7.out.b).more H7.out.b.size)
  rw [← En'.out] at h1
  refine h1.mono ?_
  clear h1
  rintro o w8 ⟨g8, rfl, hP, hb⟩
  obtain ⟨w9, hw9⟩ : ∃ w9, w9 = w8.alloc (.cells #[.slice (some ⟨g8, 0, none⟩) n' n', .int .i16 t', .int .i8 x', .int .i16 d'] 38) := ⟨_, rfl⟩
  have hb9 : Below w8.heap.size w8 w9 := by
    rw [hw9]
    exact (Below.refl _ _).alloc (Nat.le_refl _) _
  have H9 : Hid (L2 w (.slice A n c) (.slice A' n' c') t x d t' x' d' xs ys n n' w6.heap.size g6 w8.heap.size g8 w9) := Lib.hid ⟨(H7.out.next hb).next hb9, (K7.out.next hb).next hb9, (S7.out.next hb).next hb9, by rw [hw9]; exact HouAt.new w8 _ t' x' d' _, (Sl.of_owns hP (stkC_len ys) (by decide)).next hb9⟩
  have HW9 := Lib.hid hw9
  have k0 := H9.out.k1.c0
  have k1 := H9.out.k1.c1
  have k2 := H9.out.k1.c2
  have k3 := H9.out.k1.c3
  rw [hw9] at k0 k1 k2 k3
  clear hb hP hw9 hb9 c0 c1 c2 c3 H7 K7 S7 HW7
  go_wp2_with fail
  rw [← HW9.out]
  refine (SameHouse_any (some ⟨g6, 0, none⟩) (some ⟨g8, 0, none⟩) n n' n n' xs ys t x d t' x' d' En.out En'.out (by omega) (by omega) _ H9.out.s1 H9.out.s2 b0 b Hb0.out Hb.out).mono ?_
  rintro o w10 ⟨rfl, hb⟩
  have HA := Lib.hid ((H9.out.next hb).next (Below.refl _ _).drew)
  clear hb H9 HW9 k0 k1 k2 k3
  go_wp2_with fail
  refine wp_region_held_drew (S := L2 w (.slice A n c) (.slice A' n' c') t x d t' x' d' xs ys n n' w6.heap.size g6 w8.heap.size g8) (by kernel_rfl) HA.out (fun hHeld => ?_)
  refine wpAnyH_take (i := 0) (v := houV (.slice (some ⟨g6, 0, none⟩) n n) t x d) rfl (by kernel_rfl) (by kernel_rfl) (by kernel_rfl) (fun _ _ _ h => h) (yieldsIf_load_mid (by rfl) 38 (.tmp 7) rfl (w6.heap.size) 0 rfl (houL (.slice (some ⟨g6, 0, none⟩) n n) t x d) _ (fun u h => h.k1.range) Try.underlying38 rfl infoH) hHeld ?_
  (try simp only [Act.put, List.getElem_toArray, List.getElem_cons_zero, List.getElem_cons_succ, List.setIfInBounds_toArray, List.set_cons_zero, List.set_cons_succ])
  refine wpAnyH_take (i := 1) (v := houV (.slice A n c) t x d) rfl (by kernel_rfl) (by kernel_rfl) (by kernel_rfl) (fun _ _ _ h => h) (yieldsIf_load_mid (by rfl) 33 (.tmp 2) rfl (w.heap.size) 0 rfl (houL (.slice A n c) t x d) _ (fun u h => h.h.a.range) Try.underlying33 rfl infoLH) hHeld ?_
  (try simp only [Act.put, List.getElem_toArray, List.getElem_cons_zero, List.getElem_cons_succ, List.setIfInBounds_toArray, List.set_cons_zero, List.set_cons_succ])
  refine wpAnyH_ready (rs := [2]) (by kernel_rfl) (by simp) ?_
  refine AllReadyH.cons rfl (fun K hK => ?_) AllReadyH.nil
  go_simp
  have h1 := toHouse_any A c xs t x d HLE.out _ ((hg.below hHeld.h.b).more hHeld.h.b.size)
  rw [← En.out] at h1
  refine h1.mono ?_
  clear h1
  rintro o w11 ⟨g11, rfl, hP, hb⟩
  have S11 := Lib.hid (Sl.of_owns hP (stkC_len xs) (by decide))
  clear hP
  refine hK.out _ _ (hHeld.next hb) (fun hHeld2 => ?_)
  clear hK K hHeld
  have hHeld := hHeld2
  clear hHeld2
  try simp only [Act.put, List.getElem_toArray, List.getElem_cons_zero, List.getElem_cons_succ, List.setIfInBounds_toArray, List.set_cons_zero, List.set_cons_succ]
  clear hb
  refine wpAnyH_ready (rs := [3]) (by kernel_rfl) (by simp) ?_
  refine AllReadyH.cons rfl (fun K hK => ?_) AllReadyH.nil
  go_simp
  refine (eqHouse_any (some ⟨g6, 0, none⟩) (some ⟨g11, 0, none⟩) n n n n xs xs t x d t x d En.out En.out (by omega) (by omega) _ hHeld.s1 S11.out true true (iff_of_true rfl (eqL_refl xs)) (by simp)).mono ?_
  rintro o w12 ⟨rfl, hb⟩
  refine hK.out _ _ (hHeld.next hb) (fun hHeld2 => ?_)
  clear hK K hHeld
  have hHeld := hHeld2
  clear hHeld2
  try simp only [Act.put, List.getElem_toArray, List.getElem_cons_zero, List.getElem_cons_succ, List.setIfInBounds_toArray, List.set_cons_zero, List.set_cons_succ]
  clear hb
  refine wpAnyH_ready (rs := [4]) (by kernel_rfl) (by simp) ?_
  refine AllReadyH.cons rfl (fun K hK => ?_) AllReadyH.nil
  go_simp
  refine hK.out _ _ (hHeld) (fun hHeld2 => ?_)
  clear hK K hHeld
  have hHeld := hHeld2
  clear hHeld2
  try simp only [Act.put, List.getElem_toArray, List.getElem_cons_zero, List.getElem_cons_succ, List.setIfInBounds_toArray, List.set_cons_zero, List.set_cons_succ]
  refine wpAnyH_done (by kernel_rfl) ?_ _
  have HC := Lib.hid (hHeld.next (Below.refl _ _).drew)
  clear hHeld S11 HA
  go_wp2_with fail
  refine wp_region_held_drew (S := L2 w (.slice A n c) (.slice A' n' c') t x d t' x' d' xs ys n n' w6.heap.size g6 w8.heap.size g8) (by kernel_rfl) HC.out (fun hHeld => ?_)
  refine wpAnyH_take (i := 0) (v := houV (.slice (some ⟨g8, 0, none⟩) n' n') t' x' d') rfl (by kernel_rfl) (by kernel_rfl) (by kernel_rfl) (fun _ _ _ h => h) (yieldsIf_load_mid (by rfl) 38 (.tmp 8) rfl (w8.heap.size) 0 rfl (houL (.slice (some ⟨g8, 0, none⟩) n' n') t' x' d') _ (fun u h => h.k2.range) Try.underlying38 rfl infoH) hHeld ?_
  (try simp only [Act.put, List.getElem_toArray, List.getElem_cons_zero, List.getElem_cons_succ, List.setIfInBounds_toArray, List.set_cons_zero, List.set_cons_succ])
  refine wpAnyH_take (i := 1) (v := houV (.slice A' n' c') t' x' d') rfl (by kernel_rfl) (by kernel_rfl) (by kernel_rfl) (fun _ _ _ h => h) (yieldsIf_load_mid (by rfl) 33 (.tmp 3) rfl (w.heap.size + 1) 0 rfl (houL (.slice A' n' c') t' x' d') _ (fun u h => h.h.c.range) Try.underlying33 rfl infoLH) hHeld ?_
  (try simp only [Act.put, List.getElem_toArray, List.getElem_cons_zero, List.getElem_cons_succ, List.setIfInBounds_toArray, List.set_cons_zero, List.set_cons_succ])
  refine wpAnyH_ready (rs := [2]) (by kernel_rfl) (by simp) ?_
  refine AllReadyH.cons rfl (fun K hK => ?_) AllReadyH.nil
  go_simp
  have h1 := toHouse_any A' c' ys t' x' d' HLE'.out _ ((hg'.below hHeld.h.b).more hHeld.h.b.size)
  rw [← En'.out] at h1
  refine h1.mono ?_
  clear h1
  rintro o w13 ⟨g13, rfl, hP, hb⟩
  have S13 := Lib.hid (Sl.of_owns hP (stkC_len ys) (by decide))
  clear hP
  refine hK.out _ _ (hHeld.next hb) (fun hHeld2 => ?_)
  clear hK K hHeld
  have hHeld := hHeld2
  clear hHeld2
  try simp only [Act.put, List.getElem_toArray, List.getElem_cons_zero, List.getElem_cons_succ, List.setIfInBounds_toArray, List.set_cons_zero, List.set_cons_succ]
  clear hb
  refine wpAnyH_ready (rs := [3]) (by kernel_rfl) (by simp) ?_
  refine AllReadyH.cons rfl (fun K hK => ?_) AllReadyH.nil
  go_simp
  refine (eqHouse_any (some ⟨g8, 0, none⟩) (some ⟨g13, 0, none⟩) n' n' n' n' ys ys t' x' d' t' x' d' En'.out En'.out (by omega) (by omega) _ hHeld.s2 S13.out true true (iff_of_true rfl (eqL_refl ys)) (by simp)).mono ?_
  rintro o w14 ⟨rfl, hb⟩
  refine hK.out _ _ (hHeld.next hb) (fun hHeld2 => ?_)
  clear hK K hHeld
  have hHeld := hHeld2
  clear hHeld2
  try simp only [Act.put, List.getElem_toArray, List.getElem_cons_zero, List.getElem_cons_succ, List.setIfInBounds_toArray, List.set_cons_zero, List.set_cons_succ]
  clear hb
  refine wpAnyH_ready (rs := [4]) (by kernel_rfl) (by simp) ?_
  refine AllReadyH.cons rfl (fun K hK => ?_) AllReadyH.nil
  go_simp
  refine hK.out _ _ (hHeld) (fun hHeld2 => ?_)
  clear hK K hHeld
  have hHeld := hHeld2
  clear hHeld2
  try simp only [Act.put, List.getElem_toArray, List.getElem_cons_zero, List.getElem_cons_succ, List.setIfInBounds_toArray, List.set_cons_zero, List.set_cons_succ]
  refine wpAnyH_done (by kernel_rfl) ?_ _
  have HB := Lib.hid hHeld.h.b
  clear hHeld S13 HC
  go_wp2_with fail
  go_ret
  exact ⟨rfl, HB.out⟩
set_option maxRecDepth 100000 in
set_option maxHeartbeats 4000000 in
theorem walk_big (A A' : Option Addr) (n c n' c' : Nat) (t x d t' x' d' : Int) (hn : 1048576 < n + n') (hm : n ≤ 9223372036854775807) (hm' : n' ≤ 9223372036854775807) (w : World) :
    Calls Try.prog 4 #[houV (.slice A n c) t x d, houV (.slice A' n' c') t' x' d'] w fun o w' => o = .returned (.bool true) ∧ Below w.heap.size w w' := by
  obtain ⟨u, hu⟩ : ∃ u, u = (w.alloc (.cells #[.slice A n c, .int .i16 t, .int .i8 x, .int .i16 d] 33)).alloc (.cells #[.slice A' n' c', .int .i16 t', .int .i8 x', .int .i16 d'] 33) := ⟨_, rfl⟩
  have H0 : Hid (L0 w (.slice A n c) (.slice A' n' c') t x d t' x' d' u) := Lib.hid (by
    rw [hu]
    refine ⟨(HouAt.new w _ t x d _).next ((Below.refl _ _).alloc (Nat.le_refl _) _), ?_, ((Below.refl _ _).alloc (Nat.le_refl _) _).alloc (by simp) _⟩
    have := HouAt.new (w.alloc (.cells #[.slice A n c, .int .i16 t, .int .i8 x, .int .i16 d] 33)) (.slice A' n' c') t' x' d' 33
    rwa [World.size_alloc] at this)
  have HU := Lib.hid hu
  clear hu
  by_cases hbig : 1048576 < n
  · go_enter Try.func4, Try.ntmps4
    go_wp2_with fail
    rw [← HU.out]
    refine (szHouse_any A n c t x d 1048576 (by omega) (by omega) _).mono ?_
    rintro o w1 ⟨rfl, hb1⟩
    rw [if_pos (by omega)]
    have H1 := Lib.hid (H0.out.next hb1)
    clear hb1 H0 HU
    go_wp2_with fail
    go_ret
    exact ⟨rfl, H1.out.b⟩
  · go_enter Try.func4, Try.ntmps4
    go_wp2_with fail
    rw [← HU.out]
    refine (szHouse_any A n c t x d 1048576 (by omega) (by omega) _).mono ?_
    rintro o w1 ⟨rfl, hb1⟩
    rw [if_neg (by omega)]
    have H1 := Lib.hid (H0.out.next hb1)
    have c0 := H1.out.c.c0
    have c1 := H1.out.c.c1
    have c2 := H1.out.c.c2
    have c3 := H1.out.c.c3
    clear hb1 H0 HU
    go_wp2_with fail
    refine (szHouse_any A' n' c' t' x' d' (1048576 - n) (by omega) (by omega) _).mono ?_
    rintro o w2 ⟨rfl, hb1⟩
    rw [if_pos (by omega)]
    have H2 := Lib.hid (H1.out.next hb1)
    clear hb1 H1 c0 c1 c2 c3
    go_wp2_with fail
    go_ret
    exact ⟨rfl, H2.out.b⟩

theorem readables : ∀ t ∈ Try.f4.params.toList, Try.prog.readableRec t = true ∧ t < Try.prog.types.size := by
  rw [Try.params4]
  intro t ht
  simp only [List.mem_cons, List.not_mem_nil, or_false] at ht
  rcases ht with rfl | rfl
  · exact ⟨by kernel_rfl, of_decide_eq_true (by kernel_rfl)⟩
  · exact ⟨by kernel_rfl, of_decide_eq_true (by kernel_rfl)⟩

theorem contract (H : Type) (enc : TypeId × Value → H) (W : World) (base : Nat) (args : Array Value) (ds gs : List (DataW H)) (before : List MemPlace)
    (hval : ∀ (j : Nat) t v, Try.f4.params[j]? = some t → args[j]? = some v → Value.okWide Try.prog W .any base t v)
    (hW : DataW.Whole enc Try.prog Try.f4.params.toList Rows.fnExactSameHouseSpec.vars false W args.toList ds gs before) :
    Calls Try.prog 4 args W fun e W' => ∃ v, e = .returned v ∧ Rows.fnExactSameHouseSpec.post enc Try.prog Try.f4 false true false false W args v W' := by
  have hW' := hW
  obtain ⟨p, q, hA0, hV, rfl, hfz, hnd⟩ := hW
  have hA : DataW.TrodAll enc Try.prog W 0 (fun _ => true) true Try.f4.params.toList args.toList ds p := hA0
  rw [Try.params4] at hA hval
  clear hA0
  obtain ⟨v0, vs0, d0, ds0, p0, q0, hargs, rfl, rfl, h0, r0⟩ := trodAll_cons hA
  obtain ⟨v1, vs1, d1, ds1, p1, q1, rfl, rfl, rfl, h1, r1⟩ := trodAll_cons r0
  obtain ⟨rfl, rfl, rfl⟩ := trodAll_nil r1
  obtain rfl : args = #[v0, v1] := by cases args; simp_all
  obtain ⟨rfl, rfl⟩ := trodVars_none hV
  obtain ⟨A, c, xs, t, x, d, rfl, hm, hS, hF, ht, hx, hd⟩ := open_house (hval 0 33 v0 rfl rfl) h0
  obtain ⟨A', c', ys, t', x', d', rfl, hm', hS', hF', ht', hx', hd'⟩ := open_house (hval 1 33 v1 rfl rfl) h1
  have hw : Calls Try.prog 4 #[houV (.slice A xs.length c) t x d, houV (.slice A' ys.length c') t' x' d'] W fun o w' => o = .returned (.bool true) ∧ Below W.heap.size W w' := by
    by_cases hbig : xs.length + ys.length ≤ 1048576
    · exact walk_fits A A' xs.length c ys.length c' xs ys t x d t' x' d' rfl rfl hbig W hS hS'
    · exact walk_big A A' xs.length c ys.length c' t x d t' x' d' (by omega) (by unfold maxLen at hm; omega) (by unfold maxLen at hm'; omega) W
  refine hw.mono fun e W' ⟨he, hb⟩ => ?_
  subst he
  exact ⟨_, rfl, close_law laidOut readables rfl Try.underlying4 rfl rfl hW' hb⟩

set_option maxRecDepth 100000 in
theorem lifted (os : Os) (started : os.Started) (H : Type) (enc : TypeId × Value → H) :
    ReturnsInHanded {} Try.checked os 4 .any (Rows.fnExactSameHouseSpec.pre6 enc Try.prog Try.f4 Rows.fnExactSameHouseRow.domain false) (Rows.fnExactSameHouseSpec.post enc Try.prog Try.f4 false true false false) := by
  refine returnsInHanded_of_change (C := Try.checked) own started (by kernel_rfl) Try.func4
    (ChangeSpec.witness6 (enc := enc) (C := Try.checked) false ⟨#[], #[.agg #[.slice none 0 0, .int .i16 0, .int .i8 0, .int .i16 0], .agg #[.slice none 0 0, .int .i16 0, .int .i8 0, .int .i16 0]], []⟩ 8 (by kernel_rfl) (by kernel_rfl) (by kernel_rfl) (by kernel_rfl)) ?_
  intro W base args ds gs before hval hW _ _
  exact contract H enc W base args ds gs before hval hW

theorem holds : Rows.FnExactSameHouseSaid :=
  OpenClaim.holds_of_wide 4 Try.f4 rfl rfl rfl rfl rfl rfl rfl ⟨rfl, rfl, rfl, rfl, rfl⟩ rfl rfl rfl rfl rfl (by kernel_rfl) Try.func4 (by kernel_rfl)
    (of_decide_eq_true (by kernel_rfl)) (by unfold Func.isWrapper; first | (rw [if_pos (by decide +kernel)]; kernel_rfl) | (rw [if_neg (by decide +kernel)]; exact ⟨rfl, rfl⟩))
    (fun os started H enc _ => lifted os started H enc)
end Go.Proofs.Ytfnlgpnocodonaa.sameHouse
