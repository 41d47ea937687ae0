/-
  THE LAW FnExactHouseText: for every house of up to 1048576 kinds the law returns true (and for greater ones, as the law itself says): the program says that it is valid just where the model does, and changes no stock. No condition but that the package's errors are what the program's text lays.
-/
import Derived.Test.YtjfimmfnhlimkaaDoorJoin29
import Derived.Test.YtjfimmfnhlimkaaDoorJoin27
import Derived.Test.YtjfimmfnhlimkaaDoorHouOpen
import Derived.Test.YtjfimmfnhlimkaaDoorClose
import Derived.Test.YtjfimmfnhlimkaaDoorLaid
import Derived.Test.YtjfimmfnhlimkaaDoorCards
import Derived.Test.YtjfimmfnhlimkaaDoorTie
namespace Go.Proofs.YtjfimmfnhlimkaaDoor.lawHouseText
open Go.ChangeShapes Go.WideShapes Go.ChangeAt Go.RowKit Go.Joins sl errs stk row hou txt

/-- what the law keeps: what was given, and its copy -/
structure LH (w : World) (A : Option Addr) (n c : Nat) (xs : List Stk) (t x d : Int) (bx g : Nat) (u : World) : Prop where
  a : HouAt u w.heap.size (.slice A n c) t x d
  k : HouAt u bx (.slice (some ⟨g, 0, none⟩) n n) t x d
  s : Sl stkC 25 u u.heap.size (some ⟨g, 0, none⟩) xs
  b : Below w.heap.size w u
theorem LH.next {w : World} {A : Option Addr} {n c : Nat} {xs : List Stk} {t x d : Int} {bx g : Nat} {u v : World} (h : LH w A n c xs t x d bx g u) (hb : Below u.heap.size u v) : LH w A n c xs t x d bx g v :=
  ⟨h.a.next hb, h.k.next hb, h.s.next hb, below_next h.b hb (Nat.le_refl _)⟩
set_option maxRecDepth 100000 in
set_option maxHeartbeats 4000000 in
theorem walk_fits (A : Option Addr) (n c : Nat) (xs : List Stk) (t x d : Int) (en : n = xs.length) (hn : n ≤ 1048576) (hf : ∀ x ∈ xs, Fits x) (ht : -32768 ≤ t ∧ t ≤ 32767) (hx : -128 ≤ x ∧ x ≤ 127) (hd : -32768 ≤ d ∧ d ≤ 32767) (w : World) (e : Nat → Addr) (hE : ER w w.heap.size (e 1)) (hTab : TabJ w) (hg : Sl stkC 25 w w.heap.size A xs) :
    Calls Tryd.prog 11 #[houV (.slice A n c) t x d] w fun o w' => o = .returned (.bool true) ∧ Below w.heap.size w w' := by
  have En := Lib.hid en
  have HE := Lib.hid hE
  have A0 := HouAt.new w (.slice A n c) t x d 69
  have B0 := Lib.hid ((Below.refl w.heap.size w).alloc (Nat.le_refl _) (.cells #[.slice A n c, .int .i16 t, .int .i8 x, .int .i16 d] 69))
  have HA0 := Lib.hid A0
  obtain ⟨b, hb⟩ : ∃ b, houText xs t x d = b := ⟨_, rfl⟩
  have HTAB := Lib.hid hTab
  have HBB := Lib.hid hb
  have hle : xs.length ≤ 1048576 := by omega
  have HLE := Lib.hid hle
  clear en hE A0 hb hle hTab
  go_enter Tryd.func11, Tryd.ntmps11
  go_wp2_with fail
  refine (szHouse_any A n c t x d 1048576 (by omega) (by omega) _).mono ?_
  rintro o w1 ⟨rfl, hb1⟩
  rw [if_neg (by omega)]
  have hA1 := HA0.out.next hb1
  have HB1 := Lib.hid (below_next B0.out hb1 (by simp))
  have a0 := hA1.c0
  have a1 := hA1.c1
  have a2 := hA1.c2
  have a3 := hA1.c3
  have HA1 := Lib.hid hA1
  clear hb1 hA1 HA0 B0
  go_wp2_with fail
  have h1 := toHouse_any A c xs t x d HLE.out _ ((hg.below HB1.out).more HB1.out.size)
  rw [← En.out] at h1
  refine h1.mono ?_
  clear h1
  rintro o w2 ⟨g2, rfl, hP, hb⟩
  have hS2 := Sl.of_owns hP (stkC_len xs) (by decide)
  have hA2 := HA1.out.next hb
  have HB2 := Lib.hid (below_next HB1.out hb (Nat.le_refl _))
  have HA2 := Lib.hid hA2
  clear hb hP a0 a1 a2 a3 HA1 HB1
  go_wp2_with fail
  have hsp := HouseText_spec g2 n n xs t x d En.out hn hf ht hx hd _ hS2
  rw [HBB.out] at hsp
  refine hsp.mono ?_
  clear hsp
  rintro o w3 ⟨rfl, hb⟩
  have hA3 := HA2.out.next hb
  have HB3 := Lib.hid (below_next HB2.out hb (Nat.le_refl _))
  have a0 := hA3.c0
  have a1 := hA3.c1
  have a2 := hA3.c2
  have a3 := hA3.c3
  have HA3 := Lib.hid hA3
  clear hb hS2 hA2 hA3 HA2 HB2
  go_wp2_with fail
  have h1 := toHouse_any A c xs t x d HLE.out _ ((hg.below HB3.out).more HB3.out.size)
  rw [← En.out] at h1
  refine h1.mono ?_
  clear h1
  rintro o w4 ⟨g4, rfl, hP, hb⟩
  obtain ⟨w6, hw6⟩ : ∃ w6, w6 = w4.alloc (.cells #[.slice (some ⟨g4, 0, none⟩) n n, .int .i16 t, .int .i8 x, .int .i16 d] 74) := ⟨_, rfl⟩
  have hb6 : Below w4.heap.size w4 w6 := by
    rw [hw6]
    exact (Below.refl _ _).alloc (Nat.le_refl _) _
  have H6 : Hid (LH w A n c xs t x d w4.heap.size g4 w6) := Lib.hid ⟨(HA3.out.next hb).next hb6, by rw [hw6]; exact HouAt.new w4 _ t x d _, (Sl.of_owns hP (stkC_len xs) (by decide)).next hb6, below_next (below_next HB3.out hb (Nat.le_refl _)) hb6 (Nat.le_refl _)⟩
  have HW6 := Lib.hid hw6
  clear hb hP hw6 hb6 a0 a1 a2 a3 HA3 HB3
  go_wp2_with fail
  rw [← HW6.out]
  have hip := HouseText_any (some ⟨g4, 0, none⟩) n n xs t x d En.out hn hf ht hx hd (HE.out.below H6.out.b) H6.out.b.size (fun w' hw' => HTAB.out w' (H6.out.b.trans (hw'.mono H6.out.b.size))) H6.out.s
  rw [HBB.out] at hip
  refine hip.mono ?_
  clear hip
  rintro o w7 ⟨rfl, hb⟩
  have H7 := Lib.hid ((H6.out.next hb).next (Below.refl _ _).drew)
  clear hb H6 HW6
  go_wp2_with fail
  refine wp_region_held_drew (S := LH w A n c xs t x d w4.heap.size g4) (by kernel_rfl) H7.out (fun hHeld => ?_)
  refine wpAnyH_take (i := 0) (v := houV (.slice (some ⟨g4, 0, none⟩) n n) t x d) rfl (by kernel_rfl) (by kernel_rfl) (by kernel_rfl) (fun _ _ _ h => h) (yieldsIf_load_mid (by rfl) 74 (.tmp 5) rfl w4.heap.size 0 rfl (houL (.slice (some ⟨g4, 0, none⟩) n n) t x d) _ (fun u h => h.k.range) Tryd.underlying74 rfl infoH) hHeld ?_
  (try simp only [Act.put, List.getElem_toArray, List.getElem_cons_zero, List.getElem_cons_succ, List.setIfInBounds_toArray, List.set_cons_zero, List.set_cons_succ])
  refine wpAnyH_take (i := 1) (v := houV (.slice A n c) t x d) rfl (by kernel_rfl) (by kernel_rfl) (by kernel_rfl) (fun _ _ _ h => h) (yieldsIf_load_mid (by rfl) 69 (.tmp 1) rfl w.heap.size 0 rfl (houL (.slice A n c) t x d) _ (fun u h => h.a.range) Tryd.underlying69 rfl infoLH) hHeld ?_
  (try simp only [Act.put, List.getElem_toArray, List.getElem_cons_zero, List.getElem_cons_succ, List.setIfInBounds_toArray, List.set_cons_zero, List.set_cons_succ])
  refine wpAnyH_ready (rs := [2]) (by kernel_rfl) (by simp) ?_
  refine AllReadyH.cons rfl (fun K hK => ?_) AllReadyH.nil
  go_simp
  have h1 := toHouse_any A c xs t x d HLE.out _ ((hg.below hHeld.b).more hHeld.b.size)
  rw [← En.out] at h1
  refine h1.mono ?_
  clear h1
  rintro o w8 ⟨g8, rfl, hP, hb⟩
  have hS8 := Lib.hid (Sl.of_owns hP (stkC_len xs) (by decide))
  clear hP
  refine hK.out _ _ (hHeld.next hb) (fun hHeld2 => ?_)
  clear hK K hHeld
  have hHeld := hHeld2
  clear hHeld2
  try simp only [Act.put, List.getElem_toArray, List.getElem_cons_zero, List.getElem_cons_succ, List.setIfInBounds_toArray, List.set_cons_zero, List.set_cons_succ]
  clear hb
  refine wpAnyH_ready (rs := [3]) (by kernel_rfl) (by simp) ?_
  refine AllReadyH.cons rfl (fun K hK => ?_) AllReadyH.nil
  go_simp
  refine (eqHouse_any (some ⟨g4, 0, none⟩) (some ⟨g8, 0, none⟩) n n n n xs xs t x d t x d En.out En.out hn (by omega) _ hHeld.s hS8.out true true (iff_of_true rfl (eqL_refl xs)) (by simp)).mono ?_
  rintro o w9 ⟨rfl, hb⟩
  refine hK.out _ _ (hHeld.next hb) (fun hHeld2 => ?_)
  clear hK K hHeld
  have hHeld := hHeld2
  clear hHeld2
  try simp only [Act.put, List.getElem_toArray, List.getElem_cons_zero, List.getElem_cons_succ, List.setIfInBounds_toArray, List.set_cons_zero, List.set_cons_succ]
  refine wpAnyH_ready (rs := [4]) (by kernel_rfl) (by simp) ?_
  refine AllReadyH.cons rfl (fun K hK => ?_) AllReadyH.nil
  go_simp
  refine hK.out _ _ (hHeld) (fun hHeld2 => ?_)
  clear hK K hHeld
  have hHeld := hHeld2
  clear hHeld2
  try simp only [Act.put, List.getElem_toArray, List.getElem_cons_zero, List.getElem_cons_succ, List.setIfInBounds_toArray, List.set_cons_zero, List.set_cons_succ]
  refine wpAnyH_done (by kernel_rfl) ?_ _
  have HB := Lib.hid hHeld.b
  clear hHeld hb
  go_wp2_with fail
  go_ret
  exact ⟨rfl, HB.out⟩
theorem walk_big (A : Option Addr) (n c : Nat) (t x d : Int) (hn : 1048576 < n) (hm : n ≤ 9223372036854775807) (w : World) :
    Calls Tryd.prog 11 #[houV (.slice A n c) t x d] w fun o w' => o = .returned (.bool true) ∧ Below w.heap.size w w' := by
  have B0 := Lib.hid ((Below.refl w.heap.size w).alloc (Nat.le_refl _) (.cells #[.slice A n c, .int .i16 t, .int .i8 x, .int .i16 d] 69))
  go_enter Tryd.func11, Tryd.ntmps11
  go_wp2_with fail
  refine (szHouse_any A n c t x d 1048576 hm (by omega) _).mono ?_
  rintro o w1 ⟨rfl, hb1⟩
  rw [if_pos (by omega)]
  have HB1 := Lib.hid (below_next B0.out hb1 (by simp))
  clear hb1
  go_wp2_with fail
  go_ret
  exact ⟨rfl, HB1.out⟩

theorem readables : ∀ t ∈ Tryd.f11.params.toList, Tryd.prog.readableRec t = true ∧ t < Tryd.prog.types.size := by
  rw [Tryd.params11]
  intro t ht
  simp only [List.mem_cons, List.not_mem_nil, or_false] at ht
  subst ht
  exact ⟨by kernel_rfl, of_decide_eq_true (by kernel_rfl)⟩

set_option maxRecDepth 100000 in
theorem errsLaid {W : World} (h : laidMetH Tryd.prog Rows.fnExactHouseTextRow.laid W) : ∃ e : Nat → Addr, ER W W.heap.size (e 1) ∧ TabJ W := by
  rw [MakeChecks.laidMetH_plain _ _ _ (by kernel_rfl)] at h
  have h0 : laidMet Tryd.prog (("math/bits.deBruijn32tab", Rows.laid_math_bits_deBruijn32tab) :: ("math/bits.deBruijn64tab", Rows.laid_math_bits_deBruijn64tab) :: ("internal/strconv.uint64pow10", Rows.laid_internal_strconv_uint64pow10) :: [("loop.example/g01378/impl.errRange", Rows.laid_loop_example_g01378_impl_errRange)]) W := h
  have h2 := laidMet.tail (laidMet.tail h0)
  have e2 : (Rows.laid_internal_strconv_uint64pow10 : DataW Unit) = Lib.tabData .u64 Lib.pow10Tab := by kernel_rfl
  have h3 := h2
  rw [e2] at h3
  obtain ⟨a, ha⟩ := err1_of [("loop.example/g01378/impl.errRange", Rows.laid_loop_example_g01378_impl_errRange)] (laidMet.tail h2) (by kernel_rfl) (by
    have hall : ((listOf [("loop.example/g01378/impl.errRange", Rows.laid_loop_example_g01378_impl_errRange)]).all fun x => match Tryd.prog.globalNamed x.1 with | some g => decide ((Tryd.prog.globals[g]?).map (·.type) = some 94) | none => false) = true := by kernel_rfl
    intro x hx
    have h1 := List.all_eq_true.1 hall x hx
    split at h1
    · rename_i g hg
      exact ⟨g, hg, of_decide_eq_true h1⟩
    · cases h1) (by kernel_rfl)
  exact ⟨fun _ => a, ha, tabJ_of h3⟩

set_option maxRecDepth 100000 in
theorem contract (H : Type) (enc : TypeId × Value → H) (W : World) (base : Nat) (args : Array Value) (ds gs : List (DataW H)) (before : List MemPlace)
    (hval : ∀ (j : Nat) t v, Tryd.f11.params[j]? = some t → args[j]? = some v → Value.okWide Tryd.prog W .any base t v)
    (hW : DataW.Whole enc Tryd.prog Tryd.f11.params.toList Rows.fnExactHouseTextSpec.vars false W args.toList ds gs before) (hL : laidMetH Tryd.prog Rows.fnExactHouseTextRow.laid W) :
    Calls Tryd.prog 11 args W fun e W' => ∃ v, e = .returned v ∧ Rows.fnExactHouseTextSpec.post enc Tryd.prog Tryd.f11 false true false false W args v W' := by
  obtain ⟨ee, hE⟩ := errsLaid hL
  have hW' := hW
  obtain ⟨p, q, hA0, hV, rfl, hfz, hnd⟩ := hW
  have hA : DataW.TrodAll enc Tryd.prog W 0 (fun _ => true) true Tryd.f11.params.toList args.toList ds p := hA0
  rw [Tryd.params11] at hA hval
  clear hA0
  obtain ⟨v0, vs0, d0, ds0, p0, q0, hargs, rfl, rfl, h0, r0⟩ := trodAll_cons hA
  obtain ⟨rfl, rfl, rfl⟩ := trodAll_nil r0
  obtain rfl : args = #[v0] := by cases args; simp_all
  obtain ⟨z0, rfl⟩ := vars1_of hV
  obtain ⟨hE, hTab⟩ := hE
  obtain ⟨A, c, xs, t, x, d, rfl, hm, hS, hF, ht, hx, hd⟩ := open_house (hval 0 69 v0 rfl rfl) h0
  have hw : Calls Tryd.prog 11 #[houV (.slice A xs.length c) t x d] W fun o w' => o = .returned (.bool true) ∧ Below W.heap.size W w' := by
    by_cases hbig : xs.length ≤ 1048576
    · exact walk_fits A xs.length c xs t x d rfl hbig hF ht hx hd W ee hE hTab hS
    · exact walk_big A xs.length c t x d (by omega) (by unfold maxLen at hm; omega) W
  refine hw.mono fun e W' ⟨he, hb⟩ => ?_
  subst he
  exact ⟨_, rfl, close_vars laidOut readables (by kernel_rfl) Tryd.underlying4 rfl rfl hW' hb⟩

end Go.Proofs.YtjfimmfnhlimkaaDoor.lawHouseText
