/-
  THE LAW FnExactReadGarments: for every text the law returns true: the program reads the garments that the model reads, and what it returns is its own. No condition but that the package's errors, the library's two errors of numbers and its tables are what the program's text lays.
-/
import Derived.Test.YtjfimmfnhlimkaaDoorJoin29
import Derived.Test.YtjfimmfnhlimkaaDoorJoin16
import Derived.Test.YtjfimmfnhlimkaaDoorOpenWords
import Derived.Test.YtjfimmfnhlimkaaDoorClose
import Derived.Test.YtjfimmfnhlimkaaDoorRdLaid
import Derived.Test.YtjfimmfnhlimkaaDoorCards
import Derived.Test.YtjfimmfnhlimkaaDoorTie
import Derived.ProofKit
import Derived.OpenShut
import Derived.ChangeMaps5
import Derived.Lib.SmallJoins
namespace Go.Proofs.YtjfimmfnhlimkaaDoor.lawReadGarments
open Go.ChangeShapes Go.WideShapes Go.ChangeAt Go.RowKit Go.Joins sl errs txt rd garS gart

set_option maxRecDepth 100000 in
set_option maxHeartbeats 4000000 in
theorem walk (s : ByteArray) (hs : s.size ≤ 1048576) (w : World) (e : Nat → Addr) (hE : Errs w w.heap.size e) (hN : NE w w.heap.size) (hT : TabJ w) :
    Calls Tryd.prog 8 #[.string s] w fun e w' => e = .returned (.bool true) ∧ Below w.heap.size w w' := by
  obtain ⟨ys, k, hr⟩ : ∃ ys k, rdG s.data.toList = (ys, k) := ⟨_, _, rfl⟩
  have HR := Lib.hid hr
  have hys : ys.length ≤ 1048576 := Nat.le_trans (rdG_le HR.out).1 (by decide)
  have H0 := Lib.hid (Below.refl w.heap.size w)
  have HIP := Lib.hid (fun (u : World) (hu : Below w.heap.size w u) => ReadGarments_any s hs ys k HR.out (hE.below hu) (hN.below hu) hu.size (fun w' hw' => hT w' (hu.trans (hw'.mono hu.size))))
  have hfit := (rdG_le HR.out).2
  clear hr hE hN hT
  go_enter Tryd.func8, Tryd.ntmps8
  go_wp2_with fail
  refine (ReadGarments_spec s hs ys k HR.out _).mono ?_
  rintro o u ⟨v, rfl, P, hb⟩
  obtain ⟨Aw, cw, rfl, _⟩ := owns_slice P
  have LPW := Lib.hid (fun k hk => P.lt k hk)
  have z1 := hb.size
  have H1 := Lib.hid (below_next H0.out hb (Nat.le_refl _))
  clear hb H0
  have PW := Lib.hid P
  clear P
  go_wp2_with fail
  refine (HIP.out _ H1.out).mono ?_
  rintro o u ⟨v, rfl, P, hb⟩
  obtain ⟨Ag, cg, rfl, _⟩ := owns_slice P
  have LPG := Lib.hid (fun k hk => P.lt k hk)
  have z2 := hb.size
  have H2 := Lib.hid (below_next H1.out hb (Nat.le_refl _))
  have PW_2 := Lib.hid (owns_next PW.out hb)
  clear hb H1 PW
  have PG := Lib.hid P
  clear P
  go_wp2_with fail
  refine (eqGarmentS_any Ag Aw cg cw ys ys hys _ (gs_of_ownsR PG.out hfit) (gs_of_ownsR PW_2.out hfit) true (by simp)).mono ?_
  rintro o u ⟨rfl, hb⟩
  have z3 := hb.size
  have H3 := Lib.hid (below_next H2.out hb (Nat.le_refl _))
  have PW_3 := Lib.hid (owns_next PW_2.out hb)
  have PG_3 := Lib.hid (owns_next PG.out hb)
  clear hb H2 PW_2 PG
  go_wp2_with fail
  refine (garL.markS_any _ _ _ 1 (by omega) hys _ _ PG_3.out).mono ?_
  rintro o u ⟨rfl, P, g9, hg9, hgr, _⟩
  have z4 := hgr.size
  have H4 := Lib.hid (H3.out.trans (grownBy_below hgr H3.out.size (by omega)))
  have PW_4 := Lib.hid (owns_other PW_3.out hgr (fun k hk e => by have t := LPW.out k hk; omega))
  clear hgr H3 PW_3
  clear PG_3
  have PM := Lib.hid P
  clear P
  have LPM := LPG
  clear LPG
  have k2 : decide ((1 : Int) + 4 * (ys.length : Int) < 0) = false := by simp; omega
  go_wp2_with fail
  refine (garL.heldS_any Ag _ cg 1 (by omega) hys _ _ (Sl.of_owns PM.out (Gar.lenL _) (by decide))).mono ?_
  rintro o u ⟨rfl, rfl⟩
  go_wp2_with fail
  refine (HIP.out _ H4.out).mono ?_
  rintro o u ⟨v, rfl, P, hb⟩
  obtain ⟨Ah, ch, rfl, _⟩ := owns_slice P
  have LPH := Lib.hid (fun k hk => P.lt k hk)
  have z5 := hb.size
  have H5 := Lib.hid (below_next H4.out hb (Nat.le_refl _))
  have PW_5 := Lib.hid (owns_next PW_4.out hb)
  have PM_5 := Lib.hid (owns_next PM.out hb)
  clear hb H4 PW_4 PM
  have PH := Lib.hid P
  clear P
  go_wp2_with fail
  refine (eqGarmentS_any Ah Aw ch cw ys ys hys _ (gs_of_ownsR PH.out hfit) (gs_of_ownsR PW_5.out hfit) true (by simp)).mono ?_
  rintro o u ⟨rfl, hb⟩
  have z6 := hb.size
  have H6 := Lib.hid (below_next H5.out hb (Nat.le_refl _))
  have PW_6 := Lib.hid (owns_next PW_5.out hb)
  have PM_6 := Lib.hid (owns_next PM_5.out hb)
  have PH_6 := Lib.hid (owns_next PH.out hb)
  clear hb H5 PW_5 PM_5 PH
  go_wp2_with fail
  refine (garL.heldS_any Ag _ cg 1 (by omega) hys _ _ (Sl.of_owns PM_6.out (Gar.lenL _) (by decide))).mono ?_
  rintro o u ⟨rfl, rfl⟩
  go_wp2_with fail
  go_ret
  exact ⟨rfl, H6.out⟩
set_option maxHeartbeats 1000000 in
theorem walk_long (s : ByteArray) (hm : s.size ≤ 9223372036854775807) (hs : 1048576 < s.size) (w : World) :
    Calls Tryd.prog 8 #[.string s] w fun e w' => e = .returned (.bool true) ∧ Below w.heap.size w w' := by
  go_enter Tryd.func8, Tryd.ntmps8
  go_wp2_with fail
  go_ret
  exact ⟨rfl, Below.refl _ _⟩

theorem readables : ∀ t ∈ Tryd.f8.params.toList, Tryd.prog.readableRec t = true ∧ t < Tryd.prog.types.size := by
  rw [Tryd.params8]
  intro t ht
  simp only [List.mem_cons, List.not_mem_nil, or_false] at ht
  subst ht
  exact ⟨by kernel_rfl, of_decide_eq_true (by kernel_rfl)⟩

set_option maxRecDepth 100000 in
theorem errsLaid {W : World} (h : laidMetH Tryd.prog Rows.fnExactReadGarmentsRow.laid W) : ∃ e, Errs W W.heap.size e ∧ TabJ W ∧ NE W W.heap.size := by
  rw [MakeChecks.laidMetH_plain _ _ _ (by kernel_rfl)] at h
  exact readLaidG h

set_option maxRecDepth 100000 in
theorem contract (H : Type) (enc : TypeId × Value → H) (W : World) (base : Nat) (args : Array Value) (ds gs : List (DataW H)) (before : List MemPlace)
    (hval : ∀ (j : Nat) t v, Tryd.f8.params[j]? = some t → args[j]? = some v → Value.okWide Tryd.prog W .any base t v)
    (hW : DataW.Whole enc Tryd.prog Tryd.f8.params.toList Rows.fnExactReadGarmentsSpec.vars false W args.toList ds gs before) (hL : laidMetH Tryd.prog Rows.fnExactReadGarmentsRow.laid W) :
    Calls Tryd.prog 8 args W fun e W' => ∃ v, e = .returned v ∧ Rows.fnExactReadGarmentsSpec.post enc Tryd.prog Tryd.f8 false true false false W args v W' := by
  obtain ⟨ee, hE⟩ := errsLaid hL
  have hW' := hW
  obtain ⟨p, q, hA0, hV, rfl, hfz, hnd⟩ := hW
  have hA : DataW.TrodAll enc Tryd.prog W 0 (fun _ => true) true Tryd.f8.params.toList args.toList ds p := hA0
  rw [Tryd.params8] at hA hval
  clear hA0
  obtain ⟨v0, vs0, d0, ds0, p0, q0, hargs, rfl, rfl, h0, r0⟩ := trodAll_cons hA
  obtain ⟨rfl, rfl, rfl⟩ := trodAll_nil r0
  obtain rfl : args = #[v0] := by cases args; simp_all
  obtain ⟨z0, z1, z2, z3, z4, z5, z6, rfl⟩ := vars_of hV
  obtain ⟨hE, hT, hN⟩ := hE
  obtain ⟨s, rfl, rfl, rfl, ws⟩ := Go.ChangeMaps.open_string Tryd.underlying9 (hval 0 9 v0 rfl rfl) h0
  have walk' : Calls Tryd.prog 8 #[.string s] W fun e W' => e = .returned (.bool true) ∧ Below W.heap.size W W' := by
    unfold maxLen at ws
    rcases Nat.lt_or_ge 1048576 s.size with h | h
    · exact walk_long s ws h W
    · exact walk s h W ee hE hN hT
  refine walk'.mono fun e W' ⟨he, hb⟩ => ?_
  subst he
  exact ⟨_, rfl, close_vars laidOut readables (by kernel_rfl) Tryd.underlying4 rfl rfl hW' hb⟩

end Go.Proofs.YtjfimmfnhlimkaaDoor.lawReadGarments
