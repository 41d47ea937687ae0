/-
  THE LAW FnExactFoldsText: for all folds the law returns true: the program answers as the model does, changes no argument. No condition but that the package's errors are what the program's text lays.
-/
import Derived.Test.YtdcckdfemelbiaaDoorFolText
import Derived.Test.YtdcckdfemelbiaaDoorIntOpen
import Derived.Test.YtdcckdfemelbiaaDoorOpenWords
import Derived.Test.YtdcckdfemelbiaaDoorClose
import Derived.Test.YtdcckdfemelbiaaDoorLaid
import Derived.Test.YtdcckdfemelbiaaDoorCards
import Derived.Test.YtdcckdfemelbiaaDoorTie
import Derived.ProofKit
import Derived.OpenShut
import Derived.Lib.SmallJoins
namespace Go.Proofs.YtdcckdfemelbiaaDoor.lawFoldsText
open Go.ChangeShapes Go.WideShapes Go.ChangeAt Go.RowKit Go.Joins sl errs folw fold 

set_option maxRecDepth 100000 in
set_option maxHeartbeats 8000000 in
theorem walk (Aks : Option Addr) (nks cks : Nat) (ks : List Int) (enks : nks = ks.length) (hnks : nks ≤ 1048576) (w : World) (e : Nat → Addr) (hE : EL w w.heap.size e) (hgks : Sl intS.C 1 w w.heap.size Aks ks) :
    Calls Tryd.prog 3 #[.slice Aks nks cks] w fun o w' => o = .returned (.bool true) ∧ Below w.heap.size w w' := by
  have Eks := Lib.hid enks
  have Gks := Lib.hid hgks
  obtain ⟨r0, hr⟩ : ∃ r0, ftR ks = (r0) := ⟨_, rfl⟩
  have HR := Lib.hid hr
  have HE := Lib.hid hE
  have H0 := Lib.hid (Below.refl w.heap.size w)
  clear hr hE enks hgks
  go_enter Tryd.func3, Tryd.ntmps3
  go_wp2_with fail
  refine (intS.toS_any Aks nks cks ks Eks.out hnks _ ((Gks.out.below H0.out).more H0.out.size)).mono ?_
  rintro o u ⟨ga0, rfl, P, hb⟩
  have ga0l := (P.lt ga0 rfl).1
  have ga0h := (P.lt ga0 rfl).2
  have LXa0 := Lib.hid (fun k hk => P.lt k hk)
  have z1 := hb.size
  have H1 := Lib.hid (below_next H0.out hb (Nat.le_refl _))
  clear hb H0
  have Xa0 := Lib.hid P
  clear P
  go_wp2_with fail
  refine (FoldsText_spec (some ⟨ga0, 0, none⟩) nks ks Eks.out hnks r0 HR.out _ (Sl.of_owns Xa0.out (intS.len _) (by decide))).mono ?_
  rintro o u ⟨rfl, hb⟩
  clear Xa0 LXa0
  have z2 := hb.size
  have H2 := Lib.hid (below_next H1.out hb (Nat.le_refl _))
  clear hb H1
  go_wp2_with fail
  refine (intS.toS_any Aks nks cks ks Eks.out hnks _ ((Gks.out.below H2.out).more H2.out.size)).mono ?_
  rintro o u ⟨gb0, rfl, P, hb⟩
  have gb0l := (P.lt gb0 rfl).1
  have gb0h := (P.lt gb0 rfl).2
  have LXb0 := Lib.hid (fun k hk => P.lt k hk)
  have z3 := hb.size
  have H3 := Lib.hid (below_next H2.out hb (Nat.le_refl _))
  clear hb H2
  have Xb0 := Lib.hid P
  clear P
  go_wp2_with fail
  refine (FoldsText_any (some ⟨gb0, 0, none⟩) nks nks ks Eks.out hnks r0 HR.out (HE.out.below H3.out) H3.out.size (Sl.of_owns Xb0.out (intS.len _) (by decide))).mono ?_
  rintro o u ⟨rfl, hb⟩
  have z4 := hb.size
  have H4 := Lib.hid (below_next H3.out hb (Nat.le_refl _))
  have Xb0_4 := Lib.hid (owns_next Xb0.out hb)
  clear hb H3 Xb0
  go_wp2_with fail
  refine (intS.toS_any Aks nks cks ks Eks.out hnks _ ((Gks.out.below H4.out).more H4.out.size)).mono ?_
  rintro o u ⟨gc0, rfl, P, hb⟩
  have gc0l := (P.lt gc0 rfl).1
  have gc0h := (P.lt gc0 rfl).2
  have LXc0 := Lib.hid (fun k hk => P.lt k hk)
  have z5 := hb.size
  have H5 := Lib.hid (below_next H4.out hb (Nat.le_refl _))
  have Xb0_5 := Lib.hid (owns_next Xb0_4.out hb)
  clear hb H4 Xb0_4
  have Xc0 := Lib.hid P
  clear P
  go_wp2_with fail
  refine (intS.eqS_any (some ⟨gb0, 0, none⟩) (some ⟨gc0, 0, none⟩) nks nks nks nks ks ks Eks.out Eks.out hnks (by omega) _ (Sl.of_owns Xb0_5.out (intS.len _) (by decide)) (Sl.of_owns Xc0.out (intS.len _) (by decide)) true (by simp)).mono ?_
  rintro o u ⟨rfl, hb⟩
  clear Xc0 LXc0
  have z6 := hb.size
  have H6 := Lib.hid (below_next H5.out hb (Nat.le_refl _))
  have Xb0_6 := Lib.hid (owns_next Xb0_5.out hb)
  clear hb H5 Xb0_5
  go_wp2_with fail
  go_ret
  exact ⟨rfl, H6.out⟩

set_option maxHeartbeats 1000000 in
theorem walk_long0 (Aks : Option Addr) (nks cks : Nat) (hmks : nks ≤ 9223372036854775807)  (hbks : 1048576 < nks) (w : World) :
    Calls Tryd.prog 3 #[.slice Aks nks cks] w fun e w' => e = .returned (.bool true) ∧ Below w.heap.size w w' := by
  go_enter Tryd.func3, Tryd.ntmps3
  go_wp2_with fail
  go_ret
  exact ⟨rfl, by repeat (first | exact Below.refl _ _ | assumption | apply Below.drew | (refine Below.alloc ?_ (by first | (simp; done) | (simp; omega) | omega) _) | (refine Below.setCell ?_ (by first | (simp; done) | (simp; omega) | omega) _))⟩

theorem readables : ∀ t ∈ Tryd.f3.params.toList, Tryd.prog.readableRec t = true ∧ t < Tryd.prog.types.size := by
  rw [Tryd.params3]
  intro t ht
  simp only [List.mem_cons, List.not_mem_nil, or_false] at ht
  subst ht
  exact ⟨by kernel_rfl, of_decide_eq_true (by kernel_rfl)⟩

set_option maxRecDepth 100000 in
theorem errsLaid {W : World} (h : laidMetH Tryd.prog Rows.fnExactFoldsTextRow.laid W) : ∃ e : Nat → Addr, EL W W.heap.size e := by
  rw [MakeChecks.laidMetH_plain _ _ _ (by kernel_rfl)] at h
  exact errL_of Rows.fnExactFoldsTextRow.laid h (by kernel_rfl) (by
    have hall : ((listOf Rows.fnExactFoldsTextRow.laid).all fun x => match Tryd.prog.globalNamed x.1 with | some g => decide ((Tryd.prog.globals[g]?).map (·.type) = some 80) | none => false) = true := by kernel_rfl
    intro x hx
    have h1 := List.all_eq_true.1 hall x hx
    split at h1
    · rename_i g hg
      exact ⟨g, hg, of_decide_eq_true h1⟩
    · cases h1) (by kernel_rfl) (by kernel_rfl)

set_option maxRecDepth 100000 in
theorem contract (H : Type) (enc : TypeId × Value → H) (W : World) (base : Nat) (args : Array Value) (ds gs : List (DataW H)) (before : List MemPlace)
    (hval : ∀ (j : Nat) t v, Tryd.f3.params[j]? = some t → args[j]? = some v → Value.okWide Tryd.prog W .any base t v)
    (hW : DataW.Whole enc Tryd.prog Tryd.f3.params.toList Rows.fnExactFoldsTextSpec.vars false W args.toList ds gs before) (hL : laidMetH Tryd.prog Rows.fnExactFoldsTextRow.laid W) :
    Calls Tryd.prog 3 args W fun e W' => ∃ v, e = .returned v ∧ Rows.fnExactFoldsTextSpec.post enc Tryd.prog Tryd.f3 false true false false W args v W' := by
  obtain ⟨ee, hE⟩ := errsLaid hL
  have hW' := hW
  obtain ⟨p, q, hA0, hV, rfl, hfz, hnd⟩ := hW
  have hA : DataW.TrodAll enc Tryd.prog W 0 (fun _ => true) true Tryd.f3.params.toList args.toList ds p := hA0
  rw [Tryd.params3] at hA hval
  clear hA0
  obtain ⟨v0, vs0, d0, ds0, p0, q0, hargs, rfl, rfl, h0, r0⟩ := trodAll_cons hA
  obtain ⟨rfl, rfl, rfl⟩ := trodAll_nil r0
  obtain rfl : args = #[v0] := by cases args; simp_all
  obtain ⟨z0, z1, rfl⟩ := vars2_of hV
  obtain ⟨Aks, cks, ks, rfl, hlks, hgks⟩ := intS.open_many (hval 0 22 v0 rfl rfl) h0
  have walk : Calls Tryd.prog 3 #[.slice Aks ks.length cks] W fun e W' => e = .returned (.bool true) ∧ Below W.heap.size W W' := by
    unfold maxLen at hlks
    rcases Nat.lt_or_ge 1048576 ks.length with hkss | hkss
    · exact walk_long0 Aks _ cks hlks  hkss W
    exact walk Aks _ cks ks rfl hkss W ee hE hgks
  refine walk.mono fun e W' ⟨he, hb⟩ => ?_
  subst he
  exact ⟨_, rfl, close_vars laidOut readables (by kernel_rfl) Tryd.underlying4 rfl rfl hW' hb⟩

end Go.Proofs.YtdcckdfemelbiaaDoor.lawFoldsText
