/-
  THE LAW FnExactFindSheet: for every list of piles and every number the law returns true: the program finds a sheet where the model does, and changes no pile. No condition but that the package's errors are what the program's text lays.
-/
import Derived.Test.YtcbbabepjfiigaaDoorCupF
import Derived.Test.YtcbbabepjfiigaaDoorRowsOpen
import Derived.Test.YtcbbabepjfiigaaDoorClose
import Derived.Test.YtcbbabepjfiigaaDoorLaid
import Derived.Test.YtcbbabepjfiigaaDoorCards
import Derived.Test.YtcbbabepjfiigaaDoorTie
namespace Go.Proofs.YtcbbabepjfiigaaDoor.lawFindSheet
open Go.ChangeShapes Go.WideShapes Go.ChangeAt Go.RowKit Go.Joins sl errs fold rows cup

set_option maxRecDepth 100000 in
set_option maxHeartbeats 4000000 in
theorem walk (A : Option Addr) (n c : Nat) (rs : List Rw) (en : n = rs.length) (hm : n ≤ 9223372036854775807) (w : World) (e : Nat → Addr) (hE : Errs w w.heap.size e) (hg : SS w w.heap.size A rs) (s : Int) :
    Calls Tryd.prog 12 #[.slice A n c, .int .i64 s] w fun o w' => o = .returned (.bool true) ∧ Below w.heap.size w w' := by
  have En := Lib.hid en
  have HE := Lib.hid hE
  obtain ⟨p, i, k, hr⟩ := FR.exists (nums rs) s
  have HR := Lib.hid hr
  clear en hE hr
  go_enter Tryd.func12, Tryd.ntmps12
  go_wp2_with fail
  refine (szSS_any A n c rs En.out hm 1048576 (by omega) _ hg).mono ?_
  rintro o u ⟨z, rfl, rfl, hz0, hz1, hz⟩
  by_cases hz2 : z < 0
  · clear hz
    go_wp2_with fail
    go_ret
    exact ⟨rfl, Below.refl _ _⟩
  · obtain ⟨hn, hs⟩ := hz (by omega)
    have HS := Lib.hid hs
    clear hz hs
    go_wp2_with fail
    refine (toSS_any A n c rs En.out hn HS.out _ hg).mono ?_
    rintro o u ⟨g1, rs1, rfl, l1, n1, O, hb⟩
    have B1 := Lib.hid hb
    have O1 := Lib.hid O
    have L1 := Lib.hid l1
    have N1 := Lib.hid n1
    clear hb O l1 n1
    go_wp2_with fail
    refine (FindSheet_spec (some ⟨g1, 0, none⟩) n n rs1 s L1.out.symm (by omega) _ O1.out.ss p i k (by rw [N1.out]; exact HR.out)).mono ?_
    rintro o u ⟨rfl, hb⟩
    have B2 := Lib.hid (below_next B1.out hb (Nat.le_refl _))
    clear hb O1 L1 N1 B1
    go_wp2_with fail
    refine (toSS_any A n c rs En.out hn HS.out _ ((hg.below B2.out).more B2.out.size)).mono ?_
    rintro o u ⟨g3, rs3, rfl, l3, n3, O, hb⟩
    have B3 := Lib.hid (below_next B2.out hb (Nat.le_refl _))
    have O3 := Lib.hid O
    have L3 := Lib.hid l3
    have N3 := Lib.hid n3
    clear hb O l3 n3 B2
    go_wp2_with fail
    refine (FindSheet_any (some ⟨g3, 0, none⟩) n n rs3 s L3.out.symm (by omega) (HE.out.below B3.out) B3.out.size O3.out.ss p i k (by rw [N3.out]; exact HR.out)).mono ?_
    rintro o u ⟨rfl, hb⟩
    have B4 := Lib.hid (below_next B3.out hb (Nat.le_refl _))
    have O4 := Lib.hid (O3.out.next hb)
    clear hb B3 O3
    go_wp2_with fail
    refine (toSS_any A n c rs En.out hn HS.out _ ((hg.below B4.out).more B4.out.size)).mono ?_
    rintro o u ⟨g5, rs5, rfl, l5, n5, O, hb⟩
    have B5 := Lib.hid (below_next B4.out hb (Nat.le_refl _))
    have O45 := Lib.hid (O4.out.next hb)
    have O5 := Lib.hid O
    have L5 := Lib.hid l5
    have N5 := Lib.hid n5
    clear hb O l5 n5 B4 O4
    go_wp2_with fail
    refine (eqSS_any (some ⟨g3, 0, none⟩) (some ⟨g5, 0, none⟩) n n n n rs3 rs5 L3.out.symm L5.out.symm hn (by omega) (fun r hr => ?_) _ O45.out.ss O5.out.ss true (by rw [N3.out, N5.out]; simp)).mono ?_
    · have hx : r.xs ∈ nums rs3 := List.mem_map_of_mem hr
      rw [N3.out] at hx
      obtain ⟨r0, h0, e0⟩ := List.mem_map.1 hx
      rw [← e0]
      exact HS.out r0 h0
    rintro o u ⟨rfl, hb⟩
    have B6 := Lib.hid (below_next B5.out hb (Nat.le_refl _))
    clear hb B5 O45 O5
    go_wp2_with fail
    go_ret
    exact ⟨rfl, B6.out⟩

theorem readables : ∀ t ∈ Tryd.f12.params.toList, Tryd.prog.readableRec t = true ∧ t < Tryd.prog.types.size := by
  rw [Tryd.params12]
  intro t ht
  simp only [List.mem_cons, List.not_mem_nil, or_false] at ht
  rcases ht with rfl | rfl <;> exact ⟨by kernel_rfl, of_decide_eq_true (by kernel_rfl)⟩

set_option maxRecDepth 100000 in
/-- what the row's list gives -/
theorem errsLaid {W : World} (h : laidMetH Tryd.prog Rows.fnExactFindSheetRow.laid W) : ∃ e, Errs W W.heap.size e := by
  rw [MakeChecks.laidMetH_plain _ _ _ (by kernel_rfl)] at h
  refine errs_of Rows.fnExactFindSheetRow.laid (fun i => i) h (by kernel_rfl) ?_ ?_ (fun i j _ _ h => h)
  · have hall : ((listOf Rows.fnExactFindSheetRow.laid).all fun x => match Tryd.prog.globalNamed x.1 with | some g => decide ((Tryd.prog.globals[g]?).map (·.type) = some 65) | none => false) = true := by kernel_rfl
    intro x hx
    have h1 := List.all_eq_true.1 hall x hx
    split at h1
    · rename_i g hg
      exact ⟨g, hg, of_decide_eq_true h1⟩
    · cases h1
  · have b0 : ((listOf Rows.fnExactFindSheetRow.laid)[0]?).bind (fun x => Tryd.prog.globalNamed x.1) = some (gvar 0) := by kernel_rfl
    have b1 : ((listOf Rows.fnExactFindSheetRow.laid)[1]?).bind (fun x => Tryd.prog.globalNamed x.1) = some (gvar 1) := by kernel_rfl
    have b2 : ((listOf Rows.fnExactFindSheetRow.laid)[2]?).bind (fun x => Tryd.prog.globalNamed x.1) = some (gvar 2) := by kernel_rfl
    have b3 : ((listOf Rows.fnExactFindSheetRow.laid)[3]?).bind (fun x => Tryd.prog.globalNamed x.1) = some (gvar 3) := by kernel_rfl
    have b4 : ((listOf Rows.fnExactFindSheetRow.laid)[4]?).bind (fun x => Tryd.prog.globalNamed x.1) = some (gvar 4) := by kernel_rfl
    have b5 : ((listOf Rows.fnExactFindSheetRow.laid)[5]?).bind (fun x => Tryd.prog.globalNamed x.1) = some (gvar 5) := by kernel_rfl
    have b6 : ((listOf Rows.fnExactFindSheetRow.laid)[6]?).bind (fun x => Tryd.prog.globalNamed x.1) = some (gvar 6) := by kernel_rfl
    intro i hi
    match i, hi with
    | 0, _ => exact b0
    | 1, _ => exact b1
    | 2, _ => exact b2
    | 3, _ => exact b3
    | 4, _ => exact b4
    | 5, _ => exact b5
    | 6, _ => exact b6

set_option maxRecDepth 100000 in
theorem contract (H : Type) (enc : TypeId × Value → H) (W : World) (base : Nat) (args : Array Value) (ds gs : List (DataW H)) (before : List MemPlace)
    (hval : ∀ (j : Nat) t v, Tryd.f12.params[j]? = some t → args[j]? = some v → Value.okWide Tryd.prog W .any base t v)
    (hW : DataW.Whole enc Tryd.prog Tryd.f12.params.toList Rows.fnExactFindSheetSpec.vars false W args.toList ds gs before) (hL : laidMetH Tryd.prog Rows.fnExactFindSheetRow.laid W) :
    Calls Tryd.prog 12 args W fun e W' => ∃ v, e = .returned v ∧ Rows.fnExactFindSheetSpec.post enc Tryd.prog Tryd.f12 false true false false W args v W' := by
  obtain ⟨ee, hE⟩ := errsLaid hL
  have hW' := hW
  obtain ⟨p, q, hA0, hV, rfl, hfz, hnd⟩ := hW
  have hA : DataW.TrodAll enc Tryd.prog W 0 (fun _ => true) true Tryd.f12.params.toList args.toList ds p := hA0
  rw [Tryd.params12] at hA hval
  clear hA0
  obtain ⟨v0, vs0, d0, ds0, p0, q0, hargs, rfl, rfl, h0, r0⟩ := trodAll_cons hA
  obtain ⟨v1, vs1, d1, ds1, p1, q1, rfl, rfl, rfl, h1, r1⟩ := trodAll_cons r0
  obtain ⟨rfl, rfl, rfl⟩ := trodAll_nil r1
  obtain rfl : args = #[v0, v1] := by cases args; simp_all
  obtain ⟨z0, z1, z2, z3, z4, z5, z6, rfl⟩ := vars_of hV
  obtain ⟨A, c, rs, rfl, hl, hg⟩ := open_rows (hval 0 53 v0 rfl rfl) h0
  obtain ⟨s, rfl, rfl, rfl, _⟩ := open_int Tryd.underlying2 (hval 1 2 v1 rfl rfl) h1
  unfold maxLen at hl
  refine (walk A rs.length c rs rfl hl W ee hE hg s).mono fun e W' ⟨he, hb⟩ => ?_
  subst he
  exact ⟨_, rfl, close_vars laidOut readables (by kernel_rfl) Tryd.underlying4 rfl rfl hW' hb⟩

end Go.Proofs.YtcbbabepjfiigaaDoor.lawFindSheet
