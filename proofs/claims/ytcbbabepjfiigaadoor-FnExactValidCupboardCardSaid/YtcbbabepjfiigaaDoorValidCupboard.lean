/-
  THE LAW FnExactValidCupboard: for every list of piles the law returns true: the program says that it is valid just where the model does, and changes none. No condition but that the package's errors are what the program's text lays.
-/
import Derived.Test.YtcbbabepjfiigaaDoorJoin15
import Derived.Test.YtcbbabepjfiigaaDoorCupI
import Derived.Test.YtcbbabepjfiigaaDoorRowsOpen
import Derived.Test.YtcbbabepjfiigaaDoorClose
import Derived.Test.YtcbbabepjfiigaaDoorLaid
import Derived.Test.YtcbbabepjfiigaaDoorCards
import Derived.Test.YtcbbabepjfiigaaDoorTie
namespace Go.Proofs.YtcbbabepjfiigaaDoor.lawValidCupboard
open Go.ChangeShapes Go.WideShapes Go.ChangeAt Go.RowKit Go.Joins sl errs fold rows cup

set_option maxRecDepth 100000 in
set_option maxHeartbeats 4000000 in
theorem walk (A : Option Addr) (n c : Nat) (rs : List Rw) (en : n = rs.length) (hm : n ≤ 9223372036854775807) (w : World) (e : Nat → Addr) (hE : E1 w w.heap.size (e 0)) (hg : SS w w.heap.size A rs) :
    Calls Tryd.prog 11 #[.slice A n c] w fun o w' => o = .returned (.bool true) ∧ Below w.heap.size w w' := by
  have En := Lib.hid en
  have HE := Lib.hid hE
  obtain ⟨b, hb⟩ := some_bool (CupOk (nums rs))
  have Hb := Lib.hid hb
  clear en hE hb
  go_enter Tryd.func11, Tryd.ntmps11
  go_wp2_with fail
  refine (szSS_any A n c rs En.out hm 1048576 (by omega) _ hg).mono ?_
  rintro o u ⟨z, rfl, rfl, hz0, hz1, hz⟩
  by_cases hz2 : z < 0
  · clear hz
    go_wp2_with fail
    go_ret
    exact ⟨rfl, Below.refl _ _⟩
  · obtain ⟨hn, hs⟩ := hz (by omega)
    have HS := Lib.hid hs
    clear hz hs
    go_wp2_with fail
    refine (toSS_any A n c rs En.out hn HS.out _ hg).mono ?_
    rintro o u ⟨g1, rs1, rfl, l1, n1, O, hb⟩
    have B1 := Lib.hid hb
    have O1 := Lib.hid O
    have L1 := Lib.hid l1
    have N1 := Lib.hid n1
    clear hb O l1 n1
    go_wp2_with fail
    refine (ValidCupboard_spec (some ⟨g1, 0, none⟩) n n rs1 L1.out.symm (by omega) _ O1.out.ss b (by rw [N1.out]; exact Hb.out)).mono ?_
    rintro o u ⟨rfl, hb⟩
    have B2 := Lib.hid (below_next B1.out hb (Nat.le_refl _))
    clear hb O1 L1 N1 B1
    go_wp2_with fail
    refine (toSS_any A n c rs En.out hn HS.out _ ((hg.below B2.out).more B2.out.size)).mono ?_
    rintro o u ⟨g3, rs3, rfl, l3, n3, O, hb⟩
    have B3 := Lib.hid (below_next B2.out hb (Nat.le_refl _))
    have O3 := Lib.hid O
    have L3 := Lib.hid l3
    have N3 := Lib.hid n3
    clear hb O l3 n3 B2
    go_wp2_with fail
    refine (ValidCupboard_any (some ⟨g3, 0, none⟩) n n rs3 L3.out.symm (by omega) (HE.out.below B3.out) B3.out.size O3.out.ss b (by rw [N3.out]; exact Hb.out)).mono ?_
    rintro o u ⟨rfl, hb⟩
    have B4 := Lib.hid (below_next B3.out hb (Nat.le_refl _))
    have O4 := Lib.hid (O3.out.next hb)
    clear hb B3 O3
    go_wp2_with fail
    refine (toSS_any A n c rs En.out hn HS.out _ ((hg.below B4.out).more B4.out.size)).mono ?_
    rintro o u ⟨g5, rs5, rfl, l5, n5, O, hb⟩
    have B5 := Lib.hid (below_next B4.out hb (Nat.le_refl _))
    have O45 := Lib.hid (O4.out.next hb)
    have O5 := Lib.hid O
    have L5 := Lib.hid l5
    have N5 := Lib.hid n5
    clear hb O l5 n5 B4 O4
    go_wp2_with fail
    refine (eqSS_any (some ⟨g3, 0, none⟩) (some ⟨g5, 0, none⟩) n n n n rs3 rs5 L3.out.symm L5.out.symm hn (by omega) (fun r hr => ?_) _ O45.out.ss O5.out.ss true (by rw [N3.out, N5.out]; simp)).mono ?_
    · have hx : r.xs ∈ nums rs3 := List.mem_map_of_mem hr
      rw [N3.out] at hx
      obtain ⟨r0, h0, e0⟩ := List.mem_map.1 hx
      rw [← e0]
      exact HS.out r0 h0
    rintro o u ⟨rfl, hb⟩
    have B6 := Lib.hid (below_next B5.out hb (Nat.le_refl _))
    clear hb B5 O45 O5
    go_wp2_with fail
    go_ret
    exact ⟨rfl, B6.out⟩

theorem readables : ∀ t ∈ Tryd.f11.params.toList, Tryd.prog.readableRec t = true ∧ t < Tryd.prog.types.size := by
  rw [Tryd.params11]
  intro t ht
  simp only [List.mem_cons, List.not_mem_nil, or_false] at ht
  subst ht
  exact ⟨by kernel_rfl, of_decide_eq_true (by kernel_rfl)⟩

/-- what the row's list gives: one error -/
theorem err1_of {W : World} (l : List (String × DataW Unit)) (h : laidMet Tryd.prog l W) (hl : l = (listOf l).map (sent "*errors.errorString"))
    (hty : ∀ x ∈ listOf l, ∃ g, Tryd.prog.globalNamed x.1 = some g ∧ (Tryd.prog.globals[g]?).map (·.type) = some 65)
    (hk : ((listOf l)[0]?).bind (fun x => Tryd.prog.globalNamed x.1) = some 2) : ∃ a, E1 W W.heap.size a := by
  obtain ⟨ps, hv, hnd, hrows⟩ := h
  rw [hl] at hv
  obtain ⟨As, hlen, hndA, hmem, hat⟩ := sentinels Tryd.underlying65 rowE Tryd.underlying136 fldE rfl rfl Tryd.underlying9 cellsE cellsStr (listOf l) ps hty hv hnd hrows
  cases hx : (listOf l)[0]? with
  | none => rw [hx] at hk; cases hk
  | some x =>
    rw [hx] at hk
    obtain ⟨a, g, ha, hg, hc⟩ := hat 0 x hx
    have : g = 2 := Option.some.inj (hg.symm.trans hk)
    subst this
    exact ⟨a, hc, lt_of_cell hc⟩
set_option maxRecDepth 100000 in
theorem errsLaid {W : World} (h : laidMetH Tryd.prog Rows.fnExactValidCupboardRow.laid W) : ∃ e : Nat → Addr, E1 W W.heap.size (e 0) := by
  rw [MakeChecks.laidMetH_plain _ _ _ (by kernel_rfl)] at h
  obtain ⟨a, ha⟩ := err1_of Rows.fnExactValidCupboardRow.laid h (by kernel_rfl) (by
    have hall : ((listOf Rows.fnExactValidCupboardRow.laid).all fun x => match Tryd.prog.globalNamed x.1 with | some g => decide ((Tryd.prog.globals[g]?).map (·.type) = some 65) | none => false) = true := by kernel_rfl
    intro x hx
    have h1 := List.all_eq_true.1 hall x hx
    split at h1
    · rename_i g hg
      exact ⟨g, hg, of_decide_eq_true h1⟩
    · cases h1) (by kernel_rfl)
  exact ⟨fun _ => a, ha⟩
theorem vars1_of {H : Type} {enc : TypeId × Value → H} {P : Program} {W : World} {sp : Nat → Bool} {n0 : String} {gs : List (DataW H)} {q : List MemPlace} (h : DataW.TrodVars enc P W sp [n0] gs q) : ∃ z0, gs = [z0] := by
  match gs, h with
  | [z0], _ => exact ⟨z0, rfl⟩
  | [], h => exact h.elim
  | _ :: _ :: _, h => obtain ⟨_, _, _, _, _, _, _, _, _, _, h, _⟩ := h; exact h.elim

set_option maxRecDepth 100000 in
theorem contract (H : Type) (enc : TypeId × Value → H) (W : World) (base : Nat) (args : Array Value) (ds gs : List (DataW H)) (before : List MemPlace)
    (hval : ∀ (j : Nat) t v, Tryd.f11.params[j]? = some t → args[j]? = some v → Value.okWide Tryd.prog W .any base t v)
    (hW : DataW.Whole enc Tryd.prog Tryd.f11.params.toList Rows.fnExactValidCupboardSpec.vars false W args.toList ds gs before) (hL : laidMetH Tryd.prog Rows.fnExactValidCupboardRow.laid W) :
    Calls Tryd.prog 11 args W fun e W' => ∃ v, e = .returned v ∧ Rows.fnExactValidCupboardSpec.post enc Tryd.prog Tryd.f11 false true false false W args v W' := by
  obtain ⟨ee, hE⟩ := errsLaid hL
  have hW' := hW
  obtain ⟨p, q, hA0, hV, rfl, hfz, hnd⟩ := hW
  have hA : DataW.TrodAll enc Tryd.prog W 0 (fun _ => true) true Tryd.f11.params.toList args.toList ds p := hA0
  rw [Tryd.params11] at hA hval
  clear hA0
  obtain ⟨v0, vs0, d0, ds0, p0, q0, hargs, rfl, rfl, h0, r0⟩ := trodAll_cons hA
  obtain ⟨rfl, rfl, rfl⟩ := trodAll_nil r0
  obtain rfl : args = #[v0] := by cases args; simp_all
  obtain ⟨z0, rfl⟩ := vars1_of hV
  obtain ⟨A, c, rs, rfl, hl, hg⟩ := open_rows (hval 0 53 v0 rfl rfl) h0
  unfold maxLen at hl
  refine (walk A rs.length c rs rfl hl W ee hE hg).mono fun e W' ⟨he, hb⟩ => ?_
  subst he
  exact ⟨_, rfl, close_vars laidOut readables (by kernel_rfl) Tryd.underlying4 rfl rfl hW' hb⟩

end Go.Proofs.YtcbbabepjfiigaaDoor.lawValidCupboard
