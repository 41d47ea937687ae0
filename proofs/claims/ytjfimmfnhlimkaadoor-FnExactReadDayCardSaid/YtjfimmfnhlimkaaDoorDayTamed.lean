/-
  A day is tamed and held against itself: ValidDay, the program's and the model's.
-/
import Derived.Test.YtjfimmfnhlimkaaDoorJoin14
import Derived.Test.YtjfimmfnhlimkaaDoorWeaVal
namespace Go.Proofs.YtjfimmfnhlimkaaDoor.day
open Go Go.RowKit sl

theorem run_index_day {d : List Wea} {k : Nat} {x : Wea} (hk : k < 24) (hx : d[k]? = some x) (u : World) : (Instr.index 40 (dayV d) (.int .i64 (k : Int))).run Tryd.prog u = .ok x.v u := by
  have hu : Tryd.prog.underlying 40 = some (.array 24 38) := Tryd.underlying40
  have h1 : (0 : Int) ≤ k ∧ (k : Int) < (24 : Nat) := ⟨by omega, by omega⟩
  simp only [Instr.index, asIntOf, Sem.run_bind, Sem.run_pure, Result.andThen_ok, run_underlying hu, sizeWea, Sem.run_ite, if_pos h1, Int.toNat_natCast, part_day hx]
theorem tamed_day_iff {d : List Wea} : d = d.map tamed ↔ d.all Wea.valid = true := by
  rw [List.all_eq_true]
  induction d with
  | nil => simp
  | cons x r ih =>
    rw [List.map_cons, List.cons.injEq, ih, tamed_iff]
    simp
theorem dayEq_tamed {d : List Wea} (hd : d.length = 24) : dayEq d (d.map tamed) = d.all Wea.valid := by
  rw [Bool.eq_iff_iff, dayEq_iff hd (by rw [List.length_map, hd]), tamed_day_iff]

theorem _root_.Go.World.rangeAt.get {w : World} {b o : Nat} {cs : List Value} (h : w.rangeAt b o cs) {j : Nat} {v : Value} (hj : cs[j]? = some v) : w.cell? ⟨b, o + j, none⟩ = some v := h j v hj

set_option maxRecDepth 100000 in
set_option maxHeartbeats 4000000 in
theorem tamedDay_any (d : List Wea) (hd : d.length = 24) (hf : ∀ x ∈ d, x.Fits) (w : World) :
    Calls Tryd.prog 126 #[dayV d] w fun e w' => e = .returned (dayV (d.map tamed)) ∧ Below w.heap.size w w' := by
  have HD := Lib.hid hd
  clear hd
  have hzz : ∀ u : World, (zeroValue 40).run Tryd.prog u = .ok (.agg zeroCs) u := (zero_of_info zeroD).1
  have A0 : Hid (OwnD (w.alloc (.cells (dayCs d) 40)) w.heap.size w.heap.size (dayCs d).toList) := Lib.hid (OwnD.new (dayCs d) (dayCs_size HD.out) w (Nat.le_refl _))
  have A1 : Hid (DayAt (w.alloc (.cells (dayCs d) 40)) w.heap.size d) := Lib.hid (DayAt.new d _ w)
  have R1 : Hid (OwnD ((w.alloc (.cells (dayCs d) 40)).alloc (.cells zeroCs 40)) w.heap.size (w.heap.size + 1) zeroCs.toList) := by
    have h := OwnD.new zeroCs zeroCs_size (B := w.heap.size) (w.alloc (.cells (dayCs d) 40)) (by simp)
    rw [World.size_alloc] at h
    exact Lib.hid h
  have hA2 : DayAt ((w.alloc (.cells (dayCs d) 40)).alloc (.cells zeroCs 40)) w.heap.size d := A1.out.next ((Below.refl _ _).alloc (Nat.le_refl _) _)
  have O1 : Hid (OwnD ((w.alloc (.cells (dayCs d) 40)).alloc (.cells zeroCs 40)) w.heap.size w.heap.size (dayCs d).toList) := Lib.hid (owns_next A0.out ((Below.refl _ _).alloc (Nat.le_refl _) _))
  have B1 : Hid (Below w.heap.size w ((w.alloc (.cells (dayCs d) 40)).alloc (.cells zeroCs 40))) := Lib.hid (by repeat (first | exact Below.refl _ _ | assumption | apply Below.drew | (refine Below.alloc ?_ (by first | (simp; done) | (simp; omega) | omega) _) | (refine Below.setCell ?_ (by first | (simp; done) | (simp; omega) | omega) _)))
  have HA2 := Lib.hid hA2
  clear hA2 A0 A1
  go_enter Tryd.func126, Tryd.ntmps126
  go_wp2_with (refine wpl_load_day rfl (.tmp 1) rfl w.heap.size rfl HD.out HA2.out ?_)
  clear hzz
  go_loopw [6, 3, 4] (fun vi _ _ wr => ∃ k L, k ≤ 24 ∧ vi = .int .i64 (k : Nat) ∧ OwnD wr w.heap.size (w.heap.size + 1) zeroCs.toList ∧ OwnD wr w.heap.size w.heap.size L ∧ Done Wea.cells 3 (d.map tamed) k L ∧ Below w.heap.size w wr) (fun vi _ _ _ => 24 - (intOf vi).toNat)
  case atStart => exact ⟨0, _, by omega, rfl, R1.out, O1.out, Done.zero _ _ _ _, B1.out⟩
  case round =>
    clear R1 O1 B1 HA2
    obtain ⟨k, L, hk, rfl, hR, hO, hDn, hB⟩ := hrel
    have HR := Lib.hid hR
    have HO := Lib.hid hO
    have HDn := Lib.hid hDn
    have HB := Lib.hid hB
    clear hR hO hDn hB
    by_cases hlt : k < 24
    · obtain ⟨x, hx⟩ : ∃ x, d[k]? = some x := ⟨d[k]'(by have := HD.out; omega), List.getElem?_eq_getElem _⟩
      have hxf : x.Fits := hf x (List.mem_of_getElem? hx)
      have hix := fun u => run_index_day hlt hx u
      have HX := Lib.hid hx
      clear hx
      go_wp2_with fail
      refine (tamed_any x hxf _).mono ?_
      rintro e w2 ⟨rfl, hb2⟩
      have H2 : Below wr.heap.size wr w2 := ((Below.refl _ _).alloc (Nat.le_refl _) _).trans (hb2.mono (by simp))
      have HR2 := Lib.hid (owns_next HR.out H2)
      have HB2 := Lib.hid (below_next HB.out H2 (Nat.le_refl _))
      have hO2 := owns_next HO.out H2
      clear hb2 HR HB HO H2 hix
      have hLL := hO2.1
      obtain ⟨v0, s0⟩ : ∃ v, w2.cell? ⟨w.heap.size, k * 3, none⟩ = some v := ⟨L[k * 3]'(by omega), (hO2.cellAt (k * 3) (by omega)).trans (List.getElem?_eq_getElem _)⟩
      have f0 := hO2.frozenAt (k * 3)
      obtain ⟨v1, s1⟩ : ∃ v, w2.cell? ⟨w.heap.size, k * 3 + 1, none⟩ = some v := ⟨L[k * 3 + 1]'(by omega), (hO2.cellAt (k * 3 + 1) (by omega)).trans (List.getElem?_eq_getElem _)⟩
      have f1 := hO2.frozenAt (k * 3 + 1)
      obtain ⟨v2, s2⟩ : ∃ v, w2.cell? ⟨w.heap.size, k * 3 + 2, none⟩ = some v := ⟨L[k * 3 + 2]'(by omega), (hO2.cellAt (k * 3 + 2) (by omega)).trans (List.getElem?_eq_getElem _)⟩
      have f2 := hO2.frozenAt (k * 3 + 2)
      have HLL := Lib.hid hLL
      have HO2 := Lib.hid hO2
      clear hLL hO2
      go_wp2_with fail
      go_roundw
      case rel =>
        obtain ⟨hO3, hg3⟩ := owns_cells (o := k * 3) (vs := (tamed x).cells) HO2.out
        exact ⟨k + 1, _, by omega, by go_num, owns_other HR2.out hg3 (fun j hj => by have : w.heap.size + 1 = j := Option.some.inj hj; omega), hO3, HDn.out.step (Wea.len _) (by rw [List.getElem?_map, HX.out]; rfl) (by rw [HLL.out, List.length_map, HD.out]),
          below_cells HB2.out (Nat.le_refl _) (tamed x).cells (k * 3)⟩
      case measure => simp [intOf]; omega
    · obtain rfl : k = 24 := by omega
      have hfull : L = (d.map tamed).flatMap Wea.cells := Done.full (by rw [List.length_map, HD.out]; exact HDn.out) (Wea.len _) (by omega) (by rw [HO.out.1, List.length_map, HD.out])
      subst hfull
      have HE := Lib.hid ((List.length_map tamed).trans HD.out)
      have hA := Lib.hid (OwnD.of _ HO.out)
      have hT := Lib.hid HR.out.there
      have hS := stored_day HE.out (HR.out.lt _ rfl).2 HR.out.there
      go_wp2_with (first | (refine wpl_load_day rfl (.tmp 1) rfl w.heap.size rfl HE.out hA.out ?_) | (refine wpl_store_day rfl (.tmp 2) (.tmp 15) rfl (w.heap.size + 1) rfl HE.out rfl hT.out ?_))
      refine bodyPost_ret (v := dayV (d.map tamed)) (results_day Tryd.results126 HE.out rfl hS) rfl ⟨rfl, ?_⟩
      exact below_cells HB.out (by omega) _ _
set_option maxRecDepth 100000 in
set_option maxHeartbeats 4000000 in
theorem ValidDay_any (d : List Wea) (hd : d.length = 24) (hf : ∀ x ∈ d, x.Fits) (w : World) :
    Calls Tryd.prog 76 #[dayV d] w fun e w' => e = .returned (.bool (d.all Wea.valid)) ∧ Below w.heap.size w w' := by
  have HD := Lib.hid hd
  have HE := Lib.hid ((List.length_map tamed).trans hd)
  clear hd
  have hq : ∀ u, (binOp .eql 40 (.agg (d.flatMap Wea.cells).toArray) (dayV (d.map tamed))).run Tryd.prog u = .ok (.bool (dayEq d (d.map tamed))) u := run_eql_day d (d.map tamed) HD.out HE.out
  have hqg : ∀ o p u, (eqGuard .eql 40 o p (.agg (d.flatMap Wea.cells).toArray) (dayV (d.map tamed))).run Tryd.prog u = .ok () u := run_guard_day d (d.map tamed)
  have HV := Lib.hid (dayEq_tamed HD.out)
  have A0 := DayAt.new d 40 w
  have S0 : Hid ((w.alloc (.cells (dayCs d) 40)).rangeAt w.heap.size 0 (d.flatMap Wea.cells) ∧ w.heap.size < (w.alloc (.cells (dayCs d) 40)).heap.size ∧ Below w.heap.size w (w.alloc (.cells (dayCs d) 40))) := Lib.hid ⟨A0.row, A0.lt, by repeat (first | exact Below.refl _ _ | assumption | apply Below.drew | (refine Below.alloc ?_ (by first | (simp; done) | (simp; omega) | omega) _) | (refine Below.setCell ?_ (by first | (simp; done) | (simp; omega) | omega) _))⟩
  clear A0
  go_enter Tryd.func76, Tryd.ntmps76
  go_wp2_with fail
  have hud : Tryd.prog.underlying 40 = some (.array 24 38) := Tryd.underlying40
  have hin : (Tryd.prog.info? 40).map (·.size) = some (d.flatMap Wea.cells).length := by rw [infoD, flat_len (Wea.len d), HD.out]
  refine wp_region_held_drew (S := fun u => u.rangeAt w.heap.size 0 (d.flatMap Wea.cells) ∧ w.heap.size < u.heap.size ∧ Below w.heap.size w u) (by kernel_rfl) ⟨fun j v hj => S0.out.1 j v hj, S0.out.2.1, S0.out.2.2.drew⟩ (fun hHeld => ?_)
  refine wpAnyH_take (i := 0) (v := .agg (d.flatMap Wea.cells).toArray) rfl (by kernel_rfl) (by kernel_rfl) (by kernel_rfl) (fun _ _ _ h => h) (yieldsIf_load_mid (by rfl) 40 (.tmp 1) rfl w.heap.size 0 rfl (d.flatMap Wea.cells) _ (fun u h => h.1) hud rfl hin) hHeld ?_
  refine wpAnyH_take (i := 1) (v := .agg (d.flatMap Wea.cells).toArray) rfl (by kernel_rfl) (by kernel_rfl) (by kernel_rfl) (fun _ _ _ h => h) (yieldsIf_load_mid (by rfl) 40 (.tmp 1) rfl w.heap.size 0 rfl (d.flatMap Wea.cells) _ (fun u h => h.1) hud rfl hin) hHeld ?_
  try simp only [Act.put, List.setIfInBounds_toArray]
  refine wpAnyH_ready (rs := [2]) (by kernel_rfl) (by simp) ?_
  refine AllReadyH.cons rfl (fun K hK => ?_) AllReadyH.nil
  go_simp
  refine (tamedDay_any d HD.out hf _).mono ?_
  rintro e w2 ⟨rfl, hb2⟩
  refine hK.out _ _ ⟨fun j v hj => (hb2.cell (p := ⟨w.heap.size, 0 + j, none⟩) hHeld.2.1).trans (hHeld.1 j v hj), Nat.lt_of_lt_of_le hHeld.2.1 hb2.size, below_next hHeld.2.2 hb2 (Nat.le_refl _)⟩ (fun hHeld2 => ?_)
  clear hK K hHeld S0 hb2
  have HB := Lib.hid hHeld2.2.2
  have h2 := hHeld2
  clear hHeld2
  try simp only [Act.put, List.setIfInBounds_toArray, List.set_cons_zero, List.set_cons_succ]
  refine wpAnyH_ready (rs := [3]) (by kernel_rfl) (by simp) ?_
  refine AllReadyH.cons rfl (fun K hK => ?_) AllReadyH.nil
  go_simp
  refine hK.out _ _ h2 (fun h3 => ?_)
  clear hK K h3
  try simp only [Act.put, List.setIfInBounds_toArray, List.set_cons_zero, List.set_cons_succ]
  refine wpAnyH_ready (rs := [4]) (by kernel_rfl) (by simp) ?_
  refine AllReadyH.cons rfl (fun K hK => ?_) AllReadyH.nil
  go_simp
  refine hK.out _ _ h2 (fun h3 => ?_)
  clear hK K h3 h2
  try simp only [Act.put, List.setIfInBounds_toArray, List.set_cons_zero, List.set_cons_succ]
  refine wpAnyH_done (by kernel_rfl) ?_ _
  rw [HV.out]
  clear hq hqg
  go_wp2_with fail
  go_ret
  exact ⟨rfl, HB.out⟩
set_option maxRecDepth 100000 in
set_option maxHeartbeats 2000000 in
theorem l03Ok_any (d : List Wea) (hd : d.length = 24) (hf : ∀ x ∈ d, x.Fits) (b : Nat) (w : World) (hA : DayAt w b d) :
    Calls Tryd.prog 73 #[.pointer (some ⟨b, 0, none⟩)] w fun e w' => e = .returned (.bool (d.all Wea.valid)) ∧ Below w.heap.size w w' := by
  have HD := Lib.hid hd
  have HA := Lib.hid hA
  clear hd hA
  go_enter Tryd.func73, Tryd.ntmps73
  go_wp2_with fail
  go_loopw [3] (fun vi wr => ∃ k : Nat, k ≤ 24 ∧ vi = .int .i64 k ∧ (∀ i x, i < k → d[i]? = some x → Wea.valid x = true) ∧ Below w.heap.size w wr) (fun vi _ => 24 - (intOf vi).toNat)
  case atStart => exact ⟨0, by omega, rfl, fun i x hi => absurd hi (by omega), Below.refl _ _⟩
  case round =>
    obtain ⟨k, hk, rfl, hval, hB⟩ := hrel
    have HV := Lib.hid hval
    have HB := Lib.hid hB
    clear hval hB
    by_cases hlt : k < 24
    · obtain ⟨x, hx⟩ : ∃ x, d[k]? = some x := ⟨d[k]'(by have := HD.out; omega), List.getElem?_eq_getElem _⟩
      have hxf : x.Fits := hf x (List.mem_of_getElem? hx)
      obtain ⟨c0, c1, c2⟩ := (HA.out.next HB.out).get hx
      have HX := Lib.hid hx
      clear hx
      cases hv : Wea.valid x with
      | true =>
        have HW := Lib.hid hv
        clear hv
        go_wp2_with fail
        refine (l03Weather_any x hxf _).mono ?_
        rintro o w2 ⟨rfl, hb2⟩
        rw [HW.out]
        have HB2 := Lib.hid (below_next HB.out hb2 (Nat.le_refl _))
        clear c0 c1 c2 hb2
        go_wp2_with fail
        go_roundw
        case rel => exact ⟨k + 1, by omega, by go_num, fun i y hi hy => by
          rcases Nat.lt_or_ge i k with h1 | h1
          · exact HV.out i y h1 hy
          · obtain rfl : i = k := by omega
            have := HX.out
            rw [hy] at this
            rw [Option.some.inj this]
            exact HW.out, HB2.out⟩
        case measure => simp [intOf]; omega
      | false =>
        have HW := Lib.hid hv
        clear hv
        go_wp2_with fail
        refine (l03Weather_any x hxf _).mono ?_
        rintro o w2 ⟨rfl, hb2⟩
        rw [HW.out]
        have HB2 := Lib.hid (below_next HB.out hb2 (Nat.le_refl _))
        clear c0 c1 c2 hb2
        go_wp2_with fail
        go_ret
        exact ⟨ret_bool (all_not HX.out HW.out).symm, HB2.out⟩
    · go_wp2_with fail
      go_ret
      exact ⟨ret_bool (all_of_idx fun i x hi hx => HV.out i x (by have := HD.out; omega) hx).symm, HB.out⟩
end Go.Proofs.YtjfimmfnhlimkaaDoor.day
