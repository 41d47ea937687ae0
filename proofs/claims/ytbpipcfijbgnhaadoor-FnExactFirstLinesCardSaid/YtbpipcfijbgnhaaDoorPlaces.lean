/-
  Contract of the model's function that tells where cloths hang, and how wide they are.
-/
import Derived.Test.YtbpipcfijbgnhaaDoorCPegsFor
import Derived.Test.YtbpipcfijbgnhaaDoorIntS
import Derived.IntWalk
namespace Go.Proofs.YtbpipcfijbgnhaaDoor.hang
open Go.RowKit sl

/-- the places of a list, as a row of the call's own, and its width -/
def PlacesPost (w : World) (n : Nat) (xs : List Clo) (o : Ending) (w' : World) : Prop :=
  ∃ v, o = .returned (.tuple #[v, .int .i64 (hung xs).fin]) ∧ w'.ownsRow w.heap.size 2 1 v n ((hung xs).places.flatMap intS.C) ∧ Below w.heap.size w w'

theorem l02Share_b (a b : Clo) (ha : a.Fits) (hb : b.Fits) (v : Bool) (hv : shares a b = v) (w : World) :
    Calls Tryd.prog 48 #[a.v, b.v] w fun o w' => o = .returned (.bool v) ∧ Below w.heap.size w w' := by
  subst hv
  exact l02Share_any a b ha hb w
theorem last_at {xs : List Clo} {j : Nat} {p : Clo} (hp : xs[j]? = some p) : (hung (xs.take (j + 1))).last = some p := by
  rw [hung_last, take_snoc hp]
  simp
theorem places_step {xs : List Clo} {k : Nat} {x : Clo} {z y : Int} (hx : xs[k]? = some x) (hz : z = (hung (xs.take k)).fin) (hy : y = z + gapOf (hung (xs.take k)).last x) :
    (hung (xs.take (k + 1))).places.flatMap intS.C = (hung (xs.take k)).places.flatMap intS.C ++ [.int .i64 y] ∧ y + x.wide = (hung (xs.take (k + 1))).fin := by
  rw [hung_take hx]
  subst hy hz
  exact ⟨by simp [Hung.step, Hung.place, intS.C], rfl⟩
/-- a new block of one cell -/
theorem one_new (w : World) (v : Value) (T : TypeId) : ∀ (j : Nat) u, [v][j]? = some u → (w.alloc (.cells #[v] T)).cell? ((⟨w.heap.size, 0, none⟩ : Addr).add j) = some u := by
  intro j u hj
  match j, hj with
  | 0, hj =>
    simp only [List.getElem?_cons_zero, Option.some.injEq] at hj
    subst hj
    rw [add_lit]
    exact cell_of_row _ _ _ _ _ _ (heap_alloc_new w _)
theorem one_cell {v : Value} (h : v.oneCell' = true) : ∀ u ∈ [v], u.oneCell' = true := by
  intro u hu
  rw [List.mem_singleton.1 hu]
  exact h
set_option maxRecDepth 100000 in
set_option maxHeartbeats 4000000 in
theorem l02Places_any (A : Option Addr) (n c : Nat) (xs : List Clo) (en : n = xs.length) (hn : n ≤ 1048576) (hv : ∀ x ∈ xs, Clo.valid x = true) (hf : ∀ x ∈ xs, x.Fits) (w : World) (hg : Sl Clo.cells 2 w w.heap.size A xs) :
    Calls Tryd.prog 58 #[.slice A n c] w (PlacesPost w n xs) := by
  obtain ⟨i0, hi, hz0, hz1, hz2⟩ := info_parts intS.info
  have En := Lib.hid en
  clear en
  go_enter Tryd.func58, Tryd.ntmps58
  have hB0 : Below w.heap.size w (w.alloc (.cells #[] 2)) := (Below.refl _ _).alloc (Nat.le_refl _) _
  have hP0 : (w.alloc (.cells #[] 2)).ownsRow w.heap.size 2 1 (.slice (some ⟨w.heap.size, 0, none⟩) 0 0) 0 [] :=
    World.ownsRow_lit w #[] 0 (Nat.le_refl _) (by unfold maxLen; omega) rfl
  have HP0 := Lib.hid hP0
  clear hP0
  go_wp2_with fail
  go_loopw [4, 5, 6] (fun vo va vi wr => ∃ k : Nat, k ≤ n ∧ vi = .int .i64 k ∧ (∃ z : Int, va = .int .i64 z ∧ z = (hung (xs.take k)).fin ∧ 0 ≤ z ∧ z ≤ 201 * k) ∧ wr.ownsRow w.heap.size 2 1 vo k ((hung (xs.take k)).places.flatMap intS.C) ∧ Below w.heap.size w wr) (fun _ _ vi _ => n - (intOf vi).toNat)
  case atStart => exact ⟨0, by omega, rfl, ⟨0, rfl, rfl, by omega, by omega⟩, HP0.out, hB0⟩
  case round =>
    clear hB0 HP0
    obtain ⟨k, hk, rfl, ⟨z, rfl, hz, z0, z1⟩, hP, hB⟩ := hrel
    have HZ := Lib.hid hz
    clear hz
    by_cases hlt : k < n
    · obtain ⟨x, hx⟩ : ∃ x, xs[k]? = some x := ⟨xs[k]'(by have := En.out; omega), List.getElem?_eq_getElem _⟩
      obtain ⟨a, rfl, hab, hatx⟩ := (hg.below hB).at_ k x hx
      obtain ⟨r0, r1⟩ := cloS.at_ hatx
      have hxf : x.Fits := hf x (List.mem_of_getElem? hx)
      obtain ⟨x0, x1, x2, x3⟩ := clo_parts (hv x (List.mem_of_getElem? hx))
      have HX := Lib.hid hx
      have hBs := hB.size
      have XW : Hid (∀ u, Below w.heap.size w u → u.cell? (a.add (k * 2)) = some (.int .i16 x.wide)) := Lib.hid fun u hu => by
        obtain ⟨a', e', _, ht⟩ := (hg.below hu).at_ k x HX.out
        obtain rfl := Option.some.inj e'
        exact (cloS.at_ ht).1
      have hpx : (a.add (k * 2)).block < wr.heap.size := by rw [block_add]; omega
      rcases Nat.eq_zero_or_pos k with hk0 | hk1
      · subst hk0
        have HS := Lib.hid (places_step (y := 0) HX.out HZ.out (by rw [HZ.out]; rfl))
        have hz0' : z = 0 := HZ.out
        subst hz0'
        have HP := Lib.hid hP
        have e0 : a.add (0 * 2) = a := by rw [Nat.zero_mul]; exact Addr.add_zero' a
        have XV := XW
        clear XW
        have XW : Hid (∀ u, Below w.heap.size w u → u.cell? a = some (.int .i16 x.wide)) := Lib.hid fun u hu => by
          have := XV.out u hu
          rwa [e0] at this
        clear hx hatx HZ hP e0 XV
        go_wp2_with fail
        go_quiet (fail)
        go_wp2_with (first | (at_builtin; go_loud (refine wpList_append_own _ rfl (.tmp 34) (.tmp 36) 38 rfl w.heap.size 2 i0 (.int .i64 0) 1 8 Tryd.underlying38 hi hz0 hz1 hz2 rfl (by decide) _ _ _ rfl ((owns_next HP.out (below_drewN _ wr nq)).alloc _) ⟨_, 0, none⟩ 1 1 [.int .i64 (0)] rfl rfl (one_new _ _ _) (one_cell (by rfl)) (by unfold maxLen; omega) (by omega) (by have := ((hB.trans (below_drewN _ wr nq))).size; simp; omega) ?_; intro v3 w3 hP3 hgr _; have hB3 := Below.grown (((hB.trans (below_drewN _ wr nq))).alloc ((hB.trans (below_drewN _ wr nq))).size _) hgr (by have := ((hB.trans (below_drewN _ wr nq))).size; simp; omega) (fun g hg => ((owns_next HP.out (below_drewN _ wr nq)).lt g hg).1); have q3 := (XW.out w3 hB3); have HP3 := Lib.hid hP3; clear hP3 hgr)) | fail)
        go_roundw
        case rel =>
          have hp3 := HP3.out
          rw [← HS.out.1] at hp3
          exact ⟨0 + 1, by omega, by go_num, ⟨_, rfl, by have := HS.out.2; omega, by omega, by omega⟩, hp3, hB3⟩
        case measure => simp [intOf]; omega
      · obtain ⟨j, rfl⟩ : ∃ j, k = j + 1 := ⟨k - 1, by omega⟩
        have ek : ((j + 1 : Nat) : Int) = (j : Int) + 1 := by omega
        rw [ek]
        obtain ⟨p, hp⟩ : ∃ x, xs[j]? = some x := ⟨xs[j]'(by have := En.out; omega), List.getElem?_eq_getElem _⟩
        obtain ⟨a', e', hab', hatp⟩ := (hg.below hB).at_ j p hp
        obtain rfl := Option.some.inj e'
        obtain ⟨q0, q1⟩ := cloS.at_ hatp
        have hpf : p.Fits := hf p (List.mem_of_getElem? hp)
        have HL := Lib.hid (last_at hp)
        have hpp : (a.add (j * 2)).block < wr.heap.size := by rw [block_add]; omega
        have h8 : cloS.Both (a.add (j * 2)) (a.add ((j + 1) * 2)) p x wr wr := ⟨q0, q1, r0, r1, Below.refl _ _⟩
        have H8 := Lib.hid h8
        have HP := Lib.hid hP
        have HK := Lib.hid ek
        have wj : IntKind.i64.wrap (j : Int) = (j : Int) := IntWalk.i64_in _ (by omega)
        have wo : (0 : Int) ≤ (j : Int) + 1 := by omega
        have wk : (0 : Int) ≤ (j : Int) := by omega
        have wl : (j : Int) < (n : Int) := by omega
        have wm : (j : Int) + 1 < (n : Int) := by omega
        have wn : ((j : Int) + 1).toNat = j + 1 := by omega
        clear h8 hp hx hatx hatp e' hab' q0 q1 r0 r1 ek hP
        cases hs : shares p x with
        | true =>
          have hq : gapOf (hung (xs.take (j + 1))).last x = -2 := by simp [HL.out, gapOf, hs]
          have HS := Lib.hid hs
          have HT := Lib.hid (places_step (y := z - 2) HX.out HZ.out (by omega))
          clear hs hq
          go_wp2_with fail
          go_region_held3 (fun u => u.cell? (a.add (j * 2)) = some (.int .i16 p.wide) ∧ u.cell? ⟨(a.add (j * 2)).block, (a.add (j * 2)).off + 1, none⟩ = some (.int .i16 p.heavy) ∧ u.cell? (a.add ((j + 1) * 2)) = some (.int .i16 x.wide) ∧ u.cell? ⟨(a.add ((j + 1) * 2)).block, (a.add ((j + 1) * 2)).off + 1, none⟩ = some (.int .i16 x.heavy) ∧ Below wr.heap.size wr u)
            (first | exact H8.out.next hpp hpx (below_drewN _ wr 1) | exact cloS.Both.next (by assumption) hpp hpx hb3)
            (first | (go_at_call 48; refine (l02Share_b p x hpf hxf true HS.out _).mono ?_; rintro e w2 ⟨rfl, hb3⟩) | fail)
          rename_i hS
          have hb3 := cloS.Both.below (p := a.add (j * 2)) (p' := a.add ((j + 1) * 2)) (x := p) (y := x) hS
          have HP2 := Lib.hid (owns_next HP.out hb3)
          have hB2 := hB.trans (hb3.mono hB.size)
          clear hS wj hb3
          go_wp2_with (first | (at_builtin; go_loud (refine wpList_append_own _ rfl (.tmp 34) (.tmp 36) 38 rfl w.heap.size 2 i0 (.int .i64 0) 1 8 Tryd.underlying38 hi hz0 hz1 hz2 rfl (by decide) _ _ _ rfl (HP2.out.alloc _) ⟨_, 0, none⟩ 1 1 [.int .i64 (z - 2)] rfl rfl (one_new _ _ _) (one_cell (by rfl)) (by unfold maxLen; omega) (by omega) (by have := (hB2).size; simp; omega) ?_; intro v3 w3 hP3 hgr _; have hB3 := Below.grown ((hB2).alloc (hB2).size _) hgr (by have := (hB2).size; simp; omega) (fun g hg => (HP2.out.lt g hg).1); have q3 := (XW.out w3 hB3); have HP3 := Lib.hid hP3; clear hP3 hgr)) | fail)
          go_roundw
          case rel =>
            have hp3 := HP3.out
            rw [← HT.out.1] at hp3
            exact ⟨j + 1 + 1, by omega, by go_num, ⟨_, rfl, by have := HT.out.2; omega, by omega, by omega⟩, hp3, hB3⟩
          case measure => simp [intOf]; omega
        | false =>
          have hq : gapOf (hung (xs.take (j + 1))).last x = 1 := by simp [HL.out, gapOf, hs]
          have HS := Lib.hid hs
          have HT := Lib.hid (places_step (y := z + 1) HX.out HZ.out (by omega))
          clear hs hq
          go_wp2_with fail
          go_region_held3 (fun u => u.cell? (a.add (j * 2)) = some (.int .i16 p.wide) ∧ u.cell? ⟨(a.add (j * 2)).block, (a.add (j * 2)).off + 1, none⟩ = some (.int .i16 p.heavy) ∧ u.cell? (a.add ((j + 1) * 2)) = some (.int .i16 x.wide) ∧ u.cell? ⟨(a.add ((j + 1) * 2)).block, (a.add ((j + 1) * 2)).off + 1, none⟩ = some (.int .i16 x.heavy) ∧ Below wr.heap.size wr u)
            (first | exact H8.out.next hpp hpx (below_drewN _ wr 1) | exact cloS.Both.next (by assumption) hpp hpx hb3)
            (first | (go_at_call 48; refine (l02Share_b p x hpf hxf false HS.out _).mono ?_; rintro e w2 ⟨rfl, hb3⟩) | fail)
          rename_i hS
          have hb3 := cloS.Both.below (p := a.add (j * 2)) (p' := a.add ((j + 1) * 2)) (x := p) (y := x) hS
          have HP2 := Lib.hid (owns_next HP.out hb3)
          have hB2 := hB.trans (hb3.mono hB.size)
          clear hS wj hb3
          go_wp2_with (first | (at_builtin; go_loud (refine wpList_append_own _ rfl (.tmp 34) (.tmp 36) 38 rfl w.heap.size 2 i0 (.int .i64 0) 1 8 Tryd.underlying38 hi hz0 hz1 hz2 rfl (by decide) _ _ _ rfl (HP2.out.alloc _) ⟨_, 0, none⟩ 1 1 [.int .i64 (z + 1)] rfl rfl (one_new _ _ _) (one_cell (by rfl)) (by unfold maxLen; omega) (by omega) (by have := (hB2).size; simp; omega) ?_; intro v3 w3 hP3 hgr _; have hB3 := Below.grown ((hB2).alloc (hB2).size _) hgr (by have := (hB2).size; simp; omega) (fun g hg => (HP2.out.lt g hg).1); have q3 := (XW.out w3 hB3); have HP3 := Lib.hid hP3; clear hP3 hgr)) | fail)
          go_roundw
          case rel =>
            have hp3 := HP3.out
            rw [← HT.out.1] at hp3
            exact ⟨j + 1 + 1, by omega, by go_num, ⟨_, rfl, by have := HT.out.2; omega, by omega, by omega⟩, hp3, hB3⟩
          case measure => simp [intOf]; omega
    · go_wp2_with fail
      obtain rfl : k = n := by omega
      have e : xs.take k = xs := List.take_of_length_le (by have := En.out; omega)
      have hz := HZ.out
      rw [e] at hz hP
      subst hz
      go_ret2
      exact ⟨_, rfl, hP, hB⟩
end Go.Proofs.YtbpipcfijbgnhaaDoor.hang
