/-
  Contract of the program's function that tells where cloths hang.
-/
import Derived.Test.YtbpipcfijbgnhaaDoorPegs
import Derived.Test.YtbpipcfijbgnhaaDoorSag
import Derived.Test.YtbpipcfijbgnhaaDoorIntS
namespace Go.Proofs.YtbpipcfijbgnhaaDoor.hang
open Go.RowKit sl

/-- a row of the call's own that holds some numbers -/
def RowPost (w : World) (ys : List Int) (o : Ending) (w' : World) : Prop :=
  ∃ v, o = .returned v ∧ w'.ownsRow w.heap.size 2 1 v ys.length (ys.flatMap intS.C) ∧ Below w.heap.size w w'
theorem HangAt.other {w w' : World} {b g : Nat} {h : Hung} (k : HangAt w b h) (hg : w.grownBy w' (some g)) (hne : g < b ∨ b + 1 + 1 < g) : HangAt w' b h :=
  k.keep (S := fun i => i = g) ⟨hg.os, hg.tape, hg.output, hg.size, fun i hi hn => hg.block i hi (fun e => hn (Option.some.inj e))⟩ (fun i hi => by rw [hi]; exact hne)
set_option maxRecDepth 100000 in
set_option maxHeartbeats 4000000 in
theorem placesOf_any (A : Option Addr) (n c : Nat) (xs : List Clo) (en : n = xs.length) (hn : n ≤ 1000000) (hv : ∀ x ∈ xs, Clo.valid x = true) (hf : ∀ x ∈ xs, x.Fits) (w : World) (hg : Sl Clo.cells 2 w w.heap.size A xs) :
    Calls Tryd.prog 60 #[.slice A n c] w (RowPost w (hung xs).places) := by
  have En := Lib.hid en
  have ho := ok_valid hv hf (by omega)
  clear en
  obtain ⟨i0, hi, hz0, hz1, hz2⟩ := info_parts intS.info
  have hmk : ∀ u : World, (Instr.makeSlice 38 (.int .i64 (n : Int)) (.int .i64 (n : Int))).run Tryd.prog u =
      .ok (.slice (some ⟨u.heap.size, 0, none⟩) n n) (u.alloc (.cells (madeCells #[.int .i64 0] n) 2)) := fun u => by
    have h := run_make (P := Tryd.prog) u 38 2 i0 _ Tryd.underlying38 hi hz0 .i64 .i64 (n : Int) (n : Int) (by omega) (Int.le_refl _) (by rw [hz2]; omega) (by omega)
    have e : ((n : Int)).toNat = n := by omega
    rw [e] at h
    simpa [hz1, Value.cells] using h
  have hown : ∀ u : World, (u.alloc (.cells (madeCells #[.int .i64 0] n) 2)).ownsRow u.heap.size 2 1 (.slice (some ⟨u.heap.size, 0, none⟩) n n) n _ := fun u =>
    World.ownsRow_lit u (madeCells #[.int .i64 0] n) n (Nat.le_refl _) (by unfold maxLen; omega) (by rw [size_madeCells, Nat.mul_one])
  have HO := Lib.hid hown
  clear hown
  go_enter Tryd.func60, Tryd.ntmps60
  go_wp2_with fail
  go_region_with ((go_at_call 83; refine (hanger_any _).mono ?_; rintro o w1 ⟨rfl, hK, hb⟩; have HK := Lib.hid hK; have HB := Lib.hid hb; clear hK hb))
  · have hlt0 := HK.out.lt
    have hbs := HB.out.size
    have hK0 : HangAt (w1.alloc (.cells (madeCells #[.int .i64 0] n) 2)) w.heap.size Hung.none := HK.out.keep (S := fun _ => False) ((Keeps.refl _ _).alloc _) (fun i hi => hi.elim)
    have hP0 := owns_below (HO.out w1) (show w.heap.size ≤ w1.heap.size from hbs)
    have hB0 : Below w.heap.size w (w1.alloc (.cells (madeCells #[.int .i64 0] n) 2)) := (((Below.refl _ _).drew).trans HB.out).alloc hbs _
    have hbg : w1.heap.size < w.heap.size ∨ w.heap.size + 1 + 1 < w1.heap.size := by exact Or.inr hlt0
    have hwg : w.heap.size ≤ w1.heap.size := by exact hbs
    have HK0 := Lib.hid hK0
    have HP0 := Lib.hid hP0
    have HB0 := Lib.hid hB0
    clear hK0 hP0 hB0 HK HB
    go_wp2_with fail
    go_loopw [13] (fun vi wr => ∃ k L, k ≤ n ∧ vi = .int .i64 (k : Nat) ∧ HangAt wr w.heap.size (hung (xs.take k)) ∧ wr.ownsRow w.heap.size 2 1 (.slice (some ⟨w1.heap.size, 0, none⟩) n n) n L ∧ Done intS.C 1 (hung xs).places k L ∧ Below w.heap.size w wr) (fun vi _ => n - (intOf vi).toNat)
    case atStart => exact ⟨0, _, by omega, rfl, HK0.out, HP0.out, Done.zero _ _ _ _, HB0.out⟩
    case round =>
      clear HK0 HP0 HB0
      obtain ⟨k, L, hk, rfl, hK, hP, hD, hB⟩ := hrel
      have HD := Lib.hid hD
      by_cases hlt : k < n
      · obtain ⟨x, hx⟩ : ∃ x, xs[k]? = some x := ⟨xs[k]'(by have := En.out; omega), List.getElem?_eq_getElem _⟩
        obtain ⟨a, rfl, hab, hat⟩ := (hg.below hB).at_ k x hx
        obtain ⟨q0, q1⟩ := cloS.at_ hat
        have hxf : x.Fits := ho.f x (List.mem_of_getElem? hx)
        have hF := ho.fine k (by have := En.out; omega)
        have HU := Lib.hid (hung_take hx)
        obtain ⟨p, hp⟩ : ∃ p, (hung (xs.take k)).place x = p := ⟨_, rfl⟩
        have HG := Lib.hid ((places_get hx).trans (congrArg some hp))
        have HP := Lib.hid hp
        have HK := Lib.hid hK
        have HO2 := Lib.hid hP
        have hBs := hB.size
        have hKl := hK.lt
        clear hx hat hK hp hP hD
        go_wp2_with fail
        refine (hang_any x hxf w.heap.size _ hF _ (HK.out.keep (S := fun _ => False) ((Keeps.refl _ _).alloc _) (fun i hi => hi.elim))).mono ?_
        rintro o w2 ⟨rfl, hK2, hk2⟩
        rw [HP.out]
        rw [← HU.out] at hK2
        have HK2 := Lib.hid hK2
        have hP2 := hk2.owns (HO2.out.alloc _) (fun g' hg' => by
          obtain rfl : w1.heap.size = g' := Option.some.inj hg'
          rintro (h | h) <;> omega)
        have hB2 := (hB.alloc hB.size _).trans (hk2.below (by have := hB.size; simp; omega) (hangS_below (by omega)))
        have hLL := hP2.1
        obtain ⟨v0, s0⟩ : ∃ v, w2.cell? ⟨w1.heap.size, k, none⟩ = some v := ⟨L[k]'(by omega), (hP2.cellAt k (by omega)).trans (List.getElem?_eq_getElem _)⟩
        have f0 := hP2.frozenAt k
        have HLL := Lib.hid hLL
        have HP2 := Lib.hid hP2
        have HB2 := Lib.hid hB2
        clear q0 q1 hK2 hk2 hF hLL hP2 hB2 hB
        go_wp2_with fail
        go_roundw
        case rel =>
          have hP3 := (HP2.out.stored k (.int .i64 p)).1
          have hd := HD.out.step (intS.len _) HG.out (by rw [HLL.out, hung_len, En.out])
          rw [Nat.mul_one] at hd
          exact ⟨k + 1, _, by omega, by go_num, HK2.out.keep ((Keeps.refl (fun i => i = w1.heap.size) w2).setCell (p := ⟨w1.heap.size, k, none⟩) (.inl rfl) _) (fun i hi => by rw [hi]; exact hbg), hP3, hd, HB2.out.setCell (p := ⟨w1.heap.size, k, none⟩) hwg _⟩
        case measure => simp [intOf]; omega
      · obtain rfl : k = n := by omega
        have hl := En.out
        have e : L = (hung xs).places.flatMap intS.C := Done.full (by rw [hung_len, ← hl]; exact hD) (intS.len _) (by omega) (by rw [hP.1, hung_len, hl])
        have e2 : (hung xs).places.length = k := by rw [hung_len]; exact hl.symm
        have HR : Hid (RowPost w (hung xs).places (.returned (.slice (some ⟨w1.heap.size, 0, none⟩) k k)) wr) := Lib.hid ⟨_, rfl, by rw [e2, ← e]; exact hP, hB⟩
        clear hP hB hD hK e e2 hl
        go_wp2_with fail
        go_ret
        exact HR.out
  · have hlt0 := HK.out.lt
    have hbs := HB.out.size
    have hK0 : HangAt w1 (w.heap.size + 1) Hung.none := by have h : HangAt w1 (w.alloc (.cells (madeCells #[.int .i64 0] n) 2)).heap.size Hung.none := HK.out; have e : (w.alloc (.cells (madeCells #[.int .i64 0] n) 2)).heap.size = w.heap.size + 1 := (by simp); rw [e] at h; exact h
    have hP0 := owns_next (HO.out w.drew) HB.out
    have hB0 : Below w.heap.size w w1 := (((Below.refl _ _).drew).alloc (Nat.le_refl _) _).trans (HB.out.mono (by simp))
    have hbg : w.heap.size < (w.heap.size + 1) ∨ (w.heap.size + 1) + 1 + 1 < w.heap.size := by omega
    have hwg : w.heap.size ≤ w.heap.size := by omega
    have HK0 := Lib.hid hK0
    have HP0 := Lib.hid hP0
    have HB0 := Lib.hid hB0
    clear hK0 hP0 hB0 HK HB
    go_wp2_with fail
    go_loopw [13] (fun vi wr => ∃ k L, k ≤ n ∧ vi = .int .i64 (k : Nat) ∧ HangAt wr (w.heap.size + 1) (hung (xs.take k)) ∧ wr.ownsRow w.heap.size 2 1 (.slice (some ⟨w.heap.size, 0, none⟩) n n) n L ∧ Done intS.C 1 (hung xs).places k L ∧ Below w.heap.size w wr) (fun vi _ => n - (intOf vi).toNat)
    case atStart => exact ⟨0, _, by omega, rfl, HK0.out, HP0.out, Done.zero _ _ _ _, HB0.out⟩
    case round =>
      clear HK0 HP0 HB0
      obtain ⟨k, L, hk, rfl, hK, hP, hD, hB⟩ := hrel
      have HD := Lib.hid hD
      by_cases hlt : k < n
      · obtain ⟨x, hx⟩ : ∃ x, xs[k]? = some x := ⟨xs[k]'(by have := En.out; omega), List.getElem?_eq_getElem _⟩
        obtain ⟨a, rfl, hab, hat⟩ := (hg.below hB).at_ k x hx
        obtain ⟨q0, q1⟩ := cloS.at_ hat
        have hxf : x.Fits := ho.f x (List.mem_of_getElem? hx)
        have hF := ho.fine k (by have := En.out; omega)
        have HU := Lib.hid (hung_take hx)
        obtain ⟨p, hp⟩ : ∃ p, (hung (xs.take k)).place x = p := ⟨_, rfl⟩
        have HG := Lib.hid ((places_get hx).trans (congrArg some hp))
        have HP := Lib.hid hp
        have HK := Lib.hid hK
        have HO2 := Lib.hid hP
        have hBs := hB.size
        have hKl := hK.lt
        clear hx hat hK hp hP hD
        go_wp2_with fail
        refine (hang_any x hxf (w.heap.size + 1) _ hF _ (HK.out.keep (S := fun _ => False) ((Keeps.refl _ _).alloc _) (fun i hi => hi.elim))).mono ?_
        rintro o w2 ⟨rfl, hK2, hk2⟩
        rw [HP.out]
        rw [← HU.out] at hK2
        have HK2 := Lib.hid hK2
        have hP2 := hk2.owns (HO2.out.alloc _) (fun g' hg' => by
          obtain rfl : w.heap.size = g' := Option.some.inj hg'
          rintro (h | h) <;> omega)
        have hB2 := (hB.alloc hB.size _).trans (hk2.below (by have := hB.size; simp; omega) (hangS_below (by omega)))
        have hLL := hP2.1
        obtain ⟨v0, s0⟩ : ∃ v, w2.cell? ⟨w.heap.size, k, none⟩ = some v := ⟨L[k]'(by omega), (hP2.cellAt k (by omega)).trans (List.getElem?_eq_getElem _)⟩
        have f0 := hP2.frozenAt k
        have HLL := Lib.hid hLL
        have HP2 := Lib.hid hP2
        have HB2 := Lib.hid hB2
        clear q0 q1 hK2 hk2 hF hLL hP2 hB2 hB
        go_wp2_with fail
        go_roundw
        case rel =>
          have hP3 := (HP2.out.stored k (.int .i64 p)).1
          have hd := HD.out.step (intS.len _) HG.out (by rw [HLL.out, hung_len, En.out])
          rw [Nat.mul_one] at hd
          exact ⟨k + 1, _, by omega, by go_num, HK2.out.keep ((Keeps.refl (fun i => i = w.heap.size) w2).setCell (p := ⟨w.heap.size, k, none⟩) (.inl rfl) _) (fun i hi => by rw [hi]; exact hbg), hP3, hd, HB2.out.setCell (p := ⟨w.heap.size, k, none⟩) hwg _⟩
        case measure => simp [intOf]; omega
      · obtain rfl : k = n := by omega
        have hl := En.out
        have e : L = (hung xs).places.flatMap intS.C := Done.full (by rw [hung_len, ← hl]; exact hD) (intS.len _) (by omega) (by rw [hP.1, hung_len, hl])
        have e2 : (hung xs).places.length = k := by rw [hung_len]; exact hl.symm
        have HR : Hid (RowPost w (hung xs).places (.returned (.slice (some ⟨w.heap.size, 0, none⟩) k k)) wr) := Lib.hid ⟨_, rfl, by rw [e2, ← e]; exact hP, hB⟩
        clear hP hB hD hK e e2 hl
        go_wp2_with fail
        go_ret
        exact HR.out
end Go.Proofs.YtbpipcfijbgnhaaDoor.hang
