/-
  Contract of the program's function that looks whether a list is an order.
-/
import Derived.Test.YtbpipcfijbgnhaaDoorOrder
namespace Go.Proofs.YtbpipcfijbgnhaaDoor.hang
open Go.RowKit sl errs

/-- which indices have been seen behind k numbers -/
def Seen (n : Nat) (os : List Int) (k : Nat) (L : List Value) : Prop := ∀ j : Nat, j < n → L[j]? = some (.bool (decide ((j : Int) ∈ os.take k)))
theorem Seen.step {n : Nat} {os : List Int} {k j : Nat} {L : List Value} (h : Seen n os k L) (hx : os[k]? = some (j : Int)) (hj : j < n) (hl : L.length = n) : Seen n os (k + 1) (L.set j (.bool true)) := by
  intro i hi
  rw [take_snoc hx]
  by_cases hij : j = i
  · subst hij
    rw [List.getElem?_set_self (by omega)]
    simp
  · rw [List.getElem?_set_ne hij, h i hi]
    have : ((i : Int) ∈ os.take k ++ [(j : Int)]) ↔ ((i : Int) ∈ os.take k) := by
      simp only [List.mem_append, List.mem_singleton]
      constructor
      · rintro (h | h)
        · exact h
        · omega
      · exact Or.inl
    simp only [this]
theorem getElem?_madeCells (z : Value) (n j : Nat) (hj : j < n) : (madeCells #[z] n).toList[j]? = some z := by
  simp [madeCells, hj, Nat.mod_one]
theorem bool_info : (Tryd.prog.info? 4).map (fun i => (i.zero, i.size, i.bytes)) = some (some (.bool false), 1, 1) := by kernel_rfl
set_option maxRecDepth 100000 in
set_option maxHeartbeats 4000000 in
theorem checkOrder_any (n : Nat) (hn : n ≤ 1048576) (A : Option Addr) (m c : Nat) (os : List Int) (em : m = os.length) (hm : m ≤ 1048576) {w : World} {B : Nat} {e : Nat → Addr} (h : Errs w B e) (hB : B ≤ w.heap.size) (hg : Sl intS.C 1 w w.heap.size A os) (k0 : Nat) (hk0 : k0 = if ordB n os = true then 0 else 4) :
    Calls Tryd.prog 67 #[.slice A m c, .int .i64 n] w fun o w' => o = .returned (errOf e k0) ∧ Below w.heap.size w w' := by
  have Em := Lib.hid em
  have HK := Lib.hid hk0
  clear em hk0
  obtain ⟨i0, hi, hz0, hz1, hz2⟩ := info_parts bool_info
  have hmk : ∀ u : World, (Instr.makeSlice 99 (.int .i64 (n : Int)) (.int .i64 (n : Int))).run Tryd.prog u =
      .ok (.slice (some ⟨u.heap.size, 0, none⟩) n n) (u.alloc (.cells (madeCells #[.bool false] n) 4)) := fun u => by
    have h := run_make (P := Tryd.prog) u 99 4 i0 _ Tryd.underlying99 hi hz0 .i64 .i64 (n : Int) (n : Int) (by omega) (Int.le_refl _) (by rw [hz2]; omega) (by omega)
    have e : ((n : Int)).toNat = n := by omega
    rw [e] at h
    simpa [hz1, Value.cells] using h
  have hP0 : (w.alloc (.cells (madeCells #[.bool false] n) 4)).ownsRow w.heap.size 4 1 (.slice (some ⟨w.heap.size, 0, none⟩) n n) n _ :=
    World.ownsRow_lit w (madeCells #[.bool false] n) n (Nat.le_refl _) (by unfold maxLen; omega) (by rw [size_madeCells, Nat.mul_one])
  have HP0 := Lib.hid hP0
  have HB0 := Lib.hid ((Below.refl w.heap.size w).alloc (Nat.le_refl _) (.cells (madeCells #[.bool false] n) 4))
  clear hP0
  by_cases hmn : m = n
  · subst hmn
    go_enter Tryd.func67, Tryd.ntmps67
    go_wp2_with fail
    go_loopw [17, 7] (fun vi _ wr => ∃ k L, k ≤ m ∧ vi = .int .i64 (k : Nat) ∧ wr.ownsRow w.heap.size 4 1 (.slice (some ⟨w.heap.size, 0, none⟩) m m) m L ∧ Seen m os k L ∧ goodP m os k ∧ Below w.heap.size w wr) (fun vi _ _ => m - (intOf vi).toNat)
    case atStart => exact ⟨0, _, by omega, rfl, HP0.out, fun j hj => by rw [getElem?_madeCells _ _ _ hj]; simp, fun i x hi => absurd hi (by omega), HB0.out⟩
    case round =>
      clear HP0 HB0
      obtain ⟨k, L, hk, rfl, hP, hS, hG, hb⟩ := hrel
      have HS := Lib.hid hS
      have HG := Lib.hid hG
      have HB := Lib.hid hb
      clear hS hG
      by_cases hlt : k < m
      · obtain ⟨x, hx⟩ : ∃ x, os[k]? = some x := ⟨os[k]'(by have := Em.out; omega), List.getElem?_eq_getElem _⟩
        obtain ⟨a, rfl, hab, hat⟩ := (hg.below hb).at_ k x hx
        have q0 := intS.at_ hat
        have HX := Lib.hid hx
        have g3 := (h.below (hb.mono hB)).c3
        clear hx hat hb
        by_cases hx0 : x < 0
        · clear hP
          go_wp2_with fail
          go_ret
          have e1 : k0 = 4 := by rw [HK.out, ordB_no HX.out (fun h => by omega)]; rfl
          rw [e1]
          exact ⟨rfl, HB.out⟩
        · by_cases hx1 : (m : Int) ≤ x
          · clear hP
            go_wp2_with fail
            go_ret
            have e1 : k0 = 4 := by rw [HK.out, ordB_no HX.out (fun h => by omega)]; rfl
            rw [e1]
            exact ⟨rfl, HB.out⟩
          · obtain ⟨j, rfl⟩ : ∃ j : Nat, x = (j : Int) := ⟨x.toNat, by omega⟩
            have hj : j < m := by omega
            have hjc := (hP.cellAt j (by omega)).trans (HS.out j hj)
            have f0 := hP.frozenAt j
            have HLL := Lib.hid hP.1
            have HP := Lib.hid hP
            clear hx0 hx1 hP
            by_cases hmem : (j : Int) ∈ os.take k
            · have HM := Lib.hid hmem
              have d1 : decide ((j : Int) ∈ os.take k) = true := by simpa using hmem
              rw [d1] at hjc
              clear hmem d1
              go_wp2_with fail
              go_ret
              have e1 : k0 = 4 := by rw [HK.out, ordB_no HX.out (fun h => h.2.2 HM.out)]; rfl
              rw [e1]
              exact ⟨rfl, HB.out⟩
            · have HM := Lib.hid hmem
              have d1 : decide ((j : Int) ∈ os.take k) = false := by simpa using hmem
              rw [d1] at hjc
              clear hmem d1
              go_wp2_with fail
              go_roundw
              case rel => exact ⟨k + 1, _, by omega, by go_num, (HP.out.stored j (.bool true)).1, HS.out.step HX.out hj (by rw [HLL.out, Nat.mul_one]), goodP_step HG.out HX.out (by omega) (by omega) HM.out, HB.out.setCell (p := ⟨w.heap.size, j, none⟩) (Nat.le_refl _) _⟩
              case measure => simp [intOf]; omega
      · clear hP hb
        go_wp2_with fail
        go_ret
        have e1 : k0 = 0 := by
          have hl := Em.out
          have : k = os.length := by omega
          rw [HK.out, ordB_yes hl.symm (by rw [← this]; exact HG.out)]
          rfl
        rw [e1]
        exact ⟨rfl, HB.out⟩
  · have d1 : ((m : Int) != (n : Int)) = true := by rw [bne_iff_ne]; omega
    have g3 := h.c3
    have e1 : k0 = 4 := by rw [HK.out, ordB_len (by have := Em.out; omega)]; rfl
    rw [e1]
    clear e1 HP0 HB0
    go_enter Tryd.func67, Tryd.ntmps67
    go_wp2_with fail
    go_ret
    exact ⟨rfl, Below.refl _ _⟩
end Go.Proofs.YtbpipcfijbgnhaaDoor.hang
