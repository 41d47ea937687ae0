/-
  Contract of the program's newBasket.
-/
import Derived.Test.YtekigapeekjigaaDoorMeetWalk
import Derived.Test.YtekigapeekjigaaDoorLoadI
namespace Go.Proofs.YtekigapeekjigaaDoor.mem
open Go Go.RowKit errs garS heats meet load

abbrev zero10 : Array Value := #[.slice none 0 0, .int .u8 0, .int .u8 0, .int .u8 0, .int .u8 0, .int .u8 0, .int .u8 0, .int .u8 0, .int .u8 0, .int .i64 0]
theorem zero10_some : ∀ j, j < 10 → (zero10[j]?).isSome = true := fun j hj => by
  have : j < zero10.size := hj
  simp [Array.getElem?_eq_getElem this]
set_option maxRecDepth 100000 in
set_option maxHeartbeats 4000000 in
theorem newBasket_any (r : Nat → Int) (hr : Six r) (hold : Int) (A : Option Addr) (n c : Nat) (gs : List Gar) (en : n = gs.length) (hn : n ≤ 8) (hv : ∀ x ∈ gs, x.valid = true) (w : World) (hg : GS w w.heap.size A gs) :
    Calls Tryd.prog 69 #[rulesV r, .int .i64 hold, .slice A n c] w fun o w' => o = .returned (bV A n c (msOf r gs n) hold) ∧ Below w.heap.size w w' := by
  have En := Lib.hid en
  clear en
  have h6 := SixAt.new r w 26
  obtain ⟨s0, s1, s2, s3, s4, s5⟩ := h6
  go_enter Tryd.func69, Tryd.ntmps69
  go_wp2_with fail
  have e1 : (w.alloc (.cells (rulesCs r) 26)).heap.size = w.heap.size + 1 := by simp
  have hn2 := heap_alloc_new (w.alloc (.cells (rulesCs r) 26)) (.cells zero10 105)
  rw [e1] at hn2
  have hB1 : Below w.heap.size w ((w.alloc (.cells (rulesCs r) 26)).alloc (.cells zero10 105)) := ((Below.refl _ w).alloc (Nat.le_refl _) _).alloc (by simp) _
  refine (meetingSets_any r hr A n c gs En.out hn hv _ ((hg.below hB1).more hB1.size)).mono ?_
  rintro o w2 ⟨rfl, hb2⟩
  have hcf : ∀ j, j < 10 → w2.cell? ⟨w.heap.size + 1, j, none⟩ = zero10[j]? ∧ w2.frozen? ⟨w.heap.size + 1, j, none⟩ = false := fun j hj => by
    have hlt : w.heap.size + 1 < ((w.alloc (.cells (rulesCs r) 26)).alloc (.cells zero10 105)).heap.size := by simp
    refine ⟨(hb2.cell (p := ⟨w.heap.size + 1, j, none⟩) hlt).trans (cell_of_row _ _ _ _ _ _ hn2), (hb2.frozen (p := ⟨w.heap.size + 1, j, none⟩) hlt).trans ?_⟩
    unfold World.frozen?
    rw [hn2]
    rfl
  have B2 := Lib.hid (hB1.trans (hb2.mono hB1.size))
  have HCF := Lib.hid hcf
  obtain ⟨c0, f0⟩ := hcf 0 (by omega)
  obtain ⟨c1, f1⟩ := hcf 1 (by omega)
  obtain ⟨c2, f2⟩ := hcf 2 (by omega)
  obtain ⟨c3, f3⟩ := hcf 3 (by omega)
  obtain ⟨c4, f4⟩ := hcf 4 (by omega)
  obtain ⟨c5, f5⟩ := hcf 5 (by omega)
  obtain ⟨c6, f6⟩ := hcf 6 (by omega)
  obtain ⟨c7, f7⟩ := hcf 7 (by omega)
  obtain ⟨c8, f8⟩ := hcf 8 (by omega)
  obtain ⟨c9, f9⟩ := hcf 9 (by omega)
  clear hcf hb2 hB1 s0 s1 s2 s3 s4 s5 hn2
  go_wp2_with fail
  obtain ⟨V, hV⟩ : ∃ V, V = w2.setCells (w.heap.size + 1) 0 [.slice A n c, .int .u8 (msOf r gs n 0), .int .u8 (msOf r gs n 1), .int .u8 (msOf r gs n 2), .int .u8 (msOf r gs n 3), .int .u8 (msOf r gs n 4), .int .u8 (msOf r gs n 5), .int .u8 (msOf r gs n 6), .int .u8 (msOf r gs n 7), .int .i64 hold] := ⟨_, rfl⟩
  have hbV : Below w.heap.size w V := by rw [hV]; exact below_setCells B2.out (Nat.le_succ _) _ _
  have hcV : ∀ (j : Nat) (hj : j < 10), V.cell? ⟨w.heap.size + 1, j, none⟩ = some ([Value.slice A n c, .int .u8 (msOf r gs n 0), .int .u8 (msOf r gs n 1), .int .u8 (msOf r gs n 2), .int .u8 (msOf r gs n 3), .int .u8 (msOf r gs n 4), .int .u8 (msOf r gs n 5), .int .u8 (msOf r gs n 6), .int .u8 (msOf r gs n 7), .int .i64 hold][j]'hj) := fun j hj => by
    have h := World.cell?_setCells_in (w.heap.size + 1) [.slice A n c, .int .u8 (msOf r gs n 0), .int .u8 (msOf r gs n 1), .int .u8 (msOf r gs n 2), .int .u8 (msOf r gs n 3), .int .u8 (msOf r gs n 4), .int .u8 (msOf r gs n 5), .int .u8 (msOf r gs n 6), .int .u8 (msOf r gs n 7), .int .i64 hold] 0 w2 (fun i hi => by rw [Nat.zero_add, (HCF.out i hi).1]; exact zero10_some i hi) j hj
    rw [Nat.zero_add] at h
    rw [hV]
    exact h
  have hV2 := hV
  simp only [World.setCells, Nat.reduceAdd] at hV2
  rw [← hV2]
  have d0 := hcV 0 (by omega)
  have d1 := hcV 1 (by omega)
  have d2 := hcV 2 (by omega)
  have d3 := hcV 3 (by omega)
  have d4 := hcV 4 (by omega)
  have d5 := hcV 5 (by omega)
  have d6 := hcV 6 (by omega)
  have d7 := hcV 7 (by omega)
  have d8 := hcV 8 (by omega)
  have d9 := hcV 9 (by omega)
  clear hV hV2 hcV
  refine bodyPost_ret (v := bV A n c (msOf r gs n) hold) ?_ rfl ⟨rfl, hbV⟩
  simp only [List.getElem_cons_zero, List.getElem_cons_succ] at d0 d1 d2 d3 d4 d5 d6 d7 d8 d9
  simp [results, Tryd.results69, go_sem, d0, d1, d2, d3, d4, d5, d6, d7, d8, d9]
end Go.Proofs.YtekigapeekjigaaDoor.mem
