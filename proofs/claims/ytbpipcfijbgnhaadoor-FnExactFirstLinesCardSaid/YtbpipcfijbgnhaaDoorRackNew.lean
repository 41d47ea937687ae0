/-
  Contract of the program's function that makes a rack.
-/
import Derived.Test.YtbpipcfijbgnhaaDoorRackPut
namespace Go.Proofs.YtbpipcfijbgnhaaDoor.hang
open Go Go.RowKit sl errs

/-- a rack of which k rows have been cut -/
structure RackI (u : World) (R Q : Nat) (l : Lin) (k : Nat) : Prop where
  l0 : u.cell? ⟨R, 0, none⟩ = some (.int .i16 l.long)
  l1 : u.cell? ⟨R, 1, none⟩ = some (.int .i16 l.most)
  row : ∀ n, n < k → u.cell? ⟨R, 2 + n, none⟩ = some (.slice (some ⟨Q, 14 * n, none⟩) 0 7)
  nil : ∀ n, k ≤ n → n < 7 → u.cell? ⟨R, 2 + n, none⟩ = some (.slice none 0 0)
  fr : ∀ i, u.frozen? ⟨R, i, none⟩ = false
  room : ∀ i, i < 98 → (u.cell? ⟨Q, i, none⟩).isSome = true
  fq : ∀ i, u.frozen? ⟨Q, i, none⟩ = false
  lt : R < u.heap.size ∧ Q < u.heap.size ∧ R ≠ Q
theorem RackI.full {u : World} {R Q : Nat} {l : Lin} (h : RackI u R Q l 7) : Rack u R Q l (fun _ => []) :=
  ⟨h.l0, h.l1, h.row, h.fr, h.room, h.fq, fun n j x _ hx => by simp at hx, fun n _ => by simp, h.lt⟩
theorem RackI.step {u : World} {R Q : Nat} {l : Lin} {k : Nat} (h : RackI u R Q l k) (hk : k < 7) : RackI (u.setCell ⟨R, 2 + k, none⟩ (.slice (some ⟨Q, 14 * k, none⟩) 0 7)) R Q l (k + 1) := by
  have hr : ∀ i, i ≠ 2 + k → (u.setCell ⟨R, 2 + k, none⟩ (.slice (some ⟨Q, 14 * k, none⟩) 0 7)).cell? ⟨R, i, none⟩ = u.cell? ⟨R, i, none⟩ := fun i hi =>
    World.cell?_setCell_other _ _ _ _ (fun e => hi (congrArg Addr.off e).symm)
  have hq : ∀ p : Addr, p.block = Q → (u.setCell ⟨R, 2 + k, none⟩ (.slice (some ⟨Q, 14 * k, none⟩) 0 7)).cell? p = u.cell? p := fun p hp =>
    World.cell?_setCell_far _ _ _ _ (by show R ≠ p.block; rw [hp]; exact h.lt.2.2)
  refine ⟨(hr 0 (by omega)).trans h.l0, (hr 1 (by omega)).trans h.l1, fun n hn => ?_, fun n h1 h2 => (hr _ (by omega)).trans (h.nil n (by omega) h2), fun i => by rw [World.frozen?_setCell]; exact h.fr i, fun i hi => by rw [hq _ rfl]; exact h.room i hi, fun i => by rw [World.frozen?_setCell]; exact h.fq i, ?_⟩
  · by_cases e : n = k
    · subst e
      exact World.cell?_setCell_same _ _ _ (h.nil n (by omega) hk)
    · exact (hr _ (by omega)).trans (h.row n (by omega))
  · have := h.lt
    simp only [World.setCell, Array.size_modify] at *
    exact this
theorem RackI.start (w : World) (l : Lin) (T U V : TypeId) :
    RackI (((w.alloc (.cells #[.int .i16 l.long, .int .i16 l.most] T)).alloc (.cells #[.int .i16 l.long, .int .i16 l.most, .slice none 0 0, .slice none 0 0, .slice none 0 0, .slice none 0 0, .slice none 0 0, .slice none 0 0, .slice none 0 0] U)).alloc (.cells (madeCells #[.int .i16 0, .int .i16 0] 98) V))
      (w.heap.size + 1) (w.heap.size + 1 + 1) l 0 := by
  obtain ⟨u, hu⟩ : ∃ u, u = w.alloc (.cells #[.int .i16 l.long, .int .i16 l.most] T) := ⟨_, rfl⟩
  have eu : u.heap.size = w.heap.size + 1 := by rw [hu]; simp
  rw [← hu, ← eu]
  obtain ⟨v, hv⟩ : ∃ v, v = u.alloc (.cells #[.int .i16 l.long, .int .i16 l.most, .slice none 0 0, .slice none 0 0, .slice none 0 0, .slice none 0 0, .slice none 0 0, .slice none 0 0, .slice none 0 0] U) := ⟨_, rfl⟩
  have ev : v.heap.size = u.heap.size + 1 := by rw [hv]; simp
  rw [← hv, ← ev]
  have hR : (v.alloc (.cells (madeCells #[.int .i16 0, .int .i16 0] 98) V)).heap[u.heap.size]? = some (.cells #[.int .i16 l.long, .int .i16 l.most, .slice none 0 0, .slice none 0 0, .slice none 0 0, .slice none 0 0, .slice none 0 0, .slice none 0 0, .slice none 0 0] U (0, 0)) := by
    rw [heap_alloc_old _ _ (by omega), hv]
    exact heap_alloc_new _ _
  have hQ := heap_alloc_new v (.cells (madeCells #[.int .i16 0, .int .i16 0] 98) V)
  refine ⟨cell_of_row _ _ _ _ _ _ hR, cell_of_row _ _ _ _ _ _ hR, fun n hn => absurd hn (by omega), fun n _ hn => ?_, fun i => frozen_of_row _ _ i _ _ hR, fun i hi => ?_, fun i => frozen_of_row _ _ i _ _ hQ, by simp; omega, by simp, by omega⟩
  · rw [cell_of_row _ _ _ _ _ _ hR]
    match n, hn with
    | 0, _ => rfl
    | 1, _ => rfl
    | 2, _ => rfl
    | 3, _ => rfl
    | 4, _ => rfl
    | 5, _ => rfl
    | 6, _ => rfl
  · rw [cell_of_row _ _ _ _ _ _ hQ, Array.getElem?_eq_getElem (by rw [size_madeCells]; exact hi)]
    rfl
set_option maxRecDepth 100000 in
set_option maxHeartbeats 4000000 in
theorem newRack_any (l : Lin) (hl : l.Fits) (w : World) :
    Calls Tryd.prog 74 #[l.v] w fun o w' => o = .returned (.pointer (some ⟨w.heap.size + 1, 0, none⟩)) ∧ Rack w' (w.heap.size + 1) (w.heap.size + 1 + 1) l (fun _ => []) ∧ Below w.heap.size w w' := by
  obtain ⟨i0, hi, hz0, hz1, hz2⟩ := info_parts cloS.info
  have hmk : ∀ u : World, (Instr.makeSlice 34 (.int .i64 49) (.int .i64 49)).run Tryd.prog u =
      .ok (.slice (some ⟨u.heap.size, 0, none⟩) 49 49) (u.alloc (.cells (madeCells #[.int .i16 0, .int .i16 0] 98) 27)) := fun u => by
    have h := run_make (P := Tryd.prog) u 34 27 i0 _ Tryd.underlying34 hi hz0 .i64 .i64 49 49 (by omega) (Int.le_refl _) (by rw [hz2]; omega) (by omega)
    simpa [hz1, Value.cells] using h
  go_enter Tryd.func74, Tryd.ntmps74
  have HI0 := Lib.hid (RackI.start w l 47 102 27)
  have HB0 : Hid (Below w.heap.size w (((w.alloc (.cells #[.int .i16 l.long, .int .i16 l.most] 47)).alloc (.cells #[.int .i16 l.long, .int .i16 l.most, .slice none 0 0, .slice none 0 0, .slice none 0 0, .slice none 0 0, .slice none 0 0, .slice none 0 0, .slice none 0 0] 102)).alloc (.cells (madeCells #[.int .i16 0, .int .i16 0] 98) 27))) :=
    Lib.hid ((((Below.refl _ _).alloc (Nat.le_refl _) _).alloc (by simp) _).alloc (by simp; omega) _)
  go_wp2_with fail
  go_loopw [11, 5, 6] (fun vi _ _ wr => ∃ k : Nat, k ≤ 7 ∧ vi = .int .i64 k ∧ RackI wr (w.heap.size + 1) (w.heap.size + 1 + 1) l k ∧ Below w.heap.size w wr) (fun vi _ _ _ => 7 - (intOf vi).toNat)
  case atStart => exact ⟨0, by omega, rfl, HI0.out, HB0.out⟩
  case round =>
    clear HI0 HB0
    obtain ⟨k, hk, rfl, hI, hB⟩ := hrel
    have HI := Lib.hid hI
    have HB := Lib.hid hB
    by_cases hlt : k < 7
    · have r0 := hI.nil k (Nat.le_refl _) hlt
      have f0 := hI.fr (2 + k)
      have wa : (0 : Int) ≤ (k : Int) := by omega
      have wb : (k : Int) < 7 := by omega
      have wc : ((k : Int)).toNat = k := by omega
      have wd : IntKind.i64.wrap ((k : Int) * 7) = (k : Int) * 7 := IntWalk.i64_in _ (by omega)
      have we : IntKind.i64.wrap ((k : Int) * 7 + 7) = (k : Int) * 7 + 7 := IntWalk.i64_in _ (by omega)
      clear hI hB
      go_wp2_with fail
      go_region
      clear wd we
      go_wp2_with fail
      go_roundw
      case rel =>
        have t := HI.out.step hlt
        rw [show 14 * k = k * 7 * 2 by omega] at t
        exact ⟨k + 1, by omega, by go_num, ⟨t.l0, t.l1, t.row, t.nil, t.fr, t.room, t.fq, t.lt⟩, (HB.out.setCell (p := ⟨w.heap.size + 1, 2 + k, none⟩) (by show w.heap.size ≤ w.heap.size + 1; omega) _).drew⟩
      case measure => simp [intOf]; omega
    · obtain rfl : k = 7 := by omega
      clear hI hB
      go_wp2_with fail
      go_ret
      exact ⟨rfl, HI.out.full, HB.out⟩
end Go.Proofs.YtbpipcfijbgnhaaDoor.hang
