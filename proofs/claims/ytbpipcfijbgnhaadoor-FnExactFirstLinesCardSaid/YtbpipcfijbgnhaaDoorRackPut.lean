/-
  Contracts of the program's functions on a rack: putting a cloth, making a rack, counting its lines.
-/
import Derived.Test.YtbpipcfijbgnhaaDoorRack
namespace Go.Proofs.YtbpipcfijbgnhaaDoor.hang
open Go Go.RowKit sl errs

/-- the row's cell is written, too -/
theorem Rack.put {u : World} {R Q : Nat} {l : Lin} {rows : Nat → List Clo} (h : Rack u R Q l rows) {n : Nat} (hn : n < 7) (hl : (rows n).length < 7) (c : Clo) :
    Rack ((u.setCells Q (14 * n + (rows n).length * 2) c.cells).setCell ⟨R, 2 + n, none⟩ (.slice (some ⟨Q, 14 * n, none⟩) ((rows n).length + 1) 7)) R Q l (more rows n c) := by
  have hs := h.set hn hl c
  have hsl := h.sl hn hl c (B := Q + 1) (by omega)
  have hne := hs.lt.2.2
  have hq : ∀ p : Addr, p.block = Q → ((u.setCells Q (14 * n + (rows n).length * 2) c.cells).setCell ⟨R, 2 + n, none⟩ (.slice (some ⟨Q, 14 * n, none⟩) ((rows n).length + 1) 7)).cell? p = (u.setCells Q (14 * n + (rows n).length * 2) c.cells).cell? p := fun p hp =>
    World.cell?_setCell_far _ _ _ _ (by show R ≠ p.block; rw [hp]; exact hne)
  have hr : ∀ i, i ≠ 2 + n → ((u.setCells Q (14 * n + (rows n).length * 2) c.cells).setCell ⟨R, 2 + n, none⟩ (.slice (some ⟨Q, 14 * n, none⟩) ((rows n).length + 1) 7)).cell? ⟨R, i, none⟩ = (u.setCells Q (14 * n + (rows n).length * 2) c.cells).cell? ⟨R, i, none⟩ := fun i hi =>
    World.cell?_setCell_other _ _ _ _ (fun e => hi (congrArg Addr.off e).symm)
  refine ⟨(hr 0 (by omega)).trans hs.l0, (hr 1 (by omega)).trans hs.l1, fun i hi => ?_, fun i => by rw [World.frozen?_setCell]; exact hs.fr i, fun i hi => by rw [hq _ rfl]; exact hs.room i hi, fun i => by rw [World.frozen?_setCell]; exact hs.fq i, fun i j x hi hx => ?_, fun i hi => ?_, ?_⟩
  · by_cases e : i = n
    · subst e
      rw [more_at]
      have := World.cell?_setCell_same _ _ (.slice (some ⟨Q, 14 * i, none⟩) ((rows i).length + 1) 7) (hs.row i hi)
      rw [this]
      simp
    · rw [more_ne _ _ e, hr _ (by omega)]
      exact hs.row i hi
  · rw [hq _ rfl, hq _ rfl]
    by_cases e : i = n
    · subst e
      rw [more_at] at hx
      obtain ⟨a, ha, _, hat⟩ := hsl.at_ j x hx
      obtain rfl := Option.some.inj ha
      have h0 := hat 0 _ rfl
      have h1 := hat 1 _ rfl
      rw [add_at, add_at] at h0 h1
      have e0 : 14 * i + j * 2 + 0 = 14 * i + 2 * j := by omega
      have e1 : 14 * i + j * 2 + 1 = 14 * i + 2 * j + 1 := by omega
      rw [e0] at h0
      rw [e1] at h1
      exact ⟨h0, h1⟩
    · rw [more_ne _ _ e] at hx
      exact hs.on i j x hi hx
  · by_cases e : i = n
    · subst e
      rw [more_at]
      simp
      omega
    · rw [more_ne _ _ e]
      exact hs.len i hi
  · have := hs.lt
    simp only [World.setCell, Array.size_modify] at *
    exact this
set_option maxRecDepth 100000 in
set_option maxHeartbeats 4000000 in
theorem put_any (l : Lin) (rows : Nat → List Clo) (R Q : Nat) (n : Nat) (hn : n < 7) (hln : (rows n).length < 7) (c : Clo) (hc : c.Fits) (w : World) (h : Rack w R Q l rows) :
    Calls Tryd.prog 76 #[.pointer (some ⟨R, 0, none⟩), .int .i64 n, c.v] w fun o w' => o = .returned (.tuple #[]) ∧ Rack w' R Q l (more rows n c) ∧ Keeps (fun k => k = Q ∨ k = R) w w' := by
  obtain ⟨i0, hi, hz0, hz1, hz2⟩ := info_parts cloS.info
  have H := Lib.hid h
  have hRw := h.lt.1
  have hQw := h.lt.2.1
  have hne := h.lt.2.2
  have eb : (w.alloc (.cells #[.int .i16 c.wide, .int .i16 c.heavy] 27)).heap.size = w.heap.size + 1 := by simp
  have h1 := H.out.alloc (.cells #[.int .i16 c.wide, .int .i16 c.heavy] 27)
  have H2 := Lib.hid ((h1.alloc (.cells #[.int .i16 c.wide, .int .i16 c.heavy] 27)).drewN 1)
  obtain ⟨m, hm⟩ : ∃ m, m = (rows n).length := ⟨_, rfl⟩
  have HM := Lib.hid hm
  have HN : Hid (∀ j u, [Value.int .i16 c.wide, .int .i16 c.heavy][j]? = some u → (((w.alloc (.cells #[.int .i16 c.wide, .int .i16 c.heavy] 27)).alloc (.cells #[.int .i16 c.wide, .int .i16 c.heavy] 27)).drew).cell? ((⟨w.heap.size + 1, 0, none⟩ : Addr).add j) = some u) := Lib.hid (by
    have t := two_new (w.alloc (.cells #[.int .i16 c.wide, .int .i16 c.heavy] 27)) (.int .i16 c.wide) (.int .i16 c.heavy) 27
    rw [eb] at t
    exact t)
  have wn0 : (0 : Int) ≤ (n : Int) := by omega
  have wn1 : (n : Int) < 7 := by omega
  have wn2 : ((n : Int)).toNat = n := by omega
  have r0 := H.out.row n hn
  have r1 := H2.out.row n hn
  have r2 : ((((w.alloc (.cells #[.int .i16 c.wide, .int .i16 c.heavy] 27)).alloc (.cells #[.int .i16 c.wide, .int .i16 c.heavy] 27)).drew).setCells Q (14 * n + m * 2) [.int .i16 c.wide, .int .i16 c.heavy]).cell? ⟨R, 2 + n, none⟩ = some (.slice (some ⟨Q, 14 * n, none⟩) m 7) := by rw [hm]; exact (H2.out.set hn hln c).row n hn
  have b0 : (w.alloc (.cells #[.int .i16 c.wide, .int .i16 c.heavy] 27)).cell? ⟨w.heap.size, 0, none⟩ = some (.int .i16 c.wide) := cell_of_row _ _ _ _ _ _ (heap_alloc_new w _)
  have b1 : (w.alloc (.cells #[.int .i16 c.wide, .int .i16 c.heavy] 27)).cell? ⟨w.heap.size, 1, none⟩ = some (.int .i16 c.heavy) := cell_of_row _ _ _ _ _ _ (heap_alloc_new w _)
  have f2 : ((((w.alloc (.cells #[.int .i16 c.wide, .int .i16 c.heavy] 27)).alloc (.cells #[.int .i16 c.wide, .int .i16 c.heavy] 27)).drew).setCells Q (14 * n + m * 2) [.int .i16 c.wide, .int .i16 c.heavy]).frozen? ⟨R, 2 + n, none⟩ = false := by rw [hm]; exact (H2.out.set hn hln c).fr (2 + n)
  rw [← hm] at r0 r1
  have HP := Lib.hid (H2.out.put hn hln c)
  rw [← hm] at HP
  clear h h1 eb hm
  go_enter Tryd.func76, Tryd.ntmps76
  go_wp2_with fail
  go_region_law ((refine step_append_room rfl (.tmp 13) (.tmp 15) 34 rfl 27 i0 2 Tryd.underlying34 hi hz1 Q (14 * n) m 7 (by rfl) ⟨w.heap.size + 1, 0, none⟩ 1 1 [.int .i16 c.wide, .int .i16 c.heavy] (by rfl) (by rfl) HN.out (two_cell rfl rfl) (by have := HM.out; omega) (fun j hj => ⟨H2.out.room _ (by have := HM.out; have : j < 2 := hj; omega), H2.out.fq _⟩) ?_))
  all_goals
    go_wp2_with fail
    go_end0
    exact ⟨rfl, HP.out, (keeps_cells (S := fun k => k = Q ∨ k = R) ((((Keeps.refl _ w).alloc _).alloc _).drewN 1) (.inl (.inl rfl)) _ _).setCell (p := ⟨R, 2 + n, none⟩) (.inl (.inr rfl)) _⟩
set_option maxRecDepth 100000 in
set_option maxHeartbeats 4000000 in
/-- all rows below m have cloths, and the row m, if there is one, has none -/
theorem used_any (l : Lin) (rows : Nat → List Clo) (R Q : Nat) (m : Nat) (hm : m ≤ 7) (hlo : ∀ n, n < m → rows n ≠ []) (hhi : m < 7 → rows m = []) (w : World) (h : Rack w R Q l rows) :
    Calls Tryd.prog 77 #[.pointer (some ⟨R, 0, none⟩)] w fun o w' => o = .returned (.int .i64 m) ∧ w = w' := by
  have H := Lib.hid h
  have HL := Lib.hid hlo
  have HH := Lib.hid hhi
  clear h hlo hhi
  go_enter Tryd.func77, Tryd.ntmps77
  go_wp2_with fail
  go_loop [3] (fun vi => ∃ k : Nat, k ≤ m ∧ vi = .int .i64 k) (fun vi => m - (intOf vi).toNat)
  case atStart => exact ⟨0, by omega, rfl⟩
  case round =>
    obtain ⟨k, hk, rfl⟩ := hrel
    have wa : (0 : Int) ≤ (k : Int) := by omega
    by_cases hlt : k < m
    · have hk7 : k < 7 := by omega
      have hr := H.out.row k hk7
      have hpos : 0 < (rows k).length := List.length_pos_iff.2 (HL.out k hlt)
      obtain ⟨z, hz⟩ : ∃ z, z = (rows k).length := ⟨_, rfl⟩
      rw [← hz] at hr hpos
      clear hz
      go_wp2_with fail
      go_round
      case rel => exact ⟨k + 1, by omega, by go_num⟩
      case measure => simp [intOf]; omega
    · obtain rfl : k = m := by omega
      by_cases h7 : k < 7
      · have hr := H.out.row k h7
        rw [HH.out h7] at hr
        simp only [List.length_nil] at hr
        go_wp2_with fail
        go_ret
        exact ⟨rfl, rfl⟩
      · obtain rfl : k = 7 := by omega
        go_wp2_with fail
        go_ret
        exact ⟨rfl, rfl⟩
end Go.Proofs.YtbpipcfijbgnhaaDoor.hang
