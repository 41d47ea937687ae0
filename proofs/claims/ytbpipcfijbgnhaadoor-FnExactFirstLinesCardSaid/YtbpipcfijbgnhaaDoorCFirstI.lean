/-
  Contract of the program's FirstLines.
-/
import Derived.Test.YtbpipcfijbgnhaaDoorCFirstF
namespace Go.Proofs.YtbpipcfijbgnhaaDoor.hang
open Go Go.RowKit sl errs

/-- the rows of some numbered cloths -/
def rowsZ (zs : List (Int × Clo)) (n : Nat) : List Clo := onZ zs n
theorem rowsZ_put (zs : List (Int × Clo)) (j : Nat) (x : Clo) : more (rowsZ zs) j x = rowsZ (zs ++ [((j : Int), x)]) := by
  funext i
  unfold rowsZ
  rw [onZ_snoc]
  by_cases e : i = j
  · subst e
    rw [more_at, if_pos rfl]
  · rw [more_ne _ _ e, if_neg (by omega), List.append_nil]
theorem firstZ_mem {l : Lin} {xs : List Clo} {o : Int} {x : Clo} (h : (o, x) ∈ firstZ l xs) : x ∈ xs := by
  rw [← firstZ_snd l xs]
  exact List.mem_map.2 ⟨_, h, rfl⟩
theorem keeps_cell {S : Nat → Prop} {a b : World} (h : Keeps S a b) {p : Addr} (hp : p.block < a.heap.size) (hs : ¬ S p.block) : b.cell? p = a.cell? p := by
  unfold World.cell?
  rw [h.block _ hp hs]
set_option maxRecDepth 100000 in
set_option maxHeartbeats 16000000 in
theorem first_fine (l : Lin) (hl : l.Fits) (A : Option Addr) (n c : Nat) (xs : List Clo) (en : n = xs.length) (hn : n ≤ 1048576) (hf : ∀ x ∈ xs, x.Fits) {w : World} {B : Nat} {e : Nat → Addr} (h : Errs w B e) (hB : B ≤ w.heap.size) (hg : Sl Clo.cells 2 w w.heap.size A xs)
    (h0 : 0 = if [l].all Lin.valid = true then 0 else 1) (h1 : 0 = if xs.all Clo.valid = true then 0 else 1) (h2 : 0 = if 7 < n then 3 else 0) (h3 : 0 = if aloneB l xs = true then 0 else 6) (hv : ∀ x ∈ xs, Clo.valid x = true) (hn7 : n ≤ 7) (hal : aloneB l xs = true) (num : Nat) (hnum : Used (firstZ l xs) num) :
    Calls Tryd.prog 39 #[l.v, .slice A n c] w (Own3 w (firstO l xs) num 0) := by
  have HV := Lib.hid hv
  have HAL := Lib.hid hal
  have HNU := Lib.hid hnum
  clear hv hal hnum
  obtain ⟨i0, hi, hz0, hz1, hz2⟩ := info_parts intS.info
  have hmk : ∀ u : World, (Instr.makeSlice 38 (.int .i64 (n : Int)) (.int .i64 (n : Int))).run Tryd.prog u =
      .ok (.slice (some ⟨u.heap.size, 0, none⟩) n n) (u.alloc (.cells (madeCells #[.int .i64 0] n) 2)) := fun u => by
    have h := run_make (P := Tryd.prog) u 38 2 i0 _ Tryd.underlying38 hi hz0 .i64 .i64 (n : Int) (n : Int) (by omega) (Int.le_refl _) (by rw [hz2]; omega) (by omega)
    have e : ((n : Int)).toNat = n := by omega
    rw [e] at h
    simpa [hz1, Value.cells] using h
  have S0 := Lib.hid (FitS.new l w 47)
  have T1 : Hid (Sl Lin.cells 2 (((w.alloc (.cells #[.int .i16 l.long, .int .i16 l.most] 47)).alloc (.cells #[.int .i16 l.long, .int .i16 l.most] 47)).drew) (((w.alloc (.cells #[.int .i16 l.long, .int .i16 l.most] 47)).alloc (.cells #[.int .i16 l.long, .int .i16 l.most] 47)).drew).heap.size (some ⟨w.heap.size + 1, 0, none⟩) [l]) :=
    Lib.hid ((sl_line2 w l 47 47).keep fun _ _ => rfl)
  have H0 := Lib.hid h0
  have H1 := Lib.hid h1
  have H2 := Lib.hid h2
  have H3 := Lib.hid h3
  have En := Lib.hid en
  clear h0 h1 h2 h3 en
  go_enter Tryd.func39, Tryd.ntmps39
  go_wp2_with fail
  go_region_held3 (fun u => FitP l w u)
    (first | assumption | exact S0.out.p | exact (S0.out.drewN 1).p | exact FitP.alloc (by assumption) _ | exact FitP.next (by assumption) hb2)
    (first
      | (go_at_call 63; refine (f_lines l hl h hB (by assumption) _ T1.out 0 H0.out .nilIface rfl).mono ?_; rintro o w2 ⟨rfl, hb2⟩)
      | (go_at_call 49; refine (f_cloths A n c xs En.out hn hf h hB hg (by assumption) 0 H1.out .nilIface rfl).mono ?_; rintro o w2 ⟨rfl, hb2⟩)
      | (go_at_call 55; refine (f_count A n c hn h hB (by assumption) 0 H2.out .nilIface rfl).mono ?_; rintro o w2 ⟨rfl, hb2⟩)
      | (go_at_call 73; refine (f_each l hl A n c xs En.out hn hf h hB hg (by assumption) 0 H3.out .nilIface rfl).mono ?_; rintro o w2 ⟨rfl, hb2⟩)
      | (go_at_call 54; refine (firstOf_any e [0, 0, 0, 0] _ 4 4 rfl (by decide) _ (cells_errs e [0, 0, 0, 0] _ 69 #[.nilIface, .nilIface, .nilIface, .nilIface] rfl)).mono ?_; rintro o w2 ⟨rfl, rfl⟩)
      | fail)
  rename_i hS
  have S4 := Lib.hid hS.s
  have HE := Lib.hid (h.below (S4.out.b.mono hB))
  clear hS
  have e0 : errOf e (firstCode [0, 0, 0, 0]) = .nilIface := rfl
  rw [e0]
  obtain ⟨w9, hw9⟩ : ∃ w9, w9 = w2.alloc (.cells #[.nilIface, .nilIface, .nilIface, .nilIface] 69) := ⟨_, rfl⟩
  rw [← hw9] at S4 HE ⊢
  have c0 := S4.out.c0
  have c1 := S4.out.c1
  clear e0 hw9
  go_wp2_with fail
  refine (newRack_any l hl _).mono ?_
  rintro o w5 ⟨rfl, hR, hb5⟩
  obtain ⟨Q, hQe⟩ : ∃ Q, Q = w9.heap.size + 1 + 1 := ⟨_, rfl⟩
  obtain ⟨R, hRe⟩ : ∃ R, R = w9.heap.size + 1 := ⟨_, rfl⟩
  rw [← hQe, ← hRe] at hR
  rw [← hRe]
  have hz9 := S4.out.z
  have hRw : w.heap.size < R := by omega
  have hQw : w.heap.size < Q := by omega
  have hRQ : R ≠ Q := hR.lt.2.2
  have S5 := Lib.hid (S4.out.next hb5)
  obtain ⟨G, hGe⟩ : ∃ G, G = w5.heap.size := ⟨_, rfl⟩
  have hRG : R < G := by rw [hGe]; exact hR.lt.1
  have hQG : Q < G := by rw [hGe]; exact hR.lt.2.1
  have HR6 := Lib.hid (hR.alloc (.cells (madeCells #[.int .i64 0] n) 2))
  have hP0 : (w5.alloc (.cells (madeCells #[.int .i64 0] n) 2)).ownsRow w.heap.size 2 1 (.slice (some ⟨G, 0, none⟩) n n) n (madeCells #[.int .i64 0] n).toList := by
    rw [hGe]
    exact World.ownsRow_lit w5 (madeCells #[.int .i64 0] n) n S5.out.b.size (by unfold maxLen; omega) (by rw [size_madeCells, Nat.mul_one])
  have HP6 := Lib.hid hP0
  have HB6 := Lib.hid (S5.out.b.alloc S5.out.b.size (.cells (madeCells #[.int .i64 0] n) 2))
  have HG := Lib.hid hGe
  clear c0 c1 hb5 hR hQe hRe hGe hP0
  go_wp2_with fail
  rw [← HG.out]
  go_loopw [36, 10, 11, 12] (fun vi _ _ _ wr => ∃ k L u, k ≤ n ∧ vi = .int .i64 (k : Nat) ∧ Rack wr R Q l (rowsZ (firstZ l (xs.take k))) ∧ wr.ownsRow w.heap.size 2 1 (.slice (some ⟨G, 0, none⟩) n n) n L ∧ Done intS.C 1 (firstO l xs) k L ∧ Used (firstZ l (xs.take k)) u ∧ Below w.heap.size w wr) (fun vi _ _ _ _ => n - (intOf vi).toNat)
  case atStart => exact ⟨0, _, 0, by omega, rfl, HR6.out, HP6.out, Done.zero _ _ _ _, ⟨fun i hi => absurd hi (by omega), fun i _ => rfl⟩, HB6.out⟩
  case round =>
    clear HR6 HP6 HB6
    obtain ⟨k, L, u, hk, rfl, hR, hP, hD, hU, hB⟩ := hrel
    have HR := Lib.hid hR
    have HP := Lib.hid hP
    have HD := Lib.hid hD
    have HU := Lib.hid hU
    have HB := Lib.hid hB
    by_cases hlt : k < n
    · obtain ⟨x, hx⟩ : ∃ x, xs[k]? = some x := ⟨xs[k]'(by have := En.out; omega), List.getElem?_eq_getElem _⟩
      obtain ⟨a, rfl, hab, hat⟩ := (hg.below hB).at_ k x hx
      obtain ⟨q0, q1⟩ := cloS.at_ hat
      have hxf := hf x (List.mem_of_getElem? hx)
      have HX := Lib.hid hx
      have HA1 := Lib.hid (alone_at HAL.out hx)
      have huk : u ≤ k := by
        have h1 := hU.le
        rw [firstZ_len, List.length_take] at h1
        omega
      have hGr : G < wr.heap.size := (hP.lt G rfl).2
      have hRr := hR.lt.1
      have hQr := hR.lt.2.1
      obtain ⟨bc, hbc⟩ : ∃ b, b = wr.heap.size := ⟨_, rfl⟩
      have q2 : (wr.alloc (.cells #[.int .i16 x.wide, .int .i16 x.heavy] 27)).cell? ⟨bc, 0, none⟩ = some (.int .i16 x.wide) := by rw [hbc]; exact cell_of_row _ _ _ _ _ _ (heap_alloc_new wr _)
      have q3 : (wr.alloc (.cells #[.int .i16 x.wide, .int .i16 x.heavy] 27)).cell? ⟨bc, 1, none⟩ = some (.int .i16 x.heavy) := by rw [hbc]; exact cell_of_row _ _ _ _ _ _ (heap_alloc_new wr _)
      have hQb : Q < bc := by omega
      have hRb : R < bc := by omega
      have hbz : bc < (wr.alloc (.cells #[.int .i16 x.wide, .int .i16 x.heavy] 27)).heap.size := by rw [hbc]; simp
      have HBC := Lib.hid hbc
      have HRA := Lib.hid (hR.alloc (.cells #[.int .i16 x.wide, .int .i16 x.heavy] 27))
      have HPA := Lib.hid (hP.alloc (.cells #[.int .i16 x.wide, .int .i16 x.heavy] 27))
      have HBA := Lib.hid (hB.alloc hB.size (.cells #[.int .i16 x.wide, .int .i16 x.heavy] 27))
      clear hx hat hR hP hD hU hB
      obtain ⟨w1, hw1⟩ : ∃ w1, w1 = wr.alloc (.cells #[.int .i16 x.wide, .int .i16 x.heavy] 27) := ⟨_, rfl⟩
      rw [← hw1] at q2 q3 hbz HRA HPA HBA
      have HW1 := Lib.hid hw1
      have Q2 := Lib.hid q2
      have Q3 := Lib.hid q3
      clear hw1 hbc q2 q3
      go_wp2_with fail
      rw [← HW1.out, ← HBC.out]
      go_loopw [12] (fun vj wz => ∃ j : Nat, j ≤ u ∧ vj = .int .i64 j ∧ (∀ i : Nat, i < j → fitsB l (onZ (firstZ l (xs.take k)) i ++ [x]) = false) ∧ Rack wz R Q l (rowsZ (firstZ l (xs.take k))) ∧ Keeps (fun i => i = Q) w1 wz) (fun vj _ => u + 1 - (intOf vj).toNat)
      case atStart => exact ⟨0, by omega, rfl, fun i hi => absurd hi (by omega), HRA.out, Keeps.refl _ _⟩
      case round =>
        obtain ⟨j, hj, rfl, hno, hRz, hKz⟩ := hrel
        have HNO := Lib.hid hno
        have HRZ := Lib.hid hRz
        have HKZ := Lib.hid hKz
        have y0 : wr.cell? ⟨bc, 0, none⟩ = some (.int .i16 x.wide) := (keeps_cell hKz (p := ⟨bc, 0, none⟩) hbz (by show ¬ bc = Q; omega)).trans Q2.out
        have y1 : wr.cell? ⟨bc, 1, none⟩ = some (.int .i16 x.heavy) := (keeps_cell hKz (p := ⟨bc, 1, none⟩) hbz (by show ¬ bc = Q; omega)).trans Q3.out
        have hj7 : j < 7 := by omega
        have hmem : ∀ y ∈ rowsZ (firstZ l (xs.take k)) j ++ [x], y ∈ xs := fun y hy => by
          rcases List.mem_append.1 hy with h1 | h1
          · obtain ⟨o, ho⟩ := onZ_mem h1
            exact List.mem_of_mem_take (firstZ_mem ho)
          · rw [List.mem_singleton.1 h1]
            exact List.mem_of_getElem? HX.out
        have hll : (rowsZ (firstZ l (xs.take k)) j).length < 7 := by
          have h1 := onZ_len (firstZ l (xs.take k)) (j : Int)
          rw [firstZ_len, List.length_take] at h1
          unfold rowsZ
          omega
        have HOK := Lib.hid (ok_valid (fun y hy => HV.out y (hmem y hy)) (fun y hy => hf y (hmem y hy)) (by simp; omega))
        obtain ⟨b, hb⟩ : ∃ b, fitsB l (rowsZ (firstZ l (xs.take k)) j ++ [x]) = b := ⟨_, rfl⟩
        have HFB := Lib.hid hb
        clear hno hRz hKz hmem hb
        cases b with
        | false =>
          go_wp2_with fail
          refine (takes_any l hl _ R Q j hj7 hll x hxf HOK.out _ HRZ.out).mono ?_
          rintro o w4 ⟨rfl, hR4, hK4⟩
          rw [HFB.out]
          have HR4 := Lib.hid hR4
          have HK4 := Lib.hid (HKZ.out.trans hK4)
          clear hR4 hK4 y0 y1
          go_wp2_with fail
          go_roundw
          case rel =>
            have hno2 : ∀ i : Nat, i < j + 1 → fitsB l (onZ (firstZ l (xs.take k)) i ++ [x]) = false := fun i hi => by
              rcases Nat.lt_or_ge i j with h1 | h1
              · exact HNO.out i h1
              · obtain rfl : i = j := by omega
                exact HFB.out
            exact ⟨j + 1, first_below HU.out HA1.out hno2, by go_num, hno2, HR4.out, HK4.out⟩
          case measure => simp [intOf]; omega
        | true =>
          go_wp2_with fail
          refine (takes_any l hl _ R Q j hj7 hll x hxf HOK.out _ HRZ.out).mono ?_
          rintro o w4 ⟨rfl, hR4, hK4⟩
          rw [HFB.out]
          have HR4 := Lib.hid hR4
          have hK4' := HKZ.out.trans hK4
          have HK4 := Lib.hid hK4'
          clear hR4 hK4 y0 y1
          have y0 : w4.cell? ⟨bc, 0, none⟩ = some (.int .i16 x.wide) := (keeps_cell hK4' (p := ⟨bc, 0, none⟩) hbz (by show ¬ bc = Q; omega)).trans Q2.out
          have y1 : w4.cell? ⟨bc, 1, none⟩ = some (.int .i16 x.heavy) := (keeps_cell hK4' (p := ⟨bc, 1, none⟩) hbz (by show ¬ bc = Q; omega)).trans Q3.out
          clear hK4'
          go_wp2_with fail
          refine (put_any l _ R Q j hj7 hll x hxf _ HR4.out).mono ?_
          rintro o w6 ⟨rfl, hR6, hK6⟩
          rw [rowsZ_put] at hR6
          have hKK := (HK4.out.mono (T := fun i => i = Q ∨ i = R) (fun i _ hi => .inl hi)).trans hK6
          have hPk := hKK.owns HPA.out (fun g' hg' => by
            obtain rfl : G = g' := Option.some.inj hg'
            rintro (h | h) <;> omega)
          have HBK := Lib.hid (HBA.out.trans (hKK.below HBA.out.size (fun i hi => by rcases hi with hi | hi <;> omega)))
          have HR6 := Lib.hid hR6
          have hLL := hPk.1
          obtain ⟨v0, s0⟩ : ∃ v, w6.cell? ⟨G, k, none⟩ = some v := ⟨L[k]'(by omega), (hPk.cellAt k (by omega)).trans (List.getElem?_eq_getElem _)⟩
          have f0 := hPk.frozenAt k
          have HLL := Lib.hid hLL
          have HPK := Lib.hid hPk
          clear hR6 hK6 hKK hPk hLL y0 y1
          go_wp2_with fail
          go_roundw
          case rel =>
            have hjl : leastJ l (fun n => onZ (firstZ l (xs.take k)) n) x 8 0 = j := first_found HU.out (by omega) HA1.out HNO.out hj (fun _ => HFB.out)
            have hz1 : firstZ l (xs.take (k + 1)) = firstZ l (xs.take k) ++ [((j : Int), x)] := by rw [firstZ_take HX.out, firstStep, hjl]
            have hst := HPK.out.stored k (.int .i64 j)
            have hd := HD.out.step (intS.len _) (firstO_at HX.out hjl) (by rw [HLL.out, firstO_len, En.out])
            rw [Nat.mul_one] at hd
            exact ⟨k + 1, _, max u (j + 1), by omega, by go_num, by rw [hz1]; exact HR6.out.other hst.2 (by omega) (by omega), hst.1, hd, by rw [hz1]; exact HU.out.step (l := l) hj, HBK.out.setCell (p := ⟨G, k, none⟩) (by show w.heap.size ≤ G; omega) _⟩
          case measure => simp [intOf]; omega
    · obtain rfl : k = n := by omega
      have hl1 := En.out
      have etk : xs.take k = xs := List.take_of_length_le (by omega)
      rw [etk] at hR hU HR
      have hun : u = num := used_unique hU HNU.out
      have hnl := HNU.out.le
      rw [firstZ_len] at hnl
      have e1 : L = (firstO l xs).flatMap intS.C := Done.full (by rw [firstO_len, ← hl1]; exact hD) (intS.len _) (by omega) (by rw [hP.1, firstO_len, hl1])
      have e2 : (firstO l xs).length = k := by rw [firstO_len]; exact hl1.symm
      have HRES : Hid (Own3 w (firstO l xs) num 0 (.returned (.tuple #[.slice (some ⟨G, 0, none⟩) k k, .int .i64 num, .int .i64 0])) wr) := Lib.hid ⟨_, rfl, by rw [e2, ← e1]; exact hP, hB⟩
      have HUS : Hid (num ≤ 7 ∧ (∀ i, i < num → rowsZ (firstZ l xs) i ≠ []) ∧ (num < 7 → rowsZ (firstZ l xs) num = [])) := Lib.hid ⟨by omega, fun i hi => HNU.out.lo i hi, fun _ => HNU.out.hi num (Nat.le_refl _)⟩
      clear hR hP hD hU hB etk e1 e2 hl1 hnl hun
      go_wp2_with fail
      refine (used_any l _ R Q num HUS.out.1 HUS.out.2.1 HUS.out.2.2 _ HR.out).mono ?_
      rintro o w8 ⟨rfl, rfl⟩
      go_wp2_with fail
      go_ret3
      exact HRES.out

end Go.Proofs.YtbpipcfijbgnhaaDoor.hang
