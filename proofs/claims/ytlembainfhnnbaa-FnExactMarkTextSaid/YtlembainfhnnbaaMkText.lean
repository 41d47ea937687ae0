/-
  Texts of marks: the program's and the model's.
-/
import Derived.Test.YtlembainfhnnbaaJoin4
import Derived.Lib.SlBytesRow
import Derived.Deep.MidRow
namespace Go.Proofs.Ytlembainfhnnbaa.mks
open Go Go.RowKit sl stk

/-- the letter of a stitch -/
def letB (m k : Nat) : UInt8 := if m.testBit k = true then 43 else 46
def txtB (m k : Nat) : ByteArray := ⟨((List.range k).map (letB m)).toArray⟩
theorem txtB_succ (m k : Nat) : txtB m (k + 1) = txtB m k ++ ⟨#[letB m k]⟩ := by
  apply ByteArray.ext
  apply Array.toList_inj.1
  simp [txtB, List.range_succ]
theorem txtB_size (m k : Nat) : (txtB m k).size = k := by simp [txtB, ByteArray.size]
def txtR (s : Int) (m : Nat) : ByteArray := if okB s m = true then txtB m s.toNat else ⟨#[]⟩

set_option maxHeartbeats 2000000 in
theorem l06Text_any (s m : Nat) (hm : m < 65536) (hs : s ≤ 12) (w : World) :
    Calls Try.prog 18 #[.int .i64 s, .int .u16 m] w fun o w' => o = .returned (.string (txtB m s)) ∧ w = w' := by
  go_enter Try.func18, Try.ntmps18
  go_wp2_with fail
  go_loop [5, 6] (fun vt vk => ∃ k : Nat, k ≤ s ∧ vk = .int .i64 k ∧ vt = .string (txtB m k)) (fun _ vk => s - (intOf vk).toNat)
  case atStart => exact ⟨0, by omega, rfl, rfl⟩
  case round =>
    obtain ⟨k, hk, rfl, rfl⟩ := hrel
    by_cases hlt : k < s
    · have hone := shr_mod_one m k
      obtain ⟨q0, q1⟩ := shr_in hm k
      have hsc := txtB_succ m k
      have hsz := txtB_size m k
      have hle : (txtB m k).size ≤ 12 := by omega
      obtain ⟨T, hT⟩ : ∃ T, txtB m k = T := ⟨_, rfl⟩
      rw [hT] at hsc hle ⊢
      unfold letB at hsc
      have HSC := Lib.hid hsc
      clear hsz hT hsc
      cases hb : m.testBit k with
      | true =>
        rw [hb] at hone HSC
        clear hb
        go_wp2_with fail
        go_round
        case rel => exact ⟨k + 1, by omega, by go_num, by rw [HSC.out]; rfl⟩
        case measure => simp [intOf]; omega
      | false =>
        rw [hb] at hone HSC
        clear hb
        go_wp2_with fail
        go_round
        case rel => exact ⟨k + 1, by omega, by go_num, by rw [HSC.out]; rfl⟩
        case measure => simp [intOf]; omega
    · obtain rfl : k = s := by omega
      go_wp2_with fail
      go_ret
      exact ⟨rfl, rfl⟩
set_option maxHeartbeats 2000000 in
theorem MarkText_spec (s : Int) (m : Nat) (hm : m < 65536) (t : ByteArray) (ht : txtR s m = t) (w : World) :
    Calls Try.prog 11 #[.int .i64 s, .int .u16 m] w fun o w' => o = .returned (.string t) ∧ w = w' := by
  have HO := Lib.hid (l06Ok_any s m)
  cases hb : okB s m with
  | true =>
    rw [hb] at HO
    obtain ⟨n, rfl, h1, h12, _⟩ := ok_in hb
    obtain rfl : txtB m n = t := by simpa [txtR, hb] using ht
    have HT := Lib.hid (l06Text_any n m hm h12)
    clear hb ht hm
    go_enter Try.func11, Try.ntmps11
    go_wp2_with (first | (go_at_call 15; refine (HO.out _).mono ?_; rintro o w1 ⟨rfl, rfl⟩) | (go_at_call 18; refine (HT.out _).mono ?_; rintro o w1 ⟨rfl, rfl⟩) | fail)
    go_ret
    exact ⟨rfl, rfl⟩
  | false =>
    rw [hb] at HO
    obtain rfl : ⟨#[]⟩ = t := by simpa [txtR, hb] using ht
    clear hb ht hm
    go_enter Try.func11, Try.ntmps11
    go_wp2_with (first | (go_at_call 15; refine (HO.out _).mono ?_; rintro o w1 ⟨rfl, rfl⟩) | fail)
    go_ret
    exact ⟨rfl, rfl⟩
abbrev CB (b : UInt8) : List Value := [.int .u8 (b.toNat : Int)]
theorem infoB : (Try.prog.info? 5).map (fun i => (i.zero, i.size, i.bytes)) = some (some (.int .u8 0), 1, 1) := by kernel_rfl
set_option maxRecDepth 100000 in
set_option maxHeartbeats 4000000 in
theorem MarkText_any (s : Int) (m : Nat) (hm : m < 65536) (t : ByteArray) (ht : txtR s m = t) (w : World) :
    Calls Try.prog 12 #[.int .i64 s, .int .u16 m] w fun o w' => o = .returned (.string t) ∧ Below w.heap.size w w' := by
  have HV := Lib.hid (ValidMark_any s m)
  cases hb : okB s m with
  | false =>
    rw [hb] at HV
    obtain rfl : ⟨#[]⟩ = t := by simpa [txtR, hb] using ht
    clear hb ht hm
    go_enter Try.func12, Try.ntmps12
    go_wp2_with (first | (go_at_call 8; refine (HV.out _).mono ?_; rintro o w1 ⟨rfl, rfl⟩) | fail)
    go_ret
    exact ⟨rfl, Below.refl _ _⟩
  | true =>
    rw [hb] at HV
    obtain ⟨n, rfl, h1, h12, _⟩ := ok_in hb
    obtain rfl : txtB m n = t := by simpa [txtR, hb] using ht
    obtain ⟨i0, hi, hz0, hz1, hz2⟩ := info_parts infoB
    have hmk : ∀ u : World, (Instr.makeSlice 33 (.int .i64 (n : Int)) (.int .i64 (n : Int))).run Try.prog u =
        .ok (.slice (some ⟨u.heap.size, 0, none⟩) n n) (u.alloc (.cells (madeCells #[.int .u8 0] n) 5)) := fun u => by
      have h := run_make (P := Try.prog) u 33 5 i0 _ Try.underlying33 hi hz0 .i64 .i64 (n : Int) (n : Int) (by omega) (Int.le_refl _) (by rw [hz2]; omega) (by omega)
      have e : ((n : Int)).toNat = n := by omega
      rw [e] at h
      simpa [hz1, Value.cells] using h
    have hB0 : Below w.heap.size w (w.alloc (.cells (madeCells #[.int .u8 0] n) 5)) := (Below.refl _ _).alloc (Nat.le_refl _) _
    have hP0 : (w.alloc (.cells (madeCells #[.int .u8 0] n) 5)).ownsRow w.heap.size 5 1 (.slice (some ⟨w.heap.size, 0, none⟩) n n) n _ :=
      World.ownsRow_lit w (madeCells #[.int .u8 0] n) n (Nat.le_refl _) (by unfold maxLen; omega) (by rw [size_madeCells, Nat.mul_one])
    have HP0 := Lib.hid hP0
    have HB0 := Lib.hid hB0
    clear hP0 hB0 hb ht
    go_enter Try.func12, Try.ntmps12
    go_wp2_with (first | (go_at_call 8; refine (HV.out _).mono ?_; rintro o w1 ⟨rfl, rfl⟩) | fail)
    go_loopw [6, 15] (fun _ vi wr => ∃ k L, k ≤ n ∧ vi = .int .i64 (k : Nat) ∧ wr.ownsRow w.heap.size 5 1 (.slice (some ⟨w.heap.size, 0, none⟩) n n) n L ∧ Done CB 1 ((List.range n).map (letB m)) k L ∧ Below w.heap.size w wr) (fun _ vi _ => n - (intOf vi).toNat)
    case atStart => exact ⟨0, _, by omega, rfl, HP0.out, Done.zero _ _ _ _, HB0.out⟩
    case round =>
      clear HP0 HB0
      obtain ⟨k, L, hk, rfl, hP, hD, hB⟩ := hrel
      have HD := Lib.hid hD
      have hLL := hP.1
      have HB := Lib.hid hB
      by_cases hlt : k < n
      · have HX : Hid (((List.range n).map (letB m))[k]? = some (letB m k)) := Lib.hid (by simp [hlt])
        obtain ⟨v0, s0⟩ : ∃ v, wr.cell? ⟨w.heap.size, k, none⟩ = some v := ⟨L[k]'(by omega), (hP.cellAt k (by omega)).trans (List.getElem?_eq_getElem _)⟩
        have f0 := hP.frozenAt k
        have HLL := Lib.hid hLL
        have HP := Lib.hid hP
        have HH := Lib.hid (has_any m k hm (by omega))
        have hlb : CB (letB m k) = [.int .u8 (if m.testBit k = true then 43 else 46)] := by
          unfold letB
          cases m.testBit k <;> rfl
        clear hLL hP hD hB
        cases hb : m.testBit k with
        | true =>
          rw [hb] at HH hlb
          have HLB := Lib.hid hlb
          clear hb hlb
          go_wp2_with (first | (go_at_call 19; refine (HH.out _).mono ?_; rintro o w1 ⟨rfl, rfl⟩) | fail)
          go_roundw
          case rel =>
            have hP3 := (HP.out.stored k (.int .u8 46)).1
            have hP4 := (hP3.stored k (.int .u8 43)).1
            rw [List.set_set] at hP4
            have hd := HD.out.step (C := CB) (fun _ _ => rfl) HX.out (by rw [HLL.out]; simp)
            rw [Nat.mul_one, HLB.out] at hd
            exact ⟨k + 1, _, by omega, by go_num, hP4, hd, (HB.out.setCell (p := ⟨w.heap.size, k, none⟩) (Nat.le_refl _) _).setCell (p := ⟨w.heap.size, k, none⟩) (Nat.le_refl _) _⟩
          case measure => simp [intOf]; omega
        | false =>
          rw [hb] at HH hlb
          have HLB := Lib.hid hlb
          clear hb hlb
          go_wp2_with (first | (go_at_call 19; refine (HH.out _).mono ?_; rintro o w1 ⟨rfl, rfl⟩) | fail)
          go_roundw
          case rel =>
            have hP3 := (HP.out.stored k (.int .u8 46)).1
            have hd := HD.out.step (C := CB) (fun _ _ => rfl) HX.out (by rw [HLL.out]; simp)
            rw [Nat.mul_one, HLB.out] at hd
            exact ⟨k + 1, _, by omega, by go_num, hP3, hd, HB.out.setCell (p := ⟨w.heap.size, k, none⟩) (Nat.le_refl _) _⟩
          case measure => simp [intOf]; omega
      · obtain rfl : k = n := by omega
        have hl : ((List.range k).map (letB m)).length = k := by simp
        have hL : L = ((List.range k).map (letB m)).flatMap CB := Done.full (C := CB) (sz := 1) (by rw [hl]; exact hD) (fun _ _ => rfl) (by decide) (by rw [hP.1, hl])
        have hcv := run_convert_bytes_back (P := Try.prog) wr 33 9 5 ⟨w.heap.size, 0, none⟩ k ((List.range k).map (letB m)) Try.underlying33 Try.underlying5 Try.underlying9 (fun j hj => by
          have h1 := hP.cellAt j (by rw [hl] at hj; omega)
          rw [add_lit, h1, hL]
          have h2 := flat_get (C := CB) (sz := 1) (xs := (List.range k).map (letB m)) (fun _ _ => rfl) (k := j) (j := 0) (List.getElem?_eq_getElem hj) rfl
          simpa using h2)
        rw [hl] at hcv
        clear hL hl hP hLL hD
        go_wp2_with fail
        go_ret
        exact ⟨rfl, HB.out⟩
end Go.Proofs.Ytlembainfhnnbaa.mks
