/-
  Texts of folds: the program's and the model's.
-/
import Derived.Test.YtdcckdfemelbiaaDoorErrL
import Derived.Test.YtdcckdfemelbiaaDoorJoin11
import Derived.Lib.SlBytesRow
import Derived.Deep.MidRow
namespace Go.Proofs.YtdcckdfemelbiaaDoor.folw
open Go Go.RowKit sl errs fold

abbrev folLs : List UInt8 := [119, 104, 87, 72]
/-- the letter of a fold -/
def letF (k : Int) : UInt8 := folLs.getD k.toNat 0
def txtF (ks : List Int) : ByteArray := ⟨(ks.map letF).toArray⟩
def ftR (ks : List Int) : ByteArray := if codeE ks = 0 then txtF ks else ⟨#[]⟩
theorem txtF_snoc (ks : List Int) (k : Int) : txtF (ks ++ [k]) = txtF ks ++ ⟨#[letF k]⟩ := by
  apply ByteArray.ext
  apply Array.toList_inj.1
  simp [txtF]
theorem txtF_size (ks : List Int) : (txtF ks).size = ks.length := by simp [txtF, ByteArray.size]
abbrev CB (b : UInt8) : List Value := [.int .u8 (b.toNat : Int)]
theorem infoB : (Tryd.prog.info? 5).map (fun i => (i.zero, i.size, i.bytes)) = some (some (.int .u8 0), 1, 1) := by kernel_rfl
theorem index_let_u80 (u : World) : (Instr.index 9 (.string ⟨#[119, 104, 87, 72]⟩) (.int .u8 0)).run Tryd.prog u = .ok (.int .u8 ((letF 0).toNat : Int)) u := by kernel_rfl
theorem index_let_u81 (u : World) : (Instr.index 9 (.string ⟨#[119, 104, 87, 72]⟩) (.int .u8 1)).run Tryd.prog u = .ok (.int .u8 ((letF 1).toNat : Int)) u := by kernel_rfl
theorem index_let_u82 (u : World) : (Instr.index 9 (.string ⟨#[119, 104, 87, 72]⟩) (.int .u8 2)).run Tryd.prog u = .ok (.int .u8 ((letF 2).toNat : Int)) u := by kernel_rfl
theorem index_let_u83 (u : World) : (Instr.index 9 (.string ⟨#[119, 104, 87, 72]⟩) (.int .u8 3)).run Tryd.prog u = .ok (.int .u8 ((letF 3).toNat : Int)) u := by kernel_rfl
theorem index_let_u8 (k : Int) (h0 : 0 ≤ k) (h3 : k ≤ 3) (u : World) : (Instr.index 9 (.string ⟨#[119, 104, 87, 72]⟩) (.int .u8 k)).run Tryd.prog u = .ok (.int .u8 ((letF k).toNat : Int)) u := by
  have h : k = 0 ∨ k = 1 ∨ k = 2 ∨ k = 3 := by omega
  rcases h with rfl | rfl | rfl | rfl
  · exact index_let_u80 u
  · exact index_let_u81 u
  · exact index_let_u82 u
  · exact index_let_u83 u
theorem index_let_i640 (u : World) : (Instr.index 9 (.string ⟨#[119, 104, 87, 72]⟩) (.int .i64 0)).run Tryd.prog u = .ok (.int .u8 ((letF 0).toNat : Int)) u := by kernel_rfl
theorem index_let_i641 (u : World) : (Instr.index 9 (.string ⟨#[119, 104, 87, 72]⟩) (.int .i64 1)).run Tryd.prog u = .ok (.int .u8 ((letF 1).toNat : Int)) u := by kernel_rfl
theorem index_let_i642 (u : World) : (Instr.index 9 (.string ⟨#[119, 104, 87, 72]⟩) (.int .i64 2)).run Tryd.prog u = .ok (.int .u8 ((letF 2).toNat : Int)) u := by kernel_rfl
theorem index_let_i643 (u : World) : (Instr.index 9 (.string ⟨#[119, 104, 87, 72]⟩) (.int .i64 3)).run Tryd.prog u = .ok (.int .u8 ((letF 3).toNat : Int)) u := by kernel_rfl
theorem index_let_i64 (k : Int) (h0 : 0 ≤ k) (h3 : k ≤ 3) (u : World) : (Instr.index 9 (.string ⟨#[119, 104, 87, 72]⟩) (.int .i64 k)).run Tryd.prog u = .ok (.int .u8 ((letF k).toNat : Int)) u := by
  have h : k = 0 ∨ k = 1 ∨ k = 2 ∨ k = 3 := by omega
  rcases h with rfl | rfl | rfl | rfl
  · exact index_let_i640 u
  · exact index_let_i641 u
  · exact index_let_i642 u
  · exact index_let_i643 u
set_option maxRecDepth 100000 in
set_option maxHeartbeats 8000000 in
theorem FoldsText_any (A : Option Addr) (n c : Nat) (ks : List Int) (en : n = ks.length) (hn : n ≤ 1048576) (t : ByteArray) (ht : ftR ks = t) {w : World} {B : Nat} {e : Nat → Addr} (h : EL w B e) (hB : B ≤ w.heap.size) (hg : Sl intS.C 1 w w.heap.size A ks) :
    Calls Tryd.prog 18 #[.slice A n c] w fun o w' => o = .returned (.string t) ∧ Below w.heap.size w w' := by
  obtain ⟨i0, hi, hz0, hz1, hz2⟩ := info_parts infoB
  obtain ⟨code, hc⟩ : ∃ k, k = codeE ks := ⟨_, rfl⟩
  have HT := Lib.hid (foldsOf_el A n c ks en hn h hB hg code hc)
  have En := Lib.hid en
  cases hcc : code with
  | succ i =>
    rw [hcc] at HT
    obtain rfl : ⟨#[]⟩ = t := by rw [← ht, ftR, if_neg (by omega)]
    clear hc hcc en ht
    go_enter Tryd.func18, Tryd.ntmps18
    go_wp2_with fail
    refine HT.out.mono ?_
    rintro o u ⟨v, rfl, _, hb⟩
    rw [show errOf e (i + 1) = errV (e i) from rfl]
    have HB := Lib.hid hb
    clear hb HT
    go_wp2_with fail
    go_ret
    exact ⟨rfl, HB.out⟩
  | zero =>
    rw [hcc] at HT
    obtain ⟨hle, hall⟩ := codeE_all (hc.symm.trans hcc)
    obtain rfl : txtF ks = t := by rw [← ht, ftR, if_pos (hc.symm.trans hcc)]
    have HA := Lib.hid hall
    have hn12 : n ≤ 12 := by omega
    have hmk : ∀ u : World, (Instr.makeSlice 83 (.int .i64 (n : Int)) (.int .i64 (n : Int))).run Tryd.prog u =
        .ok (.slice (some ⟨u.heap.size, 0, none⟩) n n) (u.alloc (.cells (madeCells #[.int .u8 0] n) 5)) := fun u => by
      have h := run_make (P := Tryd.prog) u 83 5 i0 _ Tryd.underlying83 hi hz0 .i64 .i64 (n : Int) (n : Int) (by omega) (Int.le_refl _) (by rw [hz2]; omega) (by omega)
      have e : ((n : Int)).toNat = n := by omega
      rw [e] at h
      simpa [hz1, Value.cells] using h
    clear hc hcc en ht hle hall
    go_enter Tryd.func18, Tryd.ntmps18
    go_wp2_with fail
    refine HT.out.mono ?_
    rintro o u ⟨v, rfl, hPq, hb⟩
    have hP := hPq (by trivial)
    clear hPq
    obtain ⟨Av, cv, rfl, _⟩ := owns_slice hP
    rw [show errOf e 0 = .nilIface from rfl]
    have HB := Lib.hid hb
    have hz := hb.size
    have HP0 : Hid ((u.alloc (.cells (madeCells #[.int .u8 0] n) 5)).ownsRow u.heap.size 5 1 (.slice (some ⟨u.heap.size, 0, none⟩) n n) n _) :=
      Lib.hid (World.ownsRow_lit u (madeCells #[.int .u8 0] n) n (Nat.le_refl _) (by unfold maxLen; omega) (by rw [size_madeCells, Nat.mul_one]))
    have HS0 : Hid (Sl cU 1 u u.heap.size Av ks) := Lib.hid (Sl.of_owns hP (cU_len _) (by decide))
    have HB0 : Hid (Below u.heap.size u (u.alloc (.cells (madeCells #[.int .u8 0] n) 5))) := Lib.hid ((Below.refl _ _).alloc (Nat.le_refl _) _)
    clear hb hP HT
    go_wp2_with fail
    go_loopw [6, 7, 20] (fun _ _ vi wr => ∃ k L, k ≤ n ∧ vi = .int .i64 (k : Nat) ∧ wr.ownsRow u.heap.size 5 1 (.slice (some ⟨u.heap.size, 0, none⟩) n n) n L ∧ Done CB 1 (ks.map letF) k L ∧ Below u.heap.size u wr) (fun _ _ vi _ => n - (intOf vi).toNat)
    case atStart => exact ⟨0, _, by omega, rfl, HP0.out, Done.zero _ _ _ _, HB0.out⟩
    case round =>
      clear HP0 HB0
      obtain ⟨k, L, hk, rfl, hP, hD, hB'⟩ := hrel
      have HD := Lib.hid hD
      have HBk := Lib.hid hB'
      by_cases hlt : k < n
      · obtain ⟨x, hx⟩ : ∃ x, ks[k]? = some x := ⟨ks[k]'(by have := En.out; omega), List.getElem?_eq_getElem _⟩
        obtain ⟨x0, x3⟩ := HA.out x (List.mem_of_getElem? hx)
        obtain ⟨a, rfl, hab, hat⟩ := (HS0.out.below HBk.out).at_ k x hx
        have q0 := cU_at hat
        have hix := index_let_u8 x x0 x3
        have HX : Hid ((ks.map letF)[k]? = some (letF x)) := Lib.hid (by rw [List.getElem?_map, hx]; rfl)
        have hLL := hP.1
        obtain ⟨v0, s0⟩ : ∃ v, wr.cell? ⟨u.heap.size, k, none⟩ = some v := ⟨L[k]'(by omega), (hP.cellAt k (by omega)).trans (List.getElem?_eq_getElem _)⟩
        have f0 := hP.frozenAt k
        have HLL := Lib.hid hLL
        have HP := Lib.hid hP
        have x4 : (0 : Int) ≤ (k : Int) := by omega
        have x5 : (k : Int) < (n : Int) := by omega
        clear hLL hP hD hB' hx hat
        go_wp2_with fail
        go_roundw
        case rel =>
          have hP3 := (HP.out.stored k (.int .u8 ((letF x).toNat : Int))).1
          have hd := HD.out.step (C := CB) (fun _ _ => rfl) HX.out (by rw [HLL.out, List.length_map, En.out])
          rw [Nat.mul_one] at hd
          exact ⟨k + 1, _, by omega, by go_num, hP3, hd, HBk.out.setCell (p := ⟨u.heap.size, k, none⟩) (Nat.le_refl _) _⟩
        case measure => simp [intOf]; omega
      · obtain rfl : k = n := by omega
        have hl : (ks.map letF).length = k := by rw [List.length_map, En.out]
        have hL : L = (ks.map letF).flatMap CB := Done.full (C := CB) (sz := 1) (by rw [hl]; exact hD) (fun _ _ => rfl) (by decide) (by rw [hP.1, hl])
        have hcv := run_convert_bytes_back (P := Tryd.prog) wr 83 9 5 ⟨u.heap.size, 0, none⟩ k (ks.map letF) Tryd.underlying83 Tryd.underlying5 Tryd.underlying9 (fun j hj => by
          have h1 := hP.cellAt j (by rw [hl] at hj; omega)
          rw [add_lit, h1, hL]
          have h2 := flat_get (C := CB) (sz := 1) (xs := ks.map letF) (fun _ _ => rfl) (k := j) (j := 0) (List.getElem?_eq_getElem hj) rfl
          simpa using h2)
        rw [hl] at hcv
        have HBF := Lib.hid (HB.out.trans (hB'.mono hz))
        clear hL hl hP hD hB' HBk HB
        go_wp2_with fail
        go_ret
        exact ⟨rfl, HBF.out⟩

theorem l04Fold_any (k : Int) (w : World) : Calls Tryd.prog 119 #[.int .i64 k] w fun o w' => o = .returned (.bool (inB k 0 3)) ∧ w = w' := by
  have HT := Lib.hid (l00In_any k 0 3)
  go_enter Tryd.func119, Tryd.ntmps119
  go_wp2_with fail
  refine (HT.out _).mono ?_
  rintro o w1 ⟨rfl, rfl⟩
  go_wp2_with fail
  go_ret
  exact ⟨rfl, rfl⟩
set_option maxRecDepth 100000 in
set_option maxHeartbeats 4000000 in
theorem l04Told_any (A : Option Addr) (n c : Nat) (ks : List Int) (en : n = ks.length) (hn : n ≤ 1048576) (b : Bool) (hb : b = decide (codeE ks = 0)) (w : World) (hg : Sl intS.C 1 w w.heap.size A ks) :
    Calls Tryd.prog 58 #[.slice A n c] w fun o w' => o = .returned (.bool b) ∧ w = w' := by
  have En := Lib.hid en
  have HB := Lib.hid hb
  clear en hb
  go_enter Tryd.func58, Tryd.ntmps58
  go_wp2_with fail
  go_loop [3] (fun vi => ∃ k : Nat, k ≤ n ∧ vi = .int .i64 k ∧ ∀ i x, i < k → ks[i]? = some x → inB x 0 3 = true) (fun vi => n - (intOf vi).toNat)
  case atStart => exact ⟨0, by omega, rfl, fun i x hi => absurd hi (by omega)⟩
  case round =>
    obtain ⟨k, hk, rfl, hR⟩ := hrel
    have HR := Lib.hid hR
    clear hR
    by_cases hlt : k < n
    · obtain ⟨x, hx⟩ : ∃ x, ks[k]? = some x := ⟨ks[k]'(by have := En.out; omega), List.getElem?_eq_getElem _⟩
      obtain ⟨a, rfl, hab, hat⟩ := hg.at_ k x hx
      have q0 := intS.at_ hat
      have HX := Lib.hid hx
      have HT := Lib.hid (l04Fold_any x)
      cases hin : inB x 0 3 with
      | true =>
        rw [hin] at HT
        have HI := Lib.hid hin
        clear hx hat hin
        go_wp2_with fail
        refine (HT.out _).mono ?_
        rintro o w1 ⟨rfl, rfl⟩
        go_wp2_with fail
        go_round
        case rel => exact ⟨k + 1, by omega, by go_num, fun i y hi hy => by
          rcases Nat.lt_or_ge i k with h | h
          · exact HR.out i y h hy
          · obtain rfl : i = k := by omega
            rw [HX.out] at hy
            rw [← Option.some.inj hy]
            exact HI.out⟩
        case measure => simp [intOf]; omega
      | false =>
        rw [hin] at HT
        have hbf : b = false := by
          rw [HB.out, decide_eq_false_iff_not]
          intro h0
          obtain ⟨_, h1⟩ := codeE_all h0
          have := h1 x (List.mem_of_getElem? hx)
          have h2 := (inB_iff x 0 3).2 this
          rw [hin] at h2
          cases h2
        subst hbf
        clear hx hat hin
        go_wp2_with fail
        refine (HT.out _).mono ?_
        rintro o w1 ⟨rfl, rfl⟩
        go_wp2_with fail
        go_ret
        exact ⟨rfl, rfl⟩
    · obtain rfl : k = n := by omega
      have hall : (ks.all fun k => inB k 0 3) = true := List.all_eq_true.2 fun x hx => by
        obtain ⟨i, hi⟩ := List.mem_iff_getElem?.1 hx
        exact HR.out i x (by have := (List.getElem?_eq_some_iff.1 hi).1; have := En.out; omega) hi
      have HBB : Hid (b = decide (k ≤ 12)) := Lib.hid (by
        rw [HB.out, codeE, En.out, hall, if_pos rfl]
        by_cases h : 12 < ks.length
        · rw [if_pos h, decide_eq_false (by omega : ¬ (3 : Nat) = 0), decide_eq_false (by omega)]
        · rw [if_neg h, decide_eq_true (rfl : (0 : Nat) = 0), decide_eq_true (by omega)])
      clear hall
      go_wp2_with fail
      go_ret
      refine ⟨?_, rfl⟩
      show Ending.returned (.bool (decide ((k : Int) ≤ 12))) = _
      rw [HBB.out, decide_eq_decide.2 (show (k : Int) ≤ 12 ↔ k ≤ 12 by omega)]
set_option maxRecDepth 100000 in
theorem build_byte (b : Nat) (u : World) : (Instr.buildSlice 83 1 #[(0, .int .u8 (b : Int))]).run Tryd.prog u = .ok (.slice (some ⟨u.heap.size, 0, none⟩) 1 1) (u.alloc (.cells #[.int .u8 (b : Int)] 5)) := by kernel_rfl
set_option maxRecDepth 100000 in
set_option maxHeartbeats 4000000 in
theorem l04Letters_any (A : Option Addr) (n c : Nat) (ks : List Int) (en : n = ks.length) (hn : n ≤ 12) (ha : ∀ k ∈ ks, 0 ≤ k ∧ k ≤ 3) (w : World) (hg : Sl intS.C 1 w w.heap.size A ks) :
    Calls Tryd.prog 59 #[.slice A n c] w fun o w' => o = .returned (.string (txtF ks)) ∧ Below w.heap.size w w' := by
  have En := Lib.hid en
  have HA := Lib.hid ha
  clear en ha
  go_enter Tryd.func59, Tryd.ntmps59
  go_wp2_with fail
  go_loopw [3, 4] (fun vt vi wr => ∃ k : Nat, k ≤ n ∧ vi = .int .i64 k ∧ vt = .string (txtF (ks.take k)) ∧ Below w.heap.size w wr) (fun _ vi _ => n - (intOf vi).toNat)
  case atStart => exact ⟨0, by omega, rfl, rfl, Below.refl _ _⟩
  case round =>
    obtain ⟨k, hk, rfl, rfl, hB⟩ := hrel
    have HB := Lib.hid hB
    clear hB
    by_cases hlt : k < n
    · obtain ⟨x, hx⟩ : ∃ x, ks[k]? = some x := ⟨ks[k]'(by have := En.out; omega), List.getElem?_eq_getElem _⟩
      obtain ⟨x0, x3⟩ := HA.out x (List.mem_of_getElem? hx)
      obtain ⟨a, rfl, hab, hat⟩ := (hg.below HB.out).at_ k x hx
      have q0 := intS.at_ hat
      have hix := index_let_i64 x x0 x3
      have HS : Hid (txtF (ks.take (k + 1)) = txtF (ks.take k) ++ ⟨#[letF x]⟩) := Lib.hid (by rw [List.take_add_one, hx, ← txtF_snoc]; rfl)
      have hsz : (txtF (ks.take k)).size ≤ 12 := by rw [txtF_size, List.length_take]; omega
      obtain ⟨T, hT⟩ : ∃ T, txtF (ks.take k) = T := ⟨_, rfl⟩
      rw [hT] at HS hsz ⊢
      obtain ⟨b, hb⟩ : ∃ b, b = (letF x).toNat := ⟨_, rfl⟩
      have HBB := Lib.hid hb
      rw [← hb] at hix
      obtain ⟨u1, hu1⟩ : ∃ u, u = wr.alloc (.cells #[.int .u8 (b : Int)] 5) := ⟨_, rfl⟩
      have hcv := run_convert_bytes_back (P := Tryd.prog) u1 83 9 5 ⟨wr.heap.size, 0, none⟩ 1 [letF x] Tryd.underlying83 Tryd.underlying5 Tryd.underlying9 (fun j hj => by
        obtain rfl : j = 0 := by simp at hj; omega
        rw [add_lit, hu1, cell_of_row _ _ _ _ _ _ (heap_alloc_new wr _), hb]
        rfl)
      rw [List.length_singleton] at hcv
      have HU1 := Lib.hid hu1
      have B1 : Hid (Below w.heap.size w u1) := Lib.hid (by rw [hu1]; exact HB.out.alloc HB.out.size _)
      have x4 : (0 : Int) ≤ (k : Int) := by omega
      have x5 : (k : Int) < (n : Int) := by omega
      clear hx hat hT hb hu1
      go_wp2_with (first
        | (refine wpList_listed rfl 83 1 _ rfl #[(0, .int .u8 (b : Int))] ?hp (build_byte b _) ?_; case hp => simp [Act.eval, Act.put])
        | (rw [← HU1.out])
        | fail)
      go_roundw
      case rel => exact ⟨k + 1, by omega, by go_num, by rw [HS.out], B1.out⟩
      case measure => simp [intOf]; omega
    · obtain rfl : k = n := by omega
      have HK : Hid (ks.take k = ks) := Lib.hid (List.take_of_length_le (by have := En.out; omega))
      rw [HK.out]
      go_wp2_with fail
      go_ret
      exact ⟨rfl, HB.out⟩
set_option maxRecDepth 100000 in
set_option maxHeartbeats 4000000 in
theorem FoldsText_spec (A : Option Addr) (n : Nat) (ks : List Int) (en : n = ks.length) (hn : n ≤ 1048576) (t : ByteArray) (ht : ftR ks = t) (w : World) (hg : Sl intS.C 1 w w.heap.size A ks) :
    Calls Tryd.prog 16 #[.slice A n n] w fun o w' => o = .returned (.string t) ∧ Below w.heap.size w w' := by
  have HT := Lib.hid (fun b hb => l04Told_any A n n ks en hn b hb w hg)
  by_cases h0 : codeE ks = 0
  · obtain ⟨hle, hall⟩ := codeE_all h0
    obtain rfl : txtF ks = t := by rw [← ht, ftR, if_pos h0]
    have HL := Lib.hid (l04Letters_any A n n ks en (by omega) hall w hg)
    have HT1 := Lib.hid (HT.out true (by rw [decide_eq_true h0]))
    clear h0 hle hall en ht HT
    go_enter Tryd.func16, Tryd.ntmps16
    go_wp2_with fail
    refine HT1.out.mono ?_
    rintro o w1 ⟨rfl, rfl⟩
    go_wp2_with fail
    refine HL.out.mono ?_
    rintro o w1 ⟨rfl, hb⟩
    have HB := Lib.hid hb
    clear hb
    go_wp2_with fail
    go_ret
    exact ⟨rfl, HB.out⟩
  · obtain rfl : ⟨#[]⟩ = t := by rw [← ht, ftR, if_neg h0]
    have HT1 := Lib.hid (HT.out false (by rw [decide_eq_false h0]))
    clear h0 en ht HT
    go_enter Tryd.func16, Tryd.ntmps16
    go_wp2_with fail
    refine HT1.out.mono ?_
    rintro o w1 ⟨rfl, rfl⟩
    go_wp2_with fail
    go_ret
    exact ⟨rfl, Below.refl _ _⟩
end Go.Proofs.YtdcckdfemelbiaaDoor.folw
