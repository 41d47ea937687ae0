/-
  Texts of cupboards: the program's.
-/
import Derived.Test.YtjfimmfnhlimkaaDoorCupTx
import Derived.Test.YtjfimmfnhlimkaaDoorCupI
import Derived.Test.YtjfimmfnhlimkaaDoorJoin18
import Derived.Test.YtjfimmfnhlimkaaDoorShT
import Derived.Lib.AppendIntMem
namespace Go.Proofs.YtjfimmfnhlimkaaDoor.cupt
open Go Go.RowKit sl fold rows cup dec errs

abbrev TabB (w : World) : Prop := Lib.TabBelow Tryd.prog w.heap.size w "internal/strconv.uint64pow10" .u64 Lib.pow10Tab
theorem infoStr : (Tryd.prog.info? 9).map (fun i => (i.zero, i.size, i.bytes)) = some (some (.string ⟨#[]⟩), 1, 16) := by kernel_rfl
/-- the cells of texts -/
abbrev sC (l : List UInt8) : List Value := [.string (bsT l)]
theorem join_len (c : UInt8) (B : Nat) : ∀ {ls : List (List UInt8)}, (∀ l ∈ ls, l.length ≤ B) → (Lib.join ls [c]).length ≤ (B + 1) * ls.length
  | [], _ => by simp [Lib.join_nil]
  | x :: r, h => by
    have key : ∀ r : List (List UInt8), (∀ l ∈ r, l.length ≤ B) → (Lib.joinTail [c] r).length ≤ (B + 1) * r.length := by
      intro r hr
      induction r with
      | nil => simp [Lib.joinTail]
      | cons y r ih =>
        have h2 := hr y (List.mem_cons_self ..)
        have h3 := ih fun z hz => hr z (List.mem_cons_of_mem _ hz)
        simp only [Lib.joinTail, List.map_cons, List.flatten_cons, List.length_append, List.length_cons, List.length_nil, Nat.mul_add] at h3 ⊢
        omega
    have h1 := h x (List.mem_cons_self ..)
    have h4 := key r fun z hz => h z (List.mem_cons_of_mem _ hz)
    rw [Lib.join_cons, List.length_append, List.length_cons, Nat.mul_add]
    omega
/-- an own row of texts, joined -/
theorem Join_row (g n : Nat) (ls : List (List UInt8)) (sep : UInt8) (en : ls.length = n) (hB : (Lib.join ls [sep]).length ≤ 1000000) (hn : n ≤ 1048576) {base c : Nat} (u : World) (hP : u.ownsRow base 9 1 (.slice (some ⟨g, 0, none⟩) n c) n (ls.flatMap sC)) (hc : n ≤ c) :
    Calls Tryd.prog 66 #[.slice (some ⟨g, 0, none⟩) n c, .string ⟨#[sep]⟩] u fun o w' => o = .returned (.string (bsT (Lib.join ls [sep]))) ∧ Below u.heap.size u w' := by
  have e1 : (ls.map bsT).map (·.data.toList) = ls := by simp [Function.comp_def]
  have e2 : (⟨#[sep]⟩ : ByteArray).data.toList = [sep] := rfl
  have h := Tryd.strings_Join g 0 c (ls.map bsT) ⟨#[sep]⟩ u (fun j x hx => by
      have hs := Sl.of_owns (C := sC) hP (fun _ _ => rfl) (by decide)
      rw [List.getElem?_map, Option.map_eq_some_iff] at hx
      obtain ⟨l, hl, rfl⟩ := hx
      obtain ⟨a, ea, _, hat⟩ := hs.at_ j l hl
      obtain rfl := Option.some.inj ea
      have := hat 0 (.string (bsT l)) rfl
      rw [Nat.mul_one, add_lit] at this
      simpa [Addr.add] using this) (hP.lt g rfl).2 (by simp; omega) (by simp; omega) (by rw [e1, e2]; omega)
  rw [List.length_map, en, e1, e2] at h
  exact h
set_option maxRecDepth 100000 in
set_option maxHeartbeats 8000000 in
theorem CupboardText_any (A : Option Addr) (n c : Nat) (rs : List Rw) (en : n = rs.length) (hn : n ≤ 1048576) {w : World} {B : Nat} {e : Nat → Addr} (h : E1 w B (e 0)) (hB : B ≤ w.heap.size) (ht : TabB w) (hg : SS w w.heap.size A rs) (b : Bool) (hb : b = true ↔ CupOk (nums rs)) :
    Calls Tryd.prog 55 #[.slice A n c] w fun o w' => o = .returned (.string (if b = true then bsT (cupT (nums rs)) else ⟨#[]⟩)) ∧ Below w.heap.size w w' := by
  obtain ⟨i0, hi, hz0, hz1, hz2⟩ := info_parts infoStr
  have En := Lib.hid en
  have HE := Lib.hid h
  have HTB := Lib.hid ht
  cases b with
  | false =>
    have HV := Lib.hid (ValidCupboard_any A n c rs en (by omega) h hB hg false hb)
    clear en h ht hb
    go_enter Tryd.func55, Tryd.ntmps55
    go_wp2_with fail
    refine HV.out.mono ?_
    rintro o u ⟨rfl, hb⟩
    have HB := Lib.hid hb
    clear hb
    go_wp2_with fail
    go_ret
    exact ⟨rfl, HB.out⟩
  | true =>
    have hC := hb.1 rfl
    have HV := Lib.hid (ValidCupboard_any A n c rs en (by omega) h hB hg true hb)
    have HC := Lib.hid hC
    have hn6 : n ≤ 6 := by have := hC.most; simp only [nums, List.length_map] at this; omega
    have hmk : ∀ (q : Nat) (u : World), q ≤ 1048576 → (Instr.makeSlice 96 (.int .i64 (q : Int)) (.int .i64 (q : Int))).run Tryd.prog u =
        .ok (.slice (some ⟨u.heap.size, 0, none⟩) q q) (u.alloc (.cells (madeCells #[.string ⟨#[]⟩] q) 9)) := fun q u hq => by
      have h := run_make (P := Tryd.prog) u 96 9 i0 _ Tryd.underlying96 hi hz0 .i64 .i64 (q : Int) (q : Int) (by omega) (Int.le_refl _) (by rw [hz2]; omega) (by omega)
      have e : ((q : Int)).toNat = q := by omega
      rw [e] at h
      simpa [hz1, Value.cells] using h
    have hP0 : ∀ (q : Nat) (u : World), q ≤ 1048576 → (u.alloc (.cells (madeCells #[.string ⟨#[]⟩] q) 9)).ownsRow u.heap.size 9 1 (.slice (some ⟨u.heap.size, 0, none⟩) q q) q _ := fun q u hq =>
      World.ownsRow_lit u (madeCells #[.string ⟨#[]⟩] q) q (Nat.le_refl _) (by unfold maxLen; omega) (by rw [size_madeCells, Nat.mul_one])
    have HP0 := Lib.hid hP0
    have HMK := Lib.hid hmk
    have hmkn := fun u => hmk n u hn
    clear en h ht hb hC hP0 hmk
    go_enter Tryd.func55, Tryd.ntmps55
    go_wp2_with fail
    refine HV.out.mono ?_
    rintro o u ⟨rfl, hb⟩
    have HB := Lib.hid hb
    clear hb
    go_wp2_with fail
    have HO0 := Lib.hid (HP0.out n u hn)
    have B1 := Lib.hid (HB.out.alloc HB.out.size (.cells (madeCells #[.string ⟨#[]⟩] n) 9))
    have hul : u.heap.size < (u.alloc (.cells (madeCells #[.string ⟨#[]⟩] n) 9)).heap.size := by simp
    have HBU := Lib.hid HB.out.size
    go_loopw [4, 5, 6, 7, 8, 17] (fun _ _ _ _ _ vi wr => ∃ (i : Nat) (L : List Value), i ≤ n ∧ vi = .int .i64 (i : Nat) ∧ wr.ownsRow u.heap.size 9 1 (.slice (some ⟨u.heap.size, 0, none⟩) n n) n L ∧ Done sC 1 ((nums rs).map rowT) i L ∧ Below w.heap.size w wr) (fun _ _ _ _ _ vi _ => n - (intOf vi).toNat)
    case atStart => exact ⟨0, _, by omega, rfl, HO0.out, Done.zero _ _ _ _, B1.out⟩
    case round =>
      clear HO0 B1 hul
      obtain ⟨i, L, hi, rfl, hP, hD, hB3⟩ := hrel
      have HP := Lib.hid hP
      have HD := Lib.hid hD
      have HB3 := Lib.hid hB3
      clear hP hD hB3
      obtain ⟨wo, hwo⟩ : ∃ wo : World, wo = wr := ⟨_, rfl⟩
      subst hwo
      by_cases hlt : i < n
      · obtain ⟨r, hr⟩ : ∃ r, rs[i]? = some r := ⟨rs[i]'(by have := En.out; omega), List.getElem?_eq_getElem _⟩
        have hx : (nums rs)[i]? = some r.xs := by simp [nums, hr]
        have h8 : r.xs.length ≤ 8 := HC.out.high r.xs (List.mem_of_getElem? hx)
        have HRG := Lib.hid (fun x hm => cup_rg HC.out (List.mem_of_getElem? hx) (x := x) hm)
        have HX : Hid (((nums rs).map rowT)[i]? = some (rowT r.xs)) := Lib.hid (by rw [List.getElem?_map, hx]; rfl)
        have HRL : Hid ((rowT r.xs).length ≤ 1000000) := Lib.hid (by have := rowT_len (xs := r.xs) (fun x hm => (HRG.out x hm).2); omega)
        obtain ⟨a, rfl, hab, q0⟩ := (hg.below HB3.out).head hr
        have SA := Lib.hid (fun (u : World) (hu : Below w.heap.size w u) => ((hg.below hu).more hu.size).each r (List.mem_of_getElem? hr))
        have hmkr := fun u => HMK.out r.xs.length u (by omega)
        have HO1 := Lib.hid (HP0.out r.xs.length wo (by omega))
        have hb1 : Below wo.heap.size wo (wo.alloc (.cells (madeCells #[.string ⟨#[]⟩] r.xs.length) 9)) := (Below.refl _ _).alloc (Nat.le_refl _) _
        have B2 := Lib.hid hb1
        clear hr hx hb1
        go_wp2_with fail
        go_loopw [7, 8, 27] (fun _ _ vk wr => ∃ (k : Nat) (L2 : List Value), k ≤ r.xs.length ∧ vk = .int .i64 (k : Nat) ∧ wr.ownsRow wo.heap.size 9 1 (.slice (some ⟨wo.heap.size, 0, none⟩) r.xs.length r.xs.length) r.xs.length L2 ∧ Done sC 1 (r.xs.map fun x => Lib.decDigits x.toNat) k L2 ∧ Below wo.heap.size wo wr) (fun _ _ vk _ => r.xs.length - (intOf vk).toNat)
        case atStart => exact ⟨0, _, by omega, rfl, HO1.out, Done.zero _ _ _ _, B2.out⟩
        case round =>
          clear HO1 B2 q0
          obtain ⟨k, L2, hk, rfl, hP2, hD2, hB4⟩ := hrel
          have HP2 := Lib.hid hP2
          have HD2 := Lib.hid hD2
          have HB4 := Lib.hid hB4
          have HBW := Lib.hid (below_next HB3.out hB4 (Nat.le_refl _))
          clear hP2 hD2 hB4
          by_cases hkt : k < r.xs.length
          · obtain ⟨x, hx⟩ : ∃ x, r.xs[k]? = some x := ⟨r.xs[k], List.getElem?_eq_getElem _⟩
            obtain ⟨ra, hra, hrb, hat⟩ := (SA.out _ HBW.out).at_ k x hx
            have q1 := intS.at_ hat
            obtain ⟨x0, x9⟩ := HRG.out x (List.mem_of_getElem? hx)
            obtain ⟨m, rfl⟩ : ∃ m : Nat, x = m := ⟨x.toNat, by omega⟩
            have HXK : Hid ((r.xs.map fun x => Lib.decDigits x.toNat)[k]? = some (Lib.decDigits m)) := Lib.hid (by rw [List.getElem?_map, hx]; rfl)
            rw [hra]
            clear hx hat hra
            go_wp2_with fail
            refine (Tryd.strconv_FormatInt_10 (m : Int) (by omega) (by omega) _ (HTB.out _ HBW.out)).mono ?_
            rintro o u3 ⟨rfl, kk, os, hgrow⟩
            have hb3 : Below wr.heap.size wr u3 := by rw [hgrow]; exact Lib.below_grow _ _ (Nat.le_refl _) _ _
            rw [Lib.itoa_nonneg]
            have HB5 := Lib.hid (below_next HB4.out hb3 (Nat.le_refl _))
            have hP3 := owns_next HP2.out hb3
            have hLL := hP3.1
            obtain ⟨v0, s0⟩ : ∃ v, u3.cell? ⟨wo.heap.size, k, none⟩ = some v := ⟨L2[k]'(by omega), (hP3.cellAt k (by omega)).trans (List.getElem?_eq_getElem _)⟩
            have f0 := hP3.frozenAt k
            have HLL := Lib.hid hLL
            have HP3 := Lib.hid hP3
            clear hgrow hb3 hP3 hLL
            go_wp2_with fail
            go_roundw
            case rel =>
              have hP4 := (HP3.out.stored k (.string (bsT (Lib.decDigits m)))).1
              have hd := HD2.out.step (C := sC) (fun _ _ => rfl) HXK.out (by rw [HLL.out]; simp)
              rw [Nat.mul_one] at hd
              exact ⟨k + 1, _, by omega, by go_num, hP4, hd, HB5.out.setCell (p := ⟨wo.heap.size, k, none⟩) (Nat.le_refl _) _⟩
            case measure => simp [intOf]; omega
          · obtain rfl : k = r.xs.length := by omega
            have hll : (r.xs.map fun x => Lib.decDigits x.toNat).length = r.xs.length := by simp
            have hL : L2 = (r.xs.map fun x => Lib.decDigits x.toNat).flatMap sC := Done.full (C := sC) (sz := 1) (by rw [hll]; exact HD2.out) (fun _ _ => rfl) (by decide) (by rw [HP2.out.1, hll])
            have hP2 := HP2.out
            rw [hL] at hP2
            have HJ : Hid (Calls Tryd.prog 66 #[.slice (some ⟨wo.heap.size, 0, none⟩) r.xs.length r.xs.length, .string ⟨#[44]⟩] wr fun o w' => o = .returned (.string (bsT (rowT r.xs))) ∧ Below wr.heap.size wr w') := Lib.hid (Join_row wo.heap.size r.xs.length _ 44 hll HRL.out (by omega) wr hP2 (Nat.le_refl _))
            clear hP2 hL hll
            go_wp2_with fail
            refine HJ.out.mono ?_
            rintro o u3 ⟨rfl, hb3⟩
            have HB5 := Lib.hid (below_next HB4.out hb3 (Nat.le_refl _))
            have HBW5 := Lib.hid (below_next HBW.out hb3 (Nat.le_refl _))
            have hP3 := owns_next HP.out HB5.out
            have hLL := hP3.1
            obtain ⟨v0, s0⟩ : ∃ v, u3.cell? ⟨u.heap.size, i, none⟩ = some v := ⟨L[i]'(by omega), (hP3.cellAt i (by omega)).trans (List.getElem?_eq_getElem _)⟩
            have f0 := hP3.frozenAt i
            have HLL := Lib.hid hLL
            have HP3 := Lib.hid hP3
            have HNL : Hid (((nums rs).map rowT).length = n) := Lib.hid (by simp [nums, En.out])
            clear hb3 hP3 hLL HJ
            go_wp2_with fail
            go_roundw
            case rel =>
              have hP4 := (HP3.out.stored i (.string (bsT (rowT r.xs)))).1
              have hd := HD.out.step (C := sC) (fun _ _ => rfl) HX.out (by rw [HLL.out, HNL.out])
              rw [Nat.mul_one] at hd
              exact ⟨i + 1, _, by omega, by go_num, hP4, hd, HBW5.out.setCell (p := ⟨u.heap.size, i, none⟩) HBU.out _⟩
            case measure => simp [intOf]; omega
      · obtain rfl : i = n := by omega
        have hll : ((nums rs).map rowT).length = i := by simp [nums, En.out]
        have hL : L = ((nums rs).map rowT).flatMap sC := Done.full (C := sC) (sz := 1) (by rw [hll]; exact HD.out) (fun _ _ => rfl) (by decide) (by rw [HP.out.1, hll])
        have hP2 := HP.out
        rw [hL] at hP2
        have hjl := join_len 47 200 (ls := (nums rs).map rowT) (fun l hl => by
          obtain ⟨xs, hxs, rfl⟩ := List.mem_map.1 hl
          have h1 := rowT_len (xs := xs) (fun x hm => (cup_rg HC.out hxs hm).2)
          have h2 := HC.out.high xs hxs
          omega)
        rw [hll] at hjl
        have HJ : Hid (Calls Tryd.prog 66 #[.slice (some ⟨u.heap.size, 0, none⟩) i i, .string ⟨#[47]⟩] wo fun o w' => o = .returned (.string (bsT (cupT (nums rs)))) ∧ Below wo.heap.size wo w') := Lib.hid (Join_row u.heap.size i _ 47 hll (by omega) (by omega) wo hP2 (Nat.le_refl _))
        clear hP2 hL hll hjl
        go_wp2_with fail
        refine HJ.out.mono ?_
        rintro o u3 ⟨rfl, hb3⟩
        have HB5 := Lib.hid (below_next HB3.out hb3 (Nat.le_refl _))
        clear hb3
        go_wp2_with fail
        go_ret
        exact ⟨rfl, HB5.out⟩
end Go.Proofs.YtjfimmfnhlimkaaDoor.cupt
