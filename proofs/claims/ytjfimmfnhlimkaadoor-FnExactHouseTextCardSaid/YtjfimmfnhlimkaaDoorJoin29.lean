/-
  Several texts of this proof, joined.
-/
import Derived.Test.YtjfimmfnhlimkaaDoorJoin28
import Derived.Test.YtjfimmfnhlimkaaDoorJoin27
import Derived.Test.YtjfimmfnhlimkaaDoorJoin19
import Derived.OrdersHeld
import Derived.Deep.RegionHeld
/-
  Texts of houses: pure; a line of numbers, the program's; a line of a place, the model's.
-/
namespace Go.Proofs.YtjfimmfnhlimkaaDoor.hou
open Go Go.RowKit sl row stk errs dec txt

def lineT (ns : List Int) : List UInt8 := Lib.join (ns.map fun z => Lib.decDigits z.toNat) [32] ++ [10]
def numsK (f : Stk) : List Int := (List.range 25).map f
/-- so many numbers of a place, a blank behind each -/
def flatK (f : Stk) (o k : Nat) : List UInt8 := ((List.range k).map fun j => Lib.decDigits (f (o + j)).toNat ++ [32]).flatten
def houT (xs : List Stk) (t x d : Int) : List UInt8 := lineT [t, x, d] ++ (xs.map fun f => lineT (numsK f)).flatten
def houText (xs : List Stk) (t x d : Int) : ByteArray := if houOk xs t x d = true then bsJ (houT xs t x d) else ⟨#[]⟩
theorem flatK_succ (f : Stk) (o k : Nat) : flatK f o (k + 1) = flatK f o k ++ (Lib.decDigits (f (o + k)).toNat ++ [32]) := by
  simp [flatK, List.range_succ]
theorem flatK_add (f : Stk) (o a b : Nat) : flatK f o (a + b) = flatK f o a ++ flatK f (o + a) b := by
  induction b with
  | zero => simp [flatK]
  | succ b ih => rw [← Nat.add_assoc, flatK_succ, ih, flatK_succ, List.append_assoc, Nat.add_assoc]
theorem flatK_len (f : Stk) (hf : ∀ j, j < 25 → 0 ≤ f j ∧ f j ≤ 500) (o : Nat) : ∀ k, o + k ≤ 25 → (flatK f o k).length ≤ 25 * k
  | 0, _ => by simp [flatK]
  | k + 1, h => by
    have h1 := flatK_len f hf o k (by omega)
    have h2 := hf (o + k) (by omega)
    have h3 := digJ_len (n := (f (o + k)).toNat) (by omega)
    rw [flatK_succ]
    simp only [List.length_append, List.length_singleton]
    omega
theorem join_flat (g : Nat → List UInt8) : ∀ k, Lib.join ((List.range (k + 1)).map g) [32] = ((List.range k).map fun j => g j ++ [32]).flatten ++ g k
  | 0 => by simp [Lib.join_one]
  | k + 1 => by
    rw [List.range_succ, List.map_append, List.map_singleton, joinJ_snoc _ _ _ (by simp), join_flat g k, List.range_succ]
    simp
theorem line_kind (f : Stk) : lineT (numsK f) = ((flatK f 0 8 ++ flatK f 8 8) ++ flatK f 16 8) ++ Lib.decDigits (f 24).toNat ++ [10] := by
  have h1 : flatK f 0 24 = (flatK f 0 8 ++ flatK f 8 8) ++ flatK f 16 8 := by
    rw [show (24 : Nat) = (8 + 8) + 8 from rfl, flatK_add, flatK_add]
  rw [← h1, lineT, numsK, List.map_map]
  have h2 := join_flat (fun j => Lib.decDigits (f j).toNat) 24
  rw [show (fun z : Int => Lib.decDigits z.toNat) ∘ f = fun j => Lib.decDigits (f j).toNat from rfl, h2]
  simp [flatK]
theorem lineT_len {ns : List Int} (h : ∀ z ∈ ns, 0 ≤ z ∧ z ≤ 1000000) (hn : ns.length ≤ 25) : (lineT ns).length ≤ 600 := by
  have h1 := joinJ_len 32 22 (ls := ns.map fun z => Lib.decDigits z.toNat) (fun l hl => by
    obtain ⟨z, hz, rfl⟩ := List.mem_map.1 hl
    have := h z hz
    exact digJ_len (by omega))
  rw [List.length_map] at h1
  rw [lineT, List.length_append, List.length_singleton]
  omega
theorem lst_nums (f : Stk) (n : Nat) : lst n (numC f) = ((List.range n).map f).flatMap intS.C := by
  induction n with
  | zero => rfl
  | succ n ih => rw [lst_succ, ih, List.range_succ]; simp
theorem houT_snoc {xs : List Stk} {i : Nat} {f : Stk} (h : xs[i]? = some f) (t x d : Int) : houT (xs.take (i + 1)) t x d = houT (xs.take i) t x d ++ lineT (numsK f) := by
  rw [houT, houT, List.take_add_one, h, Option.toList_some, List.map_append, List.flatten_append, List.append_assoc]
  simp
theorem nums_ok {f : Stk} (hf : ∀ j, j < 25 → 0 ≤ f j ∧ f j ≤ 500) : ∀ z ∈ numsK f, 0 ≤ z ∧ z ≤ 1000000 := fun z hz => by
  obtain ⟨j, hj, rfl⟩ := List.mem_map.1 hz
  have := hf j (List.mem_range.1 hj)
  omega
theorem nums_len (f : Stk) : (numsK f).length = 25 := by simp [numsK]
theorem houT_len {xs : List Stk} (hf : ∀ f ∈ xs, ∀ j, j < 25 → 0 ≤ f j ∧ f j ≤ 500) {t x d : Int} (ht : 0 ≤ t ∧ t ≤ 1000) (hx : 0 ≤ x ∧ x ≤ 1000) (hd : 0 ≤ d ∧ d ≤ 1000) : ∀ i, i ≤ xs.length → (houT (xs.take i) t x d).length ≤ 600 + 600 * i
  | 0, _ => by
    have := lineT_len (ns := [t, x, d]) (by intro z hz; simp at hz; omega) (by simp)
    simpa [houT] using this
  | i + 1, h => by
    obtain ⟨f, hfi⟩ : ∃ f, xs[i]? = some f := ⟨xs[i], List.getElem?_eq_getElem _⟩
    have h1 := houT_len hf ht hx hd i (by omega)
    have h2 := lineT_len (ns := numsK f) (nums_ok (hf f (List.mem_of_getElem? hfi))) (by rw [nums_len]; exact Nat.le_refl _)
    rw [houT_snoc hfi, List.length_append]
    omega
set_option maxRecDepth 100000 in
set_option maxHeartbeats 8000000 in
theorem lineOf_any (A : Option Addr) (n c : Nat) (ns : List Int) (en : n = ns.length) (hn : n ≤ 25) (hok : ∀ z ∈ ns, 0 ≤ z ∧ z ≤ 1000000) {w : World} {w0 : World} (hw0 : Below w0.heap.size w0 w) (ht : TabJ w0) (hg : Sl intS.C 1 w w.heap.size A ns) :
    Calls Tryd.prog 102 #[.slice A n c] w fun o w' => o = .returned (.string (bsJ (lineT ns))) ∧ Below w.heap.size w w' := by
  obtain ⟨i0, hi, hz0, hz1, hz2⟩ := info_parts infoJ
  have En := Lib.hid en
  have HTB := Lib.hid (fun (u : World) (hu : Below w.heap.size w u) => ht u (hw0.trans (hu.mono hw0.size)))
  have HOK := Lib.hid hok
  have HG := Lib.hid (fun (u : World) (hu : Below w.heap.size w u) => hg.below hu)
  obtain ⟨J, hJ⟩ : ∃ J, J = bsJ (Lib.join (ns.map fun z => Lib.decDigits z.toNat) [32]) := ⟨_, rfl⟩
  have hll := lineT_len hok (by omega)
  have hjs : J.size ≤ 600 := by rw [hJ, bsJ_size]; rw [lineT, List.length_append] at hll; omega
  have HJJ := Lib.hid hJ
  have HLT : Hid (J ++ ⟨#[10]⟩ = bsJ (lineT ns)) := Lib.hid (by rw [hJ, lineT, bsJ_append])
  have hzj : ¬ 9223372036854775807 < J.size + 1 := by omega
  have hmk : ∀ (u : World), (Instr.makeSlice 96 (.int .i64 (n : Int)) (.int .i64 (n : Int))).run Tryd.prog u =
      .ok (.slice (some ⟨u.heap.size, 0, none⟩) n n) (u.alloc (.cells (madeCells #[.string ⟨#[]⟩] n) 9)) := fun u => by
    have h := run_make (P := Tryd.prog) u 96 9 i0 _ Tryd.underlying96 hi hz0 .i64 .i64 (n : Int) (n : Int) (by omega) (Int.le_refl _) (by rw [hz2]; omega) (by omega)
    have e : ((n : Int)).toNat = n := by omega
    rw [e] at h
    simpa [hz1, Value.cells] using h
  have hP0 : (w.alloc (.cells (madeCells #[.string ⟨#[]⟩] n) 9)).ownsRow w.heap.size 9 1 (.slice (some ⟨w.heap.size, 0, none⟩) n n) n _ :=
    World.ownsRow_lit w (madeCells #[.string ⟨#[]⟩] n) n (Nat.le_refl _) (by unfold maxLen; omega) (by rw [size_madeCells, Nat.mul_one])
  have HO0 := Lib.hid hP0
  have B1 := Lib.hid ((Below.refl w.heap.size w).alloc (Nat.le_refl _) (.cells (madeCells #[.string ⟨#[]⟩] n) 9))
  obtain ⟨g, hgg⟩ : ∃ g, g = w.heap.size := ⟨_, rfl⟩
  have HGG := Lib.hid hgg
  clear en hok ht hg hJ hll hP0 hgg hw0
  go_enter Tryd.func102, Tryd.ntmps102
  go_wp2_with fail
  rw [← HGG.out] at HO0 ⊢
  go_loopw [4, 5, 11] (fun _ _ vi wr => ∃ (i : Nat) (L : List Value), i ≤ n ∧ vi = .int .i64 (i : Nat) ∧ wr.ownsRow g 9 1 (.slice (some ⟨g, 0, none⟩) n n) n L ∧ Done sJ 1 (ns.map fun z => Lib.decDigits z.toNat) i L ∧ Below w.heap.size w wr) (fun _ _ vi _ => n - (intOf vi).toNat)
  case atStart => exact ⟨0, _, by omega, rfl, HO0.out, Done.zero _ _ _ _, B1.out⟩
  case round =>
    clear HO0 B1
    obtain ⟨i, L, hil, rfl, hP, hD, hB3⟩ := hrel
    have HP := Lib.hid hP
    have HD := Lib.hid hD
    have HB3 := Lib.hid hB3
    clear hP hD hB3
    by_cases hlt : i < n
    · obtain ⟨z, hz⟩ : ∃ z, ns[i]? = some z := ⟨ns[i]'(by have := En.out; omega), List.getElem?_eq_getElem _⟩
      obtain ⟨ra, hra, hrb, hat⟩ := (HG.out _ HB3.out).at_ i z hz
      have q1 := intS.at_ hat
      obtain ⟨x0, x9⟩ := HOK.out z (List.mem_of_getElem? hz)
      obtain ⟨m, rfl⟩ : ∃ m : Nat, z = m := ⟨z.toNat, by omega⟩
      have HXK : Hid ((ns.map fun z => Lib.decDigits z.toNat)[i]? = some (Lib.decDigits m)) := Lib.hid (by rw [List.getElem?_map, hz]; rfl)
      subst hra
      clear hz hat
      go_wp2_with fail
      refine (Tryd.strconv_FormatInt_10 (m : Int) (by omega) (by omega) _ (HTB.out _ HB3.out)).mono ?_
      rintro o u3 ⟨rfl, kk, os, hgrow⟩
      have hb3 : Below wr.heap.size wr u3 := by rw [hgrow]; exact Lib.below_grow _ _ (Nat.le_refl _) _ _
      rw [Lib.itoa_nonneg]
      have HB5 := Lib.hid (below_next HB3.out hb3 (Nat.le_refl _))
      have hP3 := owns_next HP.out hb3
      have hLL := hP3.1
      obtain ⟨v0, s0⟩ : ∃ v, u3.cell? ⟨g, i, none⟩ = some v := ⟨L[i]'(by omega), (hP3.cellAt i (by omega)).trans (List.getElem?_eq_getElem _)⟩
      have f0 := hP3.frozenAt i
      have HLL := Lib.hid hLL
      have HP3 := Lib.hid hP3
      clear hgrow hb3 hP3 hLL
      go_wp2_with fail
      go_roundw
      case rel =>
        have hP4 := (HP3.out.stored i (.string (bsJ (Lib.decDigits m)))).1
        have hd := HD.out.step (C := sJ) (fun _ _ => rfl) HXK.out (by rw [HLL.out, List.length_map, ← En.out])
        rw [Nat.mul_one] at hd
        exact ⟨i + 1, _, by omega, by go_num, hP4, hd, HB5.out.setCell (p := ⟨g, i, none⟩) (by rw [HGG.out]; exact Nat.le_refl _) _⟩
      case measure => simp [intOf]; omega
    · obtain rfl : i = n := by omega
      have hll : (ns.map fun z => Lib.decDigits z.toNat).length = i := by rw [List.length_map]; exact En.out.symm
      have hL : L = (ns.map fun z => Lib.decDigits z.toNat).flatMap sJ := Done.full (C := sJ) (sz := 1) (by rw [hll]; exact HD.out) (fun _ _ => rfl) (by decide) (by rw [HP.out.1, hll])
      have hP2 := HP.out
      rw [hL] at hP2
      have HJ : Hid (Calls Tryd.prog 66 #[.slice (some ⟨g, 0, none⟩) i i, .string ⟨#[32]⟩] wr fun o w' => o = .returned (.string J) ∧ Below wr.heap.size wr w') := Lib.hid (by
        rw [HJJ.out]
        refine JoinJ g i _ 32 hll ?_ (by omega) wr hP2 (Nat.le_refl _)
        have := hjs
        rw [HJJ.out, bsJ_size] at this
        omega)
      clear hP2 hL hll
      go_wp2_with fail
      refine HJ.out.mono ?_
      rintro o u3 ⟨rfl, hb3⟩
      have HB5 := Lib.hid (below_next HB3.out hb3 (Nat.le_refl _))
      clear hb3
      go_wp2_with fail
      go_ret
      exact ⟨by rw [← HLT.out]; rfl, HB5.out⟩
set_option maxRecDepth 100000 in
set_option maxHeartbeats 4000000 in
theorem l05Line_any (f : Stk) (hf : ∀ j, j < 25 → 0 ≤ f j ∧ f j ≤ 500) (p : Nat) (hp : p + 8 ≤ 24) (w : World) :
    Calls Tryd.prog 138 #[arrV f p] w fun o w' => o = .returned (.string (bsJ (flatK f p 8))) ∧ Below w.heap.size w w' := by
  have HF := Lib.hid hf
  obtain ⟨w0, hw0⟩ : ∃ u, u = w.alloc (.cells (arrCs f p) 151) := ⟨_, rfl⟩
  have A0 : Hid (ArrAt w0 w.heap.size 0 f p) := Lib.hid (by rw [hw0]; exact (ArrOwn.new w f p _).toRowAt)
  have HB0 : Hid (Below w.heap.size w w0) := Lib.hid (by rw [hw0]; exact (Below.refl _ _).alloc (Nat.le_refl _) _)
  have HZ : Hid (w.heap.size < w0.heap.size) := Lib.hid (by rw [hw0]; simp)
  have HW0 := Lib.hid hw0
  clear hf hw0
  go_enter Tryd.func138, Tryd.ntmps138
  go_wp2_with (first | (rw [← HW0.out]) | fail)
  go_loopw [3, 4] (fun vt vi wr => ∃ (i : Nat) (T : ByteArray), i ≤ 8 ∧ vi = .int .i64 i ∧ vt = .string T ∧ T = bsJ (flatK f p i) ∧ Below w0.heap.size w0 wr) (fun _ vi _ => 8 - (intOf vi).toNat)
  case atStart => exact ⟨0, ⟨#[]⟩, by omega, rfl, rfl, by simp [flatK], Below.refl _ _⟩
  case round =>
    obtain ⟨i, T, hi, rfl, rfl, hT, hB⟩ := hrel
    have HT := Lib.hid hT
    have HB := Lib.hid hB
    clear hT hB
    by_cases hlt : i < 8
    · have hc := (A0.out.below HB.out HZ.out).cell i hlt
      rw [Nat.zero_add, cellA] at hc
      obtain ⟨z0, z1⟩ := HF.out (p + i) (by omega)
      have hts := flatK_len f HF.out p i (by omega)
      rw [← bsJ_size, ← HT.out] at hts
      obtain ⟨m, hm⟩ : ∃ m : Nat, f (p + i) = m := ⟨(f (p + i)).toNat, by omega⟩
      rw [hm] at hc
      have hdl := digJ_len (n := m) (by omega)
      obtain ⟨D, hD⟩ : ∃ D, decB m = D := ⟨_, rfl⟩
      have hds : D.size ≤ 22 := by rw [← hD]; simpa [decB, ByteArray.size] using hdl
      have HDD := Lib.hid (fun u : World => Decimal_any m (by omega) u)
      rw [hD] at HDD
      have HNX : Hid (T ++ (D ++ ⟨#[32]⟩) = bsJ (flatK f p (i + 1))) := Lib.hid (by rw [flatK_succ, bsJ_append, bsJ_append, ← HT.out, hm, Int.toNat_natCast, ← hD]; rfl)
      have ww : IntKind.i64.wrap (m : Int) = m := IntWalk.i64_in _ (by omega)
      have hz0 : ¬ 9223372036854775807 < D.size + 1 := by omega
      have hz1 : ¬ 9223372036854775807 < T.size + (D.size + 1) := by omega
      clear hm hD hdl z0 z1 hts
      go_wp2_with fail
      refine (HDD.out _).mono ?_
      rintro o u ⟨rfl, hb⟩
      have HB2 := Lib.hid (below_next HB.out hb (Nat.le_refl _))
      clear hb hc
      go_wp2_with fail
      go_roundw
      case rel => exact ⟨i + 1, _, by omega, by go_num, rfl, HNX.out, HB2.out⟩
      case measure => simp [intOf]; omega
    · obtain rfl : i = 8 := by omega
      go_wp2_with fail
      go_ret
      exact ⟨by rw [← HT.out]; rfl, below_next HB0.out HB.out (Nat.le_refl _)⟩
end Go.Proofs.YtjfimmfnhlimkaaDoor.hou

/-
  Texts of houses: the model's.
-/
namespace Go.Proofs.YtjfimmfnhlimkaaDoor.hou
open Go Go.RowKit sl row stk errs dec txt

theorem hou_parts {xs : List Stk} {t x d : Int} (h : houOk xs t x d = true) : ((1 ≤ xs.length ∧ xs.length ≤ 4) ∧ (0 ≤ t ∧ t ≤ 1000) ∧ (1 ≤ x ∧ x ≤ 7) ∧ 0 ≤ d ∧ d ≤ 60) ∧ ∀ f ∈ xs, ∀ j, j < 25 → 0 ≤ f j ∧ f j ≤ 500 := by
  unfold houOk at h
  rw [Bool.and_eq_true] at h
  have h1 := numsOk_iff.1 h.1
  refine ⟨⟨by omega, by omega, by omega, by omega, by omega⟩, fun f hf j hj => ?_⟩
  have hg := valid_good.1 (List.all_eq_true.1 h.2 f hf)
  exact ⟨hg.pos j hj, hg.le hj⟩
/-- a stock in a block of the call's own, kept over calls -/
structure KS (b : Nat) (f : Stk) (w u : World) : Prop where
  h : StkAt u b 0 f
  bl : Below w.heap.size w u
theorem KS.next {b : Nat} {f : Stk} {w u v : World} (h : KS b f w u) (hb : Below u.heap.size u v) : KS b f w v := ⟨h.h.next hb, below_next h.bl hb (Nat.le_refl _)⟩
theorem KS.arr {b : Nat} {f : Stk} {w u : World} (h : KS b f w u) (o : Nat) (ho : o + 8 ≤ 24) : u.rangeAt b o (lst 8 (cellA f o)) := by
  have h1 := (h.h.arr o ho).range
  rwa [Nat.zero_add] at h1
theorem KS.rags {b : Nat} {f : Stk} {w u : World} (h : KS b f w u) : u.cell? ⟨b, 24, none⟩ = some (.int .i32 (f 24)) := by
  have h1 := h.h.cell 24 (by omega)
  rwa [Nat.zero_add, cellS_24] at h1
set_option maxRecDepth 100000 in
set_option maxHeartbeats 8000000 in
theorem l05Text_any (A : Option Addr) (n c : Nat) (xs : List Stk) (t x d : Int) (en : n = xs.length) (hok : houOk xs t x d = true) (b : Nat) (w : World) (hA : HouAt w b (.slice A n c) t x d) (hg : Sl stkC 25 w w.heap.size A xs) :
    Calls Tryd.prog 99 #[.pointer (some ⟨b, 0, none⟩)] w fun o w' => o = .returned (.string (bsJ (houT xs t x d))) ∧ Below w.heap.size w w' := by
  obtain ⟨⟨hn14, ht, hx, hd⟩, hf⟩ := hou_parts hok
  have En := Lib.hid en
  have HF := Lib.hid hf
  have HN4 : Hid (n ≤ 4) := Lib.hid (by omega)
  have HLEN := Lib.hid (fun i (hi : i ≤ xs.length) => houT_len hf (t := t) (x := x) (d := d) ht (by omega) (by omega) i hi)
  obtain ⟨p, hp⟩ : ∃ p : Nat, t = p := ⟨t.toNat, by omega⟩
  obtain ⟨q, hq⟩ : ∃ q : Nat, x = q := ⟨x.toNat, by omega⟩
  obtain ⟨r, hr⟩ : ∃ r : Nat, d = r := ⟨d.toNat, by omega⟩
  subst hp hq hr
  have hd1 := digJ_len (n := p) (by omega)
  have hd2 := digJ_len (n := q) (by omega)
  have hd3 := digJ_len (n := r) (by omega)
  obtain ⟨D1, hD1⟩ : ∃ D, decB p = D := ⟨_, rfl⟩
  obtain ⟨D2, hD2⟩ : ∃ D, decB q = D := ⟨_, rfl⟩
  obtain ⟨D3, hD3⟩ : ∃ D, decB r = D := ⟨_, rfl⟩
  have hs1 : D1.size ≤ 22 := by rw [← hD1]; simpa [decB, ByteArray.size] using hd1
  have hs2 : D2.size ≤ 22 := by rw [← hD2]; simpa [decB, ByteArray.size] using hd2
  have hs3 : D3.size ≤ 22 := by rw [← hD3]; simpa [decB, ByteArray.size] using hd3
  have HDD1 := Lib.hid (fun u : World => Decimal_any p (by omega) u)
  have HDD2 := Lib.hid (fun u : World => Decimal_any q (by omega) u)
  have HDD3 := Lib.hid (fun u : World => Decimal_any r (by omega) u)
  rw [hD1] at HDD1
  rw [hD2] at HDD2
  rw [hD3] at HDD3
  have H00 : Hid (((((D1 ++ ⟨#[32]⟩) ++ D2) ++ ⟨#[32]⟩) ++ D3) ++ ⟨#[10]⟩ = bsJ (houT (xs.take 0) (p : Int) (q : Int) (r : Int))) := Lib.hid (by
    rw [← hD1, ← hD2, ← hD3, houT, List.take_zero, List.map_nil, List.flatten_nil, List.append_nil, lineT]
    have e : Lib.join (([(p : Int), (q : Int), (r : Int)]).map fun z => Lib.decDigits z.toNat) [32] = (((Lib.decDigits p ++ [32]) ++ Lib.decDigits q) ++ [32]) ++ Lib.decDigits r := by
      simp [Lib.join_cons, Lib.joinTail]
    rw [e, bsJ_append, bsJ_append, bsJ_append, bsJ_append, bsJ_append]
    rfl)
  have ww0 : IntKind.i64.wrap (p : Int) = p := IntWalk.i64_in _ (by omega)
  have ww1 : IntKind.i64.wrap (q : Int) = q := IntWalk.i64_in _ (by omega)
  have ww2 : IntKind.i64.wrap (r : Int) = r := IntWalk.i64_in _ (by omega)
  have hz1 : ¬ 9223372036854775807 < D1.size + 1 := by omega
  have hz2 : ¬ 9223372036854775807 < D1.size + 1 + D2.size := by omega
  have hz3 : ¬ 9223372036854775807 < D1.size + 1 + D2.size + 1 := by omega
  have hz4 : ¬ 9223372036854775807 < D1.size + 1 + D2.size + 1 + D3.size := by omega
  have hz5 : ¬ 9223372036854775807 < D1.size + 1 + D2.size + 1 + D3.size + 1 := by omega
  have H0 := Lib.hid hA
  have HA := Lib.hid (fun (u : World) (hu : Below w.heap.size w u) => hA.next hu)
  have HG := Lib.hid (fun (u : World) (hu : Below w.heap.size w u) => hg.below hu)
  clear en hok hf ht hx hd hd1 hd2 hd3 hD1 hD2 hD3 hs1 hs2 hs3 hA hg hn14
  go_enter Tryd.func99, Tryd.ntmps99
  go_wp2_with fail
  refine wp_region_held_drew (S := fun u => HouAt u b (.slice A n c) (p : Int) (q : Int) (r : Int)) (by kernel_rfl) (H0.out.next (Below.refl _ _).drew) (fun hHeld => ?_)
  have B5 := Lib.hid ((Below.refl w.heap.size w).drew)
  generalize w.drew = w5 at hHeld B5 ⊢
  clear H0
  refine wpAnyH_take (i := 0) (v := ?_) rfl (by kernel_rfl) (by kernel_rfl) (by kernel_rfl) (fun _ _ _ h => h) (Or.inl ⟨by rfl, ?_⟩) (by assumption) ?_
  rotate_left
  · intro u hSu
    (try dsimp only at hSu)
    first | (go_simp; done) | (go_simp; with_reducible rfl)
  try simp only [Act.put, List.getElem_toArray, List.getElem_cons_zero, List.getElem_cons_succ, List.setIfInBounds_toArray, List.set_cons_zero, List.set_cons_succ]
  refine wpAnyH_take (i := 1) (v := ?_) rfl (by kernel_rfl) (by kernel_rfl) (by kernel_rfl) (fun _ _ _ h => h) (Or.inl ⟨by rfl, ?_⟩) (by assumption) ?_
  rotate_left
  · intro u hSu
    (try dsimp only at hSu)
    first | (go_simp; done) | (go_simp; with_reducible rfl)
  try simp only [Act.put, List.getElem_toArray, List.getElem_cons_zero, List.getElem_cons_succ, List.setIfInBounds_toArray, List.set_cons_zero, List.set_cons_succ]
  refine wpAnyH_take (i := 2) (v := ?_) rfl (by kernel_rfl) (by kernel_rfl) (by kernel_rfl) (fun _ _ _ h => h) (Or.inl ⟨by rfl, ?_⟩) (by assumption) ?_
  rotate_left
  · intro u hSu
    (try dsimp only at hSu)
    first | (go_simp; done) | (go_simp; with_reducible rfl)
  try simp only [Act.put, List.getElem_toArray, List.getElem_cons_zero, List.getElem_cons_succ, List.setIfInBounds_toArray, List.set_cons_zero, List.set_cons_succ]
  refine wpAnyH_take (i := 3) (v := ?_) rfl (by kernel_rfl) (by kernel_rfl) (by kernel_rfl) (fun _ _ _ h => h) (Or.inl ⟨by rfl, ?_⟩) (by assumption) ?_
  rotate_left
  · intro u hSu
    have qa := hSu.c0; have qb := hSu.c1; have qc := hSu.c2; have qd := hSu.c3; clear hSu
    first | (go_simp; done) | (go_simp; with_reducible rfl)
  try simp only [Act.put, List.getElem_toArray, List.getElem_cons_zero, List.getElem_cons_succ, List.setIfInBounds_toArray, List.set_cons_zero, List.set_cons_succ]
  refine wpAnyH_take (i := 4) (v := ?_) rfl (by kernel_rfl) (by kernel_rfl) (by kernel_rfl) (fun _ _ _ h => h) (Or.inl ⟨by rfl, ?_⟩) (by assumption) ?_
  rotate_left
  · intro u hSu
    (try dsimp only at hSu)
    first | (go_simp; done) | (go_simp; with_reducible rfl)
  try simp only [Act.put, List.getElem_toArray, List.getElem_cons_zero, List.getElem_cons_succ, List.setIfInBounds_toArray, List.set_cons_zero, List.set_cons_succ]
  refine wpAnyH_take (i := 7) (v := ?_) rfl (by kernel_rfl) (by kernel_rfl) (by kernel_rfl) (fun _ _ _ h => h) (Or.inl ⟨by rfl, ?_⟩) (by assumption) ?_
  rotate_left
  · intro u hSu
    (try dsimp only at hSu)
    first | (go_simp; done) | (go_simp; with_reducible rfl)
  try simp only [Act.put, List.getElem_toArray, List.getElem_cons_zero, List.getElem_cons_succ, List.setIfInBounds_toArray, List.set_cons_zero, List.set_cons_succ]
  refine wpAnyH_take (i := 8) (v := ?_) rfl (by kernel_rfl) (by kernel_rfl) (by kernel_rfl) (fun _ _ _ h => h) (Or.inl ⟨by rfl, ?_⟩) (by assumption) ?_
  rotate_left
  · intro u hSu
    (try dsimp only at hSu)
    first | (go_simp; done) | (go_simp; with_reducible rfl)
  try simp only [Act.put, List.getElem_toArray, List.getElem_cons_zero, List.getElem_cons_succ, List.setIfInBounds_toArray, List.set_cons_zero, List.set_cons_succ]
  refine wpAnyH_take (i := 9) (v := ?_) rfl (by kernel_rfl) (by kernel_rfl) (by kernel_rfl) (fun _ _ _ h => h) (Or.inl ⟨by rfl, ?_⟩) (by assumption) ?_
  rotate_left
  · intro u hSu
    (try dsimp only at hSu)
    first | (go_simp; done) | (go_simp; with_reducible rfl)
  try simp only [Act.put, List.getElem_toArray, List.getElem_cons_zero, List.getElem_cons_succ, List.setIfInBounds_toArray, List.set_cons_zero, List.set_cons_succ]
  refine wpAnyH_take (i := 10) (v := ?_) rfl (by kernel_rfl) (by kernel_rfl) (by kernel_rfl) (fun _ _ _ h => h) (Or.inl ⟨by rfl, ?_⟩) (by assumption) ?_
  rotate_left
  · intro u hSu
    have qa := hSu.c0; have qb := hSu.c1; have qc := hSu.c2; have qd := hSu.c3; clear hSu
    first | (go_simp; done) | (go_simp; with_reducible rfl)
  try simp only [Act.put, List.getElem_toArray, List.getElem_cons_zero, List.getElem_cons_succ, List.setIfInBounds_toArray, List.set_cons_zero, List.set_cons_succ]
  refine wpAnyH_take (i := 11) (v := ?_) rfl (by kernel_rfl) (by kernel_rfl) (by kernel_rfl) (fun _ _ _ h => h) (Or.inl ⟨by rfl, ?_⟩) (by assumption) ?_
  rotate_left
  · intro u hSu
    (try dsimp only at hSu)
    first | (go_simp; done) | (go_simp; with_reducible rfl)
  try simp only [Act.put, List.getElem_toArray, List.getElem_cons_zero, List.getElem_cons_succ, List.setIfInBounds_toArray, List.set_cons_zero, List.set_cons_succ]
  refine wpAnyH_take (i := 15) (v := ?_) rfl (by kernel_rfl) (by kernel_rfl) (by kernel_rfl) (fun _ _ _ h => h) (Or.inl ⟨by rfl, ?_⟩) (by assumption) ?_
  rotate_left
  · intro u hSu
    (try dsimp only at hSu)
    first | (go_simp; done) | (go_simp; with_reducible rfl)
  try simp only [Act.put, List.getElem_toArray, List.getElem_cons_zero, List.getElem_cons_succ, List.setIfInBounds_toArray, List.set_cons_zero, List.set_cons_succ]
  refine wpAnyH_take (i := 16) (v := ?_) rfl (by kernel_rfl) (by kernel_rfl) (by kernel_rfl) (fun _ _ _ h => h) (Or.inl ⟨by rfl, ?_⟩) (by assumption) ?_
  rotate_left
  · intro u hSu
    (try dsimp only at hSu)
    first | (go_simp; done) | (go_simp; with_reducible rfl)
  try simp only [Act.put, List.getElem_toArray, List.getElem_cons_zero, List.getElem_cons_succ, List.setIfInBounds_toArray, List.set_cons_zero, List.set_cons_succ]
  refine wpAnyH_take (i := 17) (v := ?_) rfl (by kernel_rfl) (by kernel_rfl) (by kernel_rfl) (fun _ _ _ h => h) (Or.inl ⟨by rfl, ?_⟩) (by assumption) ?_
  rotate_left
  · intro u hSu
    (try dsimp only at hSu)
    first | (go_simp; done) | (go_simp; with_reducible rfl)
  try simp only [Act.put, List.getElem_toArray, List.getElem_cons_zero, List.getElem_cons_succ, List.setIfInBounds_toArray, List.set_cons_zero, List.set_cons_succ]
  refine wpAnyH_take (i := 18) (v := ?_) rfl (by kernel_rfl) (by kernel_rfl) (by kernel_rfl) (fun _ _ _ h => h) (Or.inl ⟨by rfl, ?_⟩) (by assumption) ?_
  rotate_left
  · intro u hSu
    have qa := hSu.c0; have qb := hSu.c1; have qc := hSu.c2; have qd := hSu.c3; clear hSu
    first | (go_simp; done) | (go_simp; with_reducible rfl)
  try simp only [Act.put, List.getElem_toArray, List.getElem_cons_zero, List.getElem_cons_succ, List.setIfInBounds_toArray, List.set_cons_zero, List.set_cons_succ]
  refine wpAnyH_take (i := 19) (v := ?_) rfl (by kernel_rfl) (by kernel_rfl) (by kernel_rfl) (fun _ _ _ h => h) (Or.inl ⟨by rfl, ?_⟩) (by assumption) ?_
  rotate_left
  · intro u hSu
    (try dsimp only at hSu)
    first | (go_simp; done) | (go_simp; with_reducible rfl)
  try simp only [Act.put, List.getElem_toArray, List.getElem_cons_zero, List.getElem_cons_succ, List.setIfInBounds_toArray, List.set_cons_zero, List.set_cons_succ]
  refine wpAnyH_ready (rs := [5]) (by kernel_rfl) (by simp) ?_
  refine AllReadyH.cons rfl (fun K hK => ?_) AllReadyH.nil
  go_simp
  refine (HDD1.out _).mono ?_
  rintro o w6 ⟨rfl, hb⟩
  have B6 := Lib.hid (below_next B5.out hb (Nat.le_refl _))
  refine hK.out _ _ (hHeld.next hb) (fun hHeld2 => ?_)
  clear hK K hHeld
  have hHeld := hHeld2
  clear hHeld2
  try simp only [Act.put, List.getElem_toArray, List.getElem_cons_zero, List.getElem_cons_succ, List.setIfInBounds_toArray, List.set_cons_zero, List.set_cons_succ]
  clear hb B5
  refine wpAnyH_take (i := 6) (v := ?_) rfl (by kernel_rfl) (by kernel_rfl) (by kernel_rfl) (fun _ _ _ h => h) (Or.inl ⟨by rfl, ?_⟩) (by assumption) ?_
  rotate_left
  · intro u hSu
    (try dsimp only at hSu)
    first | (go_simp; done) | (go_simp; with_reducible rfl)
  try simp only [Act.put, List.getElem_toArray, List.getElem_cons_zero, List.getElem_cons_succ, List.setIfInBounds_toArray, List.set_cons_zero, List.set_cons_succ]
  refine wpAnyH_ready (rs := [12]) (by kernel_rfl) (by simp) ?_
  refine AllReadyH.cons rfl (fun K hK => ?_) AllReadyH.nil
  go_simp
  refine (HDD2.out _).mono ?_
  rintro o w7 ⟨rfl, hb⟩
  have B7 := Lib.hid (below_next B6.out hb (Nat.le_refl _))
  refine hK.out _ _ (hHeld.next hb) (fun hHeld2 => ?_)
  clear hK K hHeld
  have hHeld := hHeld2
  clear hHeld2
  try simp only [Act.put, List.getElem_toArray, List.getElem_cons_zero, List.getElem_cons_succ, List.setIfInBounds_toArray, List.set_cons_zero, List.set_cons_succ]
  clear hb B6
  refine wpAnyH_take (i := 13) (v := ?_) rfl (by kernel_rfl) (by kernel_rfl) (by kernel_rfl) (fun _ _ _ h => h) (Or.inl ⟨by rfl, ?_⟩) (by assumption) ?_
  rotate_left
  · intro u hSu
    (try dsimp only at hSu)
    first | (go_simp; done) | (go_simp; with_reducible rfl)
  try simp only [Act.put, List.getElem_toArray, List.getElem_cons_zero, List.getElem_cons_succ, List.setIfInBounds_toArray, List.set_cons_zero, List.set_cons_succ]
  refine wpAnyH_take (i := 14) (v := ?_) rfl (by kernel_rfl) (by kernel_rfl) (by kernel_rfl) (fun _ _ _ h => h) (Or.inl ⟨by rfl, ?_⟩) (by assumption) ?_
  rotate_left
  · intro u hSu
    (try dsimp only at hSu)
    first | (go_simp; done) | (go_simp; with_reducible rfl)
  try simp only [Act.put, List.getElem_toArray, List.getElem_cons_zero, List.getElem_cons_succ, List.setIfInBounds_toArray, List.set_cons_zero, List.set_cons_succ]
  refine wpAnyH_ready (rs := [20]) (by kernel_rfl) (by simp) ?_
  refine AllReadyH.cons rfl (fun K hK => ?_) AllReadyH.nil
  go_simp
  refine (HDD3.out _).mono ?_
  rintro o w8 ⟨rfl, hb⟩
  have B8 := Lib.hid (below_next B7.out hb (Nat.le_refl _))
  refine hK.out _ _ (hHeld.next hb) (fun hHeld2 => ?_)
  clear hK K hHeld
  have hHeld := hHeld2
  clear hHeld2
  try simp only [Act.put, List.getElem_toArray, List.getElem_cons_zero, List.getElem_cons_succ, List.setIfInBounds_toArray, List.set_cons_zero, List.set_cons_succ]
  clear hb B7
  refine wpAnyH_take (i := 21) (v := ?_) rfl (by kernel_rfl) (by kernel_rfl) (by kernel_rfl) (fun _ _ _ h => h) (Or.inl ⟨by rfl, ?_⟩) (by assumption) ?_
  rotate_left
  · intro u hSu
    (try dsimp only at hSu)
    first | (go_simp; done) | (go_simp; with_reducible rfl)
  try simp only [Act.put, List.getElem_toArray, List.getElem_cons_zero, List.getElem_cons_succ, List.setIfInBounds_toArray, List.set_cons_zero, List.set_cons_succ]
  refine wpAnyH_take (i := 22) (v := ?_) rfl (by kernel_rfl) (by kernel_rfl) (by kernel_rfl) (fun _ _ _ h => h) (Or.inl ⟨by rfl, ?_⟩) (by assumption) ?_
  rotate_left
  · intro u hSu
    (try dsimp only at hSu)
    first | (go_simp; done) | (go_simp; with_reducible rfl)
  try simp only [Act.put, List.getElem_toArray, List.getElem_cons_zero, List.getElem_cons_succ, List.setIfInBounds_toArray, List.set_cons_zero, List.set_cons_succ]
  refine wpAnyH_ready (rs := [23]) (by kernel_rfl) (by simp) ?_
  refine AllReadyH.cons rfl (fun K hK => ?_) AllReadyH.nil
  go_simp
  refine hK.out _ _ (hHeld) (fun hHeld2 => ?_)
  clear hK K hHeld
  have hHeld := hHeld2
  clear hHeld2
  try simp only [Act.put, List.getElem_toArray, List.getElem_cons_zero, List.getElem_cons_succ, List.setIfInBounds_toArray, List.set_cons_zero, List.set_cons_succ]
  refine wpAnyH_done (by kernel_rfl) ?_ _
  clear hHeld HDD1 HDD2 HDD3 hz1 hz2 hz3 hz4 hz5
  rw [H00.out]
  obtain ⟨T0, hT0⟩ : ∃ T, T = bsJ (houT (xs.take 0) (p : Int) (q : Int) (r : Int)) := ⟨_, rfl⟩
  rw [← hT0]
  have HT0 := Lib.hid hT0
  clear hT0 H00
  go_wp2_with fail
  go_loopw [3, 4, 5] (fun vt vi _ wr => ∃ (i : Nat) (T : ByteArray), i ≤ n ∧ vi = .int .i64 i ∧ vt = .string T ∧ T = bsJ (houT (xs.take i) (p : Int) (q : Int) (r : Int)) ∧ Below w.heap.size w wr) (fun _ vi _ _ => n - (intOf vi).toNat)
  case atStart => exact ⟨0, T0, by omega, rfl, rfl, HT0.out, B8.out⟩
  case round =>
    clear B8
    obtain ⟨i, T, hi, rfl, rfl, hT, hB⟩ := hrel
    have HT := Lib.hid hT
    have HB := Lib.hid hB
    clear hT hB
    have hH := HA.out _ HB.out
    have c0 := hH.c0
    clear hH
    by_cases hlt : i < n
    · obtain ⟨f, hx⟩ : ∃ f, xs[i]? = some f := ⟨xs[i]'(by have := En.out; omega), List.getElem?_eq_getElem _⟩
      obtain ⟨a, rfl, hab, hat⟩ := (HG.out _ HB.out).at_ i f hx
      have HAT := Lib.hid hat
      have hff := HF.out f (List.mem_of_getElem? hx)
      have HFF := Lib.hid hff
      have hlen := HLEN.out i (by have := En.out; omega)
      rw [← bsJ_size, ← HT.out] at hlen
      obtain ⟨s, hs⟩ : ∃ s : Nat, f 24 = s := ⟨(f 24).toNat, by have := hff 24 (by omega); omega⟩
      have hs5 := hff 24 (by omega)
      have hdd := digJ_len (n := s) (by omega)
      obtain ⟨E1, hE1⟩ : ∃ E, bsJ (flatK f 0 8) = E := ⟨_, rfl⟩
      obtain ⟨E2, hE2⟩ : ∃ E, bsJ (flatK f 8 8) = E := ⟨_, rfl⟩
      obtain ⟨E3, hE3⟩ : ∃ E, bsJ (flatK f 16 8) = E := ⟨_, rfl⟩
      obtain ⟨E4, hE4⟩ : ∃ E, decB s = E := ⟨_, rfl⟩
      have e1 : E1.size ≤ 200 := by rw [← hE1, bsJ_size]; exact flatK_len f hff 0 8 (by omega)
      have e2 : E2.size ≤ 200 := by rw [← hE2, bsJ_size]; exact flatK_len f hff 8 8 (by omega)
      have e3 : E3.size ≤ 200 := by rw [← hE3, bsJ_size]; exact flatK_len f hff 16 8 (by omega)
      have e4 : E4.size ≤ 22 := by rw [← hE4]; simpa [decB, ByteArray.size] using hdd
      have HEE1 := Lib.hid (fun u : World => l05Line_any f hff 0 (by omega) u)
      have HEE2 := Lib.hid (fun u : World => l05Line_any f hff 8 (by omega) u)
      have HEE3 := Lib.hid (fun u : World => l05Line_any f hff 16 (by omega) u)
      have HEE4 := Lib.hid (fun u : World => Decimal_any s (by omega) u)
      rw [hE1] at HEE1
      rw [hE2] at HEE2
      rw [hE3] at HEE3
      rw [hE4] at HEE4
      have HNX : Hid (T ++ ((((E1 ++ E2) ++ E3) ++ E4) ++ ⟨#[10]⟩) = bsJ (houT (xs.take (i + 1)) (p : Int) (q : Int) (r : Int))) := Lib.hid (by
        rw [houT_snoc hx, line_kind, bsJ_append, ← HT.out, bsJ_append, bsJ_append, bsJ_append, bsJ_append, hE1, hE2, hE3, hs, Int.toNat_natCast, ← hE4]
        rfl)
      have hn4 := HN4.out
      have y1 : ¬ 9223372036854775807 < E1.size + E2.size := by omega
      have y2 : ¬ 9223372036854775807 < E1.size + E2.size + E3.size := by omega
      have y3 : ¬ 9223372036854775807 < E1.size + E2.size + E3.size + E4.size := by omega
      have y4 : ¬ 9223372036854775807 < E1.size + E2.size + E3.size + E4.size + 1 := by omega
      have y5 : ¬ 9223372036854775807 < T.size + (E1.size + E2.size + E3.size + E4.size + 1) := by omega
      have ww3 : IntKind.i64.wrap (s : Int) = s := IntWalk.i64_in _ (by omega)
      have hzz : ∀ u : World, (zeroValue 153).run Tryd.prog u = .ok (.agg (stkCs zeroS)) u := (zero_of_info zeroSi).1
      obtain ⟨bk, hbk⟩ : ∃ bk, bk = wr.heap.size := ⟨_, rfl⟩
      obtain ⟨w3, hw3⟩ : ∃ u, u = wr.alloc (.cells (stkCs zeroS) 153) := ⟨_, rfl⟩
      have T3 : Hid (StkOwn w3 bk 0 zeroS) := Lib.hid (by rw [hw3, hbk]; exact StkOwn.new wr zeroS _)
      obtain ⟨w4, hw4⟩ : ∃ u, u = w3.setCells bk 0 (lst 25 (cellS f)) := ⟨_, rfl⟩
      have T4 : StkOwn w4 bk 0 f := by rw [hw4]; exact StkOwn.stored T3.out f
      have hb4 : Below wr.heap.size wr w4 := by
        rw [hw4, hw3, hbk]
        exact below_cells ((Below.refl _ _).alloc (Nat.le_refl _) _) (Nat.le_refl _) _ _
      have H4 : Hid (KS bk f w w4) := Lib.hid ⟨T4.toRowAt, below_next HB.out hb4 (Nat.le_refl _)⟩
      have HW3 := Lib.hid hw3
      have HW4 := Lib.hid hw4
      have HBK := Lib.hid hbk
      clear hx hat hff hlen hs5 hdd hE1 hE2 hE3 hE4 e1 e2 e3 e4 hbk hw3 hw4 T4 hb4
      go_wp2_with (first
        | (refine wpl_load_at rfl 153 (.tmp 43) rfl (a.add (i * 25)) rfl (stkC f) _ HAT.out Tryd.underlying153 rfl (by rw [infoS, lst_len]) ?_)
        | (rw [← HW3.out, ← HBK.out]; refine wpl_store_stk rfl (.tmp 5) (.tmp 44) rfl bk 0 rfl (f := f) rfl T3.out ?_; rw [← HW4.out])
        | fail)
      refine wp_region_held_drew (S := fun u => KS bk f w u) (by kernel_rfl) (H4.out.next (Below.refl _ _).drew) (fun hHeld => ?_)
      generalize w4.drew = w5 at hHeld ⊢
      clear H4 HW3 HW4 T3
      refine wpAnyH_take (i := 0) (v := ?_) rfl (by kernel_rfl) (by kernel_rfl) (by kernel_rfl) (fun _ _ _ h => h) (Or.inl ⟨by rfl, ?_⟩) (by assumption) ?_
      rotate_left
      · intro u hSu
        (try dsimp only at hSu)
        first | (go_simp; done) | (go_simp; with_reducible rfl)
      try simp only [Act.put, List.getElem_toArray, List.getElem_cons_zero, List.getElem_cons_succ, List.setIfInBounds_toArray, List.set_cons_zero, List.set_cons_succ]
      refine wpAnyH_take (i := 1) (v := ?_) rfl (by kernel_rfl) (by kernel_rfl) (by kernel_rfl) (fun _ _ _ h => h) (Or.inl ⟨by rfl, ?_⟩) (by assumption) ?_
      rotate_left
      · intro u hSu
        (try dsimp only at hSu)
        first | (go_simp; done) | (go_simp; with_reducible rfl)
      try simp only [Act.put, List.getElem_toArray, List.getElem_cons_zero, List.getElem_cons_succ, List.setIfInBounds_toArray, List.set_cons_zero, List.set_cons_succ]
      refine wpAnyH_take (i := 2) (v := arrV f 0) rfl (by kernel_rfl) (by kernel_rfl) (by kernel_rfl) (fun _ _ _ h => h) (yieldsIf_load_mid (by rfl) 151 (.tmp 46) rfl bk 0 rfl (lst 8 (cellA f 0)) _ (fun u h => h.arr 0 (by omega)) Tryd.underlying151 rfl (by rw [infoA, lst_len])) hHeld ?_
      (try simp only [Act.put, List.getElem_toArray, List.getElem_cons_zero, List.getElem_cons_succ, List.setIfInBounds_toArray, List.set_cons_zero, List.set_cons_succ])
      refine wpAnyH_take (i := 4) (v := ?_) rfl (by kernel_rfl) (by kernel_rfl) (by kernel_rfl) (fun _ _ _ h => h) (Or.inl ⟨by rfl, ?_⟩) (by assumption) ?_
      rotate_left
      · intro u hSu
        (try dsimp only at hSu)
        first | (go_simp; done) | (go_simp; with_reducible rfl)
      try simp only [Act.put, List.getElem_toArray, List.getElem_cons_zero, List.getElem_cons_succ, List.setIfInBounds_toArray, List.set_cons_zero, List.set_cons_succ]
      refine wpAnyH_take (i := 5) (v := arrV f 8) rfl (by kernel_rfl) (by kernel_rfl) (by kernel_rfl) (fun _ _ _ h => h) (yieldsIf_load_mid (by rfl) 151 (.tmp 49) rfl bk 8 rfl (lst 8 (cellA f 8)) _ (fun u h => h.arr 8 (by omega)) Tryd.underlying151 rfl (by rw [infoA, lst_len])) hHeld ?_
      (try simp only [Act.put, List.getElem_toArray, List.getElem_cons_zero, List.getElem_cons_succ, List.setIfInBounds_toArray, List.set_cons_zero, List.set_cons_succ])
      refine wpAnyH_take (i := 8) (v := ?_) rfl (by kernel_rfl) (by kernel_rfl) (by kernel_rfl) (fun _ _ _ h => h) (Or.inl ⟨by rfl, ?_⟩) (by assumption) ?_
      rotate_left
      · intro u hSu
        (try dsimp only at hSu)
        first | (go_simp; done) | (go_simp; with_reducible rfl)
      try simp only [Act.put, List.getElem_toArray, List.getElem_cons_zero, List.getElem_cons_succ, List.setIfInBounds_toArray, List.set_cons_zero, List.set_cons_succ]
      refine wpAnyH_take (i := 9) (v := arrV f 16) rfl (by kernel_rfl) (by kernel_rfl) (by kernel_rfl) (fun _ _ _ h => h) (yieldsIf_load_mid (by rfl) 151 (.tmp 53) rfl bk 16 rfl (lst 8 (cellA f 16)) _ (fun u h => h.arr 16 (by omega)) Tryd.underlying151 rfl (by rw [infoA, lst_len])) hHeld ?_
      (try simp only [Act.put, List.getElem_toArray, List.getElem_cons_zero, List.getElem_cons_succ, List.setIfInBounds_toArray, List.set_cons_zero, List.set_cons_succ])
      refine wpAnyH_take (i := 12) (v := ?_) rfl (by kernel_rfl) (by kernel_rfl) (by kernel_rfl) (fun _ _ _ h => h) (Or.inl ⟨by rfl, ?_⟩) (by assumption) ?_
      rotate_left
      · intro u hSu
        (try dsimp only at hSu)
        first | (go_simp; done) | (go_simp; with_reducible rfl)
      try simp only [Act.put, List.getElem_toArray, List.getElem_cons_zero, List.getElem_cons_succ, List.setIfInBounds_toArray, List.set_cons_zero, List.set_cons_succ]
      refine wpAnyH_take (i := 13) (v := .int .i32 (s : Int)) rfl (by kernel_rfl) (by kernel_rfl) (by kernel_rfl) (fun _ _ _ h => h) (Or.inl ⟨by rfl, ?_⟩) hHeld ?_
      · intro u hSu
        have qa := hSu.rags
        rw [hs] at qa
        clear hSu
        first | (go_simp; done) | (go_simp; with_reducible rfl)
      (try simp only [Act.put, List.getElem_toArray, List.getElem_cons_zero, List.getElem_cons_succ, List.setIfInBounds_toArray, List.set_cons_zero, List.set_cons_succ])
      refine wpAnyH_take (i := 14) (v := ?_) rfl (by kernel_rfl) (by kernel_rfl) (by kernel_rfl) (fun _ _ _ h => h) (Or.inl ⟨by rfl, ?_⟩) (by assumption) ?_
      rotate_left
      · intro u hSu
        (try dsimp only at hSu)
        first | (go_simp; done) | (go_simp; with_reducible rfl)
      try simp only [Act.put, List.getElem_toArray, List.getElem_cons_zero, List.getElem_cons_succ, List.setIfInBounds_toArray, List.set_cons_zero, List.set_cons_succ]
      refine wpAnyH_ready (rs := [3]) (by kernel_rfl) (by simp) ?_
      refine AllReadyH.cons rfl (fun K hK => ?_) AllReadyH.nil
      go_simp
      refine (HEE1.out _).mono ?_
      rintro o w6 ⟨rfl, hb⟩
      refine hK.out _ _ (hHeld.next hb) (fun hHeld2 => ?_)
      clear hK K hHeld
      have hHeld := hHeld2
      clear hHeld2
      try simp only [Act.put, List.getElem_toArray, List.getElem_cons_zero, List.getElem_cons_succ, List.setIfInBounds_toArray, List.set_cons_zero, List.set_cons_succ]
      clear hb
      refine wpAnyH_ready (rs := [6]) (by kernel_rfl) (by simp) ?_
      refine AllReadyH.cons rfl (fun K hK => ?_) AllReadyH.nil
      go_simp
      refine (HEE2.out _).mono ?_
      rintro o w7 ⟨rfl, hb⟩
      refine hK.out _ _ (hHeld.next hb) (fun hHeld2 => ?_)
      clear hK K hHeld
      have hHeld := hHeld2
      clear hHeld2
      try simp only [Act.put, List.getElem_toArray, List.getElem_cons_zero, List.getElem_cons_succ, List.setIfInBounds_toArray, List.set_cons_zero, List.set_cons_succ]
      clear hb
      refine wpAnyH_take (i := 7) (v := ?_) rfl (by kernel_rfl) (by kernel_rfl) (by kernel_rfl) (fun _ _ _ h => h) (Or.inl ⟨by rfl, ?_⟩) (by assumption) ?_
      rotate_left
      · intro u hSu
        (try dsimp only at hSu)
        first | (go_simp; done) | (go_simp; with_reducible rfl)
      try simp only [Act.put, List.getElem_toArray, List.getElem_cons_zero, List.getElem_cons_succ, List.setIfInBounds_toArray, List.set_cons_zero, List.set_cons_succ]
      refine wpAnyH_ready (rs := [10]) (by kernel_rfl) (by simp) ?_
      refine AllReadyH.cons rfl (fun K hK => ?_) AllReadyH.nil
      go_simp
      refine (HEE3.out _).mono ?_
      rintro o w8 ⟨rfl, hb⟩
      refine hK.out _ _ (hHeld.next hb) (fun hHeld2 => ?_)
      clear hK K hHeld
      have hHeld := hHeld2
      clear hHeld2
      try simp only [Act.put, List.getElem_toArray, List.getElem_cons_zero, List.getElem_cons_succ, List.setIfInBounds_toArray, List.set_cons_zero, List.set_cons_succ]
      clear hb
      refine wpAnyH_take (i := 11) (v := ?_) rfl (by kernel_rfl) (by kernel_rfl) (by kernel_rfl) (fun _ _ _ h => h) (Or.inl ⟨by rfl, ?_⟩) (by assumption) ?_
      rotate_left
      · intro u hSu
        (try dsimp only at hSu)
        first | (go_simp; done) | (go_simp; with_reducible rfl)
      try simp only [Act.put, List.getElem_toArray, List.getElem_cons_zero, List.getElem_cons_succ, List.setIfInBounds_toArray, List.set_cons_zero, List.set_cons_succ]
      refine wpAnyH_ready (rs := [15]) (by kernel_rfl) (by simp) ?_
      refine AllReadyH.cons rfl (fun K hK => ?_) AllReadyH.nil
      go_simp
      refine (HEE4.out _).mono ?_
      rintro o w9 ⟨rfl, hb⟩
      refine hK.out _ _ (hHeld.next hb) (fun hHeld2 => ?_)
      clear hK K hHeld
      have hHeld := hHeld2
      clear hHeld2
      try simp only [Act.put, List.getElem_toArray, List.getElem_cons_zero, List.getElem_cons_succ, List.setIfInBounds_toArray, List.set_cons_zero, List.set_cons_succ]
      clear hb
      refine wpAnyH_take (i := 16) (v := ?_) rfl (by kernel_rfl) (by kernel_rfl) (by kernel_rfl) (fun _ _ _ h => h) (Or.inl ⟨by rfl, ?_⟩) (by assumption) ?_
      rotate_left
      · intro u hSu
        (try dsimp only at hSu)
        first | (go_simp; done) | (go_simp; with_reducible rfl)
      try simp only [Act.put, List.getElem_toArray, List.getElem_cons_zero, List.getElem_cons_succ, List.setIfInBounds_toArray, List.set_cons_zero, List.set_cons_succ]
      refine wpAnyH_take (i := 17) (v := ?_) rfl (by kernel_rfl) (by kernel_rfl) (by kernel_rfl) (fun _ _ _ h => h) (Or.inl ⟨by rfl, ?_⟩) (by assumption) ?_
      rotate_left
      · intro u hSu
        (try dsimp only at hSu)
        first | (go_simp; done) | (go_simp; with_reducible rfl)
      try simp only [Act.put, List.getElem_toArray, List.getElem_cons_zero, List.getElem_cons_succ, List.setIfInBounds_toArray, List.set_cons_zero, List.set_cons_succ]
      refine wpAnyH_take (i := 18) (v := ?_) rfl (by kernel_rfl) (by kernel_rfl) (by kernel_rfl) (fun _ _ _ h => h) (Or.inl ⟨by rfl, ?_⟩) (by assumption) ?_
      rotate_left
      · intro u hSu
        (try dsimp only at hSu)
        first | (go_simp; done) | (go_simp; with_reducible rfl)
      try simp only [Act.put, List.getElem_toArray, List.getElem_cons_zero, List.getElem_cons_succ, List.setIfInBounds_toArray, List.set_cons_zero, List.set_cons_succ]
      refine wpAnyH_ready (rs := [19]) (by kernel_rfl) (by simp) ?_
      refine AllReadyH.cons rfl (fun K hK => ?_) AllReadyH.nil
      go_simp
      refine hK.out _ _ (hHeld) (fun hHeld2 => ?_)
      clear hK K hHeld
      have hHeld := hHeld2
      clear hHeld2
      try simp only [Act.put, List.getElem_toArray, List.getElem_cons_zero, List.getElem_cons_succ, List.setIfInBounds_toArray, List.set_cons_zero, List.set_cons_succ]
      refine wpAnyH_done (by kernel_rfl) ?_ _
      go_wp2_with fail
      go_roundw
      case rel => exact ⟨i + 1, _, by omega, by go_num, rfl, HNX.out, hHeld.bl⟩
      case measure => simp [intOf]; omega
    · obtain rfl : i = n := by omega
      have HK : Hid (T = bsJ (houT xs (p : Int) (q : Int) (r : Int))) := Lib.hid (by rw [HT.out, List.take_of_length_le (by rw [← En.out]; exact Nat.le_refl _)])
      go_wp2_with fail
      go_ret
      exact ⟨by rw [HK.out]; rfl, HB.out⟩
end Go.Proofs.YtjfimmfnhlimkaaDoor.hou

/-
  Texts of houses: the program's HouseText, and the model's.
-/
namespace Go.Proofs.YtjfimmfnhlimkaaDoor.hou
open Go Go.RowKit sl row stk errs dec txt

theorem listedT (p q r : Int) (u : World) : Sl intS.C 1 (u.alloc (.cells #[.int .i64 p, .int .i64 q, .int .i64 r] 2)) (u.alloc (.cells #[.int .i64 p, .int .i64 q, .int .i64 r] 2)).heap.size (some ⟨u.heap.size, 0, none⟩) [p, q, r] := by
  have h := World.ownsRow_lit (base := u.heap.size) (size := 1) (e := 2) u #[.int .i64 p, .int .i64 q, .int .i64 r] 3 (Nat.le_refl _) (by unfold maxLen; omega) rfl
  exact Sl.of_owns (C := intS.C) (xs := [p, q, r]) h (intS.len _) (by decide)
set_option maxRecDepth 100000 in
theorem build_three (p q r : Int) (u : World) : (Instr.buildSlice 101 3 #[(0, .int .i64 p), (1, .int .i64 q), (2, .int .i64 r)]).run Tryd.prog u = .ok (.slice (some ⟨u.heap.size, 0, none⟩) 3 3) (u.alloc (.cells #[.int .i64 p, .int .i64 q, .int .i64 r] 2)) := by
  kernel_rfl
set_option maxRecDepth 100000 in
set_option maxHeartbeats 8000000 in
theorem HouseText_any (A : Option Addr) (n c : Nat) (xs : List Stk) (t x d : Int) (en : n = xs.length) (hn : n ≤ 1048576) (hf : ∀ x ∈ xs, Fits x) (ht : -32768 ≤ t ∧ t ≤ 32767) (hx : -128 ≤ x ∧ x ≤ 127) (hd : -32768 ≤ d ∧ d ≤ 32767) {w : World} {B : Nat} {e : Nat → Addr} (h : ER w B (e 1)) (hB : B ≤ w.heap.size) (hT : TabJ w) (hg : Sl stkC 25 w w.heap.size A xs) :
    Calls Tryd.prog 50 #[houV (.slice A n c) t x d] w fun o w' => o = .returned (.string (houText xs t x d)) ∧ Below w.heap.size w w' := by
  obtain ⟨T, hTT⟩ : ∃ T, houText xs t x d = T := ⟨_, rfl⟩
  rw [hTT]
  obtain ⟨b, hb⟩ : ∃ b, b = houOk xs t x d := ⟨_, rfl⟩
  have HT := Lib.hid hTT
  have En := Lib.hid en
  have HTB := Lib.hid hT
  have HOB := Lib.hid hb
  obtain ⟨u0, hu0⟩ : ∃ u, u = w.alloc (.cells #[.slice A n c, .int .i16 t, .int .i8 x, .int .i16 d] 74) := ⟨_, rfl⟩
  have hA0 : HouAt u0 w.heap.size (.slice A n c) t x d := by rw [hu0]; exact HouAt.new w _ t x d _
  have hb0 : Below w.heap.size w u0 := by rw [hu0]; exact (Below.refl _ _).alloc (Nat.le_refl _) _
  have HV := Lib.hid (ValidHouse_any A n c xs t x d en hn hf ht hx hd (h.below (hb0.mono hB)) (Nat.le_trans hB hb0.size) ((hg.below hb0).more hb0.size) b hb)
  have HG := Lib.hid (fun (u : World) (hu : Below w.heap.size w u) => hg.below hu)
  have HA0 := Lib.hid hA0
  have HB0 := Lib.hid hb0
  have HU0 := Lib.hid hu0
  have c0 := hA0.c0
  have c1 := hA0.c1
  have c2 := hA0.c2
  have c3 := hA0.c3
  clear hTT en hT hb hu0 hA0 hb0 hf ht hx hd h hg
  go_enter Tryd.func50, Tryd.ntmps50
  go_wp2_with (first | (rw [← HU0.out]) | fail)
  refine HV.out.mono ?_
  rintro o w1 ⟨rfl, hb⟩
  have HA1 := Lib.hid (HA0.out.next hb)
  have HB1 := Lib.hid (below_next HB0.out hb (Nat.le_refl _))
  clear hb c0 c1 c2 c3 HA0 HB0 HV HU0
  cases b with
  | false =>
    obtain rfl : T = ⟨#[]⟩ := by rw [← HT.out, houText, ← HOB.out, if_neg (by decide)]
    go_wp2_with fail
    go_ret
    exact ⟨rfl, HB1.out⟩
  | true =>
    have HT2 : Hid (T = bsJ (houT xs t x d)) := Lib.hid (by rw [← HT.out, houText, ← HOB.out, if_pos rfl])
    obtain ⟨⟨hn14, ht, hx, hd⟩, hf⟩ := hou_parts HOB.out.symm
    have HF := Lib.hid hf
    have hn4 : n ≤ 4 := by have := En.out; omega
    have HLEN := Lib.hid (fun i (hi : i ≤ xs.length) => houT_len hf (t := t) (x := x) (d := d) ht (by omega) (by omega) i hi)
    obtain ⟨bb, hbb⟩ : ∃ bb, bb = w1.heap.size := ⟨_, rfl⟩
    obtain ⟨w3, hw3⟩ : ∃ u, u = w1.alloc (.cells #[.pointer none, .slice none 0 0] 126) := ⟨_, rfl⟩
    have hb3 : Below w1.heap.size w1 w3 := by rw [hw3]; exact (Below.refl _ _).alloc (Nat.le_refl _) _
    have HG3 : Hid (Bld bb bb [] w3) := Lib.hid (by rw [hw3, hbb]; exact Bld.new w1)
    have HA3 := Lib.hid (HA1.out.next hb3)
    have HB3 := Lib.hid (below_next HB1.out hb3 (Nat.le_refl _))
    have HBW : Hid (w.heap.size ≤ bb) := Lib.hid (by rw [hbb]; exact HB1.out.size)
    have HBX : Hid (w.heap.size < bb) := Lib.hid (by rw [hbb]; exact HA1.out.lt)
    obtain ⟨w4, hw4⟩ : ∃ u, u = w3.alloc (.cells #[.int .i64 t, .int .i64 x, .int .i64 d] 2) := ⟨_, rfl⟩
    have hb4 : Below w3.heap.size w3 w4 := by rw [hw4]; exact (Below.refl _ _).alloc (Nat.le_refl _) _
    have HG4 := Lib.hid (HG3.out.next hb4)
    have HA4 := Lib.hid (HA3.out.next hb4)
    have HB4 := Lib.hid (below_next HB3.out hb4 (Nat.le_refl _))
    have HL4 : Hid (Sl intS.C 1 w4 w4.heap.size (some ⟨w3.heap.size, 0, none⟩) [t, x, d]) := Lib.hid (by rw [hw4]; exact listedT t x d w3)
    have HL1 := Lib.hid (lineOf_any (some ⟨w3.heap.size, 0, none⟩) 3 3 [t, x, d] rfl (by omega) (by intro z hz; simp at hz; omega) HB4.out HTB.out HL4.out)
    have HLB : Hid ((lineT [t, x, d]).length ≤ 1000000) := Lib.hid (by have := lineT_len (ns := [t, x, d]) (by intro z hz; simp at hz; omega) (by simp); omega)
    obtain ⟨ma, hma⟩ : ∃ ma, ma = lineT [t, x, d] := ⟨_, rfl⟩
    rw [← hma] at HL1 HLB
    have HMA := Lib.hid hma
    have ww0 : IntKind.i64.wrap t = t := IntWalk.i64_in _ (by omega)
    have ww1 : IntKind.i64.wrap x = x := IntWalk.i64_in _ (by omega)
    have ww2 : IntKind.i64.wrap d = d := IntWalk.i64_in _ (by omega)
    have c1 := HA3.out.c1
    have c2 := HA3.out.c2
    have c3 := HA3.out.c3
    have HW3 := Lib.hid hw3
    have HW4 := Lib.hid hw4
    have HBB := Lib.hid hbb
    clear hf hbb hw3 hw4 hb3 hb4 hma ht hx hd hn14
    go_wp2_with (first | (rw [← HW3.out, ← HBB.out]) | (refine wpList_listed rfl 101 3 _ rfl #[(0, .int .i64 t), (1, .int .i64 x), (2, .int .i64 d)] ?hp (build_three t x d _) ?_; case hp => simp [Act.eval]) | (rw [← HW4.out]) | fail)
    refine HL1.out.mono ?_
    rintro o w5 ⟨rfl, hb⟩
    have HG5 := Lib.hid (HG4.out.next hb)
    have HA5 := Lib.hid (HA4.out.next hb)
    have HB5 := Lib.hid (below_next HB4.out hb (Nat.le_refl _))
    clear hb HG4 HA4 HB4 HG3 HA3 HB3 HL1 HL4 HW3 HW4 c1 c2 c3
    go_wp2_with fail
    refine (WriteJ bb bb _ _ _ HG5.out (by simp) HLB.out).mono ?_
    rintro o w6 ⟨rfl, hG6, hb, _⟩
    have HG6 := Lib.hid hG6
    have HA6 := Lib.hid (HA5.out.below hb HBX.out)
    have HB6 := Lib.hid (HB5.out.trans (hb.mono HBW.out))
    have c0 := HA6.out.c0
    clear hG6 hb HG5 HA5 HB5
    go_wp2_with fail
    go_loopw [5, 24] (fun _ vi wr => ∃ i : Nat, i ≤ n ∧ vi = .int .i64 (i : Nat) ∧ Bld bb bb (houT (xs.take i) t x d) wr ∧ Below w.heap.size w wr) (fun _ vi _ => n - (intOf vi).toNat)
    case atStart => exact ⟨0, by omega, rfl, by have h1 := HG6.out; rw [HMA.out] at h1; simpa [houT] using h1, HB6.out⟩
    case round =>
      clear HG6 HA6 HB6 c0
      obtain ⟨i, hil, rfl, hG, hB⟩ := hrel
      have HGB := Lib.hid hG
      have HB := Lib.hid hB
      clear hG hB
      by_cases hlt : i < n
      · obtain ⟨f, hx⟩ : ∃ f, xs[i]? = some f := ⟨xs[i]'(by have := En.out; omega), List.getElem?_eq_getElem _⟩
        obtain ⟨a, rfl, hab, hat⟩ := (HG.out _ HB.out).at_ i f hx
        have HAT := Lib.hid hat
        have hff := HF.out f (List.mem_of_getElem? hx)
        have HFI : Hid (Fits f) := Lib.hid ⟨fun j hj => by have := hff j (by omega); omega, fun j hj => by have := hff j (by omega); omega, by have := hff 24 (by omega); omega, by have := hff 24 (by omega); omega⟩
        have HLA : Hid ((houT (xs.take i) t x d).length ≤ 1000000) := Lib.hid (by have := HLEN.out i (by have := En.out; omega); omega)
        obtain ⟨mk, hmk⟩ : ∃ mk, mk = lineT (numsK f) := ⟨_, rfl⟩
        have HLK : Hid (mk.length ≤ 1000000) := Lib.hid (by rw [hmk]; have := lineT_len (ns := numsK f) (nums_ok hff) (by rw [nums_len]; exact Nat.le_refl _); omega)
        have HNX : Hid (houT (xs.take i) t x d ++ mk = houT (xs.take (i + 1)) t x d) := Lib.hid (by rw [houT_snoc hx, hmk])
        have HLO := Lib.hid (fun (k : Nat) (u : World) (hu : Below w.heap.size w u) (hs : Sl intS.C 1 u u.heap.size (some ⟨k, 0, none⟩) (numsK f)) => lineOf_any (some ⟨k, 0, none⟩) 25 25 (numsK f) (nums_len f).symm (by omega) (nums_ok hff) hu HTB.out hs)
        rw [← hmk] at HLO
        have hzz : ∀ u : World, (zeroValue 153).run Tryd.prog u = .ok (.agg (stkCs zeroS)) u := (zero_of_info zeroSi).1
        obtain ⟨bk, hbk⟩ : ∃ bk, bk = wr.heap.size := ⟨_, rfl⟩
        obtain ⟨v3, hv3⟩ : ∃ u, u = wr.alloc (.cells (stkCs zeroS) 153) := ⟨_, rfl⟩
        have T3 : Hid (StkOwn v3 bk 0 zeroS) := Lib.hid (by rw [hv3, hbk]; exact StkOwn.new wr zeroS _)
        obtain ⟨v4, hv4⟩ : ∃ u, u = v3.setCells bk 0 (lst 25 (cellS f)) := ⟨_, rfl⟩
        have T4 : Hid (StkOwn v4 bk 0 f) := Lib.hid (by rw [hv4]; exact StkOwn.stored T3.out f)
        have hb4 : Below wr.heap.size wr v4 := by
          rw [hv4, hv3, hbk]
          exact below_cells ((Below.refl _ _).alloc (Nat.le_refl _) _) (Nat.le_refl _) _ _
        have HG4 := Lib.hid (HGB.out.next hb4)
        have HB4 := Lib.hid (below_next HB.out hb4 (Nat.le_refl _))
        have HV3 := Lib.hid hv3
        have HV4 := Lib.hid hv4
        have HBK := Lib.hid hbk
        clear hx hat hff hmk hbk hv3 hv4 hb4 HGB
        go_wp2_with (first
          | (refine wpl_load_at rfl 153 (.tmp 26) rfl (a.add (i * 25)) rfl (stkC f) _ HAT.out Tryd.underlying153 rfl (by rw [infoS, lst_len]) ?_)
          | (rw [← HV3.out, ← HBK.out]; refine wpl_store_stk rfl (.tmp 5) (.tmp 27) rfl bk 0 rfl (f := f) rfl T3.out ?_; rw [← HV4.out])
          | fail)
        refine (numbers_any f HFI.out bk 0 _ T4.out.toRowAt).mono ?_
        rintro o v5 ⟨rfl, hO, hb⟩
        have HS5 : Hid (Sl intS.C 1 v5 v5.heap.size (some ⟨v4.heap.size, 0, none⟩) (numsK f)) := Lib.hid (by
          rw [lst_nums] at hO
          exact Sl.of_owns hO (intS.len _) (by decide))
        have HG5 := Lib.hid (HG4.out.next hb)
        have HB5 := Lib.hid (below_next HB4.out hb (Nat.le_refl _))
        clear hO hb HG4 HB4 T3 T4 HV3 HV4
        go_wp2_with fail
        refine (HLO.out _ _ HB5.out HS5.out).mono ?_
        rintro o v6 ⟨rfl, hb⟩
        have HG6 := Lib.hid (HG5.out.next hb)
        have HB6 := Lib.hid (below_next HB5.out hb (Nat.le_refl _))
        clear hb HG5 HB5 HS5 HLO
        go_wp2_with fail
        refine (WriteJ bb bb _ _ _ HG6.out HLA.out HLK.out).mono ?_
        rintro o v7 ⟨rfl, hG7, hb, _⟩
        have HG7 := Lib.hid hG7
        have HB7 := Lib.hid (HB6.out.trans (hb.mono HBW.out))
        clear hG7 hb HG6 HB6
        go_wp2_with fail
        go_roundw
        case rel => exact ⟨i + 1, by omega, by go_num, HNX.out ▸ HG7.out, HB7.out⟩
        case measure => simp [intOf]; omega
      · obtain rfl : i = n := by omega
        have HGA : Hid (Bld bb bb (houT xs t x d) wr) := Lib.hid (by
          have h1 := HGB.out
          rw [List.take_of_length_le (by rw [← En.out]; exact Nat.le_refl _)] at h1
          exact h1)
        go_wp2_with fail
        refine (StringJ bb bb _ _ HGA.out).mono ?_
        rintro o u3 ⟨rfl, hb3⟩
        have HB5 := Lib.hid (HB.out.trans (hb3.mono HBW.out))
        clear hb3
        go_wp2_with fail
        go_ret
        exact ⟨by rw [HT2.out]; rfl, HB5.out⟩
set_option maxRecDepth 100000 in
set_option maxHeartbeats 4000000 in
theorem HouseText_spec (g n c : Nat) (xs : List Stk) (t x d : Int) (en : n = xs.length) (hn : n ≤ 1048576) (hf : ∀ x ∈ xs, Fits x) (ht : -32768 ≤ t ∧ t ≤ 32767) (hx : -128 ≤ x ∧ x ≤ 127) (hd : -32768 ≤ d ∧ d ≤ 32767) (w : World) (hg : Sl stkC 25 w w.heap.size (some ⟨g, 0, none⟩) xs) :
    Calls Tryd.prog 48 #[houV (.slice (some ⟨g, 0, none⟩) n c) t x d] w fun o w' => o = .returned (.string (houText xs t x d)) ∧ Below w.heap.size w w' := by
  obtain ⟨T, hTT⟩ : ∃ T, houText xs t x d = T := ⟨_, rfl⟩
  rw [hTT]
  obtain ⟨b, hb⟩ : ∃ b, b = houOk xs t x d := ⟨_, rfl⟩
  have HT := Lib.hid hTT
  have En := Lib.hid en
  have HOB := Lib.hid hb
  obtain ⟨u0, hu0⟩ : ∃ u, u = w.alloc (.cells #[.slice (some ⟨g, 0, none⟩) n c, .int .i16 t, .int .i8 x, .int .i16 d] 74) := ⟨_, rfl⟩
  have hA0 : HouAt u0 w.heap.size (.slice (some ⟨g, 0, none⟩) n c) t x d := by rw [hu0]; exact HouAt.new w _ t x d _
  have hb0 : Below w.heap.size w u0 := by rw [hu0]; exact (Below.refl _ _).alloc (Nat.le_refl _) _
  have HV := Lib.hid (l05Ok_any g n c xs t x d en hn hf ht hx hd w.heap.size u0 hA0 ((hg.below hb0).more hb0.size) b hb)
  have HG := Lib.hid (fun (u : World) (hu : Below w.heap.size w u) => (hg.below hu).more hu.size)
  have HA0 := Lib.hid hA0
  have HB0 := Lib.hid hb0
  have HU0 := Lib.hid hu0
  clear hTT en hb hu0 hA0 hb0 hf ht hx hd hg
  go_enter Tryd.func48, Tryd.ntmps48
  go_wp2_with (first | (rw [← HU0.out]) | fail)
  refine HV.out.mono ?_
  rintro o w1 ⟨rfl, hb⟩
  have HA1 := Lib.hid (HA0.out.next hb)
  have HB1 := Lib.hid (below_next HB0.out hb (Nat.le_refl _))
  clear hb HA0 HB0 HV HU0
  cases b with
  | false =>
    obtain rfl : T = ⟨#[]⟩ := by rw [← HT.out, houText, ← HOB.out, if_neg (by decide)]
    go_wp2_with fail
    go_ret
    exact ⟨rfl, HB1.out⟩
  | true =>
    obtain rfl : T = bsJ (houT xs t x d) := by rw [← HT.out, houText, ← HOB.out, if_pos rfl]
    go_wp2_with fail
    refine (l05Text_any (some ⟨g, 0, none⟩) n c xs t x d En.out HOB.out.symm w.heap.size _ HA1.out (HG.out _ HB1.out)).mono ?_
    rintro o u2 ⟨rfl, hb⟩
    have HB2 := Lib.hid (below_next HB1.out hb (Nat.le_refl _))
    clear hb
    go_wp2_with fail
    go_ret
    exact ⟨rfl, HB2.out⟩
end Go.Proofs.YtjfimmfnhlimkaaDoor.hou
