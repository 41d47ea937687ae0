/-
  Where a sheet lies, the program's and the model's.
-/
import Derived.Test.YtdcckdfemelbiaaDoorCupS
import Derived.Test.YtdcckdfemelbiaaDoorCupI
import Derived.Test.YtdcckdfemelbiaaDoorJoin15
import Derived.Deep.QuietTactic
import Derived.BigQuiet
namespace Go.Proofs.YtdcckdfemelbiaaDoor.cup
open Go Go.RowKit sl errs fold rows

/-- the first place of a number in a list -/
structure At1 (xs : List Int) (s : Int) (I : Nat) : Prop where
  here : xs[I]? = some s
  first : ∀ j, j < I → xs[j]? ≠ some s
theorem At1.unique {xs : List Int} {s : Int} {I J : Nat} (h : At1 xs s I) (k : At1 xs s J) : I = J := by
  rcases Nat.lt_trichotomy I J with h1 | h1 | h1
  · exact absurd h.here (k.first I h1)
  · exact h1
  · exact absurd k.here (h.first J h1)
theorem At1.mem {xs : List Int} {s : Int} {I : Nat} (h : At1 xs s I) : s ∈ xs := List.mem_of_getElem? h.here
theorem at1_of_mem {xs : List Int} {s : Int} (h : s ∈ xs) : ∃ I, At1 xs s I := by
  induction xs with
  | nil => simp at h
  | cons x r ih =>
    by_cases e : x = s
    · exact ⟨0, by simp [e], fun j hj => absurd hj (by omega)⟩
    · have h2 : s ∈ r := by
        rcases List.mem_cons.1 h with h3 | h3
        · exact absurd h3.symm e
        · exact h3
      obtain ⟨I, hI⟩ := ih h2
      refine ⟨I + 1, by simpa using hI.here, fun j hj => ?_⟩
      cases j with
      | zero => simpa using e
      | succ j => simpa using hI.first j (by omega)
/-- the first place of a number in rows -/
structure Found (xss : List (List Int)) (s : Int) (P I : Nat) : Prop where
  here : ∃ xs, xss[P]? = some xs ∧ At1 xs s I
  before : ∀ q ys, q < P → xss[q]? = some ys → s ∉ ys
theorem Found.unique {xss : List (List Int)} {s : Int} {P I Q J : Nat} (h : Found xss s P I) (k : Found xss s Q J) : P = Q ∧ I = J := by
  obtain ⟨xs, hx, h1⟩ := h.here
  obtain ⟨ys, hy, k1⟩ := k.here
  have e : P = Q := by
    rcases Nat.lt_trichotomy P Q with h2 | h2 | h2
    · exact absurd h1.mem (k.before P xs h2 hx)
    · exact h2
    · exact absurd k1.mem (h.before Q ys h2 hy)
  subst e
  rw [hx] at hy
  obtain rfl := Option.some.inj hy
  exact ⟨rfl, h1.unique k1⟩
theorem below_drewN' {B : Nat} {a w : World} {n : Nat} (h : Below B a w) : Below B a (w.drewN n) := ⟨h.os, h.tape, h.output, h.size, h.block⟩
def NotIn (xss : List (List Int)) (s : Int) : Prop := ∀ ys ∈ xss, s ∉ ys
theorem found_or (xss : List (List Int)) (s : Int) : (∃ P I, Found xss s P I) ∨ NotIn xss s := by
  induction xss with
  | nil => exact .inr fun ys h => by simp at h
  | cons xs r ih =>
    by_cases h : s ∈ xs
    · obtain ⟨I, hI⟩ := at1_of_mem h
      exact .inl ⟨0, I, ⟨xs, rfl, hI⟩, fun q ys hq => absurd hq (by omega)⟩
    · rcases ih with ⟨P, I, ⟨ys, hy, hI⟩, hb⟩ | hn
      · refine .inl ⟨P + 1, I, ⟨ys, by simpa using hy, hI⟩, fun q zs hq hz => ?_⟩
        cases q with
        | zero =>
          simp only [List.getElem?_cons_zero, Option.some.injEq] at hz
          rw [← hz]
          exact h
        | succ q => exact hb q zs (by omega) (by simpa using hz)
      · refine .inr fun ys hy => ?_
        rcases List.mem_cons.1 hy with rfl | h2
        · exact h
        · exact hn ys h2
theorem Found.not {xss : List (List Int)} {s : Int} {P I : Nat} (h : Found xss s P I) : ¬ NotIn xss s := fun hn => by
  obtain ⟨xs, hx, h1⟩ := h.here
  exact hn xs (List.mem_of_getElem? hx) h1.mem
abbrev two64 (a b : Int) : Value := .tuple #[.int .i64 a, .int .i64 b]
set_option maxRecDepth 100000 in
set_option maxHeartbeats 4000000 in
theorem l04Where_any (A : Option Addr) (n c : Nat) (rs : List Rw) (s : Int) (en : n = rs.length) (hn : n ≤ 9223372036854775807) (w : World) (hg : SS w w.heap.size A rs) (p i : Int)
    (hw : (∀ P I : Nat, Found (nums rs) s P I → p = P ∧ i = I) ∧ (NotIn (nums rs) s → p = -1 ∧ i = 0)) :
    Calls Tryd.prog 64 #[.slice A n c, .int .i64 s] w fun o w' => o = .returned (two64 p i) ∧ Below w.heap.size w w' := by
  have En := Lib.hid en
  have HW := Lib.hid hw
  clear en hw
  go_enter Tryd.func64, Tryd.ntmps64
  go_wp2_with fail
  go_loopw [6, 7] (fun vp _ wr => ∃ q : Nat, q ≤ n ∧ vp = .int .i64 q ∧ (∀ j ys, j < q → (nums rs)[j]? = some ys → s ∉ ys) ∧ Below w.heap.size w wr) (fun vp _ _ => n - (intOf vp).toNat)
  case atStart => exact ⟨0, by omega, rfl, fun j ys hj => absurd hj (by omega), Below.refl _ _⟩
  case round =>
    obtain ⟨q, hq, rfl, hno, hB⟩ := hrel
    have HNO := Lib.hid hno
    have HB := Lib.hid hB
    clear hno hB
    obtain ⟨wo, hwo⟩ : ∃ wo : World, wo = wr := ⟨_, rfl⟩
    subst hwo
    by_cases hlt : q < n
    · obtain ⟨r, hr⟩ : ∃ r, rs[q]? = some r := ⟨rs[q]'(by have := En.out; omega), List.getElem?_eq_getElem _⟩
      have hm := List.mem_of_getElem? hr
      have hsh := hg.short r hm
      unfold maxLen at hsh
      have HX : Hid ((nums rs)[q]? = some r.xs) := Lib.hid (by simp [nums, hr])
      obtain ⟨a, rfl, hab, _⟩ := hg.head hr
      have QA := Lib.hid (fun (u : World) (hu : Below w.heap.size w u) => by
        obtain ⟨a', e', _, q⟩ := (hg.below hu).head hr
        obtain rfl := Option.some.inj e'
        exact q)
      have SA := Lib.hid (fun (u : World) (hu : Below w.heap.size w u) => ((hg.below hu).more hu.size).each r hm)
      clear hr hm
      go_wp2_with fail
      go_loopw [7] (fun vi wr => ∃ j : Nat, j ≤ r.xs.length ∧ vi = .int .i64 j ∧ (∀ t, t < j → r.xs[t]? ≠ some s) ∧ Below w.heap.size w wr) (fun vi _ => r.xs.length - (intOf vi).toNat)
      case atStart => exact ⟨0, by omega, rfl, fun t ht => absurd ht (by omega), HB.out⟩
      case round =>
        clear HB
        obtain ⟨j, hj, rfl, hf, hB⟩ := hrel
        have HF := Lib.hid hf
        have HB := Lib.hid hB
        have q0 := QA.out _ hB
        clear hf hB
        by_cases hjt : j < r.xs.length
        · obtain ⟨x, hx⟩ : ∃ x, r.xs[j]? = some x := ⟨r.xs[j], List.getElem?_eq_getElem _⟩
          obtain ⟨ra, hra, hrb, hat⟩ := (SA.out _ HB.out).at_ j x hx
          have q1 := intS.at_ hat
          rw [hra] at q0
          have HXI := Lib.hid hx
          clear hx hat hra
          by_cases hxs : x = s
          · have hF : Found (nums rs) s q j := ⟨⟨r.xs, HX.out, by rw [HXI.out, hxs], HF.out⟩, HNO.out⟩
            obtain ⟨rfl, rfl⟩ := HW.out.1 q j hF
            clear hF
            subst hxs
            go_wp2_with fail
            go_ret2
            exact ⟨rfl, HB.out⟩
          · have hne : (x == s) = false := by rw [beq_eq_false_iff_ne]; exact hxs
            have HXS := Lib.hid hxs
            clear hxs
            go_wp2_with fail
            go_roundw
            case rel => exact ⟨j + 1, by omega, by go_num, fun t ht => by
              rcases Nat.lt_or_ge t j with h1 | h1
              · exact HF.out t h1
              · obtain rfl : t = j := by omega
                rw [HXI.out]
                exact fun e => HXS.out (Option.some.inj e), HB.out⟩
            case measure => simp [intOf]; omega
        · obtain rfl : j = r.xs.length := by omega
          go_wp2_with fail
          go_roundw
          case rel => exact ⟨q + 1, by omega, by go_num, fun t ys ht hy => by
            rcases Nat.lt_or_ge t q with h1 | h1
            · exact HNO.out t ys h1 hy
            · obtain rfl : t = q := by omega
              rw [HX.out] at hy
              obtain rfl := Option.some.inj hy
              intro hs
              obtain ⟨k, hk⟩ := List.mem_iff_getElem?.1 hs
              exact HF.out k (List.getElem?_eq_some_iff.1 hk).1 hk, HB.out⟩
          case measure => simp [intOf]; omega
    · obtain rfl : q = n := by omega
      obtain ⟨rfl, rfl⟩ := HW.out.2 (fun ys hy => by
        obtain ⟨k, hk⟩ := List.mem_iff_getElem?.1 hy
        exact HNO.out k ys (by have := (List.getElem?_eq_some_iff.1 hk).1; simp only [nums, List.length_map] at this; have := En.out; omega) hk)
      go_wp2_with fail
      go_ret2
      exact ⟨rfl, HB.out⟩
set_option maxHeartbeats 1000000 in
theorem Index_any (A : Option Addr) (n c : Nat) (xs : List Int) (s : Int) (en : n = xs.length) (hn : n ≤ 9223372036854775807) (w : World) (B : Nat) (hg : Sl intS.C 1 w B A xs) (z : Int) (hz : (∀ I : Nat, At1 xs s I → z = I) ∧ (s ∉ xs → z = -1)) :
    Calls Tryd.prog 125 #[.slice A n c, .int .i64 s] w fun o w' => o = .returned (.int .i64 z) ∧ w = w' := by
  have En := Lib.hid en
  have HZ := Lib.hid hz
  clear en hz
  go_enter Tryd.func125, Tryd.ntmps125
  go_wp2_with fail
  go_loop [8, 5] (fun vi _ => ∃ k : Nat, k ≤ n ∧ vi = .int .i64 k ∧ ∀ j, j < k → xs[j]? ≠ some s) (fun vi _ => n - (intOf vi).toNat)
  case atStart => exact ⟨0, by omega, rfl, fun j hj => absurd hj (by omega)⟩
  case round =>
    obtain ⟨k, hk, rfl, hno⟩ := hrel
    have HN := Lib.hid hno
    clear hno
    by_cases hlt : k < n
    · obtain ⟨y, hy⟩ : ∃ y, xs[k]? = some y := ⟨xs[k]'(by have := En.out; omega), List.getElem?_eq_getElem _⟩
      obtain ⟨a, rfl, hab, hat⟩ := hg.at_ k y hy
      have q0 := intS.at_ hat
      have HY := Lib.hid hy
      clear hy hat
      by_cases hxy : y = s
      · obtain rfl : z = k := HZ.out.1 k ⟨by rw [HY.out, hxy], HN.out⟩
        subst hxy
        go_wp2_with fail
        go_ret
        exact ⟨rfl, rfl⟩
      · have hne : (s == y) = false := by rw [beq_eq_false_iff_ne]; exact fun e => hxy e.symm
        have HXY := Lib.hid hxy
        clear hxy
        go_wp2_with fail
        go_round
        case rel => exact ⟨k + 1, by omega, by go_num, fun i hi => by
          rcases Nat.lt_or_ge i k with h1 | h1
          · exact HN.out i h1
          · obtain rfl : i = k := by omega
            rw [HY.out]
            exact fun e => HXY.out (Option.some.inj e)⟩
        case measure => simp [intOf]; omega
    · obtain rfl : k = n := by omega
      obtain rfl : z = -1 := HZ.out.2 (fun hm => by
        obtain ⟨i, hi⟩ := List.mem_iff_getElem?.1 hm
        exact HN.out i (by have := (List.getElem?_eq_some_iff.1 hi).1; have := En.out; omega) hi)
      go_wp2_with fail
      go_ret
      exact ⟨rfl, rfl⟩
set_option maxRecDepth 100000 in
set_option maxHeartbeats 4000000 in
theorem find_any (A : Option Addr) (n c : Nat) (rs : List Rw) (s : Int) (en : n = rs.length) (hn : n ≤ 9223372036854775807) {w : World} {B : Nat} {e : Nat → Addr} (h : Errs w B e) (hB : B ≤ w.heap.size) (hg : SS w w.heap.size A rs) (p i : Int) (k0 : Nat)
    (hw : (∀ P I : Nat, Found (nums rs) s P I → p = P ∧ i = I ∧ k0 = 0) ∧ (NotIn (nums rs) s → p = 0 ∧ i = 0 ∧ k0 = 6)) :
    Calls Tryd.prog 71 #[givenV A n c, .int .i64 s] w fun o w' => o = .returned (.tuple #[.int .i64 p, .int .i64 i, errOf e k0]) ∧ Below w.heap.size w w' := by
  have En := Lib.hid en
  have HW := Lib.hid hw
  have HE := Lib.hid h
  have hmp := method_piles A n c
  clear en hw h
  go_enter Tryd.func71, Tryd.ntmps71
  go_wp2_with fail
  refine (piles_any A n c _).mono ?_
  rintro o u ⟨rfl, rfl⟩
  clear hmp
  go_wp2_with fail
  go_loopw [13, 7, 8, 9] (fun vp _ _ _ wr => ∃ q : Nat, q ≤ n ∧ vp = .int .i64 q ∧ (∀ j ys, j < q → (nums rs)[j]? = some ys → s ∉ ys) ∧ Below w.heap.size w wr) (fun vp _ _ _ _ => n - (intOf vp).toNat)
  case atStart => exact ⟨0, by omega, rfl, fun j ys hj => absurd hj (by omega), Below.refl _ _⟩
  case round =>
    obtain ⟨q, hq, rfl, hno, hB1⟩ := hrel
    have HNO := Lib.hid hno
    have HB := Lib.hid hB1
    clear hno hB1
    by_cases hlt : q < n
    · obtain ⟨r, hr⟩ : ∃ r, rs[q]? = some r := ⟨rs[q]'(by have := En.out; omega), List.getElem?_eq_getElem _⟩
      have hm := List.mem_of_getElem? hr
      have hsh := hg.short r hm
      unfold maxLen at hsh
      have HX : Hid ((nums rs)[q]? = some r.xs) := Lib.hid (by simp [nums, hr])
      obtain ⟨a, rfl, hab, q0⟩ := (hg.below HB.out).head hr
      have HS := Lib.hid (((hg.below HB.out).more HB.out.size).each r hm)
      clear hr hm
      by_cases hs : s ∈ r.xs
      · obtain ⟨I, hI⟩ := at1_of_mem hs
        obtain ⟨rfl, rfl, rfl⟩ := HW.out.1 q I ⟨⟨r.xs, HX.out, hI⟩, HNO.out⟩
        have HI := Lib.hid hI
        clear hI hs
        go_wp2_with fail
        refine (Index_any r.A r.xs.length r.c r.xs s rfl (by omega) _ _ HS.out (I : Int) ⟨fun J hJ => by rw [HI.out.unique hJ], fun h => absurd HI.out.mem h⟩).mono ?_
        rintro o u ⟨rfl, rfl⟩
        go_wp2_with fail
        go_ret3
        exact ⟨rfl, HB.out⟩
      · have HNS := Lib.hid hs
        clear hs
        go_wp2_with fail
        refine (Index_any r.A r.xs.length r.c r.xs s rfl (by omega) _ _ HS.out (-1) ⟨fun J hJ => absurd hJ.mem HNS.out, fun _ => rfl⟩).mono ?_
        rintro o u ⟨rfl, rfl⟩
        go_wp2_with fail
        go_roundw
        case rel => exact ⟨q + 1, by omega, by go_num, fun t ys ht hy => by
          rcases Nat.lt_or_ge t q with h1 | h1
          · exact HNO.out t ys h1 hy
          · obtain rfl : t = q := by omega
            rw [HX.out] at hy
            obtain rfl := Option.some.inj hy
            exact HNS.out, HB.out⟩
        case measure => simp [intOf]; omega
    · obtain rfl : q = n := by omega
      obtain ⟨rfl, rfl, rfl⟩ := HW.out.2 (fun ys hy => by
        obtain ⟨k, hk⟩ := List.mem_iff_getElem?.1 hy
        exact HNO.out k ys (by have := (List.getElem?_eq_some_iff.1 hk).1; simp only [nums, List.length_map] at this; have := En.out; omega) hk)
      have c5 := (HE.out.below (HB.out.mono hB)).c5
      go_wp2_with fail
      go_quiet (fail)
      go_wp2_with fail
      go_ret3
      exact ⟨rfl, below_drewN' HB.out⟩
/-- what is found, and the code -/
structure FR (xss : List (List Int)) (s p i : Int) (k : Nat) : Prop where
  bad : ¬ CupOk xss → p = 0 ∧ i = 0 ∧ k = 1
  ok : CupOk xss → (∀ P I : Nat, Found xss s P I → p = P ∧ i = I ∧ k = 0) ∧ (NotIn xss s → p = 0 ∧ i = 0 ∧ k = 6)
theorem FR.exists (xss : List (List Int)) (s : Int) : ∃ p i k, FR xss s p i k := by
  by_cases hc : CupOk xss
  · rcases found_or xss s with ⟨P, I, h⟩ | h
    · exact ⟨P, I, 0, ⟨fun h => absurd hc h, fun _ => ⟨fun Q J k => by obtain ⟨rfl, rfl⟩ := h.unique k; exact ⟨rfl, rfl, rfl⟩, fun hn => absurd hn h.not⟩⟩⟩
    · exact ⟨0, 0, 6, ⟨fun h => absurd hc h, fun _ => ⟨fun Q J k => absurd h k.not, fun _ => ⟨rfl, rfl, rfl⟩⟩⟩⟩
  · exact ⟨0, 0, 1, ⟨fun _ => ⟨rfl, rfl, rfl⟩, fun h => absurd h hc⟩⟩
abbrev three (p i : Int) (k : Nat) : Value := .tuple #[.int .i64 p, .int .i64 i, .int .i64 k]
end Go.Proofs.YtdcckdfemelbiaaDoor.cup
