/-
  Several texts of this proof, joined.
-/
import Derived.Test.YtdcckdfemelbiaaDoorJoin11
import Derived.Test.YtdcckdfemelbiaaDoorStkPieces
import Derived.Test.YtdcckdfemelbiaaDoorJoin7
import Derived.Test.YtdcckdfemelbiaaDoorWithinR
import Derived.Test.YtdcckdfemelbiaaDoorJoin19
import Derived.Test.YtdcckdfemelbiaaDoorJoin18
import Derived.Test.YtdcckdfemelbiaaDoorJoin9
import Derived.ArgAppend
import Derived.DataElems
import Derived.Test.YtdcckdfemelbiaaDoorJoin25
import Derived.Stop.Asserts
import Derived.Test.YtdcckdfemelbiaaDoorJoin16
/-
  Valid houses, the program's and the model's.
-/
namespace Go.Proofs.YtdcckdfemelbiaaDoor.hou
open Go Go.RowKit sl row stk errs fold

/-- are the numbers of a house that do not tell of its pieces as told -/
def numsOk (n : Nat) (t e d : Int) : Bool := inB (n : Int) 1 4 && (inB t 0 1000 && (inB e 1 7 && inB d 0 60))
theorem numsOk_iff {n : Nat} {t e d : Int} : numsOk n t e d = true ↔ (1 ≤ n ∧ n ≤ 4) ∧ (0 ≤ t ∧ t ≤ 1000) ∧ (1 ≤ e ∧ e ≤ 7) ∧ 0 ≤ d ∧ d ≤ 60 := by
  simp only [numsOk, Bool.and_eq_true, inB_iff]
  omega
def houOk (xs : List Stk) (t e d : Int) : Bool := numsOk xs.length t e d && xs.all validS
set_option maxRecDepth 100000 in
set_option maxHeartbeats 4000000 in
theorem checkNums_any (n t x d : Int) {w : World} {B : Nat} {e : Nat → Addr} (h : ER w B (e 1)) (_hB : B ≤ w.heap.size) (k0 : Nat) (hk : k0 = if (1 ≤ n ∧ n ≤ 4) ∧ (0 ≤ t ∧ t ≤ 1000) ∧ (1 ≤ x ∧ x ≤ 7) ∧ 0 ≤ d ∧ d ≤ 60 then 0 else 2) :
    Calls Tryd.prog 113 #[.int .i64 n, .int .i64 t, .int .i64 x, .int .i64 d] w fun o w' => o = .returned (errOf e k0) ∧ Below w.heap.size w w' := by
  have HE := Lib.hid h
  obtain ⟨k1, hk1⟩ : ∃ k : Nat, k = if 1 ≤ n ∧ n ≤ 4 then 0 else 2 := ⟨_, rfl⟩
  obtain ⟨k2, hk2⟩ : ∃ k : Nat, k = if 0 ≤ t ∧ t ≤ 1000 then 0 else 2 := ⟨_, rfl⟩
  obtain ⟨k3, hk3⟩ : ∃ k : Nat, k = if 1 ≤ x ∧ x ≤ 7 then 0 else 2 := ⟨_, rfl⟩
  obtain ⟨k4, hk4⟩ : ∃ k : Nat, k = if 0 ≤ d ∧ d ≤ 60 then 0 else 2 := ⟨_, rfl⟩
  have HF : Hid (firstCode [k1, k2, k3, k4] = k0) := Lib.hid (by
    rw [hk]
    by_cases a1 : 1 ≤ n ∧ n ≤ 4
    · by_cases a2 : 0 ≤ t ∧ t ≤ 1000
      · by_cases a3 : 1 ≤ x ∧ x ≤ 7
        · by_cases a4 : 0 ≤ d ∧ d ≤ 60
          · rw [if_pos ⟨a1, a2, a3, a4⟩, hk1, if_pos a1, hk2, if_pos a2, hk3, if_pos a3, hk4, if_pos a4]; rfl
          · rw [if_neg (fun h => a4 h.2.2.2), hk1, if_pos a1, hk2, if_pos a2, hk3, if_pos a3, hk4, if_neg a4]; rfl
        · rw [if_neg (fun h => a3 h.2.2.1), hk1, if_pos a1, hk2, if_pos a2, hk3, if_neg a3]; rfl
      · rw [if_neg (fun h => a2 h.2.1), hk1, if_pos a1, hk2, if_neg a2]; rfl
    · rw [if_neg (fun h => a1 h.1), hk1, if_neg a1]; rfl)
  have HK1 := Lib.hid hk1
  have HK2 := Lib.hid hk2
  have HK3 := Lib.hid hk3
  have HK4 := Lib.hid hk4
  clear hk1 hk2 hk3 hk4 hk h
  go_enter Tryd.func113, Tryd.ntmps113
  go_wp2_with fail
  refine (checkWithin_er n 1 4 HE.out).mono ?_
  rintro o u ⟨rfl, rfl⟩
  rw [← HK1.out]
  go_wp2_with fail
  refine (checkWithin_er t 0 1000 HE.out).mono ?_
  rintro o u ⟨rfl, rfl⟩
  rw [← HK2.out]
  go_wp2_with fail
  refine (checkWithin_er x 1 7 HE.out).mono ?_
  rintro o u ⟨rfl, rfl⟩
  rw [← HK3.out]
  go_wp2_with fail
  refine (checkWithin_er d 0 60 HE.out).mono ?_
  rintro o u ⟨rfl, rfl⟩
  rw [← HK4.out]
  go_wp2_with (refine wpList_listed rfl 156 4 _ rfl #[(0, errOf e k1), (1, errOf e k2), (2, errOf e k3), (3, errOf e k4)] ?hp (buildSlice4 e k1 k2 k3 k4 _) ?_; case hp => simp [Act.eval])
  refine (firstOf_any e [k1, k2, k3, k4] _ 4 4 rfl (by decide) _ (cells_errs e [k1, k2, k3, k4] w 80 #[errOf e k1, errOf e k2, errOf e k3, errOf e k4] rfl)).mono ?_
  rintro o w3 ⟨rfl, rfl⟩
  rw [HF.out]
  go_wp2_with fail
  go_ret
  exact ⟨rfl, (Below.refl _ _).alloc (Nat.le_refl _) _⟩
set_option maxRecDepth 100000 in
set_option maxHeartbeats 4000000 in
theorem notValid_any (f : Stk) (hf : Fits f) (w : World) :
    Calls Tryd.prog 164 #[stkV f] w fun o w' => o = .returned (.bool (!validS f)) ∧ Below w.heap.size w w' := by
  have H0 := Lib.hid (StkOwn.new w f 179).toRowAt
  have B0 : Hid (Below w.heap.size w (w.alloc (.cells (stkCs f) 179))) := Lib.hid ((Below.refl _ _).alloc (Nat.le_refl _) _)
  go_enter Tryd.func164, Tryd.ntmps164
  go_wp2_with (refine wpl_load_stk rfl (.tmp 1) rfl w.heap.size 0 rfl H0.out ?_)
  refine (ValidStock_any f hf _).mono ?_
  rintro o w1 ⟨rfl, hb⟩
  have HB := Lib.hid (below_next B0.out hb (by simp))
  clear hb
  go_wp2_with fail
  go_ret
  exact ⟨rfl, HB.out⟩
set_option maxRecDepth 100000 in
set_option maxHeartbeats 4000000 in
theorem IndexFunc_any (A : Option Addr) (n c : Nat) (xs : List Stk) (en : n = xs.length) (hn : n ≤ 9223372036854775807) (hf : ∀ x ∈ xs, Fits x) (w : World) (hg : Sl stkC 25 w w.heap.size A xs) (b : Bool) (hb : b = xs.all validS) :
    Calls Tryd.prog 174 #[.slice A n c, .func (.func 164) #[] #[]] w fun o w' => (∃ i : Int, o = .returned (.int .i64 i) ∧ decide (0 ≤ i) = !b) ∧ Below w.heap.size w w' := by
  have En := Lib.hid en
  have HBB := Lib.hid hb
  clear en hb
  go_enter Tryd.func174, Tryd.ntmps174
  go_wp2_with fail
  go_loopw [8, 5] (fun vi _ wr => ∃ k : Nat, k ≤ n ∧ vi = .int .i64 k ∧ (∀ (i : Nat) (x : Stk), i < k → xs[i]? = some x → validS x = true) ∧ Below w.heap.size w wr) (fun vi _ _ => n - (intOf vi).toNat)
  case atStart => exact ⟨0, by omega, rfl, fun i x hi => absurd hi (by omega), Below.refl _ _⟩
  case round =>
    obtain ⟨k, hk, rfl, hval, hB⟩ := hrel
    have HV := Lib.hid hval
    have HB := Lib.hid hB
    clear hval hB
    by_cases hlt : k < n
    · obtain ⟨x, hx⟩ : ∃ x, xs[k]? = some x := ⟨xs[k]'(by have := En.out; omega), List.getElem?_eq_getElem _⟩
      obtain ⟨a, rfl, hab, hat⟩ := (hg.below HB.out).at_ k x hx
      have hxf : Fits x := hf x (List.mem_of_getElem? hx)
      have HX := Lib.hid hx
      have HA := Lib.hid hat
      obtain ⟨v, hv⟩ : ∃ v, v = validS x := ⟨_, rfl⟩
      have HVX := Lib.hid hv
      clear hx hat hv
      go_wp2_with (refine wpl_load_at rfl 179 (.tmp 14) rfl (a.add (k * 25)) rfl (stkC x) _ HA.out Tryd.underlying179 rfl (by rw [infoS, lst_len]) ?_)
      refine (notValid_any x hxf _).mono ?_
      rintro o w2 ⟨rfl, hb2⟩
      rw [← HVX.out]
      have HB2 := Lib.hid (below_next HB.out hb2 (Nat.le_refl _))
      clear hb2
      cases v with
      | true =>
        go_wp2_with fail
        go_roundw
        case rel => exact ⟨k + 1, by omega, by go_num, fun i y hi hy => by
          rcases Nat.lt_or_ge i k with h1 | h1
          · exact HV.out i y h1 hy
          · obtain rfl : i = k := by omega
            have := HX.out
            rw [hy] at this
            rw [Option.some.inj this]
            exact HVX.out.symm, HB2.out⟩
        case measure => simp [intOf]; omega
      | false =>
        have hbf : b = false := HBB.out.trans (all_not HX.out HVX.out.symm)
        subst hbf
        go_wp2_with fail
        go_ret
        exact ⟨⟨_, rfl, by simp⟩, HB2.out⟩
    · have hbt : b = true := HBB.out.trans (all_of_idx fun i x hi hx => HV.out i x (by have := En.out; omega) hx)
      subst hbt
      go_wp2_with fail
      go_ret
      exact ⟨⟨-1, rfl, by decide⟩, HB.out⟩
set_option maxHeartbeats 4000000 in
theorem ContainsFunc_any (A : Option Addr) (n c : Nat) (xs : List Stk) (en : n = xs.length) (hn : n ≤ 9223372036854775807) (hf : ∀ x ∈ xs, Fits x) (w : World) (hg : Sl stkC 25 w w.heap.size A xs) (b : Bool) (hb : b = xs.all validS) :
    Calls Tryd.prog 163 #[.slice A n c, .func (.func 164) #[] #[]] w fun o w' => o = .returned (.bool (!b)) ∧ Below w.heap.size w w' := by
  have En := Lib.hid en
  have HBB := Lib.hid hb
  clear en hb
  go_enter Tryd.func163, Tryd.ntmps163
  go_wp2_with fail
  refine (IndexFunc_any A n c xs En.out hn hf _ hg b HBB.out).mono ?_
  rintro o w2 ⟨⟨i, rfl, hi⟩, hb2⟩
  have HI := Lib.hid hi
  have HB := Lib.hid hb2
  clear hi hb2
  go_wp2_with fail
  go_ret
  exact ⟨ret_bool (by rw [← HI.out]), HB.out⟩
set_option maxRecDepth 100000 in
set_option maxHeartbeats 4000000 in
theorem ValidHouse_any (A : Option Addr) (n c : Nat) (xs : List Stk) (t x d : Int) (en : n = xs.length) (hn : n ≤ 1048576) (hf : ∀ x ∈ xs, Fits x) (ht : -32768 ≤ t ∧ t ≤ 32767) (hx : -128 ≤ x ∧ x ≤ 127) (hd : -32768 ≤ d ∧ d ≤ 32767) {w : World} {B : Nat} {e : Nat → Addr} (h : ER w B (e 1)) (hB : B ≤ w.heap.size) (hg : Sl stkC 25 w w.heap.size A xs) (b : Bool) (hb : b = houOk xs t x d) :
    Calls Tryd.prog 143 #[houV (.slice A n c) t x d] w fun o w' => o = .returned (.bool b) ∧ Below w.heap.size w w' := by
  have En := Lib.hid en
  have HBB := Lib.hid hb
  have A0 := HouAt.new w (.slice A n c) t x d 58
  have B0 := Lib.hid ((Below.refl w.heap.size w).alloc (Nat.le_refl _) (.cells #[.slice A n c, .int .i16 t, .int .i8 x, .int .i16 d] 58))
  have HA := Lib.hid A0
  have HE := Lib.hid (h.below (B0.out.mono hB))
  have HB0 : Hid (B ≤ (w.alloc (.cells #[.slice A n c, .int .i16 t, .int .i8 x, .int .i16 d] 58)).heap.size) := Lib.hid (Nat.le_trans hB B0.out.size)
  have w1 : IntKind.i64.wrap t = t := IntWalk.i64_in _ (by omega)
  have w2 : IntKind.i64.wrap x = x := IntWalk.i64_in _ (by omega)
  have w3 : IntKind.i64.wrap d = d := IntWalk.i64_in _ (by omega)
  clear en hb A0 h
  by_cases hnum : (1 ≤ (n : Int) ∧ (n : Int) ≤ 4) ∧ (0 ≤ t ∧ t ≤ 1000) ∧ (1 ≤ x ∧ x ≤ 7) ∧ 0 ≤ d ∧ d ≤ 60
  · have hk : (0 : Nat) = if (1 ≤ (n : Int) ∧ (n : Int) ≤ 4) ∧ (0 ≤ t ∧ t ≤ 1000) ∧ (1 ≤ x ∧ x ≤ 7) ∧ 0 ≤ d ∧ d ≤ 60 then 0 else 2 := (if_pos hnum).symm
    have HK := Lib.hid hk
    have HQ : Hid (b = xs.all validS) := Lib.hid (by
      rw [HBB.out, houOk, numsOk_iff.2 (by have := En.out; omega)]
      rfl)
    clear hk hnum
    go_enter Tryd.func143, Tryd.ntmps143
    go_wp2_with fail
    refine (checkNums_any (n : Int) t x d HE.out HB0.out 0 HK.out).mono ?_
    rintro o u ⟨rfl, hb1⟩
    have HA1 := Lib.hid (HA.out.next hb1)
    have HB1 := Lib.hid (below_next B0.out hb1 (by simp))
    have c0 := HA1.out.c0
    have e2 : errOf e 0 = .nilIface := rfl
    rw [e2]
    clear hb1 e2
    go_wp2_with fail
    refine (ContainsFunc_any A n c xs En.out (by omega) hf _ ((hg.below HB1.out).more HB1.out.size) b HQ.out).mono ?_
    rintro o u2 ⟨rfl, hb2⟩
    have HB2 := Lib.hid (below_next HB1.out hb2 (Nat.le_refl _))
    clear hb2
    go_wp2_with fail
    go_ret
    exact ⟨by simp, HB2.out⟩
  · have hk : (2 : Nat) = if (1 ≤ (n : Int) ∧ (n : Int) ≤ 4) ∧ (0 ≤ t ∧ t ≤ 1000) ∧ (1 ≤ x ∧ x ≤ 7) ∧ 0 ≤ d ∧ d ≤ 60 then 0 else 2 := (if_neg hnum).symm
    have HK := Lib.hid hk
    have hbf : b = false := by
      rw [HBB.out, houOk]
      cases hq : numsOk xs.length t x d with
      | false => rfl
      | true => exact absurd (numsOk_iff.1 hq) (by have := En.out; omega)
    subst hbf
    clear hk hnum
    go_enter Tryd.func143, Tryd.ntmps143
    go_wp2_with fail
    refine (checkNums_any (n : Int) t x d HE.out HB0.out 2 HK.out).mono ?_
    rintro o u ⟨rfl, hb1⟩
    have HB1 := Lib.hid (below_next B0.out hb1 (by simp))
    have e2 : errOf e 2 = errV (e 1) := rfl
    rw [e2]
    clear hb1 e2
    go_wp2_with fail
    go_ret
    exact ⟨rfl, HB1.out⟩
theorem l00In_w (n lo hi : Int) (b : Bool) (hb : inB n lo hi = b) (w : World) :
    Calls Tryd.prog 87 #[.int .i64 n, .int .i64 lo, .int .i64 hi] w fun o w' => o = .returned (.bool b) ∧ w' = w := (stk.l00In_b n lo hi b hb w).mono fun _ _ ⟨a, b⟩ => ⟨a, b.symm⟩
theorem l05Tub_w (t x : Int) (b1 b2 b : Bool) (h1 : inB t 0 1000 = b1) (h2 : inB x 1 7 = b2) (hb : b = (b1 && b2)) (w : World) :
    Calls Tryd.prog 110 #[.int .i64 t, .int .i64 x] w fun o w' => o = .returned (.bool b) ∧ w' = w := by
  have H1 := Lib.hid h1
  have H2 := Lib.hid h2
  subst hb
  clear h1 h2
  cases b1 with
  | false =>
    go_enter Tryd.func110, Tryd.ntmps110
    go_wp2_with fail
    refine (l00In_w t 0 1000 false H1.out _).mono ?_
    rintro o u ⟨rfl, hu⟩
    obtain rfl := hu.symm
    go_wp2_with fail
    go_ret
    exact ⟨rfl, rfl⟩
  | true =>
    go_enter Tryd.func110, Tryd.ntmps110
    go_wp2_with fail
    refine (l00In_w t 0 1000 true H1.out _).mono ?_
    rintro o u ⟨rfl, hu⟩
    obtain rfl := hu.symm
    go_wp2_with fail
    refine (l00In_w x 1 7 b2 H2.out _).mono ?_
    rintro o u2 ⟨rfl, hu2⟩
    obtain rfl := hu2.symm
    go_wp2_with fail
    go_ret
    exact ⟨by simp, rfl⟩
theorem Sl.stk {u : World} {B g : Nat} {xs : List Stk} (h : Sl stkC 25 u B (some ⟨g, 0, none⟩) xs) (hB : B ≤ u.heap.size) {k : Nat} {y : Stk} (hy : xs[k]? = some y) : StkAt u g (k * 25) y := by
  obtain ⟨a, ha, hab, hat⟩ := h.at_ k y hy
  obtain rfl := Option.some.inj ha
  refine ⟨Nat.lt_of_lt_of_le hab hB, fun j hj => ?_⟩
  have := hat j _ (lst_get _ hj)
  rwa [add_lit, add_at] at this
set_option maxRecDepth 100000 in
set_option maxHeartbeats 4000000 in
theorem l05Ok_any (g : Nat) (n c : Nat) (xs : List Stk) (t x d : Int) (en : n = xs.length) (hn : n ≤ 1048576) (hf : ∀ x ∈ xs, Fits x) (ht : -32768 ≤ t ∧ t ≤ 32767) (hx : -128 ≤ x ∧ x ≤ 127) (hd : -32768 ≤ d ∧ d ≤ 32767) (hb0 : Nat) (w : World) (hA : HouAt w hb0 (.slice (some ⟨g, 0, none⟩) n c) t x d) (hg : Sl stkC 25 w w.heap.size (some ⟨g, 0, none⟩) xs) (b : Bool) (hb : b = houOk xs t x d) :
    Calls Tryd.prog 96 #[.pointer (some ⟨hb0, 0, none⟩)] w fun o w' => o = .returned (.bool b) ∧ Below w.heap.size w w' := by
  have En := Lib.hid en
  have HBB := Lib.hid hb
  have HA := Lib.hid hA
  have w1 : IntKind.i64.wrap t = t := IntWalk.i64_in _ (by omega)
  have w2 : IntKind.i64.wrap x = x := IntWalk.i64_in _ (by omega)
  have w3 : IntKind.i64.wrap d = d := IntWalk.i64_in _ (by omega)
  have c0 := hA.c0
  obtain ⟨b1, h1⟩ : ∃ b, inB (n : Int) 1 4 = b := ⟨_, rfl⟩
  obtain ⟨b2, h2⟩ : ∃ b, inB t 0 1000 = b := ⟨_, rfl⟩
  obtain ⟨b3, h3⟩ : ∃ b, inB x 1 7 = b := ⟨_, rfl⟩
  obtain ⟨b4, h4⟩ : ∃ b, inB d 0 60 = b := ⟨_, rfl⟩
  have HNO : Hid (numsOk xs.length t x d = (b1 && (b2 && (b3 && b4)))) := Lib.hid (by rw [numsOk, ← en, h1, h2, h3, h4])
  have H1 := Lib.hid h1
  have H2 := Lib.hid h2
  have H3 := Lib.hid h3
  have H4 := Lib.hid h4
  clear en hb hA h1 h2 h3 h4
  go_enter Tryd.func96, Tryd.ntmps96
  go_wp2_with fail
  go_loopw [3] (fun vi wr => ∃ k : Nat, k ≤ n ∧ vi = .int .i64 k ∧ (∀ (i : Nat) (x : Stk), i < k → xs[i]? = some x → validS x = true) ∧ Below w.heap.size w wr) (fun vi _ => n - (intOf vi).toNat)
  case atStart => exact ⟨0, by omega, rfl, fun i x hi => absurd hi (by omega), Below.refl _ _⟩
  case round =>
    obtain ⟨k, hk, rfl, hval, hB⟩ := hrel
    have HV := Lib.hid hval
    have HB := Lib.hid hB
    clear hval hB c0
    have hAk := HA.out.next HB.out
    have c0 := hAk.c0
    have c1 := hAk.c1
    have c2 := hAk.c2
    have c3 := hAk.c3
    clear hAk
    by_cases hlt : k < n
    · obtain ⟨y, hy⟩ : ∃ y, xs[k]? = some y := ⟨xs[k]'(by have := En.out; omega), List.getElem?_eq_getElem _⟩
      have hat := Sl.stk (hg.below HB.out) HB.out.size hy
      have hyf : Fits y := hf y (List.mem_of_getElem? hy)
      have HY := Lib.hid hy
      have HAT := Lib.hid hat
      obtain ⟨v, hv⟩ : ∃ v, v = validS y := ⟨_, rfl⟩
      have HVY := Lib.hid hv
      clear hy hat hv
      go_wp2_with fail
      refine (l05Stock_any y hyf g (k * 25) _ HAT.out).mono ?_
      rintro o w2 ⟨rfl, hb2⟩
      rw [← HVY.out]
      have HB2 := Lib.hid (below_next HB.out hb2 (Nat.le_refl _))
      clear hb2
      cases v with
      | true =>
        go_wp2_with fail
        go_roundw
        case rel => exact ⟨k + 1, by omega, by go_num, fun i z hi hz => by
          rcases Nat.lt_or_ge i k with h1 | h1
          · exact HV.out i z h1 hz
          · obtain rfl : i = k := by omega
            have := HY.out
            rw [hz] at this
            rw [Option.some.inj this]
            exact HVY.out.symm, HB2.out⟩
        case measure => simp [intOf]; omega
      | false =>
        have hbf : b = false := by rw [HBB.out, houOk, all_not HY.out HVY.out.symm, Bool.and_false]
        subst hbf
        go_wp2_with fail
        go_ret
        exact ⟨rfl, HB2.out⟩
    · obtain rfl : k = n := by omega
      obtain ⟨va, hva⟩ : ∃ v, v = xs.all validS := ⟨_, rfl⟩
      have hvt : xs.all validS = true := all_of_idx fun i x hi hx => HV.out i x (by have := En.out; omega) hx
      have HBF : Hid (b = (b1 && (b2 && (b3 && b4)))) := Lib.hid (by rw [HBB.out, houOk, hvt, HNO.out, Bool.and_true])
      clear hva hvt
      cases b1 with
      | false =>
        obtain rfl : b = false := HBF.out.trans (by simp)
        go_wp2_with fail
        go_quiet (((go_at_call 87; exact Calls.quiet_of_same (l00In_w _ _ _ false H1.out _))))
        go_wp2_with fail
        go_ret
        exact ⟨by first | rfl | simp, HB.out.trans (below_drewN _ _ _)⟩
      | true =>
        cases b2 with
        | false =>
          obtain rfl : b = false := HBF.out.trans (by simp)
          go_wp2_with fail
          go_quiet ((first | (go_at_call 87; exact Calls.quiet_of_same (l00In_w _ _ _ true H1.out _)) | (go_at_call 110; exact Calls.quiet_of_same (l05Tub_w t x false b3 false H2.out H3.out (by simp) _))))
          go_wp2_with fail
          go_ret
          exact ⟨by first | rfl | simp, HB.out.trans (below_drewN _ _ _)⟩
        | true =>
          cases b3 with
          | false =>
            obtain rfl : b = false := HBF.out.trans (by simp)
            go_wp2_with fail
            go_quiet ((first | (go_at_call 87; exact Calls.quiet_of_same (l00In_w _ _ _ true H1.out _)) | (go_at_call 110; exact Calls.quiet_of_same (l05Tub_w t x true false false H2.out H3.out (by simp) _))))
            go_wp2_with fail
            go_ret
            exact ⟨by first | rfl | simp, HB.out.trans (below_drewN _ _ _)⟩
          | true =>
            cases b4 with
            | false =>
              obtain rfl : b = false := HBF.out.trans (by simp)
              go_wp2_with fail
              go_quiet ((first | (go_at_call 87; exact Calls.quiet_of_same (l00In_w _ _ _ _ (by first | exact H1.out | exact H4.out) _)) | (go_at_call 110; exact Calls.quiet_of_same (l05Tub_w t x true true true H2.out H3.out (by simp) _))))
              go_wp2_with fail
              go_ret
              exact ⟨by first | rfl | simp, HB.out.trans (below_drewN _ _ _)⟩
            | true =>
              obtain rfl : b = true := HBF.out.trans (by simp)
              go_wp2_with fail
              go_quiet ((first | (go_at_call 87; exact Calls.quiet_of_same (l00In_w _ _ _ _ (by first | exact H1.out | exact H4.out) _)) | (go_at_call 110; exact Calls.quiet_of_same (l05Tub_w t x true true true H2.out H3.out (by simp) _))))
              go_wp2_with fail
              go_ret
              exact ⟨by first | rfl | simp, HB.out.trans (below_drewN _ _ _)⟩
end Go.Proofs.YtdcckdfemelbiaaDoor.hou

/-
  A house and one of its kinds looked at: checkHouse, checkKind.
-/
namespace Go.Proofs.YtdcckdfemelbiaaDoor.hou
open Go Go.RowKit sl row stk errs fold

def codeO (xs : List Stk) (t e d : Int) : Nat := if houOk xs t e d = true then 0 else 1
set_option maxRecDepth 100000 in
set_option maxHeartbeats 4000000 in
theorem checkHouse_any (A : Option Addr) (n c : Nat) (xs : List Stk) (t x d : Int) (en : n = xs.length) (hn : n ≤ 1048576) (hf : ∀ x ∈ xs, Fits x) (ht : -32768 ≤ t ∧ t ≤ 32767) (hx : -128 ≤ x ∧ x ≤ 127) (hd : -32768 ≤ d ∧ d ≤ 32767) {w : World} {B : Nat} {e : Nat → Addr} (h : Errs w B e) (hB : B ≤ w.heap.size) (hg : Sl stkC 25 w w.heap.size A xs) (k0 : Nat) (hk : k0 = codeO xs t x d) :
    Calls Tryd.prog 100 #[houV (.slice A n c) t x d] w fun o w' => o = .returned (errOf e k0) ∧ Below w.heap.size w w' := by
  have HA := Lib.hid (HouAt.new w (.slice A n c) t x d 58)
  have B0 := Lib.hid ((Below.refl w.heap.size w).alloc (Nat.le_refl _) (.cells #[.slice A n c, .int .i16 t, .int .i8 x, .int .i16 d] 58))
  have HE := Lib.hid (h.below (B0.out.mono hB))
  have HB0 : Hid (B ≤ (w.alloc (.cells #[.slice A n c, .int .i16 t, .int .i8 x, .int .i16 d] 58)).heap.size) := Lib.hid (Nat.le_trans hB B0.out.size)
  obtain ⟨b, hb⟩ : ∃ b, b = houOk xs t x d := ⟨_, rfl⟩
  rw [codeO, ← hb] at hk
  have HBB := Lib.hid hb
  have En := Lib.hid en
  have HF := Lib.hid hf
  have HT := Lib.hid ht
  have HX := Lib.hid hx
  have HD := Lib.hid hd
  have HN := Lib.hid hn
  have HG := Lib.hid hg
  clear hb h en hf ht hx hd hn hg
  cases b with
  | true =>
    rw [if_pos rfl] at hk
    subst hk
    go_enter Tryd.func100, Tryd.ntmps100
    go_wp2_with fail
    refine (ValidHouse_any A n c xs t x d En.out HN.out HF.out HT.out HX.out HD.out (ER.of HE.out) HB0.out ((HG.out.below B0.out).more B0.out.size) true HBB.out).mono ?_
    rintro o u ⟨rfl, hb⟩
    have HB := Lib.hid (below_next B0.out hb (by simp))
    clear hb
    go_wp2_with fail
    go_ret
    exact ⟨rfl, HB.out⟩
  | false =>
    rw [if_neg (by decide)] at hk
    subst hk
    go_enter Tryd.func100, Tryd.ntmps100
    go_wp2_with fail
    refine (ValidHouse_any A n c xs t x d En.out HN.out HF.out HT.out HX.out HD.out (ER.of HE.out) HB0.out ((HG.out.below B0.out).more B0.out.size) false HBB.out).mono ?_
    rintro o u ⟨rfl, hb⟩
    have HB := Lib.hid (below_next B0.out hb (by simp))
    have HE2 := HE.out.below (hb.mono HB0.out)
    have hc := HE2.c0
    clear hb
    go_wp2_with fail
    go_ret
    exact ⟨rfl, HB.out⟩
end Go.Proofs.YtdcckdfemelbiaaDoor.hou

/-
  What was marked is still held; houses of the call's own, whole.
-/
namespace Go.Proofs.YtdcckdfemelbiaaDoor.hou
open Go Go.RowKit sl row stk

theorem marks_cell {w : World} {B g n : Nat} {k : Int} (h : Sl stkC 25 w B (some ⟨g, 0, none⟩) (marksS k n)) {i : Nat} (hi : i < n) {j : Nat} (hj : j < 25) : w.cell? ⟨g, i * 25 + j, none⟩ = some (cellS (mkS (k + 25 * (i : Int))) j) := by
  obtain ⟨a, ha, hab, hat⟩ := h.at_ i _ (marksS_at k hi)
  obtain rfl := Option.some.inj ha
  have := hat j _ (lst_get _ hj)
  rwa [add_lit, add_at] at this
set_option maxRecDepth 100000 in
set_option maxHeartbeats 8000000 in
theorem heldStockS_row (g n c : Nat) (k0 : Int) (hk : 0 ≤ k0 ∧ k0 ≤ 1000000000000) (hn : n ≤ 1048576) (w : World) (B : Nat) (hg : Sl stkC 25 w B (some ⟨g, 0, none⟩) (marksS k0 n)) :
    Calls Tryd.prog 104 #[.slice (some ⟨g, 0, none⟩) n c, .int .i64 k0] w fun o w' => o = .returned (.int .i64 (k0 + 25 * n)) ∧ w' = w := by
  have HG := Lib.hid hg
  clear hg
  go_enter Tryd.func104, Tryd.ntmps104
  go_wp2_with fail
  go_loopw [1, 5, 6, 7, 8] (fun vk vi _ _ _ wr => ∃ (i : Nat) (kk : Int), i ≤ n ∧ vi = .int .i64 (i : Nat) ∧ vk = .int .i64 kk ∧ Hid (kk = k0 + 25 * (i : Int)) ∧ wr = w) (fun _ vi _ _ _ _ => n - (intOf vi).toNat)
  case atStart => exact ⟨0, k0, by omega, rfl, rfl, Lib.hid (by simp), rfl⟩
  case round =>
    obtain ⟨i, kk, hi, rfl, rfl, HKK, hwr⟩ := hrel
    obtain ⟨wo, rfl⟩ : ∃ wo, wo = wr := ⟨wr, rfl⟩
    obtain rfl := hwr.symm
    clear hwr
    by_cases hlt : i < n
    · go_wp2_with fail
      go_loopw [1, 6] (fun vk vt wr => ∃ (t : Nat) (kt : Int), t ≤ 8 ∧ vt = .int .i64 (t : Nat) ∧ vk = .int .i64 kt ∧ Hid (kt = k0 + 25 * (i : Int) + (0 + t : Nat)) ∧ wr = w) (fun _ vt _ => 8 - (intOf vt).toNat)
      case atStart => exact ⟨0, _, by omega, rfl, rfl, Lib.hid (by have := HKK.out; simp; omega), rfl⟩
      case round =>
        clear HKK
        obtain ⟨t, kt, ht, rfl, rfl, HKT, hwr⟩ := hrel
        obtain rfl := hwr.symm
        clear hwr
        by_cases hlt2 : t < 8
        · have hc : w.cell? ⟨g, i * 25 + t, none⟩ = some (.int .i16 (IntKind.i16.wrap kt)) := by
            have := marks_cell HG.out hlt (show 0 + t < 25 by omega)
            rw [mkS_16 _ (by omega), ← HKT.out] at this
            first | exact this | (rw [← Nat.add_assoc] at this; exact this) | (rw [Nat.zero_add] at this; exact this)
          have x1 : wrap64 (kt + 1) = kt + 1 := by have := HKT.out; unfold wrap64; omega
          have y0 : (0 : Int) ≤ (t : Int) ∧ (t : Int) < 8 := ⟨by omega, by omega⟩
          have HKT2 : Hid (kt + 1 = k0 + 25 * (i : Int) + (0 + (t + 1) : Nat)) := Lib.hid (by have := HKT.out; omega)
          go_wp2_with fail
          go_roundw
          case rel => exact ⟨t + 1, _, by omega, by go_num, rfl, Lib.hid (by rw [x1]; exact HKT2.out), by trivial⟩
          case measure => simp [intOf]; omega
        · obtain rfl : t = 8 := by omega
          go_wp2_with fail
          go_loopw [1, 7] (fun vk vt wr => ∃ (t : Nat) (kt : Int), t ≤ 8 ∧ vt = .int .i64 (t : Nat) ∧ vk = .int .i64 kt ∧ Hid (kt = k0 + 25 * (i : Int) + (8 + t : Nat)) ∧ wr = w) (fun _ vt _ => 8 - (intOf vt).toNat)
          case atStart => exact ⟨0, _, by omega, rfl, rfl, Lib.hid (by have := HKT.out; omega), rfl⟩
          case round =>
            clear HKT
            obtain ⟨t, kt, ht, rfl, rfl, HKT, hwr⟩ := hrel
            obtain rfl := hwr.symm
            clear hwr
            by_cases hlt2 : t < 8
            · have hc : w.cell? ⟨g, i * 25 + 8 + t, none⟩ = some (.int .i16 (IntKind.i16.wrap kt)) := by
                have := marks_cell HG.out hlt (show 8 + t < 25 by omega)
                rw [mkS_16 _ (by omega), ← HKT.out] at this
                first | exact this | (rw [← Nat.add_assoc] at this; exact this) | (rw [Nat.zero_add] at this; exact this)
              have x1 : wrap64 (kt + 1) = kt + 1 := by have := HKT.out; unfold wrap64; omega
              have y0 : (0 : Int) ≤ (t : Int) ∧ (t : Int) < 8 := ⟨by omega, by omega⟩
              have HKT2 : Hid (kt + 1 = k0 + 25 * (i : Int) + (8 + (t + 1) : Nat)) := Lib.hid (by have := HKT.out; omega)
              go_wp2_with fail
              go_roundw
              case rel => exact ⟨t + 1, _, by omega, by go_num, rfl, Lib.hid (by rw [x1]; exact HKT2.out), by trivial⟩
              case measure => simp [intOf]; omega
            · obtain rfl : t = 8 := by omega
              go_wp2_with fail
              go_loopw [1, 8] (fun vk vt wr => ∃ (t : Nat) (kt : Int), t ≤ 8 ∧ vt = .int .i64 (t : Nat) ∧ vk = .int .i64 kt ∧ Hid (kt = k0 + 25 * (i : Int) + (16 + t : Nat)) ∧ wr = w) (fun _ vt _ => 8 - (intOf vt).toNat)
              case atStart => exact ⟨0, _, by omega, rfl, rfl, Lib.hid (by have := HKT.out; omega), rfl⟩
              case round =>
                clear HKT
                obtain ⟨t, kt, ht, rfl, rfl, HKT, hwr⟩ := hrel
                obtain rfl := hwr.symm
                clear hwr
                by_cases hlt2 : t < 8
                · have hc : w.cell? ⟨g, i * 25 + 16 + t, none⟩ = some (.int .i16 (IntKind.i16.wrap kt)) := by
                    have := marks_cell HG.out hlt (show 16 + t < 25 by omega)
                    rw [mkS_16 _ (by omega), ← HKT.out] at this
                    first | exact this | (rw [← Nat.add_assoc] at this; exact this) | (rw [Nat.zero_add] at this; exact this)
                  have x1 : wrap64 (kt + 1) = kt + 1 := by have := HKT.out; unfold wrap64; omega
                  have y0 : (0 : Int) ≤ (t : Int) ∧ (t : Int) < 8 := ⟨by omega, by omega⟩
                  have HKT2 : Hid (kt + 1 = k0 + 25 * (i : Int) + (16 + (t + 1) : Nat)) := Lib.hid (by have := HKT.out; omega)
                  go_wp2_with fail
                  go_roundw
                  case rel => exact ⟨t + 1, _, by omega, by go_num, rfl, Lib.hid (by rw [x1]; exact HKT2.out), by trivial⟩
                  case measure => simp [intOf]; omega
                · obtain rfl : t = 8 := by omega
                  have hc : w.cell? ⟨g, i * 25 + 24, none⟩ = some (.int .i32 (wrap32 kt)) := by
                    have := marks_cell HG.out hlt (show 24 < 25 by omega)
                    rw [this, HKT.out]
                    rfl
                  have x1 : wrap64 (kt + 1) = kt + 1 := by have := HKT.out; unfold wrap64; omega
                  have HKT2 : Hid (kt + 1 = k0 + 25 * ((i + 1 : Nat) : Int)) := Lib.hid (by have := HKT.out; omega)
                  go_wp2_with fail
                  go_roundw
                  case rel => exact ⟨i + 1, _, by omega, by go_num, rfl, Lib.hid (by rw [x1]; exact HKT2.out), by trivial⟩
                  case measure => simp [intOf]; omega
    · obtain rfl : i = n := by omega
      go_wp2_with fail
      go_ret
      exact ⟨ret_int HKK.out, rfl⟩
theorem markStockS_nil (c : Nat) (k0 : Int) (w : World) :
    Calls Tryd.prog 103 #[.slice none 0 c, .int .i64 k0] w fun o w' => o = .returned (.int .i64 k0) ∧ w' = w := by
  go_enter Tryd.func103, Tryd.ntmps103
  go_wp2_with fail
  go_loopw [1, 5, 6, 7, 8] (fun vk vi _ _ _ wr => vi = .int .i64 0 ∧ vk = .int .i64 k0 ∧ wr = w) (fun _ _ _ _ _ _ => 0)
  case atStart => exact ⟨rfl, rfl, rfl⟩
  case round =>
    obtain ⟨rfl, rfl, hwr⟩ := hrel
    obtain rfl := hwr.symm
    go_wp2_with fail
    go_ret
    exact ⟨rfl, rfl⟩
theorem heldStockS_nil (c : Nat) (k0 : Int) (w : World) :
    Calls Tryd.prog 104 #[.slice none 0 c, .int .i64 k0] w fun o w' => o = .returned (.int .i64 k0) ∧ w' = w := by
  go_enter Tryd.func104, Tryd.ntmps104
  go_wp2_with fail
  go_loopw [1, 5, 6, 7, 8] (fun vk vi _ _ _ wr => vi = .int .i64 0 ∧ vk = .int .i64 k0 ∧ wr = w) (fun _ _ _ _ _ _ => 0)
  case atStart => exact ⟨rfl, rfl, rfl⟩
  case round =>
    obtain ⟨rfl, rfl, hwr⟩ := hrel
    obtain rfl := hwr.symm
    go_wp2_with fail
    go_ret
    exact ⟨rfl, rfl⟩
/-- stocks of the call's own, in a slice at the head of its block, or none at all -/
structure KO (w : World) (B : Nat) (v : Value) (xs : List Stk) : Prop where
  o : StkOwns w B v xs.length (xs.flatMap stkC)
theorem KO.shape {w : World} {B : Nat} {v : Value} {xs : List Stk} (h : KO w B v xs) : (v = .slice none 0 0 ∧ xs = []) ∨ ∃ g c, v = .slice (some ⟨g, 0, none⟩) xs.length c ∧ B ≤ g ∧ g < w.heap.size := by
  rcases h.o.2 with ⟨hv, hn⟩ | ⟨g, cap, cur, hv, hg, hh, rest⟩
  · exact .inl ⟨hv, List.length_eq_zero_iff.1 hn⟩
  · exact .inr ⟨g, cap, hv, hg, (Array.getElem?_eq_some_iff.1 hh).1⟩
theorem KO.next {w u : World} {B : Nat} {v : Value} {xs : List Stk} (h : KO w B v xs) (hb : Below w.heap.size w u) : KO u B v xs := ⟨owns_next h.o hb⟩
theorem KO.sl {w : World} {B : Nat} {v : Value} {xs : List Stk} (h : KO w B v xs) : ∃ A c, v = .slice A xs.length c ∧ Sl stkC 25 w w.heap.size A xs := by
  obtain ⟨A, c, rfl, _⟩ := owns_slice h.o
  exact ⟨A, c, rfl, Sl.of_owns h.o (stkC_len xs) (by decide)⟩
theorem KO.nil (w : World) (B : Nat) : KO w B (.slice none 0 0) [] := ⟨World.ownsRow_nil w B _ _⟩
/-- .. marked -/
theorem KO.mark {w : World} {B : Nat} {v : Value} {xs : List Stk} (h : KO w B v xs) (k0 : Int) (hk : 0 ≤ k0 ∧ k0 ≤ 1000000000000) (hn : xs.length ≤ 1048576) :
    Calls Tryd.prog 103 #[v, .int .i64 k0] w fun o w' => o = .returned (.int .i64 (k0 + 25 * (xs.length : Int))) ∧ KO w' B v (marksS k0 xs.length) ∧ (w' = w ∨ ∃ g, v.ownBlock = some g ∧ w.grownBy w' (some g)) := by
  rcases h.shape with ⟨rfl, rfl⟩ | ⟨g, c, rfl, _, _⟩
  · refine (markStockS_nil 0 k0 w).mono ?_
    rintro o w' ⟨rfl, rfl⟩
    exact ⟨by simp, by simpa [marksS] using KO.nil w' B, .inl rfl⟩
  · refine (markStockS_row B g xs.length c k0 hk hn _ w h.o).mono ?_
    rintro o w' ⟨rfl, ho, hg⟩
    exact ⟨rfl, ⟨by rw [marksS_len]; exact ho⟩, .inr ⟨g, rfl, hg⟩⟩
theorem KO.held {w : World} {B : Nat} {v : Value} {n : Nat} {k0 : Int} (h : KO w B v (marksS k0 n)) (hk : 0 ≤ k0 ∧ k0 ≤ 1000000000000) (hn : n ≤ 1048576) :
    Calls Tryd.prog 104 #[v, .int .i64 k0] w fun o w' => o = .returned (.int .i64 (k0 + 25 * (n : Int))) ∧ w' = w := by
  rcases h.shape with ⟨rfl, hx⟩ | ⟨g, c, rfl, _, _⟩
  · have hn0 : n = 0 := by have := congrArg List.length hx; simpa [marksS_len] using this
    subst hn0
    refine (heldStockS_nil 0 k0 w).mono ?_
    rintro o w' ⟨rfl, rfl⟩
    exact ⟨by simp, rfl⟩
  · have hs := Sl.of_owns h.o (stkC_len _) (by decide)
    rw [marksS_len]
    exact heldStockS_row g n c k0 hk hn w _ hs
set_option maxHeartbeats 1000000 in
theorem markHouse_any {w : World} {B : Nat} {v : Value} {xs : List Stk} (h : KO w B v xs) (hB : B ≤ w.heap.size) (t x d : Int) (k0 : Int) (hk : 0 ≤ k0 ∧ k0 ≤ 1000000000000) (hn : xs.length ≤ 1048576) :
    Calls Tryd.prog 44 #[houV v t x d, .int .i64 k0] w fun o w' => o = .returned (.int .i64 (k0 + 25 * (xs.length : Int))) ∧ KO w' B v (marksS k0 xs.length) ∧ Below B w w' ∧ (∀ b, b < w.heap.size → v.ownBlock ≠ some b → w'.heap[b]? = w.heap[b]?) := by
  have B0 := Lib.hid ((Below.refl w.heap.size w).alloc (Nat.le_refl _) (.cells #[v, .int .i16 t, .int .i8 x, .int .i16 d] 58))
  have hs : (w.alloc (.cells #[v, .int .i16 t, .int .i8 x, .int .i16 d] 58)).heap.size = w.heap.size + 1 := by simp
  have HS := Lib.hid hs
  have HM := (h.next B0.out).mark k0 hk hn
  have HMM := Lib.hid HM
  clear HM hs
  go_enter Tryd.func44, Tryd.ntmps44
  go_wp2_with fail
  refine HMM.out.mono ?_
  rintro o w1 ⟨rfl, hK, hg⟩
  have HK := Lib.hid hK
  have HG := Lib.hid hg
  clear hK hg HMM
  go_wp2_with fail
  go_ret
  refine ⟨rfl, HK.out, ?_, fun b hb hne => ?_⟩
  · rcases HG.out with e | ⟨g, hv, hg⟩
    · rw [e]; exact B0.out.mono hB
    · exact (B0.out.mono hB).grown hg (Nat.le_trans hB B0.out.size) fun q hq => by
        obtain rfl := Option.some.inj hq
        exact (h.o.lt _ hv).1
  · rcases HG.out with e | ⟨g, hv, hg⟩
    · rw [e]; exact B0.out.block b hb
    · exact (hg.block b (by have := HS.out; omega) (fun e => hne (hv.trans e.symm))).trans (B0.out.block b hb)
set_option maxHeartbeats 1000000 in
theorem heldHouse_any {w : World} {B : Nat} {v : Value} {n : Nat} {k0 : Int} (h : KO w B v (marksS k0 n)) (t x d : Int) (hk : 0 ≤ k0 ∧ k0 ≤ 1000000000000) (hn : n ≤ 1048576) :
    Calls Tryd.prog 45 #[houV v t x d, .int .i64 k0] w fun o w' => o = .returned (.int .i64 (k0 + 25 * (n : Int))) ∧ Below w.heap.size w w' := by
  have B0 := Lib.hid ((Below.refl w.heap.size w).alloc (Nat.le_refl _) (.cells #[v, .int .i16 t, .int .i8 x, .int .i16 d] 58))
  have HM := (h.next B0.out).held hk hn
  have HMM := Lib.hid HM
  have hpos : 0 ≤ k0 + 25 * (n : Int) := by omega
  obtain ⟨k1, hk1⟩ : ∃ k, k = k0 + 25 * (n : Int) := ⟨_, rfl⟩
  rw [← hk1] at hpos ⊢
  have HK1 := Lib.hid hk1
  have hno : ¬ k1 < 0 := by omega
  clear HM hk1
  go_enter Tryd.func45, Tryd.ntmps45
  go_wp2_with fail
  refine HMM.out.mono ?_
  rintro o w1 ⟨rfl, rfl⟩
  rw [← HK1.out]
  go_wp2_with fail
  go_ret
  exact ⟨rfl, B0.out⟩
end Go.Proofs.YtdcckdfemelbiaaDoor.hou

/-
  New houses, the program's: newHouse.
-/
namespace Go.Proofs.YtdcckdfemelbiaaDoor.hou
open Go Go.RowKit sl row stk errs fold

/-- one stock of a row of the call's own changed -/
theorem owns_stk {w w' : World} {B g n c : Nat} {xs : List Stk} (h : StkOwns w B (.slice (some ⟨g, 0, none⟩) n c) n (xs.flatMap stkC)) {i : Nat} (_hi : i < n) {f : Stk} (hf : StkOwn w' g (i * 25) f) (hc : Chg w w' g (i * 25) 25) :
    StkOwns w' B (.slice (some ⟨g, 0, none⟩) n c) n ((xs.set i f).flatMap stkC) := by
  have hn : xs.length = n := by
    have := h.1
    rw [flat_len (stkC_len xs)] at this
    omega
  obtain ⟨L', h'⟩ := hc.own _ _ _ _ _ _ h
  have e : L' = (xs.set i f).flatMap stkC := by
    have hl' : L'.length = n * 25 := h'.1
    have hl2 : ((xs.set i f).flatMap stkC).length = n * 25 := by rw [flat_len (stkC_len _), List.length_set, hn]
    refine List.ext_getElem? fun q => ?_
    rcases Nat.lt_or_ge q (n * 25) with hq | hq
    · have hc1 := h'.cellAt q (by omega)
      have hk : q / 25 < n := by omega
      have hqq : q / 25 * 25 + q % 25 = q := by omega
      have hm : q % 25 < 25 := by omega
      obtain ⟨y, hy⟩ : ∃ y, (xs.set i f)[q / 25]? = some y := ⟨(xs.set i f)[q / 25]'(by rw [List.length_set, hn]; exact hk), List.getElem?_eq_getElem _⟩
      have hg := flat_get (C := stkC) (sz := 25) (stkC_len _) hy (lst_get (cellS y) hm)
      rw [hqq] at hg
      rw [hg, ← hc1]
      by_cases e : q / 25 = i
      · rw [e, List.getElem?_set_self (by omega)] at hy
        obtain rfl := Option.some.inj hy
        have := hf.cell (q % 25) hm
        rwa [← e, hqq] at this
      · rw [List.getElem?_set_ne (Ne.symm e)] at hy
        have h1 := flat_get (C := stkC) (sz := 25) (stkC_len _) hy (lst_get (cellS y) hm)
        rw [hqq] at h1
        have h2 := h.cellAt q hq
        rw [h1] at h2
        exact (hc.out q (by omega)).trans h2
    · rw [List.getElem?_eq_none (by omega), List.getElem?_eq_none (by omega)]
  rw [e] at h'
  exact h'
theorem owns_at {w : World} {B g n c : Nat} {xs : List Stk} (h : StkOwns w B (.slice (some ⟨g, 0, none⟩) n c) n (xs.flatMap stkC)) {i : Nat} {f : Stk} (hf : xs[i]? = some f) : StkOwn w g (i * 25) f := by
  have hs := Sl.of_owns h (stkC_len xs) (by decide)
  have ha := Sl.stk hs (Nat.le_refl _) hf
  exact ⟨ha, fun j hj => h.frozenAt (i * 25 + j)⟩
theorem made_zero (n : Nat) : (madeCells (Value.agg (stkCs zeroS)).cells (n * 25)).toList = (List.replicate n zeroS).flatMap stkC := by
  have hz : (Value.agg (stkCs zeroS)).cells = stkCs zeroS := rfl
  rw [hz]
  refine List.ext_getElem? fun q => ?_
  rcases Nat.lt_or_ge q (n * 25) with hq | hq
  · have hm : q % 25 < 25 := by omega
    have hy : (List.replicate n zeroS)[q / 25]? = some zeroS := by
      rw [List.getElem?_replicate, if_pos (by omega)]
    have h1 := flat_get (C := stkC) (sz := 25) (stkC_len _) hy (lst_get (cellS zeroS) hm)
    rw [show q / 25 * 25 + q % 25 = q by omega] at h1
    rw [h1]
    have h2 : (stkCs zeroS)[q % 25]? = some (cellS zeroS (q % 25)) := by simpa [stkCs] using lst_get (cellS zeroS) hm
    have h3 : (madeCells (stkCs zeroS) (n * 25)).toList[q]? = some ((stkCs zeroS)[q % (stkCs zeroS).size]!) := by simp [madeCells, hq]
    rw [h3, stkCs_size, Array.getElem!_eq_getD, Array.getD_eq_getD_getElem?, h2]
    rfl
  · rw [List.getElem?_eq_none (by simp [size_madeCells]; omega), List.getElem?_eq_none (by rw [flat_len (stkC_len _)]; simp; omega)]
theorem KO.cells {w : World} {B : Nat} {v : Value} {xs : List Stk} (h : KO w B v xs) {b : Nat} (hb : b < B) (o : Nat) (vs : List Value) : KO (w.setCells b o vs) B v xs :=
  ⟨owns_other h.o (grownBy_cells vs o (grownBy_refl w (some b))) fun k hk e => by have := (h.o.lt k hk).1; omega⟩
theorem KO.mono {w : World} {B B' : Nat} {v : Value} {xs : List Stk} (h : KO w B v xs) (hb : B' ≤ B) : KO w B' v xs := ⟨owns_below h.o hb⟩
/-- a stock of new pieces -/
def freshS (n : Int) : Stk := upd zeroS 7 n
/-- the first k kinds are new -/
def part (cs : List Int) (k : Nat) : List Stk := (cs.take k).map freshS ++ List.replicate (cs.length - k) zeroS
theorem part_zero (cs : List Int) : part cs 0 = List.replicate cs.length zeroS := by simp [part]
theorem part_all (cs : List Int) : part cs cs.length = cs.map freshS := by simp [part]
theorem part_len (cs : List Int) {k : Nat} (h : k ≤ cs.length) : (part cs k).length = cs.length := by simp [part]; omega
theorem part_at {cs : List Int} {k : Nat} (h : k < cs.length) : (part cs k)[k]? = some zeroS := by
  unfold part
  rw [List.getElem?_append_right (by simp; omega), List.getElem?_replicate, if_pos (by simp; omega)]
theorem part_set {cs : List Int} {k : Nat} {x : Int} (hx : cs[k]? = some x) : (part cs k).set k (freshS x) = part cs (k + 1) := by
  have h : k < cs.length := (List.getElem?_eq_some_iff.1 hx).1
  unfold part
  rw [List.set_append_right _ _ (by simp; omega)]
  have e : cs.length - k = (cs.length - (k + 1)) + 1 := by omega
  rw [e, List.replicate_succ, take_snoc hx]
  have e2 : k - (List.map freshS (List.take k cs)).length = 0 := by simp; omega
  rw [e2]
  simp
theorem fresh_zero (n : Int) : upd zeroS 7 (zeroS 7 + n) = freshS n := by
  unfold freshS
  simp
theorem infoHs : (Tryd.prog.info? 58).map (fun i => (i.zero, i.size)) = some (some (houV (.slice none 0 0) 0 0 0), 4) := by kernel_rfl
set_option maxRecDepth 100000 in
set_option maxHeartbeats 8000000 in
theorem newHouse_any (A : Option Addr) (n c : Nat) (cs : List Int) (en : n = cs.length) (hn : n ≤ 4) (hin : ∀ x ∈ cs, 0 ≤ x ∧ x ≤ 500) (t x : Int) (ht : 0 ≤ t ∧ t ≤ 1000) (hx : 1 ≤ x ∧ x ≤ 7) (w : World) (hg : Sl intS.C 1 w w.heap.size A cs) :
    Calls Tryd.prog 116 #[.slice A n c, .int .i64 t, .int .i64 x] w fun o w' => ∃ v, o = .returned (houV v t x 0) ∧ KO w' w.heap.size v (cs.map freshS) ∧ Below w.heap.size w w' := by
  obtain ⟨i0, hi, hz0, hz1, hz2⟩ := info_parts infoSs
  have En := Lib.hid en
  have y1 : IntKind.i16.wrap t = t := IntWalk.i16_in _ (by omega)
  have y2 : IntKind.i8.wrap x = x := IntWalk.i8_in _ (by omega)
  have R0 := Lib.hid (HouAt.new w (.slice none 0 0) 0 0 0 58)
  have B0 := Lib.hid ((Below.refl w.heap.size w).alloc (Nat.le_refl _) (.cells #[.slice none 0 0, .int .i16 0, .int .i8 0, .int .i16 0] 58))
  clear en
  go_enter Tryd.func116, Tryd.ntmps116
  go_wp2_with (at_make; refine wpList_make_full _ rfl _ _ 56 rfl (w.heap.size + 1) 179 i0 (.agg (stkCs zeroS)) 25 Tryd.underlying56 hi hz0 hz1 .i64 .i64 n n n rfl rfl rfl rfl (by rw [hz2]; omega) (by unfold maxLen; omega) (by simp) ?_; intro w1 hown hgr; rw [made_zero] at hown; have HP1 := Lib.hid hown; have HB1 := Lib.hid (Below.grown (Below.refl (w.heap.size + 1) _) hgr (by simp) (fun g hg => by cases hg)); clear hown hgr)
  go_loopw [15, 8, 9] (fun vi _ _ wr => ∃ k : Nat, k ≤ n ∧ vi = .int .i64 (k : Nat) ∧ StkOwns wr (w.heap.size + 1) (.slice (some ⟨w.heap.size + 1, 0, none⟩) n n) n ((part cs k).flatMap stkC) ∧ Below (w.heap.size + 1) (w.alloc (.cells #[.slice none 0 0, .int .i16 0, .int .i8 0, .int .i16 0] 58)) wr) (fun vi _ _ _ => n - (intOf vi).toNat)
  case atStart =>
    have h1 := HP1.out
    rw [World.size_alloc] at h1
    exact ⟨0, by omega, rfl, by rw [part_zero, ← En.out]; exact h1, HB1.out⟩
  case round =>
    clear HP1 HB1
    obtain ⟨k, hk, rfl, hP, hB⟩ := hrel
    have HP := Lib.hid hP
    have HB := Lib.hid hB
    clear hP hB
    by_cases hlt : k < n
    · obtain ⟨y, hy⟩ : ∃ y, cs[k]? = some y := ⟨cs[k]'(by have := En.out; omega), List.getElem?_eq_getElem _⟩
      have HBW := Lib.hid (B0.out.trans (HB.out.mono (by omega)))
      obtain ⟨a, rfl, hab, hat⟩ := (hg.below HBW.out).at_ k y hy
      have q0 := intS.at_ hat
      have hyb := hin y (List.mem_of_getElem? hy)
      have HY := Lib.hid hy
      have HS := Lib.hid (owns_at HP.out (i := k) (part_at (by have := En.out; omega)))
      clear hy hat
      go_wp2_with fail
      refine (add_any placeC 0 7 .clean (by omega) y zeroS (w.heap.size + 1) (k * 25) _ HS.out (by omega) (by simp; omega)).mono ?_
      rintro o w2 ⟨rfl, hO, hC⟩
      rw [Nat.zero_add, fresh_zero] at hO
      have HP2 := Lib.hid (owns_stk HP.out hlt hO hC)
      have HB2 := Lib.hid (below_grown HB.out hC.g (by have := HB.out.size; simp at this; omega) (Nat.le_refl _))
      clear hO hC
      go_wp2_with fail
      go_roundw
      case rel => exact ⟨k + 1, by omega, by go_num, by rw [← part_set HY.out]; exact HP2.out, HB2.out⟩
      case measure => simp [intOf]; omega
    · obtain rfl : k = n := by omega
      have hR := R0.out.below HB.out (Nat.lt_succ_self _)
      have r0 := hR.c0
      have r1 := hR.c1
      have r2 := hR.c2
      have r3 := hR.c3
      have q0 := hR.fz 0
      have q1 := hR.fz 1
      have q2 := hR.fz 2
      have q3 := hR.fz 3
      have HRT := Lib.hid hR.there
      clear hR
      go_wp2_with fail
      refine bodyPost_ret (v := houV (.slice (some ⟨w.heap.size + 1, 0, none⟩) k k) t x 0) (results_stored (u := wr) (b := w.heap.size) (cs := houL (.slice (some ⟨w.heap.size + 1, 0, none⟩) k k) t x 0) Tryd.results116 rfl HRT.out Tryd.underlying58 rfl (by kernel_rfl)) rfl ⟨_, rfl, ?_, ?_⟩
      · have hp := HP.out
        have hk : k = cs.length := En.out
        rw [show (part cs k) = cs.map freshS by rw [hk]; exact part_all cs] at hp
        have ho := owns_other hp (grownBy_cells (houL (.slice (some ⟨w.heap.size + 1, 0, none⟩) k k) t x 0) 0 (grownBy_refl wr (some w.heap.size))) fun q hq => by
          have : w.heap.size + 1 = q := Option.some.inj hq
          omega
        refine ⟨?_⟩
        rw [List.length_map, ← hk]
        exact owns_below ho (by omega)
      · exact below_cells (B0.out.trans (HB.out.mono (by omega))) (Nat.le_refl _) (houL _ t x 0) 0
def codeN (cs : List Int) (t x : Int) : Nat := if numsOk cs.length t x 0 = true ∧ pcsOk cs = true then 0 else 2
def newK (cs : List Int) (t x : Int) : List Stk := if codeN cs t x = 0 then cs.map freshS else []
def newN (cs : List Int) (t x y : Int) : Int := if codeN cs t x = 0 then y else 0
theorem codeN_zero {cs : List Int} {t x : Int} (h : codeN cs t x = 0) : (1 ≤ cs.length ∧ cs.length ≤ 4) ∧ (0 ≤ t ∧ t ≤ 1000) ∧ (1 ≤ x ∧ x ≤ 7) ∧ ∀ y ∈ cs, 0 ≤ y ∧ y ≤ 500 := by
  unfold codeN at h
  split at h
  · rename_i hh
    have h1 := numsOk_iff.1 hh.1
    exact ⟨h1.1, h1.2.1, h1.2.2.1, pcsOk_iff.1 hh.2⟩
  · cases h
theorem codeN_or (cs : List Int) (t x : Int) : codeN cs t x = 0 ∨ codeN cs t x = 2 := by
  unfold codeN
  split
  · exact .inl rfl
  · exact .inr rfl
/-- a house of the call's own, and a number -/
def OwnH (w : World) (ks : List Stk) (t x d z : Int) (o : Ending) (w' : World) : Prop :=
  ∃ v, o = .returned (.tuple #[houV v t x d, .int .i64 z]) ∧ KO w' w.heap.size v ks ∧ Below w.heap.size w w'
end Go.Proofs.YtdcckdfemelbiaaDoor.hou

/-
  New houses, the model's.
-/
namespace Go.Proofs.YtdcckdfemelbiaaDoor.hou
open Go Go.RowKit sl row stk errs fold

set_option maxRecDepth 100000 in
set_option maxHeartbeats 4000000 in
theorem l05Fresh_any (n : Int) (hn : 0 ≤ n ∧ n ≤ 500) (w : World) :
    Calls Tryd.prog 153 #[.int .i64 n] w fun o w' => o = .returned (stkV (freshS n)) ∧ Below w.heap.size w w' := by
  have y1 : IntKind.i16.wrap n = n := IntWalk.i16_in _ (by omega)
  have hzz : ∀ u : World, (zeroValue 179).run Tryd.prog u = .ok (.agg (stkCs zeroS)) u := (zero_of_info zeroSi).1
  obtain ⟨u0, hu0⟩ : ∃ u, u = (w.alloc (.cells (stkCs zeroS) 179)).alloc (.cells (stkCs zeroS) 179) := ⟨_, rfl⟩
  have H0 : US w zeroS u0 := by rw [hu0]; exact US.new w zeroS _ _
  obtain ⟨u1, hu1⟩ : ∃ u, u = u0.setCells (w.heap.size + 1) 0 (lst 25 (cellS zeroS)) := ⟨_, rfl⟩
  have H1 : US w zeroS u1 := by rw [hu1]; exact ⟨RowOwn.sets_other H0.a (by omega) _ _, StkOwn.stored H0.r zeroS, below_cells H0.b (by omega) _ _⟩
  obtain ⟨u2, hu2⟩ : ∃ u, u = u1.setCell ⟨w.heap.size + 1, 7, none⟩ (.int .i16 n) := ⟨_, rfl⟩
  have T2 : StkOwn u2 (w.heap.size + 1) 0 (freshS n) := by
    have := StkOwn.set H1.r (j := 7) (by omega) n
    rw [Nat.zero_add] at this
    rw [hu2]
    exact this
  have A2 : StkOwn u2 w.heap.size 0 zeroS := by rw [hu2]; exact RowOwn.set_other H1.a (by simp) _
  have B2 : Below w.heap.size w u2 := by rw [hu2]; exact H1.b.setCell (by simp) _
  have s0 : u1.cell? ⟨w.heap.size + 1, 7, none⟩ = some (.int .i16 0) := H1.r.cell 7 (by omega)
  have f0 : u1.frozen? ⟨w.heap.size + 1, 7, none⟩ = false := H1.r.free 7 (by omega)
  have HU0 := Lib.hid hu0
  have HU1 := Lib.hid hu1
  have HU2 := Lib.hid hu2
  have HH0 := Lib.hid H0
  have HT2 := Lib.hid T2
  have HA2 := Lib.hid A2
  have HB2 := Lib.hid B2
  have HS := Lib.hid (StkOwn.stored A2 (freshS n)).toRowAt
  clear hu0 hu1 hu2 H0 H1 T2 A2 B2
  go_enter Tryd.func153, Tryd.ntmps153
  go_wp2_with (first
    | (refine wpl_built rfl 179 _ rfl #[] ?hp (build_zero _) ?_; case hp => simp [Act.eval])
    | (rw [← HU0.out]; refine wpl_store_stk rfl (.tmp 3) (.tmp 4) rfl (w.heap.size + 1) 0 rfl (f := zeroS) rfl HH0.out.r ?_; rw [← HU1.out])
    | (rw [← HU2.out]; refine wpl_load_stk rfl (.tmp 3) rfl (w.heap.size + 1) 0 rfl (f := freshS n) HT2.out.toRowAt ?_)
    | (refine wpl_store_stk rfl (.tmp 2) (.tmp 9) rfl w.heap.size 0 rfl (f := freshS n) rfl HA2.out ?_)
    | fail)
  refine bodyPost_ret (v := stkV (freshS n)) (results_row Tryd.results153 rfl HS.out.range Tryd.underlying179 rfl (by rw [infoS, lst_len])) rfl ⟨rfl, ?_⟩
  exact below_cells HB2.out (Nat.le_refl _) _ _
set_option maxRecDepth 100000 in
theorem build_stocks (f : Stk) (u : World) : (Instr.buildSlice 56 1 #[(0, stkV f)]).run Tryd.prog u = .ok (.slice (some ⟨u.heap.size, 0, none⟩) 1 1) (u.alloc (.cells (stkCs f) 179)) := by
  kernel_rfl
theorem wp_listed' {P : Program} {o : Oper} {a : Act} {w w' : World} {v : Value} {K : Act → World → Prop} {Q : Exit → Act → World → Prop} (t : TypeId) (len : Nat) (parts : Array (Nat × Operand)) (ho : o.op = .buildSlice t len parts)
    (vals : Array (Nat × Value)) (hp : (parts.map fun (i, x) => (i, a.eval x)) = vals) (hrun : (Instr.buildSlice t len vals).run P w = .ok v w') (h : K (a.put o.dst v) w') : o.wp P a w K Q := by
  unfold Oper.wp execOp
  simp only [ho, hp, hrun, Sem.run_bind, Sem.run_pure, Result.andThen_ok]
  exact h
theorem new_cells (f : Stk) (u : World) (T : TypeId) : ∀ (j : Nat) x, (stkC f)[j]? = some x → (u.alloc (.cells (stkCs f) T)).cell? ((⟨u.heap.size, 0, none⟩ : Addr).add j) = some x := fun j x hj => by
  have h := (StkOwn.new u f T).toRowAt.range j x hj
  rw [Nat.zero_add] at h
  rw [add_lit]
  exact h
theorem stkC_one (f : Stk) : ∀ u ∈ stkC f, u.oneCell' = true := fun u hu => by
  have := stkCs_one f
  exact (Array.all_eq_true_iff_forall_mem.1 this) u (by simpa [stkCs] using hu)
theorem KO.grown {w u : World} {B : Nat} {v : Value} {xs : List Stk} (h : KO w B v xs) (hg : w.grownBy u none) : KO u B v xs :=
  ⟨owns_block h.o ⟨hg.os, hg.tape, hg.output, hg.size, fun k hk => hg.block k hk (by simp)⟩ fun g hg => (h.o.lt g hg).2⟩
theorem HouAt.set0 {u : World} {b : Nat} {v : Value} {t e d : Int} (h : HouAt u b v t e d) (v' : Value) : HouAt (u.setCell ⟨b, 0, none⟩ v') b v' t e d :=
  ⟨World.cell?_setCell_same _ _ _ h.c0, (World.cell?_setCell_other _ _ _ _ (by simp)).trans h.c1, (World.cell?_setCell_other _ _ _ _ (by simp)).trans h.c2, (World.cell?_setCell_other _ _ _ _ (by simp)).trans h.c3,
    fun i => (World.frozen?_setCell _ _ _ _).trans (h.fz i), by simpa [World.setCell] using h.lt⟩
/-- what a round of the model's list keeps -/
structure NS (w : World) (bo : Nat) (v : Value) (t x : Int) (ks : List Stk) (u : World) : Prop where
  h : HouAt u bo v t x 0
  k : KO u (bo + 1) v ks
  b : Below bo w u
theorem NS.next {w : World} {bo : Nat} {v : Value} {t x : Int} {ks : List Stk} {u u' : World} (h : NS w bo v t x ks u) (hw : bo ≤ w.heap.size) (hb : Below u.heap.size u u') : NS w bo v t x ks u' :=
  ⟨h.h.next hb, h.k.next hb, below_next h.b hb hw⟩
end Go.Proofs.YtdcckdfemelbiaaDoor.hou

/-
  A house with another stock of a kind: withKind.
-/
namespace Go.Proofs.YtdcckdfemelbiaaDoor.hou
open Go Go.RowKit sl row stk errs fold

section
variable {P : Program}
/-- an append onto a full slice, in a region that draws -/
theorem wp_append_full {o : Oper} {a : Act} {w : World} {K : Act → World → Prop} {Q : Exit → Act → World → Prop} (s x : Operand) (t : TypeId)
    (ho : o.op = .call { callee := .builtin .append, args := #[s, x], argTypes := #[t, t] })
    (e : TypeId) (i : TypeInfo) (z : Value) (size bytes : Nat) (ht : P.underlying t = some (.slice e)) (hi : P.info? e = some i) (hz : i.zero = some z)
    (hsize : i.size = size) (hby : i.bytes = bytes) (hzs : z.cells.size = size) (hsz : 0 < size)
    (b : Addr) (n cap : Nat) (olds : List Value) (hs : a.eval s = .slice (some b) n cap) (hlo : olds.length = n * size) (holds : ∀ j u, olds[j]? = some u → w.cell? (b.add j) = some u)
    (ad : Addr) (m c : Nat) (news : List Value) (hx : a.eval x = .slice (some ad) m c) (hl : news.length = m * size) (hnews : ∀ j u, news[j]? = some u → w.cell? (ad.add j) = some u)
    (hg : cap < n + m) (h63 : n + m ≤ maxLen) (hbytes : (n + m) * bytes ≤ 140737488355328)
    (h : ∀ v' w', w'.ownsRow w.heap.size e size v' (n + m) (olds ++ news) → w.grownBy w' none → K (a.put o.dst v') w') : o.wp P a w K Q := by
  obtain ⟨v', w', hr, h2, h3⟩ := run_append_arg_grows (P := P) w t o.type e i z size bytes ht hi hz hsize hby hzs hsz b n cap olds hlo holds ad m c news hl hnews hg h63 hbytes
  unfold Oper.wp execOp
  simp only [ho, resolve, invoke, builtin, Sem.run_bind, Sem.run_pure, Result.andThen_ok, List.map_toArray, List.map_cons, List.map_nil, hs, hx, hr]
  exact h v' w' h2 h3
end
theorem sl_cells {w : World} {B : Nat} {a : Addr} {xs : List Stk} (h : Sl stkC 25 w B (some a) xs) (j : Nat) (u : Value) (hu : (xs.flatMap stkC)[j]? = some u) : w.cell? (a.add j) = some u := by
  have hj : j < xs.length * 25 := by
    have := (List.getElem?_eq_some_iff.1 hu).1
    rwa [flat_len (stkC_len xs)] at this
  obtain ⟨y, hy⟩ : ∃ y, xs[j / 25]? = some y := ⟨xs[j / 25]'(by omega), List.getElem?_eq_getElem _⟩
  obtain ⟨a', ha, _, hat⟩ := h.at_ _ y hy
  obtain rfl := Option.some.inj ha
  have hm : j % 25 < 25 := by omega
  have hg := flat_get (C := stkC) (sz := 25) (stkC_len _) hy (lst_get (cellS y) hm)
  rw [show j / 25 * 25 + j % 25 = j by omega] at hg
  rw [hg] at hu
  obtain rfl := Option.some.inj hu
  have := hat (j % 25) _ (lst_get (cellS y) hm)
  rwa [Addr.add_add, show j / 25 * 25 + j % 25 = j by omega] at this
theorem sl_take {w : World} {B : Nat} {A : Option Addr} {xs : List Stk} (h : Sl stkC 25 w B A xs) (k : Nat) : Sl stkC 25 w B A (xs.take k) :=
  ⟨fun i x hx => h.at_ i x (by
    rw [List.getElem?_take] at hx
    split at hx
    · exact hx
    · cases hx)⟩
theorem sl_drop {w : World} {B : Nat} {a : Addr} {xs : List Stk} (h : Sl stkC 25 w B (some a) xs) (k : Nat) : Sl stkC 25 w B (some (a.add (k * 25))) (xs.drop k) :=
  ⟨fun i x hx => by
    rw [List.getElem?_drop] at hx
    obtain ⟨a', ha, hb, hat⟩ := h.at_ _ x hx
    obtain rfl := Option.some.inj ha
    refine ⟨_, rfl, by rw [sl.block_add]; exact hb, ?_⟩
    rwa [Addr.add_add, ← Nat.add_mul]⟩
theorem HouAt.set_ne {u : World} {b : Nat} {v : Value} {t e d : Int} (h : HouAt u b v t e d) {p : Addr} (hp : p.block ≠ b) (v' : Value) : HouAt (u.setCell p v') b v t e d :=
  ⟨(World.cell?_setCell_other _ _ _ _ (fun e => hp (by rw [e]))).trans h.c0, (World.cell?_setCell_other _ _ _ _ (fun e => hp (by rw [e]))).trans h.c1, (World.cell?_setCell_other _ _ _ _ (fun e => hp (by rw [e]))).trans h.c2, (World.cell?_setCell_other _ _ _ _ (fun e => hp (by rw [e]))).trans h.c3,
    fun i => (World.frozen?_setCell _ _ _ _).trans (h.fz i), by simpa [World.setCell] using h.lt⟩
/-- what the parts of a house with another stock keep -/
structure WS (w : World) (v : Value) (t e d : Int) (f : Stk) (u : World) : Prop where
  h : HouAt u w.heap.size v t e d
  s : StkAt u (w.heap.size + 1) 0 f
  r : HouAt u (w.heap.size + 2) (.slice none 0 0) 0 0 0
  b : Below w.heap.size w u
theorem WS.keep {w : World} {v : Value} {t e d : Int} {f : Stk} {u u' : World} (h : WS w v t e d f u) (hb : Below (w.heap.size + 3) u u') : WS w v t e d f u' :=
  ⟨h.h.below hb (by omega), RowAt.below h.s hb (by omega), h.r.below hb (by omega), h.b.trans (hb.mono (by omega))⟩
theorem WS.lt {w : World} {v : Value} {t e d : Int} {f : Stk} {u : World} (h : WS w v t e d f u) : w.heap.size + 3 ≤ u.heap.size := h.r.lt
theorem WS.next {w : World} {v : Value} {t e d : Int} {f : Stk} {u u' : World} (h : WS w v t e d f u) (hb : Below u.heap.size u u') : WS w v t e d f u' := h.keep (hb.mono h.lt)
theorem set_flat {xs : List Stk} {k : Nat} (f : Stk) (hk : k < xs.length) : (xs.set k f).flatMap stkC = (xs.take k).flatMap stkC ++ stkC f ++ (xs.drop (k + 1)).flatMap stkC := by
  rw [List.set_eq_take_append_cons_drop, if_pos hk]
  simp
theorem sizeStk (u : World) : (sizeOf 179).run Tryd.prog u = .ok 25 u := by kernel_rfl
/-- the slice behind a kind -/
theorem run_rest (a : Addr) (n c k : Nat) (hk : k ≤ n) (z : Int) (hz : z = (k : Int)) : ∃ A : Addr, (0 < n - k → n ≤ c → A = a.add (k * 25)) ∧ ∀ u : World, (Instr.sliceAt 56 (.slice (some a) n c) (some (.int .i64 z)) none none).run Tryd.prog u = .ok (.slice (some A) (n - k) (c - k)) u := by
  subst hz
  have ht : Tryd.prog.underlying 56 = some (.slice (Tryd.prog.elem 56)) := by kernel_rfl
  have he : Tryd.prog.elem 56 = 179 := by kernel_rfl
  refine ⟨if c = k then a else a.add (k * 25), fun h0 h1 => by rw [if_neg (by omega)], fun u => ?_⟩
  rw [run_sliceAt_slice u _ _ _ _ _ ht, run_slice_l u _ (some a) n c ht .i64 (k : Int) (by omega) (by omega), he, sizeStk, Result.andThen_ok, sliced]
  simp only [Int.toNat_natCast]
  split <;> rfl
set_option maxRecDepth 100000 in
set_option maxHeartbeats 8000000 in
theorem withKind_any (A : Option Addr) (n c : Nat) (xs : List Stk) (t e d : Int) (en : n = xs.length) (hn : n ≤ 4) (hc : n ≤ c) (_hc2 : c ≤ maxLen) (k : Nat) (hk : k < n) (f : Stk) (w : World) (hg : Sl stkC 25 w w.heap.size A xs) :
    Calls Tryd.prog 147 #[houV (.slice A n c) t e d, .int .i64 (k : Nat), stkV f] w fun o w' => ∃ v, o = .returned (houV v t e d) ∧ KO w' w.heap.size v (xs.set k f) ∧ Below w.heap.size w w' := by
  obtain ⟨i0, hi, hz0, hz1, hz2⟩ := info_parts infoSs
  obtain ⟨a, rfl⟩ : ∃ a, A = some a := by
    obtain ⟨y, hy⟩ : ∃ y, xs[k]? = some y := ⟨xs[k]'(by omega), List.getElem?_eq_getElem _⟩
    obtain ⟨a, h, _⟩ := hg.at_ k y hy
    exact ⟨a, h⟩
  obtain ⟨R, hR, hsl⟩ := run_rest a n c (k + 1) (by omega) ((k : Int) + 1) (by omega)
  have HSL := Lib.hid hsl
  have HOLD : Hid (∀ u : World, Below w.heap.size w u → ∀ j x, ((xs.take k).flatMap stkC)[j]? = some x → u.cell? (a.add j) = some x) := Lib.hid fun u hb j x hx => sl_cells (sl_take (hg.below hb) k) j x hx
  have HNEW : Hid (∀ u : World, Below w.heap.size w u → ∀ j x, ((xs.drop (k + 1)).flatMap stkC)[j]? = some x → u.cell? (R.add j) = some x) := Lib.hid fun u hb j x hx => by
    have hl := (List.getElem?_eq_some_iff.1 hx).1
    rw [flat_len (stkC_len _), List.length_drop] at hl
    rw [hR (by omega) hc]
    exact sl_cells (sl_drop (hg.below hb) (k + 1)) j x hx
  have HLO : Hid (((xs.take k).flatMap stkC).length = k * 25) := Lib.hid (by rw [flat_len (stkC_len _), List.length_take]; omega)
  have HLN : Hid (((xs.drop (k + 1)).flatMap stkC).length = (n - (k + 1)) * 25) := Lib.hid (by rw [flat_len (stkC_len _), List.length_drop]; omega)
  have HSET := Lib.hid (set_flat (xs := xs) f (by omega : k < xs.length))
  have HWR : Hid (IntKind.i64.wrap ((k : Int) + 1) = (k : Int) + 1) := Lib.hid (IntWalk.i64_in _ (by omega))
  have En := Lib.hid en
  obtain ⟨u1, hu1⟩ : ∃ u1, u1 = ((w.alloc (.cells #[.slice (some a) n c, .int .i16 t, .int .i8 e, .int .i16 d] 58)).alloc (.cells (stkCs f) 179)).alloc (.cells #[.slice none 0 0, .int .i16 0, .int .i8 0, .int .i16 0] 58) := ⟨_, rfl⟩
  have N1 : Hid (WS w (.slice (some a) n c) t e d f u1) := Lib.hid (by
    rw [hu1]
    have b1 : Below w.heap.size w (w.alloc (.cells #[.slice (some a) n c, .int .i16 t, .int .i8 e, .int .i16 d] 58)) := (Below.refl _ _).alloc (Nat.le_refl _) _
    refine ⟨((HouAt.new w _ t e d _).next ((Below.refl _ _).alloc (Nat.le_refl _) _)).next ((Below.refl _ _).alloc (Nat.le_refl _) _), ?_, ?_, (b1.alloc (by simp) _).alloc (by simp; omega) _⟩
    · have := ((StkOwn.new (w.alloc (.cells #[.slice (some a) n c, .int .i16 t, .int .i8 e, .int .i16 d] 58)) f 179).next ((Below.refl _ _).alloc (Nat.le_refl _) (.cells #[.slice none 0 0, .int .i16 0, .int .i8 0, .int .i16 0] 58))).toRowAt
      rwa [World.size_alloc] at this
    · have := HouAt.new ((w.alloc (.cells #[.slice (some a) n c, .int .i16 t, .int .i8 e, .int .i16 d] 58)).alloc (.cells (stkCs f) 179)) (.slice none 0 0) 0 0 0 58
      rwa [World.size_alloc, World.size_alloc] at this)
  have HU := Lib.hid hu1
  have q0 := N1.out.h.c0
  clear hu1 hR hg en hsl
  go_enter Tryd.func147, Tryd.ntmps147
  go_wp2_with (first | (rw [← HU.out]) | fail)
  have N2 := Lib.hid (N1.out.next (Below.refl _ _).drew)
  refine wp_region_held_drew (S := fun u => StkAt u (w.heap.size + 1) 0 f ∧ Below w.heap.size w u) (by kernel_rfl) ⟨N2.out.s, N2.out.b⟩ (fun hHeld => ?_)
  generalize u1.drew = u2 at N2 hHeld ⊢
  clear N1 HU q0
  refine wpAnyH_take (i := 0) (v := ?_) rfl (by kernel_rfl) (by kernel_rfl) (by kernel_rfl) (fun _ _ _ h => h) (Or.inl ⟨by rfl, ?_⟩) (by assumption) ?_
  rotate_left
  · intro u hSu
    (try dsimp only at hSu)
    first | (go_simp; done) | (go_simp; with_reducible rfl)
  try simp only [Act.put, List.getElem_toArray, List.getElem_cons_zero, List.setIfInBounds_toArray, List.set_cons_zero, List.set_cons_succ]
  refine wpAnyH_take (i := 1) (v := stkV f) rfl (by kernel_rfl) (by kernel_rfl) (by kernel_rfl) (fun _ _ _ h => h) (yieldsIf_load_mid (by rfl) 179 (.tmp 5) rfl (w.heap.size + 1) 0 rfl (lst 25 (cellS f)) _ (fun u h => h.1.range) Tryd.underlying179 rfl (by rw [infoS, lst_len])) hHeld ?_
  (try simp only [Act.put, List.getElem_toArray, List.getElem_cons_zero, List.getElem_cons_succ, List.setIfInBounds_toArray, List.set_cons_zero, List.set_cons_succ])
  refine wpAnyH_take (i := 4) (v := ?_) rfl (by kernel_rfl) (by kernel_rfl) (by kernel_rfl) (fun _ _ _ h => h) (Or.inl ⟨by rfl, ?_⟩) (by assumption) ?_
  rotate_left
  · intro u hSu
    (try dsimp only at hSu)
    first | (go_simp; done) | (go_simp; with_reducible rfl)
  try simp only [Act.put, List.getElem_toArray, List.getElem_cons_zero, List.getElem_cons_succ, List.setIfInBounds_toArray, List.set_cons_zero, List.set_cons_succ]
  refine wpAnyH_take (i := 6) (v := ?_) rfl (by kernel_rfl) (by kernel_rfl) (by kernel_rfl) (fun _ _ _ h => h) (Or.inl ⟨by rfl, ?_⟩) (by assumption) ?_
  rotate_left
  · intro u hSu
    (try dsimp only at hSu)
    first | (go_simp; done) | (go_simp; with_reducible rfl)
  try simp only [Act.put, List.getElem_toArray, List.getElem_cons_zero, List.getElem_cons_succ, List.setIfInBounds_toArray, List.set_cons_zero, List.set_cons_succ]
  refine wpAnyH_take (i := 7) (v := ?_) rfl (by kernel_rfl) (by kernel_rfl) (by kernel_rfl) (fun _ _ _ h => h) (Or.inl ⟨by rfl, ?_⟩) (by assumption) ?_
  rotate_left
  · intro u hSu
    (try dsimp only at hSu)
    first | (go_simp; done) | (go_simp; with_reducible rfl)
  try simp only [Act.put, List.getElem_toArray, List.getElem_cons_zero, List.getElem_cons_succ, List.setIfInBounds_toArray, List.set_cons_zero, List.set_cons_succ]
  refine wpAnyH_ready (rs := [2, 5]) (by kernel_rfl) (by simp) ?_
  refine AllReadyH.cons rfl (fun K hK => ?_) (AllReadyH.cons rfl (fun K hK => ?_) AllReadyH.nil)
  · rw [if_pos (by kernel_rfl)]
    refine wp_listed' 56 1 _ rfl #[(0, stkV f)] ?hp (build_stocks _ _) ?_
    case hp => simp [Act.eval]
    have NC := Lib.hid (new_cells f u2 179)
    have N3 := Lib.hid (N2.out.next ((Below.refl _ _).alloc (Nat.le_refl _) (.cells (stkCs f) 179)))
    refine hK.out _ _ (⟨N3.out.s, N3.out.b⟩) (fun hHeld2 => ?_)
    clear hK K hHeld
    have hHeld := hHeld2
    clear hHeld2
    try simp only [Act.put, List.getElem_toArray, List.getElem_cons_zero, List.getElem_cons_succ, List.setIfInBounds_toArray, List.set_cons_zero, List.set_cons_succ]
    refine wpAnyH_ready (rs := [3, 5]) (by kernel_rfl) (by simp) ?_
    refine AllReadyH.cons rfl (fun K hK => ?_) (AllReadyH.cons rfl (fun K hK => ?_) AllReadyH.nil)
    · rw [if_pos (by kernel_rfl)]
      refine wp_append_full (.tmp 13) (.tmp 15) 56 rfl 179 i0 (.agg (stkCs zeroS)) 25 52 Tryd.underlying56 hi hz0 hz1 hz2 (stkCs_size _) (by decide) a k k _ rfl HLO.out (HOLD.out _ N3.out.b) ⟨u2.heap.size, 0, none⟩ 1 1 (stkC f) rfl (lst_len _ _) NC.out (Nat.lt_succ_self _) (by unfold maxLen; omega) (by omega) ?_
      intro v5 w5 hown hgr
      have N5 := Lib.hid (N3.out.keep ((Below.refl (w.heap.size + 3) _).grown hgr N3.out.lt (fun g hg => by cases hg)))
      have HO5 := Lib.hid (owns_below hown N3.out.lt)
      clear hown hgr
      refine hK.out _ _ (⟨N5.out.s, N5.out.b⟩) (fun hHeld2 => ?_)
      clear hK K hHeld
      have hHeld := hHeld2
      clear hHeld2
      try simp only [Act.put, List.getElem_toArray, List.getElem_cons_zero, List.getElem_cons_succ, List.setIfInBounds_toArray, List.set_cons_zero, List.set_cons_succ]
      refine wpAnyH_ready (rs := [5]) (by kernel_rfl) (by simp) ?_
      refine AllReadyH.cons rfl (fun K hK => ?_) AllReadyH.nil
      have r0 := N5.out.h.c0
      go_simp
      refine hK.out _ _ (hHeld) (fun hHeld2 => ?_)
      clear hK K hHeld
      have hHeld := hHeld2
      clear hHeld2
      try simp only [Act.put, List.getElem_toArray, List.getElem_cons_zero, List.getElem_cons_succ, List.setIfInBounds_toArray, List.set_cons_zero, List.set_cons_succ]
      clear r0
      refine wpAnyH_take (i := 8) (v := .slice (some R) (n - (k + 1)) (c - (k + 1))) rfl (by kernel_rfl) (by kernel_rfl) (by kernel_rfl) (fun _ _ _ h => h) (Or.inl ⟨by rfl, fun u _ => ?_⟩) hHeld ?_
      · first | exact HSL.out u | (simp [execOp, Act.eval, HWR.out, HSL.out u])
      (try simp only [Act.put, List.getElem_toArray, List.getElem_cons_zero, List.getElem_cons_succ, List.setIfInBounds_toArray, List.set_cons_zero, List.set_cons_succ])
      refine wpAnyH_ready (rs := [9]) (by kernel_rfl) (by simp) ?_
      refine AllReadyH.cons rfl (fun K hK => ?_) AllReadyH.nil
      rw [if_pos (by kernel_rfl)]
      refine wp_append_own _ (.tmp 16) (.tmp 21) 56 rfl (w.heap.size + 3) 179 i0 (.agg (stkCs zeroS)) 25 52 Tryd.underlying56 hi hz0 hz1 hz2 (stkCs_size _) (by decide) v5 (k + 1) _ rfl HO5.out R (n - (k + 1)) (c - (k + 1)) ((xs.drop (k + 1)).flatMap stkC) rfl HLN.out (HNEW.out _ N5.out.b) (fun u hu => by obtain ⟨q, _, hq⟩ := List.mem_flatMap.1 hu; exact stkC_one q u hq) (by unfold maxLen; omega) (by omega) N5.out.lt ?_
      intro v6 w6 hown hgr _
      obtain ⟨A6, c6, rfl, _⟩ := owns_slice hown
      have N6 := Lib.hid (N5.out.keep ((Below.refl (w.heap.size + 3) _).grown hgr N5.out.lt (fun g hg => (HO5.out.lt g hg).1)))
      have HO6 := Lib.hid hown
      clear hown hgr
      refine hK.out _ _ (⟨N6.out.s, N6.out.b⟩) (fun hHeld2 => ?_)
      clear hK K hHeld
      have hHeld := hHeld2
      clear hHeld2
      try simp only [Act.put, List.getElem_toArray, List.getElem_cons_zero, List.getElem_cons_succ, List.setIfInBounds_toArray, List.set_cons_zero, List.set_cons_succ]
      refine wpAnyH_take (i := 10) (v := ?_) rfl (by kernel_rfl) (by kernel_rfl) (by kernel_rfl) (fun _ _ _ h => h) (Or.inl ⟨by rfl, ?_⟩) (by assumption) ?_
      rotate_left
      · intro u hSu
        (try dsimp only at hSu)
        first | (go_simp; done) | (go_simp; with_reducible rfl)
      try simp only [Act.put, List.getElem_toArray, List.getElem_cons_zero, List.getElem_cons_succ, List.setIfInBounds_toArray, List.set_cons_zero, List.set_cons_succ]
      have s0 := N6.out.h.c0
      have f0 := N6.out.h.fz 0
      refine wpAnyH_ready (rs := [11]) (by kernel_rfl) (by simp) ?_
      refine AllReadyH.cons rfl (fun K hK => ?_) AllReadyH.nil
      go_simp
      have H7 := HouAt.set0 N6.out.h (.slice A6 (k + 1 + (n - (k + 1))) c6)
      have R7 := HouAt.set_ne N6.out.r (p := ⟨w.heap.size, 0, none⟩) (by simp) (.slice A6 (k + 1 + (n - (k + 1))) c6)
      have B7 := Lib.hid (N6.out.b.setCell (p := ⟨w.heap.size, 0, none⟩) (Nat.le_refl _) (.slice A6 (k + 1 + (n - (k + 1))) c6))
      have HO7 := Lib.hid (owns_other HO6.out (grownBy_set (grownBy_refl w6 (some w.heap.size)) (p := ⟨w.heap.size, 0, none⟩) rfl (.slice A6 (k + 1 + (n - (k + 1))) c6)) fun q hq => by have := (HO6.out.lt q hq).1; omega)
      refine hK.out _ _ (⟨RowAt.set_other N6.out.s (by simp) _, B7.out⟩) (fun hHeld2 => ?_)
      clear hK K hHeld
      have hHeld := hHeld2
      clear hHeld2
      try simp only [Act.put, List.getElem_toArray, List.getElem_cons_zero, List.getElem_cons_succ, List.setIfInBounds_toArray, List.set_cons_zero, List.set_cons_succ]
      refine wpAnyH_done (by kernel_rfl) ?_ _
      clear s0 f0 hHeld
      generalize w6.setCell ⟨w.heap.size, 0, none⟩ (.slice A6 (k + 1 + (n - (k + 1))) c6) = w7 at H7 R7 B7 HO7 ⊢
      have e0 := H7.c0
      have e1 := H7.c1
      have e2 := H7.c2
      have e3 := H7.c3
      have r0 := R7.c0
      have r1 := R7.c1
      have r2 := R7.c2
      have r3 := R7.c3
      have q0 := R7.fz 0
      have q1 := R7.fz 1
      have q2 := R7.fz 2
      have q3 := R7.fz 3
      have HRT := Lib.hid R7.there
      clear H7 R7
      go_wp2_with fail
      refine bodyPost_ret (v := houV (.slice A6 (k + 1 + (n - (k + 1))) c6) t e d) (results_stored (u := w7) (b := w.heap.size + 2) (cs := houL (.slice A6 (k + 1 + (n - (k + 1))) c6) t e d) Tryd.results147 rfl HRT.out Tryd.underlying58 rfl (by kernel_rfl)) rfl ⟨_, rfl, ?_, ?_⟩
      · have ho := owns_other HO7.out (grownBy_cells (houL (.slice A6 (k + 1 + (n - (k + 1))) c6) t e d) 0 (grownBy_refl w7 (some (w.heap.size + 2)))) fun q hq => by have := (HO7.out.lt q hq).1; omega
        refine ⟨?_⟩
        have hl2 : (xs.set k f).length = k + 1 + (n - (k + 1)) := by rw [List.length_set]; have := En.out; omega
        rw [hl2, HSET.out]
        exact owns_below ho (by omega)
      · exact below_cells B7.out (by omega) (houL (.slice A6 (k + 1 + (n - (k + 1))) c6) t e d) 0
    · have r0 := N3.out.h.c0
      go_simp
      refine hK.out _ _ (hHeld) (fun hHeld2 => ?_)
      clear hK K hHeld
      have hHeld := hHeld2
      clear hHeld2
      try simp only [Act.put, List.getElem_toArray, List.getElem_cons_zero, List.getElem_cons_succ, List.setIfInBounds_toArray, List.set_cons_zero, List.set_cons_succ]
      clear r0
      refine wpAnyH_take (i := 8) (v := .slice (some R) (n - (k + 1)) (c - (k + 1))) rfl (by kernel_rfl) (by kernel_rfl) (by kernel_rfl) (fun _ _ _ h => h) (Or.inl ⟨by rfl, fun u _ => ?_⟩) hHeld ?_
      · first | exact HSL.out u | (simp [execOp, Act.eval, HWR.out, HSL.out u])
      (try simp only [Act.put, List.getElem_toArray, List.getElem_cons_zero, List.getElem_cons_succ, List.setIfInBounds_toArray, List.set_cons_zero, List.set_cons_succ])
      refine wpAnyH_ready (rs := [3]) (by kernel_rfl) (by simp) ?_
      refine AllReadyH.cons rfl (fun K hK => ?_) AllReadyH.nil
      rw [if_pos (by kernel_rfl)]
      refine wp_append_full (.tmp 13) (.tmp 15) 56 rfl 179 i0 (.agg (stkCs zeroS)) 25 52 Tryd.underlying56 hi hz0 hz1 hz2 (stkCs_size _) (by decide) a k k _ rfl HLO.out (HOLD.out _ N3.out.b) ⟨u2.heap.size, 0, none⟩ 1 1 (stkC f) rfl (lst_len _ _) NC.out (Nat.lt_succ_self _) (by unfold maxLen; omega) (by omega) ?_
      intro v5 w5 hown hgr
      have N5 := Lib.hid (N3.out.keep ((Below.refl (w.heap.size + 3) _).grown hgr N3.out.lt (fun g hg => by cases hg)))
      have HO5 := Lib.hid (owns_below hown N3.out.lt)
      clear hown hgr
      refine hK.out _ _ (⟨N5.out.s, N5.out.b⟩) (fun hHeld2 => ?_)
      clear hK K hHeld
      have hHeld := hHeld2
      clear hHeld2
      try simp only [Act.put, List.getElem_toArray, List.getElem_cons_zero, List.getElem_cons_succ, List.setIfInBounds_toArray, List.set_cons_zero, List.set_cons_succ]
      refine wpAnyH_ready (rs := [9]) (by kernel_rfl) (by simp) ?_
      refine AllReadyH.cons rfl (fun K hK => ?_) AllReadyH.nil
      rw [if_pos (by kernel_rfl)]
      refine wp_append_own _ (.tmp 16) (.tmp 21) 56 rfl (w.heap.size + 3) 179 i0 (.agg (stkCs zeroS)) 25 52 Tryd.underlying56 hi hz0 hz1 hz2 (stkCs_size _) (by decide) v5 (k + 1) _ rfl HO5.out R (n - (k + 1)) (c - (k + 1)) ((xs.drop (k + 1)).flatMap stkC) rfl HLN.out (HNEW.out _ N5.out.b) (fun u hu => by obtain ⟨q, _, hq⟩ := List.mem_flatMap.1 hu; exact stkC_one q u hq) (by unfold maxLen; omega) (by omega) N5.out.lt ?_
      intro v6 w6 hown hgr _
      obtain ⟨A6, c6, rfl, _⟩ := owns_slice hown
      have N6 := Lib.hid (N5.out.keep ((Below.refl (w.heap.size + 3) _).grown hgr N5.out.lt (fun g hg => (HO5.out.lt g hg).1)))
      have HO6 := Lib.hid hown
      clear hown hgr
      refine hK.out _ _ (⟨N6.out.s, N6.out.b⟩) (fun hHeld2 => ?_)
      clear hK K hHeld
      have hHeld := hHeld2
      clear hHeld2
      try simp only [Act.put, List.getElem_toArray, List.getElem_cons_zero, List.getElem_cons_succ, List.setIfInBounds_toArray, List.set_cons_zero, List.set_cons_succ]
      refine wpAnyH_take (i := 10) (v := ?_) rfl (by kernel_rfl) (by kernel_rfl) (by kernel_rfl) (fun _ _ _ h => h) (Or.inl ⟨by rfl, ?_⟩) (by assumption) ?_
      rotate_left
      · intro u hSu
        (try dsimp only at hSu)
        first | (go_simp; done) | (go_simp; with_reducible rfl)
      try simp only [Act.put, List.getElem_toArray, List.getElem_cons_zero, List.getElem_cons_succ, List.setIfInBounds_toArray, List.set_cons_zero, List.set_cons_succ]
      have s0 := N6.out.h.c0
      have f0 := N6.out.h.fz 0
      refine wpAnyH_ready (rs := [11]) (by kernel_rfl) (by simp) ?_
      refine AllReadyH.cons rfl (fun K hK => ?_) AllReadyH.nil
      go_simp
      have H7 := HouAt.set0 N6.out.h (.slice A6 (k + 1 + (n - (k + 1))) c6)
      have R7 := HouAt.set_ne N6.out.r (p := ⟨w.heap.size, 0, none⟩) (by simp) (.slice A6 (k + 1 + (n - (k + 1))) c6)
      have B7 := Lib.hid (N6.out.b.setCell (p := ⟨w.heap.size, 0, none⟩) (Nat.le_refl _) (.slice A6 (k + 1 + (n - (k + 1))) c6))
      have HO7 := Lib.hid (owns_other HO6.out (grownBy_set (grownBy_refl w6 (some w.heap.size)) (p := ⟨w.heap.size, 0, none⟩) rfl (.slice A6 (k + 1 + (n - (k + 1))) c6)) fun q hq => by have := (HO6.out.lt q hq).1; omega)
      refine hK.out _ _ (⟨RowAt.set_other N6.out.s (by simp) _, B7.out⟩) (fun hHeld2 => ?_)
      clear hK K hHeld
      have hHeld := hHeld2
      clear hHeld2
      try simp only [Act.put, List.getElem_toArray, List.getElem_cons_zero, List.getElem_cons_succ, List.setIfInBounds_toArray, List.set_cons_zero, List.set_cons_succ]
      refine wpAnyH_done (by kernel_rfl) ?_ _
      clear s0 f0 hHeld
      generalize w6.setCell ⟨w.heap.size, 0, none⟩ (.slice A6 (k + 1 + (n - (k + 1))) c6) = w7 at H7 R7 B7 HO7 ⊢
      have e0 := H7.c0
      have e1 := H7.c1
      have e2 := H7.c2
      have e3 := H7.c3
      have r0 := R7.c0
      have r1 := R7.c1
      have r2 := R7.c2
      have r3 := R7.c3
      have q0 := R7.fz 0
      have q1 := R7.fz 1
      have q2 := R7.fz 2
      have q3 := R7.fz 3
      have HRT := Lib.hid R7.there
      clear H7 R7
      go_wp2_with fail
      refine bodyPost_ret (v := houV (.slice A6 (k + 1 + (n - (k + 1))) c6) t e d) (results_stored (u := w7) (b := w.heap.size + 2) (cs := houL (.slice A6 (k + 1 + (n - (k + 1))) c6) t e d) Tryd.results147 rfl HRT.out Tryd.underlying58 rfl (by kernel_rfl)) rfl ⟨_, rfl, ?_, ?_⟩
      · have ho := owns_other HO7.out (grownBy_cells (houL (.slice A6 (k + 1 + (n - (k + 1))) c6) t e d) 0 (grownBy_refl w7 (some (w.heap.size + 2)))) fun q hq => by have := (HO7.out.lt q hq).1; omega
        refine ⟨?_⟩
        have hl2 : (xs.set k f).length = k + 1 + (n - (k + 1)) := by rw [List.length_set]; have := En.out; omega
        rw [hl2, HSET.out]
        exact owns_below ho (by omega)
      · exact below_cells B7.out (by omega) (houL (.slice A6 (k + 1 + (n - (k + 1))) c6) t e d) 0
  · have r0 := N2.out.h.c0
    go_simp
    refine hK.out _ _ (hHeld) (fun hHeld2 => ?_)
    clear hK K hHeld
    have hHeld := hHeld2
    clear hHeld2
    try simp only [Act.put, List.getElem_toArray, List.getElem_cons_zero, List.getElem_cons_succ, List.setIfInBounds_toArray, List.set_cons_zero, List.set_cons_succ]
    clear r0
    refine wpAnyH_take (i := 8) (v := .slice (some R) (n - (k + 1)) (c - (k + 1))) rfl (by kernel_rfl) (by kernel_rfl) (by kernel_rfl) (fun _ _ _ h => h) (Or.inl ⟨by rfl, fun u _ => ?_⟩) hHeld ?_
    · first | exact HSL.out u | (simp [execOp, Act.eval, HWR.out, HSL.out u])
    (try simp only [Act.put, List.getElem_toArray, List.getElem_cons_zero, List.getElem_cons_succ, List.setIfInBounds_toArray, List.set_cons_zero, List.set_cons_succ])
    refine wpAnyH_ready (rs := [2]) (by kernel_rfl) (by simp) ?_
    refine AllReadyH.cons rfl (fun K hK => ?_) AllReadyH.nil
    rw [if_pos (by kernel_rfl)]
    refine wp_listed' 56 1 _ rfl #[(0, stkV f)] ?hp (build_stocks _ _) ?_
    case hp => simp [Act.eval]
    have NC := Lib.hid (new_cells f u2 179)
    have N3 := Lib.hid (N2.out.next ((Below.refl _ _).alloc (Nat.le_refl _) (.cells (stkCs f) 179)))
    refine hK.out _ _ (⟨N3.out.s, N3.out.b⟩) (fun hHeld2 => ?_)
    clear hK K hHeld
    have hHeld := hHeld2
    clear hHeld2
    try simp only [Act.put, List.getElem_toArray, List.getElem_cons_zero, List.getElem_cons_succ, List.setIfInBounds_toArray, List.set_cons_zero, List.set_cons_succ]
    refine wpAnyH_ready (rs := [3]) (by kernel_rfl) (by simp) ?_
    refine AllReadyH.cons rfl (fun K hK => ?_) AllReadyH.nil
    rw [if_pos (by kernel_rfl)]
    refine wp_append_full (.tmp 13) (.tmp 15) 56 rfl 179 i0 (.agg (stkCs zeroS)) 25 52 Tryd.underlying56 hi hz0 hz1 hz2 (stkCs_size _) (by decide) a k k _ rfl HLO.out (HOLD.out _ N3.out.b) ⟨u2.heap.size, 0, none⟩ 1 1 (stkC f) rfl (lst_len _ _) NC.out (Nat.lt_succ_self _) (by unfold maxLen; omega) (by omega) ?_
    intro v5 w5 hown hgr
    have N5 := Lib.hid (N3.out.keep ((Below.refl (w.heap.size + 3) _).grown hgr N3.out.lt (fun g hg => by cases hg)))
    have HO5 := Lib.hid (owns_below hown N3.out.lt)
    clear hown hgr
    refine hK.out _ _ (⟨N5.out.s, N5.out.b⟩) (fun hHeld2 => ?_)
    clear hK K hHeld
    have hHeld := hHeld2
    clear hHeld2
    try simp only [Act.put, List.getElem_toArray, List.getElem_cons_zero, List.getElem_cons_succ, List.setIfInBounds_toArray, List.set_cons_zero, List.set_cons_succ]
    refine wpAnyH_ready (rs := [9]) (by kernel_rfl) (by simp) ?_
    refine AllReadyH.cons rfl (fun K hK => ?_) AllReadyH.nil
    rw [if_pos (by kernel_rfl)]
    refine wp_append_own _ (.tmp 16) (.tmp 21) 56 rfl (w.heap.size + 3) 179 i0 (.agg (stkCs zeroS)) 25 52 Tryd.underlying56 hi hz0 hz1 hz2 (stkCs_size _) (by decide) v5 (k + 1) _ rfl HO5.out R (n - (k + 1)) (c - (k + 1)) ((xs.drop (k + 1)).flatMap stkC) rfl HLN.out (HNEW.out _ N5.out.b) (fun u hu => by obtain ⟨q, _, hq⟩ := List.mem_flatMap.1 hu; exact stkC_one q u hq) (by unfold maxLen; omega) (by omega) N5.out.lt ?_
    intro v6 w6 hown hgr _
    obtain ⟨A6, c6, rfl, _⟩ := owns_slice hown
    have N6 := Lib.hid (N5.out.keep ((Below.refl (w.heap.size + 3) _).grown hgr N5.out.lt (fun g hg => (HO5.out.lt g hg).1)))
    have HO6 := Lib.hid hown
    clear hown hgr
    refine hK.out _ _ (⟨N6.out.s, N6.out.b⟩) (fun hHeld2 => ?_)
    clear hK K hHeld
    have hHeld := hHeld2
    clear hHeld2
    try simp only [Act.put, List.getElem_toArray, List.getElem_cons_zero, List.getElem_cons_succ, List.setIfInBounds_toArray, List.set_cons_zero, List.set_cons_succ]
    refine wpAnyH_take (i := 10) (v := ?_) rfl (by kernel_rfl) (by kernel_rfl) (by kernel_rfl) (fun _ _ _ h => h) (Or.inl ⟨by rfl, ?_⟩) (by assumption) ?_
    rotate_left
    · intro u hSu
      (try dsimp only at hSu)
      first | (go_simp; done) | (go_simp; with_reducible rfl)
    try simp only [Act.put, List.getElem_toArray, List.getElem_cons_zero, List.getElem_cons_succ, List.setIfInBounds_toArray, List.set_cons_zero, List.set_cons_succ]
    have s0 := N6.out.h.c0
    have f0 := N6.out.h.fz 0
    refine wpAnyH_ready (rs := [11]) (by kernel_rfl) (by simp) ?_
    refine AllReadyH.cons rfl (fun K hK => ?_) AllReadyH.nil
    go_simp
    have H7 := HouAt.set0 N6.out.h (.slice A6 (k + 1 + (n - (k + 1))) c6)
    have R7 := HouAt.set_ne N6.out.r (p := ⟨w.heap.size, 0, none⟩) (by simp) (.slice A6 (k + 1 + (n - (k + 1))) c6)
    have B7 := Lib.hid (N6.out.b.setCell (p := ⟨w.heap.size, 0, none⟩) (Nat.le_refl _) (.slice A6 (k + 1 + (n - (k + 1))) c6))
    have HO7 := Lib.hid (owns_other HO6.out (grownBy_set (grownBy_refl w6 (some w.heap.size)) (p := ⟨w.heap.size, 0, none⟩) rfl (.slice A6 (k + 1 + (n - (k + 1))) c6)) fun q hq => by have := (HO6.out.lt q hq).1; omega)
    refine hK.out _ _ (⟨RowAt.set_other N6.out.s (by simp) _, B7.out⟩) (fun hHeld2 => ?_)
    clear hK K hHeld
    have hHeld := hHeld2
    clear hHeld2
    try simp only [Act.put, List.getElem_toArray, List.getElem_cons_zero, List.getElem_cons_succ, List.setIfInBounds_toArray, List.set_cons_zero, List.set_cons_succ]
    refine wpAnyH_done (by kernel_rfl) ?_ _
    clear s0 f0 hHeld
    generalize w6.setCell ⟨w.heap.size, 0, none⟩ (.slice A6 (k + 1 + (n - (k + 1))) c6) = w7 at H7 R7 B7 HO7 ⊢
    have e0 := H7.c0
    have e1 := H7.c1
    have e2 := H7.c2
    have e3 := H7.c3
    have r0 := R7.c0
    have r1 := R7.c1
    have r2 := R7.c2
    have r3 := R7.c3
    have q0 := R7.fz 0
    have q1 := R7.fz 1
    have q2 := R7.fz 2
    have q3 := R7.fz 3
    have HRT := Lib.hid R7.there
    clear H7 R7
    go_wp2_with fail
    refine bodyPost_ret (v := houV (.slice A6 (k + 1 + (n - (k + 1))) c6) t e d) (results_stored (u := w7) (b := w.heap.size + 2) (cs := houL (.slice A6 (k + 1 + (n - (k + 1))) c6) t e d) Tryd.results147 rfl HRT.out Tryd.underlying58 rfl (by kernel_rfl)) rfl ⟨_, rfl, ?_, ?_⟩
    · have ho := owns_other HO7.out (grownBy_cells (houL (.slice A6 (k + 1 + (n - (k + 1))) c6) t e d) 0 (grownBy_refl w7 (some (w.heap.size + 2)))) fun q hq => by have := (HO7.out.lt q hq).1; omega
      refine ⟨?_⟩
      have hl2 : (xs.set k f).length = k + 1 + (n - (k + 1)) := by rw [List.length_set]; have := En.out; omega
      rw [hl2, HSET.out]
      exact owns_below ho (by omega)
    · exact below_cells B7.out (by omega) (houL (.slice A6 (k + 1 + (n - (k + 1))) c6) t e d) 0
end Go.Proofs.YtdcckdfemelbiaaDoor.hou

/-
  Pieces added to a house: what comes of it, and what the program keeps.
-/
namespace Go.Proofs.YtdcckdfemelbiaaDoor.hou
open Go Go.RowKit sl row stk errs fold

/-- which error, of a number out of its range -/
def codeI (b : Bool) : Nat := if b = true then 0 else 2
def inK (k : Int) (n : Nat) : Bool := decide (0 ≤ k ∧ k < n)
def inP (p : Int) : Bool := decide (0 ≤ p ∧ p ≤ 500)
def codeB (xs : List Stk) (t e d k p : Int) : Nat := firstCode [codeO xs t e d, codeI (inK k xs.length), codeI (inP p)]
def addS (f : Stk) (p : Int) : Stk := upd f 7 (f 7 + p)
def kindS (xs : List Stk) (k : Int) : Stk := (xs[k.toNat]?).getD zeroS
def codeA (xs : List Stk) (t e d k p : Int) : Nat := if codeB xs t e d k p = 0 then (if validS (addS (kindS xs k) p) = true then 0 else 3) else codeB xs t e d k p
def addK (xs : List Stk) (t e d k p : Int) : List Stk := if codeA xs t e d k p = 0 then xs.set k.toNat (addS (kindS xs k) p) else []
def addN (xs : List Stk) (t e d k p y : Int) : Int := if codeA xs t e d k p = 0 then y else 0
theorem codeB_zero {xs : List Stk} {t e d k p : Int} (h : codeB xs t e d k p = 0) : houOk xs t e d = true ∧ (0 ≤ k ∧ k < xs.length) ∧ 0 ≤ p ∧ p ≤ 500 := by
  unfold codeB codeO codeI at h
  by_cases a1 : houOk xs t e d = true
  · by_cases a2 : inK k xs.length = true
    · by_cases a3 : inP p = true
      · exact ⟨a1, of_decide_eq_true a2, of_decide_eq_true a3⟩
      · rw [if_pos a1, if_pos a2, if_neg a3] at h; cases h
    · rw [if_pos a1, if_neg a2] at h; cases h
  · rw [if_neg a1] at h; cases h
theorem codeB_or (xs : List Stk) (t e d k p : Int) : codeB xs t e d k p = 0 ∨ codeB xs t e d k p = 1 ∨ codeB xs t e d k p = 2 := by
  unfold codeB codeO codeI
  by_cases a1 : houOk xs t e d = true
  · rw [if_pos a1]
    by_cases a2 : inK k xs.length = true
    · rw [if_pos a2]
      by_cases a3 : inP p = true
      · rw [if_pos a3]; exact .inl rfl
      · rw [if_neg a3]; exact .inr (.inr rfl)
    · rw [if_neg a2]; exact .inr (.inr rfl)
  · rw [if_neg a1]; exact .inr (.inl rfl)
/-- the stock of a kind, in a house that is valid -/
theorem kind_good {xs : List Stk} {t e d k : Int} (h : houOk xs t e d = true) (hk : 0 ≤ k ∧ k < xs.length) : xs[k.toNat]? = some (kindS xs k) ∧ stk.Good (kindS xs k) := by
  obtain ⟨y, hy⟩ : ∃ y, xs[k.toNat]? = some y := ⟨xs[k.toNat]'(by omega), List.getElem?_eq_getElem _⟩
  have e1 : kindS xs k = y := by unfold kindS; rw [hy]; rfl
  rw [e1]
  refine ⟨hy, valid_good.1 ?_⟩
  unfold houOk at h
  rw [Bool.and_eq_true, List.all_eq_true] at h
  exact h.2 y (List.mem_of_getElem? hy)
/-- a house and the variable of a result -/
structure HR (w : World) (v : Value) (t e d : Int) (u : World) : Prop where
  h : HouAt u w.heap.size v t e d
  r : HouAt u (w.heap.size + 1) (.slice none 0 0) 0 0 0
  b : Below w.heap.size w u
theorem HR.lt {w : World} {v : Value} {t e d : Int} {u : World} (h : HR w v t e d u) : w.heap.size + 2 ≤ u.heap.size := h.r.lt
theorem HR.keep {w : World} {v : Value} {t e d : Int} {u u' : World} (h : HR w v t e d u) (hb : Below (w.heap.size + 2) u u') : HR w v t e d u' :=
  ⟨h.h.below hb (by omega), h.r.below hb (by omega), h.b.trans (hb.mono (by omega))⟩
theorem HR.next {w : World} {v : Value} {t e d : Int} {u u' : World} (h : HR w v t e d u) (hb : Below u.heap.size u u') : HR w v t e d u' := h.keep (hb.mono h.lt)
theorem HR.new (w : World) (v : Value) (t e d : Int) (T T' : TypeId) : HR w v t e d ((w.alloc (.cells #[v, .int .i16 t, .int .i8 e, .int .i16 d] T)).alloc (.cells #[.slice none 0 0, .int .i16 0, .int .i8 0, .int .i16 0] T')) := by
  refine ⟨(HouAt.new w v t e d T).next ((Below.refl _ _).alloc (Nat.le_refl _) _), ?_, ((Below.refl _ _).alloc (Nat.le_refl _) _).alloc (by simp) _⟩
  have := HouAt.new (w.alloc (.cells #[v, .int .i16 t, .int .i8 e, .int .i16 d] T)) (.slice none 0 0) 0 0 0 T'
  rwa [World.size_alloc] at this
end Go.Proofs.YtdcckdfemelbiaaDoor.hou

/-
  What a day asks, and how many days there are: checkNeeds, checkToday, checkDayCount; the model's l05Needs.
-/
namespace Go.Proofs.YtdcckdfemelbiaaDoor.hou
open Go Go.RowKit sl row stk errs fold

def codeW (n : Nat) (ns : List Int) : Nat := if ns.length = n ∧ pcsOk ns = true then 0 else 2
def codeT (d : Int) : Nat := if d = 60 then 4 else 0
theorem codeY_first (s : List Stk × Int) (ns : List Int) : firstCode [codeW s.1.length ns, codeT s.2] = codeY s ns := by
  unfold codeW codeT codeY
  by_cases a : ns.length = s.1.length ∧ pcsOk ns = true
  · rw [if_pos a, if_pos a]
    by_cases b : s.2 = 60
    · rw [if_pos b]; rfl
    · rw [if_neg b]; rfl
  · rw [if_neg a, if_neg a]; rfl
set_option maxRecDepth 100000 in
set_option maxHeartbeats 4000000 in
theorem checkNeeds_any (A : Option Addr) (n c : Nat) (t x d : Int) (_hn : n ≤ 9223372036854775807) (A' : Option Addr) (m c' : Nat) (ns : List Int) (em : m = ns.length) (hm : m ≤ 9223372036854775807) {w : World} {B : Nat} {e : Nat → Addr} (h : Errs w B e) (hB : B ≤ w.heap.size) (hg : Sl intS.C 1 w w.heap.size A' ns) (k0 : Nat) (hk : k0 = codeW n ns) :
    Calls Tryd.prog 167 #[houV (.slice A n c) t x d, .slice A' m c'] w fun o w' => o = .returned (errOf e k0) ∧ Below w.heap.size w w' := by
  have HA := Lib.hid (HouAt.new w (.slice A n c) t x d 58)
  have B0 := Lib.hid ((Below.refl w.heap.size w).alloc (Nat.le_refl _) (.cells #[.slice A n c, .int .i16 t, .int .i8 x, .int .i16 d] 58))
  have HE := Lib.hid (h.below (B0.out.mono hB))
  have c0 := HA.out.c0
  have Em := Lib.hid em
  have HG := Lib.hid (hg.below B0.out)
  by_cases hmn : m = n
  · have hk2 : k0 = if pcsOk ns = true then 0 else 2 := by
      rw [hk, codeW, ← em]
      by_cases a : pcsOk ns = true
      · rw [if_pos ⟨hmn, a⟩, if_pos a]
      · rw [if_neg (fun h => a h.2), if_neg a]
    have HK := Lib.hid hk2
    have hne : ((m : Int) != (n : Int)) = false := by rw [hmn]; simp
    clear em hk hk2 hmn h HA
    go_enter Tryd.func167, Tryd.ntmps167
    go_wp2_with fail
    refine (checkPieces_any A' m c' ns Em.out hm HE.out (HG.out.more B0.out.size) k0 HK.out).mono ?_
    rintro o u ⟨rfl, hw⟩
    obtain rfl := hw.symm
    clear hw
    go_wp2_with fail
    go_ret
    exact ⟨rfl, B0.out⟩
  · have hk2 : k0 = 2 := by rw [hk, codeW, ← em, if_neg (fun h => hmn h.1)]
    subst hk2
    have hne : ((m : Int) != (n : Int)) = true := by rw [bne_iff_ne]; omega
    have hc1 := HE.out.c1
    clear em hk hmn h HA
    go_enter Tryd.func167, Tryd.ntmps167
    go_wp2_with fail
    go_ret
    exact ⟨rfl, B0.out⟩
set_option maxRecDepth 100000 in
set_option maxHeartbeats 4000000 in
theorem checkToday_any (v : Value) (t x d : Int) {w : World} {B : Nat} {e : Nat → Addr} (h : Errs w B e) (hB : B ≤ w.heap.size) (k0 : Nat) (hk : k0 = codeT d) :
    Calls Tryd.prog 168 #[houV v t x d] w fun o w' => o = .returned (errOf e k0) ∧ Below w.heap.size w w' := by
  have HA := Lib.hid (HouAt.new w v t x d 58)
  have B0 := Lib.hid ((Below.refl w.heap.size w).alloc (Nat.le_refl _) (.cells #[v, .int .i16 t, .int .i8 x, .int .i16 d] 58))
  have HE := Lib.hid (h.below (B0.out.mono hB))
  have c3 := HA.out.c3
  have hc3 := HE.out.c3
  by_cases hd : d = 60
  · have hk2 : k0 = 4 := by rw [hk, codeT, if_pos hd]
    subst hk2 hd
    clear hk h HA
    go_enter Tryd.func168, Tryd.ntmps168
    go_wp2_with fail
    go_ret
    exact ⟨rfl, B0.out⟩
  · have hk2 : k0 = 0 := by rw [hk, codeT, if_neg hd]
    subst hk2
    have hne : (d == 60) = false := by simpa using hd
    clear hk h HA hd
    go_enter Tryd.func168, Tryd.ntmps168
    go_wp2_with fail
    go_ret
    exact ⟨rfl, B0.out⟩
set_option maxRecDepth 100000 in
set_option maxHeartbeats 4000000 in
theorem checkDayCount_any (A : Option Addr) (n c : Nat) (hn : n ≤ 9223372036854775807) {w : World} {B : Nat} {e : Nat → Addr} (h : Errs w B e) (k0 : Nat) (hk : k0 = if 60 < n then 3 else 0) :
    Calls Tryd.prog 115 #[.slice A n c] w fun o w' => o = .returned (errOf e k0) ∧ w' = w := by
  have hc2 := h.c2
  by_cases hd : 60 < n
  · have hk2 : k0 = 3 := by rw [hk, if_pos hd]
    subst hk2
    clear hk h
    go_enter Tryd.func115, Tryd.ntmps115
    go_wp2_with fail
    go_ret
    exact ⟨rfl, rfl⟩
  · have hk2 : k0 = 0 := by rw [hk, if_neg hd]
    subst hk2
    clear hk h
    go_enter Tryd.func115, Tryd.ntmps115
    go_wp2_with fail
    go_ret
    exact ⟨rfl, rfl⟩
set_option maxRecDepth 100000 in
set_option maxHeartbeats 4000000 in
theorem l05Needs_any (A : Option Addr) (m c : Nat) (ns : List Int) (em : m = ns.length) (hm : m ≤ 9223372036854775807) (n : Nat) (_hn : n ≤ 9223372036854775807) (w : World) (hg : Sl intS.C 1 w w.heap.size A ns) (b : Bool) (hb : b = decide (ns.length = n ∧ pcsOk ns = true)) :
    Calls Tryd.prog 117 #[.slice A m c, .int .i64 (n : Int)] w fun o w' => o = .returned (.bool b) ∧ w' = w := by
  have Em := Lib.hid em
  have HB := Lib.hid hb
  clear em hb
  go_enter Tryd.func117, Tryd.ntmps117
  go_wp2_with fail
  go_loopw [5] (fun vi wr => ∃ k : Nat, k ≤ m ∧ vi = .int .i64 (k : Nat) ∧ (∀ i x, i < k → ns[i]? = some x → 0 ≤ x ∧ x ≤ 500) ∧ wr = w) (fun vi _ => m - (intOf vi).toNat)
  case atStart => exact ⟨0, by omega, rfl, fun i x hi => absurd hi (by omega), rfl⟩
  case round =>
    obtain ⟨k, hk, rfl, hval, rfl⟩ := hrel
    have HV := Lib.hid hval
    clear hval
    by_cases hlt : k < m
    · obtain ⟨x, hx⟩ : ∃ x, ns[k]? = some x := ⟨ns[k]'(by have := Em.out; omega), List.getElem?_eq_getElem _⟩
      obtain ⟨a, rfl, hab, hat⟩ := hg.at_ k x hx
      have q0 := intS.at_ hat
      have HX := Lib.hid hx
      obtain ⟨b1, hb1⟩ : ∃ b1, b1 = decide (0 ≤ x ∧ x ≤ 500) := ⟨_, rfl⟩
      have HB1 := Lib.hid hb1
      clear hx hat hb1
      go_wp2_with fail
      refine (l05Count_any x b1 HB1.out _).mono ?_
      rintro o u ⟨rfl, rfl⟩
      cases b1 with
      | false =>
        go_wp2_with fail
        go_ret
        have hno : decide (ns.length = n ∧ pcsOk ns = true) = false := decide_eq_false (fun hp => by
          have h1 := pcsOk_iff.1 hp.2 x (List.mem_of_getElem? HX.out)
          have h2 := HB1.out
          rw [decide_eq_true h1] at h2
          cases h2)
        exact ⟨ret_bool (by rw [HB.out, hno]), rfl⟩
      | true =>
        go_wp2_with fail
        go_roundw
        case rel => exact ⟨k + 1, by omega, by go_num, fun i y hi hy => by
          rcases Nat.lt_or_ge i k with h1 | h1
          · exact HV.out i y h1 hy
          · obtain rfl : i = k := by omega
            rw [HX.out] at hy
            obtain rfl := Option.some.inj hy
            exact (of_decide_eq_true HB1.out.symm), by trivial⟩
        case measure => simp [intOf]; omega
    · obtain rfl : k = m := by omega
      have hall : pcsOk ns = true := pcsOk_iff.2 fun x hx => by
        obtain ⟨i, hi⟩ := List.mem_iff_getElem?.1 hx
        exact HV.out i x (by have := (List.getElem?_eq_some_iff.1 hi).1; have := Em.out; omega) hi
      have HALL := Lib.hid hall
      clear hall
      by_cases hkn : k = n
      · have hne : ((k : Int) == (n : Int)) = true := by rw [beq_iff_eq]; omega
        go_wp2_with fail
        go_ret
        have hyes : decide (ns.length = n ∧ pcsOk ns = true) = true := decide_eq_true ⟨by have := Em.out; omega, HALL.out⟩
        exact ⟨ret_bool (by rw [HB.out, hyes]), rfl⟩
      · have hne : ((k : Int) == (n : Int)) = false := by rw [beq_eq_false_iff_ne]; omega
        go_wp2_with fail
        go_ret
        have hno : decide (ns.length = n ∧ pcsOk ns = true) = false := decide_eq_false (fun h => hkn (by have := Em.out; have := h.1; omega))
        exact ⟨ret_bool (by rw [HB.out, hno]), rfl⟩
end Go.Proofs.YtdcckdfemelbiaaDoor.hou

/-
  What a change of a house asks of it, the model's: l05Asked.
-/
namespace Go.Proofs.YtdcckdfemelbiaaDoor.hou
open Go Go.RowKit sl row stk errs fold

def codeQ (xs : List Stk) (t e d k : Int) (q : Bool) : Nat := firstCode [codeO xs t e d, codeI (inK k xs.length), codeI q]
end Go.Proofs.YtdcckdfemelbiaaDoor.hou

/-
  A house copied, the model's: l05Own.
-/
namespace Go.Proofs.YtdcckdfemelbiaaDoor.hou
open Go Go.RowKit sl row stk errs fold

set_option maxRecDepth 100000 in
theorem build_none (u : World) : (Instr.buildSlice 56 0 #[]).run Tryd.prog u = .ok (.slice (some ⟨u.heap.size, 0, none⟩) 0 0) (u.alloc (.cells #[] 179)) := by
  kernel_rfl
theorem build_house (A : Option Addr) (n c : Nat) (t x d : Int) (u : World) : (Instr.build 58 #[(0, .slice A n c), (1, .int .i16 t), (2, .int .i8 x), (3, .int .i16 d)]).run Tryd.prog u = .ok (houV (.slice A n c) t x d) u := by
  kernel_rfl
set_option maxRecDepth 100000 in
set_option maxHeartbeats 8000000 in
theorem l05Own_any (g : Nat) (n c : Nat) (xs : List Stk) (t x d : Int) (en : n = xs.length) (hn : n ≤ 1048576) (hb0 : Nat) (w : World) (hA : HouAt w hb0 (.slice (some ⟨g, 0, none⟩) n c) t x d) (hg : Sl stkC 25 w w.heap.size (some ⟨g, 0, none⟩) xs) :
    Calls Tryd.prog 97 #[.pointer (some ⟨hb0, 0, none⟩)] w fun o w' => ∃ v, o = .returned (houV v t x d) ∧ KO w' w.heap.size v xs ∧ Below w.heap.size w w' := by
  obtain ⟨i0, hi, hz0, hz1, hz2⟩ := info_parts infoSs
  obtain ⟨w0, hw0⟩ : ∃ u, u = w.alloc (.cells #[.slice none 0 0, .int .i16 0, .int .i8 0, .int .i16 0] 58) := ⟨_, rfl⟩
  have R0 := Lib.hid (HouAt.new w (.slice none 0 0) 0 0 0 58)
  have B0 : Hid (Below w.heap.size w w0) := Lib.hid (by rw [hw0]; exact (Below.refl _ _).alloc (Nat.le_refl _) _)
  rw [← hw0] at R0
  have HLT := Lib.hid hA.lt
  have HA0 : Hid (HouAt w0 hb0 (.slice (some ⟨g, 0, none⟩) n c) t x d) := Lib.hid (hA.below B0.out hA.lt)
  have HC : Hid (∀ u, Below w.heap.size w u → ∀ j y, (xs.flatMap stkC)[j]? = some y → u.cell? ((⟨g, 0, none⟩ : Addr).add j) = some y) := Lib.hid fun u hu j y hy => sl_cells (hg.below hu) j y hy
  have HL : Hid ((xs.flatMap stkC).length = n * 25) := Lib.hid (by rw [flat_len (stkC_len _), en])
  have En := Lib.hid en
  have HW0 := Lib.hid hw0
  clear hw0 en hg hA
  go_enter Tryd.func97, Tryd.ntmps97
  go_wp2_with (first | (rw [← HW0.out]) | fail)
  refine wp_region_held_drew (S := fun u => HouAt u hb0 (.slice (some ⟨g, 0, none⟩) n c) t x d ∧ Below w.heap.size w u) (by kernel_rfl) ⟨HA0.out.next (Below.refl _ _).drew, B0.out.drew⟩ (fun hHeld => ?_)
  have R1 := Lib.hid (R0.out.next (Below.refl _ _).drew)
  have B1 := Lib.hid (B0.out.drew)
  have HA1 := Lib.hid (HA0.out.next (Below.refl _ _).drew)
  generalize w0.drew = w1 at R1 B1 HA1 hHeld ⊢
  clear R0 B0 HA0 HW0
  refine wpAnyH_take (i := 1) (v := ?_) rfl (by kernel_rfl) (by kernel_rfl) (by kernel_rfl) (fun _ _ _ h => h) (Or.inl ⟨by rfl, ?_⟩) (by assumption) ?_
  rotate_left
  · intro u hSu
    (try dsimp only at hSu)
    first | (go_simp; done) | (go_simp; with_reducible rfl)
  try simp only [Act.put, List.getElem_toArray, List.getElem_cons_zero, List.getElem_cons_succ, List.setIfInBounds_toArray, List.set_cons_zero, List.set_cons_succ]
  refine wpAnyH_take (i := 2) (v := ?_) rfl (by kernel_rfl) (by kernel_rfl) (by kernel_rfl) (fun _ _ _ h => h) (Or.inl ⟨by rfl, ?_⟩) (by assumption) ?_
  rotate_left
  · intro u hSu
    (try dsimp only at hSu)
    first | (go_simp; done) | (go_simp; with_reducible rfl)
  try simp only [Act.put, List.getElem_toArray, List.getElem_cons_zero, List.getElem_cons_succ, List.setIfInBounds_toArray, List.set_cons_zero, List.set_cons_succ]
  refine wpAnyH_take (i := 3) (v := ?_) rfl (by kernel_rfl) (by kernel_rfl) (by kernel_rfl) (fun _ _ _ h => h) (Or.inl ⟨by rfl, ?_⟩) (by assumption) ?_
  rotate_left
  · intro u hSu
    (try dsimp only at hSu)
    first | (go_simp; done) | (go_simp; with_reducible rfl)
  try simp only [Act.put, List.getElem_toArray, List.getElem_cons_zero, List.getElem_cons_succ, List.setIfInBounds_toArray, List.set_cons_zero, List.set_cons_succ]
  refine wpAnyH_take (i := 4) (v := .slice (some ⟨g, 0, none⟩) n c) rfl (by kernel_rfl) (by kernel_rfl) (by kernel_rfl) (fun _ _ _ h => h) (Or.inl ⟨by rfl, ?_⟩) hHeld ?_
  · intro u hSu
    have hq := hSu.1.c0
    clear hSu
    first | (go_simp; done) | (go_simp; with_reducible rfl)
  (try simp only [Act.put, List.getElem_toArray, List.getElem_cons_zero, List.getElem_cons_succ, List.setIfInBounds_toArray, List.set_cons_zero, List.set_cons_succ])
  refine wpAnyH_take (i := 6) (v := ?_) rfl (by kernel_rfl) (by kernel_rfl) (by kernel_rfl) (fun _ _ _ h => h) (Or.inl ⟨by rfl, ?_⟩) (by assumption) ?_
  rotate_left
  · intro u hSu
    (try dsimp only at hSu)
    first | (go_simp; done) | (go_simp; with_reducible rfl)
  try simp only [Act.put, List.getElem_toArray, List.getElem_cons_zero, List.getElem_cons_succ, List.setIfInBounds_toArray, List.set_cons_zero, List.set_cons_succ]
  refine wpAnyH_take (i := 7) (v := ?_) rfl (by kernel_rfl) (by kernel_rfl) (by kernel_rfl) (fun _ _ _ h => h) (Or.inl ⟨by rfl, ?_⟩) (by assumption) ?_
  rotate_left
  · intro u hSu
    (try dsimp only at hSu)
    first | (go_simp; done) | (go_simp; with_reducible rfl)
  try simp only [Act.put, List.getElem_toArray, List.getElem_cons_zero, List.getElem_cons_succ, List.setIfInBounds_toArray, List.set_cons_zero, List.set_cons_succ]
  refine wpAnyH_take (i := 8) (v := ?_) rfl (by kernel_rfl) (by kernel_rfl) (by kernel_rfl) (fun _ _ _ h => h) (Or.inl ⟨by rfl, ?_⟩) (by assumption) ?_
  rotate_left
  · intro u hSu
    (try dsimp only at hSu)
    first | (go_simp; done) | (go_simp; with_reducible rfl)
  try simp only [Act.put, List.getElem_toArray, List.getElem_cons_zero, List.getElem_cons_succ, List.setIfInBounds_toArray, List.set_cons_zero, List.set_cons_succ]
  refine wpAnyH_take (i := 9) (v := .int .i16 t) rfl (by kernel_rfl) (by kernel_rfl) (by kernel_rfl) (fun _ _ _ h => h) (Or.inl ⟨by rfl, ?_⟩) hHeld ?_
  · intro u hSu
    have hq := hSu.1.c1
    clear hSu
    first | (go_simp; done) | (go_simp; with_reducible rfl)
  (try simp only [Act.put, List.getElem_toArray, List.getElem_cons_zero, List.getElem_cons_succ, List.setIfInBounds_toArray, List.set_cons_zero, List.set_cons_succ])
  refine wpAnyH_take (i := 10) (v := ?_) rfl (by kernel_rfl) (by kernel_rfl) (by kernel_rfl) (fun _ _ _ h => h) (Or.inl ⟨by rfl, ?_⟩) (by assumption) ?_
  rotate_left
  · intro u hSu
    (try dsimp only at hSu)
    first | (go_simp; done) | (go_simp; with_reducible rfl)
  try simp only [Act.put, List.getElem_toArray, List.getElem_cons_zero, List.getElem_cons_succ, List.setIfInBounds_toArray, List.set_cons_zero, List.set_cons_succ]
  refine wpAnyH_take (i := 11) (v := ?_) rfl (by kernel_rfl) (by kernel_rfl) (by kernel_rfl) (fun _ _ _ h => h) (Or.inl ⟨by rfl, ?_⟩) (by assumption) ?_
  rotate_left
  · intro u hSu
    (try dsimp only at hSu)
    first | (go_simp; done) | (go_simp; with_reducible rfl)
  try simp only [Act.put, List.getElem_toArray, List.getElem_cons_zero, List.getElem_cons_succ, List.setIfInBounds_toArray, List.set_cons_zero, List.set_cons_succ]
  refine wpAnyH_take (i := 12) (v := ?_) rfl (by kernel_rfl) (by kernel_rfl) (by kernel_rfl) (fun _ _ _ h => h) (Or.inl ⟨by rfl, ?_⟩) (by assumption) ?_
  rotate_left
  · intro u hSu
    (try dsimp only at hSu)
    first | (go_simp; done) | (go_simp; with_reducible rfl)
  try simp only [Act.put, List.getElem_toArray, List.getElem_cons_zero, List.getElem_cons_succ, List.setIfInBounds_toArray, List.set_cons_zero, List.set_cons_succ]
  refine wpAnyH_take (i := 13) (v := .int .i8 x) rfl (by kernel_rfl) (by kernel_rfl) (by kernel_rfl) (fun _ _ _ h => h) (Or.inl ⟨by rfl, ?_⟩) hHeld ?_
  · intro u hSu
    have hq := hSu.1.c2
    clear hSu
    first | (go_simp; done) | (go_simp; with_reducible rfl)
  (try simp only [Act.put, List.getElem_toArray, List.getElem_cons_zero, List.getElem_cons_succ, List.setIfInBounds_toArray, List.set_cons_zero, List.set_cons_succ])
  refine wpAnyH_take (i := 14) (v := ?_) rfl (by kernel_rfl) (by kernel_rfl) (by kernel_rfl) (fun _ _ _ h => h) (Or.inl ⟨by rfl, ?_⟩) (by assumption) ?_
  rotate_left
  · intro u hSu
    (try dsimp only at hSu)
    first | (go_simp; done) | (go_simp; with_reducible rfl)
  try simp only [Act.put, List.getElem_toArray, List.getElem_cons_zero, List.getElem_cons_succ, List.setIfInBounds_toArray, List.set_cons_zero, List.set_cons_succ]
  refine wpAnyH_take (i := 15) (v := ?_) rfl (by kernel_rfl) (by kernel_rfl) (by kernel_rfl) (fun _ _ _ h => h) (Or.inl ⟨by rfl, ?_⟩) (by assumption) ?_
  rotate_left
  · intro u hSu
    (try dsimp only at hSu)
    first | (go_simp; done) | (go_simp; with_reducible rfl)
  try simp only [Act.put, List.getElem_toArray, List.getElem_cons_zero, List.getElem_cons_succ, List.setIfInBounds_toArray, List.set_cons_zero, List.set_cons_succ]
  refine wpAnyH_take (i := 16) (v := ?_) rfl (by kernel_rfl) (by kernel_rfl) (by kernel_rfl) (fun _ _ _ h => h) (Or.inl ⟨by rfl, ?_⟩) (by assumption) ?_
  rotate_left
  · intro u hSu
    (try dsimp only at hSu)
    first | (go_simp; done) | (go_simp; with_reducible rfl)
  try simp only [Act.put, List.getElem_toArray, List.getElem_cons_zero, List.getElem_cons_succ, List.setIfInBounds_toArray, List.set_cons_zero, List.set_cons_succ]
  refine wpAnyH_take (i := 17) (v := .int .i16 d) rfl (by kernel_rfl) (by kernel_rfl) (by kernel_rfl) (fun _ _ _ h => h) (Or.inl ⟨by rfl, ?_⟩) hHeld ?_
  · intro u hSu
    have hq := hSu.1.c3
    clear hSu
    first | (go_simp; done) | (go_simp; with_reducible rfl)
  (try simp only [Act.put, List.getElem_toArray, List.getElem_cons_zero, List.getElem_cons_succ, List.setIfInBounds_toArray, List.set_cons_zero, List.set_cons_succ])
  refine wpAnyH_ready (rs := [0]) (by kernel_rfl) (by simp) ?_
  refine AllReadyH.cons rfl (fun K hK => ?_) AllReadyH.nil
  rw [if_pos (by kernel_rfl)]
  refine wp_listed' 56 0 _ rfl #[] ?hp (build_none _) ?_
  case hp => simp [Act.eval]
  have hown := Lib.hid (World.ownsRow_made (e := 179) (size := 25) w1 #[] 0 R1.out.lt (Nat.zero_le _) rfl)
  have bb : Below w1.heap.size w1 (w1.alloc (.cells #[] 179)) := (Below.refl _ _).alloc (Nat.le_refl _) _
  have HA2 := Lib.hid (HA1.out.next bb)
  have R2 := Lib.hid (R1.out.next bb)
  have B2 := Lib.hid (below_next B1.out bb (Nat.le_refl _))
  clear bb
  refine hK.out _ _ (⟨HA2.out, B2.out⟩) (fun hHeld2 => ?_)
  clear hK K hHeld
  have hHeld := hHeld2
  clear hHeld2
  try simp only [Act.put, List.getElem_toArray, List.getElem_cons_zero, List.setIfInBounds_toArray, List.set_cons_zero, List.set_cons_succ]
  refine wpAnyH_ready (rs := [5]) (by kernel_rfl) (by simp) ?_
  refine AllReadyH.cons rfl (fun K hK => ?_) AllReadyH.nil
  rw [if_pos (by kernel_rfl)]
  refine wp_append_own _ (.tmp 3) (.tmp 7) 56 rfl (w.heap.size + 1) 179 i0 (.agg (stkCs zeroS)) 25 52 Tryd.underlying56 hi hz0 hz1 hz2 (stkCs_size _) (by decide) (.slice (some ⟨w1.heap.size, 0, none⟩) 0 0) 0 [] rfl hown.out ⟨g, 0, none⟩ n c (xs.flatMap stkC) rfl HL.out (HC.out _ B2.out) (fun u hu => by obtain ⟨q, _, hq⟩ := List.mem_flatMap.1 hu; exact stkC_one q u hq) (by unfold maxLen; omega) (by omega) R2.out.lt ?_
  intro v3 w3 hP hgr _
  rw [List.nil_append, Nat.zero_add] at hP
  obtain ⟨A3, c3, rfl, _⟩ := owns_slice hP
  have hb3 : Below (w.heap.size + 1) (w1.alloc (.cells #[] 179)) w3 := (Below.refl _ _).grown hgr R2.out.lt (fun q hq => (hown.out.lt q hq).1)
  have HA3 := Lib.hid (HA2.out.below hb3 (Nat.lt_succ_of_lt HLT.out))
  have R3 := Lib.hid (R2.out.below hb3 (Nat.lt_succ_self _))
  have B3 := Lib.hid (B2.out.trans (hb3.mono (Nat.le_succ _)))
  have HP := Lib.hid hP
  clear hP hgr hb3
  refine hK.out _ _ (⟨HA3.out, B3.out⟩) (fun hHeld2 => ?_)
  clear hK K hHeld
  have hHeld := hHeld2
  clear hHeld2
  try simp only [Act.put, List.getElem_toArray, List.getElem_cons_zero, List.getElem_cons_succ, List.setIfInBounds_toArray, List.set_cons_zero, List.set_cons_succ]
  refine wpAnyH_take (i := 18) (v := houV (.slice A3 n c3) t x d) rfl (by kernel_rfl) (by kernel_rfl) (by kernel_rfl) (fun _ _ _ h => h) (Or.inl ⟨by rfl, fun u _ => ?_⟩) hHeld ?_
  · simp [execOp, Act.eval, build_house]
  (try simp only [Act.put, List.getElem_toArray, List.getElem_cons_zero, List.getElem_cons_succ, List.setIfInBounds_toArray, List.set_cons_zero, List.set_cons_succ])
  have r0 := R3.out.c0
  have r1 := R3.out.c1
  have r2 := R3.out.c2
  have r3 := R3.out.c3
  have q0 := R3.out.fz 0
  have q1 := R3.out.fz 1
  have q2 := R3.out.fz 2
  have q3 := R3.out.fz 3
  refine wpAnyH_ready (rs := [19]) (by kernel_rfl) (by simp) ?_
  refine AllReadyH.cons rfl (fun K hK => ?_) AllReadyH.nil
  go_simp
  have bb : Below w.heap.size w3 (w3.setCells w.heap.size 0 (houL (.slice A3 n c3) t x d)) := below_cells (Below.refl _ _) (Nat.le_refl _) _ 0
  have HA4 := Lib.hid (HA3.out.below bb HLT.out)
  have B4 := Lib.hid (B3.out.trans bb)
  clear bb
  refine hK.out _ _ (⟨HA4.out, B4.out⟩) (fun hHeld2 => ?_)
  clear hK K hHeld
  have hHeld := hHeld2
  clear hHeld2
  try simp only [Act.put, List.getElem_toArray, List.getElem_cons_zero, List.getElem_cons_succ, List.setIfInBounds_toArray, List.set_cons_zero, List.set_cons_succ]
  refine wpAnyH_done (by kernel_rfl) ?_ _
  clear hHeld r0 r1 r2 r3 q0 q1 q2 q3
  go_wp2_with fail
  refine bodyPost_ret (v := houV (.slice A3 n c3) t x d) (results_stored (u := w3) (b := w.heap.size) (cs := houL (.slice A3 n c3) t x d) Tryd.results97 rfl R3.out.there Tryd.underlying58 rfl (by kernel_rfl)) rfl ⟨_, rfl, ?_, B4.out⟩
  refine ⟨?_⟩
  rw [← En.out]
  exact owns_below (owns_other HP.out (grownBy_cells (houL (.slice A3 n c3) t x d) 0 (grownBy_refl w3 (some w.heap.size))) fun q hq => by have := (HP.out.lt q hq).1; omega) (Nat.le_succ _)
end Go.Proofs.YtdcckdfemelbiaaDoor.hou

/-
  Pieces added to a house: AddPieces, the program's.
-/
namespace Go.Proofs.YtdcckdfemelbiaaDoor.hou
open Go Go.RowKit sl row stk errs fold

set_option maxRecDepth 100000 in
theorem build_one (p : Int) (u : World) : (Instr.buildSlice 22 1 #[(0, .int .i64 p)]).run Tryd.prog u = .ok (.slice (some ⟨u.heap.size, 0, none⟩) 1 1) (u.alloc (.cells #[.int .i64 p] 2)) := by
  kernel_rfl
end Go.Proofs.YtdcckdfemelbiaaDoor.hou

/-
  Houses of the call's own where other blocks are written.
-/
namespace Go.Proofs.YtdcckdfemelbiaaDoor.hou
open Go Go.RowKit sl row stk

theorem owns_same {w w' : World} {base : Nat} {e : TypeId} {sz : Nat} {v : Value} {n : Nat} {L : List Value} (h : w.ownsRow base e sz v n L) (hb : ∀ g, v.ownBlock = some g → w'.heap[g]? = w.heap[g]?) : w'.ownsRow base e sz v n L := by
  refine ⟨h.1, ?_⟩
  rcases h.2 with hn | ⟨g, cap, cur, rfl, hg, hh, rest⟩
  · exact .inl hn
  · exact .inr ⟨g, cap, cur, rfl, hg, (hb g rfl).trans hh, rest⟩
theorem HouAt.same {u u' : World} {b : Nat} {v : Value} {t e d : Int} (h : HouAt u b v t e d) (hs : u.heap.size ≤ u'.heap.size) (hb : u'.heap[b]? = u.heap[b]?) : HouAt u' b v t e d :=
  ⟨(World.cell?_of_block (a := ⟨b, 0, none⟩) hb).trans h.c0, (World.cell?_of_block (a := ⟨b, 1, none⟩) hb).trans h.c1, (World.cell?_of_block (a := ⟨b, 2, none⟩) hb).trans h.c2, (World.cell?_of_block (a := ⟨b, 3, none⟩) hb).trans h.c3,
    fun i => (World.frozen?_of_block (a := ⟨b, i, none⟩) hb).trans (h.fz i), Nat.lt_of_lt_of_le h.lt hs⟩
/-- a house of the call's own in a variable of the call's own -/
structure HV (u : World) (B b : Nat) (v : Value) (t x d : Int) (ks : List Stk) : Prop where
  h : HouAt u b v t x d
  k : KO u B v ks
theorem HV.next {u u' : World} {B b : Nat} {v : Value} {t x d : Int} {ks : List Stk} (h : HV u B b v t x d ks) (hb : Below u.heap.size u u') : HV u' B b v t x d ks := ⟨h.h.next hb, h.k.next hb⟩
theorem HV.same {u u' : World} {B b : Nat} {v : Value} {t x d : Int} {ks : List Stk} (h : HV u B b v t x d ks) (hs : u.heap.size ≤ u'.heap.size) (hb : u'.heap[b]? = u.heap[b]?) (hk : ∀ g, v.ownBlock = some g → u'.heap[g]? = u.heap[g]?) : HV u' B b v t x d ks :=
  ⟨h.h.same hs hb, ⟨owns_same h.k.o hk⟩⟩
theorem HV.new {u : World} {B : Nat} {v : Value} {ks : List Stk} (h : KO u B v ks) (t x d : Int) (T : TypeId) : HV (u.alloc (.cells #[v, .int .i16 t, .int .i8 x, .int .i16 d] T)) B u.heap.size v t x d ks :=
  ⟨HouAt.new u v t x d T, h.next ((Below.refl _ _).alloc (Nat.le_refl _) _)⟩
/-- two houses of the same stocks are equal -/
theorem eqHouse_same {u : World} {B B' : Nat} {v v' : Value} {t x d : Int} {ks : List Stk} (h : KO u B v ks) (h' : KO u B' v' ks) (hn : ks.length ≤ 1048576) :
    Calls Tryd.prog 43 #[houV v t x d, houV v' t x d] u fun o w' => o = .returned (.bool true) ∧ Below u.heap.size u w' := by
  obtain ⟨A, c, rfl, hs⟩ := h.sl
  obtain ⟨A', c', rfl, hs'⟩ := h'.sl
  exact eqHouse_any A A' ks.length ks.length c c' ks ks t x d t x d rfl rfl hn (by omega) u hs hs' true true (iff_of_true rfl (eqL_refl ks)) (by simp)
end Go.Proofs.YtdcckdfemelbiaaDoor.hou

/-
  Dirty pieces washed in a house: the program's washed.
-/
namespace Go.Proofs.YtdcckdfemelbiaaDoor.hou
open Go Go.RowKit sl row stk errs fold

/-- a copy's slice, its room and its cells -/
theorem KO.room {w : World} {B : Nat} {v : Value} {xs : List Stk} (h : KO w B v xs) (hn : 1 ≤ xs.length) : ∃ A c, v = .slice A xs.length c ∧ xs.length ≤ c ∧ c ≤ maxLen ∧ Sl stkC 25 w w.heap.size A xs := by
  obtain ⟨A, c, hv, hs⟩ := h.sl
  rcases h.o.2 with ⟨e, hn0⟩ | ⟨g, cap, cur, e, hg, hh, h1, h2, _⟩
  · omega
  · rw [hv] at e
    injection e with e1 e2 e3
    subst e1 e3
    exact ⟨_, _, hv, h1, h2, hs⟩
/-- another house in the variable -/
theorem HR.stored {w : World} {v : Value} {t e d : Int} {u : World} (h : HR w v t e d u) (v' : Value) (t' e' d' : Int) : HR w v' t' e' d' (u.setCells w.heap.size 0 (houL v' t' e' d')) := by
  have hg := grownBy_cells (houL v' t' e' d') 0 (grownBy_refl u (some w.heap.size))
  exact ⟨h.h.stored, h.r.same hg.size (hg.block _ h.r.lt (by simp)), below_cells h.b (Nat.le_refl _) _ _⟩
set_option maxRecDepth 100000 in
set_option maxHeartbeats 8000000 in
theorem washed_any (A : Option Addr) (n c : Nat) (xs : List Stk) (t x d : Int) (en : n = xs.length) (hn1 : 1 ≤ n) (hn : n ≤ 4) (hcap : n ≤ c) (hcm : c ≤ maxLen) (hgd : ∀ f ∈ xs, stk.Good f) (ht : 0 ≤ t ∧ t ≤ 1000) (w : World) (hg : Sl stkC 25 w w.heap.size A xs) :
    Calls Tryd.prog 101 #[houV (.slice A n c) t x d] w fun o w' => ∃ v, o = .returned (.tuple #[houV v t x d, .int .i64 (t - (washS xs t).2)]) ∧ KO w' w.heap.size v (washS xs t).1 ∧ Below w.heap.size w w' := by
  obtain ⟨u0, hu0⟩ : ∃ u0, u0 = (w.alloc (.cells #[.slice A n c, .int .i16 t, .int .i8 x, .int .i16 d] 58)).alloc (.cells #[.slice none 0 0, .int .i16 0, .int .i8 0, .int .i16 0] 58) := ⟨_, rfl⟩
  have H0 : Hid (HR w (.slice A n c) t x d u0) := Lib.hid (by rw [hu0]; exact HR.new w _ t x d _ _)
  have HU0 := Lib.hid hu0
  have HG := Lib.hid (fun (u : World) (hu : Below w.heap.size w u) => (hg.below hu).more hu.size)
  have En := Lib.hid en
  have HGD := Lib.hid hgd
  have HCP := Lib.hid (And.intro hcap hcm)
  have hzz : ∀ u : World, (zeroValue 179).run Tryd.prog u = .ok (.agg (stkCs zeroS)) u := (zero_of_info zeroSi).1
  have c0 := H0.out.h.c0
  have c1 := H0.out.h.c1
  clear hu0 en hgd hg hcap hcm
  go_enter Tryd.func101, Tryd.ntmps101
  go_wp2_with (first | (rw [← HU0.out]) | fail)
  go_loopw [4, 5, 6, 10] (fun v4 _ _ v10 wr => ∃ (i : Nat) (Ar : Option Addr) (cr : Nat), i ≤ n ∧ v10 = .int .i64 i ∧ v4 = .int .i64 (t - (washI xs t i).2) ∧ HR w (.slice Ar n cr) t x d wr ∧ (n ≤ cr ∧ cr ≤ maxLen) ∧ Sl stkC 25 wr wr.heap.size Ar (washI xs t i).1 ∧ (i = 0 ∨ KO wr (w.heap.size + 2) (.slice Ar n cr) (washI xs t i).1)) (fun _ _ _ v10 _ => n - (intOf v10).toNat)
  case atStart => exact ⟨0, A, c, by omega, rfl, by rw [washI_zero, Int.sub_self], H0.out, HCP.out, by rw [washI_zero]; exact HG.out _ H0.out.b, .inl rfl⟩
  case round =>
    clear c0 c1 HU0 H0
    obtain ⟨i, Ar, cr, hi, rfl, rfl, hR, hcr, hS, hK⟩ := hrel
    have HRR := Lib.hid hR
    have HCR := Lib.hid hcr
    have HS := Lib.hid hS
    have HK := Lib.hid hK
    have hgi := washI_good (xs := xs) (l := t) i HGD.out ht.1
    obtain ⟨l, hl⟩ : ∃ l, (washI xs t i).2 = l := ⟨_, rfl⟩
    rw [hl] at hgi ⊢
    have hl0 := hgi.2.1
    have hl1 := hgi.2.2
    have HGI := Lib.hid hgi.1
    have HL := Lib.hid hl
    clear hR hcr hS hK hgi hl
    by_cases hlt : i < n
    · obtain ⟨f, hf⟩ : ∃ f, xs[i]? = some f := ⟨xs[i]'(by have := En.out; omega), List.getElem?_eq_getElem _⟩
      obtain ⟨a, rfl, hab, hat⟩ := (HG.out _ HRR.out.b).at_ i f hf
      have HAT := Lib.hid hat
      have HFX := Lib.hid hf
      have hgf := HGD.out f (List.mem_of_getElem? hf)
      have HGF := Lib.hid hgf
      obtain ⟨w5, hw5⟩ : ∃ u, u = wr.alloc (.cells (stkCs zeroS) 179) := ⟨_, rfl⟩
      have T5 : Hid (StkOwn w5 wr.heap.size 0 zeroS) := Lib.hid (by rw [hw5]; exact StkOwn.new wr zeroS _)
      obtain ⟨w6, hw6⟩ : ∃ u, u = w5.setCells wr.heap.size 0 (lst 25 (cellS f)) := ⟨_, rfl⟩
      have T6 : Hid (StkOwn w6 wr.heap.size 0 f) := Lib.hid (by rw [hw6]; exact StkOwn.stored T5.out f)
      have hb6 : Below wr.heap.size wr w6 := by
        rw [hw6, hw5]
        exact below_cells ((Below.refl _ _).alloc (Nat.le_refl _) _) (Nat.le_refl _) _ _
      have HB6 := Lib.hid hb6
      have H6 := Lib.hid (HRR.out.next hb6)
      have HLR := Lib.hid HRR.out.lt
      have c1 := H6.out.h.c1
      have y0 : IntKind.i64.wrap t = t := IntWalk.i64_in _ (by omega)
      have y1 : wrap64 (t - (t - l)) = l := by unfold wrap64; omega
      have y2 : wrap64 (t - l) = t - l := by unfold wrap64; omega
      have HW5 := Lib.hid hw5
      have HW6 := Lib.hid hw6
      clear hf hat hab hgf hw5 hw6 hb6
      obtain ⟨cnt, hcnt⟩ : ∃ cnt, cnt = t - l := ⟨_, rfl⟩
      rw [← hcnt] at y1 y2 ⊢
      have HCN := Lib.hid hcnt
      clear hcnt
      go_wp2_with (first
        | (refine wpl_load_at rfl 179 (.tmp 13) rfl (a.add (i * 25)) rfl (stkC f) _ HAT.out Tryd.underlying179 rfl (by rw [infoS, lst_len]) ?_)
        | (rw [← HW5.out]; refine wpl_store_stk rfl (.tmp 6) (.tmp 14) rfl wr.heap.size 0 rfl (f := f) rfl T5.out ?_; rw [← HW6.out])
        | fail)
      refine (move_dc f HGF.out l (by omega) wr.heap.size 0 _ T6.out).mono ?_
      rintro o w8 ⟨rfl, hO, hC⟩
      obtain ⟨z, hz⟩ : ∃ z, z = wash1 f l := ⟨_, rfl⟩
      have hzg := wash1_good HGF.out hl0
      rw [show mv 16 0 0 8 (f, l) = z from hz.symm] at hO ⊢
      rw [← hz] at hzg
      obtain ⟨_, hz0, hz1⟩ := hzg
      have T8 := Lib.hid hO
      have hb8 := below_grown HB6.out hC.g HB6.out.size (Nat.le_refl _)
      have HB8 := Lib.hid hb8
      have H8 := Lib.hid (HRR.out.next hb8)
      have HS8 := Lib.hid ((HS.out.below hb8).more hb8.size)
      have hnx := washI_next (xs := xs) t HFX.out
      rw [HL.out, ← hz] at hnx
      have HNX := Lib.hid hnx
      have hlen := washI_len xs t i
      have HLEN := Lib.hid hlen
      have hi32 : wrap64 (l - z.2) = l - z.2 := by unfold wrap64; omega
      have hcz : wrap64 (cnt + (l - z.2)) = t - z.2 := by have := HCN.out; unfold wrap64; omega
      have HTZ := Lib.hid hcz
      clear hO hC hb8 hnx hlen hz T5 T6 HW5 HW6 c1 H6 HAT y0 y1 y2 HS
      have c0 := H8.out.h.c0
      have c1 := H8.out.h.c1
      have c2 := H8.out.h.c2
      have c3 := H8.out.h.c3
      have q0 := H8.out.h.fz 0
      have q1 := H8.out.h.fz 1
      have q2 := H8.out.h.fz 2
      have q3 := H8.out.h.fz 3
      have HL8 := Lib.hid H8.out.lt
      go_wp2_with (first
        | (refine wpl_load_stk rfl (.tmp 6) rfl wr.heap.size 0 rfl (f := z.1) T8.out.toRowAt ?_)
        | fail)
      refine (withKind_any Ar n cr (washI xs t i).1 t x d (by rw [HLEN.out]; exact En.out) hn HCR.out.1 HCR.out.2 i hlt z.1 _ HS8.out).mono ?_
      rintro o w9 ⟨v9, rfl, hK, hb⟩
      have H9 := Lib.hid (H8.out.next hb)
      have hKl : 1 ≤ ((washI xs t i).1.set i z.1).length := by rw [List.length_set, HLEN.out]; have := En.out; omega
      obtain ⟨A9, c9, rfl, r1, r2, _⟩ := hK.room hKl
      have hl9 : ((washI xs t i).1.set i z.1).length = n := by rw [List.length_set, HLEN.out]; exact En.out.symm
      rw [hl9] at hK r1 ⊢
      have hK2 : KO w9 (w.heap.size + 2) (.slice A9 n c9) (washI xs t (i + 1)).1 := by
        rw [HNX.out]
        exact hK.mono (by have := HL8.out; omega)
      have HK2 := Lib.hid hK2
      have HRM := Lib.hid (And.intro r1 r2)
      have d0 := H9.out.h.c0
      have d1 := H9.out.h.c1
      have d2 := H9.out.h.c2
      have d3 := H9.out.h.c3
      have p0 := H9.out.h.fz 0
      have p1 := H9.out.h.fz 1
      have p2 := H9.out.h.fz 2
      have p3 := H9.out.h.fz 3
      clear hK hK2 hb hKl hl9 r1 r2 c0 c1 c2 c3 q0 q1 q2 q3 T8
      go_wp2_with fail
      go_roundw
      case rel =>
        have hk3 : KO (w9.setCells w.heap.size 0 (houL (.slice A9 n c9) t x d)) (w.heap.size + 2) (.slice A9 n c9) (washI xs t (i + 1)).1 := KO.cells HK2.out (by omega) 0 _
        have hln : (washI xs t (i + 1)).1.length = n := by rw [washI_len]; exact En.out.symm
        obtain ⟨A10, c10, e10, _, _, hs10⟩ := hk3.room (by omega)
        rw [hln] at e10
        injection e10 with e1 e2 e3
        subst e1
        exact ⟨i + 1, A9, c9, by omega, by go_num, by rw [HNX.out], H9.out.stored _ t x d, HRM.out, hs10, .inr hk3⟩
      case measure => simp [intOf]; omega
    · obtain rfl : i = n := by omega
      have hko : KO wr (w.heap.size + 2) (.slice Ar i cr) (washI xs t i).1 := HK.out.resolve_left (by omega)
      have hall := washI_all xs t
      rw [← En.out] at hall
      rw [hall] at hko
      have hl' : (washS xs t).2 = l := by rw [← hall]; exact HL.out
      have HKO := Lib.hid hko
      have HL2 := Lib.hid hl'
      have hR := HRR.out.r
      have r0 := hR.c0
      have r1 := hR.c1
      have r2 := hR.c2
      have r3 := hR.c3
      have q0 := hR.fz 0
      have q1 := hR.fz 1
      have q2 := hR.fz 2
      have q3 := hR.fz 3
      have c0 := HRR.out.h.c0
      have c1 := HRR.out.h.c1
      have c2 := HRR.out.h.c2
      have c3 := HRR.out.h.c3
      have HRT := Lib.hid hR
      have HLR := Lib.hid HRR.out.lt
      clear hko hall hl' hR
      go_wp2_with fail
      refine bodyPost_ret (v := .tuple #[houV (.slice Ar i cr) t x d, .int .i64 (t - l)]) (results_row_tmp (u := wr.setCells (w.heap.size + 1) 0 (houL (.slice Ar i cr) t x d)) (b := w.heap.size + 1) (cs := houL (.slice Ar i cr) t x d) Tryd.results101 rfl (World.rangeAt_setCells_same _ _ _ _ HRT.out.there) Tryd.underlying58 rfl (by kernel_rfl)) rfl ⟨_, by rw [HL2.out], ?_, ?_⟩
      · exact (KO.cells HKO.out (show w.heap.size + 1 < w.heap.size + 2 by omega) 0 (houL (.slice Ar i cr) t x d)).mono (by omega)
      · exact below_cells HRR.out.b (by omega) (houL _ t x d) 0
end Go.Proofs.YtdcckdfemelbiaaDoor.hou

/-
  WashHouse, the program's.
-/
namespace Go.Proofs.YtdcckdfemelbiaaDoor.hou
open Go Go.RowKit sl row stk errs fold

def wasK (xs : List Stk) (t e d : Int) : List Stk := if codeO xs t e d = 0 then (washS xs t).1 else []
def wasN (xs : List Stk) (t e d y : Int) : Int := if codeO xs t e d = 0 then y else 0
def wasC (xs : List Stk) (t e d : Int) : Int := if codeO xs t e d = 0 then t - (washS xs t).2 else 0
/-- a house of the call's own, a number and a code -/
def OwnW (w : World) (ks : List Stk) (t x d y z : Int) (o : Ending) (w' : World) : Prop :=
  ∃ v, o = .returned (.tuple #[houV v t x d, .int .i64 y, .int .i64 z]) ∧ KO w' w.heap.size v ks ∧ Below w.heap.size w w'
theorem codeO_zero {xs : List Stk} {t e d : Int} (h : codeO xs t e d = 0) : (1 ≤ xs.length ∧ xs.length ≤ 4) ∧ (0 ≤ t ∧ t ≤ 1000) ∧ ∀ f ∈ xs, stk.Good f := by
  have hq : houOk xs t e d = true := by
    unfold codeO at h
    by_cases a : houOk xs t e d = true
    · exact a
    · rw [if_neg a] at h; cases h
  unfold houOk at hq
  rw [Bool.and_eq_true] at hq
  have h1 := numsOk_iff.1 hq.1
  exact ⟨h1.1, h1.2.1, fun f hf => valid_good.1 (List.all_eq_true.1 hq.2 f hf)⟩
theorem codeO_or (xs : List Stk) (t e d : Int) : codeO xs t e d = 0 ∨ codeO xs t e d = 1 := by
  unfold codeO
  split
  · exact .inl rfl
  · exact .inr rfl
theorem results_row_2 {fn : Func} {s t r : Nat} {T : TypeId} (hf : fn.results = #[.cell s T, .tmp t, .tmp r]) {tmps : Array Value} {u : World} {b : Nat} {cs : List Value} {d : TypeDesc} (hs : tmps.getD s undef = .pointer (some ⟨b, 0, none⟩)) (h : u.rangeAt b 0 cs)
    (hu : Tryd.prog.underlying T = some d) (hd : d.isRow = true) (hi : (Tryd.prog.info? T).map (·.size) = some cs.length) :
    (results fn tmps).run Tryd.prog u = .ok (.tuple #[.agg cs.toArray, tmps.getD t undef, tmps.getD r undef]) u := by
  have hr := run_loadVar_mid (P := Tryd.prog) u b 0 T cs d h hu hd hi
  have hs' : tmps[s]?.getD undef = .pointer (some ⟨b, 0, none⟩) := by rw [← hs]; simp
  generalize hdv : Value.agg cs.toArray = dv at hr
  simp [results, hf, hs', hr, asAddr]
set_option maxRecDepth 100000 in
set_option maxHeartbeats 8000000 in
theorem WashHouse_any (A : Option Addr) (n c : Nat) (xs : List Stk) (t x d : Int) (en : n = xs.length) (hn : n ≤ 1048576) (hcap : n ≤ c) (hcm : c ≤ maxLen) (hf : ∀ x ∈ xs, Fits x) (ht : -32768 ≤ t ∧ t ≤ 32767) (hx : -128 ≤ x ∧ x ≤ 127) (hd : -32768 ≤ d ∧ d ≤ 32767)
    {w : World} {B : Nat} {e : Nat → Addr} (h : Errs w B e) (hB : B ≤ w.heap.size) (hg : Sl stkC 25 w w.heap.size A xs) :
    Calls Tryd.prog 42 #[houV (.slice A n c) t x d] w (OwnW w (wasK xs t x d) (wasN xs t x d t) (wasN xs t x d x) (wasN xs t x d d) (wasC xs t x d) (codeO xs t x d)) := by
  obtain ⟨u0, hu0⟩ : ∃ u0, u0 = (w.alloc (.cells #[.slice A n c, .int .i16 t, .int .i8 x, .int .i16 d] 58)).alloc (.cells #[.slice none 0 0, .int .i16 0, .int .i8 0, .int .i16 0] 58) := ⟨_, rfl⟩
  have H0 : Hid (HR w (.slice A n c) t x d u0) := Lib.hid (by rw [hu0]; exact HR.new w _ t x d _ _)
  have HU0 := Lib.hid hu0
  have HE : Hid (∀ u, HR w (.slice A n c) t x d u → Errs u B e ∧ B ≤ u.heap.size ∧ Sl stkC 25 u u.heap.size A xs) := Lib.hid fun u hu => ⟨h.below (hu.b.mono hB), Nat.le_trans hB hu.b.size, (hg.below hu.b).more hu.b.size⟩
  obtain ⟨k1, hk1⟩ : ∃ q, q = codeO xs t x d := ⟨_, rfl⟩
  have HK1 := Lib.hid hk1
  have hor := codeO_or xs t x d
  rw [← hk1] at hor
  have En := Lib.hid en
  have HFT := Lib.hid hf
  have HT := Lib.hid ht
  have HX := Lib.hid hx
  have HD := Lib.hid hd
  have HN := Lib.hid hn
  have HCP := Lib.hid (And.intro hcap hcm)
  have c0 := H0.out.h.c0
  have c1 := H0.out.h.c1
  have c2 := H0.out.h.c2
  have c3 := H0.out.h.c3
  clear hu0 hk1 en hf ht hx hd hn hg h hcap hcm
  go_enter Tryd.func42, Tryd.ntmps42
  go_wp2_with (first | (rw [← HU0.out]) | fail)
  refine (checkHouse_any A n c xs t x d En.out HN.out HFT.out HT.out HX.out HD.out (HE.out _ H0.out).1 (HE.out _ H0.out).2.1 (HE.out _ H0.out).2.2 k1 HK1.out).mono ?_
  rintro o w1 ⟨rfl, hb⟩
  have H1 := Lib.hid (H0.out.next hb)
  clear hb c0 c1 c2 c3 H0 HU0
  have c0 := H1.out.h.c0
  have c1 := H1.out.h.c1
  have c2 := H1.out.h.c2
  have c3 := H1.out.h.c3
  have hR := H1.out.r
  have r0 := hR.c0
  have r1 := hR.c1
  have r2 := hR.c2
  have r3 := hR.c3
  have q0 := hR.fz 0
  have q1 := hR.fz 1
  have q2 := hR.fz 2
  have q3 := hR.fz 3
  have HRT := Lib.hid hR
  clear hR
  rcases hor with rfl | rfl
  · obtain ⟨hn14, ht1, hgd⟩ := codeO_zero HK1.out.symm
    have e0 : errOf e 0 = .nilIface := rfl
    rw [e0]
    have hks : wasK xs t x d = (washS xs t).1 := by rw [wasK, if_pos HK1.out.symm]
    have hcc : wasC xs t x d = t - (washS xs t).2 := by rw [wasC, if_pos HK1.out.symm]
    have hnn : ∀ y, wasN xs t x d y = y := fun y => by rw [wasN, if_pos HK1.out.symm]
    have HCN := Lib.hid (And.intro hks (And.intro hcc hnn))
    have HGD := Lib.hid hgd
    have HN14 := Lib.hid hn14
    have HT1 := Lib.hid ht1
    clear hks hcc hnn e0 hgd hn14 ht1 r0 r1 r2 r3 q0 q1 q2 q3
    go_wp2_with fail
    refine (washed_any A n c xs t x d En.out (by rw [En.out]; exact HN14.out.1) (by rw [En.out]; exact HN14.out.2) HCP.out.1 HCP.out.2 HGD.out HT1.out _ (HE.out _ H1.out).2.2).mono ?_
    rintro o w2 ⟨v, rfl, hK, hb⟩
    have H2 := Lib.hid (H1.out.next hb)
    have HK := Lib.hid hK
    have HL1 := Lib.hid H1.out.lt
    obtain ⟨A2, c2', rfl, _⟩ := owns_slice hK.o
    obtain ⟨l2, hl2⟩ : ∃ l2, l2 = (washS xs t).1.length := ⟨_, rfl⟩
    rw [← hl2] at HK ⊢
    obtain ⟨y2, hy2⟩ : ∃ y2, y2 = t - (washS xs t).2 := ⟨_, rfl⟩
    rw [← hy2] at HCN ⊢
    clear hK hb hl2 hy2 c0 c1 c2 c3
    obtain ⟨w3, hw3⟩ : ∃ u, u = w2.alloc (.cells #[.slice A2 l2 c2', .int .i16 t, .int .i8 x, .int .i16 d] 58) := ⟨_, rfl⟩
    have B3 : Hid (Below w2.heap.size w2 w3) := Lib.hid (by rw [hw3]; exact (Below.refl _ _).alloc (Nat.le_refl _) _)
    have D : Hid (HouAt w3 w2.heap.size (.slice A2 l2 c2') t x d) := Lib.hid (by rw [hw3]; exact HouAt.new w2 (.slice A2 l2 c2') t x d 58)
    have HW3 := Lib.hid hw3
    have H3 := Lib.hid (H2.out.next B3.out)
    have hR := H3.out.r
    have r0 := hR.c0
    have r1 := hR.c1
    have r2 := hR.c2
    have r3 := hR.c3
    have q0 := hR.fz 0
    have q1 := hR.fz 1
    have q2 := hR.fz 2
    have q3 := hR.fz 3
    have HRT := Lib.hid hR
    have d0 := D.out.c0
    have d1 := D.out.c1
    have d2 := D.out.c2
    have d3 := D.out.c3
    clear hR hw3
    go_wp2_with (first | (rw [← HW3.out]) | fail)
    refine bodyPost_ret (v := .tuple #[houV (.slice A2 l2 c2') t x d, .int .i64 y2, .int .i64 0]) (results_row_2 (u := w3.setCells (w.heap.size + 1) 0 (houL (.slice A2 l2 c2') t x d)) (b := w.heap.size + 1) (cs := houL (.slice A2 l2 c2') t x d) Tryd.results42 rfl (World.rangeAt_setCells_same _ _ _ _ HRT.out.there) Tryd.underlying58 rfl (by kernel_rfl)) rfl ⟨_, by rw [HCN.out.2.1, HCN.out.2.2 t, HCN.out.2.2 x, HCN.out.2.2 d, ← HK1.out]; rfl, ?_, ?_⟩
    · rw [HCN.out.1]
      exact (KO.cells (HK.out.next B3.out) (show w.heap.size + 1 < w1.heap.size by have := HL1.out; omega) 0 (houL (.slice A2 l2 c2') t x d)).mono (by have := HL1.out; omega)
    · exact below_cells H3.out.b (by omega) (houL _ t x d) 0
  · have hks : wasK xs t x d = [] := by rw [wasK, if_neg (by rw [← HK1.out]; decide)]
    have hcc : wasC xs t x d = 0 := by rw [wasC, if_neg (by rw [← HK1.out]; decide)]
    have hnn : ∀ y, wasN xs t x d y = 0 := fun y => by rw [wasN, if_neg (by rw [← HK1.out]; decide)]
    have HCN := Lib.hid (And.intro hks (And.intro hcc hnn))
    have e0 : errOf e 1 = errV (e 0) := rfl
    rw [e0]
    clear hks hcc hnn e0 r0 r1 r2 r3 q0 q1 q2 q3 c0 c1 c2 c3
    go_wp2_with fail
    refine (codeOf_any (HE.out _ H1.out).1 1 (by omega)).mono ?_
    rintro o u ⟨rfl, rfl⟩
    have hR := H1.out.r
    have r0 := hR.c0
    have r1 := hR.c1
    have r2 := hR.c2
    have r3 := hR.c3
    have q0 := hR.fz 0
    have q1 := hR.fz 1
    have q2 := hR.fz 2
    have q3 := hR.fz 3
    clear hR
    go_wp2_with fail
    refine bodyPost_ret (v := .tuple #[houV (.slice none 0 0) 0 0 0, .int .i64 0, .int .i64 1]) (results_row_2 (u := w1.setCells (w.heap.size + 1) 0 (houL (.slice none 0 0) 0 0 0)) (b := w.heap.size + 1) (cs := houL (.slice none 0 0) 0 0 0) Tryd.results42 rfl (World.rangeAt_setCells_same _ _ _ _ HRT.out.there) Tryd.underlying58 rfl (by kernel_rfl)) rfl ⟨_, by rw [HCN.out.2.1, HCN.out.2.2 t, HCN.out.2.2 x, HCN.out.2.2 d, ← HK1.out]; rfl, ?_, ?_⟩
    · rw [HCN.out.1]; exact KO.nil _ _
    · exact below_cells H1.out.b (by omega) (houL _ 0 0 0) 0
end Go.Proofs.YtdcckdfemelbiaaDoor.hou

/-
  Dirty pieces washed in a house: the model's.
-/
namespace Go.Proofs.YtdcckdfemelbiaaDoor.hou
open Go Go.RowKit sl row stk errs fold

set_option maxRecDepth 100000 in
set_option maxHeartbeats 8000000 in
theorem l05Wash_any (g n c b : Nat) (xs : List Stk) (t x d : Int) (en : n = xs.length) (hn : n ≤ 4) (hgd : ∀ f ∈ xs, stk.Good f) (ht : 0 ≤ t ∧ t ≤ 1000) (base : Nat) (hbg : b ≠ g) (w : World) (hH : HouAt w b (.slice (some ⟨g, 0, none⟩) n c) t x d) (hO : StkOwns w base (.slice (some ⟨g, 0, none⟩) n c) n (xs.flatMap stkC)) :
    Calls Tryd.prog 98 #[.pointer (some ⟨b, 0, none⟩)] w fun o w' => o = .returned (.int .i64 (t - (washS xs t).2)) ∧ HouAt w' b (.slice (some ⟨g, 0, none⟩) n c) t x d ∧ StkOwns w' base (.slice (some ⟨g, 0, none⟩) n c) n ((washS xs t).1.flatMap stkC) ∧ w.grownBy w' (some g) := by
  have En := Lib.hid en
  have HGD := Lib.hid hgd
  have HW0 := Lib.hid hH
  have HO0 := Lib.hid hO
  have HTT := Lib.hid ht
  have c0 := hH.c0
  have c1 := hH.c1
  have y0 : IntKind.i64.wrap t = t := IntWalk.i64_in _ (by omega)
  clear en hgd hH hO
  go_enter Tryd.func98, Tryd.ntmps98
  go_wp2_with fail
  go_loopw [3, 4, 5, 6] (fun vl vi _ _ wr => ∃ i : Nat, i ≤ n ∧ vi = .int .i64 i ∧ vl = .int .i64 (washI xs t i).2 ∧ HouAt wr b (.slice (some ⟨g, 0, none⟩) n c) t x d ∧ StkOwns wr base (.slice (some ⟨g, 0, none⟩) n c) n ((washI xs t i).1.flatMap stkC) ∧ w.grownBy wr (some g)) (fun _ vi _ _ _ => n - (intOf vi).toNat)
  case atStart => exact ⟨0, by omega, rfl, by rw [washI_zero], HW0.out, by rw [washI_zero]; exact HO0.out, grownBy_refl _ _⟩
  case round =>
    clear c0 c1
    obtain ⟨i, hi, rfl, rfl, hH, hO, hG⟩ := hrel
    obtain ⟨wo, rfl⟩ : ∃ wo, wo = wr := ⟨wr, rfl⟩
    have c0 := hH.c0
    have c1 := hH.c1
    have HHo := Lib.hid hH
    have HOo := Lib.hid hO
    have HGo := Lib.hid hG
    have hgi := washI_good (xs := xs) (l := t) i HGD.out HTT.out.1
    obtain ⟨l, hl⟩ : ∃ l, (washI xs t i).2 = l := ⟨_, rfl⟩
    rw [hl] at hgi ⊢
    have hl0 := hgi.2.1
    have hl1 := hgi.2.2
    have HGI := Lib.hid hgi.1
    have HL := Lib.hid hl
    clear hH hO hG hgi hl
    by_cases hlt : i < n
    · obtain ⟨f, hf⟩ : ∃ f, xs[i]? = some f := ⟨xs[i]'(by have := En.out; omega), List.getElem?_eq_getElem _⟩
      have hgf := HGD.out f (List.mem_of_getElem? hf)
      have HF := Lib.hid hf
      have T0 : Hid (StkOwn wo g (i * 25) f) := Lib.hid (owns_at HOo.out (washI_at t hf))
      obtain ⟨z, hz⟩ : ∃ z, wash1 f l = z := ⟨_, rfl⟩
      have HZ := Lib.hid hz
      have HGF := Lib.hid hgf
      clear hf hz hgf
      go_wp2_with fail
      go_loopw [3, 5, 6] (fun vl vu _ wr => ∃ (k : Nat) (u r : Int) (s : Stk), k ≤ 8 ∧ u = (k : Int) - 1 ∧ vu = .int .i64 u ∧ vl = .int .i64 r ∧ mv 16 0 0 k (s, r) = z ∧ HouAt wr b (.slice (some ⟨g, 0, none⟩) n c) t x d ∧ StkOwn wr g (i * 25) s ∧ Chg wo wr g (i * 25) 25 ∧ (stk.Good s ∧ 0 ≤ r ∧ r ≤ 1000)) (fun _ vu _ _ => (intOf vu + 1).toNat)
      case atStart => exact ⟨8, 7, l, f, by omega, by omega, rfl, rfl, HZ.out, HHo.out, T0.out, Chg.refl _ _ _ _, HGF.out, hl0, by omega⟩
      case round =>
        clear c0 c1
        obtain ⟨k, u, r, s, hk, hu, rfl, rfl, hmv, hH, hT, hC, hgood, hr0, hr1⟩ := hrel
        have HH := Lib.hid hH
        have HT := Lib.hid hT
        have HC := Lib.hid hC
        have HM := Lib.hid hmv
        have c0 := hH.c0
        clear hH hT hC hmv
        cases k with
        | zero =>
          obtain rfl : u = -1 := by omega
          obtain ⟨e1, e2⟩ : s = z.1 ∧ r = z.2 := by
            have := HM.out
            rw [mv] at this
            rw [← this]
            exact ⟨rfl, rfl⟩
          subst e1 e2
          have HO2 := Lib.hid (owns_stk HOo.out hlt HT.out HC.out)
          have HN : Hid (washI xs t (i + 1) = ((washI xs t i).1.set i z.1, z.2)) := Lib.hid (by rw [washI_next t HF.out, HL.out, HZ.out])
          clear hu hgood
          go_wp2_with fail
          go_roundw
          case rel => exact ⟨i + 1, by omega, by go_num, by rw [HN.out], HH.out, by rw [HN.out]; exact HO2.out, grownBy_trans HGo.out HC.out.g⟩
          case measure => simp [intOf]; omega
        | succ k =>
          obtain rfl : u = (k : Int) := by omega
          have hp := hgood.pos (16 + k) (by omega)
          have hl := hgood.le (show 16 + k < 25 by omega)
          obtain ⟨m, hm⟩ : ∃ m, m = few r (s (16 + k)) := ⟨_, rfl⟩
          have hm1 := few_le r (s (16 + k))
          have hm2 := few_pos hr0 hp
          rw [← hm] at hm1 hm2
          have HN0 : Hid (few r (s (16 + k)) = m) := Lib.hid hm.symm
          obtain ⟨s0, s1, s2⟩ := step_good (o := 16) (q := 0) (ls := 0) (u := k) (s := (s, r)) (by omega) (by omega) (by omega) hgood hr0
          obtain ⟨g2, hg2⟩ : ∃ g2, g2 = upd s (16 + k) (s (16 + k) + -m) := ⟨_, rfl⟩
          have htg : tgt 0 0 k = k := by simp [tgt]
          have es : stepS 16 0 0 k (s, r) = (upd g2 k (g2 k + m), r - m) := by
            unfold stepS shift
            simp only [← hm, hg2, htg]
          rw [es] at s0 s1 s2
          have HQ : Hid (stk.Good (upd g2 k (g2 k + m)) ∧ 0 ≤ r - m ∧ r - m ≤ 1000) := Lib.hid ⟨s0, s1, by omega⟩
          have hM2 : mv 16 0 0 k (upd g2 k (g2 k + m), r - m) = z := by
            have := HM.out
            rw [mv, es] at this
            exact this
          have hS0 : 0 ≤ g2 k + m ∧ g2 k + m ≤ 500 := by
            have a := s0.pos k (by omega)
            have b := s0.le (show k < 25 by omega)
            simp only [upd_same] at a b
            exact ⟨a, b⟩
          have hc : wr.cell? ⟨g, i * 25 + 16 + k, none⟩ = some (.int .i16 (s (16 + k))) := by
            have := HT.out.cell (16 + k) (by omega)
            rwa [cellS_16 s (by omega), ← Nat.add_assoc] at this
          have hz : wr.frozen? ⟨g, i * 25 + 16 + k, none⟩ = false := by have := HT.out.free (16 + k) (by omega); rwa [← Nat.add_assoc] at this
          obtain ⟨dk, hdk⟩ : ∃ v, s (16 + k) = v := ⟨_, rfl⟩
          rw [hdk] at hc hp hl hm1 HN0
          have x0 : IntKind.i64.wrap dk = dk := IntWalk.i64_in _ (by omega)
          have x1 : wrap64 (r - m) = r - m := by unfold wrap64; omega
          have x2 : IntKind.i16.wrap m = m := IntWalk.i16_in _ (by omega)
          have x3 : IntKind.i16.wrap (dk - m) = dk - m := IntWalk.i16_in _ (by omega)
          have y1 : IntKind.i16.wrap (g2 k + m) = g2 k + m := IntWalk.i16_in _ (by omega)
          have k0 : (0 : Int) ≤ (k : Int) ∧ (k : Int) < 8 := ⟨by omega, by omega⟩
          have H2 : StkOwn (wr.setCell ⟨g, i * 25 + 16 + k, none⟩ (.int .i16 (dk - m))) g (i * 25) g2 := by
            rw [hg2, hdk]
            have := StkOwn.set HT.out (j := 16 + k) (by omega) (dk + -m)
            rwa [← Nat.add_assoc] at this
          have hc2 := H2.cell k (by omega)
          have hz2 := H2.free k (by omega)
          rw [cellS_16 _ (by omega)] at hc2
          have H3 : Hid (StkOwn ((wr.setCell ⟨g, i * 25 + 16 + k, none⟩ (.int .i16 (dk - m))).setCell ⟨g, i * 25 + k, none⟩ (.int .i16 (g2 k + m))) g (i * 25) (upd g2 k (g2 k + m))) := Lib.hid (StkOwn.set H2 (j := k) (by omega) (g2 k + m))
          have A2 := HouAt.set_ne HH.out (p := ⟨g, i * 25 + 16 + k, none⟩) (by simp; omega) (.int .i16 (dk - m))
          have HA3 := Lib.hid (HouAt.set_ne A2 (p := ⟨g, i * 25 + k, none⟩) (by simp; omega) (.int .i16 (g2 k + m)))
          have c2 := A2.c0
          have HM2 := Lib.hid hM2
          have HS0 := Lib.hid hS0
          clear hS0 hM2 hg2 es s0 s1 s2 hm hm1 hm2 hp hl hgood hu H2 A2 hdk htg
          go_wp2_with fail
          refine (l00Min_any r dk _).mono ?_
          rintro e w1 ⟨rfl, hw1⟩
          obtain rfl := hw1.symm
          clear hw1
          rw [HN0.out]
          go_wp2_with fail
          refine still_region 16 (by kernel_rfl) ?_
          simp only [List.take_succ_cons, List.take_zero, List.drop_succ_cons, List.drop_zero]
          repeat still_step
          refine wpStill_nil ?_
          go_wp2_with fail
          refine still_region 16 (by kernel_rfl) ?_
          simp only [List.take_succ_cons, List.take_zero, List.drop_succ_cons, List.drop_zero]
          repeat still_step
          refine wpStill_nil ?_
          go_wp2_with fail
          go_roundw
          case rel => exact ⟨k, _, r - m, _, by omega, rfl, by first | rfl | go_num, by first | rfl | go_num, HM2.out, HA3.out.next (Below.refl _ _).drew.drew, H3.out.next (Below.refl _ _).drew.drew, ((HC.out.set (by omega) (by omega) _).set (by omega) (by omega) _).drew.drew, HQ.out⟩
          case measure => simp [intOf]
    · obtain rfl : i = n := by omega
      have hn' : washI xs t i = washS xs t := by rw [En.out, washI_all]
      rw [hn'] at HL HOo
      have x1 : wrap64 (t - l) = t - l := by unfold wrap64; omega
      go_wp2_with fail
      go_ret
      exact ⟨by rw [HL.out]; rfl, HHo.out, HOo.out, HGo.out⟩

set_option maxRecDepth 100000 in
set_option maxHeartbeats 8000000 in
theorem WashHouse_spec (g : Nat) (n c : Nat) (xs : List Stk) (t x d : Int) (en : n = xs.length) (hn : n ≤ 1048576) (hf : ∀ x ∈ xs, Fits x) (ht : -32768 ≤ t ∧ t ≤ 32767) (hx : -128 ≤ x ∧ x ≤ 127) (hd : -32768 ≤ d ∧ d ≤ 32767) (w : World) (hg : Sl stkC 25 w w.heap.size (some ⟨g, 0, none⟩) xs) :
    Calls Tryd.prog 40 #[houV (.slice (some ⟨g, 0, none⟩) n c) t x d] w (OwnW w (wasK xs t x d) (wasN xs t x d t) (wasN xs t x d x) (wasN xs t x d d) (wasC xs t x d) (codeO xs t x d)) := by
  obtain ⟨u0, hu0⟩ : ∃ u0, u0 = (w.alloc (.cells #[.slice (some ⟨g, 0, none⟩) n c, .int .i16 t, .int .i8 x, .int .i16 d] 58)).alloc (.cells #[.slice none 0 0, .int .i16 0, .int .i8 0, .int .i16 0] 58) := ⟨_, rfl⟩
  have H0 : Hid (HR w (.slice (some ⟨g, 0, none⟩) n c) t x d u0) := Lib.hid (by rw [hu0]; exact HR.new w _ t x d _ _)
  have HU0 := Lib.hid hu0
  have HE : Hid (∀ u, HR w (.slice (some ⟨g, 0, none⟩) n c) t x d u → Sl stkC 25 u u.heap.size (some ⟨g, 0, none⟩) xs) := Lib.hid fun u hu => (hg.below hu.b).more hu.b.size
  obtain ⟨q, hq⟩ : ∃ q, houOk xs t x d = q := ⟨_, rfl⟩
  have HQ := Lib.hid hq
  have En := Lib.hid en
  have HN := Lib.hid hn
  have HFT := Lib.hid hf
  have HT := Lib.hid ht
  have HX := Lib.hid hx
  have HD := Lib.hid hd
  clear hu0 hq en hn hf ht hx hd hg
  go_enter Tryd.func40, Tryd.ntmps40
  go_wp2_with (first | (rw [← HU0.out]) | fail)
  refine (l05Ok_any g n c xs t x d En.out HN.out HFT.out HT.out HX.out HD.out w.heap.size _ H0.out.h (HE.out _ H0.out) q HQ.out.symm).mono ?_
  rintro o w1 ⟨rfl, hb⟩
  have H1 := Lib.hid (H0.out.next hb)
  clear hb H0 HU0
  cases q with
  | false =>
    have hk1 : codeO xs t x d = 1 := by rw [codeO, HQ.out]; rfl
    have hks : wasK xs t x d = [] := by rw [wasK, if_neg (by rw [hk1]; decide)]
    have hcc : wasC xs t x d = 0 := by rw [wasC, if_neg (by rw [hk1]; decide)]
    have hnn : ∀ y, wasN xs t x d y = 0 := fun y => by rw [wasN, if_neg (by rw [hk1]; decide)]
    have HCN := Lib.hid (And.intro hks (And.intro hcc (And.intro hnn hk1)))
    clear hks hcc hnn hk1
    have hR := H1.out.r
    have r0 := hR.c0
    have r1 := hR.c1
    have r2 := hR.c2
    have r3 := hR.c3
    have q0 := hR.fz 0
    have q1 := hR.fz 1
    have q2 := hR.fz 2
    have q3 := hR.fz 3
    have HRT := Lib.hid hR
    clear hR
    go_wp2_with fail
    refine bodyPost_ret (v := .tuple #[houV (.slice none 0 0) 0 0 0, .int .i64 0, .int .i64 1]) (results_row_2 (u := w1.setCells (w.heap.size + 1) 0 (houL (.slice none 0 0) 0 0 0)) (b := w.heap.size + 1) (cs := houL (.slice none 0 0) 0 0 0) Tryd.results40 rfl (World.rangeAt_setCells_same _ _ _ _ HRT.out.there) Tryd.underlying58 rfl (by kernel_rfl)) rfl ⟨_, by rw [HCN.out.2.1, HCN.out.2.2.1 t, HCN.out.2.2.1 x, HCN.out.2.2.1 d, HCN.out.2.2.2]; rfl, ?_, ?_⟩
    · rw [HCN.out.1]; exact KO.nil _ _
    · exact below_cells H1.out.b (by omega) (houL _ 0 0 0) 0
  | true =>
    have hk0 : codeO xs t x d = 0 := by rw [codeO, HQ.out]; rfl
    obtain ⟨hn14, ht1, hgd⟩ := codeO_zero hk0
    have hks : wasK xs t x d = (washS xs t).1 := by rw [wasK, if_pos hk0]
    have hcc : wasC xs t x d = t - (washS xs t).2 := by rw [wasC, if_pos hk0]
    have hnn : ∀ y, wasN xs t x d y = y := fun y => by rw [wasN, if_pos hk0]
    have HCN := Lib.hid (And.intro hks (And.intro hcc (And.intro hnn hk0)))
    have HGD := Lib.hid hgd
    have HT1 := Lib.hid ht1
    have HN4 : Hid (n ≤ 4 ∧ 1 ≤ n) := Lib.hid (by have := En.out; omega)
    clear hks hcc hnn hk0 hn14 ht1 hgd
    go_wp2_with fail
    refine (l05Own_any g n c xs t x d En.out HN.out w.heap.size _ H1.out.h (HE.out _ H1.out)).mono ?_
    rintro o w2 ⟨v2, rfl, hK, hb⟩
    have H2 := Lib.hid (H1.out.next hb)
    obtain ⟨g9, c9, rfl, hg9, hl9⟩ : ∃ g9 c9, v2 = .slice (some ⟨g9, 0, none⟩) n c9 ∧ w1.heap.size ≤ g9 ∧ g9 < w2.heap.size := by
      rcases hK.shape with ⟨_, h0⟩ | ⟨g9, c9, h1, h2⟩
      · have := En.out
        have := HN4.out
        rw [h0] at *
        simp at *
        omega
      · exact ⟨g9, c9, by rw [h1, En.out], h2⟩
    obtain ⟨w3, hw3⟩ : ∃ u, u = w2.alloc (.cells #[.slice (some ⟨g9, 0, none⟩) n c9, .int .i16 t, .int .i8 x, .int .i16 d] 58) := ⟨_, rfl⟩
    have hb3 : Below w2.heap.size w2 w3 := by rw [hw3]; exact (Below.refl _ _).alloc (Nat.le_refl _) _
    have H3 := Lib.hid (H2.out.next hb3)
    have K3 := Lib.hid (hK.next hb3)
    have A3 : Hid (HouAt w3 w2.heap.size (.slice (some ⟨g9, 0, none⟩) n c9) t x d) := Lib.hid (by rw [hw3]; exact HouAt.new w2 _ t x d _)
    have HW3 := Lib.hid hw3
    have HL1 := Lib.hid H1.out.lt
    have HL9 := Lib.hid (And.intro hg9 (And.intro hl9 hb.size))
    clear hK hb hw3 hb3 hg9 hl9 H2
    have HO3 : Hid (StkOwns w3 w1.heap.size (.slice (some ⟨g9, 0, none⟩) n c9) n (xs.flatMap stkC)) := Lib.hid (by have ho := K3.out.o; rwa [← En.out] at ho)
    go_wp2_with (first | (rw [← HW3.out]) | fail)
    refine (l05Wash_any g9 n c9 w2.heap.size xs t x d En.out HN4.out.1 HGD.out HT1.out w1.heap.size (by have := HL9.out.2.1; omega) w3 A3.out HO3.out).mono ?_
    rintro o w4 ⟨rfl, hA4, hO4, hG4⟩
    have A4 := Lib.hid hA4
    have O4 := Lib.hid hO4
    have H4 := Lib.hid (H3.out.keep (below_grown (Below.refl (w.heap.size + 2) w3) hG4 H3.out.lt (by have := HL9.out.1; have := HL1.out; omega)))
    obtain ⟨y2, hy2⟩ : ∃ y2, y2 = t - (washS xs t).2 := ⟨_, rfl⟩
    rw [← hy2] at HCN ⊢
    have e0 := A4.out.c0
    have e1 := A4.out.c1
    have e2 := A4.out.c2
    have e3 := A4.out.c3
    have hR := H4.out.r
    have r0 := hR.c0
    have r1 := hR.c1
    have r2 := hR.c2
    have r3 := hR.c3
    have q0 := hR.fz 0
    have q1 := hR.fz 1
    have q2 := hR.fz 2
    have q3 := hR.fz 3
    have HRT := Lib.hid hR
    clear hR hA4 hO4 hG4 hy2 H3 K3 A3 HW3 HO3
    go_wp2_with fail
    refine bodyPost_ret (v := .tuple #[houV (.slice (some ⟨g9, 0, none⟩) n c9) t x d, .int .i64 y2, .int .i64 0]) (results_row_2 (u := w4.setCells (w.heap.size + 1) 0 (houL (.slice (some ⟨g9, 0, none⟩) n c9) t x d)) (b := w.heap.size + 1) (cs := houL (.slice (some ⟨g9, 0, none⟩) n c9) t x d) Tryd.results40 rfl (World.rangeAt_setCells_same _ _ _ _ HRT.out.there) Tryd.underlying58 rfl (by kernel_rfl)) rfl ⟨_, by rw [HCN.out.2.1, HCN.out.2.2.1 t, HCN.out.2.2.1 x, HCN.out.2.2.1 d, HCN.out.2.2.2]; rfl, ?_, ?_⟩
    · rw [HCN.out.1]
      have ho := owns_other O4.out (grownBy_cells (houL (.slice (some ⟨g9, 0, none⟩) n c9) t x d) 0 (grownBy_refl w4 (some (w.heap.size + 1)))) fun q hq => by have := (O4.out.lt q hq).1; have := HL1.out; omega
      refine ⟨?_⟩
      rw [washS_len, ← En.out]
      exact owns_below ho (by have := HL1.out; omega)
    · exact below_cells H4.out.b (by omega) (houL _ t x d) 0
end Go.Proofs.YtdcckdfemelbiaaDoor.hou

/-
  A day of a house, the program's: nextDay; it panics where the day cannot be done.
-/
namespace Go.Proofs.YtdcckdfemelbiaaDoor.hou
open Go Go.RowKit sl row stk errs fold

theorem HouAt.day {u : World} {b : Nat} {v : Value} {t e d : Int} (h : HouAt u b v t e d) (d' : Int) : HouAt (u.setCell ⟨b, 3, none⟩ (.int .i16 d')) b v t e d' :=
  ⟨(World.cell?_setCell_other _ _ _ _ (by simp)).trans h.c0, (World.cell?_setCell_other _ _ _ _ (by simp)).trans h.c1, (World.cell?_setCell_other _ _ _ _ (by simp)).trans h.c2, World.cell?_setCell_same' _ _ _ (by rw [h.c3]; rfl),
    fun i => (World.frozen?_setCell _ _ _ _).trans (h.fz i), by simpa [World.setCell] using h.lt⟩
theorem HR.day {w : World} {v : Value} {t e d : Int} {u : World} (h : HR w v t e d u) (d' : Int) : HR w v t e d' (u.setCell ⟨w.heap.size, 3, none⟩ (.int .i16 d')) :=
  ⟨h.h.day d', h.r.set_ne (by simp) _, h.b.setCell (p := ⟨w.heap.size, 3, none⟩) (Nat.le_refl _) _⟩
abbrev impV (v : Value) : Value := .iface 191 (.agg #[v])
theorem build_imp (a : Addr) (u : World) : (Instr.build 191 #[(0, errV a)]).run Tryd.prog u = .ok (.agg #[errV a]) u := by kernel_rfl
set_option maxRecDepth 100000 in
set_option maxHeartbeats 8000000 in
theorem nextDay_any (A : Option Addr) (n c : Nat) (xs : List Stk) (t x d : Int) (en : n = xs.length) (hn1 : 1 ≤ n) (hn : n ≤ 4) (hcap : n ≤ c) (hcm : c ≤ maxLen) (hgd : ∀ f ∈ xs, stk.Good f) (ht : 0 ≤ t ∧ t ≤ 1000) (hx : 1 ≤ x ∧ x ≤ 7) (hd : 0 ≤ d ∧ d ≤ 60)
    (A' : Option Addr) (m c' : Nat) (ns : List Int) (em : m = ns.length) (hm : m ≤ 9223372036854775807) {w : World} {B : Nat} {e : Nat → Addr} (h : Errs w B e) (hB : B ≤ w.heap.size) (hg : Sl stkC 25 w w.heap.size A xs) (hg' : Sl intS.C 1 w w.heap.size A' ns) (k : Nat) (hk : k = codeY (xs, d) ns) :
    Calls Tryd.prog 152 #[houV (.slice A n c) t x d, .slice A' m c'] w fun o w' => (∃ i, k = i + 1 ∧ o = .panicked [{ v := impV (errV (e i)), recovered := false }] ∧ Below w.heap.size w w') ∨
      (k = 0 ∧ ∃ v A2 c2, o = .returned (.tuple #[houV v t x (d + 1), .slice A2 n c2]) ∧ KO w' w.heap.size v (dayS t x (xs, d) ns).1 ∧ w'.ownsRow w.heap.size 2 1 (.slice A2 n c2) n ((useX xs ns).flatMap intS.C) ∧ Below w.heap.size w w') := by
  obtain ⟨i0, hi, hz0, hz1, hz2⟩ := info_parts intS.info
  obtain ⟨u0, hu0⟩ : ∃ u0, u0 = (w.alloc (.cells #[.slice A n c, .int .i16 t, .int .i8 x, .int .i16 d] 58)).alloc (.cells #[.slice none 0 0, .int .i16 0, .int .i8 0, .int .i16 0] 58) := ⟨_, rfl⟩
  have H0 : Hid (HR w (.slice A n c) t x d u0) := Lib.hid (by rw [hu0]; exact HR.new w _ t x d _ _)
  have HU0 := Lib.hid hu0
  have HE : Hid (∀ u, Below w.heap.size w u → Errs u B e ∧ B ≤ u.heap.size ∧ Sl stkC 25 u u.heap.size A xs ∧ Sl intS.C 1 u u.heap.size A' ns) := Lib.hid fun u hu => ⟨h.below (hu.mono hB), Nat.le_trans hB hu.size, (hg.below hu).more hu.size, (hg'.below hu).more hu.size⟩
  obtain ⟨k1, hk1⟩ : ∃ q, q = codeW n ns := ⟨_, rfl⟩
  obtain ⟨k2, hk2⟩ : ∃ q, q = codeT d := ⟨_, rfl⟩
  have HF : Hid (firstCode [k1, k2] = k) := Lib.hid (by rw [hk, hk1, hk2, en]; exact codeY_first (xs, d) ns)
  have HK := Lib.hid hk
  have HK1 := Lib.hid hk1
  have HK2 := Lib.hid hk2
  have En := Lib.hid en
  have Em := Lib.hid em
  have HM := Lib.hid hm
  have HGD := Lib.hid hgd
  have HN := Lib.hid (And.intro hn1 hn)
  have HCP := Lib.hid (And.intro hcap hcm)
  have HT := Lib.hid ht
  have HX := Lib.hid hx
  have HD := Lib.hid hd
  clear hu0 hk1 hk2 en em hm hgd hg hg' h hcap hcm hn1 hn ht hx hd hk
  go_enter Tryd.func152, Tryd.ntmps152
  go_wp2_with (first | (rw [← HU0.out]) | fail)
  have H0' := Lib.hid (H0.out.next (Below.refl _ _).drew)
  refine wp_region_held_drew (S := fun u => HR w (.slice A n c) t x d u) (by kernel_rfl) H0'.out (fun hHeld => ?_)
  generalize u0.drew = w0 at H0' hHeld ⊢
  clear H0 HU0
  refine wpAnyH_take (i := 0) (v := houV (.slice A n c) t x d) rfl (by kernel_rfl) (by kernel_rfl) (by kernel_rfl) (fun _ _ _ h => h) (yieldsIf_load_mid (by rfl) 58 (.tmp 2) rfl w.heap.size 0 rfl (houL (.slice A n c) t x d) _ (fun u h => h.h.range) Tryd.underlying58 rfl (by rw [infoH]; rfl)) hHeld ?_
  (try simp only [Act.put, List.getElem_toArray, List.getElem_cons_zero, List.setIfInBounds_toArray, List.set_cons_zero, List.set_cons_succ])
  refine wpAnyH_take (i := 1) (v := ?_) rfl (by kernel_rfl) (by kernel_rfl) (by kernel_rfl) (fun _ _ _ h => h) (Or.inl ⟨by rfl, ?_⟩) (by assumption) ?_
  rotate_left
  · intro u hSu
    (try dsimp only at hSu)
    first | (go_simp; done) | (go_simp; with_reducible rfl)
  try simp only [Act.put, List.getElem_toArray, List.getElem_cons_zero, List.getElem_cons_succ, List.setIfInBounds_toArray, List.set_cons_zero, List.set_cons_succ]
  refine wpAnyH_take (i := 3) (v := houV (.slice A n c) t x d) rfl (by kernel_rfl) (by kernel_rfl) (by kernel_rfl) (fun _ _ _ h => h) (yieldsIf_load_mid (by rfl) 58 (.tmp 2) rfl w.heap.size 0 rfl (houL (.slice A n c) t x d) _ (fun u h => h.h.range) Tryd.underlying58 rfl (by rw [infoH]; rfl)) hHeld ?_
  (try simp only [Act.put, List.getElem_toArray, List.getElem_cons_zero, List.getElem_cons_succ, List.setIfInBounds_toArray, List.set_cons_zero, List.set_cons_succ])
  refine wpAnyH_ready (rs := [2]) (by kernel_rfl) (by simp) ?_
  refine AllReadyH.cons rfl (fun K hK => ?_) AllReadyH.nil
  go_simp
  refine (checkNeeds_any A n c t x d (by have := HN.out; omega) A' m c' ns Em.out HM.out (HE.out _ H0'.out.b).1 (HE.out _ H0'.out.b).2.1 (HE.out _ H0'.out.b).2.2.2 k1 HK1.out).mono ?_
  rintro o w1 ⟨rfl, hb⟩
  have H1 := Lib.hid (H0'.out.next hb)
  refine hK.out _ _ (H1.out) (fun hHeld2 => ?_)
  clear hK K hHeld
  have hHeld := hHeld2
  clear hHeld2
  try simp only [Act.put, List.getElem_toArray, List.getElem_cons_zero, List.getElem_cons_succ, List.setIfInBounds_toArray, List.set_cons_zero, List.set_cons_succ]
  clear hb
  refine wpAnyH_ready (rs := [4]) (by kernel_rfl) (by simp) ?_
  refine AllReadyH.cons rfl (fun K hK => ?_) AllReadyH.nil
  go_simp
  refine (checkToday_any (.slice A n c) t x d (HE.out _ H1.out.b).1 (HE.out _ H1.out.b).2.1 k2 HK2.out).mono ?_
  rintro o w2 ⟨rfl, hb⟩
  have H2 := Lib.hid (H1.out.next hb)
  refine hK.out _ _ (H2.out) (fun hHeld2 => ?_)
  clear hK K hHeld
  have hHeld := hHeld2
  clear hHeld2
  try simp only [Act.put, List.getElem_toArray, List.getElem_cons_zero, List.getElem_cons_succ, List.setIfInBounds_toArray, List.set_cons_zero, List.set_cons_succ]
  clear hb
  refine wpAnyH_ready (rs := [5]) (by kernel_rfl) (by simp) ?_
  refine AllReadyH.cons rfl (fun K hK => ?_) AllReadyH.nil
  rw [if_pos (by kernel_rfl)]
  refine wp_listed' 156 2 _ rfl #[(0, errOf e k1), (1, errOf e k2)] ?hp (buildSlice2 e k1 k2 _) ?_
  case hp => simp [Act.eval]
  have HCE := Lib.hid (cells_errs e [k1, k2] w2 80 #[errOf e k1, errOf e k2] rfl)
  have H3 := Lib.hid (H2.out.next ((Below.refl _ _).alloc (Nat.le_refl _) (.cells #[errOf e k1, errOf e k2] 80)))
  refine hK.out _ _ (H3.out) (fun hHeld2 => ?_)
  clear hK K hHeld
  have hHeld := hHeld2
  clear hHeld2
  try simp only [Act.put, List.getElem_toArray, List.getElem_cons_zero, List.getElem_cons_succ, List.setIfInBounds_toArray, List.set_cons_zero, List.set_cons_succ]
  refine wpAnyH_ready (rs := [6]) (by kernel_rfl) (by simp) ?_
  refine AllReadyH.cons rfl (fun K hK => ?_) AllReadyH.nil
  go_simp
  refine (firstOf_any e [k1, k2] _ 2 2 rfl (by decide) _ HCE.out).mono ?_
  rintro o w4 ⟨rfl, hw⟩
  rw [HF.out]
  obtain rfl := hw.symm
  clear hw
  refine hK.out _ _ (H3.out) (fun hHeld2 => ?_)
  clear hK K hHeld
  have hHeld := hHeld2
  clear hHeld2
  try simp only [Act.put, List.getElem_toArray, List.getElem_cons_zero, List.getElem_cons_succ, List.setIfInBounds_toArray, List.set_cons_zero, List.set_cons_succ]
  refine wpAnyH_take (i := 7) (v := ?_) rfl (by kernel_rfl) (by kernel_rfl) (by kernel_rfl) (fun _ _ _ h => h) (Or.inl ⟨by rfl, ?_⟩) (by assumption) ?_
  rotate_left
  · intro u hSu
    (try dsimp only at hSu)
    first | (go_simp; done) | (go_simp; with_reducible rfl)
  try simp only [Act.put, List.getElem_toArray, List.getElem_cons_zero, List.getElem_cons_succ, List.setIfInBounds_toArray, List.set_cons_zero, List.set_cons_succ]
  refine wpAnyH_done (by kernel_rfl) ?_ _
  clear hHeld
  generalize w2.alloc (.cells #[errOf e k1, errOf e k2] 80) = w4 at H3 HCE ⊢
  clear HCE H0' H1 H2 HF HK1 HK2
  have HB3 := Lib.hid H3.out.b
  cases hkk : k with
  | succ i =>
    rw [show errOf e (i + 1) = errV (e i) from rfl]
    have hbi := build_imp (e i)
    have HKK := Lib.hid hkk
    clear hkk
    go_wp2_with fail
    exact ⟨rfl, .inl ⟨i, HKK.out, rfl, HB3.out⟩⟩
  | zero =>
    rw [show errOf e 0 = .nilIface from rfl]
    obtain ⟨hl0, hpc, hd60⟩ := codeY_zero (HK.out.symm.trans hkk)
    have hmn : m = n := by have := Em.out; have := En.out; dsimp only at hl0; omega
    subst hmn
    have HPC := Lib.hid hpc
    have HD60 : Hid (d ≠ 60) := Lib.hid hd60
    have HL0 : Hid (ns.length = xs.length) := Lib.hid hl0
    have HKK := Lib.hid hkk
    clear hl0 hpc hd60 hkk
    have hmk : ∀ u : World, (Instr.makeSlice 22 (.int .i64 (m : Int)) (.int .i64 (m : Int))).run Tryd.prog u =
        .ok (.slice (some ⟨u.heap.size, 0, none⟩) m m) (u.alloc (.cells (madeCells #[.int .i64 0] m) 2)) := fun u => by
      have h := run_make (P := Tryd.prog) u 22 2 i0 _ Tryd.underlying22 hi hz0 .i64 .i64 (m : Int) (m : Int) (by omega) (Int.le_refl _) (by rw [hz2]; have := HN.out; omega) (by have := HN.out; omega)
      have e : ((m : Int)).toNat = m := by omega
      rw [e] at h
      simpa [hz1, Value.cells] using h
    have HO0 : Hid ((w4.alloc (.cells (madeCells #[.int .i64 0] m) 2)).ownsRow w4.heap.size 2 1 (.slice (some ⟨w4.heap.size, 0, none⟩) m m) m _) :=
      Lib.hid (World.ownsRow_lit w4 (madeCells #[.int .i64 0] m) m (Nat.le_refl _) (by have := HN.out; unfold maxLen; omega) (by rw [size_madeCells, Nat.mul_one]))
    have H5 := Lib.hid (H3.out.next ((Below.refl _ _).alloc (Nat.le_refl _) (.cells (madeCells #[.int .i64 0] m) 2)))
    have HZ5 : Hid ((w4.alloc (.cells (madeCells #[.int .i64 0] m) 2)).heap.size = w4.heap.size + 1) := Lib.hid (by simp)
    have HZ4 := Lib.hid H3.out.lt
    have hzz : ∀ u : World, (zeroValue 219).run Tryd.prog u = .ok (.agg (turnCs zeroS 0)) u := (zero_of_info zeroTi).1
    go_wp2_with fail
    go_loopw [8, 9, 10, 28] (fun _ _ _ vi wr => ∃ (i : Nat) (Ar : Option Addr) (cr : Nat) (L : List Value), i ≤ m ∧ vi = .int .i64 (i : Nat) ∧ HR w (.slice Ar m cr) t x d wr ∧ (m ≤ cr ∧ cr ≤ maxLen) ∧ Sl stkC 25 wr wr.heap.size Ar (useI xs ns i) ∧ (i = 0 ∨ KO wr (w4.heap.size + 1) (.slice Ar m cr) (useI xs ns i)) ∧
      wr.ownsRow w4.heap.size 2 1 (.slice (some ⟨w4.heap.size, 0, none⟩) m m) m L ∧ Done intS.C 1 (useX xs ns) i L) (fun _ _ _ vi _ => m - (intOf vi).toNat)
    case atStart => exact ⟨0, A, c, _, by omega, rfl, H5.out, HCP.out, by rw [useI_zero]; exact (HE.out _ H5.out.b).2.2.1, .inl rfl, HO0.out, Done.zero _ _ _ _⟩
    case round =>
      clear HO0 H5 H3 HB3
      obtain ⟨i, Ar, cr, L, hil, rfl, hR, hcr, hS, hK, hP, hDn⟩ := hrel
      have HR1 := Lib.hid hR
      have HCR := Lib.hid hcr
      have HS := Lib.hid hS
      have HK1 := Lib.hid hK
      have HP := Lib.hid hP
      have HDN := Lib.hid hDn
      have HLR := Lib.hid HR1.out.lt
      have hm4 : m ≤ 4 := HN.out.2
      clear hR hcr hS hK hP hDn
      by_cases hlt : i < m
      · obtain ⟨f, hf⟩ : ∃ f, xs[i]? = some f := ⟨xs[i]'(by have := En.out; omega), List.getElem?_eq_getElem _⟩
        obtain ⟨nd, hnd⟩ : ∃ nd, ns[i]? = some nd := ⟨ns[i]'(by have := Em.out; omega), List.getElem?_eq_getElem _⟩
        obtain ⟨a', rfl, hab', hat'⟩ := (HE.out _ HR1.out.b).2.2.2.at_ i nd hnd
        have q0 := intS.at_ hat'
        obtain ⟨a, rfl, hab, hat⟩ := HS.out.at_ i f (useI_at hf (by have := Em.out; omega))
        have HAT := Lib.hid hat
        have HFX := Lib.hid hf
        have HND := Lib.hid hnd
        have hgf := HGD.out f (List.mem_of_getElem? hf)
        have hnd0 := HPC.out nd (List.mem_of_getElem? hnd)
        have HGF := Lib.hid hgf
        have HNN := Lib.hid hnd0
        obtain ⟨z, hz⟩ : ∃ z, z = useS f nd := ⟨_, rfl⟩
        obtain ⟨zg, zs⟩ := z
        have HZ := Lib.hid hz
        have c0 := HR1.out.h.c0
        clear hf hnd hat hat' hab hab' hgf hnd0 hz
        go_wp2_with (first
          | (refine wpl_load_at rfl 179 (.tmp 36) rfl (a.add (i * 25)) rfl (stkC f) _ HAT.out Tryd.underlying179 rfl (by rw [infoS, lst_len]) ?_)
          | fail)
        refine (turnOf_any f HGF.out nd HNN.out _).mono ?_
        rintro o w5 ⟨rfl, hb⟩
        rw [← HZ.out]
        have HL5 : Hid (wr.heap.size ≤ w5.heap.size) := Lib.hid hb.size
        obtain ⟨w6, hw6⟩ : ∃ u, u = w5.alloc (.cells (turnCs zeroS 0) 219) := ⟨_, rfl⟩
        have T6 : Hid (TurnOwn w6 w5.heap.size zeroS 0) := Lib.hid (by rw [hw6]; exact TurnOwn.new w5 zeroS 0 _)
        obtain ⟨w7, hw7⟩ : ∃ u, u = w6.setCells w5.heap.size 0 (lst 26 (cellT zg zs)) := ⟨_, rfl⟩
        have T7 : Hid (TurnOwn w7 w5.heap.size zg zs) := Lib.hid (by rw [hw7]; exact T6.out.stored zg zs)
        have hb7 : Below w5.heap.size w5 w7 := by
          rw [hw7, hw6]
          exact below_cells ((Below.refl _ _).alloc (Nat.le_refl _) _) (Nat.le_refl _) _ _
        have HB7 := Lib.hid (below_next hb hb7 (Nat.le_refl _))
        have HW6 := Lib.hid hw6
        have HW7 := Lib.hid hw7
        clear hb hb7 hw6 hw7 c0 q0
        go_wp2_with (first
          | (rw [← HW6.out]; refine wpl_store_turn rfl (.tmp 10) (.tmp 39) rfl w5.heap.size rfl (f := zg) (s := zs) rfl T6.out ?_; rw [← HW7.out])
          | fail)
        have HB8 := Lib.hid (HB7.out.drew)
        have T8 : Hid (TurnOwn w7.drew w5.heap.size zg zs) := Lib.hid (RowOwn.next T7.out (Below.refl _ _).drew)
        refine wp_region_held_drew (S := fun u => TurnOwn u w5.heap.size zg zs) (by kernel_rfl) T8.out (fun hHeld => ?_)
        have hz8 : w7.drew.heap.size = w7.heap.size := rfl
        generalize w7.drew = w8 at HB8 T8 hHeld ⊢
        have H8 := Lib.hid (HR1.out.next HB8.out)
        have HS8 := Lib.hid ((HS.out.below HB8.out).more HB8.out.size)
        have HP8 := Lib.hid (owns_next HP.out HB8.out)
        clear T7 HB7 T6 HW6 HW7 HS hz8 HAT
        have x4 : (0 : Int) ≤ (i : Int) := by omega
        have x5 : (i : Int) < (m : Int) := by omega
        refine wpAnyH_take (i := 0) (v := ?_) rfl (by kernel_rfl) (by kernel_rfl) (by kernel_rfl) (fun _ _ _ h => h) (Or.inl ⟨by rfl, ?_⟩) (by assumption) ?_
        rotate_left
        · intro u hSu
          (try dsimp only at hSu)
          first | (go_simp; done) | (go_simp; with_reducible rfl)
        try simp only [Act.put, List.getElem_toArray, List.getElem_cons_zero, List.setIfInBounds_toArray, List.set_cons_zero, List.set_cons_succ]
        refine wpAnyH_take (i := 1) (v := ?_) rfl (by kernel_rfl) (by kernel_rfl) (by kernel_rfl) (fun _ _ _ h => h) (Or.inl ⟨by rfl, ?_⟩) (by assumption) ?_
        rotate_left
        · intro u hSu
          (try dsimp only at hSu)
          first | (go_simp; done) | (go_simp; with_reducible rfl)
        try simp only [Act.put, List.getElem_toArray, List.getElem_cons_zero, List.getElem_cons_succ, List.setIfInBounds_toArray, List.set_cons_zero, List.set_cons_succ]
        refine wpAnyH_take (i := 3) (v := ?_) rfl (by kernel_rfl) (by kernel_rfl) (by kernel_rfl) (fun _ _ _ h => h) (Or.inl ⟨by rfl, ?_⟩) (by assumption) ?_
        rotate_left
        · intro u hSu
          (try dsimp only at hSu)
          first | (go_simp; done) | (go_simp; with_reducible rfl)
        try simp only [Act.put, List.getElem_toArray, List.getElem_cons_zero, List.getElem_cons_succ, List.setIfInBounds_toArray, List.set_cons_zero, List.set_cons_succ]
        refine wpAnyH_take (i := 4) (v := ?_) rfl (by kernel_rfl) (by kernel_rfl) (by kernel_rfl) (fun _ _ _ h => h) (Or.inl ⟨by rfl, ?_⟩) (by assumption) ?_
        rotate_left
        · intro u hSu
          (try dsimp only at hSu)
          first | (go_simp; done) | (go_simp; with_reducible rfl)
        try simp only [Act.put, List.getElem_toArray, List.getElem_cons_zero, List.getElem_cons_succ, List.setIfInBounds_toArray, List.set_cons_zero, List.set_cons_succ]
        refine wpAnyH_take (i := 5) (v := stkV zg) rfl (by kernel_rfl) (by kernel_rfl) (by kernel_rfl) (fun _ _ _ h => h) (yieldsIf_load_mid (by rfl) 179 (.tmp 44) rfl w5.heap.size 0 rfl (lst 25 (cellS zg)) _ (fun u h => (TurnOwn.stk h).toRowAt.range) Tryd.underlying179 rfl (by rw [infoS, lst_len])) hHeld ?_
        (try simp only [Act.put, List.getElem_toArray, List.getElem_cons_zero, List.getElem_cons_succ, List.setIfInBounds_toArray, List.set_cons_zero, List.set_cons_succ])
        refine wpAnyH_take (i := 7) (v := ?_) rfl (by kernel_rfl) (by kernel_rfl) (by kernel_rfl) (fun _ _ _ h => h) (Or.inl ⟨by rfl, ?_⟩) (by assumption) ?_
        rotate_left
        · intro u hSu
          (try dsimp only at hSu)
          first | (go_simp; done) | (go_simp; with_reducible rfl)
        try simp only [Act.put, List.getElem_toArray, List.getElem_cons_zero, List.getElem_cons_succ, List.setIfInBounds_toArray, List.set_cons_zero, List.set_cons_succ]
        refine wpAnyH_take (i := 8) (v := .int .i64 zs) rfl (by kernel_rfl) (by kernel_rfl) (by kernel_rfl) (fun _ _ _ h => h) (Or.inl ⟨by rfl, ?_⟩) hHeld ?_
        · intro u hSu
          have hq : u.cell? ⟨w5.heap.size, 25, none⟩ = some (.int .i64 zs) := hSu.cell 25 (by omega)
          clear hSu
          first | (go_simp; done) | (go_simp; with_reducible rfl)
        (try simp only [Act.put, List.getElem_toArray, List.getElem_cons_zero, List.getElem_cons_succ, List.setIfInBounds_toArray, List.set_cons_zero, List.set_cons_succ])
        refine wpAnyH_ready (rs := [2]) (by kernel_rfl) (by simp) ?_
        refine AllReadyH.cons rfl (fun K hK => ?_) AllReadyH.nil
        have d0 := H8.out.h.c0
        have d1 := H8.out.h.c1
        have d2 := H8.out.h.c2
        have d3 := H8.out.h.c3
        go_simp
        refine hK.out _ _ (hHeld) (fun hHeld2 => ?_)
        clear hK K hHeld
        have hHeld := hHeld2
        clear hHeld2
        try simp only [Act.put, List.getElem_toArray, List.getElem_cons_zero, List.getElem_cons_succ, List.setIfInBounds_toArray, List.set_cons_zero, List.set_cons_succ]
        clear d0 d1 d2 d3
        refine wpAnyH_ready (rs := [6]) (by kernel_rfl) (by simp) ?_
        refine AllReadyH.cons rfl (fun K hK => ?_) AllReadyH.nil
        go_simp
        refine (withKind_any (some a) m cr (useI xs ns i) t x d (by rw [useI_len HL0.out]; exact En.out) HN.out.2 HCR.out.1 HCR.out.2 i hlt zg _ HS8.out).mono ?_
        rintro o w9 ⟨v9, rfl, hK, hb⟩
        have H9 := Lib.hid (H8.out.next hb)
        have T9 : Hid (TurnOwn w9 w5.heap.size zg zs) := Lib.hid (RowOwn.next hHeld hb)
        have hKl : 1 ≤ ((useI xs ns i).set i zg).length := by rw [List.length_set, useI_len HL0.out]; have := En.out; omega
        obtain ⟨A9, c9, rfl, r1, r2, _⟩ := hK.room hKl
        have hl9 : ((useI xs ns i).set i zg).length = m := by rw [List.length_set, useI_len HL0.out]; exact En.out.symm
        rw [hl9] at hK r1 ⊢
        have hK2 : KO w9 (w4.heap.size + 1) (.slice A9 m c9) (useI xs ns (i + 1)) := by
          rw [useI_next HFX.out HND.out, ← HZ.out]
          exact hK.mono (Nat.succ_le_of_lt (HP8.out.lt w4.heap.size rfl).2)
        have HK2 := Lib.hid hK2
        have HRM := Lib.hid (And.intro r1 r2)
        have HP9 := Lib.hid (owns_next HP8.out hb)
        clear hK hK2 hKl hl9 r1 r2
        refine hK.out _ _ (T9.out) (fun hHeld2 => ?_)
        clear hK K hHeld
        have hHeld := hHeld2
        clear hHeld2
        try simp only [Act.put, List.getElem_toArray, List.getElem_cons_zero, List.getElem_cons_succ, List.setIfInBounds_toArray, List.set_cons_zero, List.set_cons_succ]
        clear hb
        have d0 := H9.out.h.c0
        have d1 := H9.out.h.c1
        have d2 := H9.out.h.c2
        have d3 := H9.out.h.c3
        have p0 := H9.out.h.fz 0
        have p1 := H9.out.h.fz 1
        have p2 := H9.out.h.fz 2
        have p3 := H9.out.h.fz 3
        have HL9 := Lib.hid H9.out.lt
        refine wpAnyH_ready (rs := [9]) (by kernel_rfl) (by simp) ?_
        refine AllReadyH.cons rfl (fun K hK => ?_) AllReadyH.nil
        go_simp
        obtain ⟨w10, hw10⟩ : ∃ u, u = w9.setCells w.heap.size 0 (houL (.slice A9 m c9) t x d) := ⟨_, rfl⟩
        have H10 : Hid (HR w (.slice A9 m c9) t x d w10) := Lib.hid (by rw [hw10]; exact H9.out.stored _ t x d)
        have K10 : Hid (KO w10 (w4.heap.size + 1) (.slice A9 m c9) (useI xs ns (i + 1))) := Lib.hid (by rw [hw10]; exact KO.cells HK2.out (by have := HZ4.out; omega) 0 _)
        have hg10 : w9.grownBy w10 (some w.heap.size) := by rw [hw10]; exact grownBy_cells _ 0 (grownBy_refl _ _)
        have T10 : Hid (TurnOwn w10 w5.heap.size zg zs) := Lib.hid (RowOwn.grown T9.out hg10 (by have := T8.out.lt; have := HB8.out.size; have := HLR.out; have := HL5.out; omega))
        have HP10 := Lib.hid (owns_other HP9.out hg10 (fun k hk => by have := (HP9.out.lt k hk).1; have := HZ4.out; omega))
        show K _ (w9.setCells w.heap.size 0 (houL (.slice A9 m c9) t x d))
        rw [← hw10]
        clear hw10 hg10 d0 d1 d2 d3 p0 p1 p2 p3
        refine hK.out _ _ (T10.out) (fun hHeld2 => ?_)
        clear hK K hHeld
        have hHeld := hHeld2
        clear hHeld2
        try simp only [Act.put, List.getElem_toArray, List.getElem_cons_zero, List.getElem_cons_succ, List.setIfInBounds_toArray, List.set_cons_zero, List.set_cons_succ]
        refine wpAnyH_take (i := 10) (v := ?_) rfl (by kernel_rfl) (by kernel_rfl) (by kernel_rfl) (fun _ _ _ h => h) (Or.inl ⟨by rfl, ?_⟩) (by assumption) ?_
        rotate_left
        · intro u hSu
          (try dsimp only at hSu)
          first | (go_simp; done) | (go_simp; with_reducible rfl)
        try simp only [Act.put, List.getElem_toArray, List.getElem_cons_zero, List.getElem_cons_succ, List.setIfInBounds_toArray, List.set_cons_zero, List.set_cons_succ]
        have hLL := HP10.out.1
        obtain ⟨v0, s0⟩ : ∃ v, w10.cell? ⟨w4.heap.size, i, none⟩ = some v := ⟨L[i]'(by omega), (HP10.out.cellAt i (by omega)).trans (List.getElem?_eq_getElem _)⟩
        have f0 := HP10.out.frozenAt i
        have HLL := Lib.hid hLL
        clear hLL
        refine wpAnyH_ready (rs := [11]) (by kernel_rfl) (by simp) ?_
        refine AllReadyH.cons rfl (fun K hK => ?_) AllReadyH.nil
        go_simp
        have T11 : Hid (TurnOwn (w10.setCell ⟨w4.heap.size, i, none⟩ (.int .i64 zs)) w5.heap.size zg zs) := Lib.hid (RowOwn.set_other T10.out (by simp; have := (HP.out.lt w4.heap.size rfl).2; have := HL5.out; omega) _)
        refine hK.out _ _ (T11.out) (fun hHeld2 => ?_)
        clear hK K hHeld
        have hHeld := hHeld2
        clear hHeld2
        try simp only [Act.put, List.getElem_toArray, List.getElem_cons_zero, List.getElem_cons_succ, List.setIfInBounds_toArray, List.set_cons_zero, List.set_cons_succ]
        refine wpAnyH_done (by kernel_rfl) ?_ _
        have HLX := useX_len HL0.out
        go_wp2_with fail
        go_roundw
        case rel =>
          have hG11 : w10.grownBy (w10.setCell ⟨w4.heap.size, i, none⟩ (.int .i64 zs)) (some w4.heap.size) := grownBy_set (p := ⟨w4.heap.size, i, none⟩) (grownBy_refl _ _) rfl _
          have hk3 : KO (w10.setCell ⟨w4.heap.size, i, none⟩ (.int .i64 zs)) (w4.heap.size + 1) (.slice A9 m c9) (useI xs ns (i + 1)) := ⟨owns_other K10.out.o hG11 (fun k hk => by have := (K10.out.o.lt k hk).1; omega)⟩
          have hln : (useI xs ns (i + 1)).length = m := by rw [useI_len HL0.out]; exact En.out.symm
          obtain ⟨A10, c10, e10, _, _, hs10⟩ := hk3.room (by omega)
          rw [hln] at e10
          injection e10 with e1 e2 e3
          subst e1
          have hP4 := (HP10.out.stored i (.int .i64 zs)).1
          have hxx : (useX xs ns)[i]? = some zs := by
            have h1 := HFX.out
            have h2 := HND.out
            unfold useX
            rw [List.getElem?_zipWith, h1, h2]
            show some (useS f nd).2 = some zs
            rw [← HZ.out]
          have hd := HDN.out.step (C := intS.C) (fun _ _ => rfl) hxx (by rw [HLL.out, HLX, En.out])
          rw [Nat.mul_one] at hd
          exact ⟨i + 1, A9, c9, _, by omega, by go_num, H10.out.keep ((Below.refl (w.heap.size + 2) _).setCell (p := ⟨w4.heap.size, i, none⟩) HZ4.out _), HRM.out, hs10, .inr hk3, hP4, hd⟩
        case measure => simp [intOf]; omega
      · obtain rfl : i = m := by omega
        have hko : KO wr (w4.heap.size + 1) (.slice Ar i cr) (useK xs ns) := by
          have h1 := HK1.out.resolve_left (by have := HN.out; omega)
          rwa [show useI xs ns i = useK xs ns by rw [En.out]; exact useI_all HL0.out] at h1
        have hLX := useX_len HL0.out
        have hL : L = (useX xs ns).flatMap intS.C := Done.full (C := intS.C) (sz := 1) (by rw [hLX, ← En.out]; exact HDN.out) (fun _ _ => rfl) (by decide) (by rw [HP.out.1, hLX, En.out])
        have hP := HP.out
        rw [hL] at hP
        have HKO := Lib.hid hko
        have HPP := Lib.hid hP
        have hks := useK_good HGD.out HPC.out
        have hkl := useK_len HL0.out
        have HKS := Lib.hid (And.intro hks hkl)
        have c0 := HR1.out.h.c0
        have c1 := HR1.out.h.c1
        have c2 := HR1.out.h.c2
        have c3 := HR1.out.h.c3
        have q3 := HR1.out.h.fz 3
        have hr0 : 0 ≤ (d + 1) % x := Int.emod_nonneg _ (by have := HX.out; omega)
        have hr1 : (d + 1) % x < x := Int.emod_lt_of_pos _ (by have := HX.out; omega)
        have hrt : (d + 1).tmod x = (d + 1) % x := Int.tmod_eq_emod_of_nonneg (by have := HD.out; omega)
        obtain ⟨r, hr⟩ : ∃ r, (d + 1) % x = r := ⟨_, rfl⟩
        rw [hr] at hr0 hr1 hrt
        have y0 : IntKind.i16.wrap (d + 1) = d + 1 := IntWalk.i16_in _ (by have := HD.out; omega)
        have y1 : IntKind.i16.wrap x = x := IntWalk.i16_in _ (by have := HX.out; omega)
        have y3 : IntKind.i16.wrap r = r := IntWalk.i16_in _ (by have := HX.out; omega)
        have hx0 : ¬ x = 0 := by have := HX.out; omega
        have HRD : Hid (dayS t x (xs, d) ns = (if r = 0 then (washS (useK xs ns) t).1 else useK xs ns, d + 1)) := Lib.hid (by rw [dayS]; dsimp only; rw [hr])
        clear hko hL hP hks hkl hr hLX hr0 hr1
        have HSK : Hid (Sl stkC 25 wr wr.heap.size Ar (useK xs ns)) := Lib.hid (by
          have h1 := HS.out
          rwa [show useI xs ns i = useK xs ns by rw [En.out]; exact useI_all HL0.out] at h1)
        by_cases hrz : r = 0
        · subst hrz
          rw [if_pos rfl] at HRD
          clear HS HDN HK1 HP q3
          go_wp2_with fail
          refine (washed_any Ar i cr (useK xs ns) t x d (by rw [HKS.out.2]; exact En.out) HN.out.1 HN.out.2 HCR.out.1 HCR.out.2 HKS.out.1 HT.out _ HSK.out).mono ?_
          generalize t - (washS (useK xs ns) t).2 = y5
          rintro o w5 ⟨v5, rfl, hK, hb⟩
          have H5 := Lib.hid (HR1.out.next hb)
          have HPP5 := Lib.hid (owns_next HPP.out hb)
          have HK5 : Hid (KO w5 (w.heap.size + 2) v5 (washS (useK xs ns) t).1) := Lib.hid (hK.mono HLR.out)
          obtain ⟨A5, c5, rfl, _⟩ := owns_slice hK.o
          have hl5 : (washS (useK xs ns) t).1.length = i := by rw [washS_len, HKS.out.2]; exact En.out.symm
          rw [hl5] at HK5 ⊢
          clear hK hb hl5 c0 c1 c2 c3 hrt y1 y3 hx0
          have d0 := H5.out.h.c0
          have d1 := H5.out.h.c1
          have d2 := H5.out.h.c2
          have d3 := H5.out.h.c3
          have p0 := H5.out.h.fz 0
          have p1 := H5.out.h.fz 1
          have p2 := H5.out.h.fz 2
          have p3 := H5.out.h.fz 3
          obtain ⟨w5b, hw5b⟩ : ∃ u, u = ((((w5.setCell ⟨w.heap.size, 0, none⟩ (.slice A5 i c5)).setCell ⟨w.heap.size, 1, none⟩ (.int .i16 t)).setCell ⟨w.heap.size, 2, none⟩ (.int .i8 x)).setCell ⟨w.heap.size, 3, none⟩ (.int .i16 d)) := ⟨_, rfl⟩
          have H5b : Hid (HR w (.slice A5 i c5) t x d w5b) := Lib.hid (by rw [hw5b]; exact H5.out.stored _ t x d)
          have hg5b : w5.grownBy w5b (some w.heap.size) := by rw [hw5b]; exact grownBy_cells (houL (.slice A5 i c5) t x d) 0 (grownBy_refl w5 (some w.heap.size))
          obtain ⟨w6, hw6⟩ : ∃ u, u = w5b.setCell ⟨w.heap.size, 3, none⟩ (.int .i16 (d + 1)) := ⟨_, rfl⟩
          have hg6 : w5.grownBy w6 (some w.heap.size) := by rw [hw6]; exact grownBy_set (p := ⟨w.heap.size, 3, none⟩) hg5b rfl _
          have H6 : Hid (HR w (.slice A5 i c5) t x (d + 1) w6) := Lib.hid (by rw [hw6]; exact H5b.out.day (d + 1))
          have K6 : Hid (KO w6 (w.heap.size + 2) (.slice A5 i c5) (washS (useK xs ns) t).1) := Lib.hid ⟨owns_other HK5.out.o hg6 (fun k hk => by have := (HK5.out.o.lt k hk).1; omega)⟩
          have P6 := Lib.hid (owns_other HPP5.out hg6 (fun k hk => by have := (HPP5.out.lt k hk).1; have := HZ4.out; omega))
          have HW5b := Lib.hid hw5b
          have HW6 := Lib.hid hw6
          have b3 := H5b.out.h.c3
          have pb3 := H5b.out.h.fz 3
          have e0 := H6.out.h.c0
          have e1 := H6.out.h.c1
          have e2 := H6.out.h.c2
          have e3 := H6.out.h.c3
          have hR := H6.out.r
          have r0 := hR.c0
          have r1 := hR.c1
          have r2 := hR.c2
          have r3 := hR.c3
          have q0 := hR.fz 0
          have q1 := hR.fz 1
          have q2 := hR.fz 2
          have q3 := hR.fz 3
          have HRT := Lib.hid hR
          clear hR hg6 hg5b hw6 hw5b
          go_wp2_with (first
            | (rw [← HW5b.out])
            | (rw [← HW6.out])
            | fail)
          refine bodyPost_ret (v := .tuple #[houV (.slice A5 i c5) t x (d + 1), .slice (some ⟨w4.heap.size, 0, none⟩) i i]) (results_row_tmp (u := w6.setCells (w.heap.size + 1) 0 (houL (.slice A5 i c5) t x (d + 1))) (b := w.heap.size + 1) (cs := houL (.slice A5 i c5) t x (d + 1)) Tryd.results152 rfl (World.rangeAt_setCells_same _ _ _ _ HRT.out.there) Tryd.underlying58 rfl (by kernel_rfl)) rfl (.inr ⟨HKK.out, _, _, _, rfl, ?_, ?_, ?_⟩)
          · rw [HRD.out]
            exact (KO.cells K6.out (show w.heap.size + 1 < w.heap.size + 2 by omega) 0 (houL (.slice A5 i c5) t x (d + 1))).mono (by omega)
          · have ho := owns_other P6.out (grownBy_cells (houL (.slice A5 i c5) t x (d + 1)) 0 (grownBy_refl w6 (some (w.heap.size + 1)))) (fun k hk => by have := (P6.out.lt k hk).1; have := HZ4.out; omega)
            exact owns_below ho (by have := HZ4.out; omega)
          · exact below_cells H6.out.b (by omega) (houL _ t x _) 0
        · have hrb : (r == 0) = false := by simpa using hrz
          rw [if_neg hrz] at HRD
          obtain ⟨w6, hw6⟩ : ∃ u, u = wr.setCell ⟨w.heap.size, 3, none⟩ (.int .i16 (d + 1)) := ⟨_, rfl⟩
          have hg6 : wr.grownBy w6 (some w.heap.size) := by rw [hw6]; exact grownBy_set (p := ⟨w.heap.size, 3, none⟩) (grownBy_refl _ _) rfl _
          have H6 : Hid (HR w (.slice Ar i cr) t x (d + 1) w6) := Lib.hid (by rw [hw6]; exact HR1.out.day (d + 1))
          have K6 : Hid (KO w6 (w4.heap.size + 1) (.slice Ar i cr) (useK xs ns)) := Lib.hid ⟨owns_other HKO.out.o hg6 (fun k hk => by have := (HKO.out.o.lt k hk).1; have := HZ4.out; omega)⟩
          have P6 := Lib.hid (owns_other HPP.out hg6 (fun k hk => by have := (HPP.out.lt k hk).1; have := HZ4.out; omega))
          have HW6 := Lib.hid hw6
          have e0 := H6.out.h.c0
          have e1 := H6.out.h.c1
          have e2 := H6.out.h.c2
          have e3 := H6.out.h.c3
          have hR := H6.out.r
          have r0 := hR.c0
          have r1 := hR.c1
          have r2 := hR.c2
          have r3 := hR.c3
          have f0 := hR.fz 0
          have f1 := hR.fz 1
          have f2 := hR.fz 2
          have f3 := hR.fz 3
          have HRT := Lib.hid hR
          clear hR hg6 hw6 HS HDN HK1 HP
          go_wp2_with (first
            | (rw [← HW6.out])
            | fail)
          refine bodyPost_ret (v := .tuple #[houV (.slice Ar i cr) t x (d + 1), .slice (some ⟨w4.heap.size, 0, none⟩) i i]) (results_row_tmp (u := w6.setCells (w.heap.size + 1) 0 (houL (.slice Ar i cr) t x (d + 1))) (b := w.heap.size + 1) (cs := houL (.slice Ar i cr) t x (d + 1)) Tryd.results152 rfl (World.rangeAt_setCells_same _ _ _ _ HRT.out.there) Tryd.underlying58 rfl (by kernel_rfl)) rfl (.inr ⟨HKK.out, _, _, _, rfl, ?_, ?_, ?_⟩)
          · rw [HRD.out]
            exact (KO.cells K6.out (show w.heap.size + 1 < w4.heap.size + 1 by have := HZ4.out; omega) 0 (houL (.slice Ar i cr) t x (d + 1))).mono (by have := HZ4.out; omega)
          · have ho := owns_other P6.out (grownBy_cells (houL (.slice Ar i cr) t x (d + 1)) 0 (grownBy_refl w6 (some (w.heap.size + 1)))) (fun k hk => by have := (P6.out.lt k hk).1; have := HZ4.out; omega)
            exact owns_below ho (by have := HZ4.out; omega)
          · exact below_cells H6.out.b (by omega) (houL _ t x _) 0
end Go.Proofs.YtdcckdfemelbiaaDoor.hou

/-
  A day of a house, the model's: l05Day.
-/
namespace Go.Proofs.YtdcckdfemelbiaaDoor.hou
open Go Go.RowKit sl row stk errs fold rows

/-- what changed lies in two blocks -/
abbrev Two (b g : Nat) (w w' : World) : Prop := But (fun k => k = b ∨ k = g) w w'
theorem Two.below {b g : Nat} {w u v : World} (h : Two b g w u) (hb : Below w.heap.size u v) : Two b g w v :=
  ⟨hb.os.trans h.os, hb.tape.trans h.tape, hb.output.trans h.output, Nat.le_trans h.size hb.size, fun k hk hn => (hb.block k hk).trans (h.block k hk hn)⟩
theorem Two.grown {b g : Nat} {w u v : World} (h : Two b g w u) (hg : u.grownBy v (some g)) : Two b g w v :=
  But.trans h ((But.of_grown hg).mono fun _k hk => .inr hk)
theorem Two.set {b g : Nat} {w u : World} (h : Two b g w u) (i : Nat) (x : Value) : Two b g w (u.setCell ⟨b, i, none⟩ x) :=
  But.trans h ((But.of_grown (grownBy_set (p := ⟨b, i, none⟩) (grownBy_refl u (some b)) rfl x)).mono fun _k hk => .inl hk)
theorem HouAt.grown {u u' : World} {b g : Nat} {v : Value} {t e d : Int} (h : HouAt u b v t e d) (hg : u.grownBy u' (some g)) (hne : b ≠ g) : HouAt u' b v t e d :=
  h.same hg.size (hg.block b h.lt (by simp; exact hne))
theorem sl_grown {u u' : World} {B g : Nat} {A : Option Addr} {ns : List Int} (h : Sl intS.C 1 u B A ns) (hg : u.grownBy u' (some g)) (hB : B ≤ g) (hu : B ≤ u.heap.size) : Sl intS.C 1 u' B A ns :=
  h.below ⟨hg.os, hg.tape, hg.output, hg.size, fun k hk => hg.block k (by omega) (by simp; omega)⟩
theorem owns_block {w w' : World} {base g : Nat} {e : TypeId} {sz n c : Nat} {L : List Value} (h : w.ownsRow base e sz (.slice (some ⟨g, 0, none⟩) n c) n L) (hb : w'.heap[g]? = w.heap[g]?) : w'.ownsRow base e sz (.slice (some ⟨g, 0, none⟩) n c) n L :=
  owns_same h fun k hk => by obtain rfl := Option.some.inj hk; exact hb
theorem Two.low {b g : Nat} {w u v : World} (h : Two b g w u) (hb : Below w.heap.size u v) : Two b g w v :=
  ⟨hb.os.trans h.os, hb.tape.trans h.tape, hb.output.trans h.output, Nat.le_trans h.size hb.size, fun k hk hn => (hb.block k hk).trans (h.block k hk hn)⟩
set_option maxRecDepth 100000 in
set_option maxHeartbeats 8000000 in
theorem l05Day_any (g n c b : Nat) (xs : List Stk) (t x d : Int) (en : n = xs.length) (hn1 : 1 ≤ n) (hn : n ≤ 4) (hgd : ∀ f ∈ xs, stk.Good f) (ht : 0 ≤ t ∧ t ≤ 1000) (hx : 1 ≤ x ∧ x ≤ 7) (hd : 0 ≤ d ∧ d ≤ 60) (base : Nat) (hbg : b ≠ g) (A' : Option Addr) (m c' : Nat) (ns : List Int) (em : m = ns.length) (hm : m ≤ 9223372036854775807)
    (w : World) (hH : HouAt w b (.slice (some ⟨g, 0, none⟩) n c) t x d) (hO : StkOwns w base (.slice (some ⟨g, 0, none⟩) n c) n (xs.flatMap stkC)) (hg' : Sl intS.C 1 w base A' ns) (k : Nat) (hk : k = codeY (xs, d) ns) :
    Calls Tryd.prog 105 #[.pointer (some ⟨b, 0, none⟩), .slice A' m c'] w fun o w' => (∃ i A0 c0, k = i + 1 ∧ o = .returned (.tuple #[.slice A0 0 c0, .int .i64 (k : Nat)]) ∧ Below w.heap.size w w') ∨
      (k = 0 ∧ ∃ A2 c2, o = .returned (.tuple #[.slice A2 n c2, .int .i64 0]) ∧ HouAt w' b (.slice (some ⟨g, 0, none⟩) n c) t x (d + 1) ∧ StkOwns w' base (.slice (some ⟨g, 0, none⟩) n c) n ((dayS t x (xs, d) ns).1.flatMap stkC) ∧ w'.ownsRow w.heap.size 2 1 (.slice A2 n c2) n ((useX xs ns).flatMap intS.C) ∧ Two b g w w') := by
  obtain ⟨i0, hi, hz0, hz1, hz2⟩ := info_parts intS.info
  obtain ⟨hbase, hgl⟩ := hO.lt g rfl
  obtain ⟨q, hq⟩ : ∃ q, q = decide (ns.length = n ∧ pcsOk ns = true) := ⟨_, rfl⟩
  obtain ⟨u1, hu1⟩ : ∃ u, u = w.alloc (.cells #[] 2) := ⟨_, rfl⟩
  have hb1 : Below w.heap.size w u1 := by rw [hu1]; exact (Below.refl _ _).alloc (Nat.le_refl _) _
  have hown : u1.ownsRow w.heap.size 2 1 (.slice (some ⟨w.heap.size, 0, none⟩) 0 0) 0 [] := by rw [hu1]; exact World.ownsRow_made (e := 2) (size := 1) w #[] 0 (Nat.le_refl _) (Nat.zero_le _) rfl
  have HB1 := Lib.hid hb1
  have HOW := Lib.hid hown
  have HU1 := Lib.hid hu1
  have HQ := Lib.hid hq
  have HKK := Lib.hid hk
  have En := Lib.hid en
  have Em := Lib.hid em
  have HM := Lib.hid hm
  have HGD := Lib.hid hgd
  have HN := Lib.hid (And.intro hn1 hn)
  have HT := Lib.hid ht
  have HX := Lib.hid hx
  have HD := Lib.hid hd
  have HH := Lib.hid (hH.next hb1)
  have HO := Lib.hid (owns_next hO hb1)
  have HG' := Lib.hid (hg'.below (hb1.mono (by omega)))
  have HBL := Lib.hid (And.intro hbase (And.intro hgl hH.lt))
  have c0 := HH.out.c0
  have c3 := HH.out.c3
  clear hb1 hown hu1 hq hk en em hm hgd hn1 hn ht hx hd hH hO hg' hbase hgl
  go_enter Tryd.func105, Tryd.ntmps105
  go_wp2_with (first | (rw [← HU1.out]) | fail)
  refine (l05Needs_any A' m c' ns Em.out HM.out n (by have := HN.out; omega) _ (HG'.out.more (by have := HBL.out; have := HB1.out.size; omega)) q HQ.out).mono ?_
  rintro o u2 ⟨rfl, hw⟩
  obtain rfl := hw.symm
  clear hw
  cases q with
  | false =>
    have hk2 : k = 2 := by
      rw [HKK.out, codeY, if_neg]
      rw [← En.out]
      exact of_decide_eq_false HQ.out.symm
    subst hk2
    go_wp2_with fail
    go_ret2
    exact .inl ⟨1, _, _, rfl, rfl, HB1.out⟩
  | true =>
    have hyes := of_decide_eq_true HQ.out.symm
    by_cases h60 : d = 60
    · have hk4 : k = 4 := by
        rw [HKK.out, codeY, if_pos (by rw [← En.out]; exact hyes), if_pos h60]
      subst hk4
      have hdd : (d == 60) = true := by simpa using h60
      clear hyes
      go_wp2_with fail
      go_ret2
      exact .inl ⟨3, _, _, rfl, rfl, HB1.out⟩
    · have hk0 : k = 0 := by
        rw [HKK.out, codeY, if_pos (by rw [← En.out]; exact hyes), if_neg h60]
      subst hk0
      have hdd : (d == 60) = false := by simpa using h60
      have hmn : m = n := by have := Em.out; have := hyes.1; omega
      subst hmn
      have HPC := Lib.hid (pcsOk_iff.1 hyes.2)
      have HL0 : Hid (ns.length = xs.length) := Lib.hid (by have := En.out; have := Em.out; omega)
      have HD60 : Hid (d ≠ 60) := Lib.hid h60
      clear hyes h60 HKK HQ
      go_wp2_with fail
      go_loopw [6, 7] (fun vo vi wr => ∃ (i : Nat) (v : Value), i ≤ m ∧ vi = .int .i64 (i : Nat) ∧ vo = v ∧ wr.ownsRow w.heap.size 2 1 v i ((useX (xs.take i) (ns.take i)).flatMap intS.C) ∧ HouAt wr b (.slice (some ⟨g, 0, none⟩) m c) t x d ∧ StkOwns wr base (.slice (some ⟨g, 0, none⟩) m c) m ((useI xs ns i).flatMap stkC) ∧ Sl intS.C 1 wr base A' ns ∧ Two b g w wr) (fun _ vi _ => m - (intOf vi).toNat)
      case atStart => exact ⟨0, _, by omega, rfl, rfl, HOW.out, HH.out, by rw [useI_zero]; exact HO.out, HG'.out, Two.below (But.refl _ _) HB1.out⟩
      case round =>
        clear c0 c3 HU1 HB1 HOW HH HO HG'
        obtain ⟨i, v, hil, rfl, rfl, hP, hH, hO, hS, hT⟩ := hrel
        obtain ⟨Av, cv, rfl, _⟩ := owns_slice hP
        have HP := Lib.hid hP
        have HH := Lib.hid hH
        have HO := Lib.hid hO
        have HS := Lib.hid hS
        have HT2 := Lib.hid hT
        have hm4 : m ≤ 4 := HN.out.2
        have c0 := hH.c0
        have c2 := hH.c2
        have c3 := hH.c3
        have f3 := hH.fz 3
        clear hP hH hO hS hT
        by_cases hlt : i < m
        · obtain ⟨f, hf⟩ : ∃ f, xs[i]? = some f := ⟨xs[i]'(by have := En.out; omega), List.getElem?_eq_getElem _⟩
          obtain ⟨nd, hnd⟩ : ∃ nd, ns[i]? = some nd := ⟨ns[i]'(by have := Em.out; omega), List.getElem?_eq_getElem _⟩
          obtain ⟨a', rfl, hab', hat'⟩ := HS.out.at_ i nd hnd
          have q0 := intS.at_ hat'
          have HFX := Lib.hid hf
          have HND := Lib.hid hnd
          have hgf := HGD.out f (List.mem_of_getElem? hf)
          have hnd0 := HPC.out nd (List.mem_of_getElem? hnd)
          have T0 : Hid (StkOwn wr g (i * 25) f) := Lib.hid (owns_at HO.out (useI_at hf (by have := Em.out; omega)))
          have HGF := Lib.hid hgf
          have HNN := Lib.hid hnd0
          have HAB := Lib.hid hab'
          have x4 : (0 : Int) ≤ (i : Int) := by omega
          have x5 : (i : Int) < (m : Int) := by omega
          have hQ : wr.drew.cell? ⟨b, 0, none⟩ = some (.slice (some ⟨g, 0, none⟩) m c) ∧ wr.drew.cell? (a'.add i) = some (.int .i64 nd) := ⟨c0, q0⟩
          have HH1 := Lib.hid (HH.out.next (Below.refl _ _).drew)
          have HO1 := Lib.hid (owns_next HO.out (Below.refl _ _).drew)
          have HP1 := Lib.hid (owns_next HP.out (Below.refl _ _).drew)
          have HS1 := Lib.hid (HS.out.below (Below.refl _ _).drew)
          have HT3 := Lib.hid (Two.below HT2.out (Below.refl _ _).drew)
          have T1 : Hid (StkOwn wr.drew g (i * 25) f) := Lib.hid (T0.out.next (Below.refl _ _).drew)
          clear hf hnd hat' hab' hgf hnd0
          go_wp2_with fail
          refine wp_region_held_drew (S := fun u => u.cell? ⟨b, 0, none⟩ = some (.slice (some ⟨g, 0, none⟩) m c) ∧ u.cell? (a'.add i) = some (.int .i64 nd)) (by kernel_rfl) hQ (fun hHeld => ?_)
          generalize wr.drew = w3 at HH1 HO1 HP1 HS1 HT3 T1 hHeld ⊢
          clear HH HO HP HS HT2 T0 c0 c2 c3 f3 q0 hQ
          refine wpAnyH_take (i := 0) (v := ?_) rfl (by kernel_rfl) (by kernel_rfl) (by kernel_rfl) (fun _ _ _ h => h) (Or.inl ⟨by rfl, ?_⟩) (by assumption) ?_
          rotate_left
          · intro u hSu
            (try dsimp only at hSu)
            first | (go_simp; done) | (go_simp; with_reducible rfl)
          try simp only [Act.put, List.getElem_toArray, List.getElem_cons_zero, List.setIfInBounds_toArray, List.set_cons_zero, List.set_cons_succ]
          refine wpAnyH_take (i := 1) (v := ?_) rfl (by kernel_rfl) (by kernel_rfl) (by kernel_rfl) (fun _ _ _ h => h) (Or.inl ⟨by rfl, ?_⟩) (by assumption) ?_
          rotate_left
          · intro u hSu
            (try dsimp only at hSu)
            first | (go_simp; done) | (go_simp; with_reducible rfl)
          try simp only [Act.put, List.getElem_toArray, List.getElem_cons_zero, List.getElem_cons_succ, List.setIfInBounds_toArray, List.set_cons_zero, List.set_cons_succ]
          refine wpAnyH_take (i := 2) (v := ?_) rfl (by kernel_rfl) (by kernel_rfl) (by kernel_rfl) (fun _ _ _ h => h) (Or.inl ⟨by rfl, ?_⟩) (by assumption) ?_
          rotate_left
          · intro u hSu
            (try dsimp only at hSu)
            first | (go_simp; done) | (go_simp; with_reducible rfl)
          try simp only [Act.put, List.getElem_toArray, List.getElem_cons_zero, List.getElem_cons_succ, List.setIfInBounds_toArray, List.set_cons_zero, List.set_cons_succ]
          refine wpAnyH_take (i := 3) (v := ?_) rfl (by kernel_rfl) (by kernel_rfl) (by kernel_rfl) (fun _ _ _ h => h) (Or.inl ⟨by rfl, ?_⟩) (by assumption) ?_
          rotate_left
          · intro u hSu
            (try dsimp only at hSu)
            first | (go_simp; done) | (go_simp; with_reducible rfl)
          try simp only [Act.put, List.getElem_toArray, List.getElem_cons_zero, List.getElem_cons_succ, List.setIfInBounds_toArray, List.set_cons_zero, List.set_cons_succ]
          refine wpAnyH_take (i := 4) (v := .slice (some ⟨g, 0, none⟩) m c) rfl (by kernel_rfl) (by kernel_rfl) (by kernel_rfl) (fun _ _ _ h => h) (Or.inl ⟨by rfl, ?_⟩) hHeld ?_
          · intro u hSu
            have hq := hSu.1
            clear hSu
            first | (go_simp; done) | (go_simp; with_reducible rfl)
          (try simp only [Act.put, List.getElem_toArray, List.getElem_cons_zero, List.getElem_cons_succ, List.setIfInBounds_toArray, List.set_cons_zero, List.set_cons_succ])
          refine wpAnyH_take (i := 5) (v := ?_) rfl (by kernel_rfl) (by kernel_rfl) (by kernel_rfl) (fun _ _ _ h => h) (Or.inl ⟨by rfl, ?_⟩) (by assumption) ?_
          rotate_left
          · intro u hSu
            (try dsimp only at hSu)
            first | (go_simp; done) | (go_simp; with_reducible rfl)
          try simp only [Act.put, List.getElem_toArray, List.getElem_cons_zero, List.getElem_cons_succ, List.setIfInBounds_toArray, List.set_cons_zero, List.set_cons_succ]
          refine wpAnyH_take (i := 6) (v := ?_) rfl (by kernel_rfl) (by kernel_rfl) (by kernel_rfl) (fun _ _ _ h => h) (Or.inl ⟨by rfl, ?_⟩) (by assumption) ?_
          rotate_left
          · intro u hSu
            (try dsimp only at hSu)
            first | (go_simp; done) | (go_simp; with_reducible rfl)
          try simp only [Act.put, List.getElem_toArray, List.getElem_cons_zero, List.getElem_cons_succ, List.setIfInBounds_toArray, List.set_cons_zero, List.set_cons_succ]
          refine wpAnyH_take (i := 7) (v := ?_) rfl (by kernel_rfl) (by kernel_rfl) (by kernel_rfl) (fun _ _ _ h => h) (Or.inl ⟨by rfl, ?_⟩) (by assumption) ?_
          rotate_left
          · intro u hSu
            (try dsimp only at hSu)
            first | (go_simp; done) | (go_simp; with_reducible rfl)
          try simp only [Act.put, List.getElem_toArray, List.getElem_cons_zero, List.getElem_cons_succ, List.setIfInBounds_toArray, List.set_cons_zero, List.set_cons_succ]
          refine wpAnyH_take (i := 8) (v := ?_) rfl (by kernel_rfl) (by kernel_rfl) (by kernel_rfl) (fun _ _ _ h => h) (Or.inl ⟨by rfl, ?_⟩) (by assumption) ?_
          rotate_left
          · intro u hSu
            (try dsimp only at hSu)
            first | (go_simp; done) | (go_simp; with_reducible rfl)
          try simp only [Act.put, List.getElem_toArray, List.getElem_cons_zero, List.getElem_cons_succ, List.setIfInBounds_toArray, List.set_cons_zero, List.set_cons_succ]
          refine wpAnyH_take (i := 9) (v := ?_) rfl (by kernel_rfl) (by kernel_rfl) (by kernel_rfl) (fun _ _ _ h => h) (Or.inl ⟨by rfl, ?_⟩) (by assumption) ?_
          rotate_left
          · intro u hSu
            (try dsimp only at hSu)
            first | (go_simp; done) | (go_simp; with_reducible rfl)
          try simp only [Act.put, List.getElem_toArray, List.getElem_cons_zero, List.getElem_cons_succ, List.setIfInBounds_toArray, List.set_cons_zero, List.set_cons_succ]
          refine wpAnyH_take (i := 10) (v := .int .i64 nd) rfl (by kernel_rfl) (by kernel_rfl) (by kernel_rfl) (fun _ _ _ h => h) (Or.inl ⟨by rfl, ?_⟩) hHeld ?_
          · intro u hSu
            have hq := hSu.2
            clear hSu
            first | (go_simp; done) | (go_simp; with_reducible rfl)
          (try simp only [Act.put, List.getElem_toArray, List.getElem_cons_zero, List.getElem_cons_succ, List.setIfInBounds_toArray, List.set_cons_zero, List.set_cons_succ])
          refine wpAnyH_ready (rs := [11]) (by kernel_rfl) (by simp) ?_
          refine AllReadyH.cons rfl (fun K hK => ?_) AllReadyH.nil
          go_simp
          refine (l05Use_any f HGF.out nd HNN.out g (i * 25) _ T1.out).mono ?_
          rintro o w4 ⟨rfl, hO4, hC4⟩
          have hgr4 := hC4.g
          have HH4 := Lib.hid (HH1.out.grown hgr4 hbg)
          have HO4 := Lib.hid (owns_stk HO1.out hlt hO4 hC4)
          have HP4 := Lib.hid (owns_other HP1.out hgr4 (fun k hk => by have := (HP1.out.lt k hk).1; have := HBL.out; omega))
          have HZ3 := Lib.hid HT3.out.size
          have HS4 := Lib.hid (sl_grown HS1.out hgr4 HBL.out.1 (by have := HZ3.out; have := HBL.out; omega))
          have HT4 := Lib.hid (Two.grown HT3.out hgr4)
          have S4 : Hid (w4.cell? ⟨b, 0, none⟩ = some (.slice (some ⟨g, 0, none⟩) m c) ∧ w4.cell? (a'.add i) = some (.int .i64 nd)) := Lib.hid ⟨HH4.out.c0, by
            obtain ⟨a2, e, _, hat⟩ := HS4.out.at_ i nd HND.out
            obtain rfl := Option.some.inj e
            exact intS.at_ hat⟩
          obtain ⟨sv, hsv⟩ : ∃ s, s = (useS f nd).2 := ⟨_, rfl⟩
          rw [← hsv]
          have HSV := Lib.hid hsv
          clear hgr4 hO4 hC4 hsv HH1 HO1 HP1 HS1 HT3 T1
          refine hK.out _ _ (S4.out) (fun hHeld2 => ?_)
          clear hK K hHeld
          have hHeld := hHeld2
          clear hHeld2
          try simp only [Act.put, List.getElem_toArray, List.getElem_cons_zero, List.getElem_cons_succ, List.setIfInBounds_toArray, List.set_cons_zero, List.set_cons_succ]
          obtain ⟨w5, hw5⟩ : ∃ u, u = w4.alloc (.cells #[.int .i64 sv] 2) := ⟨_, rfl⟩
          have hb5 : Below w4.heap.size w4 w5 := by rw [hw5]; exact (Below.refl _ _).alloc (Nat.le_refl _) _
          have HH5 := Lib.hid (HH4.out.next hb5)
          have HO5 := Lib.hid (owns_next HO4.out hb5)
          have HP5 := Lib.hid (owns_next HP4.out hb5)
          have HZ5 : Hid (w5.heap.size = w4.heap.size + 1) := Lib.hid (by rw [hw5]; simp)
          have HZ4 := Lib.hid HT4.out.size
          have HS5 := Lib.hid (HS4.out.below (hb5.mono (by have := HZ4.out; have := HBL.out; omega)))
          have HT5 := Lib.hid (Two.below HT4.out (hb5.mono HZ4.out))
          have S5 : Hid (w5.cell? ⟨b, 0, none⟩ = some (.slice (some ⟨g, 0, none⟩) m c) ∧ w5.cell? (a'.add i) = some (.int .i64 nd)) := Lib.hid ⟨HH5.out.c0, by
            obtain ⟨a2, e, _, hat⟩ := HS5.out.at_ i nd HND.out
            obtain rfl := Option.some.inj e
            exact intS.at_ hat⟩
          have HW5 := Lib.hid hw5
          clear hb5 hw5
          refine wpAnyH_ready (rs := [12]) (by kernel_rfl) (by simp) ?_
          refine AllReadyH.cons rfl (fun K hK => ?_) AllReadyH.nil
          rw [if_pos (by kernel_rfl)]
          refine wp_listed' 22 1 _ rfl #[(0, .int .i64 sv)] ?hp (build_one sv _) ?_
          case hp => simp [Act.eval]
          rw [← HW5.out]
          refine hK.out _ _ (S5.out) (fun hHeld2 => ?_)
          clear hK K hHeld
          have hHeld := hHeld2
          clear hHeld2
          try simp only [Act.put, List.getElem_toArray, List.getElem_cons_zero, List.getElem_cons_succ, List.setIfInBounds_toArray, List.set_cons_zero, List.set_cons_succ]
          refine wpAnyH_ready (rs := [13]) (by kernel_rfl) (by simp) ?_
          refine AllReadyH.cons rfl (fun K hK => ?_) AllReadyH.nil
          rw [if_pos (by kernel_rfl)]
          refine wp_append_own _ (.tmp 33) (.tmp 45) 22 rfl w.heap.size 2 i0 (.int .i64 0) 1 8 Tryd.underlying22 hi hz0 hz1 hz2 rfl (by decide) _ _ _ rfl HP5.out ⟨w4.heap.size, 0, none⟩ 1 1 [.int .i64 sv] rfl rfl (fun j u hj => by rw [HW5.out]; exact one_newB _ _ _ _ rfl j u hj) (one_cellI (by rfl)) (by unfold maxLen; omega) (by omega) (by have := HZ5.out; have := HZ4.out; omega) ?_
          intro v6 w6 hown hgr _
          have HP6 := Lib.hid hown
          have hb6 : Below w.heap.size w5 w6 := Below.grown (Below.refl _ _) hgr (by have := HZ5.out; have := HZ4.out; omega) (fun k hk => (HP5.out.lt k hk).1)
          have HH6 := Lib.hid (HH5.out.below hb6 HBL.out.2.2)
          have HO6 : Hid (StkOwns w6 base (.slice (some ⟨g, 0, none⟩) m c) m (((useI xs ns i).set i (useS f nd).1).flatMap stkC)) := Lib.hid (owns_block HO5.out (hb6.block g HBL.out.2.1))
          have HS6 := Lib.hid (HS5.out.below (hb6.mono (by have := HBL.out; omega)))
          have HT6 : Hid (Two b g w w6) := Lib.hid (Two.low HT5.out hb6)
          have S6 : Hid (w6.cell? ⟨b, 0, none⟩ = some (.slice (some ⟨g, 0, none⟩) m c) ∧ w6.cell? (a'.add i) = some (.int .i64 nd)) := Lib.hid ⟨HH6.out.c0, by
            obtain ⟨a2, e, _, hat⟩ := HS6.out.at_ i nd HND.out
            obtain rfl := Option.some.inj e
            exact intS.at_ hat⟩
          clear hown hgr hb6
          refine hK.out _ _ (S6.out) (fun hHeld2 => ?_)
          clear hK K hHeld
          have hHeld := hHeld2
          clear hHeld2
          try simp only [Act.put, List.getElem_toArray, List.getElem_cons_zero, List.getElem_cons_succ, List.setIfInBounds_toArray, List.set_cons_zero, List.set_cons_succ]
          refine wpAnyH_take (i := 14) (v := ?_) rfl (by kernel_rfl) (by kernel_rfl) (by kernel_rfl) (fun _ _ _ h => h) (Or.inl ⟨by rfl, ?_⟩) (by assumption) ?_
          rotate_left
          · intro u hSu
            (try dsimp only at hSu)
            first | (go_simp; done) | (go_simp; with_reducible rfl)
          try simp only [Act.put, List.getElem_toArray, List.getElem_cons_zero, List.getElem_cons_succ, List.setIfInBounds_toArray, List.set_cons_zero, List.set_cons_succ]
          refine wpAnyH_done (by kernel_rfl) ?_ _
          clear hHeld
          go_wp2_with fail
          go_roundw
          case rel =>
            have hxn := useX_next HFX.out HND.out
            exact ⟨i + 1, v6, by omega, by go_num, rfl, by rw [hxn, List.flatMap_append, ← HSV.out]; exact HP6.out, HH6.out, by rw [useI_next HFX.out HND.out]; exact HO6.out, HS6.out, HT6.out⟩
          case measure => simp [intOf]; omega
        · obtain rfl : i = m := by omega
          have hO : StkOwns wr base (.slice (some ⟨g, 0, none⟩) i c) i ((useK xs ns).flatMap stkC) := by
            have h1 := HO.out
            rwa [show useI xs ns i = useK xs ns by rw [En.out]; exact useI_all HL0.out] at h1
          have hP : wr.ownsRow w.heap.size 2 1 (.slice Av i cv) i ((useX xs ns).flatMap intS.C) := by
            have h1 := HP.out
            rwa [show useX (xs.take i) (ns.take i) = useX xs ns by rw [En.out]; exact useX_all HL0.out] at h1
          have HOK := Lib.hid hO
          have HPX := Lib.hid hP
          have hks := useK_good HGD.out HPC.out
          have hkl := useK_len HL0.out
          have HKS := Lib.hid (And.intro hks hkl)
          have hr0 : 0 ≤ (d + 1) % x := Int.emod_nonneg _ (by have := HX.out; omega)
          have hr1 : (d + 1) % x < x := Int.emod_lt_of_pos _ (by have := HX.out; omega)
          have hrt : (d + 1).tmod x = (d + 1) % x := Int.tmod_eq_emod_of_nonneg (by have := HD.out; omega)
          obtain ⟨r, hr⟩ : ∃ r, (d + 1) % x = r := ⟨_, rfl⟩
          rw [hr] at hr0 hr1 hrt
          have y0 : IntKind.i16.wrap (d + 1) = d + 1 := IntWalk.i16_in _ (by have := HD.out; omega)
          have y1 : IntKind.i64.wrap x = x := IntWalk.i64_in _ (by have := HX.out; omega)
          have y2 : IntKind.i64.wrap (d + 1) = d + 1 := IntWalk.i64_in _ (by have := HD.out; omega)
          have y3 : IntKind.i64.wrap r = r := IntWalk.i64_in _ (by have := HX.out; omega)
          have y4 : wrap64 r = r := by have := HX.out; unfold wrap64; omega
          have hx0 : ¬ x = 0 := by have := HX.out; omega
          have HRD : Hid (dayS t x (xs, d) ns = (if r = 0 then (washS (useK xs ns) t).1 else useK xs ns, d + 1)) := Lib.hid (by rw [dayS]; dsimp only; rw [hr])
          obtain ⟨w6, hw6⟩ : ∃ u, u = wr.setCell ⟨b, 3, none⟩ (.int .i16 (d + 1)) := ⟨_, rfl⟩
          have hg6 : wr.grownBy w6 (some b) := by rw [hw6]; exact grownBy_set (p := ⟨b, 3, none⟩) (grownBy_refl _ _) rfl _
          have HH6 : Hid (HouAt w6 b (.slice (some ⟨g, 0, none⟩) i c) t x (d + 1)) := Lib.hid (by rw [hw6]; exact HH.out.day (d + 1))
          have HO6 := Lib.hid (owns_block HOK.out (hg6.block g (HOK.out.lt g rfl).2 (by simp; exact fun e => hbg e.symm)))
          have HP6 := Lib.hid (owns_other HPX.out hg6 (fun k hk => by have := (HPX.out.lt k hk).1; have := HBL.out; omega))
          have HT6 : Hid (Two b g w w6) := Lib.hid (by rw [hw6]; exact Two.set HT2.out 3 _)
          have HW6 := Lib.hid hw6
          have e0 := HH6.out.c0
          have e2 := HH6.out.c2
          have e3 := HH6.out.c3
          clear hO hP hks hkl hr hw6 hg6 hr0 hr1 HS HO HP
          by_cases hrz : r = 0
          · subst hrz
            rw [if_pos rfl] at HRD
            go_wp2_with (first | (rw [← HW6.out]) | fail)
            go_quiet (fail)
            have HB7 := below_drewN w6.heap.size w6 nq
            have HH7 := Lib.hid (HH6.out.next HB7)
            have HO7 := Lib.hid (owns_next HO6.out HB7)
            have HP7 := Lib.hid (owns_next HP6.out HB7)
            have HT7 := Lib.hid (Two.low HT6.out (below_drewN w.heap.size w6 nq))
            generalize w6.drewN nq = w7 at HH7 HO7 HP7 HT7 ⊢
            clear HB7 HW6 e0 e2 e3 c0 c2 c3 f3 hrt y0 y1 y2 y3 y4 hx0 HH6 HO6 HP6 HT6 HH
            go_wp2_with fail
            refine (l05Wash_any g i c b (useK xs ns) t x (d + 1) (by rw [HKS.out.2]; exact En.out) HN.out.2 HKS.out.1 HT.out base hbg _ HH7.out HO7.out).mono ?_
            rintro o w8 ⟨rfl, hH8, hO8, hg8⟩
            generalize t - (washS (useK xs ns) t).2 = y5
            have HH8 := Lib.hid hH8
            have HO8 := Lib.hid hO8
            have HP8 := Lib.hid (owns_other HP7.out hg8 (fun k hk => by have := (HP7.out.lt k hk).1; have := HBL.out; omega))
            have HT8 := Lib.hid (Two.grown HT7.out hg8)
            clear hH8 hO8 hg8
            go_wp2_with fail
            go_ret2
            refine ⟨Av, cv, rfl, HH8.out, ?_, HP8.out, HT8.out⟩
            rw [HRD.out]
            exact HO8.out
          · have hrb : (r == 0) = false := by simpa using hrz
            rw [if_neg hrz] at HRD
            go_wp2_with (first | (rw [← HW6.out]) | fail)
            go_quiet (fail)
            go_wp2_with fail
            go_ret2
            refine ⟨Av, cv, rfl, HH6.out.next (below_drewN _ _ _), ?_, owns_next HP6.out (below_drewN _ _ _), Two.low HT6.out (below_drewN _ _ _)⟩
            rw [HRD.out]
            exact owns_next HO6.out (below_drewN _ _ _)
end Go.Proofs.YtdcckdfemelbiaaDoor.hou

/-
  A day of a house, the model's, with needs that lie anywhere.
-/
namespace Go.Proofs.YtdcckdfemelbiaaDoor.hou
open Go Go.RowKit sl row stk errs fold rows

set_option maxRecDepth 100000 in
set_option maxHeartbeats 8000000 in
theorem l05DayF_any (g n c b : Nat) (xs : List Stk) (t x d : Int) (en : n = xs.length) (hn1 : 1 ≤ n) (hn : n ≤ 4) (hgd : ∀ f ∈ xs, stk.Good f) (ht : 0 ≤ t ∧ t ≤ 1000) (hx : 1 ≤ x ∧ x ≤ 7) (hd : 0 ≤ d ∧ d ≤ 60) (base : Nat) (hbg : b ≠ g) (A' : Option Addr) (m c' : Nat) (ns : List Int) (em : m = ns.length) (hm : m ≤ 9223372036854775807)
    (w : World) (hH : HouAt w b (.slice (some ⟨g, 0, none⟩) n c) t x d) (hO : StkOwns w base (.slice (some ⟨g, 0, none⟩) n c) n (xs.flatMap stkC)) (hg' : ∀ u, Two b g w u → Sl intS.C 1 u u.heap.size A' ns) (k : Nat) (hk : k = codeY (xs, d) ns) :
    Calls Tryd.prog 105 #[.pointer (some ⟨b, 0, none⟩), .slice A' m c'] w fun o w' => (∃ i A0 c0, k = i + 1 ∧ o = .returned (.tuple #[.slice A0 0 c0, .int .i64 (k : Nat)]) ∧ Below w.heap.size w w') ∨
      (k = 0 ∧ ∃ A2 c2, o = .returned (.tuple #[.slice A2 n c2, .int .i64 0]) ∧ HouAt w' b (.slice (some ⟨g, 0, none⟩) n c) t x (d + 1) ∧ StkOwns w' base (.slice (some ⟨g, 0, none⟩) n c) n ((dayS t x (xs, d) ns).1.flatMap stkC) ∧ w'.ownsRow w.heap.size 2 1 (.slice A2 n c2) n ((useX xs ns).flatMap intS.C) ∧ Two b g w w') := by
  obtain ⟨i0, hi, hz0, hz1, hz2⟩ := info_parts intS.info
  obtain ⟨hbase, hgl⟩ := hO.lt g rfl
  obtain ⟨q, hq⟩ : ∃ q, q = decide (ns.length = n ∧ pcsOk ns = true) := ⟨_, rfl⟩
  obtain ⟨u1, hu1⟩ : ∃ u, u = w.alloc (.cells #[] 2) := ⟨_, rfl⟩
  have hb1 : Below w.heap.size w u1 := by rw [hu1]; exact (Below.refl _ _).alloc (Nat.le_refl _) _
  have hown : u1.ownsRow w.heap.size 2 1 (.slice (some ⟨w.heap.size, 0, none⟩) 0 0) 0 [] := by rw [hu1]; exact World.ownsRow_made (e := 2) (size := 1) w #[] 0 (Nat.le_refl _) (Nat.zero_le _) rfl
  have HB1 := Lib.hid hb1
  have HOW := Lib.hid hown
  have HU1 := Lib.hid hu1
  have HQ := Lib.hid hq
  have HKK := Lib.hid hk
  have En := Lib.hid en
  have Em := Lib.hid em
  have HM := Lib.hid hm
  have HGD := Lib.hid hgd
  have HN := Lib.hid (And.intro hn1 hn)
  have HT := Lib.hid ht
  have HX := Lib.hid hx
  have HD := Lib.hid hd
  have HH := Lib.hid (hH.next hb1)
  have HO := Lib.hid (owns_next hO hb1)
  have HG' := Lib.hid hg'
  have HBL := Lib.hid (And.intro hbase (And.intro hgl hH.lt))
  have c0 := HH.out.c0
  have c3 := HH.out.c3
  clear hb1 hown hu1 hq hk en em hm hgd hn1 hn ht hx hd hH hO hg' hbase hgl
  go_enter Tryd.func105, Tryd.ntmps105
  go_wp2_with (first | (rw [← HU1.out]) | fail)
  refine (l05Needs_any A' m c' ns Em.out HM.out n (by have := HN.out; omega) _ (HG'.out _ (Two.below (But.refl _ _) HB1.out)) q HQ.out).mono ?_
  rintro o u2 ⟨rfl, hw⟩
  obtain rfl := hw.symm
  clear hw
  cases q with
  | false =>
    have hk2 : k = 2 := by
      rw [HKK.out, codeY, if_neg]
      rw [← En.out]
      exact of_decide_eq_false HQ.out.symm
    subst hk2
    go_wp2_with fail
    go_ret2
    exact .inl ⟨1, _, _, rfl, rfl, HB1.out⟩
  | true =>
    have hyes := of_decide_eq_true HQ.out.symm
    by_cases h60 : d = 60
    · have hk4 : k = 4 := by
        rw [HKK.out, codeY, if_pos (by rw [← En.out]; exact hyes), if_pos h60]
      subst hk4
      have hdd : (d == 60) = true := by simpa using h60
      clear hyes
      go_wp2_with fail
      go_ret2
      exact .inl ⟨3, _, _, rfl, rfl, HB1.out⟩
    · have hk0 : k = 0 := by
        rw [HKK.out, codeY, if_pos (by rw [← En.out]; exact hyes), if_neg h60]
      subst hk0
      have hdd : (d == 60) = false := by simpa using h60
      have hmn : m = n := by have := Em.out; have := hyes.1; omega
      subst hmn
      have HPC := Lib.hid (pcsOk_iff.1 hyes.2)
      have HL0 : Hid (ns.length = xs.length) := Lib.hid (by have := En.out; have := Em.out; omega)
      have HD60 : Hid (d ≠ 60) := Lib.hid h60
      clear hyes h60 HKK HQ
      go_wp2_with fail
      go_loopw [6, 7] (fun vo vi wr => ∃ (i : Nat) (v : Value), i ≤ m ∧ vi = .int .i64 (i : Nat) ∧ vo = v ∧ wr.ownsRow w.heap.size 2 1 v i ((useX (xs.take i) (ns.take i)).flatMap intS.C) ∧ HouAt wr b (.slice (some ⟨g, 0, none⟩) m c) t x d ∧ StkOwns wr base (.slice (some ⟨g, 0, none⟩) m c) m ((useI xs ns i).flatMap stkC) ∧ Two b g w wr) (fun _ vi _ => m - (intOf vi).toNat)
      case atStart => exact ⟨0, _, by omega, rfl, rfl, HOW.out, HH.out, by rw [useI_zero]; exact HO.out, Two.below (But.refl _ _) HB1.out⟩
      case round =>
        clear c0 c3 HU1 HB1 HOW HH HO
        obtain ⟨i, v, hil, rfl, rfl, hP, hH, hO, hT⟩ := hrel
        obtain ⟨Av, cv, rfl, _⟩ := owns_slice hP
        have HP := Lib.hid hP
        have HH := Lib.hid hH
        have HO := Lib.hid hO
        have HS := Lib.hid (HG'.out _ hT)
        have HT2 := Lib.hid hT
        have hm4 : m ≤ 4 := HN.out.2
        have c0 := hH.c0
        have c2 := hH.c2
        have c3 := hH.c3
        have f3 := hH.fz 3
        clear hP hH hO hT
        by_cases hlt : i < m
        · obtain ⟨f, hf⟩ : ∃ f, xs[i]? = some f := ⟨xs[i]'(by have := En.out; omega), List.getElem?_eq_getElem _⟩
          obtain ⟨nd, hnd⟩ : ∃ nd, ns[i]? = some nd := ⟨ns[i]'(by have := Em.out; omega), List.getElem?_eq_getElem _⟩
          obtain ⟨a', rfl, hab', hat'⟩ := HS.out.at_ i nd hnd
          have q0 := intS.at_ hat'
          have HFX := Lib.hid hf
          have HND := Lib.hid hnd
          have hgf := HGD.out f (List.mem_of_getElem? hf)
          have hnd0 := HPC.out nd (List.mem_of_getElem? hnd)
          have T0 : Hid (StkOwn wr g (i * 25) f) := Lib.hid (owns_at HO.out (useI_at hf (by have := Em.out; omega)))
          have HGF := Lib.hid hgf
          have HNN := Lib.hid hnd0
          have HAB := Lib.hid hab'
          have x4 : (0 : Int) ≤ (i : Int) := by omega
          have x5 : (i : Int) < (m : Int) := by omega
          have hQ : wr.drew.cell? ⟨b, 0, none⟩ = some (.slice (some ⟨g, 0, none⟩) m c) ∧ wr.drew.cell? (a'.add i) = some (.int .i64 nd) := ⟨c0, q0⟩
          have HH1 := Lib.hid (HH.out.next (Below.refl _ _).drew)
          have HO1 := Lib.hid (owns_next HO.out (Below.refl _ _).drew)
          have HP1 := Lib.hid (owns_next HP.out (Below.refl _ _).drew)
          have HT3 := Lib.hid (Two.below HT2.out (Below.refl _ _).drew)
          have T1 : Hid (StkOwn wr.drew g (i * 25) f) := Lib.hid (T0.out.next (Below.refl _ _).drew)
          clear hf hnd hat' hab' hgf hnd0
          go_wp2_with fail
          refine wp_region_held_drew (S := fun u => u.cell? ⟨b, 0, none⟩ = some (.slice (some ⟨g, 0, none⟩) m c) ∧ u.cell? (a'.add i) = some (.int .i64 nd)) (by kernel_rfl) hQ (fun hHeld => ?_)
          generalize wr.drew = w3 at HH1 HO1 HP1 HT3 T1 hHeld ⊢
          clear HH HO HP HS HT2 T0 c0 c2 c3 f3 q0 hQ
          refine wpAnyH_take (i := 0) (v := ?_) rfl (by kernel_rfl) (by kernel_rfl) (by kernel_rfl) (fun _ _ _ h => h) (Or.inl ⟨by rfl, ?_⟩) (by assumption) ?_
          rotate_left
          · intro u hSu
            (try dsimp only at hSu)
            first | (go_simp; done) | (go_simp; with_reducible rfl)
          try simp only [Act.put, List.getElem_toArray, List.getElem_cons_zero, List.setIfInBounds_toArray, List.set_cons_zero, List.set_cons_succ]
          refine wpAnyH_take (i := 1) (v := ?_) rfl (by kernel_rfl) (by kernel_rfl) (by kernel_rfl) (fun _ _ _ h => h) (Or.inl ⟨by rfl, ?_⟩) (by assumption) ?_
          rotate_left
          · intro u hSu
            (try dsimp only at hSu)
            first | (go_simp; done) | (go_simp; with_reducible rfl)
          try simp only [Act.put, List.getElem_toArray, List.getElem_cons_zero, List.getElem_cons_succ, List.setIfInBounds_toArray, List.set_cons_zero, List.set_cons_succ]
          refine wpAnyH_take (i := 2) (v := ?_) rfl (by kernel_rfl) (by kernel_rfl) (by kernel_rfl) (fun _ _ _ h => h) (Or.inl ⟨by rfl, ?_⟩) (by assumption) ?_
          rotate_left
          · intro u hSu
            (try dsimp only at hSu)
            first | (go_simp; done) | (go_simp; with_reducible rfl)
          try simp only [Act.put, List.getElem_toArray, List.getElem_cons_zero, List.getElem_cons_succ, List.setIfInBounds_toArray, List.set_cons_zero, List.set_cons_succ]
          refine wpAnyH_take (i := 3) (v := ?_) rfl (by kernel_rfl) (by kernel_rfl) (by kernel_rfl) (fun _ _ _ h => h) (Or.inl ⟨by rfl, ?_⟩) (by assumption) ?_
          rotate_left
          · intro u hSu
            (try dsimp only at hSu)
            first | (go_simp; done) | (go_simp; with_reducible rfl)
          try simp only [Act.put, List.getElem_toArray, List.getElem_cons_zero, List.getElem_cons_succ, List.setIfInBounds_toArray, List.set_cons_zero, List.set_cons_succ]
          refine wpAnyH_take (i := 4) (v := .slice (some ⟨g, 0, none⟩) m c) rfl (by kernel_rfl) (by kernel_rfl) (by kernel_rfl) (fun _ _ _ h => h) (Or.inl ⟨by rfl, ?_⟩) hHeld ?_
          · intro u hSu
            have hq := hSu.1
            clear hSu
            first | (go_simp; done) | (go_simp; with_reducible rfl)
          (try simp only [Act.put, List.getElem_toArray, List.getElem_cons_zero, List.getElem_cons_succ, List.setIfInBounds_toArray, List.set_cons_zero, List.set_cons_succ])
          refine wpAnyH_take (i := 5) (v := ?_) rfl (by kernel_rfl) (by kernel_rfl) (by kernel_rfl) (fun _ _ _ h => h) (Or.inl ⟨by rfl, ?_⟩) (by assumption) ?_
          rotate_left
          · intro u hSu
            (try dsimp only at hSu)
            first | (go_simp; done) | (go_simp; with_reducible rfl)
          try simp only [Act.put, List.getElem_toArray, List.getElem_cons_zero, List.getElem_cons_succ, List.setIfInBounds_toArray, List.set_cons_zero, List.set_cons_succ]
          refine wpAnyH_take (i := 6) (v := ?_) rfl (by kernel_rfl) (by kernel_rfl) (by kernel_rfl) (fun _ _ _ h => h) (Or.inl ⟨by rfl, ?_⟩) (by assumption) ?_
          rotate_left
          · intro u hSu
            (try dsimp only at hSu)
            first | (go_simp; done) | (go_simp; with_reducible rfl)
          try simp only [Act.put, List.getElem_toArray, List.getElem_cons_zero, List.getElem_cons_succ, List.setIfInBounds_toArray, List.set_cons_zero, List.set_cons_succ]
          refine wpAnyH_take (i := 7) (v := ?_) rfl (by kernel_rfl) (by kernel_rfl) (by kernel_rfl) (fun _ _ _ h => h) (Or.inl ⟨by rfl, ?_⟩) (by assumption) ?_
          rotate_left
          · intro u hSu
            (try dsimp only at hSu)
            first | (go_simp; done) | (go_simp; with_reducible rfl)
          try simp only [Act.put, List.getElem_toArray, List.getElem_cons_zero, List.getElem_cons_succ, List.setIfInBounds_toArray, List.set_cons_zero, List.set_cons_succ]
          refine wpAnyH_take (i := 8) (v := ?_) rfl (by kernel_rfl) (by kernel_rfl) (by kernel_rfl) (fun _ _ _ h => h) (Or.inl ⟨by rfl, ?_⟩) (by assumption) ?_
          rotate_left
          · intro u hSu
            (try dsimp only at hSu)
            first | (go_simp; done) | (go_simp; with_reducible rfl)
          try simp only [Act.put, List.getElem_toArray, List.getElem_cons_zero, List.getElem_cons_succ, List.setIfInBounds_toArray, List.set_cons_zero, List.set_cons_succ]
          refine wpAnyH_take (i := 9) (v := ?_) rfl (by kernel_rfl) (by kernel_rfl) (by kernel_rfl) (fun _ _ _ h => h) (Or.inl ⟨by rfl, ?_⟩) (by assumption) ?_
          rotate_left
          · intro u hSu
            (try dsimp only at hSu)
            first | (go_simp; done) | (go_simp; with_reducible rfl)
          try simp only [Act.put, List.getElem_toArray, List.getElem_cons_zero, List.getElem_cons_succ, List.setIfInBounds_toArray, List.set_cons_zero, List.set_cons_succ]
          refine wpAnyH_take (i := 10) (v := .int .i64 nd) rfl (by kernel_rfl) (by kernel_rfl) (by kernel_rfl) (fun _ _ _ h => h) (Or.inl ⟨by rfl, ?_⟩) hHeld ?_
          · intro u hSu
            have hq := hSu.2
            clear hSu
            first | (go_simp; done) | (go_simp; with_reducible rfl)
          (try simp only [Act.put, List.getElem_toArray, List.getElem_cons_zero, List.getElem_cons_succ, List.setIfInBounds_toArray, List.set_cons_zero, List.set_cons_succ])
          refine wpAnyH_ready (rs := [11]) (by kernel_rfl) (by simp) ?_
          refine AllReadyH.cons rfl (fun K hK => ?_) AllReadyH.nil
          go_simp
          refine (l05Use_any f HGF.out nd HNN.out g (i * 25) _ T1.out).mono ?_
          rintro o w4 ⟨rfl, hO4, hC4⟩
          have hgr4 := hC4.g
          have HH4 := Lib.hid (HH1.out.grown hgr4 hbg)
          have HO4 := Lib.hid (owns_stk HO1.out hlt hO4 hC4)
          have HP4 := Lib.hid (owns_other HP1.out hgr4 (fun k hk => by have := (HP1.out.lt k hk).1; have := HBL.out; omega))
          have HZ3 := Lib.hid HT3.out.size
          have HT4 := Lib.hid (Two.grown HT3.out hgr4)
          have HS4 := Lib.hid (HG'.out _ HT4.out)
          have S4 : Hid (w4.cell? ⟨b, 0, none⟩ = some (.slice (some ⟨g, 0, none⟩) m c) ∧ w4.cell? (a'.add i) = some (.int .i64 nd)) := Lib.hid ⟨HH4.out.c0, by
            obtain ⟨a2, e, _, hat⟩ := HS4.out.at_ i nd HND.out
            obtain rfl := Option.some.inj e
            exact intS.at_ hat⟩
          obtain ⟨sv, hsv⟩ : ∃ s, s = (useS f nd).2 := ⟨_, rfl⟩
          rw [← hsv]
          have HSV := Lib.hid hsv
          clear hgr4 hO4 hC4 hsv HH1 HO1 HP1 HT3 T1
          refine hK.out _ _ (S4.out) (fun hHeld2 => ?_)
          clear hK K hHeld
          have hHeld := hHeld2
          clear hHeld2
          try simp only [Act.put, List.getElem_toArray, List.getElem_cons_zero, List.getElem_cons_succ, List.setIfInBounds_toArray, List.set_cons_zero, List.set_cons_succ]
          obtain ⟨w5, hw5⟩ : ∃ u, u = w4.alloc (.cells #[.int .i64 sv] 2) := ⟨_, rfl⟩
          have hb5 : Below w4.heap.size w4 w5 := by rw [hw5]; exact (Below.refl _ _).alloc (Nat.le_refl _) _
          have HH5 := Lib.hid (HH4.out.next hb5)
          have HO5 := Lib.hid (owns_next HO4.out hb5)
          have HP5 := Lib.hid (owns_next HP4.out hb5)
          have HZ5 : Hid (w5.heap.size = w4.heap.size + 1) := Lib.hid (by rw [hw5]; simp)
          have HZ4 := Lib.hid HT4.out.size
          have HT5 := Lib.hid (Two.below HT4.out (hb5.mono HZ4.out))
          have HS5 := Lib.hid (HG'.out _ HT5.out)
          have S5 : Hid (w5.cell? ⟨b, 0, none⟩ = some (.slice (some ⟨g, 0, none⟩) m c) ∧ w5.cell? (a'.add i) = some (.int .i64 nd)) := Lib.hid ⟨HH5.out.c0, by
            obtain ⟨a2, e, _, hat⟩ := HS5.out.at_ i nd HND.out
            obtain rfl := Option.some.inj e
            exact intS.at_ hat⟩
          have HW5 := Lib.hid hw5
          clear hb5 hw5
          refine wpAnyH_ready (rs := [12]) (by kernel_rfl) (by simp) ?_
          refine AllReadyH.cons rfl (fun K hK => ?_) AllReadyH.nil
          rw [if_pos (by kernel_rfl)]
          refine wp_listed' 22 1 _ rfl #[(0, .int .i64 sv)] ?hp (build_one sv _) ?_
          case hp => simp [Act.eval]
          rw [← HW5.out]
          refine hK.out _ _ (S5.out) (fun hHeld2 => ?_)
          clear hK K hHeld
          have hHeld := hHeld2
          clear hHeld2
          try simp only [Act.put, List.getElem_toArray, List.getElem_cons_zero, List.getElem_cons_succ, List.setIfInBounds_toArray, List.set_cons_zero, List.set_cons_succ]
          refine wpAnyH_ready (rs := [13]) (by kernel_rfl) (by simp) ?_
          refine AllReadyH.cons rfl (fun K hK => ?_) AllReadyH.nil
          rw [if_pos (by kernel_rfl)]
          refine wp_append_own _ (.tmp 33) (.tmp 45) 22 rfl w.heap.size 2 i0 (.int .i64 0) 1 8 Tryd.underlying22 hi hz0 hz1 hz2 rfl (by decide) _ _ _ rfl HP5.out ⟨w4.heap.size, 0, none⟩ 1 1 [.int .i64 sv] rfl rfl (fun j u hj => by rw [HW5.out]; exact one_newB _ _ _ _ rfl j u hj) (one_cellI (by rfl)) (by unfold maxLen; omega) (by omega) (by have := HZ5.out; have := HZ4.out; omega) ?_
          intro v6 w6 hown hgr _
          have HP6 := Lib.hid hown
          have hb6 : Below w.heap.size w5 w6 := Below.grown (Below.refl _ _) hgr (by have := HZ5.out; have := HZ4.out; omega) (fun k hk => (HP5.out.lt k hk).1)
          have HH6 := Lib.hid (HH5.out.below hb6 HBL.out.2.2)
          have HO6 : Hid (StkOwns w6 base (.slice (some ⟨g, 0, none⟩) m c) m (((useI xs ns i).set i (useS f nd).1).flatMap stkC)) := Lib.hid (owns_block HO5.out (hb6.block g HBL.out.2.1))
          have HT6 : Hid (Two b g w w6) := Lib.hid (Two.low HT5.out hb6)
          have HS6 := Lib.hid (HG'.out _ HT6.out)
          have S6 : Hid (w6.cell? ⟨b, 0, none⟩ = some (.slice (some ⟨g, 0, none⟩) m c) ∧ w6.cell? (a'.add i) = some (.int .i64 nd)) := Lib.hid ⟨HH6.out.c0, by
            obtain ⟨a2, e, _, hat⟩ := HS6.out.at_ i nd HND.out
            obtain rfl := Option.some.inj e
            exact intS.at_ hat⟩
          clear hown hgr hb6
          refine hK.out _ _ (S6.out) (fun hHeld2 => ?_)
          clear hK K hHeld
          have hHeld := hHeld2
          clear hHeld2
          try simp only [Act.put, List.getElem_toArray, List.getElem_cons_zero, List.getElem_cons_succ, List.setIfInBounds_toArray, List.set_cons_zero, List.set_cons_succ]
          refine wpAnyH_take (i := 14) (v := ?_) rfl (by kernel_rfl) (by kernel_rfl) (by kernel_rfl) (fun _ _ _ h => h) (Or.inl ⟨by rfl, ?_⟩) (by assumption) ?_
          rotate_left
          · intro u hSu
            (try dsimp only at hSu)
            first | (go_simp; done) | (go_simp; with_reducible rfl)
          try simp only [Act.put, List.getElem_toArray, List.getElem_cons_zero, List.getElem_cons_succ, List.setIfInBounds_toArray, List.set_cons_zero, List.set_cons_succ]
          refine wpAnyH_done (by kernel_rfl) ?_ _
          clear hHeld
          go_wp2_with fail
          go_roundw
          case rel =>
            have hxn := useX_next HFX.out HND.out
            exact ⟨i + 1, v6, by omega, by go_num, rfl, by rw [hxn, List.flatMap_append, ← HSV.out]; exact HP6.out, HH6.out, by rw [useI_next HFX.out HND.out]; exact HO6.out, HT6.out⟩
          case measure => simp [intOf]; omega
        · obtain rfl : i = m := by omega
          have hO : StkOwns wr base (.slice (some ⟨g, 0, none⟩) i c) i ((useK xs ns).flatMap stkC) := by
            have h1 := HO.out
            rwa [show useI xs ns i = useK xs ns by rw [En.out]; exact useI_all HL0.out] at h1
          have hP : wr.ownsRow w.heap.size 2 1 (.slice Av i cv) i ((useX xs ns).flatMap intS.C) := by
            have h1 := HP.out
            rwa [show useX (xs.take i) (ns.take i) = useX xs ns by rw [En.out]; exact useX_all HL0.out] at h1
          have HOK := Lib.hid hO
          have HPX := Lib.hid hP
          have hks := useK_good HGD.out HPC.out
          have hkl := useK_len HL0.out
          have HKS := Lib.hid (And.intro hks hkl)
          have hr0 : 0 ≤ (d + 1) % x := Int.emod_nonneg _ (by have := HX.out; omega)
          have hr1 : (d + 1) % x < x := Int.emod_lt_of_pos _ (by have := HX.out; omega)
          have hrt : (d + 1).tmod x = (d + 1) % x := Int.tmod_eq_emod_of_nonneg (by have := HD.out; omega)
          obtain ⟨r, hr⟩ : ∃ r, (d + 1) % x = r := ⟨_, rfl⟩
          rw [hr] at hr0 hr1 hrt
          have y0 : IntKind.i16.wrap (d + 1) = d + 1 := IntWalk.i16_in _ (by have := HD.out; omega)
          have y1 : IntKind.i64.wrap x = x := IntWalk.i64_in _ (by have := HX.out; omega)
          have y2 : IntKind.i64.wrap (d + 1) = d + 1 := IntWalk.i64_in _ (by have := HD.out; omega)
          have y3 : IntKind.i64.wrap r = r := IntWalk.i64_in _ (by have := HX.out; omega)
          have y4 : wrap64 r = r := by have := HX.out; unfold wrap64; omega
          have hx0 : ¬ x = 0 := by have := HX.out; omega
          have HRD : Hid (dayS t x (xs, d) ns = (if r = 0 then (washS (useK xs ns) t).1 else useK xs ns, d + 1)) := Lib.hid (by rw [dayS]; dsimp only; rw [hr])
          obtain ⟨w6, hw6⟩ : ∃ u, u = wr.setCell ⟨b, 3, none⟩ (.int .i16 (d + 1)) := ⟨_, rfl⟩
          have hg6 : wr.grownBy w6 (some b) := by rw [hw6]; exact grownBy_set (p := ⟨b, 3, none⟩) (grownBy_refl _ _) rfl _
          have HH6 : Hid (HouAt w6 b (.slice (some ⟨g, 0, none⟩) i c) t x (d + 1)) := Lib.hid (by rw [hw6]; exact HH.out.day (d + 1))
          have HO6 := Lib.hid (owns_block HOK.out (hg6.block g (HOK.out.lt g rfl).2 (by simp; exact fun e => hbg e.symm)))
          have HP6 := Lib.hid (owns_other HPX.out hg6 (fun k hk => by have := (HPX.out.lt k hk).1; have := HBL.out; omega))
          have HT6 : Hid (Two b g w w6) := Lib.hid (by rw [hw6]; exact Two.set HT2.out 3 _)
          have HW6 := Lib.hid hw6
          have e0 := HH6.out.c0
          have e2 := HH6.out.c2
          have e3 := HH6.out.c3
          clear hO hP hks hkl hr hw6 hg6 hr0 hr1 HS HO HP
          by_cases hrz : r = 0
          · subst hrz
            rw [if_pos rfl] at HRD
            go_wp2_with (first | (rw [← HW6.out]) | fail)
            go_quiet (fail)
            have HB7 := below_drewN w6.heap.size w6 nq
            have HH7 := Lib.hid (HH6.out.next HB7)
            have HO7 := Lib.hid (owns_next HO6.out HB7)
            have HP7 := Lib.hid (owns_next HP6.out HB7)
            have HT7 := Lib.hid (Two.low HT6.out (below_drewN w.heap.size w6 nq))
            generalize w6.drewN nq = w7 at HH7 HO7 HP7 HT7 ⊢
            clear HB7 HW6 e0 e2 e3 c0 c2 c3 f3 hrt y0 y1 y2 y3 y4 hx0 HH6 HO6 HP6 HT6 HH
            go_wp2_with fail
            refine (l05Wash_any g i c b (useK xs ns) t x (d + 1) (by rw [HKS.out.2]; exact En.out) HN.out.2 HKS.out.1 HT.out base hbg _ HH7.out HO7.out).mono ?_
            rintro o w8 ⟨rfl, hH8, hO8, hg8⟩
            generalize t - (washS (useK xs ns) t).2 = y5
            have HH8 := Lib.hid hH8
            have HO8 := Lib.hid hO8
            have HP8 := Lib.hid (owns_other HP7.out hg8 (fun k hk => by have := (HP7.out.lt k hk).1; have := HBL.out; omega))
            have HT8 := Lib.hid (Two.grown HT7.out hg8)
            clear hH8 hO8 hg8
            go_wp2_with fail
            go_ret2
            refine ⟨Av, cv, rfl, HH8.out, ?_, HP8.out, HT8.out⟩
            rw [HRD.out]
            exact HO8.out
          · have hrb : (r == 0) = false := by simpa using hrz
            rw [if_neg hrz] at HRD
            go_wp2_with (first | (rw [← HW6.out]) | fail)
            go_quiet (fail)
            go_wp2_with fail
            go_ret2
            refine ⟨Av, cv, rfl, HH6.out.next (below_drewN _ _ _), ?_, owns_next HP6.out (below_drewN _ _ _), Two.low HT6.out (below_drewN _ _ _)⟩
            rw [HRD.out]
            exact owns_next HO6.out (below_drewN _ _ _)
end Go.Proofs.YtdcckdfemelbiaaDoor.hou
