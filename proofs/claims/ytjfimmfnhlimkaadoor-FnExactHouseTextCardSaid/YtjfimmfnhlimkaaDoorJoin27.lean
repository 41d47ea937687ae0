/-
  Several texts of this proof, joined.
-/
import Derived.Test.YtjfimmfnhlimkaaDoorJoin11
import Derived.Test.YtjfimmfnhlimkaaDoorStkPieces
import Derived.Test.YtjfimmfnhlimkaaDoorInB
import Derived.Test.YtjfimmfnhlimkaaDoorWithinR
/-
  Valid houses, the program's and the model's.
-/
namespace Go.Proofs.YtjfimmfnhlimkaaDoor.hou
open Go Go.RowKit sl row stk errs fold

/-- are the numbers of a house that do not tell of its pieces as told -/
def numsOk (n : Nat) (t e d : Int) : Bool := inB (n : Int) 1 4 && (inB t 0 1000 && (inB e 1 7 && inB d 0 60))
theorem numsOk_iff {n : Nat} {t e d : Int} : numsOk n t e d = true ↔ (1 ≤ n ∧ n ≤ 4) ∧ (0 ≤ t ∧ t ≤ 1000) ∧ (1 ≤ e ∧ e ≤ 7) ∧ 0 ≤ d ∧ d ≤ 60 := by
  simp only [numsOk, Bool.and_eq_true, inB_iff]
  omega
def houOk (xs : List Stk) (t e d : Int) : Bool := numsOk xs.length t e d && xs.all validS
set_option maxRecDepth 100000 in
set_option maxHeartbeats 4000000 in
theorem checkNums_any (n t x d : Int) {w : World} {B : Nat} {e : Nat → Addr} (h : ER w B (e 1)) (_hB : B ≤ w.heap.size) (k0 : Nat) (hk : k0 = if (1 ≤ n ∧ n ≤ 4) ∧ (0 ≤ t ∧ t ≤ 1000) ∧ (1 ≤ x ∧ x ≤ 7) ∧ 0 ≤ d ∧ d ≤ 60 then 0 else 2) :
    Calls Tryd.prog 140 #[.int .i64 n, .int .i64 t, .int .i64 x, .int .i64 d] w fun o w' => o = .returned (errOf e k0) ∧ Below w.heap.size w w' := by
  have HE := Lib.hid h
  obtain ⟨k1, hk1⟩ : ∃ k : Nat, k = if 1 ≤ n ∧ n ≤ 4 then 0 else 2 := ⟨_, rfl⟩
  obtain ⟨k2, hk2⟩ : ∃ k : Nat, k = if 0 ≤ t ∧ t ≤ 1000 then 0 else 2 := ⟨_, rfl⟩
  obtain ⟨k3, hk3⟩ : ∃ k : Nat, k = if 1 ≤ x ∧ x ≤ 7 then 0 else 2 := ⟨_, rfl⟩
  obtain ⟨k4, hk4⟩ : ∃ k : Nat, k = if 0 ≤ d ∧ d ≤ 60 then 0 else 2 := ⟨_, rfl⟩
  have HF : Hid (firstCode [k1, k2, k3, k4] = k0) := Lib.hid (by
    rw [hk]
    by_cases a1 : 1 ≤ n ∧ n ≤ 4
    · by_cases a2 : 0 ≤ t ∧ t ≤ 1000
      · by_cases a3 : 1 ≤ x ∧ x ≤ 7
        · by_cases a4 : 0 ≤ d ∧ d ≤ 60
          · rw [if_pos ⟨a1, a2, a3, a4⟩, hk1, if_pos a1, hk2, if_pos a2, hk3, if_pos a3, hk4, if_pos a4]; rfl
          · rw [if_neg (fun h => a4 h.2.2.2), hk1, if_pos a1, hk2, if_pos a2, hk3, if_pos a3, hk4, if_neg a4]; rfl
        · rw [if_neg (fun h => a3 h.2.2.1), hk1, if_pos a1, hk2, if_pos a2, hk3, if_neg a3]; rfl
      · rw [if_neg (fun h => a2 h.2.1), hk1, if_pos a1, hk2, if_neg a2]; rfl
    · rw [if_neg (fun h => a1 h.1), hk1, if_neg a1]; rfl)
  have HK1 := Lib.hid hk1
  have HK2 := Lib.hid hk2
  have HK3 := Lib.hid hk3
  have HK4 := Lib.hid hk4
  clear hk1 hk2 hk3 hk4 hk h
  go_enter Tryd.func140, Tryd.ntmps140
  go_wp2_with fail
  refine (checkWithin_er n 1 4 HE.out).mono ?_
  rintro o u ⟨rfl, rfl⟩
  rw [← HK1.out]
  go_wp2_with fail
  refine (checkWithin_er t 0 1000 HE.out).mono ?_
  rintro o u ⟨rfl, rfl⟩
  rw [← HK2.out]
  go_wp2_with fail
  refine (checkWithin_er x 1 7 HE.out).mono ?_
  rintro o u ⟨rfl, rfl⟩
  rw [← HK3.out]
  go_wp2_with fail
  refine (checkWithin_er d 0 60 HE.out).mono ?_
  rintro o u ⟨rfl, rfl⟩
  rw [← HK4.out]
  go_wp2_with (refine wpList_listed rfl 178 4 _ rfl #[(0, errOf e k1), (1, errOf e k2), (2, errOf e k3), (3, errOf e k4)] ?hp (buildSlice4 e k1 k2 k3 k4 _) ?_; case hp => simp [Act.eval])
  refine (firstOf_any e [k1, k2, k3, k4] _ 4 4 rfl (by decide) _ (cells_errs e [k1, k2, k3, k4] w 94 #[errOf e k1, errOf e k2, errOf e k3, errOf e k4] rfl)).mono ?_
  rintro o w3 ⟨rfl, rfl⟩
  rw [HF.out]
  go_wp2_with fail
  go_ret
  exact ⟨rfl, (Below.refl _ _).alloc (Nat.le_refl _) _⟩
set_option maxRecDepth 100000 in
set_option maxHeartbeats 4000000 in
theorem notValid_any (f : Stk) (hf : Fits f) (w : World) :
    Calls Tryd.prog 142 #[stkV f] w fun o w' => o = .returned (.bool (!validS f)) ∧ Below w.heap.size w w' := by
  have H0 := Lib.hid (StkOwn.new w f 153).toRowAt
  have B0 : Hid (Below w.heap.size w (w.alloc (.cells (stkCs f) 153))) := Lib.hid ((Below.refl _ _).alloc (Nat.le_refl _) _)
  go_enter Tryd.func142, Tryd.ntmps142
  go_wp2_with (refine wpl_load_stk rfl (.tmp 1) rfl w.heap.size 0 rfl H0.out ?_)
  refine (ValidStock_any f hf _).mono ?_
  rintro o w1 ⟨rfl, hb⟩
  have HB := Lib.hid (below_next B0.out hb (by simp))
  clear hb
  go_wp2_with fail
  go_ret
  exact ⟨rfl, HB.out⟩
set_option maxRecDepth 100000 in
set_option maxHeartbeats 4000000 in
theorem IndexFunc_any (A : Option Addr) (n c : Nat) (xs : List Stk) (en : n = xs.length) (hn : n ≤ 9223372036854775807) (hf : ∀ x ∈ xs, Fits x) (w : World) (hg : Sl stkC 25 w w.heap.size A xs) (b : Bool) (hb : b = xs.all validS) :
    Calls Tryd.prog 167 #[.slice A n c, .func (.func 142) #[] #[]] w fun o w' => (∃ i : Int, o = .returned (.int .i64 i) ∧ decide (0 ≤ i) = !b) ∧ Below w.heap.size w w' := by
  have En := Lib.hid en
  have HBB := Lib.hid hb
  clear en hb
  go_enter Tryd.func167, Tryd.ntmps167
  go_wp2_with fail
  go_loopw [8, 5] (fun vi _ wr => ∃ k : Nat, k ≤ n ∧ vi = .int .i64 k ∧ (∀ (i : Nat) (x : Stk), i < k → xs[i]? = some x → validS x = true) ∧ Below w.heap.size w wr) (fun vi _ _ => n - (intOf vi).toNat)
  case atStart => exact ⟨0, by omega, rfl, fun i x hi => absurd hi (by omega), Below.refl _ _⟩
  case round =>
    obtain ⟨k, hk, rfl, hval, hB⟩ := hrel
    have HV := Lib.hid hval
    have HB := Lib.hid hB
    clear hval hB
    by_cases hlt : k < n
    · obtain ⟨x, hx⟩ : ∃ x, xs[k]? = some x := ⟨xs[k]'(by have := En.out; omega), List.getElem?_eq_getElem _⟩
      obtain ⟨a, rfl, hab, hat⟩ := (hg.below HB.out).at_ k x hx
      have hxf : Fits x := hf x (List.mem_of_getElem? hx)
      have HX := Lib.hid hx
      have HA := Lib.hid hat
      obtain ⟨v, hv⟩ : ∃ v, v = validS x := ⟨_, rfl⟩
      have HVX := Lib.hid hv
      clear hx hat hv
      go_wp2_with (refine wpl_load_at rfl 153 (.tmp 14) rfl (a.add (k * 25)) rfl (stkC x) _ HA.out Tryd.underlying153 rfl (by rw [infoS, lst_len]) ?_)
      refine (notValid_any x hxf _).mono ?_
      rintro o w2 ⟨rfl, hb2⟩
      rw [← HVX.out]
      have HB2 := Lib.hid (below_next HB.out hb2 (Nat.le_refl _))
      clear hb2
      cases v with
      | true =>
        go_wp2_with fail
        go_roundw
        case rel => exact ⟨k + 1, by omega, by go_num, fun i y hi hy => by
          rcases Nat.lt_or_ge i k with h1 | h1
          · exact HV.out i y h1 hy
          · obtain rfl : i = k := by omega
            have := HX.out
            rw [hy] at this
            rw [Option.some.inj this]
            exact HVX.out.symm, HB2.out⟩
        case measure => simp [intOf]; omega
      | false =>
        have hbf : b = false := HBB.out.trans (all_not HX.out HVX.out.symm)
        subst hbf
        go_wp2_with fail
        go_ret
        exact ⟨⟨_, rfl, by simp⟩, HB2.out⟩
    · have hbt : b = true := HBB.out.trans (all_of_idx fun i x hi hx => HV.out i x (by have := En.out; omega) hx)
      subst hbt
      go_wp2_with fail
      go_ret
      exact ⟨⟨-1, rfl, by decide⟩, HB.out⟩
set_option maxHeartbeats 4000000 in
theorem ContainsFunc_any (A : Option Addr) (n c : Nat) (xs : List Stk) (en : n = xs.length) (hn : n ≤ 9223372036854775807) (hf : ∀ x ∈ xs, Fits x) (w : World) (hg : Sl stkC 25 w w.heap.size A xs) (b : Bool) (hb : b = xs.all validS) :
    Calls Tryd.prog 141 #[.slice A n c, .func (.func 142) #[] #[]] w fun o w' => o = .returned (.bool (!b)) ∧ Below w.heap.size w w' := by
  have En := Lib.hid en
  have HBB := Lib.hid hb
  clear en hb
  go_enter Tryd.func141, Tryd.ntmps141
  go_wp2_with fail
  refine (IndexFunc_any A n c xs En.out hn hf _ hg b HBB.out).mono ?_
  rintro o w2 ⟨⟨i, rfl, hi⟩, hb2⟩
  have HI := Lib.hid hi
  have HB := Lib.hid hb2
  clear hi hb2
  go_wp2_with fail
  go_ret
  exact ⟨ret_bool (by rw [← HI.out]), HB.out⟩
set_option maxRecDepth 100000 in
set_option maxHeartbeats 4000000 in
theorem ValidHouse_any (A : Option Addr) (n c : Nat) (xs : List Stk) (t x d : Int) (en : n = xs.length) (hn : n ≤ 1048576) (hf : ∀ x ∈ xs, Fits x) (ht : -32768 ≤ t ∧ t ≤ 32767) (hx : -128 ≤ x ∧ x ≤ 127) (hd : -32768 ≤ d ∧ d ≤ 32767) {w : World} {B : Nat} {e : Nat → Addr} (h : ER w B (e 1)) (hB : B ≤ w.heap.size) (hg : Sl stkC 25 w w.heap.size A xs) (b : Bool) (hb : b = houOk xs t x d) :
    Calls Tryd.prog 101 #[houV (.slice A n c) t x d] w fun o w' => o = .returned (.bool b) ∧ Below w.heap.size w w' := by
  have En := Lib.hid en
  have HBB := Lib.hid hb
  have A0 := HouAt.new w (.slice A n c) t x d 74
  have B0 := Lib.hid ((Below.refl w.heap.size w).alloc (Nat.le_refl _) (.cells #[.slice A n c, .int .i16 t, .int .i8 x, .int .i16 d] 74))
  have HA := Lib.hid A0
  have HE := Lib.hid (h.below (B0.out.mono hB))
  have HB0 : Hid (B ≤ (w.alloc (.cells #[.slice A n c, .int .i16 t, .int .i8 x, .int .i16 d] 74)).heap.size) := Lib.hid (Nat.le_trans hB B0.out.size)
  have w1 : IntKind.i64.wrap t = t := IntWalk.i64_in _ (by omega)
  have w2 : IntKind.i64.wrap x = x := IntWalk.i64_in _ (by omega)
  have w3 : IntKind.i64.wrap d = d := IntWalk.i64_in _ (by omega)
  clear en hb A0 h
  by_cases hnum : (1 ≤ (n : Int) ∧ (n : Int) ≤ 4) ∧ (0 ≤ t ∧ t ≤ 1000) ∧ (1 ≤ x ∧ x ≤ 7) ∧ 0 ≤ d ∧ d ≤ 60
  · have hk : (0 : Nat) = if (1 ≤ (n : Int) ∧ (n : Int) ≤ 4) ∧ (0 ≤ t ∧ t ≤ 1000) ∧ (1 ≤ x ∧ x ≤ 7) ∧ 0 ≤ d ∧ d ≤ 60 then 0 else 2 := (if_pos hnum).symm
    have HK := Lib.hid hk
    have HQ : Hid (b = xs.all validS) := Lib.hid (by
      rw [HBB.out, houOk, numsOk_iff.2 (by have := En.out; omega)]
      rfl)
    clear hk hnum
    go_enter Tryd.func101, Tryd.ntmps101
    go_wp2_with fail
    refine (checkNums_any (n : Int) t x d HE.out HB0.out 0 HK.out).mono ?_
    rintro o u ⟨rfl, hb1⟩
    have HA1 := Lib.hid (HA.out.next hb1)
    have HB1 := Lib.hid (below_next B0.out hb1 (by simp))
    have c0 := HA1.out.c0
    have e2 : errOf e 0 = .nilIface := rfl
    rw [e2]
    clear hb1 e2
    go_wp2_with fail
    refine (ContainsFunc_any A n c xs En.out (by omega) hf _ ((hg.below HB1.out).more HB1.out.size) b HQ.out).mono ?_
    rintro o u2 ⟨rfl, hb2⟩
    have HB2 := Lib.hid (below_next HB1.out hb2 (Nat.le_refl _))
    clear hb2
    go_wp2_with fail
    go_ret
    exact ⟨by simp, HB2.out⟩
  · have hk : (2 : Nat) = if (1 ≤ (n : Int) ∧ (n : Int) ≤ 4) ∧ (0 ≤ t ∧ t ≤ 1000) ∧ (1 ≤ x ∧ x ≤ 7) ∧ 0 ≤ d ∧ d ≤ 60 then 0 else 2 := (if_neg hnum).symm
    have HK := Lib.hid hk
    have hbf : b = false := by
      rw [HBB.out, houOk]
      cases hq : numsOk xs.length t x d with
      | false => rfl
      | true => exact absurd (numsOk_iff.1 hq) (by have := En.out; omega)
    subst hbf
    clear hk hnum
    go_enter Tryd.func101, Tryd.ntmps101
    go_wp2_with fail
    refine (checkNums_any (n : Int) t x d HE.out HB0.out 2 HK.out).mono ?_
    rintro o u ⟨rfl, hb1⟩
    have HB1 := Lib.hid (below_next B0.out hb1 (by simp))
    have e2 : errOf e 2 = errV (e 1) := rfl
    rw [e2]
    clear hb1 e2
    go_wp2_with fail
    go_ret
    exact ⟨rfl, HB1.out⟩
theorem l00In_w (n lo hi : Int) (b : Bool) (hb : inB n lo hi = b) (w : World) :
    Calls Tryd.prog 121 #[.int .i64 n, .int .i64 lo, .int .i64 hi] w fun o w' => o = .returned (.bool b) ∧ w' = w := (stk.l00In_b n lo hi b hb w).mono fun _ _ ⟨a, b⟩ => ⟨a, b.symm⟩
theorem l05Tub_w (t x : Int) (b1 b2 b : Bool) (h1 : inB t 0 1000 = b1) (h2 : inB x 1 7 = b2) (hb : b = (b1 && b2)) (w : World) :
    Calls Tryd.prog 137 #[.int .i64 t, .int .i64 x] w fun o w' => o = .returned (.bool b) ∧ w' = w := by
  have H1 := Lib.hid h1
  have H2 := Lib.hid h2
  subst hb
  clear h1 h2
  cases b1 with
  | false =>
    go_enter Tryd.func137, Tryd.ntmps137
    go_wp2_with fail
    refine (l00In_w t 0 1000 false H1.out _).mono ?_
    rintro o u ⟨rfl, hu⟩
    obtain rfl := hu.symm
    go_wp2_with fail
    go_ret
    exact ⟨rfl, rfl⟩
  | true =>
    go_enter Tryd.func137, Tryd.ntmps137
    go_wp2_with fail
    refine (l00In_w t 0 1000 true H1.out _).mono ?_
    rintro o u ⟨rfl, hu⟩
    obtain rfl := hu.symm
    go_wp2_with fail
    refine (l00In_w x 1 7 b2 H2.out _).mono ?_
    rintro o u2 ⟨rfl, hu2⟩
    obtain rfl := hu2.symm
    go_wp2_with fail
    go_ret
    exact ⟨by simp, rfl⟩
theorem Sl.stk {u : World} {B g : Nat} {xs : List Stk} (h : Sl stkC 25 u B (some ⟨g, 0, none⟩) xs) (hB : B ≤ u.heap.size) {k : Nat} {y : Stk} (hy : xs[k]? = some y) : StkAt u g (k * 25) y := by
  obtain ⟨a, ha, hab, hat⟩ := h.at_ k y hy
  obtain rfl := Option.some.inj ha
  refine ⟨Nat.lt_of_lt_of_le hab hB, fun j hj => ?_⟩
  have := hat j _ (lst_get _ hj)
  rwa [add_lit, add_at] at this
set_option maxRecDepth 100000 in
set_option maxHeartbeats 4000000 in
theorem l05Ok_any (g : Nat) (n c : Nat) (xs : List Stk) (t x d : Int) (en : n = xs.length) (hn : n ≤ 1048576) (hf : ∀ x ∈ xs, Fits x) (ht : -32768 ≤ t ∧ t ≤ 32767) (hx : -128 ≤ x ∧ x ≤ 127) (hd : -32768 ≤ d ∧ d ≤ 32767) (hb0 : Nat) (w : World) (hA : HouAt w hb0 (.slice (some ⟨g, 0, none⟩) n c) t x d) (hg : Sl stkC 25 w w.heap.size (some ⟨g, 0, none⟩) xs) (b : Bool) (hb : b = houOk xs t x d) :
    Calls Tryd.prog 98 #[.pointer (some ⟨hb0, 0, none⟩)] w fun o w' => o = .returned (.bool b) ∧ Below w.heap.size w w' := by
  have En := Lib.hid en
  have HBB := Lib.hid hb
  have HA := Lib.hid hA
  have w1 : IntKind.i64.wrap t = t := IntWalk.i64_in _ (by omega)
  have w2 : IntKind.i64.wrap x = x := IntWalk.i64_in _ (by omega)
  have w3 : IntKind.i64.wrap d = d := IntWalk.i64_in _ (by omega)
  have c0 := hA.c0
  obtain ⟨b1, h1⟩ : ∃ b, inB (n : Int) 1 4 = b := ⟨_, rfl⟩
  obtain ⟨b2, h2⟩ : ∃ b, inB t 0 1000 = b := ⟨_, rfl⟩
  obtain ⟨b3, h3⟩ : ∃ b, inB x 1 7 = b := ⟨_, rfl⟩
  obtain ⟨b4, h4⟩ : ∃ b, inB d 0 60 = b := ⟨_, rfl⟩
  have HNO : Hid (numsOk xs.length t x d = (b1 && (b2 && (b3 && b4)))) := Lib.hid (by rw [numsOk, ← en, h1, h2, h3, h4])
  have H1 := Lib.hid h1
  have H2 := Lib.hid h2
  have H3 := Lib.hid h3
  have H4 := Lib.hid h4
  clear en hb hA h1 h2 h3 h4
  go_enter Tryd.func98, Tryd.ntmps98
  go_wp2_with fail
  go_loopw [3] (fun vi wr => ∃ k : Nat, k ≤ n ∧ vi = .int .i64 k ∧ (∀ (i : Nat) (x : Stk), i < k → xs[i]? = some x → validS x = true) ∧ Below w.heap.size w wr) (fun vi _ => n - (intOf vi).toNat)
  case atStart => exact ⟨0, by omega, rfl, fun i x hi => absurd hi (by omega), Below.refl _ _⟩
  case round =>
    obtain ⟨k, hk, rfl, hval, hB⟩ := hrel
    have HV := Lib.hid hval
    have HB := Lib.hid hB
    clear hval hB c0
    have hAk := HA.out.next HB.out
    have c0 := hAk.c0
    have c1 := hAk.c1
    have c2 := hAk.c2
    have c3 := hAk.c3
    clear hAk
    by_cases hlt : k < n
    · obtain ⟨y, hy⟩ : ∃ y, xs[k]? = some y := ⟨xs[k]'(by have := En.out; omega), List.getElem?_eq_getElem _⟩
      have hat := Sl.stk (hg.below HB.out) HB.out.size hy
      have hyf : Fits y := hf y (List.mem_of_getElem? hy)
      have HY := Lib.hid hy
      have HAT := Lib.hid hat
      obtain ⟨v, hv⟩ : ∃ v, v = validS y := ⟨_, rfl⟩
      have HVY := Lib.hid hv
      clear hy hat hv
      go_wp2_with fail
      refine (l05Stock_any y hyf g (k * 25) _ HAT.out).mono ?_
      rintro o w2 ⟨rfl, hb2⟩
      rw [← HVY.out]
      have HB2 := Lib.hid (below_next HB.out hb2 (Nat.le_refl _))
      clear hb2
      cases v with
      | true =>
        go_wp2_with fail
        go_roundw
        case rel => exact ⟨k + 1, by omega, by go_num, fun i z hi hz => by
          rcases Nat.lt_or_ge i k with h1 | h1
          · exact HV.out i z h1 hz
          · obtain rfl : i = k := by omega
            have := HY.out
            rw [hz] at this
            rw [Option.some.inj this]
            exact HVY.out.symm, HB2.out⟩
        case measure => simp [intOf]; omega
      | false =>
        have hbf : b = false := by rw [HBB.out, houOk, all_not HY.out HVY.out.symm, Bool.and_false]
        subst hbf
        go_wp2_with fail
        go_ret
        exact ⟨rfl, HB2.out⟩
    · obtain rfl : k = n := by omega
      obtain ⟨va, hva⟩ : ∃ v, v = xs.all validS := ⟨_, rfl⟩
      have hvt : xs.all validS = true := all_of_idx fun i x hi hx => HV.out i x (by have := En.out; omega) hx
      have HBF : Hid (b = (b1 && (b2 && (b3 && b4)))) := Lib.hid (by rw [HBB.out, houOk, hvt, HNO.out, Bool.and_true])
      clear hva hvt
      cases b1 with
      | false =>
        obtain rfl : b = false := HBF.out.trans (by simp)
        go_wp2_with fail
        go_quiet (((go_at_call 121; exact Calls.quiet_of_same (l00In_w _ _ _ false H1.out _))))
        go_wp2_with fail
        go_ret
        exact ⟨by first | rfl | simp, HB.out.trans (below_drewN _ _ _)⟩
      | true =>
        cases b2 with
        | false =>
          obtain rfl : b = false := HBF.out.trans (by simp)
          go_wp2_with fail
          go_quiet ((first | (go_at_call 121; exact Calls.quiet_of_same (l00In_w _ _ _ true H1.out _)) | (go_at_call 137; exact Calls.quiet_of_same (l05Tub_w t x false b3 false H2.out H3.out (by simp) _))))
          go_wp2_with fail
          go_ret
          exact ⟨by first | rfl | simp, HB.out.trans (below_drewN _ _ _)⟩
        | true =>
          cases b3 with
          | false =>
            obtain rfl : b = false := HBF.out.trans (by simp)
            go_wp2_with fail
            go_quiet ((first | (go_at_call 121; exact Calls.quiet_of_same (l00In_w _ _ _ true H1.out _)) | (go_at_call 137; exact Calls.quiet_of_same (l05Tub_w t x true false false H2.out H3.out (by simp) _))))
            go_wp2_with fail
            go_ret
            exact ⟨by first | rfl | simp, HB.out.trans (below_drewN _ _ _)⟩
          | true =>
            cases b4 with
            | false =>
              obtain rfl : b = false := HBF.out.trans (by simp)
              go_wp2_with fail
              go_quiet ((first | (go_at_call 121; exact Calls.quiet_of_same (l00In_w _ _ _ _ (by first | exact H1.out | exact H4.out) _)) | (go_at_call 137; exact Calls.quiet_of_same (l05Tub_w t x true true true H2.out H3.out (by simp) _))))
              go_wp2_with fail
              go_ret
              exact ⟨by first | rfl | simp, HB.out.trans (below_drewN _ _ _)⟩
            | true =>
              obtain rfl : b = true := HBF.out.trans (by simp)
              go_wp2_with fail
              go_quiet ((first | (go_at_call 121; exact Calls.quiet_of_same (l00In_w _ _ _ _ (by first | exact H1.out | exact H4.out) _)) | (go_at_call 137; exact Calls.quiet_of_same (l05Tub_w t x true true true H2.out H3.out (by simp) _))))
              go_wp2_with fail
              go_ret
              exact ⟨by first | rfl | simp, HB.out.trans (below_drewN _ _ _)⟩
end Go.Proofs.YtjfimmfnhlimkaaDoor.hou

/-
  What was marked is still held; houses of the call's own, whole.
-/
namespace Go.Proofs.YtjfimmfnhlimkaaDoor.hou
open Go Go.RowKit sl row stk

end Go.Proofs.YtjfimmfnhlimkaaDoor.hou

/-
  Houses of the call's own where other blocks are written.
-/
namespace Go.Proofs.YtjfimmfnhlimkaaDoor.hou
open Go Go.RowKit sl row stk

end Go.Proofs.YtjfimmfnhlimkaaDoor.hou
