/-
  What is missing: the program's and the model's.
-/
import Derived.Test.YtlembainfhnnbaaDoorJoin14
import Derived.Test.YtlembainfhnnbaaDoorJoin13
import Derived.Test.YtlembainfhnnbaaDoorJoin17
import Derived.Test.YtlembainfhnnbaaDoorCFirstW
import Derived.Deep.RegionHeld3
import Derived.IntWalk
namespace Go.Proofs.YtlembainfhnnbaaDoor.mks
open Go Go.RowKit sl stk errs fold

def thingB (x : Int) : Bool := inB x 0 1000
def missL (xs ys : List Int) : List Int := List.zipWith (fun a b => max 0 (a - b)) xs ys
def missOk (xs ys : List Int) : Bool := decide (xs.length = ys.length) && (decide (xs.length ≤ 40) && (xs.all thingB && ys.all thingB))
def misR (xs ys : List Int) : List Int × Nat := if missOk xs ys = true then (missL xs ys, 0) else ([], 2)
theorem misR_le {xs ys zs : List Int} {k : Nat} (h : misR xs ys = (zs, k)) : zs.length ≤ 1048576 := by
  unfold misR at h
  split at h
  · rename_i h1
    unfold missOk at h1
    simp only [Bool.and_eq_true, decide_eq_true_eq] at h1
    cases h
    unfold missL
    rw [List.length_zipWith]
    omega
  · cases h; simp
theorem missOk_iff {xs ys : List Int} : missOk xs ys = true ↔ xs.length = ys.length ∧ xs.length ≤ 40 ∧ (∀ x ∈ xs, thingB x = true) ∧ ∀ y ∈ ys, thingB y = true := by
  unfold missOk
  simp only [Bool.and_eq_true, decide_eq_true_eq, List.all_eq_true]
theorem miss_snoc {xs ys : List Int} {k : Nat} {x y : Int} (hx : xs[k]? = some x) (hy : ys[k]? = some y) : missL (xs.take (k + 1)) (ys.take (k + 1)) = missL (xs.take k) (ys.take k) ++ [max 0 (x - y)] := by
  have h1 : k < xs.length := (List.getElem?_eq_some_iff.1 hx).1
  have h2 : k < ys.length := (List.getElem?_eq_some_iff.1 hy).1
  unfold missL
  rw [take_snoc hx, take_snoc hy, List.zipWith_append (by simp; omega)]
  rfl

/-- two numbers in memory -/
def TwoI (p p' : Addr) (x y : Int) (W u : World) : Prop := u.cell? p = some (.int .i64 x) ∧ u.cell? p' = some (.int .i64 y) ∧ Below W.heap.size W u
theorem TwoI.to {p p' : Addr} {x y : Int} {W u v : World} (h : TwoI p p' x y W u) (hp : p.block < W.heap.size) (hp' : p'.block < W.heap.size) (hb : Below W.heap.size u v) : TwoI p p' x y W v := by
  obtain ⟨h0, h1, hB⟩ := h
  exact ⟨(hb.cell (p := p) hp).trans h0, (hb.cell (p := p') hp').trans h1, hB.trans hb⟩
theorem TwoI.alloc {p p' : Addr} {x y : Int} {W u : World} (h : TwoI p p' x y W u) (hp : p.block < W.heap.size) (hp' : p'.block < W.heap.size) (o : Obj) : TwoI p p' x y W (u.alloc o) :=
  h.to hp hp' ((Below.refl _ _).alloc h.2.2.size _)
theorem l00Max_q (a b : Int) (w : World) :
    Calls Tryd.prog 74 #[.int .i64 a, .int .i64 b] w fun o w' => o = .returned (.int .i64 (max a b)) ∧ w = w' := by
  by_cases h : a < b
  · have e : max a b = b := by omega
    rw [e]
    go_enter Tryd.func74, Tryd.ntmps74
    go_wp2_with fail
    all_goals go_ret
    all_goals exact ⟨rfl, rfl⟩
  · have hab : b ≤ a := by omega
    have e : max a b = a := by omega
    rw [e]
    clear e h
    rcases Int.lt_or_eq_of_le hab with h | h
    · have h1 : decide (b < a) = true := by simpa using h
      go_enter Tryd.func74, Tryd.ntmps74
      go_wp2_with fail
      all_goals go_ret
      all_goals first | exact ⟨rfl, rfl⟩ | exact ⟨ret_int (by omega), rfl⟩
    · subst h
      go_enter Tryd.func74, Tryd.ntmps74
      go_wp2_with fail
      all_goals go_ret
      all_goals first | exact ⟨rfl, rfl⟩ | exact ⟨ret_int (by omega), rfl⟩
set_option maxRecDepth 100000 in
set_option maxHeartbeats 4000000 in
theorem MissingBy_spec (A : Option Addr) (n c : Nat) (xs : List Int) (en : n = xs.length) (hn : n ≤ 1048576) (A' : Option Addr) (n' c' : Nat) (ys : List Int) (en' : n' = ys.length) (hn' : n' ≤ 1048576) (zs : List Int) (k : Nat) (hr : misR xs ys = (zs, k)) (w : World) (hg : Sl intS.C 1 w w.heap.size A xs) (hg' : Sl intS.C 1 w w.heap.size A' ys) :
    Calls Tryd.prog 33 #[.slice A n c, .slice A' n' c'] w (OwnN w zs k) := by
  have hbn := build_noI
  by_cases hbad : n ≠ n' ∨ 40 < n
  · have hno : missOk xs ys = false := by
      cases h : missOk xs ys with
      | false => rfl
      | true => have := missOk_iff.1 h; omega
    obtain ⟨rfl, rfl⟩ : [] = zs ∧ 2 = k := by simpa [misR, hno] using hr
    clear hno hr hg hg' en en'
    rcases hbad with hb | hb
    · have hne : ((n : Int) != (n' : Int)) = true := by rw [bne_iff_ne]; omega
      clear hb
      go_enter Tryd.func33, Tryd.ntmps33
      go_wp2_with fail
      go_ret2
      exact ⟨_, rfl, own_noI _, (Below.refl _ _).alloc (Nat.le_refl _) _⟩
    · by_cases he : n = n'
      · subst he
        go_enter Tryd.func33, Tryd.ntmps33
        go_wp2_with fail
        go_ret2
        exact ⟨_, rfl, own_noI _, (Below.refl _ _).alloc (Nat.le_refl _) _⟩
      · have hne : ((n : Int) != (n' : Int)) = true := by rw [bne_iff_ne]; omega
        clear he
        go_enter Tryd.func33, Tryd.ntmps33
        go_wp2_with fail
        go_ret2
        exact ⟨_, rfl, own_noI _, (Below.refl _ _).alloc (Nat.le_refl _) _⟩
  · obtain rfl : n = n' := by omega
    have hn40 : n ≤ 40 := by omega
    obtain ⟨i0, hI, hz0, hz1, hz2⟩ := info_parts intS.info
    have HP0 := Lib.hid (own_noI w)
    have HB0 : Hid (Below w.heap.size w (w.alloc (.cells #[] 2))) := Lib.hid ((Below.refl _ _).alloc (Nat.le_refl _) _)
    have En := Lib.hid en
    have En' := Lib.hid en'
    have HR := Lib.hid hr
    clear hr en en' hbad
    go_enter Tryd.func33, Tryd.ntmps33
    go_wp2_with fail
    go_loopw [6, 7] (fun v6 v7 wr => ∃ (i : Nat) (P : List Int), i ≤ n ∧ v7 = .int .i64 i ∧ missL (xs.take i) (ys.take i) = P ∧ (∀ x ∈ xs.take i, thingB x = true) ∧ (∀ x ∈ ys.take i, thingB x = true) ∧ wr.ownsRow w.heap.size 2 1 v6 i (P.flatMap intS.C) ∧ Below w.heap.size w wr) (fun _ v7 _ => n - (intOf v7).toNat)
    case atStart => exact ⟨0, [], by omega, rfl, rfl, fun x hx => by simp at hx, fun x hx => by simp at hx, HP0.out, HB0.out⟩
    case round =>
      clear HP0 HB0
      obtain ⟨i, P, hi, rfl, hP0, hx1, hy1, hP, hB⟩ := hrel
      have HPP := Lib.hid hP0
      have HX1 := Lib.hid hx1
      have HY1 := Lib.hid hy1
      have HP := Lib.hid hP
      have HB := Lib.hid hB
      clear hP0 hx1 hy1
      by_cases hlt : i < n
      · obtain ⟨x, hx⟩ : ∃ x, xs[i]? = some x := ⟨xs[i]'(by have := En.out; omega), List.getElem?_eq_getElem _⟩
        obtain ⟨y, hy⟩ : ∃ y, ys[i]? = some y := ⟨ys[i]'(by have := En'.out; omega), List.getElem?_eq_getElem _⟩
        obtain ⟨a, rfl, hab, hat⟩ := (hg.below hB).at_ i x hx
        obtain ⟨a', rfl, hab', hat'⟩ := (hg'.below hB).at_ i y hy
        have q0 := intS.at_ hat
        have r0 := intS.at_ hat'
        have HX := Lib.hid hx
        have HY := Lib.hid hy
        have HTX := Lib.hid (take_snoc hx)
        have HTY := Lib.hid (take_snoc hy)
        have HMS := Lib.hid (miss_snoc hx hy)
        have HIX := Lib.hid (l00In_any x 0 1000)
        have HIY := Lib.hid (l00In_any y 0 1000)
        obtain ⟨V, cV, rfl, _⟩ := owns_slice hP
        clear hx hy hat hat' hB hP
        cases hbx : inB x 0 1000 with
        | false =>
          rw [hbx] at HIX
          have hno : missOk xs ys = false := by
            cases h : missOk xs ys with
            | false => rfl
            | true =>
              have h5 := (missOk_iff.1 h).2.2.1 x (List.mem_of_getElem? HX.out)
              unfold thingB at h5
              rw [hbx] at h5
              cases h5
          obtain ⟨rfl, rfl⟩ : [] = zs ∧ 2 = k := by have := HR.out; simpa [misR, hno] using this
          clear hno hbx
          go_wp2_with (first | (go_at_call 64; refine (HIX.out _).mono ?_; rintro o w1 ⟨rfl, rfl⟩) | fail)
          go_ret2
          exact ⟨_, rfl, own_noB HB.out.size, HB.out.alloc HB.out.size _⟩
        | true =>
          rw [hbx] at HIX
          cases hby : inB y 0 1000 with
          | false =>
            rw [hby] at HIY
            have hno : missOk xs ys = false := by
              cases h : missOk xs ys with
              | false => rfl
              | true =>
                have h5 := (missOk_iff.1 h).2.2.2 y (List.mem_of_getElem? HY.out)
                unfold thingB at h5
                rw [hby] at h5
                cases h5
            obtain ⟨rfl, rfl⟩ : [] = zs ∧ 2 = k := by have := HR.out; simpa [misR, hno] using this
            clear hno hbx hby
            go_wp2_with fail
            refine (HIX.out _).mono ?_
            rintro o w1 ⟨rfl, rfl⟩
            go_wp2_with fail
            refine (HIY.out _).mono ?_
            rintro o w1 ⟨rfl, rfl⟩
            go_wp2_with fail
            go_ret2
            exact ⟨_, rfl, own_noB HB.out.size, HB.out.alloc HB.out.size _⟩
          | true =>
            rw [hby] at HIY
            obtain ⟨x0, x1⟩ := (inB_iff _ _ _).1 hbx
            obtain ⟨y0, y1⟩ := (inB_iff _ _ _).1 hby
            have HBX := Lib.hid hbx
            have HBY := Lib.hid hby
            have HMX := Lib.hid (l00Max_q 0 (x - y))
            clear hbx hby
            go_wp2_with fail
            refine (HIX.out _).mono ?_
            rintro o w1 ⟨rfl, rfl⟩
            go_wp2_with fail
            refine (HIY.out _).mono ?_
            rintro o w1 ⟨rfl, rfl⟩
            go_wp2_with fail
            have hp : (a.add i).block < w.heap.size := by rw [block_add]; exact hab
            have hp' : (a'.add i).block < w.heap.size := by rw [block_add]; exact hab'
            have H8 : Hid (TwoI (a.add i) (a'.add i) x y w wr) := Lib.hid ⟨q0, r0, HB.out⟩
            have HPD := Lib.hid (owns_next HP.out (below_drewN _ wr 1))
            have hsz := HB.out.size
            have hwr : IntKind.i64.wrap (x - y) = x - y := IntWalk.i64_in _ (by omega)
            go_region_held3 (fun u => u.cell? (a.add i) = some (.int .i64 x) ∧ u.cell? (a'.add i) = some (.int .i64 y) ∧ Below w.heap.size w u)
              (first | assumption | exact H8.out.to hp hp' (below_drewN _ wr 1) | exact TwoI.alloc (by assumption) hp hp' _ | exact TwoI.to (by assumption) hp hp' hb3 | fail)
              (first
                | (go_at_call 74; refine (HMX.out _).mono ?_; rintro o w2 ⟨rfl, rfl⟩)
                | (refine step_append_wantedM (by rfl) (.tmp 41) (.tmp 52) 46 (by rfl) w.heap.size 2 i0 (.int .i64 0) 1 8 Tryd.underlying46 hI hz0 hz1 hz2 rfl (by decide) _ _ _ (by rfl) (HPD.out.alloc _) ⟨_, 0, none⟩ 1 1 [.int .i64 (max 0 (x - y))] (by rfl) (by rfl) (one_newB _ _ _ _ (by simp)) (one_cellI (by rfl)) (by omega) (by unfold maxLen; omega) (by omega) (by simp; omega) _ rfl ?_; intro gg cap w3 hown3 hgr _ _; have hb3 := Below.grown (Below.refl w.heap.size _) hgr (by simp; omega) (fun g hg => (HPD.out.lt g hg).1); have HO3 := Lib.hid hown3; clear hown3 hgr)
                | fail)
            go_wp2_with fail
            have hB3 := (show TwoI (a.add i) (a'.add i) x y w w3 by assumption).2.2
            refine ⟨⟨i + 1, P ++ [max 0 (x - y)], by omega, by go_num, by rw [HMS.out, HPP.out], fun z hz => ?_, fun z hz => ?_, by rw [flat_snoc]; exact HO3.out, hB3⟩, by simp [intOf]; omega⟩
            · rw [HTX.out] at hz
              rcases List.mem_append.1 hz with h1 | h1
              · exact HX1.out z h1
              · rw [List.mem_singleton.1 h1]; exact HBX.out
            · rw [HTY.out] at hz
              rcases List.mem_append.1 hz with h1 | h1
              · exact HY1.out z h1
              · rw [List.mem_singleton.1 h1]; exact HBY.out
      · obtain rfl : i = n := by omega
        have hok : missOk xs ys = true := missOk_iff.2 ⟨En.out.symm.trans En'.out, by rw [← En.out]; omega, fun x hx => HX1.out x (by rw [List.take_of_length_le (by have := En.out; omega)]; exact hx), fun x hx => HY1.out x (by rw [List.take_of_length_le (by have := En'.out; omega)]; exact hx)⟩
        have hr2 := HR.out
        rw [misR, if_pos hok] at hr2
        have hz : missL xs ys = zs ∧ 0 = k := by simpa using hr2
        obtain rfl := hz.2
        have hpz : P = zs := by
          have h5 := HPP.out
          rw [List.take_of_length_le (by have := En.out; omega), List.take_of_length_le (by have := En'.out; omega)] at h5
          exact h5.symm.trans hz.1
        subst hpz
        clear hok hr2 hz
        go_wp2_with fail
        go_ret2
        have hl := owns_len HP.out (intS.len _) (by decide)
        exact ⟨_, rfl, by rw [← hl]; exact HP.out, HB.out⟩
set_option maxRecDepth 100000 in
set_option maxHeartbeats 4000000 in
theorem checkThings_any (A : Option Addr) (n c : Nat) (xs : List Int) (en : n = xs.length) (hn : n ≤ 1048576) {w : World} {B : Nat} {e : Nat → Addr} (h : Errs w B e) (D : Nat) (hg : Sl intS.C 1 w D A xs) (k : Nat) (hk : k = if xs.all thingB = true then 0 else 2) :
    Calls Tryd.prog 75 #[.slice A n c] w fun o w' => o = .returned (errOf e k) ∧ w = w' := by
  have En := Lib.hid en
  have HK := Lib.hid hk
  have HE := Lib.hid h
  clear en hk h
  go_enter Tryd.func75, Tryd.ntmps75
  go_wp2_with fail
  go_loop [4, 5, 8] (fun _ _ vi => ∃ i : Nat, i ≤ n ∧ vi = .int .i64 i ∧ ∀ x ∈ xs.take i, thingB x = true) (fun _ _ vi => n - (intOf vi).toNat)
  case atStart => exact ⟨0, by omega, rfl, fun x hx => by simp at hx⟩
  case round =>
    obtain ⟨i, hi, rfl, hok⟩ := hrel
    have HO := Lib.hid hok
    clear hok
    by_cases hlt : i < n
    · obtain ⟨x, hx⟩ : ∃ x, xs[i]? = some x := ⟨xs[i]'(by have := En.out; omega), List.getElem?_eq_getElem _⟩
      obtain ⟨a, rfl, hab, hat⟩ := hg.at_ i x hx
      have q0 := intS.at_ hat
      have HX := Lib.hid hx
      have hcw := checkWithin_any x 0 1000 HE.out
      clear hx hat
      cases hb : thingB x with
      | true =>
        rw [if_pos ((inB_iff _ _ _).1 hb), show errOf e 0 = .nilIface from rfl] at hcw
        have HCW := Lib.hid hcw
        have HB := Lib.hid hb
        clear hb hcw
        go_wp2_with fail
        refine HCW.out.mono ?_
        rintro o w1 ⟨rfl, rfl⟩
        go_wp2_with fail
        go_round
        case rel => exact ⟨i + 1, by omega, by go_num, fun m hm => by
          rw [take_snoc HX.out] at hm
          rcases List.mem_append.1 hm with h1 | h1
          · exact HO.out m h1
          · rw [List.mem_singleton.1 h1]; exact HB.out⟩
        case measure => simp [intOf]; omega
      | false =>
        rw [if_neg (fun h => by have := (inB_iff _ _ _).2 h; unfold thingB at hb; rw [hb] at this; cases this), show errOf e 2 = errV (e 1) from rfl] at hcw
        have HCW := Lib.hid hcw
        have e1 : k = 2 := by
          rw [HK.out, if_neg]
          intro hall
          have := List.all_eq_true.1 hall x (List.mem_of_getElem? HX.out)
          rw [hb] at this
          cases this
        subst e1
        clear hb hcw
        go_wp2_with fail
        refine HCW.out.mono ?_
        rintro o w1 ⟨rfl, rfl⟩
        go_wp2_with fail
        go_ret
        exact ⟨rfl, rfl⟩
    · obtain rfl : i = n := by omega
      have e1 : k = 0 := by
        rw [HK.out, if_pos]
        refine List.all_eq_true.2 fun x hx => HO.out x ?_
        rw [List.take_of_length_le (by have := En.out; omega)]
        exact hx
      subst e1
      go_wp2_with fail
      go_ret
      exact ⟨rfl, rfl⟩
theorem misR_codes {xs ys : List Int} {k1 k2 k3 k4 : Nat} (h1 : k1 = if xs.length ≤ ys.length ∧ ys.length ≤ xs.length then 0 else 2) (h2 : k2 = if 0 ≤ xs.length ∧ xs.length ≤ 40 then 0 else 2) (h3 : k3 = if xs.all thingB = true then 0 else 2) (h4 : k4 = if ys.all thingB = true then 0 else 2) :
    firstCode [k1, k2, k3, k4] = if missOk xs ys = true then 0 else 2 := by
  unfold missOk
  by_cases a1 : xs.length = ys.length
  · rw [if_pos (by omega)] at h1
    subst h1
    by_cases a2 : xs.length ≤ 40
    · rw [if_pos (by omega)] at h2
      subst h2
      cases a3 : xs.all thingB with
      | true =>
        rw [a3, if_pos rfl] at h3
        subst h3
        cases a4 : ys.all thingB with
        | true =>
          rw [a4, if_pos rfl] at h4
          subst h4
          simp [a1, firstCode]
          omega
        | false =>
          rw [a4, if_neg (by simp)] at h4
          subst h4
          simp [firstCode]
      | false =>
        rw [a3, if_neg (by simp)] at h3
        subst h3
        simp [firstCode]
    · rw [if_neg (by omega)] at h2
      subst h2
      simp [firstCode, a2]
  · rw [if_neg (by omega)] at h1
    subst h1
    simp [firstCode, a1]
set_option maxRecDepth 100000 in
set_option maxHeartbeats 8000000 in
theorem MissingBy_any (A : Option Addr) (n : Nat) (xs : List Int) (en : n = xs.length) (hn : n ≤ 1048576) (A' : Option Addr) (n' : Nat) (ys : List Int) (en' : n' = ys.length) (hn' : n' ≤ 1048576) (zs : List Int) (k : Nat) (hr : misR xs ys = (zs, k)) {w : World} {B : Nat} {e : Nat → Addr} (h : Errs w B e) (hB : B ≤ w.heap.size) (hg : Sl intS.C 1 w w.heap.size A xs) (hg' : Sl intS.C 1 w w.heap.size A' ys) :
    Calls Tryd.prog 35 #[.slice A n n, .slice A' n' n'] w (OwnN w zs k) := by
  have H := Lib.hid h
  obtain ⟨k1, hk1⟩ : ∃ k : Nat, k = if xs.length ≤ ys.length ∧ ys.length ≤ xs.length then 0 else 2 := ⟨_, rfl⟩
  obtain ⟨k2, hk2⟩ : ∃ k : Nat, k = if 0 ≤ xs.length ∧ xs.length ≤ 40 then 0 else 2 := ⟨_, rfl⟩
  obtain ⟨k3, hk3⟩ : ∃ k : Nat, k = if xs.all thingB = true then 0 else 2 := ⟨_, rfl⟩
  obtain ⟨k4, hk4⟩ : ∃ k : Nat, k = if ys.all thingB = true then 0 else 2 := ⟨_, rfl⟩
  have hf := misR_codes hk1 hk2 hk3 hk4
  have h1 := checkWithin_any (n' : Int) (n : Int) (n : Int) h
  have h2 := checkWithin_any (n : Int) 0 40 h
  have c1 : (if (n : Int) ≤ (n' : Int) ∧ (n' : Int) ≤ (n : Int) then 0 else 2) = k1 := by
    rw [hk1, ← en, ← en']
    by_cases hx : n ≤ n' ∧ n' ≤ n
    · rw [if_pos hx, if_pos (by omega)]
    · rw [if_neg hx, if_neg (by omega)]
  have c2 : (if 0 ≤ (n : Int) ∧ (n : Int) ≤ 40 then 0 else 2) = k2 := by
    rw [hk2, ← en]
    by_cases hx : 0 ≤ n ∧ n ≤ 40
    · rw [if_pos hx, if_pos (by omega)]
    · rw [if_neg hx, if_neg (by omega)]
  rw [c1] at h1
  rw [c2] at h2
  have H1 := Lib.hid h1
  have H2 := Lib.hid h2
  have H3 := Lib.hid (checkThings_any A n n xs en hn h w.heap.size hg k3 hk3)
  have H4 := Lib.hid (checkThings_any A' n' n' ys en' hn' h w.heap.size hg' k4 hk4)
  obtain ⟨f, hff⟩ : ∃ f, (if missOk xs ys = true then 0 else 2) = f := ⟨_, rfl⟩
  have HF : Hid (firstCode [k1, k2, k3, k4] = f) := Lib.hid (hf.trans hff)
  have HFF := Lib.hid hff
  have HR := Lib.hid hr
  have En := Lib.hid en
  have En' := Lib.hid en'
  clear hk1 hk2 hk3 hk4 hf h1 h2 c1 c2 hff h hr en en'
  go_enter Tryd.func35, Tryd.ntmps35
  go_wp2_with fail
  refine H1.out.mono ?_
  rintro o w1 ⟨rfl, rfl⟩
  go_wp2_with fail
  refine H2.out.mono ?_
  rintro o w1 ⟨rfl, rfl⟩
  go_wp2_with fail
  refine H3.out.mono ?_
  rintro o w1 ⟨rfl, rfl⟩
  go_wp2_with fail
  refine H4.out.mono ?_
  rintro o w1 ⟨rfl, rfl⟩
  go_wp2_with (refine wpList_listed rfl 114 4 _ rfl #[(0, errOf e k1), (1, errOf e k2), (2, errOf e k3), (3, errOf e k4)] ?hp (buildSlice4 e k1 k2 k3 k4 _) ?_; case hp => simp [Act.eval])
  refine (firstOf_any e [k1, k2, k3, k4] _ 4 4 rfl (by decide) _ (cells_errs e [k1, k2, k3, k4] w 65 #[errOf e k1, errOf e k2, errOf e k3, errOf e k4] rfl)).mono ?_
  rintro o u ⟨rfl, rfl⟩
  rw [HF.out]
  have HB2 := Lib.hid ((Below.refl w.heap.size w).alloc (Nat.le_refl _) (.cells #[errOf e k1, errOf e k2, errOf e k3, errOf e k4] 65))
  obtain ⟨w3, hw3⟩ : ∃ w3, w3 = w.alloc (.cells #[errOf e k1, errOf e k2, errOf e k3, errOf e k4] 65) := ⟨_, rfl⟩
  rw [← hw3] at HB2 ⊢
  have HE := Lib.hid (H.out.below (HB2.out.mono hB))
  have HG := Lib.hid (fun (u : World) (hu : Below w.heap.size w u) => hg.below hu)
  have HG' := Lib.hid (fun (u : World) (hu : Below w.heap.size w u) => hg'.below hu)
  clear hw3 H1 H2 H3 H4 hg hg'
  cases hm : missOk xs ys with
  | false =>
    have hf1 : f = 2 := by rw [← HFF.out, hm]; rfl
    subst hf1
    obtain ⟨rfl, rfl⟩ : [] = zs ∧ 2 = k := by have := HR.out; simpa [misR, hm] using this
    clear hm
    rw [show errOf e 2 = errV (e 1) from rfl]
    go_wp2_with fail
    refine (codeOf_any HE.out 2 (by omega)).mono ?_
    rintro o w4 ⟨rfl, rfl⟩
    go_wp2_with fail
    go_ret2
    exact ⟨_, rfl, World.ownsRow_nil _ _ _ _, HB2.out⟩
  | true =>
    have hf1 : f = 0 := by rw [← HFF.out, hm]; rfl
    subst hf1
    obtain ⟨g1, g2, g3, g4⟩ := missOk_iff.1 hm
    obtain ⟨rfl, rfl⟩ : missL xs ys = zs ∧ 0 = k := by have := HR.out; simpa [misR, hm] using this
    obtain rfl : n = n' := by rw [En.out, En'.out]; exact g1
    have hn40 : n ≤ 40 := by rw [En.out]; exact g2
    have HX3 := Lib.hid g3
    have HY4 := Lib.hid g4
    have hzl : (missL xs ys).length = n := by unfold missL; rw [List.length_zipWith, ← En.out, ← En'.out]; omega
    have HZL := Lib.hid hzl
    obtain ⟨i0, hI, hz0, hz1, hz2⟩ := info_parts intS.info
    clear hm g1 g2 g3 g4 hzl
    rw [show errOf e 0 = .nilIface from rfl]
    have hmk : ∀ u : World, (Instr.makeSlice 46 (.int .i64 (n : Int)) (.int .i64 (n : Int))).run Tryd.prog u =
        .ok (.slice (some ⟨u.heap.size, 0, none⟩) n n) (u.alloc (.cells (madeCells #[.int .i64 0] n) 2)) := fun u => by
      have h := run_make (P := Tryd.prog) u 46 2 i0 _ Tryd.underlying46 hI hz0 .i64 .i64 (n : Int) (n : Int) (by omega) (Int.le_refl _) (by rw [hz2]; omega) (by omega)
      have e : ((n : Int)).toNat = n := by omega
      rw [e] at h
      simpa [hz1, Value.cells] using h
    have HB0 : Hid (Below w.heap.size w (w3.alloc (.cells (madeCells #[.int .i64 0] n) 2))) := Lib.hid (HB2.out.alloc HB2.out.size _)
    have hP0 : (w3.alloc (.cells (madeCells #[.int .i64 0] n) 2)).ownsRow w.heap.size 2 1 (.slice (some ⟨w3.heap.size, 0, none⟩) n n) n _ :=
      owns_below (World.ownsRow_lit w3 (madeCells #[.int .i64 0] n) n (Nat.le_refl _) (by unfold maxLen; omega) (by rw [size_madeCells, Nat.mul_one])) HB2.out.size
    have HP0 := Lib.hid hP0
    have hg3 : w.heap.size ≤ w3.heap.size := HB2.out.size
    clear hP0
    go_wp2_with fail
    go_loopw [10, 11, 36] (fun _ _ vi wr => ∃ i L, i ≤ n ∧ vi = .int .i64 (i : Nat) ∧ wr.ownsRow w.heap.size 2 1 (.slice (some ⟨w3.heap.size, 0, none⟩) n n) n L ∧ Done intS.C 1 (missL xs ys) i L ∧ Below w.heap.size w wr) (fun _ _ vi _ => n - (intOf vi).toNat)
    case atStart => exact ⟨0, _, by omega, rfl, HP0.out, Done.zero _ _ _ _, HB0.out⟩
    case round =>
      clear HP0 HB0
      obtain ⟨i, L, hi, rfl, hP, hD, hB3⟩ := hrel
      have HD := Lib.hid hD
      have hLL := hP.1
      have HB := Lib.hid hB3
      by_cases hlt : i < n
      · obtain ⟨x, hx⟩ : ∃ x, xs[i]? = some x := ⟨xs[i]'(by have := En.out; omega), List.getElem?_eq_getElem _⟩
        obtain ⟨y, hy⟩ : ∃ y, ys[i]? = some y := ⟨ys[i]'(by have := En'.out; omega), List.getElem?_eq_getElem _⟩
        obtain ⟨a, rfl, hab, hat⟩ := (HG.out _ hB3).at_ i x hx
        obtain ⟨a', rfl, hab', hat'⟩ := (HG'.out _ hB3).at_ i y hy
        have q0 := intS.at_ hat
        have r0 := intS.at_ hat'
        obtain ⟨x0, x1⟩ := (inB_iff _ _ _).1 (HX3.out x (List.mem_of_getElem? hx))
        obtain ⟨y0, y1⟩ := (inB_iff _ _ _).1 (HY4.out y (List.mem_of_getElem? hy))
        have HZ : Hid ((missL xs ys)[i]? = some (max 0 (x - y))) := Lib.hid (by unfold missL; rw [List.getElem?_zipWith, hx, hy])
        obtain ⟨v0, s0⟩ : ∃ v, wr.cell? ⟨w3.heap.size, i, none⟩ = some v := ⟨L[i]'(by omega), (hP.cellAt i (by omega)).trans (List.getElem?_eq_getElem _)⟩
        have f0 := hP.frozenAt i
        have HLL := Lib.hid hLL
        have HP := Lib.hid hP
        clear hLL hP hD hB3 hx hy hat hat'
        go_wp2_with fail
        go_roundw
        case rel =>
          have hv : (if x - y < 0 then 0 else x - y) = max 0 (x - y) := by split <;> omega
          rw [hv]
          have hP3 := (HP.out.stored i (.int .i64 (max 0 (x - y)))).1
          have hd := HD.out.step (C := intS.C) (intS.len _) HZ.out (by rw [HLL.out, HZL.out])
          rw [Nat.mul_one] at hd
          exact ⟨i + 1, _, by omega, by go_num, hP3, hd, HB.out.setCell (p := ⟨w3.heap.size, i, none⟩) hg3 _⟩
        case measure => simp [intOf]; omega
      · obtain rfl : i = n := by omega
        have hL : L = (missL xs ys).flatMap intS.C := Done.full (C := intS.C) (sz := 1) (by rw [HZL.out]; exact hD) (intS.len _) (by decide) (by rw [hP.1, HZL.out])
        have HP := Lib.hid hP
        have HL := Lib.hid hL
        clear hL hP hLL hD
        go_wp2_with fail
        go_ret2
        exact ⟨_, rfl, by rw [HZL.out, ← HL.out]; exact HP.out, HB.out⟩
end Go.Proofs.YtlembainfhnnbaaDoor.mks
