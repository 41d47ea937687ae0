/-
  Contracts of the model's functions for loads.
-/
import Derived.Test.YtekigapeekjigaaDoorHeats
import Derived.Test.YtekigapeekjigaaDoorMeet
import Derived.Test.YtekigapeekjigaaDoorCloVal
namespace Go.Proofs.YtekigapeekjigaaDoor.load
open Go.RowKit errs garS heats meet

/-- what all garments weigh -/
def wAll (gs : List Gar) : Int := gs.foldl (fun s x => s + x.g) 0
theorem wAll_snoc {gs : List Gar} {k : Nat} {x : Gar} (hx : gs[k]? = some x) : wAll (gs.take (k + 1)) = wAll (gs.take k) + x.g := by
  rw [take_snoc hx]
  simp [wAll]
theorem wAll_bound (gs : List Gar) (hf : ∀ x ∈ gs, x.Fits) : -32768 * (gs.length : Int) ≤ wAll gs ∧ wAll gs ≤ 32768 * (gs.length : Int) := by
  suffices h : ∀ (gs : List Gar), (∀ x ∈ gs, x.Fits) → ∀ s : Int, s - 32768 * (gs.length : Int) ≤ gs.foldl (fun s x => s + x.g) s ∧ gs.foldl (fun s x => s + x.g) s ≤ s + 32768 * (gs.length : Int) by
    have := h gs hf 0
    unfold wAll
    omega
  intro gs
  induction gs with
  | nil => intro _ s; simp
  | cons x gs ih =>
    intro hf s
    have h1 := ih (fun y hy => hf y (List.mem_cons_of_mem _ hy)) (s + x.g)
    have h2 := hf x (List.mem_cons_self ..)
    have g0 := h2.g0
    have g1 := h2.g1
    have h3 : (((x :: gs).length : Nat) : Int) = (gs.length : Int) + 1 := by simp
    rw [List.foldl_cons, h3]
    omega
/-- may all garments meet, each with those ahead of it -/
def Pairs (r : Nat → Int) (gs : List Gar) : Prop := ∀ (i k : Nat) (x y : Gar), k < i → gs[i]? = some x → gs[k]? = some y → meetB r x y = true

set_option maxHeartbeats 2000000 in
theorem l01Weight_any (A : Option Addr) (n c : Nat) (gs : List Gar) (hn : n = gs.length) (hs : n ≤ 2097152) (w : World) (B : Nat) (hg : GS w B A gs) :
    Calls Tryd.prog 86 #[.slice A n c] w fun o w' => o = .returned (.int .i64 (wAll gs)) ∧ w = w' := by
  have Hn := Lib.hid hn
  clear hn
  go_enter Tryd.func86, Tryd.ntmps86
  go_wp2_with fail
  go_loop [3, 4] (fun l vi => ∃ k : Nat, k ≤ n ∧ vi = .int .i64 k ∧ l = .int .i64 (wAll (gs.take k))) (fun _ vi => n - (intOf vi).toNat)
  case atStart => exact ⟨0, by omega, rfl, rfl⟩
  case round =>
    obtain ⟨k, hk, rfl, rfl⟩ := hrel
    by_cases hlt : k < n
    · obtain ⟨x, hx⟩ : ∃ x, gs[k]? = some x := ⟨gs[k]'(by have := Hn.out; omega), List.getElem?_eq_getElem _⟩
      obtain ⟨a, rfl, hab, hg0, hg1, hg2, hg3⟩ := hg.at_ k x hx
      have hb := wAll_bound (gs.take k) (fun y hy => hg.fits y (List.mem_of_mem_take hy))
      rw [List.length_take] at hb
      obtain ⟨_, _, _, _, _, _, g0, g1⟩ := hg.fits x (List.mem_of_getElem? hx)
      have hw1 : IntKind.i64.wrap x.g = x.g := IntWalk.i64_in _ (by omega)
      have hw2 : IntKind.i64.wrap (wAll (gs.take k) + x.g) = wAll (gs.take k) + x.g := IntWalk.i64_in _ (by omega)
      have hl := Lib.hid (wAll_snoc hx)
      clear hx
      go_wp2_with fail
      go_round
      case rel => exact ⟨k + 1, by omega, by go_num, by rw [hl.out]⟩
      case measure => simp [intOf]; omega
    · go_wp2_with fail
      go_ret
      have e : gs.take k = gs := List.take_of_length_le (by have := Hn.out; omega)
      rw [e]
      exact ⟨rfl, rfl⟩
abbrev SixAt (r : Nat → Int) (b : Nat) (u : World) : Prop := u.cell? ⟨b, 0, none⟩ = some (.int .u8 (r 0)) ∧ u.cell? ⟨b, 1, none⟩ = some (.int .u8 (r 1)) ∧ u.cell? ⟨b, 2, none⟩ = some (.int .u8 (r 2)) ∧ u.cell? ⟨b, 3, none⟩ = some (.int .u8 (r 3)) ∧ u.cell? ⟨b, 4, none⟩ = some (.int .u8 (r 4)) ∧ u.cell? ⟨b, 5, none⟩ = some (.int .u8 (r 5))
theorem SixAt.to {r : Nat → Int} {b B : Nat} {u v : World} (h : SixAt r b u) (hb : Below B u v) (hB : b < B) : SixAt r b v := by
  obtain ⟨h0, h1, h2, h3, h4, h5⟩ := h
  exact ⟨(hb.cell (p := ⟨b, 0, none⟩) hB).trans h0, (hb.cell (p := ⟨b, 1, none⟩) hB).trans h1, (hb.cell (p := ⟨b, 2, none⟩) hB).trans h2, (hb.cell (p := ⟨b, 3, none⟩) hB).trans h3, (hb.cell (p := ⟨b, 4, none⟩) hB).trans h4, (hb.cell (p := ⟨b, 5, none⟩) hB).trans h5⟩
theorem SixAt.new (r : Nat → Int) (w : World) (t : TypeId) : SixAt r w.heap.size (w.alloc (.cells (rulesCs r) t)) := by
  have c : ∀ j, (w.alloc (.cells (rulesCs r) t)).cell? ⟨w.heap.size, j, none⟩ = (rulesCs r)[j]? := fun j => cell_of_row _ _ _ _ _ _ (heap_alloc_new w _)
  exact ⟨c 0, c 1, c 2, c 3, c 4, c 5⟩
/-- the rules in their box, two garments, and what lay below -/
abbrev LB (r : Nat → Int) (w : World) (p p' : Addr) (x y : Gar) (u : World) : Prop := SixAt r w.heap.size u ∧ w.heap.size < u.heap.size ∧ Eight p p' x y w u
theorem LB.next {r : Nat → Int} {w u v : World} {p p' : Addr} {x y : Gar} (h : LB r w p p' x y u) (hp : p.block < w.heap.size) (hp' : p'.block < w.heap.size) (hb : Below u.heap.size u v) : LB r w p p' x y v :=
  ⟨h.1.to hb h.2.1, Nat.lt_of_lt_of_le h.2.1 hb.size, h.2.2.next hp hp' hb⟩
theorem l01Meet_v (r : Nat → Int) (hr : Six r) (a b : Gar) (ha : a.Fits) (hb : b.Fits) (ca : a.c < 6) (cb : b.c < 6) (w : World) (v : Bool) (hv : meetB r a b = v) :
    Calls Tryd.prog 116 #[rulesV r, a.v, b.v] w fun o w' => o = .returned (.bool v) ∧ Below w.heap.size w w' := by
  subst hv
  exact l01Meet_any r hr a b ha hb ca cb w
set_option maxRecDepth 100000 in
set_option maxHeartbeats 8000000 in
theorem l01Load_any (r : Nat → Int) (hr : Six r) (hold : Int) (A : Option Addr) (n c : Nat) (gs : List Gar) (hn : n = gs.length) (hs : n ≤ 1048576) (hc : ∀ x ∈ gs, x.c < 6) (w : World) (hg : GS w w.heap.size A gs) (b : Bool) (hb : b = true ↔ (Pairs r gs ∧ wAll gs ≤ hold)) :
    Calls Tryd.prog 73 #[rulesV r, .int .i64 hold, .slice A n c] w fun o w' => o = .returned (.bool b) ∧ Below w.heap.size w w' := by
  have Hn := Lib.hid hn
  have HB := Lib.hid hb
  clear hn hb
  have S0 := Lib.hid (SixAt.new r w 26)
  obtain ⟨s0, s1, s2, s3, s4, s5⟩ := S0.out
  have B0 := Lib.hid ((Below.refl w.heap.size w).alloc (Nat.le_refl _) (.cells (rulesCs r) 26))
  go_enter Tryd.func73, Tryd.ntmps73
  go_wp2_with fail
  go_loopw [7] (fun vi wr => ∃ i : Nat, i ≤ n ∧ vi = .int .i64 i ∧ (∀ a k x y, a < i → k < a → gs[a]? = some x → gs[k]? = some y → meetB r x y = true) ∧ SixAt r w.heap.size wr ∧ w.heap.size < wr.heap.size ∧ Below w.heap.size w wr) (fun vi _ => n - (intOf vi).toNat)
  case atStart => exact ⟨0, by omega, rfl, fun a k x y h => absurd h (by omega), S0.out, by simp, B0.out⟩
  case round =>
    clear s0 s1 s2 s3 s4 s5 B0 S0
    obtain ⟨i, hi, rfl, hp, h6, hz, hB⟩ := hrel
    obtain ⟨wo, rfl⟩ : ∃ wo, wo = wr := ⟨wr, rfl⟩
    have HP := Lib.hid hp
    have H6 := Lib.hid h6
    have HB2 := Lib.hid hB
    clear hp h6 hB
    by_cases hlt : i < n
    · obtain ⟨x, hx⟩ : ∃ x, gs[i]? = some x := ⟨gs[i]'(by have := Hn.out; omega), List.getElem?_eq_getElem _⟩
      have HX := Lib.hid hx
      clear hx
      go_wp2_with fail
      go_loopw [8] (fun vk wz => ∃ k : Nat, k ≤ i ∧ vk = .int .i64 k ∧ (∀ j y, j < k → gs[j]? = some y → meetB r x y = true) ∧ SixAt r w.heap.size wz ∧ w.heap.size < wz.heap.size ∧ Below w.heap.size w wz) (fun vk _ => i - (intOf vk).toNat)
      case atStart => exact ⟨0, by omega, rfl, fun j y h => absurd h (by omega), H6.out, hz, HB2.out⟩
      case round =>
        obtain ⟨k, hk, rfl, hq, h6, hz2, hB⟩ := hrel
        have HQ := Lib.hid hq
        by_cases hki : k < i
        · obtain ⟨y, hy⟩ : ∃ y, gs[k]? = some y := ⟨gs[k]'(by have := Hn.out; omega), List.getElem?_eq_getElem _⟩
          obtain ⟨a, ea, hab, hga⟩ := (hg.below hB).at_ i x HX.out
          obtain ⟨a', ea', hab', hga'⟩ := (hg.below hB).at_ k y hy
          have hp : (a.add (i * 4)).block < w.heap.size := by rw [block_add]; exact hab
          have hp' : (a'.add (k * 4)).block < w.heap.size := by rw [block_add]; exact hab'
          have L0 : Hid (LB r w (a.add (i * 4)) (a'.add (k * 4)) x y wr) := Lib.hid ⟨h6, hz2, hga.c0, hga.c1, hga.c2, hga.c3, hga'.c0, hga'.c1, hga'.c2, hga'.c3, hB⟩
          have hxf := hg.fits x (List.mem_of_getElem? HX.out)
          have hyf := hg.fits y (List.mem_of_getElem? hy)
          have hxc := hc x (List.mem_of_getElem? HX.out)
          have hyc := hc y (List.mem_of_getElem? hy)
          have HY := Lib.hid hy
          obtain rfl : a = a' := Option.some.inj (ea.symm.trans ea')
          subst ea
          clear hq h6 hB hga hga' hy ea'
          have z0 : (0 : Int) ≤ (k : Int) := by omega
          have z1 : (k : Int) < (n : Int) := by omega
          have z2 : (0 : Int) ≤ (i : Int) := by omega
          have z3 : (i : Int) < (n : Int) := by omega
          cases hv : meetB r x y with
          | true =>
            have HV := Lib.hid hv
            clear hv
            go_wp2_with fail
            go_region_held3 (fun u => LB r w (a.add (i * 4)) (a.add (k * 4)) x y u)
              (first | assumption | exact L0.out | exact L0.out.next hp hp' (below_drewN _ _ 1) | exact LB.next (by assumption) hp hp' hb2)
              (first
                | (go_at_call 116; refine (l01Meet_v r hr x y hxf hyf hxc hyc _ true HV.out).mono ?_; rintro o w2 ⟨rfl, hb2⟩)
                | fail)
            rename_i hS
            have HS := Lib.hid hS
            clear hS
            go_wp2_with fail
            go_roundw
            case rel => exact ⟨k + 1, by omega, by go_num, fun j z hj hz => by
              rcases Nat.lt_or_ge j k with h1 | h1
              · exact HQ.out j z h1 hz
              · obtain rfl : j = k := by omega
                have e := HY.out
                rw [hz] at e
                rw [Option.some.inj e]
                exact HV.out, HS.out.1, HS.out.2.1, HS.out.2.2.below⟩
            case measure => simp [intOf]; omega
          | false =>
            have HV := Lib.hid hv
            clear hv
            go_wp2_with fail
            go_region_held3 (fun u => LB r w (a.add (i * 4)) (a.add (k * 4)) x y u)
              (first | assumption | exact L0.out | exact L0.out.next hp hp' (below_drewN _ _ 1) | exact LB.next (by assumption) hp hp' hb2)
              (first
                | (go_at_call 116; refine (l01Meet_v r hr x y hxf hyf hxc hyc _ false HV.out).mono ?_; rintro o w2 ⟨rfl, hb2⟩)
                | fail)
            rename_i hS
            have HS := Lib.hid hS
            clear hS
            go_wp2_with fail
            go_ret
            refine ⟨?_, HS.out.2.2.below⟩
            have e : b = false := by
              cases eb : b with
              | false => rfl
              | true =>
                have h1 := (HB.out.1 eb).1 i k x y hki HX.out HY.out
                rw [HV.out] at h1
                cases h1
            rw [e]
            rfl
        · obtain rfl : k = i := by omega
          have H62 := Lib.hid h6
          have HB3 := Lib.hid hB
          clear h6 hB hq
          go_wp2_with fail
          go_roundw
          case rel => exact ⟨k + 1, by omega, by go_num, fun a j z y ha hj hz hy => by
            rcases Nat.lt_or_ge a k with h1 | h1
            · exact HP.out a j z y h1 hj hz hy
            · obtain rfl : a = k := by omega
              have e := HX.out
              rw [hz] at e
              rw [Option.some.inj e]
              exact HQ.out j y hj hy, H62.out, hz2, HB3.out⟩
          case measure => simp [intOf]; omega
    · obtain rfl : i = n := by omega
      have hbe : Hid (b = decide (wAll gs ≤ hold)) := Lib.hid (by
        have hpp : Pairs r gs := fun a k x y hk hx hy => HP.out a k x y (by have := (List.getElem?_eq_some_iff.1 hx).1; have := Hn.out; omega) hk hx hy
        rw [Bool.eq_iff_iff, HB.out]
        simp [hpp])
      go_wp2_with fail
      refine (l01Weight_any A i c gs Hn.out (by omega) _ w.heap.size (hg.below HB2.out)).mono ?_
      rintro o w2 ⟨rfl, rfl⟩
      go_wp2_with fail
      go_ret
      rw [hbe.out]
      exact ⟨rfl, HB2.out⟩
/-- the code of rules and garments, and whether numbers are as told -/
noncomputable def codeAsk (r : Nat → Int) (gs : List Gar) (fine : Bool) : Nat := if validRB r = true then codeAll gs fine else 1
theorem l01Rules_v (r : Nat → Int) (hr : Six r) (w : World) (v : Bool) (hv : validRB r = v) :
    Calls Tryd.prog 55 #[rulesV r] w fun e w' => e = .returned (.bool v) ∧ Below w.heap.size w w' := by
  subst hv
  exact rules.l01Rules_any r hr w
set_option maxHeartbeats 2000000 in
theorem l01Asked_any (r : Nat → Int) (hr : Six r) (A : Option Addr) (n c : Nat) (gs : List Gar) (hn : n = gs.length) (hs : n ≤ 1048576) (fine : Bool) (w : World) (hg : GS w w.heap.size A gs) (code : Nat) (hcode : code = codeAsk r gs fine) :
    Calls Tryd.prog 61 #[rulesV r, .slice A n c, .bool fine] w fun o w' => o = .returned (.int .i64 code) ∧ Below w.heap.size w w' := by
  have Hn := Lib.hid hn
  obtain ⟨s0, s1, s2, s3, s4, s5⟩ := SixAt.new r w 26
  have B0 := Lib.hid ((Below.refl w.heap.size w).alloc (Nat.le_refl _) (.cells (rulesCs r) 26))
  cases hv : validRB r with
  | true =>
    have HC : Hid (code = codeAll gs fine) := Lib.hid (by rw [hcode, codeAsk, if_pos hv])
    have HV := Lib.hid hv
    clear hn hcode hv
    go_enter Tryd.func61, Tryd.ntmps61
    go_wp2_with fail
    refine (l01Rules_v r hr _ true HV.out).mono ?_
    rintro o w1 ⟨rfl, hb1⟩
    have B1 := Lib.hid (below_next B0.out hb1 (Nat.le_refl _))
    clear hb1
    go_wp2_with fail
    refine (l01All_any A n c gs Hn.out hs fine _ ((hg.below B1.out).more B1.out.size)).mono ?_
    rintro o w2 ⟨rfl, hb2⟩
    have B2 := Lib.hid (below_next B1.out hb2 (Nat.le_refl _))
    clear hb2
    go_wp2_with fail
    go_ret
    rw [HC.out]
    exact ⟨rfl, B2.out⟩
  | false =>
    have HC : Hid (code = 1) := Lib.hid (by rw [hcode, codeAsk, if_neg (by rw [hv]; decide)])
    have HV := Lib.hid hv
    clear hn hcode hv
    go_enter Tryd.func61, Tryd.ntmps61
    go_wp2_with fail
    refine (l01Rules_v r hr _ false HV.out).mono ?_
    rintro o w1 ⟨rfl, hb1⟩
    have B1 := Lib.hid (below_next B0.out hb1 (Nat.le_refl _))
    clear hb1
    go_wp2_with fail
    go_ret
    rw [HC.out]
    exact ⟨rfl, B1.out⟩
theorem l01Hold_any (hold : Int) (w : World) (b : Bool) (hb : b = true ↔ (1 ≤ hold ∧ hold ≤ 20000)) :
    Calls Tryd.prog 62 #[.int .i64 hold] w fun o w' => o = .returned (.bool b) ∧ w' = w := by
  have e : b = hang.inB hold 1 20000 := by
    rw [Bool.eq_iff_iff, hb]
    exact hang.inB_iff.symm
  subst e
  go_enter Tryd.func62, Tryd.ntmps62
  go_wp2_with fail
  refine (hang.l00In_any _ _ _ _).mono ?_
  rintro o w1 ⟨rfl, rfl⟩
  go_wp2_with fail
  go_ret
  exact ⟨rfl, rfl⟩
end Go.Proofs.YtekigapeekjigaaDoor.load
