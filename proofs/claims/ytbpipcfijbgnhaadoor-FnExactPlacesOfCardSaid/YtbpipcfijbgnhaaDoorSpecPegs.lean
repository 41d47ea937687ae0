/-
  Contracts of the model's functions that hang cloths: pegs, places, width.
-/
import Derived.Test.YtbpipcfijbgnhaaDoorCPegsFor
namespace Go.Proofs.YtbpipcfijbgnhaaDoor.hang
open Go.RowKit sl errs

theorem last_take {xs : List Clo} {j : Nat} {p : Clo} (hp : xs[j]? = some p) : (hung (xs.take (j + 1))).last = some p := by
  rw [hung_last, take_snoc hp]
  simp
/-- two cloths lie in memory, and nothing old is changed -/
abbrev Pair (p p' : Addr) (x y : Clo) (W u : World) : Prop := cloS.Both p p' x y W u

theorem l02Share_v (a b : Clo) (ha : a.Fits) (hb : b.Fits) (v : Bool) (hv : shares a b = v) (w : World) :
    Calls Tryd.prog 48 #[a.v, b.v] w fun o w' => o = .returned (.bool v) ∧ Below w.heap.size w w' := by
  subst hv
  exact l02Share_any a b ha hb w
theorem peg_step {xs : List Clo} {j : Nat} {p x : Clo} (hp : (hung (xs.take (j + 1))).last = some p) (hx : hung (xs.take (j + 1 + 1)) = (hung (xs.take (j + 1))).step x) (b : Bool) (hs : shares p x = b) :
    (hung (xs.take (j + 1 + 1))).pegs = (hung (xs.take (j + 1))).pegs + (if b = true then 1 else 2) := by
  rw [hx]
  show _ + pegOf (hung (xs.take (j + 1))).last x = _
  rw [hp]
  show _ + (if shares p x = true then (1 : Int) else 2) = _
  rw [hs]
set_option maxHeartbeats 4000000 in
theorem l02Pegs_some (A : Option Addr) (n c : Nat) (xs : List Clo) (en : n = xs.length) (h1 : 1 ≤ n) (hn : n ≤ 1048576) (hf : ∀ x ∈ xs, x.Fits) (w : World) (hg : Sl Clo.cells 2 w w.heap.size A xs) :
    Calls Tryd.prog 53 #[.slice A n c] w fun e w' => e = .returned (.int .i64 (hung xs).pegs) ∧ Below w.heap.size w w' := by
  have En := Lib.hid en
  clear en
  have H2 : (hung (xs.take 1)).pegs = 2 := by
    obtain ⟨x, hx⟩ : ∃ x, xs[0]? = some x := ⟨xs[0]'(by have := En.out; omega), List.getElem?_eq_getElem _⟩
    rw [hung_take hx]
    rfl
  have HS := Lib.hid H2
  clear H2
  go_enter Tryd.func53, Tryd.ntmps53
  go_wp2_with fail
  go_loopw [4, 3] (fun vi vs wr => ∃ j : Nat, j + 1 ≤ n ∧ vi = .int .i64 ((j : Int) + 1) ∧ (∃ z : Int, vs = .int .i64 z ∧ z = 2 * n - 2 * (j + 1) + (hung (xs.take (j + 1))).pegs ∧ 0 ≤ z ∧ z ≤ 2 * n) ∧ Below w.heap.size w wr) (fun vi _ _ => n - (intOf vi).toNat)
  case atStart => exact ⟨0, by omega, rfl, ⟨_, rfl, by rw [HS.out]; omega, by omega, by omega⟩, Below.refl _ _⟩
  case round =>
    clear HS
    obtain ⟨j, hk, rfl, ⟨z, rfl, hz, z0, z1⟩, hB⟩ := hrel
    have HZ := Lib.hid hz
    clear hz
    by_cases hlt : j + 1 < n
    · obtain ⟨p, hp⟩ : ∃ x, xs[j]? = some x := ⟨xs[j]'(by have := En.out; omega), List.getElem?_eq_getElem _⟩
      obtain ⟨x, hx⟩ : ∃ x, xs[j + 1]? = some x := ⟨xs[j + 1]'(by have := En.out; omega), List.getElem?_eq_getElem _⟩
      obtain ⟨a, rfl, hab, hatp⟩ := (hg.below hB).at_ j p hp
      obtain ⟨a', e', hab', hatx⟩ := (hg.below hB).at_ (j + 1) x hx
      obtain rfl := Option.some.inj e'
      obtain ⟨q0, q1⟩ := cloS.at_ hatp
      obtain ⟨r0, r1⟩ := cloS.at_ hatx
      have hpf : p.Fits := hf p (List.mem_of_getElem? hp)
      have hxf : x.Fits := hf x (List.mem_of_getElem? hx)
      have HT := Lib.hid (hung_take hx)
      have HL := Lib.hid (last_take hp)
      have hb1 : (a.add (j * 2)).block < w.heap.size := by rw [block_add]; exact hab
      have hb2 : (a.add ((j + 1) * 2)).block < w.heap.size := by rw [block_add]; exact hab
      have h8 : Pair (a.add (j * 2)) (a.add ((j + 1) * 2)) p x w wr := ⟨q0, q1, r0, r1, hB⟩
      have H8 := Lib.hid h8
      have wj : IntKind.i64.wrap (j : Int) = (j : Int) := IntWalk.i64_in _ (by omega)
      have wo : (0 : Int) ≤ (j : Int) + 1 := by omega
      have wk : (0 : Int) ≤ (j : Int) := by omega
      have wl : (j : Int) < (n : Int) := by omega
      have wm : (j : Int) + 1 < (n : Int) := by omega
      have wn : ((j : Int) + 1).toNat = j + 1 := by omega
      clear h8 hp hx hatp hatx
      cases hs : shares p x with
      | true =>
        have HS := Lib.hid hs
        clear hs
        go_wp2_with fail
        go_region_held3 (fun u => u.cell? (a.add (j * 2)) = some (.int .i16 p.wide) ∧ u.cell? ⟨(a.add (j * 2)).block, (a.add (j * 2)).off + 1, none⟩ = some (.int .i16 p.heavy) ∧ u.cell? (a.add ((j + 1) * 2)) = some (.int .i16 x.wide) ∧ u.cell? ⟨(a.add ((j + 1) * 2)).block, (a.add ((j + 1) * 2)).off + 1, none⟩ = some (.int .i16 x.heavy) ∧ Below w.heap.size w u)
          (first | exact H8.out.next hb1 hb2 (below_drewN _ wr 1) | exact cloS.Both.next (by assumption) hb1 hb2 hb3)
          (first | (go_at_call 48; refine (l02Share_v p x hpf hxf true HS.out _).mono ?_; rintro e w2 ⟨rfl, hb3⟩) | fail)
        rename_i hS
        have hB3 := cloS.Both.below (p := a.add (j * 2)) (p' := a.add ((j + 1) * 2)) (x := p) (y := x) hS
        clear hS wj
        go_wp2_with fail
        go_roundw
        case rel =>
          have hp := peg_step HL.out HT.out _ HS.out
          simp only [Bool.false_eq_true, if_true, if_false] at hp
          have bd := hung_bd0 (xs.take (j + 1 + 1))
          have hl : ((xs.take (j + 1 + 1)).length : Int) ≤ j + 1 + 1 := by have := List.length_take_le (j + 1 + 1) xs; omega
          have hz := HZ.out
          refine ⟨j + 1, by omega, by go_num, ⟨_, rfl, ?_, ?_, ?_⟩, hB3⟩
          all_goals (have e9 : ((j + 1 : Nat) : Int) = (j : Int) + 1 := by omega); omega
        case measure => simp [intOf]; omega
      | false =>
        have HS := Lib.hid hs
        clear hs
        go_wp2_with fail
        go_region_held3 (fun u => u.cell? (a.add (j * 2)) = some (.int .i16 p.wide) ∧ u.cell? ⟨(a.add (j * 2)).block, (a.add (j * 2)).off + 1, none⟩ = some (.int .i16 p.heavy) ∧ u.cell? (a.add ((j + 1) * 2)) = some (.int .i16 x.wide) ∧ u.cell? ⟨(a.add ((j + 1) * 2)).block, (a.add ((j + 1) * 2)).off + 1, none⟩ = some (.int .i16 x.heavy) ∧ Below w.heap.size w u)
          (first | exact H8.out.next hb1 hb2 (below_drewN _ wr 1) | exact cloS.Both.next (by assumption) hb1 hb2 hb3)
          (first | (go_at_call 48; refine (l02Share_v p x hpf hxf false HS.out _).mono ?_; rintro e w2 ⟨rfl, hb3⟩) | fail)
        rename_i hS
        have hB3 := cloS.Both.below (p := a.add (j * 2)) (p' := a.add ((j + 1) * 2)) (x := p) (y := x) hS
        clear hS wj
        go_wp2_with fail
        go_roundw
        case rel =>
          have hp := peg_step HL.out HT.out _ HS.out
          simp only [Bool.false_eq_true, if_true, if_false] at hp
          have bd := hung_bd0 (xs.take (j + 1 + 1))
          have hl : ((xs.take (j + 1 + 1)).length : Int) ≤ j + 1 + 1 := by have := List.length_take_le (j + 1 + 1) xs; omega
          have hz := HZ.out
          refine ⟨j + 1, by omega, by go_num, ⟨_, rfl, ?_, ?_, ?_⟩, hB3⟩
          all_goals (have e9 : ((j + 1 : Nat) : Int) = (j : Int) + 1 := by omega); omega
        case measure => simp [intOf]; omega
    · go_wp2_with fail
      go_ret
      have e : j + 1 = n := by omega
      have e2 : xs.take (j + 1) = xs := List.take_of_length_le (by have := En.out; omega)
      have e3 := HZ.out
      rw [e2] at e3
      exact ⟨ret_int (by omega), hB⟩
set_option maxHeartbeats 2000000 in
theorem l02Pegs_nil (A : Option Addr) (c : Nat) (w : World) :
    Calls Tryd.prog 53 #[.slice A 0 c] w fun e w' => e = .returned (.int .i64 0) ∧ w = w' := by
  go_enter Tryd.func53, Tryd.ntmps53
  go_wp2_with fail
  refine wp_loop_rounds 1 ?_
  rw [rounds_succ]
  go_wp2_with fail
  go_ret
  exact ⟨rfl, rfl⟩
theorem l02Pegs_any (A : Option Addr) (n c : Nat) (xs : List Clo) (en : n = xs.length) (hn : n ≤ 1048576) (hf : ∀ x ∈ xs, x.Fits) (w : World) (hg : Sl Clo.cells 2 w w.heap.size A xs) :
    Calls Tryd.prog 53 #[.slice A n c] w fun e w' => e = .returned (.int .i64 (hung xs).pegs) ∧ Below w.heap.size w w' := by
  rcases Nat.eq_zero_or_pos n with h0 | h1
  · subst h0
    have e : xs = [] := List.length_eq_zero_iff.1 en.symm
    subst e
    refine (l02Pegs_nil A c w).mono ?_
    rintro e w' ⟨rfl, rfl⟩
    exact ⟨rfl, Below.refl _ _⟩
  · exact l02Pegs_some A n c xs en h1 hn hf w hg
set_option maxHeartbeats 2000000 in
theorem PegsFor_spec (A : Option Addr) (n c : Nat) (xs : List Clo) (en : n = xs.length) (hn : n ≤ 1048576) (hf : ∀ x ∈ xs, x.Fits) (w : World) (hg : Sl Clo.cells 2 w w.heap.size A xs) :
    Calls Tryd.prog 17 #[.slice A n c] w fun o w' => o = .returned (tup2 (resOf (codeMany xs 100) (hung xs).pegs)) ∧ Below w.heap.size w w' := by
  obtain ⟨k0, hk0⟩ : ∃ k, k = codeMany xs 100 := ⟨_, rfl⟩
  rw [← hk0]
  have HK := Lib.hid hk0
  have En := Lib.hid en
  clear hk0 en
  cases k0 with
  | zero =>
    rw [resOf_zero _ rfl]
    go_enter Tryd.func17, Tryd.ntmps17
    go_wp2_with fail
    refine (l02Many_any A n c 100 xs En.out (by omega) (by omega) hf _ _ hg 0 HK.out).mono ?_
    rintro o w1 ⟨rfl, rfl⟩
    go_wp2_with fail
    refine (l02Pegs_any A n c xs En.out hn hf _ hg).mono ?_
    rintro o w1 ⟨rfl, hb⟩
    go_wp2_with fail
    go_ret2
    exact ⟨rfl, hb⟩
  | succ i =>
    rw [resOf_some _ (by omega)]
    have hne : (((i + 1 : Nat) : Int) != 0) = true := by rw [bne_iff_ne]; omega
    have hne2 : (((i : Int) + 1) != 0) = true := by rw [bne_iff_ne]; omega
    go_enter Tryd.func17, Tryd.ntmps17
    go_wp2_with fail
    refine (l02Many_any A n c 100 xs En.out (by omega) (by omega) hf _ _ hg (i + 1) HK.out).mono ?_
    rintro o w1 ⟨rfl, rfl⟩
    go_wp2_with fail
    go_ret2
    exact ⟨by simp, Below.refl _ _⟩
end Go.Proofs.YtbpipcfijbgnhaaDoor.hang
