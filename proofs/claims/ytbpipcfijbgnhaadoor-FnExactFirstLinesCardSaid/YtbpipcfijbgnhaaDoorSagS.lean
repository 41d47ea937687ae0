/-
  Contract of the model's function that tells how a line sags.
-/
import Derived.Test.YtbpipcfijbgnhaaDoorSag
namespace Go.Proofs.YtbpipcfijbgnhaaDoor.hang
open Go.RowKit sl errs

set_option maxRecDepth 100000 in
set_option maxHeartbeats 4000000 in
theorem l02Sag_any (l : Lin) (hl : l.Fits) (hlv : Lin.valid l = true) (A : Option Addr) (n c : Nat) (xs : List Clo) (en : n = xs.length) (hn : n ≤ 1048576) (hv : ∀ x ∈ xs, Clo.valid x = true) (hf : ∀ x ∈ xs, x.Fits) (hfit : (hung xs).fin ≤ l.long) (w : World) (hg : Sl Clo.cells 2 w w.heap.size A xs) :
    Calls Tryd.prog 68 #[l.v, .slice A n c] w fun o w' => o = .returned (.int .i64 (sagL l xs)) ∧ Below w.heap.size w w' := by
  have En := Lib.hid en
  clear en
  have S0 := Lib.hid (FitS.new l w 47)
  have c0 := S0.out.c0
  obtain ⟨l0, l1, l2, l3⟩ := lin_parts hlv
  go_enter Tryd.func68, Tryd.ntmps68
  go_wp2_with fail
  refine (l02Places_any A n c xs En.out hn hv hf _ ((hg.below S0.out.b).more S0.out.b.size)).mono ?_
  rintro o w1 ⟨v, rfl, hP, hb⟩
  have S1 := Lib.hid (S0.out.next hb)
  obtain ⟨A', c', rfl, _⟩ := owns_slice hP
  have SP := Lib.hid (Sl.of_owns hP (intS.len _) (by decide))
  clear hP hb c0
  go_wp2_with fail
  go_loopw [5, 9, 10] (fun vs vi _ wr => ∃ k : Nat, k ≤ n ∧ vi = .int .i64 k ∧ (∃ y : Int, vs = .int .i64 y ∧ y = sagL l (xs.take k)) ∧ Below w1.heap.size w1 wr) (fun _ vi _ _ => n - (intOf vi).toNat)
  case atStart => exact ⟨0, by omega, rfl, ⟨0, rfl, rfl⟩, Below.refl _ _⟩
  case round =>
    obtain ⟨k, hk, rfl, ⟨y, rfl, hy⟩, hB⟩ := hrel
    have HY := Lib.hid hy
    clear hy
    have hb := S1.out.b.trans (hB.mono S1.out.b.size)
    by_cases hlt : k < n
    · obtain ⟨x, hx⟩ : ∃ x, xs[k]? = some x := ⟨xs[k]'(by have := En.out; omega), List.getElem?_eq_getElem _⟩
      obtain ⟨a, rfl, hab, hat⟩ := (hg.below hb).at_ k x hx
      obtain ⟨q0, q1⟩ := cloS.at_ hat
      obtain ⟨p, hp⟩ : ∃ p, (hung (xs.take k)).place x = p := ⟨_, rfl⟩
      have hpl := places_get hx
      rw [hp] at hpl
      obtain ⟨a', rfl, hab', hat'⟩ := (SP.out.below hB).at_ k p hpl
      have r0 := intS.at_ hat'
      obtain ⟨p0, p1, t0, t1⟩ := sag_bd hx hlv hv hfit
      obtain ⟨y0, y1⟩ := sagL_bd l xs k hlv hv hfit
      rw [← HY.out] at y0 y1
      rw [hp] at p0 p1
      have HT := Lib.hid (sag_take (l := l) hx)
      rw [sag_term l _ x p hp] at t0 t1
      have HS := Lib.hid (sag_term l _ x p hp)
      obtain ⟨x0, x1, x2, x3⟩ := clo_parts (hv x (List.mem_of_getElem? hx))
      obtain ⟨m, hm⟩ : ∃ m, 2 * p + x.wide = m := ⟨_, rfl⟩
      rw [hm] at t0 t1
      have HM := Lib.hid hm
      have m0 : 0 ≤ m := by omega
      have m1 : m ≤ 2 * l.long := by omega
      clear hpl hx hat hat' hp hm
      have w1' : IntKind.i64.wrap (2 * p) = 2 * p := IntWalk.i64_in _ (by omega)
      have w2' : IntKind.i64.wrap (2 * p + x.wide) = m := by rw [HM.out]; exact IntWalk.i64_in _ (by omega)
      have w3' : IntKind.i64.wrap x.wide = x.wide := IntWalk.i64_in _ (by omega)
      go_wp2_with fail
      go_quiet (fail)
      go_wp2_with fail
      clear w1' w2' w3'
      have hB2 := hB.trans (below_drewN w1.heap.size wr nq)
      have q1' : (wr.drewN nq).cell? ⟨(a.add (k * 2)).block, (a.add (k * 2)).off + 1, none⟩ = some (.int .i16 x.heavy) := q1
      clear hB q0 q1 r0 hb
      generalize wr.drewN nq = wz at hB2 q1' ⊢
      obtain ⟨d, hd⟩ : ∃ d, min m (2 * l.long - m) = d := ⟨_, rfl⟩
      rw [hd] at t0 t1
      have d0 : 0 ≤ d := by omega
      have d1 : d ≤ 4000 := by omega
      have HD := Lib.hid hd
      clear hd
      have hp0 : 0 ≤ x.heavy * d := Int.mul_nonneg (by omega) d0
      have hp1 : x.heavy * d ≤ 500 * 4000 := Int.mul_le_mul x3 d1 d0 (by omega)
      obtain ⟨u, hu⟩ : ∃ u, x.heavy * d = u := ⟨_, rfl⟩
      rw [hu] at t0 t1 hp0 hp1
      obtain ⟨q, hq⟩ : ∃ q, u / (2 * l.long) = q := ⟨_, rfl⟩
      rw [hq] at t0 t1
      have HU := Lib.hid hu
      have HQ := Lib.hid hq
      have hne : 2 * l.long ≠ 0 := by omega
      have wa : IntKind.i64.wrap x.heavy = x.heavy := IntWalk.i64_in _ (by omega)
      have wb : IntKind.i64.wrap (2 * l.long - m) = 2 * l.long - m := IntWalk.i64_in _ (by omega)
      have wc : IntKind.i64.wrap (x.heavy * d) = u := by rw [hu]; exact IntWalk.i64_in _ (by omega)
      have wd : u.tdiv (2 * l.long) = q := by rw [Int.tdiv_eq_ediv_of_nonneg hp0]; exact hq
      have we : IntKind.i64.wrap q = q := IntWalk.i64_in _ (by omega)
      have wf : IntKind.i64.wrap (y + q) = y + q := IntWalk.i64_in _ (by omega)
      clear hu hq
      go_quiet ((go_at_call 87; exact Calls.quiet_of_same (l00Min_v _ _ _ HD.out _)))
      clear wa wb wc wd we wf
      go_wp2_with fail
      go_roundw
      case rel => exact ⟨k + 1, by omega, by go_num, ⟨_, rfl, by rw [HT.out, HS.out, HM.out, HD.out, HU.out, HQ.out, ← HY.out]⟩, hB2.trans (below_drewN _ _ _)⟩
      case measure => simp [intOf]; omega
    · have e : xs.take k = xs := List.take_of_length_le (by have := En.out; omega)
      have hy2 : y = sagL l xs := by rw [HY.out, e]
      have HY2 := Lib.hid hy2
      have HB := Lib.hid hb
      clear hy2 e hb
      go_wp2_with fail
      go_ret
      exact ⟨ret_int HY2.out, HB.out⟩
end Go.Proofs.YtbpipcfijbgnhaaDoor.hang
