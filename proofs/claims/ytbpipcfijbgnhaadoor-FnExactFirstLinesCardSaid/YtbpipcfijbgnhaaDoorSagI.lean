/-
  Contract of the program's function that tells how a line sags.
-/
import Derived.Test.YtbpipcfijbgnhaaDoorSag
namespace Go.Proofs.YtbpipcfijbgnhaaDoor.hang
open Go.RowKit sl errs

theorem sag_wrap {y h v p L : Int} (p0 : 0 ≤ p) (p1 : p + v ≤ L) (v0 : 4 ≤ v) (v1 : v ≤ 200) (h0 : 1 ≤ h) (h1 : h ≤ 500) (hL : L ≤ 2000) (y0 : 0 ≤ y) (y1 : y ≤ 500000000) :
    wrap64 (y + wrap64 ((wrap64 (h * if 2 * L - (2 * p + v) < 2 * p + v then 2 * L - (2 * p + v) else 2 * p + v)).tdiv (2 * L))) = y + h * min (2 * p + v) (2 * L - (2 * p + v)) / (2 * L) := by
  have e : (if 2 * L - (2 * p + v) < 2 * p + v then 2 * L - (2 * p + v) else 2 * p + v) = min (2 * p + v) (2 * L - (2 * p + v)) := by omega
  rw [e]
  obtain ⟨d, hd⟩ : ∃ d, min (2 * p + v) (2 * L - (2 * p + v)) = d := ⟨_, rfl⟩
  rw [hd]
  have d0 : 0 ≤ d := by omega
  have d1 : d ≤ 4000 := by omega
  have a0 : 0 ≤ h * d := Int.mul_nonneg (by omega) d0
  have a1 : h * d ≤ 500 * 4000 := Int.mul_le_mul h1 d1 d0 (by omega)
  have w0 : wrap64 (h * d) = h * d := IntWalk.wrap64_in _ (by omega)
  rw [w0, Int.tdiv_eq_ediv_of_nonneg a0]
  have b0 : 0 ≤ h * d / (2 * L) := Int.ediv_nonneg a0 (by omega)
  have b1 : h * d / (2 * L) ≤ h * d := Int.ediv_le_self _ a0
  have w1 : wrap64 (h * d / (2 * L)) = h * d / (2 * L) := IntWalk.wrap64_in _ (by omega)
  rw [w1]
  exact IntWalk.wrap64_in _ (by omega)
set_option maxRecDepth 100000 in
set_option maxHeartbeats 4000000 in
theorem sagOf_any (l : Lin) (hl : l.Fits) (hlv : Lin.valid l = true) (A : Option Addr) (n c : Nat) (xs : List Clo) (en : n = xs.length) (hn : n ≤ 1000000) (hv : ∀ x ∈ xs, Clo.valid x = true) (hf : ∀ x ∈ xs, x.Fits) (hfit : (hung xs).fin ≤ l.long) (w : World) (hg : Sl Clo.cells 2 w w.heap.size A xs) :
    Calls Tryd.prog 69 #[l.v, .slice A n c] w fun o w' => o = .returned (.int .i64 (sagL l xs)) ∧ Below w.heap.size w w' := by
  have En := Lib.hid en
  have ho := ok_valid hv hf (by omega)
  clear en
  have S0 := Lib.hid (FitS.new l w 47)
  obtain ⟨l0, l1, l2, l3⟩ := lin_parts hlv
  go_enter Tryd.func69, Tryd.ntmps69
  go_wp2_with fail
  refine (hanger_any _).mono ?_
  rintro o w1 ⟨rfl, hK, hb⟩
  have S1 := Lib.hid (S0.out.next hb)
  have eb : (w.alloc (.cells #[.int .i16 l.long, .int .i16 l.most] 47)).heap.size = w.heap.size + 1 := by simp
  rw [eb] at hK
  have HK := Lib.hid hK
  have hb0 : Below (w.heap.size + 1) (w.alloc (.cells #[.int .i16 l.long, .int .i16 l.most] 47)) w1 := by rw [← eb]; exact hb
  have c0 := S1.out.c0
  clear hK hb eb
  go_wp2_with fail
  go_loopw [20, 6] (fun vi vs wr => ∃ k : Nat, k ≤ n ∧ vi = .int .i64 k ∧ (∃ y : Int, vs = .int .i64 y ∧ y = sagL l (xs.take k)) ∧ HangAt wr (w.heap.size + 1) (hung (xs.take k)) ∧ Below w.heap.size w wr) (fun vi _ _ => n - (intOf vi).toNat)
  case atStart => exact ⟨0, by omega, rfl, ⟨0, rfl, rfl⟩, HK.out, S1.out.b⟩
  case round =>
    clear HK hb0
    obtain ⟨k, hk, rfl, ⟨y, rfl, hy⟩, hK, hB⟩ := hrel
    have HY := Lib.hid hy
    clear hy
    by_cases hlt : k < n
    · obtain ⟨x, hx⟩ : ∃ x, xs[k]? = some x := ⟨xs[k]'(by have := En.out; omega), List.getElem?_eq_getElem _⟩
      obtain ⟨a, rfl, hab, hat⟩ := (hg.below hB).at_ k x hx
      obtain ⟨q0, q1⟩ := cloS.at_ hat
      have hxf : x.Fits := ho.f x (List.mem_of_getElem? hx)
      have hF := ho.fine k (by have := En.out; omega)
      have HU := Lib.hid (hung_take hx)
      obtain ⟨p, hp⟩ : ∃ p, (hung (xs.take k)).place x = p := ⟨_, rfl⟩
      obtain ⟨p0, p1, t0, t1⟩ := sag_bd hx hlv hv hfit
      obtain ⟨y0, y1⟩ := sagL_bd l xs k hlv hv hfit
      rw [← HY.out] at y0 y1
      rw [hp] at p0 p1
      have HT := Lib.hid (sag_take (l := l) hx)
      rw [sag_term l _ x p hp] at t0 t1
      have HS := Lib.hid (sag_term l _ x p hp)
      obtain ⟨x0, x1, x2, x3⟩ := clo_parts (hv x (List.mem_of_getElem? hx))
      have HP := Lib.hid hp
      have HK := Lib.hid hK
      have hBs := hB.size
      have hKl := hK.lt
      clear hx hat hK hp
      go_wp2_with fail
      refine (hang_any x hxf (w.heap.size + 1) _ hF _ (HK.out.keep (S := fun _ => False) ((Keeps.refl _ _).alloc _) (fun i hi => hi.elim))).mono ?_
      rintro o w2 ⟨rfl, hK2, hk2⟩
      rw [HP.out]
      rw [← HU.out] at hK2
      have HK2 := Lib.hid hK2
      have hB2 := (hB.alloc hB.size _).trans (hk2.below (by have := hB.size; simp; omega) (hangS_below (by omega)))
      have z0 := box_keeps hk2 (by rintro (h | h) <;> omega) 0
      have z1 := box_keeps hk2 (by rintro (h | h) <;> omega) 1
      simp only [List.getElem?_toArray, List.getElem?_cons_zero, List.getElem?_cons_succ] at z0 z1
      clear q0 q1 hK2 hk2 hF
      go_wp2_with fail
      go_roundw
      case rel => exact ⟨k + 1, by omega, by go_num, ⟨_, rfl, by rw [HT.out, HS.out, ← HY.out]; exact sag_wrap p0 p1 x0 x1 x2 x3 l1 y0 (by omega)⟩, HK2.out, hB2⟩
      case measure => simp [intOf]; omega
    · have e : xs.take k = xs := List.take_of_length_le (by have := En.out; omega)
      have hy2 : y = sagL l xs := by rw [HY.out, e]
      have HY2 := Lib.hid hy2
      have HB := Lib.hid hB
      clear hy2 e hB hK
      go_wp2_with fail
      go_ret
      exact ⟨ret_int HY2.out, HB.out⟩
end Go.Proofs.YtbpipcfijbgnhaaDoor.hang
