/-
  Contracts of the functions that hang all cloths of a list: pegs, width, weight.
-/
import Derived.Test.YtbpipcfijbgnhaaDoorHang
namespace Go.Proofs.YtbpipcfijbgnhaaDoor.hang
open Go.RowKit sl

theorem HangAt.congr {w : World} {b : Nat} {h h' : Hung} (k : HangAt w b h) (hl : lastClo h' = lastClo h) (hf : h'.fin = h.fin) : HangAt w b h' := by
  obtain ⟨k0, k1, k2⟩ := k
  exact ⟨by rw [hl]; exact k0, k1, by rw [hf]; exact k2⟩
/-- what hangs is as a closure may find it -/
structure Fine (h : Hung) : Prop where
  l : ∀ d, h.last = some d → d.Fits ∧ 1 ≤ d.wide
  z : h.last = none → h.fin = 0
  lo : -1000000000 ≤ h.fin
  hi : h.fin ≤ 1000000000
theorem hang_any (c : Clo) (hc : c.Fits) (b : Nat) (h : Hung) (hF : Fine h) (w : World) (hH : HangAt w b h) :
    Calls Tryd.prog 91 #[c.v, .pointer (some ⟨b, 0, none⟩), .pointer (some ⟨b + 1, 0, none⟩), .pointer (some ⟨b + 1 + 1, 0, none⟩)] w fun o w' =>
      o = .returned (.tuple #[.int .i64 (h.place c), .int .i64 (pegOf h.last c)]) ∧ HangAt w' b (h.step c) ∧ Keeps (hangS b) w w' := by
  cases hl : h.last with
  | none =>
    refine (hang_first c hc b h hl w hH).mono ?_
    rintro o w' ⟨rfl, k, kk⟩
    have e : h.place c = 0 := by simp [Hung.place, hl, hF.z hl, gapOf]
    refine ⟨by rw [e]; rfl, k.congr rfl (by simp [Hung.step, e]), kk⟩
  | some d =>
    obtain ⟨hd, hw⟩ := hF.l d hl
    cases hs : shares d c with
    | true =>
      refine (hang_shared c d hc hd hw hs b h.fin ⟨hF.lo, hF.hi⟩ h hl rfl w hH).mono ?_
      rintro o w' ⟨rfl, k, kk⟩
      have e : h.place c = h.fin - 2 := by simp [Hung.place, hl, gapOf, hs]; omega
      refine ⟨by rw [e]; simp [pegOf, hs], k.congr rfl (by simp [Hung.step, e]), kk⟩
    | false =>
      refine (hang_apart c d hc hd hw hs b h.fin ⟨hF.lo, hF.hi⟩ h hl rfl w hH).mono ?_
      rintro o w' ⟨rfl, k, kk⟩
      have e : h.place c = h.fin + 1 := by simp [Hung.place, hl, gapOf, hs]
      refine ⟨by rw [e]; simp [pegOf, hs], k.congr rfl (by simp [Hung.step, e]), kk⟩
/-- a beginning of valid cloths -/
theorem fine_take {xs : List Clo} (hv : ∀ x ∈ xs, Clo.valid x = true) (hf : ∀ x ∈ xs, x.Fits) (hn : xs.length ≤ 1000000) (k : Nat) : Fine (hung (xs.take k)) := by
  have hv' : ∀ x ∈ xs.take k, Clo.valid x = true := fun x hx => hv x (List.mem_of_mem_take hx)
  obtain ⟨h0, h1, _, _, _⟩ := hung_bd (xs.take k) hv'
  have hl : (xs.take k).length ≤ xs.length := by rw [List.length_take]; omega
  refine ⟨fun d hd => ?_, fun h => ?_, by omega, by omega⟩
  · rw [hung_last] at hd
    have hm := List.mem_of_mem_take (List.mem_of_getLast? hd)
    exact ⟨hf d hm, by have := (clo_parts (hv d hm)).1; omega⟩
  · rw [hung_last, List.getLast?_eq_none_iff] at h
    rw [h]
    rfl
theorem hangS_below {b B : Nat} (hb : B ≤ b) : ∀ k, hangS b k → B ≤ k := fun k hk => by rcases hk with rfl | rfl <;> omega

/-- a list that the program may hang: each beginning is fine -/
structure Ok (xs : List Clo) : Prop where
  f : ∀ x ∈ xs, x.Fits
  fine : ∀ k, k < xs.length → Fine (hung (xs.take k))
theorem ok_valid {xs : List Clo} (hv : ∀ x ∈ xs, Clo.valid x = true) (hf : ∀ x ∈ xs, x.Fits) (hn : xs.length ≤ 1000000) : Ok xs := ⟨hf, fun k _ => fine_take hv hf hn k⟩
theorem fine_none : Fine Hung.none := ⟨(fun d (hd : (none : Option Clo) = some d) => nomatch hd), fun _ => rfl, by decide, by decide⟩
theorem ok_one {x : Clo} (hf : x.Fits) : Ok [x] :=
  ⟨fun y hy => by rw [List.mem_singleton.1 hy]; exact hf, fun k hk => by
    have : k = 0 := by simpa using hk
    subst this
    exact fine_none⟩
theorem hung_bd0 (xs : List Clo) : (xs.length : Int) ≤ (hung xs).pegs ∧ (hung xs).pegs ≤ 2 * xs.length := by
  induction xs using snoc_ind with
  | h0 => exact ⟨by decide, by decide⟩
  | h1 xs x ih =>
    have p := peg_bd (hung xs).last x
    have e : ((xs ++ [x]).length : Int) = xs.length + 1 := by simp
    have e3 : (hung (xs ++ [x])).pegs = (hung xs).pegs + pegOf (hung xs).last x := by rw [hung_snoc]; rfl
    rw [e3, e]
    omega
theorem box_keeps {S : Nat → Prop} {w w2 : World} {cs : Array Value} {t : TypeId} (hk : Keeps S (w.alloc (.cells cs t)) w2) (hs : ¬ S w.heap.size) (i : Nat) : w2.cell? ⟨w.heap.size, i, none⟩ = cs[i]? :=
  cell_of_row _ _ _ _ _ _ ((hk.block _ (by simp) hs).trans (heap_alloc_new w _))
set_option maxHeartbeats 4000000 in
theorem pegsFor_any (A : Option Addr) (n c : Nat) (xs : List Clo) (en : n = xs.length) (hn : n ≤ 1048576) (ho : Ok xs) (w : World) (hg : Sl Clo.cells 2 w w.heap.size A xs) :
    Calls Tryd.prog 56 #[.slice A n c] w fun e w' => e = .returned (.int .i64 (hung xs).pegs) ∧ Below w.heap.size w w' := by
  have En := Lib.hid en
  clear en
  go_enter Tryd.func56, Tryd.ntmps56
  go_wp2_with fail
  refine (hanger_any w).mono ?_
  rintro o w1 ⟨rfl, hK, hb⟩
  have HK := Lib.hid hK
  clear hK
  go_wp2_with fail
  go_loopw [12, 4] (fun vi vs wr => ∃ k : Nat, k ≤ n ∧ vi = .int .i64 k ∧ vs = .int .i64 (hung (xs.take k)).pegs ∧ HangAt wr w.heap.size (hung (xs.take k)) ∧ Below w.heap.size w wr) (fun vi _ _ => n - (intOf vi).toNat)
  case atStart => exact ⟨0, by omega, rfl, rfl, HK.out, hb⟩
  case round =>
    clear HK hb
    obtain ⟨k, hk, rfl, rfl, hK, hB⟩ := hrel
    by_cases hlt : k < n
    · obtain ⟨x, hx⟩ : ∃ x, xs[k]? = some x := ⟨xs[k]'(by have := En.out; omega), List.getElem?_eq_getElem _⟩
      obtain ⟨a, rfl, hab, hat⟩ := (hg.below hB).at_ k x hx
      obtain ⟨q0, q1⟩ := cloS.at_ hat
      have hxf : x.Fits := ho.f x (List.mem_of_getElem? hx)
      have HT := Lib.hid (hung_take hx)
      have hF := ho.fine k (by have := En.out; omega)
      obtain ⟨p0, p1⟩ := hung_bd0 (xs.take k)
      have hp := peg_bd (hung (xs.take k)).last x
      have hlen : (xs.take k).length ≤ k := List.length_take_le _ _
      have HK := Lib.hid hK
      have HX := Lib.hid hx
      have hBs := hB.size
      have hKl := hK.lt
      clear hx hat hK
      go_wp2_with fail
      refine (hang_any x hxf w.heap.size _ hF _ (HK.out.keep (S := fun _ => False) ((Keeps.refl _ _).alloc _) (fun i hi => hi.elim))).mono ?_
      rintro o w2 ⟨rfl, hK2, hk2⟩
      have HK2 := Lib.hid hK2
      have hB2 := (hB.alloc hB.size _).trans (hk2.below (by have := hB.size; simp; omega) (hangS_below (Nat.le_refl _)))
      have y0 := box_keeps hk2 (by rintro (h | h) <;> omega) 0
      have y1 := box_keeps hk2 (by rintro (h | h) <;> omega) 1
      simp only [List.getElem?_toArray, List.getElem?_cons_zero, List.getElem?_cons_succ] at y0 y1
      have hlo : -1000000002 ≤ (hung (xs.take k)).place x ∧ (hung (xs.take k)).place x ≤ 1000000001 := by
        have := hF.lo
        have := hF.hi
        have := gap_bd (hung (xs.take k)).last x
        unfold Hung.place
        omega
      obtain ⟨x0, x1, x2, x3⟩ := hxf
      clear q0 q1 hK2 hk2
      go_wp2_with fail
      go_roundw
      case rel => exact ⟨k + 1, by omega, by go_num, by rw [HT.out]; rfl, by rw [HT.out]; exact HK2.out, hB2⟩
      case measure => simp [intOf]; omega
    · go_wp2_with fail
      go_ret
      have e : xs.take k = xs := List.take_of_length_le (by have := En.out; omega)
      rw [e]
      exact ⟨rfl, hB⟩

set_option maxHeartbeats 4000000 in
theorem widthFor_any (A : Option Addr) (n c : Nat) (xs : List Clo) (en : n = xs.length) (hn : n ≤ 1048576) (ho : Ok xs) (w : World) (hg : Sl Clo.cells 2 w w.heap.size A xs) :
    Calls Tryd.prog 59 #[.slice A n c] w fun e w' => e = .returned (.int .i64 (hung xs).fin) ∧ Below w.heap.size w w' := by
  have En := Lib.hid en
  clear en
  go_enter Tryd.func59, Tryd.ntmps59
  go_wp2_with fail
  refine (hanger_any w).mono ?_
  rintro o w1 ⟨rfl, hK, hb⟩
  have HK := Lib.hid hK
  clear hK
  go_wp2_with fail
  go_loopw [12, 4] (fun vi vs wr => ∃ k : Nat, k ≤ n ∧ vi = .int .i64 k ∧ vs = .int .i64 (hung (xs.take k)).fin ∧ HangAt wr w.heap.size (hung (xs.take k)) ∧ Below w.heap.size w wr) (fun vi _ _ => n - (intOf vi).toNat)
  case atStart => exact ⟨0, by omega, rfl, rfl, HK.out, hb⟩
  case round =>
    clear HK hb
    obtain ⟨k, hk, rfl, rfl, hK, hB⟩ := hrel
    by_cases hlt : k < n
    · obtain ⟨x, hx⟩ : ∃ x, xs[k]? = some x := ⟨xs[k]'(by have := En.out; omega), List.getElem?_eq_getElem _⟩
      obtain ⟨a, rfl, hab, hat⟩ := (hg.below hB).at_ k x hx
      obtain ⟨q0, q1⟩ := cloS.at_ hat
      have hxf : x.Fits := ho.f x (List.mem_of_getElem? hx)
      have HT := Lib.hid (hung_take hx)
      have hF := ho.fine k (by have := En.out; omega)
      obtain ⟨p0, p1⟩ := hung_bd0 (xs.take k)
      have hp := peg_bd (hung (xs.take k)).last x
      have hlen : (xs.take k).length ≤ k := List.length_take_le _ _
      have HK := Lib.hid hK
      have HX := Lib.hid hx
      have hBs := hB.size
      have hKl := hK.lt
      clear hx hat hK
      go_wp2_with fail
      refine (hang_any x hxf w.heap.size _ hF _ (HK.out.keep (S := fun _ => False) ((Keeps.refl _ _).alloc _) (fun i hi => hi.elim))).mono ?_
      rintro o w2 ⟨rfl, hK2, hk2⟩
      have HK2 := Lib.hid hK2
      have hB2 := (hB.alloc hB.size _).trans (hk2.below (by have := hB.size; simp; omega) (hangS_below (Nat.le_refl _)))
      have y0 := box_keeps hk2 (by rintro (h | h) <;> omega) 0
      have y1 := box_keeps hk2 (by rintro (h | h) <;> omega) 1
      simp only [List.getElem?_toArray, List.getElem?_cons_zero, List.getElem?_cons_succ] at y0 y1
      have hlo : -1000000002 ≤ (hung (xs.take k)).place x ∧ (hung (xs.take k)).place x ≤ 1000000001 := by
        have := hF.lo
        have := hF.hi
        have := gap_bd (hung (xs.take k)).last x
        unfold Hung.place
        omega
      obtain ⟨x0, x1, x2, x3⟩ := hxf
      clear q0 q1 hK2 hk2
      go_wp2_with fail
      go_roundw
      case rel => exact ⟨k + 1, by omega, by go_num, by rw [HT.out]; rfl, by rw [HT.out]; exact HK2.out, hB2⟩
      case measure => simp [intOf]; omega
    · go_wp2_with fail
      go_ret
      have e : xs.take k = xs := List.take_of_length_le (by have := En.out; omega)
      rw [e]
      exact ⟨rfl, hB⟩

set_option maxHeartbeats 2000000 in
theorem heavyOf_any (A : Option Addr) (n c : Nat) (xs : List Clo) (en : n = xs.length) (hn : n ≤ 1048576) (hf : ∀ x ∈ xs, x.Fits) (w : World) (hg : Sl Clo.cells 2 w w.heap.size A xs) :
    Calls Tryd.prog 85 #[.slice A n c] w fun e w' => e = .returned (.int .i64 (heavyOf xs)) ∧ Below w.heap.size w w' := by
  have En := Lib.hid en
  clear en
  go_enter Tryd.func85, Tryd.ntmps85
  go_wp2_with fail
  go_loopw [8, 3] (fun vi vs wr => ∃ k : Nat, k ≤ n ∧ vi = .int .i64 k ∧ vs = .int .i64 (heavyOf (xs.take k)) ∧ Below w.heap.size w wr) (fun vi _ _ => n - (intOf vi).toNat)
  case atStart => exact ⟨0, by omega, rfl, rfl, Below.refl _ _⟩
  case round =>
    obtain ⟨k, hk, rfl, rfl, hB⟩ := hrel
    by_cases hlt : k < n
    · obtain ⟨x, hx⟩ : ∃ x, xs[k]? = some x := ⟨xs[k]'(by have := En.out; omega), List.getElem?_eq_getElem _⟩
      obtain ⟨a, rfl, hab, hat⟩ := (hg.below hB).at_ k x hx
      obtain ⟨q0, q1⟩ := cloS.at_ hat
      have HT := Lib.hid (heavy_take hx)
      obtain ⟨b0, b1⟩ := heavy_bd (xs.take k) (fun y hy => hf y (List.mem_of_mem_take hy))
      have hlen : (xs.take k).length ≤ k := List.length_take_le _ _
      obtain ⟨x0, x1, x2, x3⟩ := hf x (List.mem_of_getElem? hx)
      have hBs := hB.size
      clear hx hat
      go_wp2_with fail
      go_roundw
      case rel => exact ⟨k + 1, by omega, by go_num, by rw [HT.out], hB.alloc hB.size _⟩
      case measure => simp [intOf]; omega
    · go_wp2_with fail
      go_ret
      have e : xs.take k = xs := List.take_of_length_le (by have := En.out; omega)
      rw [e]
      exact ⟨rfl, hB⟩
end Go.Proofs.YtbpipcfijbgnhaaDoor.hang
