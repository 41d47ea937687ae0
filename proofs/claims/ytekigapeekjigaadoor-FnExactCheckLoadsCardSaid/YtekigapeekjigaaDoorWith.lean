/-
  Lists of garments of the call's own; contract of the model's l01With.
-/
import Derived.Test.YtekigapeekjigaaDoorGreedyP
import Derived.Test.YtekigapeekjigaaDoorOwnI
namespace Go.Proofs.YtekigapeekjigaaDoor.mem
open Go Go.RowKit errs garS heats meet load sl

theorem Gar.len4 (gs : List Gar) : ∀ x ∈ gs, (Gar.cells x).length = 4 := fun _ _ => rfl
/-- a list of garments of the call's own -/
def OwnGar (w : World) (ys : List Gar) (o : Ending) (w' : World) : Prop :=
  ∃ v, o = .returned v ∧ w'.ownsRow w.heap.size 96 4 v ys.length (ys.flatMap Gar.cells) ∧ Below w.heap.size w w'
theorem ownsGar_void (w : World) {b : Nat} (hb : b ≤ w.heap.size) : (w.alloc (.cells #[] 96)).ownsRow b 96 4 (.slice (some ⟨w.heap.size, 0, none⟩) 0 0) ([] : List Gar).length (([] : List Gar).flatMap Gar.cells) :=
  World.ownsRow_lit w #[] 0 hb (by unfold maxLen; simp) rfl
/-- an owned row reads as its garments -/
theorem gs_of_owns {w : World} {base : Nat} {e : TypeId} {A : Option Addr} {n c : Nat} {gs : List Gar} (h : w.ownsRow base e 4 (.slice A n c) n (gs.flatMap Gar.cells)) (hf : ∀ x ∈ gs, x.Fits) : GS w w.heap.size A gs := by
  have hlen : gs.length * 4 = n * 4 := by rw [← flat_len (Gar.len4 gs)]; exact h.1
  have hn : gs.length = n := by omega
  rcases h.2 with ⟨hv, rfl⟩ | ⟨g, cap, cur, hv, hg, hh, hrest⟩
  · have : gs = [] := List.length_eq_zero_iff.1 hn
    subst this
    exact ⟨fun k x hx => by simp at hx, hf⟩
  · simp only [Value.slice.injEq, true_and] at hv
    obtain ⟨rfl, rfl⟩ := hv
    refine ⟨fun k x hx => ?_, hf⟩
    have hc : ∀ j v, (Gar.cells x)[j]? = some v → w.cell? ⟨g, k * 4 + j, none⟩ = some v := fun j v hv => by
      have := h.cells (g := g) rfl (k * 4 + j) v (flat_get (Gar.len4 gs) hx hv)
      rwa [add_lit] at this
    refine ⟨_, rfl, (Array.getElem?_eq_some_iff.1 hh).1, ?_⟩
    rw [add_lit]
    exact ⟨hc 0 _ rfl, hc 1 _ rfl, hc 2 _ rfl, hc 3 _ rfl⟩
theorem gar_info : (Tryd.prog.info? 96).map (fun i => (i.zero, i.size, i.bytes)) = some (some (.agg #[.int .u8 0, .int .i8 0, .int .i8 0, .int .i16 0]), 4, 6) := by kernel_rfl
theorem four_new (w : World) (a b c d : Value) (T : TypeId) : ∀ (j : Nat) x, [a, b, c, d][j]? = some x → (w.alloc (.cells #[a, b, c, d] T)).cell? ((⟨w.heap.size, 0, none⟩ : Addr).add j) = some x := by
  intro j x hj
  rw [add_lit, cell_of_row _ _ _ _ _ _ (heap_alloc_new w _)]
  simpa using hj
theorem four_cell {a b c d : Value} (ha : a.oneCell' = true) (hb : b.oneCell' = true) (hc : c.oneCell' = true) (hd : d.oneCell' = true) : ∀ x ∈ [a, b, c, d], x.oneCell' = true := by
  intro x hx
  simp only [List.mem_cons, List.not_mem_nil, or_false] at hx
  rcases hx with rfl | rfl | rfl | rfl <;> assumption
theorem withL_yes {gs : List Gar} {ls : List Int} {k : Int} {j : Nat} {x : Gar} (hl : ls[j]? = some k) (hx : gs[j]? = some x) : withL gs ls k (j + 1) = withL gs ls k j ++ [x] := by
  rw [withL, if_pos hl, hx]
  rfl
theorem withL_no {gs : List Gar} {ls : List Int} {k : Int} {j : Nat} {z : Int} (hl : ls[j]? = some z) (hz : z ≠ k) : withL gs ls k (j + 1) = withL gs ls k j := by
  rw [withL, if_neg (by rw [hl]; simpa using hz)]
set_option maxRecDepth 100000 in
set_option maxHeartbeats 4000000 in
theorem l01With_any (A : Option Addr) (n c : Nat) (gs : List Gar) (hn : n = gs.length) (hs : n ≤ 1048576) (A' : Option Addr) (m c' : Nat) (ls : List Int) (em : m = ls.length) (hm : m ≤ n) (z : Int) (w : World) (hg : GS w w.heap.size A gs) (ho : Sl intS.C 1 w w.heap.size A' ls) :
    Calls Tryd.prog 74 #[.slice A n c, .slice A' m c', .int .i64 z] w (OwnGar w (withL gs ls z m)) := by
  obtain ⟨i0, hi, hz0, hz1, hz2⟩ := info_parts gar_info
  have En := Lib.hid hn
  have Em := Lib.hid em
  clear hn em
  go_enter Tryd.func74, Tryd.ntmps74
  have HB0 := Lib.hid ((Below.refl w.heap.size w).alloc (Nat.le_refl _) (.cells #[] 96))
  have HP0 := Lib.hid (ownsGar_void w (Nat.le_refl _))
  go_wp2_with fail
  go_loopw [7, 8] (fun vo vi wr => ∃ k : Nat, k ≤ m ∧ vi = .int .i64 k ∧ wr.ownsRow w.heap.size 96 4 vo (withL gs ls z k).length ((withL gs ls z k).flatMap Gar.cells) ∧ Below w.heap.size w wr) (fun _ vi _ => m - (intOf vi).toNat)
  case atStart => exact ⟨0, by omega, rfl, HP0.out, HB0.out⟩
  case round =>
    clear HB0 HP0
    obtain ⟨k, hk, rfl, hP, hB⟩ := hrel
    have HP := Lib.hid hP
    have HB := Lib.hid hB
    by_cases hlt : k < m
    · obtain ⟨y, hy⟩ : ∃ y, ls[k]? = some y := ⟨ls[k]'(by have := Em.out; omega), List.getElem?_eq_getElem _⟩
      obtain ⟨a, rfl, hab, hat⟩ := (ho.below hB).at_ k _ hy
      have q0 := intS.at_ hat
      obtain ⟨x, hx⟩ : ∃ x, gs[k]? = some x := ⟨gs[k]'(by have := En.out; omega), List.getElem?_eq_getElem _⟩
      obtain ⟨a', rfl, hab', hg0, hg1, hg2, hg3⟩ := (hg.below hB).at_ k x hx
      have hlen := withL_len gs ls z k
      have hBs := hB.size
      have HX := Lib.hid hx
      have HY := Lib.hid hy
      clear hx hy hat hP hB
      by_cases hyz : y = z
      · have HT := Lib.hid (withL_yes (hyz ▸ HY.out) HX.out)
        have d1 : (y == z) = true := by rw [beq_iff_eq]; exact hyz
        clear hyz
        go_wp2_with (first | (at_builtin; refine wpList_append_own _ rfl (.tmp 22) (.tmp 27) 36 rfl w.heap.size 96 i0 (.agg #[.int .u8 0, .int .i8 0, .int .i8 0, .int .i16 0]) 4 6 Tryd.underlying36 hi hz0 hz1 hz2 rfl (by decide) _ _ _ rfl (HP.out.alloc _) ⟨_, 0, none⟩ 1 1 [.int .u8 x.c, .int .i8 x.n, .int .i8 x.m, .int .i16 x.g] rfl rfl (four_new _ _ _ _ _ _) (four_cell rfl rfl rfl rfl) (by unfold maxLen; omega) (by omega) (by simp; omega) ?_; intro v3 w3 hP3 hgr _; have HB3 := Lib.hid (Below.grown (HB.out.alloc HB.out.size _) hgr (by have := HB.out.size; simp; omega) (fun g hg => (HP.out.lt g hg).1)); have HP3 := Lib.hid hP3; clear hP3 hgr) | fail)
        go_roundw
        case rel =>
          have hp3 := HP3.out
          have e : (withL gs ls z (k + 1)).flatMap Gar.cells = (withL gs ls z k).flatMap Gar.cells ++ [.int .u8 x.c, .int .i8 x.n, .int .i8 x.m, .int .i16 x.g] := by rw [HT.out]; simp [Gar.cells]
          have e2 : (withL gs ls z (k + 1)).length = (withL gs ls z k).length + 1 := by rw [HT.out]; simp
          rw [← e, ← e2] at hp3
          exact ⟨k + 1, by omega, by go_num, hp3, HB3.out⟩
        case measure => simp [intOf]; omega
      · have HT := Lib.hid (withL_no (gs := gs) HY.out hyz)
        have d1 : (y == z) = false := by rw [beq_eq_false_iff_ne]; exact hyz
        clear hyz
        go_wp2_with fail
        go_roundw
        case rel => exact ⟨k + 1, by omega, by go_num, by rw [HT.out]; exact HP.out, HB.out⟩
        case measure => simp [intOf]; omega
    · obtain rfl : k = m := by omega
      have HR : Hid (∀ v, wr.ownsRow w.heap.size 96 4 v (withL gs ls z k).length ((withL gs ls z k).flatMap Gar.cells) → OwnGar w (withL gs ls z k) (.returned v) wr) := Lib.hid fun v h => ⟨v, rfl, h, HB.out⟩
      clear hP hB
      go_wp2_with fail
      go_ret
      exact HR.out _ HP.out
end Go.Proofs.YtekigapeekjigaaDoor.mem
