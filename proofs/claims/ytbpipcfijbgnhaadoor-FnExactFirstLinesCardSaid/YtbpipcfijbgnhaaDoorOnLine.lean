/-
  The cloths of a line, in plain words, and the contract of the model's function that tells them.
-/
import Derived.Test.YtbpipcfijbgnhaaDoorCInOrder
import Derived.Test.YtbpipcfijbgnhaaDoorCSagOf
namespace Go.Proofs.YtbpipcfijbgnhaaDoor.hang
open Go.RowKit sl errs

/-- the cloths that go to a line -/
def onZ (zs : List (Int × Clo)) (n : Int) : List Clo := zs.filterMap fun p => if p.1 = n then some p.2 else none
theorem onZ_snoc (zs : List (Int × Clo)) (o : Int) (x : Clo) (n : Int) : onZ (zs ++ [(o, x)]) n = onZ zs n ++ (if o = n then [x] else []) := by
  unfold onZ
  rw [List.filterMap_append]
  by_cases h : o = n <;> simp [h]
theorem onZ_hit {zs : List (Int × Clo)} {k : Nat} {o : Int} {x : Clo} (h : zs[k]? = some (o, x)) : onZ (zs.take (k + 1)) o = onZ (zs.take k) o ++ [x] := by
  rw [take_snoc h, onZ_snoc, if_pos rfl]
theorem onZ_miss {zs : List (Int × Clo)} {k : Nat} {o n : Int} {x : Clo} (h : zs[k]? = some (o, x)) (hn : o ≠ n) : onZ (zs.take (k + 1)) n = onZ (zs.take k) n := by
  rw [take_snoc h, onZ_snoc, if_neg hn, List.append_nil]
theorem onZ_len (zs : List (Int × Clo)) (n : Int) : (onZ zs n).length ≤ zs.length := List.length_filterMap_le _ _
theorem onZ_mem {zs : List (Int × Clo)} {n : Int} {x : Clo} (h : x ∈ onZ zs n) : ∃ o, (o, x) ∈ zs := by
  unfold onZ at h
  obtain ⟨p, hp, he⟩ := List.mem_filterMap.1 h
  split at he
  · obtain rfl := Option.some.inj he
    exact ⟨p.1, hp⟩
  · cases he
theorem zip_mem {os : List Int} {xs : List Clo} {o : Int} {x : Clo} (h : (o, x) ∈ os.zip xs) : x ∈ xs := (List.of_mem_zip h).2
theorem zip_at {os : List Int} {xs : List Clo} {k : Nat} {o : Int} {x : Clo} (ho : os[k]? = some o) (hx : xs[k]? = some x) : (os.zip xs)[k]? = some (o, x) := by
  simp [List.getElem?_zip_eq_some, ho, hx]
theorem onZ_valid {os : List Int} {xs : List Clo} (hv : ∀ x ∈ xs, Clo.valid x = true) (n : Int) : ∀ x ∈ onZ (os.zip xs) n, Clo.valid x = true := fun x hx => by
  obtain ⟨o, ho⟩ := onZ_mem hx
  exact hv x (zip_mem ho)
theorem onZ_fits {os : List Int} {xs : List Clo} (hv : ∀ x ∈ xs, x.Fits) (n : Int) : ∀ x ∈ onZ (os.zip xs) n, x.Fits := fun x hx => by
  obtain ⟨o, ho⟩ := onZ_mem hx
  exact hv x (zip_mem ho)
set_option maxRecDepth 100000 in
set_option maxHeartbeats 4000000 in
theorem l02On_any (A : Option Addr) (n c : Nat) (xs : List Clo) (en : n = xs.length) (hn : n ≤ 1048576) (A' : Option Addr) (m c' : Nat) (os : List Int) (em : m = os.length) (hm : m ≤ n) (v : Int) (w : World) (hx : Sl Clo.cells 2 w w.heap.size A xs) (ho : Sl intS.C 1 w w.heap.size A' os) :
    Calls Tryd.prog 71 #[.slice A n c, .slice A' m c', .int .i64 v] w (OwnC1 w (onZ (os.zip xs) v)) := by
  obtain ⟨i0, hi, hz0, hz1, hz2⟩ := info_parts cloS.info
  have En := Lib.hid en
  have Em := Lib.hid em
  clear en em
  go_enter Tryd.func71, Tryd.ntmps71
  have HB0 := Lib.hid ((Below.refl w.heap.size w).alloc (Nat.le_refl _) (.cells #[] 27))
  have HP0 := Lib.hid (ownsC_void w (Nat.le_refl _))
  go_wp2_with fail
  go_loopw [7, 8] (fun vo vi wr => ∃ k : Nat, k ≤ m ∧ vi = .int .i64 k ∧ (∃ z : Nat, z = (onZ ((os.zip xs).take k) v).length ∧ z ≤ k ∧ wr.ownsRow w.heap.size 27 2 vo z ((onZ ((os.zip xs).take k) v).flatMap Clo.cells)) ∧ Below w.heap.size w wr) (fun _ vi _ => m - (intOf vi).toNat)
  case atStart => exact ⟨0, by omega, rfl, ⟨0, rfl, by omega, HP0.out⟩, HB0.out⟩
  case round =>
    clear HB0 HP0
    obtain ⟨k, hk, rfl, ⟨z, hz, hzk, hP⟩, hB⟩ := hrel
    have HZ := Lib.hid hz
    have HP := Lib.hid hP
    have HB := Lib.hid hB
    clear hz
    by_cases hlt : k < m
    · obtain ⟨o, ho1⟩ : ∃ o, os[k]? = some o := ⟨os[k]'(by have := Em.out; omega), List.getElem?_eq_getElem _⟩
      obtain ⟨x, hx1⟩ : ∃ x, xs[k]? = some x := ⟨xs[k]'(by have := En.out; omega), List.getElem?_eq_getElem _⟩
      obtain ⟨a, rfl, hab, hat⟩ := (ho.below hB).at_ k _ ho1
      have q0 := intS.at_ hat
      have HZK := Lib.hid (zip_at ho1 hx1)
      by_cases hov : o = v
      · subst hov
        obtain ⟨a', rfl, hab', hat'⟩ := (hx.below hB).at_ k x hx1
        obtain ⟨r0, r1⟩ := cloS.at_ hat'
        have hBs := hB.size
        clear ho1 hx1 hat hat' hP hB
        go_wp2_with (first | (at_builtin; refine wpList_append_own _ rfl (.tmp 22) (.tmp 27) 34 rfl w.heap.size 27 i0 (.agg #[.int .i16 0, .int .i16 0]) 2 4 Tryd.underlying34 hi hz0 hz1 hz2 rfl (by decide) _ _ _ rfl (HP.out.alloc _) ⟨_, 0, none⟩ 1 1 [.int .i16 x.wide, .int .i16 x.heavy] rfl rfl (two_new _ _ _ _) (two_cell rfl rfl) (by unfold maxLen; omega) (by omega) (by simp; omega) ?_; intro v3 w3 hP3 hgr _; have HB3 := Lib.hid (Below.grown (HB.out.alloc HB.out.size _) hgr (by have := HB.out.size; simp; omega) (fun g hg => (HP.out.lt g hg).1)); have HP3 := Lib.hid hP3; clear hP3 hgr) | fail)
        go_roundw
        case rel =>
          have hp3 := HP3.out
          have e : (onZ ((os.zip xs).take (k + 1)) o).flatMap Clo.cells = (onZ ((os.zip xs).take k) o).flatMap Clo.cells ++ [.int .i16 x.wide, .int .i16 x.heavy] := by rw [onZ_hit HZK.out]; simp
          rw [← e] at hp3
          exact ⟨k + 1, by omega, by go_num, ⟨z + 1, by rw [onZ_hit HZK.out, HZ.out]; simp, by omega, hp3⟩, HB3.out⟩
        case measure => simp [intOf]; omega
      · have d1 : (o == v) = false := by rw [beq_eq_false_iff_ne]; exact hov
        have HN := Lib.hid hov
        clear ho1 hx1 hat hP hB hov
        go_wp2_with fail
        go_roundw
        case rel =>
          exact ⟨k + 1, by omega, by go_num, ⟨z, by rw [onZ_miss HZK.out HN.out]; exact HZ.out, by omega, by rw [onZ_miss HZK.out HN.out]; exact HP.out⟩, HB.out⟩
        case measure => simp [intOf]; omega
    · obtain rfl : k = m := by omega
      have e : (os.zip xs).take k = os.zip xs := List.take_of_length_le (by rw [List.length_zip]; have := Em.out; omega)
      rw [e] at hP HZ
      have HR : Hid (∀ u, wr.ownsRow w.heap.size 27 2 u z ((onZ (os.zip xs) v).flatMap Clo.cells) → OwnC1 w (onZ (os.zip xs) v) (.returned u) wr) := Lib.hid fun u h => ⟨u, rfl, by rw [← HZ.out]; exact h, HB.out⟩
      have HP2 := Lib.hid hP
      clear e hP hB HZ
      go_wp2_with fail
      go_ret
      exact HR.out _ HP2.out
/-- no cloth more makes cloths fit that did not -/
theorem fits_pre {l : Lin} {xs ys : List Clo} (hv : ∀ x ∈ ys, Clo.valid x = true) (h : fitsB l (xs ++ ys) = true) : fitsB l xs = true := by
  have hm := hung_mono xs ys hv
  have hh : heavyOf xs ≤ heavyOf (xs ++ ys) := by
    clear h hm
    induction ys using snoc_ind with
    | h0 => simp
    | h1 ys y ih =>
      have h1 := ih (fun x hx => hv x (List.mem_append_left _ hx))
      have h2 := (clo_parts (hv y (by simp))).2.2.1
      rw [← List.append_assoc, heavy_snoc]
      omega
  simp only [fitsB, Bool.and_eq_true, decide_eq_true_eq] at *
  omega
theorem onZ_pre (zs : List (Int × Clo)) (k : Nat) (n : Int) : ∃ ys, onZ zs n = onZ (zs.take k) n ++ ys ∧ ∀ y ∈ ys, y ∈ onZ zs n := by
  refine ⟨onZ (zs.drop k) n, ?_, fun y hy => ?_⟩
  · unfold onZ
    rw [← List.filterMap_append, List.take_append_drop]
  · have : onZ zs n = onZ (zs.take k) n ++ onZ (zs.drop k) n := by
      unfold onZ
      rw [← List.filterMap_append, List.take_append_drop]
    rw [this]
    exact List.mem_append_right _ hy
end Go.Proofs.YtbpipcfijbgnhaaDoor.hang
