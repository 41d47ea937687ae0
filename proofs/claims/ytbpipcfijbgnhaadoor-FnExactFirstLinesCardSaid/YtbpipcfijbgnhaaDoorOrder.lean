/-
  Orders: each index just once; contracts of the program's and the model's functions that look for this.
-/
import Derived.Test.YtbpipcfijbgnhaaDoorMany
import Derived.Test.YtbpipcfijbgnhaaDoorIntS
import Derived.Test.YtbpipcfijbgnhaaDoorCloVal
import Derived.IntWalk
namespace Go.Proofs.YtbpipcfijbgnhaaDoor.hang
open Go.RowKit sl errs

/-- the first k numbers are indices, each one just once -/
def goodP (n : Nat) (os : List Int) (k : Nat) : Prop := ∀ i x, i < k → os[i]? = some x → 0 ≤ x ∧ x < n ∧ x ∉ os.take i
open Classical in
noncomputable def ordB (n : Nat) (os : List Int) : Bool := decide (os.length = n ∧ goodP n os os.length)
theorem ordB_yes {n : Nat} {os : List Int} (hl : os.length = n) (h : goodP n os os.length) : ordB n os = true := by
  unfold ordB
  simp only [decide_eq_true_eq]
  exact ⟨hl, h⟩
theorem ordB_len {n : Nat} {os : List Int} (hl : os.length ≠ n) : ordB n os = false := by simp [ordB, hl]
theorem ordB_no {n : Nat} {os : List Int} {k : Nat} {x : Int} (hx : os[k]? = some x) (h : ¬ (0 ≤ x ∧ x < n ∧ x ∉ os.take k)) : ordB n os = false := by
  have : ¬ goodP n os os.length := fun hg => h (hg k x (List.getElem?_eq_some_iff.1 hx).1 hx)
  simp [ordB, this]
theorem ordB_parts {n : Nat} {os : List Int} (h : ordB n os = true) : os.length = n ∧ goodP n os os.length := by simpa [ordB] using h
theorem goodP_step {n : Nat} {os : List Int} {k : Nat} {x : Int} (h : goodP n os k) (hx : os[k]? = some x) (h0 : 0 ≤ x) (h1 : x < n) (h2 : x ∉ os.take k) : goodP n os (k + 1) := by
  intro i y hi hy
  rcases Nat.lt_or_ge i k with h3 | h3
  · exact h i y h3 hy
  · obtain rfl : i = k := by omega
    rw [hx] at hy
    obtain rfl := Option.some.inj hy
    exact ⟨h0, h1, h2⟩
theorem sl_take {α : Type} {C : α → List Value} {sz : Nat} {w : World} {B : Nat} {A : Option Addr} {xs : List α} (h : Sl C sz w B A xs) (k : Nat) : Sl C sz w B A (xs.take k) :=
  ⟨fun i x hx => h.at_ i x (by
    rw [List.getElem?_take] at hx
    split at hx
    · exact hx
    · cases hx)⟩

set_option maxHeartbeats 2000000 in
theorem l00Has_v (A : Option Addr) (n c : Nat) (xs : List Int) (en : n = xs.length) (hn : n ≤ 1048576) (v : Int) (b : Bool) (hb : b = true ↔ v ∈ xs) (w : World) (B : Nat) (hg : Sl intS.C 1 w B A xs) :
    Calls Tryd.prog 86 #[.slice A n c, .int .i64 v] w fun e w' => e = .returned (.bool b) ∧ w' = w := by
  have En := Lib.hid en
  have HB := Lib.hid hb
  clear en hb
  go_enter Tryd.func86, Tryd.ntmps86
  go_wp2_with fail
  go_loop [5] (fun vi => ∃ k : Nat, k ≤ n ∧ vi = .int .i64 k ∧ (∀ i x, i < k → xs[i]? = some x → x ≠ v)) (fun vi => n - (intOf vi).toNat)
  case atStart => exact ⟨0, by omega, rfl, fun i x hi => absurd hi (by omega)⟩
  case round =>
    obtain ⟨k, hk, rfl, hno⟩ := hrel
    have HN := Lib.hid hno
    clear hno
    by_cases hlt : k < n
    · obtain ⟨x, hx⟩ : ∃ x, xs[k]? = some x := ⟨xs[k]'(by have := En.out; omega), List.getElem?_eq_getElem _⟩
      obtain ⟨a, rfl, hab, hat⟩ := hg.at_ k x hx
      have q0 := intS.at_ hat
      have HX := Lib.hid hx
      clear hx hat
      by_cases hxv : x = v
      · have HE := Lib.hid hxv
        have d1 : (x == v) = true := by rw [beq_iff_eq]; exact hxv
        clear hxv
        go_wp2_with fail
        go_ret
        exact ⟨ret_bool (HB.out.2 (by rw [← HE.out]; exact List.mem_of_getElem? HX.out)).symm, rfl⟩
      · have HE := Lib.hid hxv
        have d1 : (x == v) = false := by rw [beq_eq_false_iff_ne]; exact hxv
        clear hxv
        go_wp2_with fail
        go_round
        case rel => exact ⟨k + 1, by omega, by go_num, fun i y hi hy => by
          rcases Nat.lt_or_ge i k with h1 | h1
          · exact HN.out i y h1 hy
          · obtain rfl : i = k := by omega
            have := HX.out
            rw [hy] at this
            rw [Option.some.inj this]
            exact HE.out⟩
        case measure => simp [intOf]; omega
    · go_wp2_with fail
      go_ret
      refine ⟨ret_bool ?_, rfl⟩
      cases hbb : b with
      | false => rfl
      | true =>
        obtain ⟨i, hi⟩ := List.mem_iff_getElem?.1 (HB.out.1 hbb)
        exact absurd rfl (HN.out i v (by have := (List.getElem?_eq_some_iff.1 hi).1; have := En.out; omega) hi)
theorem l00Has_yes (A : Option Addr) (n c : Nat) (xs : List Int) (en : n = xs.length) (hn : n ≤ 1048576) (v : Int) (hb : v ∈ xs) (w : World) (B : Nat) (hg : Sl intS.C 1 w B A xs) :
    Calls Tryd.prog 86 #[.slice A n c, .int .i64 v] w fun e w' => e = .returned (.bool true) ∧ w' = w := l00Has_v A n c xs en hn v true (by simp [hb]) w B hg
theorem l00Has_no (A : Option Addr) (n c : Nat) (xs : List Int) (en : n = xs.length) (hn : n ≤ 1048576) (v : Int) (hb : v ∉ xs) (w : World) (B : Nat) (hg : Sl intS.C 1 w B A xs) :
    Calls Tryd.prog 86 #[.slice A n c, .int .i64 v] w fun e w' => e = .returned (.bool false) ∧ w' = w := l00Has_v A n c xs en hn v false (by simp [hb]) w B hg
theorem l00In_q (n lo hi : Int) (b : Bool) (hb : inB n lo hi = b) (w : World) :
    Calls Tryd.prog 78 #[.int .i64 n, .int .i64 lo, .int .i64 hi] w fun o w' => o = .returned (.bool b) ∧ w' = w :=
  (l00In_b n lo hi b hb w).mono fun _ _ h => ⟨h.1, h.2.symm⟩
set_option maxRecDepth 100000 in
set_option maxHeartbeats 4000000 in
theorem l02Order_any (n : Nat) (hn : n ≤ 1048576) (A : Option Addr) (m : Nat) (os : List Int) (em : m = os.length) (hm : m ≤ 1048576) (w : World) (hg : Sl intS.C 1 w w.heap.size A os) :
    Calls Tryd.prog 65 #[.int .i64 n, .slice A m m] w fun o w' => o = .returned (.bool (ordB n os)) ∧ Below w.heap.size w w' := by
  have Em := Lib.hid em
  clear em
  go_enter Tryd.func65, Tryd.ntmps65
  go_wp2_with fail
  go_loopw [5] (fun vi wr => ∃ k : Nat, k ≤ m ∧ vi = .int .i64 k ∧ goodP n os k ∧ Below w.heap.size w wr) (fun vi _ => m - (intOf vi).toNat)
  case atStart => exact ⟨0, by omega, rfl, fun i x hi => absurd hi (by omega), Below.refl _ _⟩
  case round =>
    obtain ⟨k, hk, rfl, hgood, hB⟩ := hrel
    have HG := Lib.hid hgood
    have HB := Lib.hid hB
    clear hgood
    by_cases hlt : k < m
    · obtain ⟨x, hx⟩ : ∃ x, os[k]? = some x := ⟨os[k]'(by have := Em.out; omega), List.getElem?_eq_getElem _⟩
      have ST := Lib.hid (sl_take (hg.below hB) k)
      obtain ⟨a, rfl, hab, hat⟩ := (hg.below hB).at_ k x hx
      have q0 := intS.at_ hat
      have HX := Lib.hid hx
      have hlen : k = (os.take k).length := by rw [List.length_take]; have := Em.out; omega
      have HL := Lib.hid hlen
      have wa : IntKind.i64.wrap ((n : Int) - 1) = (n : Int) - 1 := IntWalk.i64_in _ (by omega)
      have wb : (0 : Int) ≤ (k : Int) := by omega
      have wc : (k : Int) ≤ (m : Int) := by omega
      have wd : (k : Int) < (m : Int) := by omega
      clear hx hat hB hlen
      by_cases hin : 0 ≤ x ∧ x < n
      · have hib : inB x 0 ((n : Int) - 1) = true := by rw [inB_iff]; omega
        have HI := Lib.hid hib
        have H0 := hin.1
        have H1 := hin.2
        clear hib hin
        by_cases hm1 : x ∈ os.take k
        · have HH := Lib.hid hm1
          clear hm1
          go_wp2_with fail
          go_quiet ((first | (go_at_call 78; exact Calls.quiet_of_same (l00In_q _ _ _ true HI.out _)) | (go_at_call 86; exact Calls.quiet_of_same (l00Has_yes _ _ _ _ HL.out (by omega) _ HH.out _ _ (ST.out.keep fun _ _ => rfl)))))
          go_wp2_with fail
          go_ret
          exact ⟨ret_bool (ordB_no HX.out (fun h => h.2.2 HH.out)).symm, HB.out.trans (below_drewN _ _ _)⟩
        · have HH := Lib.hid hm1
          clear hm1
          go_wp2_with fail
          go_quiet ((first | (go_at_call 78; exact Calls.quiet_of_same (l00In_q _ _ _ true HI.out _)) | (go_at_call 86; exact Calls.quiet_of_same (l00Has_no _ _ _ _ HL.out (by omega) _ HH.out _ _ (ST.out.keep fun _ _ => rfl)))))
          clear wa wb wc wd
          go_wp2_with fail
          go_roundw
          case rel => exact ⟨k + 1, by omega, by go_num, goodP_step HG.out HX.out H0 H1 HH.out, HB.out.trans (below_drewN _ _ _)⟩
          case measure => simp [intOf]; omega
      · have hib : inB x 0 ((n : Int) - 1) = false := by
          cases hv : inB x 0 ((n : Int) - 1) with
          | false => rfl
          | true => rw [inB_iff] at hv; omega
        have HI := Lib.hid hib
        have HN := Lib.hid hin
        clear hib hin
        go_wp2_with fail
        go_quiet (((go_at_call 78; exact Calls.quiet_of_same (l00In_q _ _ _ false HI.out _))))
        go_wp2_with fail
        go_ret
        exact ⟨ret_bool (ordB_no HX.out (fun h => HN.out ⟨h.1, h.2.1⟩)).symm, HB.out.trans (below_drewN _ _ _)⟩
    · obtain rfl : k = m := by omega
      have HB := Lib.hid hB
      clear hB
      by_cases hmn : k = n
      · have e : ordB n os = true := by
          have := Em.out
          exact ordB_yes (by omega) (by rw [← this]; exact HG.out)
        have E := Lib.hid e
        subst hmn
        clear e
        go_wp2_with fail
        go_ret
        exact ⟨ret_bool E.out.symm, HB.out⟩
      · have e : ordB n os = false := ordB_len (by have := Em.out; omega)
        have E := Lib.hid e
        have d1 : ((k : Int) == (n : Int)) = false := by rw [beq_eq_false_iff_ne]; omega
        clear e
        go_wp2_with fail
        go_ret
        exact ⟨ret_bool E.out.symm, HB.out⟩
end Go.Proofs.YtbpipcfijbgnhaaDoor.hang
