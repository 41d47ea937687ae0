/-
  PiecesOf, the program's and the model's; stocks that are checked.
-/
import Derived.Test.YtfnlgpnocodonaaDoorJoin17
import Derived.Test.YtfnlgpnocodonaaDoorErr
import Derived.Test.YtfnlgpnocodonaaDoorJoin15
namespace Go.Proofs.YtfnlgpnocodonaaDoor.stk
open Go Go.RowKit sl row fold errs

def codeK (f : Stk) : Nat := if validS f = true then 0 else 1
def pcsR (f : Stk) : Int := if validS f = true then sumTo f 25 else 0
abbrev two (a b : Int) : Value := .tuple #[.int .i64 a, .int .i64 b]
theorem validS_iff {f : Stk} : validS f = true ↔ (∀ j, j < 25 → 0 ≤ f j) ∧ sumTo f 25 ≤ 500 := by
  simp [validS, posS_iff]
set_option maxRecDepth 100000 in
set_option maxHeartbeats 4000000 in
theorem checkStock_any (f : Stk) (hf : Fits f) {w : World} {B : Nat} {e : Nat → Addr} (h : Errs w B e) (hB : B ≤ w.heap.size) (k0 : Nat) (hk : k0 = codeK f) :
    Calls Tryd.prog 60 #[stkV f] w fun o w' => o = .returned (errOf e k0) ∧ Below w.heap.size w w' := by
  have HA := Lib.hid (StkOwn.new w f 40).toRowAt
  have B0 : Hid (Below w.heap.size w (w.alloc (.cells (stkCs f) 40))) := Lib.hid ((Below.refl _ _).alloc (Nat.le_refl _) _)
  have HE := Lib.hid h
  clear h
  unfold codeK at hk
  cases hv : validS f with
  | true =>
    rw [hv, if_pos rfl] at hk
    subst hk
    have HV := Lib.hid hv
    clear hv
    go_enter Tryd.func60, Tryd.ntmps60
    go_wp2_with (refine wpl_load_stk rfl (.tmp 1) rfl w.heap.size 0 rfl HA.out ?_)
    refine (ValidStock_any f hf _).mono ?_
    rintro o w2 ⟨rfl, hb⟩
    rw [HV.out]
    have HB := Lib.hid (below_next B0.out hb (by simp))
    clear hb
    go_wp2_with fail
    go_ret
    exact ⟨rfl, HB.out⟩
  | false =>
    rw [hv, if_neg (by decide)] at hk
    subst hk
    have HV := Lib.hid hv
    clear hv
    go_enter Tryd.func60, Tryd.ntmps60
    go_wp2_with (refine wpl_load_stk rfl (.tmp 1) rfl w.heap.size 0 rfl HA.out ?_)
    refine (ValidStock_any f hf _).mono ?_
    rintro o w2 ⟨rfl, hb⟩
    rw [HV.out]
    have HB := Lib.hid (below_next B0.out hb (by simp))
    have g0 := (HE.out.below (HB.out.mono hB)).c0
    clear hb
    go_wp2_with fail
    go_ret
    exact ⟨rfl, HB.out⟩
set_option maxRecDepth 100000 in
set_option maxHeartbeats 4000000 in
theorem PiecesOf_any (f : Stk) (hf : Fits f) {w : World} {B : Nat} {e : Nat → Addr} (h : Errs w B e) (hB : B ≤ w.heap.size) :
    Calls Tryd.prog 20 #[stkV f] w fun o w' => o = .returned (two (pcsR f) (codeK f)) ∧ Below w.heap.size w w' := by
  have HA := Lib.hid (StkOwn.new w f 40).toRowAt
  have B0 : Hid (Below w.heap.size w (w.alloc (.cells (stkCs f) 40))) := Lib.hid ((Below.refl _ _).alloc (Nat.le_refl _) _)
  have HE := Lib.hid (h.below (B0.out.mono hB))
  clear h
  obtain ⟨k0, hk0⟩ : ∃ k, k = codeK f := ⟨_, rfl⟩
  have HK := Lib.hid hk0
  rw [← hk0]
  have hb1 : B ≤ (w.alloc (.cells (stkCs f) 40)).heap.size := by simp; omega
  have HB1 := Lib.hid hb1
  clear hb1
  unfold codeK at hk0
  cases hv : validS f with
  | true =>
    rw [hv, if_pos rfl] at hk0
    have e1 : pcsR f = sumTo f 25 := by rw [pcsR, hv]; rfl
    rw [e1]
    subst hk0
    clear hv e1
    have e2 : errOf e 0 = .nilIface := rfl
    go_enter Tryd.func20, Tryd.ntmps20
    go_wp2_with (refine wpl_load_stk rfl (.tmp 1) rfl w.heap.size 0 rfl HA.out ?_)
    refine (checkStock_any f hf HE.out HB1.out 0 HK.out).mono ?_
    rintro o w2 ⟨rfl, hb⟩
    rw [e2]
    have HA2 := Lib.hid (HA.out.next hb)
    have HB := Lib.hid (below_next B0.out hb (by simp))
    clear hb
    go_wp2_with fail
    refine (pieces_any f hf w.heap.size 0 _ HA2.out).mono ?_
    rintro o w3 ⟨rfl, hb⟩
    have HB3 := Lib.hid (below_next HB.out hb (Nat.le_refl _))
    clear hb
    go_wp2_with fail
    go_ret2
    exact ⟨rfl, HB3.out⟩
  | false =>
    rw [hv, if_neg (by decide)] at hk0
    have e1 : pcsR f = 0 := by rw [pcsR, hv]; rfl
    rw [e1]
    subst hk0
    clear hv e1
    have e2 : errOf e 1 = errV (e 0) := rfl
    go_enter Tryd.func20, Tryd.ntmps20
    go_wp2_with (refine wpl_load_stk rfl (.tmp 1) rfl w.heap.size 0 rfl HA.out ?_)
    refine (checkStock_any f hf HE.out HB1.out 1 HK.out).mono ?_
    rintro o w2 ⟨rfl, hb⟩
    rw [e2]
    have HB := Lib.hid (below_next B0.out hb (by simp))
    have HE2 := Lib.hid (HE.out.below (hb.mono HB1.out))
    clear hb
    go_wp2_with fail
    refine (codeOf_any HE2.out 1 (by omega)).mono ?_
    rintro o u ⟨rfl, rfl⟩
    go_wp2_with fail
    go_ret2
    exact ⟨rfl, HB.out⟩
set_option maxRecDepth 100000 in
set_option maxHeartbeats 4000000 in
theorem PiecesOf_spec (f : Stk) (hf : Fits f) (w : World) :
    Calls Tryd.prog 18 #[stkV f] w fun o w' => o = .returned (two (pcsR f) (codeK f)) ∧ Below w.heap.size w w' := by
  have HA := Lib.hid (StkOwn.new w f 40).toRowAt
  have B0 : Hid (Below w.heap.size w (w.alloc (.cells (stkCs f) 40))) := Lib.hid ((Below.refl _ _).alloc (Nat.le_refl _) _)
  unfold pcsR codeK
  obtain ⟨v, hv⟩ : ∃ v, v = validS f := ⟨_, rfl⟩
  rw [← hv]
  have HV := Lib.hid hv
  clear hv
  go_enter Tryd.func18, Tryd.ntmps18
  go_wp2_with fail
  refine (l05Stock_any f hf w.heap.size 0 _ HA.out).mono ?_
  rintro o w2 ⟨rfl, hb⟩
  rw [← HV.out]
  have HA2 := Lib.hid (HA.out.next hb)
  have HB := Lib.hid (below_next B0.out hb (by simp))
  clear hb
  cases v with
  | false =>
    go_wp2_with fail
    go_ret2
    exact ⟨rfl, HB.out⟩
  | true =>
    go_wp2_with fail
    refine (l05Pieces_any f hf w.heap.size 0 _ HA2.out).mono ?_
    rintro o w3 ⟨rfl, hb⟩
    have HB3 := Lib.hid (below_next HB.out hb (Nat.le_refl _))
    clear hb
    go_wp2_with fail
    go_ret2
    exact ⟨rfl, HB3.out⟩
end Go.Proofs.YtfnlgpnocodonaaDoor.stk
