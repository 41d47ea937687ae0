/-
  Contracts of CheckLoads, the program's and the model's.
-/
import Derived.Test.YtekigapeekjigaaDoorRight
import Derived.Test.YtekigapeekjigaaDoorSetsOf
import Derived.Test.YtekigapeekjigaaDoorLoadK
namespace Go.Proofs.YtekigapeekjigaaDoor.mem
open Go Go.RowKit errs garS heats meet load sl

theorem right_ask {r : Nat → Int} {gs : List Gar} {fine : Bool} {hold : Int} (h : 0 = codeAsk r gs fine) (hf : ∀ x ∈ gs, x.Fits) (hfine : fine = true ↔ (1 ≤ hold ∧ hold ≤ 20000)) (ls : List Int) :
    RightB gs (msOf r gs gs.length) hold ls ↔ Right r gs hold ls := by
  have hF := ask_good h hf
  have h1 := (hfine.1 (ask_fine h)).1
  exact right_iff (msOf_meets (r := r) hF.len) hold (by omega) ls hF.len hF.meets hF.self
theorem toRules_q (r : Nat → Int) (w : World) :
    Calls Tryd.prog 16 #[.agg #[.int .u8 (r 0), .int .u8 (r 1), .int .u8 (r 2), .int .u8 (r 3), .int .u8 (r 4), .int .u8 (r 5)]] w fun o w' => o = .returned (rulesV r) ∧ Below w.heap.size w w' := rules.toRules_any r w
set_option maxRecDepth 100000 in
set_option maxHeartbeats 4000000 in
theorem CheckLoads_spec (r : Nat → Int) (hr : Six r) (hold : Int) (A : Option Addr) (n c : Nat) (gs : List Gar) (hn : n = gs.length) (hs : n ≤ 1048576) (A' : Option Addr) (m c' : Nat) (ls : List Int) (em : m = ls.length) (hm : m ≤ 1048576) (w : World) (hg : GS w w.heap.size A gs) (ho : Sl intS.C 1 w w.heap.size A' ls) (fine : Bool) (hfine : fine = true ↔ (1 ≤ hold ∧ hold ≤ 20000)) (code : Nat) (hcode : code = codeAsk r gs fine) (b : Bool) (hb : code ≠ 0 → b = false) (hb0 : code = 0 → (b = true ↔ Right r gs hold ls)) :
    Calls Tryd.prog 22 #[rulesV r, .int .i64 hold, .slice A n c, .slice A' m c'] w fun o w' => o = .returned (.tuple #[.bool b, .int .i64 code]) ∧ Below w.heap.size w w' := by
  have Hn := Lib.hid hn
  have Em := Lib.hid em
  have HF := Lib.hid hfine
  have HC := Lib.hid hcode
  have HB := Lib.hid hb
  have HB0 := Lib.hid hb0
  clear hn hfine hcode hb hb0 em
  have S0 : Hid (LS r w (w.alloc (.cells (rulesCs r) 26))) := Lib.hid ⟨SixAt.new r w 26, by simp, (Below.refl w.heap.size w).alloc (Nat.le_refl _) _⟩
  obtain ⟨⟨s0, s1, s2, s3, s4, s5⟩, _, _⟩ := S0.out
  have key : ∀ u, LS r w u → GS u u.heap.size A gs := fun u h => (hg.below h.2.2).more h.2.2.size
  have keyL : ∀ u, LS r w u → Sl intS.C 1 u u.heap.size A' ls := fun u h => (ho.below h.2.2).more h.2.2.size
  cases code with
  | zero =>
    have HZ := Lib.hid (HB0.out rfl)
    go_enter Tryd.func22, Tryd.ntmps22
    go_wp2_with fail
    go_region_held3 (fun u => LS r w u)
      (first | assumption | exact S0.out | exact S0.out.next (below_drewN _ _ 1) | exact LS.next (by assumption) hb2)
      (first
        | (go_at_call 62; refine (l01Hold_any hold _ fine HF.out).mono ?_; rintro o w2 ⟨rfl, rfl⟩)
        | (go_at_call 61; refine (l01Asked_any r hr A n c gs Hn.out hs fine _ (key _ (by assumption)) 0 HC.out).mono ?_; rintro o w2 ⟨rfl, hb2⟩)
        | fail)
    rename_i hS
    have HS := Lib.hid hS
    obtain ⟨⟨t0, t1, t2, t3, t4, t5⟩, _, _⟩ := hS
    clear s0 s1 s2 s3 s4 s5
    go_wp2_with (go_at_call 63; refine (l01Right_any r hr hold A n c gs Hn.out hs (ask_colour HC.out) A' m c' ls Em.out hm _ (key _ HS.out) (keyL _ HS.out) b HZ.out).mono ?_; rintro o w3 ⟨rfl, hb3⟩)
    go_ret2
    exact ⟨by simp, HS.out.2.2.trans (hb3.mono HS.out.2.2.size)⟩
  | succ i =>
    have hbf : b = false := HB.out (by omega)
    subst hbf
    have hne : (((i + 1 : Nat) : Int) != 0) = true := by rw [bne_iff_ne]; omega
    have hne2 : (((i : Int) + 1) != 0) = true := by rw [bne_iff_ne]; omega
    have hne3 : (((i : Int) + 1) == 0) = false := by rw [beq_eq_false_iff_ne]; omega
    have hne4 : (((i + 1 : Nat) : Int) == 0) = false := by rw [beq_eq_false_iff_ne]; omega
    go_enter Tryd.func22, Tryd.ntmps22
    go_wp2_with fail
    go_region_held3 (fun u => LS r w u)
      (first | assumption | exact S0.out | exact S0.out.next (below_drewN _ _ 1) | exact LS.next (by assumption) hb2)
      (first
        | (go_at_call 62; refine (l01Hold_any hold _ fine HF.out).mono ?_; rintro o w2 ⟨rfl, rfl⟩)
        | (go_at_call 61; refine (l01Asked_any r hr A n c gs Hn.out hs fine _ (key _ (by assumption)) (i + 1) HC.out).mono ?_; rintro o w2 ⟨rfl, hb2⟩)
        | fail)
    rename_i hS
    have HS := Lib.hid hS
    clear hS
    go_wp2_with fail
    go_ret2
    exact ⟨by simp, HS.out.2.2⟩
set_option maxRecDepth 100000 in
set_option maxHeartbeats 8000000 in
theorem CheckLoads_any (r : Nat → Int) (hr : Six r) (hold : Int) (A : Option Addr) (n c : Nat) (gs : List Gar) (en : n = gs.length) (hs : n ≤ 1048576) (A' : Option Addr) (m c' : Nat) (ls : List Int) (em : m = ls.length) (hm : m ≤ 1048576) {w : World} {B : Nat} {e : Nat → Addr} (h : Errs w B e) (hB : B ≤ w.heap.size) (hg : GS w w.heap.size A gs) (ho : Sl intS.C 1 w w.heap.size A' ls) (fine : Bool) (hfine : fine = true ↔ (1 ≤ hold ∧ hold ≤ 20000)) (code : Nat) (hcode : code = codeAsk r gs fine) (b : Bool) (hb : code ≠ 0 → b = false) (hb0 : code = 0 → (b = true ↔ RightB gs (msOf r gs n) hold ls)) :
    Calls Tryd.prog 25 #[rulesV r, .int .i64 hold, .slice A n c, .slice A' m c'] w fun o w' => o = .returned (.tuple #[.bool b, .int .i64 code]) ∧ Below w.heap.size w w' := by
  have Em := Lib.hid em
  clear em
  obtain ⟨k1, hk1⟩ : ∃ k : Nat, k = if validRB r = true then 0 else 1 := ⟨_, rfl⟩
  obtain ⟨k2, hk2⟩ : ∃ k : Nat, k = if gs.all Gar.valid = true then 0 else 1 := ⟨_, rfl⟩
  obtain ⟨k3, hk3⟩ : ∃ k : Nat, k = if 1 ≤ hold ∧ hold ≤ 20000 then 0 else 2 := ⟨_, rfl⟩
  obtain ⟨k4, hk4⟩ : ∃ k : Nat, k = if 8 < n then 3 else 0 := ⟨_, rfl⟩
  have HF : Hid (firstCode [k1, k2, k3, k4] = code) := Lib.hid ((codeAsk4 r gs hold n k1 k2 k3 k4 fine en hfine hk1 hk2 hk3 hk4).trans hcode.symm)
  have hle : code ≤ 3 := by rw [hcode]; exact codeAsk_le _ _ _
  have HC := Lib.hid hcode
  have HK1 := Lib.hid hk1
  have HK2 := Lib.hid hk2
  have HK3 := Lib.hid hk3
  have HK4 := Lib.hid hk4
  have En := Lib.hid en
  have HBB := Lib.hid hb
  have HB0 := Lib.hid hb0
  have L0 : Hid (LS r w (w.alloc (.cells (rulesCs r) 26))) := Lib.hid ⟨SixAt.new r w 26, by simp, (Below.refl w.heap.size w).alloc (Nat.le_refl _) _⟩
  obtain ⟨⟨s0, s1, s2, s3, s4, s5⟩, _, _⟩ := L0.out
  clear hk1 hk2 hk3 hk4 en hb hb0 hcode hfine
  go_enter Tryd.func25, Tryd.ntmps25
  go_wp2_with fail
  refine (checkRules_any r hr (h.below (L0.out.2.2.mono hB)) (Nat.le_trans hB L0.out.2.2.size) k1 HK1.out).mono ?_
  rintro o w1 ⟨rfl, hb1⟩
  have L1 := Lib.hid (L0.out.next hb1)
  clear hb1 s0 s1 s2 s3 s4 s5
  go_wp2_with fail
  refine (checkGarments_any A n c gs En.out hs (h.below (L1.out.2.2.mono hB)) (Nat.le_trans hB L1.out.2.2.size) ((hg.below L1.out.2.2).more L1.out.2.2.size) k2 HK2.out).mono ?_
  rintro o w2 ⟨rfl, hb2⟩
  have L2 := Lib.hid (L1.out.next hb2)
  clear hb2
  go_wp2_with fail
  refine (checkHold_any hold (h.below (L2.out.2.2.mono hB))).mono ?_
  rintro o w3 ⟨rfl, rfl⟩
  rw [← HK3.out]
  go_wp2_with fail
  refine (checkCount_any A n c hs (h.below (L2.out.2.2.mono hB))).mono ?_
  rintro o w4 ⟨rfl, rfl⟩
  rw [← HK4.out]
  go_wp2_with (refine wpList_listed rfl 148 4 _ rfl #[(0, errOf e k1), (1, errOf e k2), (2, errOf e k3), (3, errOf e k4)] ?hp (buildSlice4 e k1 k2 k3 k4 _) ?_; case hp => simp [Act.eval])
  have L3 := Lib.hid (L2.out.next ((Below.refl w2.heap.size w2).alloc (Nat.le_refl _) (.cells #[errOf e k1, errOf e k2, errOf e k3, errOf e k4] 86)))
  refine (firstOf_any e [k1, k2, k3, k4] _ 4 4 rfl (by decide) _ (cells_errs e [k1, k2, k3, k4] w2 86 #[errOf e k1, errOf e k2, errOf e k3, errOf e k4] rfl)).mono ?_
  rintro o w5 ⟨rfl, rfl⟩
  rw [HF.out]
  obtain ⟨w3, hw3⟩ : ∃ w3, w3 = w2.alloc (.cells #[errOf e k1, errOf e k2, errOf e k3, errOf e k4] 86) := ⟨_, rfl⟩
  rw [← hw3] at L3 ⊢
  have HE := Lib.hid (h.below (L3.out.2.2.mono hB))
  clear hw3
  obtain ⟨⟨s0, s1, s2, s3, s4, s5⟩, _, _⟩ := L3.out
  cases code with
  | zero =>
    have e0 : errOf e 0 = .nilIface := rfl
    rw [e0]
    have hval := ask_valid HC.out
    have hn8 : n ≤ 8 := by have := En.out; have := ask_len HC.out; omega
    clear e0 hle
    go_wp2_with fail
    refine (newBasket_any r hr hold A n c gs En.out hn8 hval _ ((hg.below L3.out.2.2).more L3.out.2.2.size)).mono ?_
    rintro o w6 ⟨rfl, hb6⟩
    have B6 := Lib.hid (L3.out.2.2.trans (hb6.mono L3.out.2.2.size))
    clear s0 s1 s2 s3 s4 s5 hb6
    go_wp2_with fail
    refine (setsOf_any A n c gs En.out hn8 (msOf r gs n) hold A' m c' ls Em.out hm _ ((hg.below B6.out).more B6.out.size) ((ho.below B6.out).more B6.out.size) b (HB0.out (by trivial))).mono ?_
    rintro o w7 ⟨rfl, hb7⟩
    have B7 := Lib.hid (B6.out.trans (hb7.mono B6.out.size))
    clear hb7
    go_wp2_with fail
    go_ret2
    exact ⟨by simp, B7.out.alloc B7.out.size _⟩
  | succ i =>
    have hbf : b = false := HBB.out (by omega)
    subst hbf
    have e0 : errOf e (i + 1) = errV (e i) := rfl
    rw [e0]
    clear e0
    go_wp2_with fail
    refine (codeOf_any HE.out (i + 1) (by omega)).mono ?_
    rintro o w7 ⟨rfl, rfl⟩
    go_wp2_with fail
    go_ret2
    exact ⟨by simp, L3.out.2.2⟩
end Go.Proofs.YtekigapeekjigaaDoor.mem
