/-
  Two errors alone: a number out of its range, and too many of something.
-/
import Derived.Test.YtdcckdfemelbiaaDoorWithinR
import Derived.Test.YtdcckdfemelbiaaDoorJoin14
namespace Go.Proofs.YtdcckdfemelbiaaDoor.fold
open Go Go.RowKit sl errs

/-- the variables of two errors -/
structure EL (w : World) (B : Nat) (e : Nat → Addr) : Prop where
  c1 : w.cell? ⟨1, 0, none⟩ = some (errV (e 1))
  c2 : w.cell? ⟨2, 0, none⟩ = some (errV (e 2))
  l1 : 1 < B
  l2 : 2 < B
theorem EL.below {w w' : World} {B : Nat} {e : Nat → Addr} (h : EL w B e) (hb : Below B w w') : EL w' B e := ⟨(hb.cell (p := ⟨_, 0, none⟩) h.l1).trans h.c1, (hb.cell (p := ⟨_, 0, none⟩) h.l2).trans h.c2, h.l1, h.l2⟩
theorem EL.er {w : World} {B : Nat} {e : Nat → Addr} (h : EL w B e) : ER w B (e 1) := ⟨h.c1, h.l1⟩
theorem errL_of {W : World} (l : List (String × DataW Unit)) (h : laidMet Tryd.prog l W) (hl : l = (listOf l).map (sent "*errors.errorString"))
    (hty : ∀ x ∈ listOf l, ∃ g, Tryd.prog.globalNamed x.1 = some g ∧ (Tryd.prog.globals[g]?).map (·.type) = some 80)
    (hk1 : ((listOf l)[0]?).bind (fun x => Tryd.prog.globalNamed x.1) = some 1) (hk2 : ((listOf l)[1]?).bind (fun x => Tryd.prog.globalNamed x.1) = some 2) : ∃ e, EL W W.heap.size e := by
  obtain ⟨ps, hv, hnd, hrows⟩ := h
  rw [hl] at hv
  obtain ⟨As, hlen, hndA, hmem, hat⟩ := sentinels Tryd.underlying80 rowE Tryd.underlying243 fldE rfl rfl Tryd.underlying9 cellsE cellsStr (listOf l) ps hty hv hnd hrows
  have one : ∀ (k g : Nat), ((listOf l)[k]?).bind (fun x => Tryd.prog.globalNamed x.1) = some g → ∃ a, W.cell? ⟨g, 0, none⟩ = some (errV a) := fun k g hk => by
    cases hx : (listOf l)[k]? with
    | none => rw [hx] at hk; cases hk
    | some x =>
      rw [hx] at hk
      obtain ⟨a, g', ha, hg, hc⟩ := hat k x hx
      have : g' = g := Option.some.inj (hg.symm.trans hk)
      subst this
      exact ⟨a, hc⟩
  obtain ⟨a1, h1⟩ := one 0 _ hk1
  obtain ⟨a2, h2⟩ := one 1 _ hk2
  exact ⟨fun i => if i = 1 then a1 else a2, h1, h2, lt_of_cell h1, lt_of_cell h2⟩
theorem vars2_of {H : Type} {enc : TypeId × Value → H} {P : Program} {W : World} {sp : Nat → Bool} {n0 n1 : String} {gs : List (DataW H)} {q : List MemPlace} (h : DataW.TrodVars enc P W sp [n0, n1] gs q) : ∃ z0 z1, gs = [z0, z1] := by
  match gs, h with
  | [z0, z1], _ => exact ⟨z0, z1, rfl⟩
  | [], h => exact h.elim
  | [_], h => obtain ⟨_, _, _, _, _, _, _, _, _, _, h, _⟩ := h; exact h.elim
  | _ :: _ :: _ :: _, h => obtain ⟨_, _, _, _, _, _, _, _, _, _, ⟨_, _, _, _, _, _, _, _, _, _, h, _⟩, _⟩ := h; exact h.elim
theorem checkFoldCount_el (A : Option Addr) (n c : Nat) (hn : n ≤ 9223372036854775807) {w : World} {B : Nat} {e : Nat → Addr} (h : EL w B e) (k : Nat) (hk : k = if 12 < n then 3 else 0) :
    Calls Tryd.prog 120 #[.slice A n c] w fun o w' => o = .returned (errOf e k) ∧ w = w' := by
  have c2 := h.c2
  by_cases hl : 12 < n
  · rw [if_pos hl] at hk
    subst hk
    go_enter Tryd.func120, Tryd.ntmps120
    go_wp2_with fail
    go_ret
    exact ⟨rfl, rfl⟩
  · rw [if_neg hl] at hk
    subst hk
    go_enter Tryd.func120, Tryd.ntmps120
    go_wp2_with fail
    go_ret
    exact ⟨rfl, rfl⟩

set_option maxHeartbeats 1000000 in
theorem foldOf_el (k : Int) {w : World} {B : Nat} {e : Nat → Addr} (h : EL w B e) (n c : Nat) (hk : (k = n ∧ n ≤ 3 ∧ c = 0) ∨ (¬ (0 ≤ k ∧ k ≤ 3) ∧ n = 0 ∧ c = 2)) :
    Calls Tryd.prog 121 #[.int .i64 k] w fun o w' => o = .returned (.tuple #[.int .u8 n, errOf e c]) ∧ w = w' := by
  rcases hk with ⟨rfl, hn, rfl⟩ | ⟨hk, rfl, rfl⟩
  · have hw : IntKind.u8.wrap (n : Int) = n := IntWalk.u8_in _ (by omega)
    have e0 : (if 0 ≤ (n : Int) ∧ (n : Int) ≤ 3 then 0 else 2) = 0 := if_pos ⟨by omega, by omega⟩
    go_enter Tryd.func121, Tryd.ntmps121
    go_wp2_with fail
    refine (checkWithin_er (n : Int) 0 3 h.er).mono ?_
    rintro o u ⟨rfl, rfl⟩
    rw [e0]
    have e1 : errOf e 0 = .nilIface := rfl
    rw [e1]
    clear e0 e1
    go_wp2_with fail
    go_ret2
    exact ⟨rfl, rfl⟩
  · have e0 : (if 0 ≤ k ∧ k ≤ 3 then 0 else 2) = 2 := if_neg hk
    clear hk
    go_enter Tryd.func121, Tryd.ntmps121
    go_wp2_with fail
    refine (checkWithin_er k 0 3 h.er).mono ?_
    rintro o u ⟨rfl, rfl⟩
    rw [e0]
    have e1 : errOf e 2 = errV (e 1) := rfl
    rw [e1]
    clear e0 e1
    go_wp2_with fail
    go_ret2
    exact ⟨rfl, rfl⟩

set_option maxRecDepth 100000 in
set_option maxHeartbeats 8000000 in
theorem foldsOf_el (A : Option Addr) (n c : Nat) (ks : List Int) (en : n = ks.length) (hn : n ≤ 1048576) {w : World} {B : Nat} {e : Nat → Addr} (h : EL w B e) (hB : B ≤ w.heap.size) (hg : Sl intS.C 1 w w.heap.size A ks) (code : Nat) (hc : code = codeE ks) :
    Calls Tryd.prog 60 #[.slice A n c] w fun o w' => ∃ v, o = .returned (.tuple #[v, errOf e code]) ∧ (code = 0 → w'.ownsRow w.heap.size 84 1 v n (ks.flatMap cU)) ∧ Below w.heap.size w w' := by
  obtain ⟨i0, hi, hz0, hz1, hz2⟩ := info_parts infoF
  obtain ⟨k0, hk0⟩ : ∃ k : Nat, k = if 12 < n then 3 else 0 := ⟨_, rfl⟩
  have En := Lib.hid en
  have HC := Lib.hid hc
  have HE := Lib.hid h
  have HK0 := Lib.hid hk0
  clear en hc h hk0
  by_cases h12 : 12 < n
  · have ek : k0 = 3 := by rw [HK0.out, if_pos h12]
    have ec : code = 3 := by rw [HC.out, codeE, if_pos (by have := En.out; omega)]
    subst ek ec
    go_enter Tryd.func60, Tryd.ntmps60
    go_wp2_with fail
    refine (checkFoldCount_el A n c (by omega) HE.out 3 HK0.out).mono ?_
    rintro o u ⟨rfl, rfl⟩
    have e0 : errOf e 3 = errV (e 2) := rfl
    rw [e0]
    go_wp2_with fail
    go_ret2
    exact ⟨_, rfl, (fun h => by cases h), Below.refl _ _⟩
  · have ek : k0 = 0 := by rw [HK0.out, if_neg h12]
    subst ek
    have hmk : ∀ u : World, (Instr.makeSlice 78 (.int .i64 (n : Int)) (.int .i64 (n : Int))).run Tryd.prog u =
        .ok (.slice (some ⟨u.heap.size, 0, none⟩) n n) (u.alloc (.cells (madeCells #[.int .u8 0] n) 84)) := fun u => by
      have h := run_make (P := Tryd.prog) u 78 84 i0 _ Tryd.underlying78 hi hz0 .i64 .i64 (n : Int) (n : Int) (by omega) (Int.le_refl _) (by rw [hz2]; omega) (by omega)
      have e : ((n : Int)).toNat = n := by omega
      rw [e] at h
      simpa [hz1, Value.cells] using h
    go_enter Tryd.func60, Tryd.ntmps60
    go_wp2_with fail
    refine (checkFoldCount_el A n c (by omega) HE.out 0 HK0.out).mono ?_
    rintro o u ⟨rfl, rfl⟩
    have e0 : errOf e 0 = .nilIface := rfl
    rw [e0]
    clear e0
    have hB0 : Below w.heap.size w (w.alloc (.cells (madeCells #[.int .u8 0] n) 84)) := (Below.refl _ _).alloc (Nat.le_refl _) _
    have hP0 : (w.alloc (.cells (madeCells #[.int .u8 0] n) 84)).ownsRow w.heap.size 84 1 (.slice (some ⟨w.heap.size, 0, none⟩) n n) n _ :=
      World.ownsRow_lit w (madeCells #[.int .u8 0] n) n (Nat.le_refl _) (by unfold maxLen; omega) (by rw [size_madeCells, Nat.mul_one])
    have HP0 := Lib.hid hP0
    clear hP0
    go_wp2_with fail
    go_loopw [20, 6, 7, 8, 9] (fun vi _ _ _ _ wr => ∃ k L, k ≤ n ∧ vi = .int .i64 (k : Nat) ∧ wr.ownsRow w.heap.size 84 1 (.slice (some ⟨w.heap.size, 0, none⟩) n n) n L ∧ Done cU 1 ks k L ∧ (∀ i x, i < k → ks[i]? = some x → inB x 0 3 = true) ∧ Below w.heap.size w wr) (fun vi _ _ _ _ _ => n - (intOf vi).toNat)
    case atStart => exact ⟨0, _, by omega, rfl, HP0.out, Done.zero _ _ _ _, fun i x hi => absurd hi (by omega), hB0⟩
    case round =>
      clear hB0 HP0
      obtain ⟨k, L, hk, rfl, hP, hD, hR, hB⟩ := hrel
      have HR := Lib.hid hR
      have HD := Lib.hid hD
      have HB := Lib.hid hB
      clear hR hD hB
      by_cases hlt : k < n
      · obtain ⟨x, hx⟩ : ∃ x, ks[k]? = some x := ⟨ks[k]'(by have := En.out; omega), List.getElem?_eq_getElem _⟩
        obtain ⟨a, rfl, hab, hat⟩ := (hg.below HB.out).at_ k x hx
        have q0 := intS.at_ hat
        have HX := Lib.hid hx
        clear hx hat
        cases hv : inB x 0 3 with
        | true =>
          have hx3 := (inB_iff _ _ _).1 hv
          have HV := Lib.hid hv
          clear hv
          obtain ⟨m, rfl⟩ : ∃ m : Nat, x = m := ⟨x.toNat, by omega⟩
          have hLL := hP.1
          obtain ⟨v0, s0⟩ : ∃ v, wr.cell? ⟨w.heap.size, k, none⟩ = some v := ⟨L[k]'(by omega), (hP.cellAt k (by omega)).trans (List.getElem?_eq_getElem _)⟩
          have f0 := hP.frozenAt k
          have HLL := Lib.hid hLL
          have HP := Lib.hid hP
          clear hLL hP
          go_wp2_with fail
          refine (foldOf_el (m : Int) (HE.out.below (HB.out.mono (by omega))) m 0 (.inl ⟨rfl, by omega, rfl⟩)).mono ?_
          rintro o u ⟨rfl, rfl⟩
          have e0 : errOf e 0 = .nilIface := rfl
          rw [e0]
          clear e0
          go_wp2_with fail
          go_roundw
          case rel =>
            have hP3 := (HP.out.stored k (.int .u8 m)).1
            refine ⟨k + 1, _, by omega, by go_num, hP3, ?_, fun i y hi hy => ?_, HB.out.setCell (p := ⟨w.heap.size, k, none⟩) (Nat.le_refl _) _⟩
            · have hd := HD.out.step (cU_len ks) HX.out (by rw [HLL.out, En.out])
              rw [Nat.mul_one] at hd
              exact hd
            · rcases Nat.lt_or_ge i k with h1 | h1
              · exact HR.out i y h1 hy
              · obtain rfl : i = k := by omega
                have := HX.out
                rw [hy] at this
                rw [Option.some.inj this]
                exact HV.out
          case measure => simp [intOf]; omega
        | false =>
          have ec : code = 2 := by
            rw [HC.out, codeE, if_neg (by have := En.out; omega), all_not (p := fun k => inB k 0 3) HX.out hv]
            rfl
          subst ec
          have hnx : ¬ (0 ≤ x ∧ x ≤ 3) := fun h => by rw [(inB_iff _ _ _).2 h] at hv; cases hv
          have HNX := Lib.hid hnx
          clear hv hnx hP
          go_wp2_with fail
          refine (foldOf_el x (HE.out.below (HB.out.mono (by omega))) 0 2 (.inr ⟨HNX.out, rfl, rfl⟩)).mono ?_
          rintro o u ⟨rfl, rfl⟩
          have e0 : errOf e 2 = errV (e 1) := rfl
          rw [e0]
          go_wp2_with fail
          go_ret2
          exact ⟨_, rfl, (fun h => by cases h), HB.out⟩
      · obtain rfl : k = n := by omega
        have ec : code = 0 := by
          rw [HC.out, codeE, if_neg (by have := En.out; omega), all_of_idx (p := fun k => inB k 0 3) fun i x hi hx => HR.out i x (by have := En.out; omega) hx]
          rfl
        subst ec
        have HP := Lib.hid hP
        clear hP
        go_wp2_with fail
        go_ret2
        have hl := En.out
        have e2 : L = ks.flatMap cU := Done.full (by rw [← hl]; exact HD.out) (cU_len ks) (by omega) (by rw [HP.out.1, hl])
        have hP := HP.out
        rw [e2] at hP
        exact ⟨_, rfl, by first | exact hP | exact fun _ => hP, HB.out⟩

end Go.Proofs.YtdcckdfemelbiaaDoor.fold
