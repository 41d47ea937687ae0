/-
  Several texts of this proof, joined.
-/
import Derived.Test.YtdcckdfemelbiaaDoorJoin31
import Derived.Laws.CopyOwn
import Derived.Deep.RegionLaw
import Derived.OrdersHeld
import Derived.Deep.RegionHeld
import Derived.Test.YtdcckdfemelbiaaDoorJoin30
/-
  slices.Repeat of one row.
-/
namespace Go.Proofs.YtdcckdfemelbiaaDoor.hou
open Go Go.RowKit sl row stk errs fold rows

/-- so many of one, and the rest still zero -/
def repL (V : Value) (k : Nat) : List Value := List.replicate k V ++ List.replicate (60 - k) (.slice none 0 0)
theorem repL_len {V : Value} {k : Nat} (h : k ≤ 60) : (repL V k).length = 60 := by simp [repL]; omega
theorem repL_full {V : Value} : repL V 60 = List.replicate 60 V := by simp [repL]
theorem repL_splice {V : Value} {k m : Nat} (hk : k + m ≤ 60) : splice (repL V k) k (List.replicate m V) = repL V (k + m) := by
  unfold splice repL
  rw [List.take_left' (by simp), List.length_replicate, List.drop_append, List.drop_eq_nil_of_le (by simp), List.nil_append, List.length_replicate, List.drop_replicate, ← List.append_assoc, List.replicate_append_replicate]
  congr 2
  omega
theorem repL_at {V : Value} {k j : Nat} (h : j < k) : (repL V k)[j]? = some V := by
  rw [repL, List.getElem?_append_left (by simpa using h), List.getElem?_replicate, if_pos h]
theorem infoRow : (Tryd.prog.info? 22).map (fun i => (i.zero, i.size, i.bytes)) = some (some (.slice none 0 0), 1, 24) := by kernel_rfl
set_option maxRecDepth 100000 in
theorem build_rows1A (A : Option Addr) (m c : Nat) (u : World) : (Instr.buildSlice 27 1 #[(0, .slice A m c)]).run Tryd.prog u = .ok (.slice (some ⟨u.heap.size, 0, none⟩) 1 1) (u.alloc (.cells #[.slice A m c] 22)) := by
  kernel_rfl
theorem sizeRow : (Tryd.prog.info? 22).map (·.size) = some 1 := by kernel_rfl
set_option maxRecDepth 100000 in
set_option maxHeartbeats 4000000 in
theorem Mul_one (w : World) : Calls Tryd.prog 156 #[.int .u64 1, .int .u64 60] w fun o w' => o = .returned (.tuple #[.int .u64 0, .int .u64 60]) ∧ w' = w := by
  have b1 : bits BinOp.and IntKind.u64 1 4294967295 = 1 := by rfl
  have b2 : bits BinOp.and IntKind.u64 60 4294967295 = 60 := by rfl
  have b3 : bits BinOp.and IntKind.u64 0 4294967295 = 0 := by rfl
  have b4 : IntKind.u64.wrap 60 = 60 := by rfl
  have b5 : IntKind.u64.wrap 0 = 0 := by rfl
  have b6 : IntKind.u64.wrap 1 = 1 := by rfl
  go_enter Tryd.func156, Tryd.ntmps156
  go_wp2_with (first | go_in | fail)
  go_ret2
  exact ⟨rfl, by trivial⟩
set_option maxRecDepth 100000 in
set_option maxHeartbeats 8000000 in
theorem Repeat_row (b : Nat) (V : Value) (hV : V.oneCell' = true) (w : World) (hb : b < w.heap.size) (hc : w.cell? ⟨b, 0, none⟩ = some V) :
    Calls Tryd.prog 118 #[.slice (some ⟨b, 0, none⟩) 1 1, .int .i64 60] w fun o w' => o = .returned (.slice (some ⟨w.heap.size, 0, none⟩) 60 60) ∧ w'.ownsRow w.heap.size 22 1 (.slice (some ⟨w.heap.size, 0, none⟩) 60 60) 60 (List.replicate 60 V) ∧ Below w.heap.size w w' := by
  obtain ⟨i0, hi, hz0, hz1, hz2⟩ := info_parts infoRow
  have hmk : ∀ (u : World), (Instr.makeSlice 27 (.int .i64 60) (.int .i64 60)).run Tryd.prog u =
      .ok (.slice (some ⟨u.heap.size, 0, none⟩) 60 60) (u.alloc (.cells (madeCells #[.slice none 0 0] 60) 22)) := fun u => by
    have h := run_make (P := Tryd.prog) u 27 22 i0 _ Tryd.underlying27 hi hz0 .i64 .i64 60 60 (by omega) (Int.le_refl _) (by rw [hz2]; omega) (by omega)
    simpa [hz1, Value.cells] using h
  obtain ⟨G, hG⟩ : ∃ G, G = w.heap.size := ⟨_, rfl⟩
  obtain ⟨u1, hu1⟩ : ∃ u, u = w.alloc (.cells (madeCells #[.slice none 0 0] 60) 22) := ⟨_, rfl⟩
  have hrow : u1.heap[G]? = some (.cells (repL V 0).toArray 22 (0, 0)) := by
    rw [hu1, hG, heap_alloc_new]
    exact congrArg (fun q => some (Obj.cells q 22 (0, 0))) (by unfold repL; kernel_rfl)
  have HROW := Lib.hid hrow
  have HB1 : Hid (Below w.heap.size w u1) := Lib.hid (by rw [hu1]; exact (Below.refl _ _).alloc (Nat.le_refl _) _)
  have hcu : u1.cell? ⟨b, 0, none⟩ = some V := (HB1.out.cell (p := ⟨b, 0, none⟩) hb).trans hc
  have hsrc : ∀ (j : Nat) (v : Value), [V][j]? = some v → u1.cell? ((⟨b, 0, none⟩ : Addr).add j) = some v := fun j v hj => by
    obtain ⟨h1, h2⟩ := List.getElem?_eq_some_iff.1 hj
    obtain rfl : j = 0 := by simp at h1; omega
    obtain rfl : V = v := h2
    simpa [Addr.add] using hcu
  have HSRC := Lib.hid hsrc
  have HG := Lib.hid hG
  have HU1 := Lib.hid hu1
  have HV1 := Lib.hid hV
  clear hb hc hrow hcu hu1 hV hsrc
  rw [← hG]
  clear hG
  go_enter Tryd.func118, Tryd.ntmps118
  go_wp2_with (first
    | (go_at_call 156; refine (Mul_one _).mono ?_; rintro o u ⟨rfl, hw⟩; obtain rfl := hw.symm; clear hw)
    | (rw [← HU1.out, ← HG.out]; go_loud (refine wpList_copy_splice rfl (.tmp 31) (.tmp 32) 27 27 rfl 22 Tryd.underlying27 sizeRow (some ⟨G, 0, none⟩) (some ⟨b, 0, none⟩) 60 60 1 1 rfl rfl G 0 (repL V 0) 22 HROW.out [V] rfl (fun _ => ⟨rfl, _, rfl, HSRC.out⟩) (by rw [repL_len (V := V) (k := 0) (by decide)]; simp) (fun v hv => by rw [List.mem_singleton.1 hv]; exact HV1.out) w.heap.size w HB1.out (by rw [← HG.out]; exact Nat.le_refl _) ?_); intro w4 hg4 hb4)
    | fail)
  have HB4 := Lib.hid hb4
  have HG4 : Hid (w4.heap[G]? = some (.cells (repL V 1).toArray 22 (0, 0))) := Lib.hid (by
    have h1 := repL_splice (V := V) (k := 0) (m := 1) (by omega)
    have h2 := hg4.out
    rw [show ([V] : List Value) = List.replicate 1 V from rfl, h1] at h2
    exact h2)
  clear hb4 hg4 HB1 HROW HU1
  go_loopw [8] (fun vk wr => ∃ k : Nat, 1 ≤ k ∧ k ≤ 60 ∧ vk = .int .i64 (k : Nat) ∧ wr.heap[G]? = some (.cells (repL V k).toArray 22 (0, 0)) ∧ Below w.heap.size w wr) (fun vk _ => 60 - (intOf vk).toNat)
  case atStart => exact ⟨1, by omega, by omega, rfl, HG4.out, HB4.out⟩
  case round =>
    clear HB4 HG4
    obtain ⟨k, hk1, hk, rfl, hrow, hB⟩ := hrel
    have HROW := Lib.hid hrow
    have HB := Lib.hid hB
    clear hrow hB
    by_cases hlt : k < 60
    · obtain ⟨m, hm⟩ : ∃ m, m = Nat.min k (60 - k) := ⟨_, rfl⟩
      have hm2 : m ≤ k ∧ m ≤ 60 - k ∧ 1 ≤ m := by
        rw [hm]
        refine ⟨Nat.min_le_left _ _, Nat.min_le_right _ _, ?_⟩
        exact Nat.le_min.2 ⟨hk1, by omega⟩
      have HM := Lib.hid hm
      have HM2 := Lib.hid hm2
      have HSRC : Hid (∀ u : World, u.heap[G]? = some (.cells (repL V k).toArray 22 (0, 0)) → ∀ (j : Nat) (v : Value), (List.replicate m V)[j]? = some v → u.cell? ((⟨G, 0, none⟩ : Addr).add j) = some v) := Lib.hid (fun u hu j v hj => by
        rw [List.getElem?_replicate] at hj
        split at hj
        · rename_i hjm
          have h1 := cell_of_row u G j _ _ _ hu
          rw [show (repL V k).toArray[j]? = (repL V k)[j]? from by simp, repL_at (by omega)] at h1
          rw [← hj, add_lit]
          exact h1
        · cases hj)
      have HFIT : Hid (k + (List.replicate m V).length ≤ (repL V k).length) := Lib.hid (by rw [repL_len (by omega), List.length_replicate]; omega)
      have HN : Hid ((List.replicate m V).length = Nat.min k (60 - k)) := Lib.hid (by rw [List.length_replicate]; exact hm)
      have HO : Hid (∀ v ∈ List.replicate m V, v.oneCell' = true) := Lib.hid (fun v hv => by rw [(List.mem_replicate.1 hv).2]; exact HV1.out)
      have k0 : (0 : Int) ≤ (k : Int) := by omega
      have k1 : (k : Int) ≤ 60 := by omega
      have k2 : ((k : Int)).toNat = k := by omega
      have k3 : ¬ k = 60 := by omega
      have H0 : Hid (wr.drew.heap[G]? = some (.cells (repL V k).toArray 22 (0, 0)) ∧ Below w.heap.size w wr.drew) := Lib.hid ⟨HROW.out, HB.out.drew⟩
      clear hm hm2
      go_wp2_with fail
      refine wp_region_held_drew (S := fun u => Below w.heap.size w u) (by kernel_rfl) H0.out.2 (fun hHeld => ?_)
      generalize wr.drew = w2 at H0 hHeld ⊢
      refine wpAnyH_take (i := 0) (v := ?_) rfl (by kernel_rfl) (by kernel_rfl) (by kernel_rfl) (fun _ _ _ h => h) (Or.inl ⟨by rfl, ?_⟩) (by assumption) ?_
      rotate_left
      · intro u hSu
        (try dsimp only at hSu)
        first | (go_simp; done) | (go_simp; with_reducible rfl)
      try simp only [Act.put, List.getElem_toArray, List.getElem_cons_zero, List.getElem_cons_succ, List.setIfInBounds_toArray, List.set_cons_zero, List.set_cons_succ]
      refine wpAnyH_take (i := 1) (v := ?_) rfl (by kernel_rfl) (by kernel_rfl) (by kernel_rfl) (fun _ _ _ h => h) (Or.inl ⟨by rfl, ?_⟩) (by assumption) ?_
      rotate_left
      · intro u hSu
        (try dsimp only at hSu)
        first | (go_simp; done) | (go_simp; with_reducible rfl)
      try simp only [Act.put, List.getElem_toArray, List.getElem_cons_zero, List.getElem_cons_succ, List.setIfInBounds_toArray, List.set_cons_zero, List.set_cons_succ]
      refine wpAnyH_take (i := 2) (v := ?_) rfl (by kernel_rfl) (by kernel_rfl) (by kernel_rfl) (fun _ _ _ h => h) (Or.inl ⟨by rfl, ?_⟩) (by assumption) ?_
      rotate_left
      · intro u hSu
        (try dsimp only at hSu)
        first | (go_simp; done) | (go_simp; with_reducible rfl)
      try simp only [Act.put, List.getElem_toArray, List.getElem_cons_zero, List.getElem_cons_succ, List.setIfInBounds_toArray, List.set_cons_zero, List.set_cons_succ]
      refine wpAnyH_take (i := 3) (v := ?_) rfl (by kernel_rfl) (by kernel_rfl) (by kernel_rfl) (fun _ _ _ h => h) (Or.inl ⟨by rfl, ?_⟩) (by assumption) ?_
      rotate_left
      · intro u hSu
        (try dsimp only at hSu)
        first | (go_simp; done) | (go_simp; with_reducible rfl)
      try simp only [Act.put, List.getElem_toArray, List.getElem_cons_zero, List.getElem_cons_succ, List.setIfInBounds_toArray, List.set_cons_zero, List.set_cons_succ]
      refine wpAnyH_take (i := 4) (v := ?_) rfl (by kernel_rfl) (by kernel_rfl) (by kernel_rfl) (fun _ _ _ h => h) (Or.inl ⟨by rfl, ?_⟩) (by assumption) ?_
      rotate_left
      · intro u hSu
        (try dsimp only at hSu)
        first | (go_simp; done) | (go_simp; with_reducible rfl)
      try simp only [Act.put, List.getElem_toArray, List.getElem_cons_zero, List.getElem_cons_succ, List.setIfInBounds_toArray, List.set_cons_zero, List.set_cons_succ]
      refine wpAnyH_take (i := 5) (v := ?_) rfl (by kernel_rfl) (by kernel_rfl) (by kernel_rfl) (fun _ _ _ h => h) (Or.inl ⟨by rfl, ?_⟩) (by assumption) ?_
      rotate_left
      · intro u hSu
        (try dsimp only at hSu)
        first | (go_simp; done) | (go_simp; with_reducible rfl)
      try simp only [Act.put, List.getElem_toArray, List.getElem_cons_zero, List.getElem_cons_succ, List.setIfInBounds_toArray, List.set_cons_zero, List.set_cons_succ]
      refine wpAnyH_take (i := 6) (v := ?_) rfl (by kernel_rfl) (by kernel_rfl) (by kernel_rfl) (fun _ _ _ h => h) (Or.inl ⟨by rfl, ?_⟩) (by assumption) ?_
      rotate_left
      · intro u hSu
        (try dsimp only at hSu)
        first | (go_simp; done) | (go_simp; with_reducible rfl)
      try simp only [Act.put, List.getElem_toArray, List.getElem_cons_zero, List.getElem_cons_succ, List.setIfInBounds_toArray, List.set_cons_zero, List.set_cons_succ]
      refine wpAnyH_ready (rs := [7]) (by kernel_rfl) (by simp) ?_
      refine AllReadyH.cons rfl (fun K hK => ?_) AllReadyH.nil
      try rw [if_neg (show ¬ 60 = k from fun h => k3 h.symm)]
      refine step_copy_splice rfl (.tmp 41) (.tmp 44) 27 27 rfl 22 Tryd.underlying27 sizeRow (some ⟨G, k, none⟩) (some ⟨G, 0, none⟩) (60 - k) (60 - k) k 60 (by rfl) (by rfl) G k (repL V k) 22 H0.out.1 (List.replicate m V) HN.out (fun _ => ⟨rfl, _, rfl, HSRC.out _ H0.out.1⟩) HFIT.out HO.out w.heap.size w hHeld (by rw [← HG.out]; exact Nat.le_refl _) ?_
      intro w4 hg4 hb4
      have h4 : w4.heap[G]? = some (.cells (repL V (k + m)).toArray 22 (0, 0)) := by
        have h1 := hg4.out
        rw [repL_splice (by have := HM2.out; omega)] at h1
        exact h1
      have HG4 := Lib.hid h4
      have HB4 := Lib.hid hb4
      have hw : IntKind.i64.wrap ((k : Int) + (m : Int)) = ((k + m : Nat) : Int) := by
        have h3 := HM2.out
        rw [Int.natCast_add]
        exact IntWalk.i64_in ((k : Int) + (m : Int)) (by omega)
      rw [List.length_replicate]
      clear hg4 hb4 h4 H0
      refine hK.out _ _ (HB4.out) (fun hHeld2 => ?_)
      clear hK K hHeld
      have hHeld := hHeld2
      clear hHeld2
      try simp only [Act.put, List.getElem_toArray, List.getElem_cons_zero, List.getElem_cons_succ, List.setIfInBounds_toArray, List.set_cons_zero, List.set_cons_succ]
      refine wpAnyH_ready (rs := [8]) (by kernel_rfl) (by simp) ?_
      refine AllReadyH.cons rfl (fun K hK => ?_) AllReadyH.nil
      go_simp
      refine hK.out _ _ (hHeld) (fun hHeld2 => ?_)
      clear hK K hHeld
      have hHeld := hHeld2
      clear hHeld2
      try simp only [Act.put, List.getElem_toArray, List.getElem_cons_zero, List.getElem_cons_succ, List.setIfInBounds_toArray, List.set_cons_zero, List.set_cons_succ]
      refine wpAnyH_ready (rs := [9]) (by kernel_rfl) (by simp) ?_
      refine AllReadyH.cons rfl (fun K hK => ?_) AllReadyH.nil
      go_simp
      refine hK.out _ _ (hHeld) (fun hHeld2 => ?_)
      clear hK K hHeld
      have hHeld := hHeld2
      clear hHeld2
      try simp only [Act.put, List.getElem_toArray, List.getElem_cons_zero, List.getElem_cons_succ, List.setIfInBounds_toArray, List.set_cons_zero, List.set_cons_succ]
      refine wpAnyH_done (by kernel_rfl) ?_ _
      go_wp2_with fail
      go_roundw
      case rel => exact ⟨k + m, by omega, by have := HM2.out; omega, by first | rfl | exact congrArg _ hw, HG4.out, HB4.out⟩
      case measure => have := HM2.out; simp only [intOf, hw]; omega
    · obtain rfl : k = 60 := by omega
      go_wp2_with fail
      go_ret
      have h1 := HROW.out
      rw [repL_full] at h1
      exact ⟨rfl, ⟨by simp, .inr ⟨G, 60, _, rfl, Nat.le_refl _, h1, Nat.le_refl _, by unfold maxLen; omega, by simp, by simp⟩⟩, by rw [HG.out]; exact HB.out⟩
end Go.Proofs.YtdcckdfemelbiaaDoor.hou

/-
  How many days a house lasts: the program's LastsFor.
-/
namespace Go.Proofs.YtdcckdfemelbiaaDoor.hou
open Go Go.RowKit sl row stk errs fold rows

/-- a row's head at a cell, so many times: rows -/
theorem ss_rep {u : World} {base k c : Nat} {v : Value} {A' : Option Addr} {c' : Nat} {ns : List Int} (hO : u.ownsRow base 22 1 v k (List.replicate k (.slice A' ns.length c'))) (hv : ∃ g, v = .slice (some ⟨g, 0, none⟩) k c) (hg : Sl intS.C 1 u u.heap.size A' ns) (hl : ns.length ≤ maxLen) :
    ∃ A, v = .slice A k c ∧ SS u u.heap.size A (List.replicate k ⟨A', c', ns⟩) := by
  obtain ⟨g, rfl⟩ := hv
  refine ⟨_, rfl, ?_, fun r hr => ?_, fun r hr => ?_⟩
  · have e1 : ∀ j : Nat, (List.replicate j (⟨A', c', ns⟩ : Rw)).flatMap Rw.C = List.replicate j (.slice A' ns.length c') := fun j => by
      induction j with
      | zero => rfl
      | succ j ih => rw [List.replicate_succ, List.replicate_succ, List.flatMap_cons, ih]; rfl
    have h1 : u.ownsRow base 22 1 (.slice (some ⟨g, 0, none⟩) k c) k ((List.replicate k (⟨A', c', ns⟩ : Rw)).flatMap Rw.C) := by rw [e1]; exact hO
    exact Sl.of_owns h1 (Rw.len _) (by decide)
  · rw [(List.mem_replicate.1 hr).2]; exact hg
  · rw [(List.mem_replicate.1 hr).2]; exact hl
theorem ss_rep0 {u : World} {base g : Nat} {A' : Option Addr} {c' : Nat} {ns : List Int} (hO : u.ownsRow base 22 1 (.slice (some ⟨g, 0, none⟩) 60 60) 60 (List.replicate 60 (.slice A' ns.length c'))) (hg : Sl intS.C 1 u u.heap.size A' ns) (hl : ns.length ≤ maxLen) : SS u u.heap.size (some ⟨g, 0, none⟩) (List.replicate 60 ⟨A', c', ns⟩) := by
  obtain ⟨A, hA, h⟩ := ss_rep hO ⟨g, rfl⟩ hg hl
  have e : A = some ⟨g, 0, none⟩ := by cases hA; rfl
  rw [e] at h
  exact h
theorem nums_rep (k : Nat) (A' : Option Addr) (c' : Nat) (ns : List Int) : nums (List.replicate k ⟨A', c', ns⟩) = List.replicate k ns := by simp [nums]
set_option maxRecDepth 100000 in
set_option maxHeartbeats 8000000 in
theorem LastsFor_any (A : Option Addr) (n c : Nat) (xs : List Stk) (t x d : Int) (en : n = xs.length) (hn : n ≤ 1048576) (hcap : n ≤ c) (hcm : c ≤ maxLen) (hf : ∀ x ∈ xs, Fits x) (ht : -32768 ≤ t ∧ t ≤ 32767) (hx : -128 ≤ x ∧ x ≤ 127) (hd : -32768 ≤ d ∧ d ≤ 32767)
    (A' : Option Addr) (m c' : Nat) (ns : List Int) (em : m = ns.length) (hm : m ≤ 1048576) {w : World} {B : Nat} {e : Nat → Addr} (h : Errs w B e) (hB : B ≤ w.heap.size) (hg : Sl stkC 25 w w.heap.size A xs) (hg' : Sl intS.C 1 w w.heap.size A' ns) :
    Calls Tryd.prog 57 #[houV (.slice A n c) t x d, .slice A' m c'] w fun o w' => o = .returned (.tuple #[.int .i64 (numLa xs t x d ns), .int .i64 (codeLa xs t x d ns : Nat)]) ∧ Below w.heap.size w w' := by
  obtain ⟨u0, hu0⟩ : ∃ u0, u0 = w.alloc (.cells #[.slice A n c, .int .i16 t, .int .i8 x, .int .i16 d] 58) := ⟨_, rfl⟩
  have hA := HouAt.new w (.slice A n c) t x d 58
  rw [← hu0] at hA
  have hb0 : Below w.heap.size w u0 := by rw [hu0]; exact (Below.refl _ _).alloc (Nat.le_refl _) _
  have HA0 := Lib.hid hA
  have HB0 := Lib.hid hb0
  have HU0 := Lib.hid hu0
  have HE : Hid (∀ u, Below w.heap.size w u → Errs u B e ∧ B ≤ u.heap.size ∧ Sl stkC 25 u u.heap.size A xs ∧ Sl intS.C 1 u u.heap.size A' ns) := Lib.hid fun u hu => ⟨h.below (hu.mono hB), Nat.le_trans hB hu.size, (hg.below hu).more hu.size, (hg'.below hu).more hu.size⟩
  obtain ⟨q, hq⟩ : ∃ q, houOk xs t x d = q := ⟨_, rfl⟩
  obtain ⟨b, hb⟩ : ∃ b, nedOk xs ns = b := ⟨_, rfl⟩
  obtain ⟨NUM, hNUM⟩ : ∃ q, numLa xs t x d ns = q := ⟨_, rfl⟩
  obtain ⟨COD, hCOD⟩ : ∃ q, codeLa xs t x d ns = q := ⟨_, rfl⟩
  obtain ⟨RES, hRES⟩ : ∃ q, lasF t x ns 60 (xs, 0) 0 = q := ⟨_, rfl⟩
  rw [hNUM, hCOD]
  have hC2 : COD = if q = true then (if b = true then 0 else 2) else 1 := by rw [← hCOD, codeLa, hq, hb]
  have hN2 : NUM = if COD = 0 then lasD RES else 0 := by rw [← hNUM, numLa, hCOD, hRES]
  have HC2 := Lib.hid hC2
  have HN2 := Lib.hid hN2
  have HNB := Lib.hid hb
  have HRES := Lib.hid hRES
  have HQ := Lib.hid hq
  have En := Lib.hid en
  have Em := Lib.hid em
  have HN := Lib.hid hn
  have HM := Lib.hid hm
  have HCP := Lib.hid (And.intro hcap hcm)
  have HFT := Lib.hid hf
  have HT := Lib.hid ht
  have HX := Lib.hid hx
  have HD := Lib.hid hd
  have c0 := hA.c0
  have c1 := hA.c1
  have c2 := hA.c2
  have c3 := hA.c3
  have hkq : (if q = true then 0 else 1) = codeO xs t x d := by rw [codeO, hq]
  have HKQ := Lib.hid hkq
  clear hu0 hA hb0 hq hb hNUM hCOD hRES hC2 hN2 hkq en em hn hm hcap hcm hf ht hx hd hg hg' h
  go_enter Tryd.func57, Tryd.ntmps57
  go_wp2_with (first | (rw [← HU0.out]) | fail)
  refine (checkHouse_any A n c xs t x d En.out HN.out HFT.out HT.out HX.out HD.out (HE.out _ HB0.out).1 (HE.out _ HB0.out).2.1 (HE.out _ HB0.out).2.2.1 _ HKQ.out).mono ?_
  rintro o w1 ⟨rfl, hb⟩
  have HA1 := Lib.hid (HA0.out.next hb)
  have HB1 := Lib.hid (below_next HB0.out hb (Nat.le_refl _))
  clear hb c0 c1 c2 c3
  cases q with
  | false =>
    obtain rfl : COD = 1 := HC2.out
    obtain rfl : NUM = 0 := HN2.out
    rw [show errOf e (if false = true then 0 else 1) = errV (e 0) from rfl]
    go_wp2_with fail
    refine (codeErr (HE.out _ HB1.out).1 0 (by omega)).mono ?_
    rintro o u ⟨rfl, hw⟩
    obtain rfl := hw.symm
    clear hw
    go_wp2_with fail
    go_ret2
    exact ⟨rfl, HB1.out⟩
  | true =>
    have HCG : Hid (codeG xs t x 0 (List.replicate 60 ns) = if b = true then 0 else 2) := Lib.hid (by rw [codeG_rep HQ.out, HNB.out])
    have s3 := HA1.out.c3
    have f3 := HA1.out.fz 3
    obtain ⟨w2, hw2⟩ : ∃ u, u = w1.setCell ⟨w.heap.size, 3, none⟩ (.int .i16 0) := ⟨_, rfl⟩
    have hA2 : HouAt w2 w.heap.size (.slice A n c) t x 0 := by rw [hw2]; exact HA1.out.day 0
    have HB2 : Hid (Below w.heap.size w w2) := Lib.hid (by rw [hw2]; exact HB1.out.setCell (p := ⟨w.heap.size, 3, none⟩) (Nat.le_refl _) _)
    have HA2 := Lib.hid hA2
    have HW2 := Lib.hid hw2
    rw [show errOf e (if true = true then 0 else 1) = .nilIface from rfl]
    clear hw2 hA2
    go_wp2_with (first | (rw [← HW2.out]) | fail)
    have hA3 := HA2.out.next (Below.refl _ _).drew
    have hB3 := HB2.out.drew
    refine wp_region_held_drew (S := fun u => HouAt u w.heap.size (.slice A n c) t x 0) (by kernel_rfl) hA3 (fun hHeld => ?_)
    generalize w2.drew = w3 at hA3 hB3 hHeld ⊢
    have HB3 := Lib.hid hB3
    have HA3 := Lib.hid hA3
    clear hA3 hB3 HA2 HB2 HA1 HB1 HW2 s3 f3
    refine wpAnyH_take (i := 0) (v := houV (.slice A n c) t x 0) rfl (by kernel_rfl) (by kernel_rfl) (by kernel_rfl) (fun _ _ _ h => h) (yieldsIf_load_mid (by rfl) 58 (.tmp 2) rfl w.heap.size 0 rfl (houL (.slice A n c) t x 0) _ (fun u h => h.range) Tryd.underlying58 rfl infoH) hHeld ?_
    (try simp only [Act.put, List.getElem_toArray, List.getElem_cons_zero, List.getElem_cons_succ, List.setIfInBounds_toArray, List.set_cons_zero, List.set_cons_succ])
    refine wpAnyH_take (i := 1) (v := ?_) rfl (by kernel_rfl) (by kernel_rfl) (by kernel_rfl) (fun _ _ _ h => h) (Or.inl ⟨by rfl, ?_⟩) (by assumption) ?_
    rotate_left
    · intro u hSu
      (try dsimp only at hSu)
      first | (go_simp; done) | (go_simp; with_reducible rfl)
    try simp only [Act.put, List.getElem_toArray, List.getElem_cons_zero, List.getElem_cons_succ, List.setIfInBounds_toArray, List.set_cons_zero, List.set_cons_succ]
    refine wpAnyH_ready (rs := [2, 9]) (by kernel_rfl) (by simp) ?_
    refine AllReadyH.cons rfl (fun K hK => ?_) (AllReadyH.cons rfl (fun K hK => ?_) AllReadyH.nil)
    · rw [if_pos (by kernel_rfl)]
      refine wp_listed' 27 1 _ rfl #[(0, .slice A' m c')] ?hp (build_rows1A A' m c' _) ?_
      case hp => simp [Act.eval, Act.put]
      obtain ⟨w4, hwj⟩ : ∃ u, u = w3.alloc (.cells #[.slice A' m c'] 22) := ⟨_, rfl⟩
      have hb : Below w3.heap.size w3 w4 := by rw [hwj]; exact (Below.refl _ _).alloc (Nat.le_refl _) _
      have HC4 : Hid (w4.cell? ⟨w3.heap.size, 0, none⟩ = some (.slice A' m c') ∧ w3.heap.size < w4.heap.size) := Lib.hid (by rw [hwj]; exact ⟨cell_of_row _ _ 0 _ _ _ (heap_alloc_new w3 _), by simp⟩)
      rw [← hwj]
      have HB4 := Lib.hid (below_next HB3.out hb (Nat.le_refl _))
      clear hwj
      refine hK.out _ _ (hHeld.next hb) (fun hHeld2 => ?_)
      clear hK K hHeld
      have hHeld := hHeld2
      clear hHeld2
      try simp only [Act.put, List.getElem_toArray, List.getElem_cons_zero, List.getElem_cons_succ, List.setIfInBounds_toArray, List.set_cons_zero, List.set_cons_succ]
      clear hb
      generalize w3.heap.size = bl at HC4 ⊢
      refine wpAnyH_ready (rs := [3, 9]) (by kernel_rfl) (by simp) ?_
      refine AllReadyH.cons rfl (fun K hK => ?_) (AllReadyH.cons rfl (fun K hK => ?_) AllReadyH.nil)
      · go_simp
        refine (Repeat_row bl (.slice A' m c') rfl w4 HC4.out.2 HC4.out.1).mono ?_
        rintro o w5 ⟨rfl, hO, hb⟩
        have HB5 := Lib.hid (below_next HB4.out hb (Nat.le_refl _))
        have HS5 : Hid (SS w5 w5.heap.size (some ⟨w4.heap.size, 0, none⟩) (List.replicate 60 ⟨A', c', ns⟩)) := Lib.hid (ss_rep0 (by rw [← Em.out]; exact hO) (HE.out _ HB5.out).2.2.2 (by have := Em.out; have := HM.out; unfold maxLen; omega))
        refine hK.out _ _ (hHeld.next hb) (fun hHeld2 => ?_)
        clear hK K hHeld
        have hHeld := hHeld2
        clear hHeld2
        try simp only [Act.put, List.getElem_toArray, List.getElem_cons_zero, List.getElem_cons_succ, List.setIfInBounds_toArray, List.set_cons_zero, List.set_cons_succ]
        clear hb hO
        generalize w4.heap.size = gr at HS5 ⊢
        refine wpAnyH_ready (rs := [4, 9]) (by kernel_rfl) (by simp) ?_
        refine AllReadyH.cons rfl (fun K hK => ?_) (AllReadyH.cons rfl (fun K hK => ?_) AllReadyH.nil)
        · go_simp
          have hgo := goThrough_any A n c xs t x 0 En.out HN.out HCP.out.1 HCP.out.2 HFT.out HT.out HX.out (by omega) (some ⟨gr, 0, none⟩) 60 60 (List.replicate 60 ⟨A', c', ns⟩) (by simp) (by omega) (HE.out _ HB5.out).1 (HE.out _ HB5.out).2.1 (HE.out _ HB5.out).2.2.1 HS5.out
          rw [nums_rep] at hgo
          refine hgo.mono ?_
          clear hgo
          rintro o w6 (⟨i, hc, rfl, hb⟩ | ⟨hc, v, vs, rs', rfl, hKo, hn', hO, hb⟩)
          · rw [HCG.out] at hc
            cases b with
            | true => cases hc
            | false =>
              obtain rfl : i = 1 := by have h1 : (2 : Nat) = i + 1 := hc; omega
              obtain rfl : COD = 2 := HC2.out
              obtain rfl : NUM = 0 := HN2.out
              have HB6 := Lib.hid (below_next HB5.out hb (Nat.le_refl _))
              refine hK.out _ _ (hHeld.next hb) (fun hHeld2 => ?_)
              clear hK K hHeld
              have hHeld := hHeld2
              clear hHeld2
              try simp only [Act.put, List.getElem_toArray, List.getElem_cons_zero, List.getElem_cons_succ, List.setIfInBounds_toArray, List.set_cons_zero, List.set_cons_succ]
              clear hb hc
              refine wpAnyH_take (i := 5) (v := ?_) rfl (by kernel_rfl) (by kernel_rfl) (by kernel_rfl) (fun _ _ _ h => h) (Or.inl ⟨by rfl, ?_⟩) (by assumption) ?_
              rotate_left
              · intro u hSu
                (try dsimp only at hSu)
                first | (go_simp; done) | (go_simp; with_reducible rfl)
              try simp only [Act.put, List.getElem_toArray, List.getElem_cons_zero, List.getElem_cons_succ, List.setIfInBounds_toArray, List.set_cons_zero, List.set_cons_succ]
              refine wpAnyH_take (i := 6) (v := ?_) rfl (by kernel_rfl) (by kernel_rfl) (by kernel_rfl) (fun _ _ _ h => h) (Or.inl ⟨by rfl, ?_⟩) (by assumption) ?_
              rotate_left
              · intro u hSu
                (try dsimp only at hSu)
                first | (go_simp; done) | (go_simp; with_reducible rfl)
              try simp only [Act.put, List.getElem_toArray, List.getElem_cons_zero, List.getElem_cons_succ, List.setIfInBounds_toArray, List.set_cons_zero, List.set_cons_succ]
              refine wpAnyH_take (i := 7) (v := ?_) rfl (by kernel_rfl) (by kernel_rfl) (by kernel_rfl) (fun _ _ _ h => h) (Or.inl ⟨by rfl, ?_⟩) (by assumption) ?_
              rotate_left
              · intro u hSu
                (try dsimp only at hSu)
                first | (go_simp; done) | (go_simp; with_reducible rfl)
              try simp only [Act.put, List.getElem_toArray, List.getElem_cons_zero, List.getElem_cons_succ, List.setIfInBounds_toArray, List.set_cons_zero, List.set_cons_succ]
              refine wpAnyH_take (i := 8) (v := ?_) rfl (by kernel_rfl) (by kernel_rfl) (by kernel_rfl) (fun _ _ _ h => h) (Or.inl ⟨by rfl, ?_⟩) (by assumption) ?_
              rotate_left
              · intro u hSu
                (try dsimp only at hSu)
                first | (go_simp; done) | (go_simp; with_reducible rfl)
              try simp only [Act.put, List.getElem_toArray, List.getElem_cons_zero, List.getElem_cons_succ, List.setIfInBounds_toArray, List.set_cons_zero, List.set_cons_succ]
              refine wpAnyH_ready (rs := [9]) (by kernel_rfl) (by simp) ?_
              refine AllReadyH.cons rfl (fun K hK => ?_) AllReadyH.nil
              go_simp
              obtain ⟨w7, hwj⟩ : ∃ u, u = w6.alloc (.cells #[.slice none 0 0, .int .i16 0, .int .i8 0, .int .i16 0] 58) := ⟨_, rfl⟩
              have hb : Below w6.heap.size w6 w7 := by rw [hwj]; exact (Below.refl _ _).alloc (Nat.le_refl _) _
              have HD7 : Hid (HouAt w7 w6.heap.size (.slice none 0 0) 0 0 0) := Lib.hid (by rw [hwj]; exact HouAt.new w6 _ 0 0 0 _)
              have HLD : Hid (w.heap.size < w6.heap.size) := Lib.hid hHeld.lt
              rw [← hwj]
              have HB7 := Lib.hid (below_next HB6.out hb (Nat.le_refl _))
              clear hwj
              refine hK.out _ _ (hHeld.next hb) (fun hHeld2 => ?_)
              clear hK K hHeld
              have hHeld := hHeld2
              clear hHeld2
              try simp only [Act.put, List.getElem_toArray, List.getElem_cons_zero, List.getElem_cons_succ, List.setIfInBounds_toArray, List.set_cons_zero, List.set_cons_succ]
              clear hb
              have a0 := HD7.out.c0
              have a1 := HD7.out.c1
              have a2 := HD7.out.c2
              have a3 := HD7.out.c3
              have f0 := HD7.out.fz 0
              have f1 := HD7.out.fz 1
              have f2 := HD7.out.fz 2
              have f3 := HD7.out.fz 3
              refine wpAnyH_ready (rs := [10]) (by kernel_rfl) (by simp) ?_
              refine AllReadyH.cons rfl (fun K hK => ?_) AllReadyH.nil
              go_simp
              have hbs : Below (w.heap.size + 1) w7 (w7.setCells w6.heap.size 0 (houL (.slice none 0 0) 0 0 0)) := below_cells (Below.refl _ _) HLD.out _ _
              have HBZ : Hid (Below w.heap.size w (w7.setCells w6.heap.size 0 (houL (.slice none 0 0) 0 0 0))) := Lib.hid (below_cells HB7.out (Nat.le_of_lt HLD.out) _ _)
              refine hK.out _ _ (hHeld.below hbs (Nat.lt_succ_self _)) (fun hHeld2 => ?_)
              clear hK K hHeld
              have hHeld := hHeld2
              clear hHeld2
              try simp only [Act.put, List.getElem_toArray, List.getElem_cons_zero, List.getElem_cons_succ, List.setIfInBounds_toArray, List.set_cons_zero, List.set_cons_succ]
              clear hbs a0 a1 a2 a3 f0 f1 f2 f3
              refine wpAnyH_ready (rs := [11]) (by kernel_rfl) (by simp) ?_
              refine AllReadyH.cons rfl (fun K hK => ?_) AllReadyH.nil
              go_simp
              refine hK.out _ _ (hHeld) (fun hHeld2 => ?_)
              clear hK K hHeld
              have hHeld := hHeld2
              clear hHeld2
              try simp only [Act.put, List.getElem_toArray, List.getElem_cons_zero, List.getElem_cons_succ, List.setIfInBounds_toArray, List.set_cons_zero, List.set_cons_succ]
              refine wpAnyH_ready (rs := [12]) (by kernel_rfl) (by simp) ?_
              refine AllReadyH.cons rfl (fun K hK => ?_) AllReadyH.nil
              go_simp
              refine hK.out _ _ (hHeld) (fun hHeld2 => ?_)
              clear hK K hHeld
              have hHeld := hHeld2
              clear hHeld2
              try simp only [Act.put, List.getElem_toArray, List.getElem_cons_zero, List.getElem_cons_succ, List.setIfInBounds_toArray, List.set_cons_zero, List.set_cons_succ]
              refine wpAnyH_done (by kernel_rfl) ?_ _
              go_wp2_with fail
              refine (codeErr (HE.out _ HBZ.out).1 1 (by omega)).mono ?_
              rintro o u ⟨rfl, hw⟩
              obtain rfl := hw.symm
              clear hw
              go_wp2_with fail
              go_ret2
              exact ⟨rfl, HBZ.out⟩
          · rw [HCG.out] at hc
            cases b with
            | false => cases hc
            | true =>
              obtain rfl : COD = 0 := HC2.out
              obtain rfl : NUM = lasD RES := HN2.out
              obtain ⟨Ab, cb, rfl, hS⟩ := hKo.sl
              obtain ⟨As, cs, rfl, _⟩ := owns_slice hO.outer
              have HRO : Hid (RES = fd (nums rs') 0) := Lib.hid (by rw [hn', ← HRES.out]; rfl)
              have hlen : rs'.length ≤ 9223372036854775807 := by have h7 := congrArg List.length hn'; rw [shs_lenLa, nums, List.length_map, List.length_replicate] at h7; omega
              have HLN := Lib.hid hlen
              generalize (finS t x (List.replicate 60 ns) (xs, 0)).2 = d2 at hKo ⊢
              generalize (finS t x (List.replicate 60 ns) (xs, 0)).1.length = lb at hS ⊢
              have HOW6 := Lib.hid hO
              have HB6 := Lib.hid (below_next HB5.out hb (Nat.le_refl _))
              refine hK.out _ _ (hHeld.next hb) (fun hHeld2 => ?_)
              clear hK K hHeld
              have hHeld := hHeld2
              clear hHeld2
              try simp only [Act.put, List.getElem_toArray, List.getElem_cons_zero, List.getElem_cons_succ, List.setIfInBounds_toArray, List.set_cons_zero, List.set_cons_succ]
              clear hb hn' hO hS hKo hlen
              refine wpAnyH_take (i := 5) (v := ?_) rfl (by kernel_rfl) (by kernel_rfl) (by kernel_rfl) (fun _ _ _ h => h) (Or.inl ⟨by rfl, ?_⟩) (by assumption) ?_
              rotate_left
              · intro u hSu
                (try dsimp only at hSu)
                first | (go_simp; done) | (go_simp; with_reducible rfl)
              try simp only [Act.put, List.getElem_toArray, List.getElem_cons_zero, List.getElem_cons_succ, List.setIfInBounds_toArray, List.set_cons_zero, List.set_cons_succ]
              refine wpAnyH_take (i := 6) (v := ?_) rfl (by kernel_rfl) (by kernel_rfl) (by kernel_rfl) (fun _ _ _ h => h) (Or.inl ⟨by rfl, ?_⟩) (by assumption) ?_
              rotate_left
              · intro u hSu
                (try dsimp only at hSu)
                first | (go_simp; done) | (go_simp; with_reducible rfl)
              try simp only [Act.put, List.getElem_toArray, List.getElem_cons_zero, List.getElem_cons_succ, List.setIfInBounds_toArray, List.set_cons_zero, List.set_cons_succ]
              refine wpAnyH_take (i := 7) (v := ?_) rfl (by kernel_rfl) (by kernel_rfl) (by kernel_rfl) (fun _ _ _ h => h) (Or.inl ⟨by rfl, ?_⟩) (by assumption) ?_
              rotate_left
              · intro u hSu
                (try dsimp only at hSu)
                first | (go_simp; done) | (go_simp; with_reducible rfl)
              try simp only [Act.put, List.getElem_toArray, List.getElem_cons_zero, List.getElem_cons_succ, List.setIfInBounds_toArray, List.set_cons_zero, List.set_cons_succ]
              refine wpAnyH_take (i := 8) (v := ?_) rfl (by kernel_rfl) (by kernel_rfl) (by kernel_rfl) (fun _ _ _ h => h) (Or.inl ⟨by rfl, ?_⟩) (by assumption) ?_
              rotate_left
              · intro u hSu
                (try dsimp only at hSu)
                first | (go_simp; done) | (go_simp; with_reducible rfl)
              try simp only [Act.put, List.getElem_toArray, List.getElem_cons_zero, List.getElem_cons_succ, List.setIfInBounds_toArray, List.set_cons_zero, List.set_cons_succ]
              refine wpAnyH_ready (rs := [9]) (by kernel_rfl) (by simp) ?_
              refine AllReadyH.cons rfl (fun K hK => ?_) AllReadyH.nil
              go_simp
              obtain ⟨w7, hwj⟩ : ∃ u, u = w6.alloc (.cells #[.slice none 0 0, .int .i16 0, .int .i8 0, .int .i16 0] 58) := ⟨_, rfl⟩
              have hb : Below w6.heap.size w6 w7 := by rw [hwj]; exact (Below.refl _ _).alloc (Nat.le_refl _) _
              have HD7 : Hid (HouAt w7 w6.heap.size (.slice none 0 0) 0 0 0) := Lib.hid (by rw [hwj]; exact HouAt.new w6 _ 0 0 0 _)
              have HLD : Hid (w.heap.size < w6.heap.size) := Lib.hid hHeld.lt
              have HSS : Hid (SS w7 w6.heap.size As rs') := Lib.hid (HOW6.out.os.ss.below hb)
              have HB7 := Lib.hid (below_next HB6.out hb (Nat.le_refl _))
              rw [← hwj]
              clear hwj
              refine hK.out _ _ (hHeld.next hb) (fun hHeld2 => ?_)
              clear hK K hHeld
              have hHeld := hHeld2
              clear hHeld2
              try simp only [Act.put, List.getElem_toArray, List.getElem_cons_zero, List.getElem_cons_succ, List.setIfInBounds_toArray, List.set_cons_zero, List.set_cons_succ]
              clear hb
              have a0 := HD7.out.c0
              have a1 := HD7.out.c1
              have a2 := HD7.out.c2
              have a3 := HD7.out.c3
              have f0 := HD7.out.fz 0
              have f1 := HD7.out.fz 1
              have f2 := HD7.out.fz 2
              have f3 := HD7.out.fz 3
              refine wpAnyH_ready (rs := [10]) (by kernel_rfl) (by simp) ?_
              refine AllReadyH.cons rfl (fun K hK => ?_) AllReadyH.nil
              go_simp
              have hbs : Below (w.heap.size + 1) w7 (w7.setCells w6.heap.size 0 (houL (.slice Ab lb cb) t x d2)) := below_cells (Below.refl _ _) HLD.out _ _
              have HBZ : Hid (Below w.heap.size w (w7.setCells w6.heap.size 0 (houL (.slice Ab lb cb) t x d2))) := Lib.hid (below_cells HB7.out (Nat.le_of_lt HLD.out) _ _)
              refine hK.out _ _ (hHeld.below hbs (Nat.lt_succ_self _)) (fun hHeld2 => ?_)
              clear hK K hHeld
              have hHeld := hHeld2
              clear hHeld2
              try simp only [Act.put, List.getElem_toArray, List.getElem_cons_zero, List.getElem_cons_succ, List.setIfInBounds_toArray, List.set_cons_zero, List.set_cons_succ]
              clear hbs a0 a1 a2 a3 f0 f1 f2 f3
              have HSZ : Hid (∃ BB, SS (w7.setCells w6.heap.size 0 (houL (.slice Ab lb cb) t x d2)) BB As rs') := Lib.hid ⟨_, HSS.out.below (below_cells (Below.refl _ _) (Nat.le_refl _) _ _)⟩
              obtain ⟨BB, hSZ⟩ := HSZ.out
              have HSQ := Lib.hid hSZ
              clear hSZ
              refine wpAnyH_ready (rs := [11]) (by kernel_rfl) (by simp) ?_
              refine AllReadyH.cons rfl (fun K hK => ?_) AllReadyH.nil
              go_simp
              refine hK.out _ _ (hHeld) (fun hHeld2 => ?_)
              clear hK K hHeld
              have hHeld := hHeld2
              clear hHeld2
              try simp only [Act.put, List.getElem_toArray, List.getElem_cons_zero, List.getElem_cons_succ, List.setIfInBounds_toArray, List.set_cons_zero, List.set_cons_succ]
              refine wpAnyH_ready (rs := [12]) (by kernel_rfl) (by simp) ?_
              refine AllReadyH.cons rfl (fun K hK => ?_) AllReadyH.nil
              go_simp
              refine hK.out _ _ (hHeld) (fun hHeld2 => ?_)
              clear hK K hHeld
              have hHeld := hHeld2
              clear hHeld2
              try simp only [Act.put, List.getElem_toArray, List.getElem_cons_zero, List.getElem_cons_succ, List.setIfInBounds_toArray, List.set_cons_zero, List.set_cons_succ]
              refine wpAnyH_done (by kernel_rfl) ?_ _
              go_wp2_with fail
              refine (firstShort_any As rs'.length cs rs' rfl HLN.out _ _ HSQ.out RES HRO.out).mono ?_
              rintro o u ⟨rfl, hw⟩
              obtain rfl := hw.symm
              clear hw
              cases RES with
              | none =>
                go_wp2_with fail
                go_ret2
                exact ⟨rfl, HBZ.out⟩
              | some p =>
                go_wp2_with fail
                go_ret2
                exact ⟨rfl, HBZ.out⟩
        · go_simp
          obtain ⟨w6, hwj⟩ : ∃ u, u = w5.alloc (.cells #[.slice none 0 0, .int .i16 0, .int .i8 0, .int .i16 0] 58) := ⟨_, rfl⟩
          have hb : Below w5.heap.size w5 w6 := by rw [hwj]; exact (Below.refl _ _).alloc (Nat.le_refl _) _
          have HD6 : Hid (HouAt w6 w5.heap.size (.slice none 0 0) 0 0 0) := Lib.hid (by rw [hwj]; exact HouAt.new w5 _ 0 0 0 _)
          have HLD : Hid (w.heap.size < w5.heap.size) := Lib.hid hHeld.lt
          rw [← hwj]
          have HB6 := Lib.hid (below_next HB5.out hb (Nat.le_refl _))
          have HS6 := Lib.hid (HS5.out.next hb)
          clear hwj
          refine hK.out _ _ (hHeld.next hb) (fun hHeld2 => ?_)
          clear hK K hHeld
          have hHeld := hHeld2
          clear hHeld2
          try simp only [Act.put, List.getElem_toArray, List.getElem_cons_zero, List.getElem_cons_succ, List.setIfInBounds_toArray, List.set_cons_zero, List.set_cons_succ]
          clear hb
          refine wpAnyH_ready (rs := [4]) (by kernel_rfl) (by simp) ?_
          refine AllReadyH.cons rfl (fun K hK => ?_) AllReadyH.nil
          go_simp
          have hgo := goThrough_any A n c xs t x 0 En.out HN.out HCP.out.1 HCP.out.2 HFT.out HT.out HX.out (by omega) (some ⟨gr, 0, none⟩) 60 60 (List.replicate 60 ⟨A', c', ns⟩) (by simp) (by omega) (HE.out _ HB6.out).1 (HE.out _ HB6.out).2.1 (HE.out _ HB6.out).2.2.1 HS6.out
          rw [nums_rep] at hgo
          refine hgo.mono ?_
          clear hgo
          rintro o w7 (⟨i, hc, rfl, hb⟩ | ⟨hc, v, vs, rs', rfl, hKo, hn', hO, hb⟩)
          · rw [HCG.out] at hc
            cases b with
            | true => cases hc
            | false =>
              obtain rfl : i = 1 := by have h1 : (2 : Nat) = i + 1 := hc; omega
              obtain rfl : COD = 2 := HC2.out
              obtain rfl : NUM = 0 := HN2.out
              have HB7 := Lib.hid (below_next HB6.out hb (Nat.le_refl _))
              have HD7 := Lib.hid (HD6.out.next hb)
              refine hK.out _ _ (hHeld.next hb) (fun hHeld2 => ?_)
              clear hK K hHeld
              have hHeld := hHeld2
              clear hHeld2
              try simp only [Act.put, List.getElem_toArray, List.getElem_cons_zero, List.getElem_cons_succ, List.setIfInBounds_toArray, List.set_cons_zero, List.set_cons_succ]
              clear hb hc
              refine wpAnyH_take (i := 5) (v := ?_) rfl (by kernel_rfl) (by kernel_rfl) (by kernel_rfl) (fun _ _ _ h => h) (Or.inl ⟨by rfl, ?_⟩) (by assumption) ?_
              rotate_left
              · intro u hSu
                (try dsimp only at hSu)
                first | (go_simp; done) | (go_simp; with_reducible rfl)
              try simp only [Act.put, List.getElem_toArray, List.getElem_cons_zero, List.getElem_cons_succ, List.setIfInBounds_toArray, List.set_cons_zero, List.set_cons_succ]
              refine wpAnyH_take (i := 6) (v := ?_) rfl (by kernel_rfl) (by kernel_rfl) (by kernel_rfl) (fun _ _ _ h => h) (Or.inl ⟨by rfl, ?_⟩) (by assumption) ?_
              rotate_left
              · intro u hSu
                (try dsimp only at hSu)
                first | (go_simp; done) | (go_simp; with_reducible rfl)
              try simp only [Act.put, List.getElem_toArray, List.getElem_cons_zero, List.getElem_cons_succ, List.setIfInBounds_toArray, List.set_cons_zero, List.set_cons_succ]
              refine wpAnyH_take (i := 7) (v := ?_) rfl (by kernel_rfl) (by kernel_rfl) (by kernel_rfl) (fun _ _ _ h => h) (Or.inl ⟨by rfl, ?_⟩) (by assumption) ?_
              rotate_left
              · intro u hSu
                (try dsimp only at hSu)
                first | (go_simp; done) | (go_simp; with_reducible rfl)
              try simp only [Act.put, List.getElem_toArray, List.getElem_cons_zero, List.getElem_cons_succ, List.setIfInBounds_toArray, List.set_cons_zero, List.set_cons_succ]
              refine wpAnyH_take (i := 8) (v := ?_) rfl (by kernel_rfl) (by kernel_rfl) (by kernel_rfl) (fun _ _ _ h => h) (Or.inl ⟨by rfl, ?_⟩) (by assumption) ?_
              rotate_left
              · intro u hSu
                (try dsimp only at hSu)
                first | (go_simp; done) | (go_simp; with_reducible rfl)
              try simp only [Act.put, List.getElem_toArray, List.getElem_cons_zero, List.getElem_cons_succ, List.setIfInBounds_toArray, List.set_cons_zero, List.set_cons_succ]
              have a0 := HD7.out.c0
              have a1 := HD7.out.c1
              have a2 := HD7.out.c2
              have a3 := HD7.out.c3
              have f0 := HD7.out.fz 0
              have f1 := HD7.out.fz 1
              have f2 := HD7.out.fz 2
              have f3 := HD7.out.fz 3
              refine wpAnyH_ready (rs := [10]) (by kernel_rfl) (by simp) ?_
              refine AllReadyH.cons rfl (fun K hK => ?_) AllReadyH.nil
              go_simp
              have hbs : Below (w.heap.size + 1) w7 (w7.setCells w5.heap.size 0 (houL (.slice none 0 0) 0 0 0)) := below_cells (Below.refl _ _) HLD.out _ _
              have HBZ : Hid (Below w.heap.size w (w7.setCells w5.heap.size 0 (houL (.slice none 0 0) 0 0 0))) := Lib.hid (below_cells HB7.out (Nat.le_of_lt HLD.out) _ _)
              refine hK.out _ _ (hHeld.below hbs (Nat.lt_succ_self _)) (fun hHeld2 => ?_)
              clear hK K hHeld
              have hHeld := hHeld2
              clear hHeld2
              try simp only [Act.put, List.getElem_toArray, List.getElem_cons_zero, List.getElem_cons_succ, List.setIfInBounds_toArray, List.set_cons_zero, List.set_cons_succ]
              clear hbs a0 a1 a2 a3 f0 f1 f2 f3
              refine wpAnyH_ready (rs := [11]) (by kernel_rfl) (by simp) ?_
              refine AllReadyH.cons rfl (fun K hK => ?_) AllReadyH.nil
              go_simp
              refine hK.out _ _ (hHeld) (fun hHeld2 => ?_)
              clear hK K hHeld
              have hHeld := hHeld2
              clear hHeld2
              try simp only [Act.put, List.getElem_toArray, List.getElem_cons_zero, List.getElem_cons_succ, List.setIfInBounds_toArray, List.set_cons_zero, List.set_cons_succ]
              refine wpAnyH_ready (rs := [12]) (by kernel_rfl) (by simp) ?_
              refine AllReadyH.cons rfl (fun K hK => ?_) AllReadyH.nil
              go_simp
              refine hK.out _ _ (hHeld) (fun hHeld2 => ?_)
              clear hK K hHeld
              have hHeld := hHeld2
              clear hHeld2
              try simp only [Act.put, List.getElem_toArray, List.getElem_cons_zero, List.getElem_cons_succ, List.setIfInBounds_toArray, List.set_cons_zero, List.set_cons_succ]
              refine wpAnyH_done (by kernel_rfl) ?_ _
              go_wp2_with fail
              refine (codeErr (HE.out _ HBZ.out).1 1 (by omega)).mono ?_
              rintro o u ⟨rfl, hw⟩
              obtain rfl := hw.symm
              clear hw
              go_wp2_with fail
              go_ret2
              exact ⟨rfl, HBZ.out⟩
          · rw [HCG.out] at hc
            cases b with
            | false => cases hc
            | true =>
              obtain rfl : COD = 0 := HC2.out
              obtain rfl : NUM = lasD RES := HN2.out
              obtain ⟨Ab, cb, rfl, hS⟩ := hKo.sl
              obtain ⟨As, cs, rfl, _⟩ := owns_slice hO.outer
              have HRO : Hid (RES = fd (nums rs') 0) := Lib.hid (by rw [hn', ← HRES.out]; rfl)
              have hlen : rs'.length ≤ 9223372036854775807 := by have h7 := congrArg List.length hn'; rw [shs_lenLa, nums, List.length_map, List.length_replicate] at h7; omega
              have HLN := Lib.hid hlen
              generalize (finS t x (List.replicate 60 ns) (xs, 0)).2 = d2 at hKo ⊢
              generalize (finS t x (List.replicate 60 ns) (xs, 0)).1.length = lb at hS ⊢
              have HOW7 := Lib.hid hO
              have HB7 := Lib.hid (below_next HB6.out hb (Nat.le_refl _))
              have HD7 := Lib.hid (HD6.out.next hb)
              refine hK.out _ _ (hHeld.next hb) (fun hHeld2 => ?_)
              clear hK K hHeld
              have hHeld := hHeld2
              clear hHeld2
              try simp only [Act.put, List.getElem_toArray, List.getElem_cons_zero, List.getElem_cons_succ, List.setIfInBounds_toArray, List.set_cons_zero, List.set_cons_succ]
              clear hb hn' hO hS hKo hlen
              refine wpAnyH_take (i := 5) (v := ?_) rfl (by kernel_rfl) (by kernel_rfl) (by kernel_rfl) (fun _ _ _ h => h) (Or.inl ⟨by rfl, ?_⟩) (by assumption) ?_
              rotate_left
              · intro u hSu
                (try dsimp only at hSu)
                first | (go_simp; done) | (go_simp; with_reducible rfl)
              try simp only [Act.put, List.getElem_toArray, List.getElem_cons_zero, List.getElem_cons_succ, List.setIfInBounds_toArray, List.set_cons_zero, List.set_cons_succ]
              refine wpAnyH_take (i := 6) (v := ?_) rfl (by kernel_rfl) (by kernel_rfl) (by kernel_rfl) (fun _ _ _ h => h) (Or.inl ⟨by rfl, ?_⟩) (by assumption) ?_
              rotate_left
              · intro u hSu
                (try dsimp only at hSu)
                first | (go_simp; done) | (go_simp; with_reducible rfl)
              try simp only [Act.put, List.getElem_toArray, List.getElem_cons_zero, List.getElem_cons_succ, List.setIfInBounds_toArray, List.set_cons_zero, List.set_cons_succ]
              refine wpAnyH_take (i := 7) (v := ?_) rfl (by kernel_rfl) (by kernel_rfl) (by kernel_rfl) (fun _ _ _ h => h) (Or.inl ⟨by rfl, ?_⟩) (by assumption) ?_
              rotate_left
              · intro u hSu
                (try dsimp only at hSu)
                first | (go_simp; done) | (go_simp; with_reducible rfl)
              try simp only [Act.put, List.getElem_toArray, List.getElem_cons_zero, List.getElem_cons_succ, List.setIfInBounds_toArray, List.set_cons_zero, List.set_cons_succ]
              refine wpAnyH_take (i := 8) (v := ?_) rfl (by kernel_rfl) (by kernel_rfl) (by kernel_rfl) (fun _ _ _ h => h) (Or.inl ⟨by rfl, ?_⟩) (by assumption) ?_
              rotate_left
              · intro u hSu
                (try dsimp only at hSu)
                first | (go_simp; done) | (go_simp; with_reducible rfl)
              try simp only [Act.put, List.getElem_toArray, List.getElem_cons_zero, List.getElem_cons_succ, List.setIfInBounds_toArray, List.set_cons_zero, List.set_cons_succ]
              have HLB : Hid (w5.heap.size < w6.heap.size) := Lib.hid HD6.out.lt
              have a0 := HD7.out.c0
              have a1 := HD7.out.c1
              have a2 := HD7.out.c2
              have a3 := HD7.out.c3
              have f0 := HD7.out.fz 0
              have f1 := HD7.out.fz 1
              have f2 := HD7.out.fz 2
              have f3 := HD7.out.fz 3
              refine wpAnyH_ready (rs := [10]) (by kernel_rfl) (by simp) ?_
              refine AllReadyH.cons rfl (fun K hK => ?_) AllReadyH.nil
              go_simp
              have hbs : Below (w.heap.size + 1) w7 (w7.setCells w5.heap.size 0 (houL (.slice Ab lb cb) t x d2)) := below_cells (Below.refl _ _) HLD.out _ _
              have HBZ : Hid (Below w.heap.size w (w7.setCells w5.heap.size 0 (houL (.slice Ab lb cb) t x d2))) := Lib.hid (below_cells HB7.out (Nat.le_of_lt HLD.out) _ _)
              refine hK.out _ _ (hHeld.below hbs (Nat.lt_succ_self _)) (fun hHeld2 => ?_)
              clear hK K hHeld
              have hHeld := hHeld2
              clear hHeld2
              try simp only [Act.put, List.getElem_toArray, List.getElem_cons_zero, List.getElem_cons_succ, List.setIfInBounds_toArray, List.set_cons_zero, List.set_cons_succ]
              clear hbs a0 a1 a2 a3 f0 f1 f2 f3
              have HSZ : Hid (∃ BB, SS (w7.setCells w5.heap.size 0 (houL (.slice Ab lb cb) t x d2)) BB As rs') := Lib.hid ⟨_, (OW.cells HOW7.out w5.heap.size (HLB.out) 0 (houL (.slice Ab lb cb) t x d2)).os.ss⟩
              obtain ⟨BB, hSZ⟩ := HSZ.out
              have HSQ := Lib.hid hSZ
              clear hSZ
              refine wpAnyH_ready (rs := [11]) (by kernel_rfl) (by simp) ?_
              refine AllReadyH.cons rfl (fun K hK => ?_) AllReadyH.nil
              go_simp
              refine hK.out _ _ (hHeld) (fun hHeld2 => ?_)
              clear hK K hHeld
              have hHeld := hHeld2
              clear hHeld2
              try simp only [Act.put, List.getElem_toArray, List.getElem_cons_zero, List.getElem_cons_succ, List.setIfInBounds_toArray, List.set_cons_zero, List.set_cons_succ]
              refine wpAnyH_ready (rs := [12]) (by kernel_rfl) (by simp) ?_
              refine AllReadyH.cons rfl (fun K hK => ?_) AllReadyH.nil
              go_simp
              refine hK.out _ _ (hHeld) (fun hHeld2 => ?_)
              clear hK K hHeld
              have hHeld := hHeld2
              clear hHeld2
              try simp only [Act.put, List.getElem_toArray, List.getElem_cons_zero, List.getElem_cons_succ, List.setIfInBounds_toArray, List.set_cons_zero, List.set_cons_succ]
              refine wpAnyH_done (by kernel_rfl) ?_ _
              go_wp2_with fail
              refine (firstShort_any As rs'.length cs rs' rfl HLN.out _ _ HSQ.out RES HRO.out).mono ?_
              rintro o u ⟨rfl, hw⟩
              obtain rfl := hw.symm
              clear hw
              cases RES with
              | none =>
                go_wp2_with fail
                go_ret2
                exact ⟨rfl, HBZ.out⟩
              | some p =>
                go_wp2_with fail
                go_ret2
                exact ⟨rfl, HBZ.out⟩
      · go_simp
        obtain ⟨w5, hwj⟩ : ∃ u, u = w4.alloc (.cells #[.slice none 0 0, .int .i16 0, .int .i8 0, .int .i16 0] 58) := ⟨_, rfl⟩
        have hb : Below w4.heap.size w4 w5 := by rw [hwj]; exact (Below.refl _ _).alloc (Nat.le_refl _) _
        have HD5 : Hid (HouAt w5 w4.heap.size (.slice none 0 0) 0 0 0) := Lib.hid (by rw [hwj]; exact HouAt.new w4 _ 0 0 0 _)
        have HLD : Hid (w.heap.size < w4.heap.size) := Lib.hid hHeld.lt
        rw [← hwj]
        have HB5 := Lib.hid (below_next HB4.out hb (Nat.le_refl _))
        have HC5 : Hid (w5.cell? ⟨bl, 0, none⟩ = some (.slice A' m c') ∧ bl < w5.heap.size) := Lib.hid ⟨(hb.cell (p := ⟨bl, 0, none⟩) HC4.out.2).trans HC4.out.1, Nat.lt_of_lt_of_le HC4.out.2 hb.size⟩
        clear hwj
        refine hK.out _ _ (hHeld.next hb) (fun hHeld2 => ?_)
        clear hK K hHeld
        have hHeld := hHeld2
        clear hHeld2
        try simp only [Act.put, List.getElem_toArray, List.getElem_cons_zero, List.getElem_cons_succ, List.setIfInBounds_toArray, List.set_cons_zero, List.set_cons_succ]
        clear hb
        refine wpAnyH_ready (rs := [3]) (by kernel_rfl) (by simp) ?_
        refine AllReadyH.cons rfl (fun K hK => ?_) AllReadyH.nil
        go_simp
        refine (Repeat_row bl (.slice A' m c') rfl w5 HC5.out.2 HC5.out.1).mono ?_
        rintro o w6 ⟨rfl, hO, hb⟩
        have HB6 := Lib.hid (below_next HB5.out hb (Nat.le_refl _))
        have HD6 := Lib.hid (HD5.out.next hb)
        have HS6 : Hid (SS w6 w6.heap.size (some ⟨w5.heap.size, 0, none⟩) (List.replicate 60 ⟨A', c', ns⟩)) := Lib.hid (ss_rep0 (by rw [← Em.out]; exact hO) (HE.out _ HB6.out).2.2.2 (by have := Em.out; have := HM.out; unfold maxLen; omega))
        refine hK.out _ _ (hHeld.next hb) (fun hHeld2 => ?_)
        clear hK K hHeld
        have hHeld := hHeld2
        clear hHeld2
        try simp only [Act.put, List.getElem_toArray, List.getElem_cons_zero, List.getElem_cons_succ, List.setIfInBounds_toArray, List.set_cons_zero, List.set_cons_succ]
        clear hb hO
        generalize w5.heap.size = gr at HS6 ⊢
        refine wpAnyH_ready (rs := [4]) (by kernel_rfl) (by simp) ?_
        refine AllReadyH.cons rfl (fun K hK => ?_) AllReadyH.nil
        go_simp
        have hgo := goThrough_any A n c xs t x 0 En.out HN.out HCP.out.1 HCP.out.2 HFT.out HT.out HX.out (by omega) (some ⟨gr, 0, none⟩) 60 60 (List.replicate 60 ⟨A', c', ns⟩) (by simp) (by omega) (HE.out _ HB6.out).1 (HE.out _ HB6.out).2.1 (HE.out _ HB6.out).2.2.1 HS6.out
        rw [nums_rep] at hgo
        refine hgo.mono ?_
        clear hgo
        rintro o w7 (⟨i, hc, rfl, hb⟩ | ⟨hc, v, vs, rs', rfl, hKo, hn', hO, hb⟩)
        · rw [HCG.out] at hc
          cases b with
          | true => cases hc
          | false =>
            obtain rfl : i = 1 := by have h1 : (2 : Nat) = i + 1 := hc; omega
            obtain rfl : COD = 2 := HC2.out
            obtain rfl : NUM = 0 := HN2.out
            have HB7 := Lib.hid (below_next HB6.out hb (Nat.le_refl _))
            have HD7 := Lib.hid (HD6.out.next hb)
            refine hK.out _ _ (hHeld.next hb) (fun hHeld2 => ?_)
            clear hK K hHeld
            have hHeld := hHeld2
            clear hHeld2
            try simp only [Act.put, List.getElem_toArray, List.getElem_cons_zero, List.getElem_cons_succ, List.setIfInBounds_toArray, List.set_cons_zero, List.set_cons_succ]
            clear hb hc
            refine wpAnyH_take (i := 5) (v := ?_) rfl (by kernel_rfl) (by kernel_rfl) (by kernel_rfl) (fun _ _ _ h => h) (Or.inl ⟨by rfl, ?_⟩) (by assumption) ?_
            rotate_left
            · intro u hSu
              (try dsimp only at hSu)
              first | (go_simp; done) | (go_simp; with_reducible rfl)
            try simp only [Act.put, List.getElem_toArray, List.getElem_cons_zero, List.getElem_cons_succ, List.setIfInBounds_toArray, List.set_cons_zero, List.set_cons_succ]
            refine wpAnyH_take (i := 6) (v := ?_) rfl (by kernel_rfl) (by kernel_rfl) (by kernel_rfl) (fun _ _ _ h => h) (Or.inl ⟨by rfl, ?_⟩) (by assumption) ?_
            rotate_left
            · intro u hSu
              (try dsimp only at hSu)
              first | (go_simp; done) | (go_simp; with_reducible rfl)
            try simp only [Act.put, List.getElem_toArray, List.getElem_cons_zero, List.getElem_cons_succ, List.setIfInBounds_toArray, List.set_cons_zero, List.set_cons_succ]
            refine wpAnyH_take (i := 7) (v := ?_) rfl (by kernel_rfl) (by kernel_rfl) (by kernel_rfl) (fun _ _ _ h => h) (Or.inl ⟨by rfl, ?_⟩) (by assumption) ?_
            rotate_left
            · intro u hSu
              (try dsimp only at hSu)
              first | (go_simp; done) | (go_simp; with_reducible rfl)
            try simp only [Act.put, List.getElem_toArray, List.getElem_cons_zero, List.getElem_cons_succ, List.setIfInBounds_toArray, List.set_cons_zero, List.set_cons_succ]
            refine wpAnyH_take (i := 8) (v := ?_) rfl (by kernel_rfl) (by kernel_rfl) (by kernel_rfl) (fun _ _ _ h => h) (Or.inl ⟨by rfl, ?_⟩) (by assumption) ?_
            rotate_left
            · intro u hSu
              (try dsimp only at hSu)
              first | (go_simp; done) | (go_simp; with_reducible rfl)
            try simp only [Act.put, List.getElem_toArray, List.getElem_cons_zero, List.getElem_cons_succ, List.setIfInBounds_toArray, List.set_cons_zero, List.set_cons_succ]
            have a0 := HD7.out.c0
            have a1 := HD7.out.c1
            have a2 := HD7.out.c2
            have a3 := HD7.out.c3
            have f0 := HD7.out.fz 0
            have f1 := HD7.out.fz 1
            have f2 := HD7.out.fz 2
            have f3 := HD7.out.fz 3
            refine wpAnyH_ready (rs := [10]) (by kernel_rfl) (by simp) ?_
            refine AllReadyH.cons rfl (fun K hK => ?_) AllReadyH.nil
            go_simp
            have hbs : Below (w.heap.size + 1) w7 (w7.setCells w4.heap.size 0 (houL (.slice none 0 0) 0 0 0)) := below_cells (Below.refl _ _) HLD.out _ _
            have HBZ : Hid (Below w.heap.size w (w7.setCells w4.heap.size 0 (houL (.slice none 0 0) 0 0 0))) := Lib.hid (below_cells HB7.out (Nat.le_of_lt HLD.out) _ _)
            refine hK.out _ _ (hHeld.below hbs (Nat.lt_succ_self _)) (fun hHeld2 => ?_)
            clear hK K hHeld
            have hHeld := hHeld2
            clear hHeld2
            try simp only [Act.put, List.getElem_toArray, List.getElem_cons_zero, List.getElem_cons_succ, List.setIfInBounds_toArray, List.set_cons_zero, List.set_cons_succ]
            clear hbs a0 a1 a2 a3 f0 f1 f2 f3
            refine wpAnyH_ready (rs := [11]) (by kernel_rfl) (by simp) ?_
            refine AllReadyH.cons rfl (fun K hK => ?_) AllReadyH.nil
            go_simp
            refine hK.out _ _ (hHeld) (fun hHeld2 => ?_)
            clear hK K hHeld
            have hHeld := hHeld2
            clear hHeld2
            try simp only [Act.put, List.getElem_toArray, List.getElem_cons_zero, List.getElem_cons_succ, List.setIfInBounds_toArray, List.set_cons_zero, List.set_cons_succ]
            refine wpAnyH_ready (rs := [12]) (by kernel_rfl) (by simp) ?_
            refine AllReadyH.cons rfl (fun K hK => ?_) AllReadyH.nil
            go_simp
            refine hK.out _ _ (hHeld) (fun hHeld2 => ?_)
            clear hK K hHeld
            have hHeld := hHeld2
            clear hHeld2
            try simp only [Act.put, List.getElem_toArray, List.getElem_cons_zero, List.getElem_cons_succ, List.setIfInBounds_toArray, List.set_cons_zero, List.set_cons_succ]
            refine wpAnyH_done (by kernel_rfl) ?_ _
            go_wp2_with fail
            refine (codeErr (HE.out _ HBZ.out).1 1 (by omega)).mono ?_
            rintro o u ⟨rfl, hw⟩
            obtain rfl := hw.symm
            clear hw
            go_wp2_with fail
            go_ret2
            exact ⟨rfl, HBZ.out⟩
        · rw [HCG.out] at hc
          cases b with
          | false => cases hc
          | true =>
            obtain rfl : COD = 0 := HC2.out
            obtain rfl : NUM = lasD RES := HN2.out
            obtain ⟨Ab, cb, rfl, hS⟩ := hKo.sl
            obtain ⟨As, cs, rfl, _⟩ := owns_slice hO.outer
            have HRO : Hid (RES = fd (nums rs') 0) := Lib.hid (by rw [hn', ← HRES.out]; rfl)
            have hlen : rs'.length ≤ 9223372036854775807 := by have h7 := congrArg List.length hn'; rw [shs_lenLa, nums, List.length_map, List.length_replicate] at h7; omega
            have HLN := Lib.hid hlen
            generalize (finS t x (List.replicate 60 ns) (xs, 0)).2 = d2 at hKo ⊢
            generalize (finS t x (List.replicate 60 ns) (xs, 0)).1.length = lb at hS ⊢
            have HOW7 := Lib.hid hO
            have HB7 := Lib.hid (below_next HB6.out hb (Nat.le_refl _))
            have HD7 := Lib.hid (HD6.out.next hb)
            refine hK.out _ _ (hHeld.next hb) (fun hHeld2 => ?_)
            clear hK K hHeld
            have hHeld := hHeld2
            clear hHeld2
            try simp only [Act.put, List.getElem_toArray, List.getElem_cons_zero, List.getElem_cons_succ, List.setIfInBounds_toArray, List.set_cons_zero, List.set_cons_succ]
            clear hb hn' hO hS hKo hlen
            refine wpAnyH_take (i := 5) (v := ?_) rfl (by kernel_rfl) (by kernel_rfl) (by kernel_rfl) (fun _ _ _ h => h) (Or.inl ⟨by rfl, ?_⟩) (by assumption) ?_
            rotate_left
            · intro u hSu
              (try dsimp only at hSu)
              first | (go_simp; done) | (go_simp; with_reducible rfl)
            try simp only [Act.put, List.getElem_toArray, List.getElem_cons_zero, List.getElem_cons_succ, List.setIfInBounds_toArray, List.set_cons_zero, List.set_cons_succ]
            refine wpAnyH_take (i := 6) (v := ?_) rfl (by kernel_rfl) (by kernel_rfl) (by kernel_rfl) (fun _ _ _ h => h) (Or.inl ⟨by rfl, ?_⟩) (by assumption) ?_
            rotate_left
            · intro u hSu
              (try dsimp only at hSu)
              first | (go_simp; done) | (go_simp; with_reducible rfl)
            try simp only [Act.put, List.getElem_toArray, List.getElem_cons_zero, List.getElem_cons_succ, List.setIfInBounds_toArray, List.set_cons_zero, List.set_cons_succ]
            refine wpAnyH_take (i := 7) (v := ?_) rfl (by kernel_rfl) (by kernel_rfl) (by kernel_rfl) (fun _ _ _ h => h) (Or.inl ⟨by rfl, ?_⟩) (by assumption) ?_
            rotate_left
            · intro u hSu
              (try dsimp only at hSu)
              first | (go_simp; done) | (go_simp; with_reducible rfl)
            try simp only [Act.put, List.getElem_toArray, List.getElem_cons_zero, List.getElem_cons_succ, List.setIfInBounds_toArray, List.set_cons_zero, List.set_cons_succ]
            refine wpAnyH_take (i := 8) (v := ?_) rfl (by kernel_rfl) (by kernel_rfl) (by kernel_rfl) (fun _ _ _ h => h) (Or.inl ⟨by rfl, ?_⟩) (by assumption) ?_
            rotate_left
            · intro u hSu
              (try dsimp only at hSu)
              first | (go_simp; done) | (go_simp; with_reducible rfl)
            try simp only [Act.put, List.getElem_toArray, List.getElem_cons_zero, List.getElem_cons_succ, List.setIfInBounds_toArray, List.set_cons_zero, List.set_cons_succ]
            have HLB : Hid (w4.heap.size < w6.heap.size) := Lib.hid HD6.out.lt
            have a0 := HD7.out.c0
            have a1 := HD7.out.c1
            have a2 := HD7.out.c2
            have a3 := HD7.out.c3
            have f0 := HD7.out.fz 0
            have f1 := HD7.out.fz 1
            have f2 := HD7.out.fz 2
            have f3 := HD7.out.fz 3
            refine wpAnyH_ready (rs := [10]) (by kernel_rfl) (by simp) ?_
            refine AllReadyH.cons rfl (fun K hK => ?_) AllReadyH.nil
            go_simp
            have hbs : Below (w.heap.size + 1) w7 (w7.setCells w4.heap.size 0 (houL (.slice Ab lb cb) t x d2)) := below_cells (Below.refl _ _) HLD.out _ _
            have HBZ : Hid (Below w.heap.size w (w7.setCells w4.heap.size 0 (houL (.slice Ab lb cb) t x d2))) := Lib.hid (below_cells HB7.out (Nat.le_of_lt HLD.out) _ _)
            refine hK.out _ _ (hHeld.below hbs (Nat.lt_succ_self _)) (fun hHeld2 => ?_)
            clear hK K hHeld
            have hHeld := hHeld2
            clear hHeld2
            try simp only [Act.put, List.getElem_toArray, List.getElem_cons_zero, List.getElem_cons_succ, List.setIfInBounds_toArray, List.set_cons_zero, List.set_cons_succ]
            clear hbs a0 a1 a2 a3 f0 f1 f2 f3
            have HSZ : Hid (∃ BB, SS (w7.setCells w4.heap.size 0 (houL (.slice Ab lb cb) t x d2)) BB As rs') := Lib.hid ⟨_, (OW.cells HOW7.out w4.heap.size (HLB.out) 0 (houL (.slice Ab lb cb) t x d2)).os.ss⟩
            obtain ⟨BB, hSZ⟩ := HSZ.out
            have HSQ := Lib.hid hSZ
            clear hSZ
            refine wpAnyH_ready (rs := [11]) (by kernel_rfl) (by simp) ?_
            refine AllReadyH.cons rfl (fun K hK => ?_) AllReadyH.nil
            go_simp
            refine hK.out _ _ (hHeld) (fun hHeld2 => ?_)
            clear hK K hHeld
            have hHeld := hHeld2
            clear hHeld2
            try simp only [Act.put, List.getElem_toArray, List.getElem_cons_zero, List.getElem_cons_succ, List.setIfInBounds_toArray, List.set_cons_zero, List.set_cons_succ]
            refine wpAnyH_ready (rs := [12]) (by kernel_rfl) (by simp) ?_
            refine AllReadyH.cons rfl (fun K hK => ?_) AllReadyH.nil
            go_simp
            refine hK.out _ _ (hHeld) (fun hHeld2 => ?_)
            clear hK K hHeld
            have hHeld := hHeld2
            clear hHeld2
            try simp only [Act.put, List.getElem_toArray, List.getElem_cons_zero, List.getElem_cons_succ, List.setIfInBounds_toArray, List.set_cons_zero, List.set_cons_succ]
            refine wpAnyH_done (by kernel_rfl) ?_ _
            go_wp2_with fail
            refine (firstShort_any As rs'.length cs rs' rfl HLN.out _ _ HSQ.out RES HRO.out).mono ?_
            rintro o u ⟨rfl, hw⟩
            obtain rfl := hw.symm
            clear hw
            cases RES with
            | none =>
              go_wp2_with fail
              go_ret2
              exact ⟨rfl, HBZ.out⟩
            | some p =>
              go_wp2_with fail
              go_ret2
              exact ⟨rfl, HBZ.out⟩
    · go_simp
      obtain ⟨w4, hwj⟩ : ∃ u, u = w3.alloc (.cells #[.slice none 0 0, .int .i16 0, .int .i8 0, .int .i16 0] 58) := ⟨_, rfl⟩
      have hb : Below w3.heap.size w3 w4 := by rw [hwj]; exact (Below.refl _ _).alloc (Nat.le_refl _) _
      have HD4 : Hid (HouAt w4 w3.heap.size (.slice none 0 0) 0 0 0) := Lib.hid (by rw [hwj]; exact HouAt.new w3 _ 0 0 0 _)
      have HLD : Hid (w.heap.size < w3.heap.size) := Lib.hid hHeld.lt
      rw [← hwj]
      have HB4 := Lib.hid (below_next HB3.out hb (Nat.le_refl _))
      clear hwj
      refine hK.out _ _ (hHeld.next hb) (fun hHeld2 => ?_)
      clear hK K hHeld
      have hHeld := hHeld2
      clear hHeld2
      try simp only [Act.put, List.getElem_toArray, List.getElem_cons_zero, List.getElem_cons_succ, List.setIfInBounds_toArray, List.set_cons_zero, List.set_cons_succ]
      clear hb
      refine wpAnyH_ready (rs := [2]) (by kernel_rfl) (by simp) ?_
      refine AllReadyH.cons rfl (fun K hK => ?_) AllReadyH.nil
      rw [if_pos (by kernel_rfl)]
      refine wp_listed' 27 1 _ rfl #[(0, .slice A' m c')] ?hp (build_rows1A A' m c' _) ?_
      case hp => simp [Act.eval, Act.put]
      obtain ⟨w5, hwj⟩ : ∃ u, u = w4.alloc (.cells #[.slice A' m c'] 22) := ⟨_, rfl⟩
      have hb : Below w4.heap.size w4 w5 := by rw [hwj]; exact (Below.refl _ _).alloc (Nat.le_refl _) _
      have HC5 : Hid (w5.cell? ⟨w4.heap.size, 0, none⟩ = some (.slice A' m c') ∧ w4.heap.size < w5.heap.size) := Lib.hid (by rw [hwj]; exact ⟨cell_of_row _ _ 0 _ _ _ (heap_alloc_new w4 _), by simp⟩)
      rw [← hwj]
      have HB5 := Lib.hid (below_next HB4.out hb (Nat.le_refl _))
      have HD5 := Lib.hid (HD4.out.next hb)
      clear hwj
      refine hK.out _ _ (hHeld.next hb) (fun hHeld2 => ?_)
      clear hK K hHeld
      have hHeld := hHeld2
      clear hHeld2
      try simp only [Act.put, List.getElem_toArray, List.getElem_cons_zero, List.getElem_cons_succ, List.setIfInBounds_toArray, List.set_cons_zero, List.set_cons_succ]
      clear hb
      generalize w4.heap.size = bl at HC5 ⊢
      refine wpAnyH_ready (rs := [3]) (by kernel_rfl) (by simp) ?_
      refine AllReadyH.cons rfl (fun K hK => ?_) AllReadyH.nil
      go_simp
      refine (Repeat_row bl (.slice A' m c') rfl w5 HC5.out.2 HC5.out.1).mono ?_
      rintro o w6 ⟨rfl, hO, hb⟩
      have HB6 := Lib.hid (below_next HB5.out hb (Nat.le_refl _))
      have HD6 := Lib.hid (HD5.out.next hb)
      have HS6 : Hid (SS w6 w6.heap.size (some ⟨w5.heap.size, 0, none⟩) (List.replicate 60 ⟨A', c', ns⟩)) := Lib.hid (ss_rep0 (by rw [← Em.out]; exact hO) (HE.out _ HB6.out).2.2.2 (by have := Em.out; have := HM.out; unfold maxLen; omega))
      refine hK.out _ _ (hHeld.next hb) (fun hHeld2 => ?_)
      clear hK K hHeld
      have hHeld := hHeld2
      clear hHeld2
      try simp only [Act.put, List.getElem_toArray, List.getElem_cons_zero, List.getElem_cons_succ, List.setIfInBounds_toArray, List.set_cons_zero, List.set_cons_succ]
      clear hb hO
      generalize w5.heap.size = gr at HS6 ⊢
      refine wpAnyH_ready (rs := [4]) (by kernel_rfl) (by simp) ?_
      refine AllReadyH.cons rfl (fun K hK => ?_) AllReadyH.nil
      go_simp
      have hgo := goThrough_any A n c xs t x 0 En.out HN.out HCP.out.1 HCP.out.2 HFT.out HT.out HX.out (by omega) (some ⟨gr, 0, none⟩) 60 60 (List.replicate 60 ⟨A', c', ns⟩) (by simp) (by omega) (HE.out _ HB6.out).1 (HE.out _ HB6.out).2.1 (HE.out _ HB6.out).2.2.1 HS6.out
      rw [nums_rep] at hgo
      refine hgo.mono ?_
      clear hgo
      rintro o w7 (⟨i, hc, rfl, hb⟩ | ⟨hc, v, vs, rs', rfl, hKo, hn', hO, hb⟩)
      · rw [HCG.out] at hc
        cases b with
        | true => cases hc
        | false =>
          obtain rfl : i = 1 := by have h1 : (2 : Nat) = i + 1 := hc; omega
          obtain rfl : COD = 2 := HC2.out
          obtain rfl : NUM = 0 := HN2.out
          have HB7 := Lib.hid (below_next HB6.out hb (Nat.le_refl _))
          have HD7 := Lib.hid (HD6.out.next hb)
          refine hK.out _ _ (hHeld.next hb) (fun hHeld2 => ?_)
          clear hK K hHeld
          have hHeld := hHeld2
          clear hHeld2
          try simp only [Act.put, List.getElem_toArray, List.getElem_cons_zero, List.getElem_cons_succ, List.setIfInBounds_toArray, List.set_cons_zero, List.set_cons_succ]
          clear hb hc
          refine wpAnyH_take (i := 5) (v := ?_) rfl (by kernel_rfl) (by kernel_rfl) (by kernel_rfl) (fun _ _ _ h => h) (Or.inl ⟨by rfl, ?_⟩) (by assumption) ?_
          rotate_left
          · intro u hSu
            (try dsimp only at hSu)
            first | (go_simp; done) | (go_simp; with_reducible rfl)
          try simp only [Act.put, List.getElem_toArray, List.getElem_cons_zero, List.getElem_cons_succ, List.setIfInBounds_toArray, List.set_cons_zero, List.set_cons_succ]
          refine wpAnyH_take (i := 6) (v := ?_) rfl (by kernel_rfl) (by kernel_rfl) (by kernel_rfl) (fun _ _ _ h => h) (Or.inl ⟨by rfl, ?_⟩) (by assumption) ?_
          rotate_left
          · intro u hSu
            (try dsimp only at hSu)
            first | (go_simp; done) | (go_simp; with_reducible rfl)
          try simp only [Act.put, List.getElem_toArray, List.getElem_cons_zero, List.getElem_cons_succ, List.setIfInBounds_toArray, List.set_cons_zero, List.set_cons_succ]
          refine wpAnyH_take (i := 7) (v := ?_) rfl (by kernel_rfl) (by kernel_rfl) (by kernel_rfl) (fun _ _ _ h => h) (Or.inl ⟨by rfl, ?_⟩) (by assumption) ?_
          rotate_left
          · intro u hSu
            (try dsimp only at hSu)
            first | (go_simp; done) | (go_simp; with_reducible rfl)
          try simp only [Act.put, List.getElem_toArray, List.getElem_cons_zero, List.getElem_cons_succ, List.setIfInBounds_toArray, List.set_cons_zero, List.set_cons_succ]
          refine wpAnyH_take (i := 8) (v := ?_) rfl (by kernel_rfl) (by kernel_rfl) (by kernel_rfl) (fun _ _ _ h => h) (Or.inl ⟨by rfl, ?_⟩) (by assumption) ?_
          rotate_left
          · intro u hSu
            (try dsimp only at hSu)
            first | (go_simp; done) | (go_simp; with_reducible rfl)
          try simp only [Act.put, List.getElem_toArray, List.getElem_cons_zero, List.getElem_cons_succ, List.setIfInBounds_toArray, List.set_cons_zero, List.set_cons_succ]
          have a0 := HD7.out.c0
          have a1 := HD7.out.c1
          have a2 := HD7.out.c2
          have a3 := HD7.out.c3
          have f0 := HD7.out.fz 0
          have f1 := HD7.out.fz 1
          have f2 := HD7.out.fz 2
          have f3 := HD7.out.fz 3
          refine wpAnyH_ready (rs := [10]) (by kernel_rfl) (by simp) ?_
          refine AllReadyH.cons rfl (fun K hK => ?_) AllReadyH.nil
          go_simp
          have hbs : Below (w.heap.size + 1) w7 (w7.setCells w3.heap.size 0 (houL (.slice none 0 0) 0 0 0)) := below_cells (Below.refl _ _) HLD.out _ _
          have HBZ : Hid (Below w.heap.size w (w7.setCells w3.heap.size 0 (houL (.slice none 0 0) 0 0 0))) := Lib.hid (below_cells HB7.out (Nat.le_of_lt HLD.out) _ _)
          refine hK.out _ _ (hHeld.below hbs (Nat.lt_succ_self _)) (fun hHeld2 => ?_)
          clear hK K hHeld
          have hHeld := hHeld2
          clear hHeld2
          try simp only [Act.put, List.getElem_toArray, List.getElem_cons_zero, List.getElem_cons_succ, List.setIfInBounds_toArray, List.set_cons_zero, List.set_cons_succ]
          clear hbs a0 a1 a2 a3 f0 f1 f2 f3
          refine wpAnyH_ready (rs := [11]) (by kernel_rfl) (by simp) ?_
          refine AllReadyH.cons rfl (fun K hK => ?_) AllReadyH.nil
          go_simp
          refine hK.out _ _ (hHeld) (fun hHeld2 => ?_)
          clear hK K hHeld
          have hHeld := hHeld2
          clear hHeld2
          try simp only [Act.put, List.getElem_toArray, List.getElem_cons_zero, List.getElem_cons_succ, List.setIfInBounds_toArray, List.set_cons_zero, List.set_cons_succ]
          refine wpAnyH_ready (rs := [12]) (by kernel_rfl) (by simp) ?_
          refine AllReadyH.cons rfl (fun K hK => ?_) AllReadyH.nil
          go_simp
          refine hK.out _ _ (hHeld) (fun hHeld2 => ?_)
          clear hK K hHeld
          have hHeld := hHeld2
          clear hHeld2
          try simp only [Act.put, List.getElem_toArray, List.getElem_cons_zero, List.getElem_cons_succ, List.setIfInBounds_toArray, List.set_cons_zero, List.set_cons_succ]
          refine wpAnyH_done (by kernel_rfl) ?_ _
          go_wp2_with fail
          refine (codeErr (HE.out _ HBZ.out).1 1 (by omega)).mono ?_
          rintro o u ⟨rfl, hw⟩
          obtain rfl := hw.symm
          clear hw
          go_wp2_with fail
          go_ret2
          exact ⟨rfl, HBZ.out⟩
      · rw [HCG.out] at hc
        cases b with
        | false => cases hc
        | true =>
          obtain rfl : COD = 0 := HC2.out
          obtain rfl : NUM = lasD RES := HN2.out
          obtain ⟨Ab, cb, rfl, hS⟩ := hKo.sl
          obtain ⟨As, cs, rfl, _⟩ := owns_slice hO.outer
          have HRO : Hid (RES = fd (nums rs') 0) := Lib.hid (by rw [hn', ← HRES.out]; rfl)
          have hlen : rs'.length ≤ 9223372036854775807 := by have h7 := congrArg List.length hn'; rw [shs_lenLa, nums, List.length_map, List.length_replicate] at h7; omega
          have HLN := Lib.hid hlen
          generalize (finS t x (List.replicate 60 ns) (xs, 0)).2 = d2 at hKo ⊢
          generalize (finS t x (List.replicate 60 ns) (xs, 0)).1.length = lb at hS ⊢
          have HOW7 := Lib.hid hO
          have HB7 := Lib.hid (below_next HB6.out hb (Nat.le_refl _))
          have HD7 := Lib.hid (HD6.out.next hb)
          refine hK.out _ _ (hHeld.next hb) (fun hHeld2 => ?_)
          clear hK K hHeld
          have hHeld := hHeld2
          clear hHeld2
          try simp only [Act.put, List.getElem_toArray, List.getElem_cons_zero, List.getElem_cons_succ, List.setIfInBounds_toArray, List.set_cons_zero, List.set_cons_succ]
          clear hb hn' hO hS hKo hlen
          refine wpAnyH_take (i := 5) (v := ?_) rfl (by kernel_rfl) (by kernel_rfl) (by kernel_rfl) (fun _ _ _ h => h) (Or.inl ⟨by rfl, ?_⟩) (by assumption) ?_
          rotate_left
          · intro u hSu
            (try dsimp only at hSu)
            first | (go_simp; done) | (go_simp; with_reducible rfl)
          try simp only [Act.put, List.getElem_toArray, List.getElem_cons_zero, List.getElem_cons_succ, List.setIfInBounds_toArray, List.set_cons_zero, List.set_cons_succ]
          refine wpAnyH_take (i := 6) (v := ?_) rfl (by kernel_rfl) (by kernel_rfl) (by kernel_rfl) (fun _ _ _ h => h) (Or.inl ⟨by rfl, ?_⟩) (by assumption) ?_
          rotate_left
          · intro u hSu
            (try dsimp only at hSu)
            first | (go_simp; done) | (go_simp; with_reducible rfl)
          try simp only [Act.put, List.getElem_toArray, List.getElem_cons_zero, List.getElem_cons_succ, List.setIfInBounds_toArray, List.set_cons_zero, List.set_cons_succ]
          refine wpAnyH_take (i := 7) (v := ?_) rfl (by kernel_rfl) (by kernel_rfl) (by kernel_rfl) (fun _ _ _ h => h) (Or.inl ⟨by rfl, ?_⟩) (by assumption) ?_
          rotate_left
          · intro u hSu
            (try dsimp only at hSu)
            first | (go_simp; done) | (go_simp; with_reducible rfl)
          try simp only [Act.put, List.getElem_toArray, List.getElem_cons_zero, List.getElem_cons_succ, List.setIfInBounds_toArray, List.set_cons_zero, List.set_cons_succ]
          refine wpAnyH_take (i := 8) (v := ?_) rfl (by kernel_rfl) (by kernel_rfl) (by kernel_rfl) (fun _ _ _ h => h) (Or.inl ⟨by rfl, ?_⟩) (by assumption) ?_
          rotate_left
          · intro u hSu
            (try dsimp only at hSu)
            first | (go_simp; done) | (go_simp; with_reducible rfl)
          try simp only [Act.put, List.getElem_toArray, List.getElem_cons_zero, List.getElem_cons_succ, List.setIfInBounds_toArray, List.set_cons_zero, List.set_cons_succ]
          have HLB : Hid (w3.heap.size < w6.heap.size) := Lib.hid HD6.out.lt
          have a0 := HD7.out.c0
          have a1 := HD7.out.c1
          have a2 := HD7.out.c2
          have a3 := HD7.out.c3
          have f0 := HD7.out.fz 0
          have f1 := HD7.out.fz 1
          have f2 := HD7.out.fz 2
          have f3 := HD7.out.fz 3
          refine wpAnyH_ready (rs := [10]) (by kernel_rfl) (by simp) ?_
          refine AllReadyH.cons rfl (fun K hK => ?_) AllReadyH.nil
          go_simp
          have hbs : Below (w.heap.size + 1) w7 (w7.setCells w3.heap.size 0 (houL (.slice Ab lb cb) t x d2)) := below_cells (Below.refl _ _) HLD.out _ _
          have HBZ : Hid (Below w.heap.size w (w7.setCells w3.heap.size 0 (houL (.slice Ab lb cb) t x d2))) := Lib.hid (below_cells HB7.out (Nat.le_of_lt HLD.out) _ _)
          refine hK.out _ _ (hHeld.below hbs (Nat.lt_succ_self _)) (fun hHeld2 => ?_)
          clear hK K hHeld
          have hHeld := hHeld2
          clear hHeld2
          try simp only [Act.put, List.getElem_toArray, List.getElem_cons_zero, List.getElem_cons_succ, List.setIfInBounds_toArray, List.set_cons_zero, List.set_cons_succ]
          clear hbs a0 a1 a2 a3 f0 f1 f2 f3
          have HSZ : Hid (∃ BB, SS (w7.setCells w3.heap.size 0 (houL (.slice Ab lb cb) t x d2)) BB As rs') := Lib.hid ⟨_, (OW.cells HOW7.out w3.heap.size (HLB.out) 0 (houL (.slice Ab lb cb) t x d2)).os.ss⟩
          obtain ⟨BB, hSZ⟩ := HSZ.out
          have HSQ := Lib.hid hSZ
          clear hSZ
          refine wpAnyH_ready (rs := [11]) (by kernel_rfl) (by simp) ?_
          refine AllReadyH.cons rfl (fun K hK => ?_) AllReadyH.nil
          go_simp
          refine hK.out _ _ (hHeld) (fun hHeld2 => ?_)
          clear hK K hHeld
          have hHeld := hHeld2
          clear hHeld2
          try simp only [Act.put, List.getElem_toArray, List.getElem_cons_zero, List.getElem_cons_succ, List.setIfInBounds_toArray, List.set_cons_zero, List.set_cons_succ]
          refine wpAnyH_ready (rs := [12]) (by kernel_rfl) (by simp) ?_
          refine AllReadyH.cons rfl (fun K hK => ?_) AllReadyH.nil
          go_simp
          refine hK.out _ _ (hHeld) (fun hHeld2 => ?_)
          clear hK K hHeld
          have hHeld := hHeld2
          clear hHeld2
          try simp only [Act.put, List.getElem_toArray, List.getElem_cons_zero, List.getElem_cons_succ, List.setIfInBounds_toArray, List.set_cons_zero, List.set_cons_succ]
          refine wpAnyH_done (by kernel_rfl) ?_ _
          go_wp2_with fail
          refine (firstShort_any As rs'.length cs rs' rfl HLN.out _ _ HSQ.out RES HRO.out).mono ?_
          rintro o u ⟨rfl, hw⟩
          obtain rfl := hw.symm
          clear hw
          cases RES with
          | none =>
            go_wp2_with fail
            go_ret2
            exact ⟨rfl, HBZ.out⟩
          | some p =>
            go_wp2_with fail
            go_ret2
            exact ⟨rfl, HBZ.out⟩
end Go.Proofs.YtdcckdfemelbiaaDoor.hou
