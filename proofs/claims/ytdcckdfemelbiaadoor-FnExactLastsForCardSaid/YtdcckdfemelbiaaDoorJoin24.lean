/-
  Several texts of this proof, joined.
-/
import Derived.Test.YtdcckdfemelbiaaDoorJoin16
import Derived.Test.YtdcckdfemelbiaaDoorCupF
import Derived.Laws.AppendOwnNone
import Derived.Lib.SliceRun
/-
  Rows that are copied, the program's way and the model's.
-/
namespace Go.Proofs.YtdcckdfemelbiaaDoor.rows
open Go Go.RowKit sl fold

theorem i64cell (xs : List Int) : ∀ u ∈ xs.flatMap intS.C, u.oneCell' = true := by
  intro u hu
  obtain ⟨x, _, hx⟩ := List.mem_flatMap.1 hu
  rw [List.mem_singleton.1 hx]
  rfl
theorem Sl.cells {w : World} {B : Nat} {a : Addr} {xs : List Int} (h : Sl intS.C 1 w B (some a) xs) : ∀ (j : Nat) u, (xs.flatMap intS.C)[j]? = some u → w.cell? (a.add j) = some u := by
  intro j u hu
  have hl := (List.getElem?_eq_some_iff.1 hu).1
  rw [flat_len (sz := 1) (fun y _ => rfl), Nat.mul_one] at hl
  obtain ⟨a', e, _, hat⟩ := h.at_ j xs[j] (List.getElem?_eq_getElem hl)
  obtain rfl := Option.some.inj e
  have h1 := intS.at_ hat
  have h2 := flat_get (fun y _ => rfl : ∀ y ∈ xs, (intS.C y).length = 1) (List.getElem?_eq_getElem hl) (j := 0) (v := .int .i64 xs[j]) rfl
  rw [Nat.mul_one, Nat.add_zero] at h2
  rw [h2] at hu
  rw [← Option.some.inj hu]
  exact h1
theorem Sl.none_nil {w : World} {B : Nat} {xs : List Int} (h : Sl intS.C 1 w B none xs) : xs = [] := by
  cases xs with
  | nil => rfl
  | cons x t =>
    obtain ⟨a, e, _⟩ := h.at_ 0 x rfl
    cases e
set_option maxRecDepth 100000 in
set_option maxHeartbeats 2000000 in
theorem l00Own_any (r : Rw) (hl : r.xs.length ≤ 1048576) (hn : r.A = none → r.c = 0) (w : World) (hg : Sl intS.C 1 w w.heap.size r.A r.xs) :
    Calls Tryd.prog 123 #[r.v] w fun o w' => ∃ v, o = .returned v ∧ w'.ownsRow w.heap.size 2 1 v r.xs.length (r.xs.flatMap intS.C) ∧ Below w.heap.size w w' := by
  obtain ⟨i0, hi, hz0, hz1, hz2⟩ := info_parts intS.info
  obtain ⟨A, c, xs⟩ := r
  simp only at hl hn hg
  simp only [Rw.v]
  have HG := Lib.hid hg
  clear hg
  cases A with
  | none =>
    obtain rfl := hn rfl
    obtain rfl := Sl.none_nil HG.out
    have hown := World.ownsRow_made (e := 2) (size := 1) w #[] 0 (Nat.le_refl _) (Nat.zero_le _) rfl
    go_enter Tryd.func123, Tryd.ntmps123
    go_wp2_with (first | (at_builtin; refine wpList_append_own_none rfl (.tmp 3) (.tmp 4) 22 rfl w.heap.size 2 i0 1 Tryd.underlying22 hi _ 0 [] rfl hown rfl ?_) | fail)
    go_ret
    exact ⟨_, rfl, hown, (Below.refl _ _).alloc (Nat.le_refl _) _⟩
  | some a =>
    have hown := World.ownsRow_made (e := 2) (size := 1) w #[] 0 (Nat.le_refl _) (Nat.zero_le _) rfl
    have hcells := Sl.cells (HG.out.below ((Below.refl w.heap.size w).alloc (Nat.le_refl _) (.cells #[] 2)))
    have hfl : (xs.flatMap intS.C).length = xs.length * 1 := flat_len (fun y _ => rfl)
    go_enter Tryd.func123, Tryd.ntmps123
    go_wp2_with (first | (at_builtin; refine wpList_append_own _ rfl (.tmp 3) (.tmp 4) 22 rfl w.heap.size 2 i0 (.int .i64 0) 1 8 Tryd.underlying22 hi hz0 hz1 hz2 rfl (by decide) _ 0 [] rfl hown a xs.length c (xs.flatMap intS.C) rfl hfl hcells (i64cell xs) (by unfold maxLen; omega) (by omega) (by simp) ?_; intro v3 w3 hP3 hgr _; have B3 := Lib.hid (Below.grown ((Below.refl w.heap.size w).alloc (Nat.le_refl _) (.cells #[] 2)) hgr (by simp) (fun g hg => by obtain rfl := Option.some.inj hg; exact Nat.le_refl _)); have HP3 := Lib.hid hP3; clear hP3 hgr) | fail)
    go_ret
    refine ⟨_, rfl, ?_, B3.out⟩
    have := HP3.out
    rwa [Nat.zero_add, List.nil_append] at this
set_option maxRecDepth 100000 in
set_option maxHeartbeats 2000000 in
theorem Clone_any (r : Rw) (hl : r.xs.length ≤ 1048576) (hn : r.A = none → r.c = 0) (w : World) (hg : Sl intS.C 1 w w.heap.size r.A r.xs) :
    Calls Tryd.prog 129 #[r.v] w fun o w' => ∃ v, o = .returned v ∧ w'.ownsRow w.heap.size 2 1 v r.xs.length (r.xs.flatMap intS.C) ∧ Below w.heap.size w w' := by
  obtain ⟨i0, hi, hz0, hz1, hz2⟩ := info_parts intS.info
  obtain ⟨A, c, xs⟩ := r
  simp only at hl hn hg
  simp only [Rw.v]
  have HG := Lib.hid hg
  clear hg
  cases A with
  | none =>
    obtain rfl := hn rfl
    obtain rfl := Sl.none_nil HG.out
    have q0 := fun u => Lib.run_eql_slice_nil (P := Tryd.prog) u 22 2 none 0 0 0 0 Tryd.underlying22
    go_enter Tryd.func129, Tryd.ntmps129
    go_wp2_with fail
    go_ret
    exact ⟨_, rfl, World.ownsRow_nil w w.heap.size 2 1, Below.refl _ _⟩
  | some a =>
    have hown := World.ownsRow_made (e := 2) (size := 1) w #[] 0 (Nat.le_refl _) (Nat.zero_le _) rfl
    have hcells := Sl.cells (HG.out.below ((Below.refl w.heap.size w).alloc (Nat.le_refl _) (.cells #[] 2)))
    have hfl : (xs.flatMap intS.C).length = xs.length * 1 := flat_len (fun y _ => rfl)
    have q0 := fun u => Lib.run_eql_slice_nil (P := Tryd.prog) u 22 2 (some a) xs.length c 0 0 Tryd.underlying22
    go_enter Tryd.func129, Tryd.ntmps129
    go_wp2_with (first | (at_builtin; refine wpList_append_own _ rfl (.tmp 5) (.tmp 6) 22 rfl w.heap.size 2 i0 (.int .i64 0) 1 8 Tryd.underlying22 hi hz0 hz1 hz2 rfl (by decide) _ 0 [] rfl hown a xs.length c (xs.flatMap intS.C) rfl hfl hcells (i64cell xs) (by unfold maxLen; omega) (by omega) (by simp) ?_; intro v3 w3 hP3 hgr _; have B3 := Lib.hid (Below.grown ((Below.refl w.heap.size w).alloc (Nat.le_refl _) (.cells #[] 2)) hgr (by simp) (fun g hg => by obtain rfl := Option.some.inj hg; exact Nat.le_refl _)); have HP3 := Lib.hid hP3; clear hP3 hgr) | fail)
    go_ret
    refine ⟨_, rfl, ?_, B3.out⟩
    have := HP3.out
    rwa [Nat.zero_add, List.nil_append] at this
end Go.Proofs.YtdcckdfemelbiaaDoor.rows

/-
  Cupboards copied, the model's.
-/
namespace Go.Proofs.YtdcckdfemelbiaaDoor.rows
open Go Go.RowKit sl fold

theorem infoRow : (Tryd.prog.info? 22).map (fun i => (i.zero, i.size, i.bytes)) = some (some (.slice none 0 0), 1, 24) := by kernel_rfl
/-- a block of rows is no block of numbers -/
theorem rows_ne {w : World} {base base' : Nat} {r : Rw} {v : Value} {n : Nat} {L : List Value} (h : Own1 w base r) (h' : w.ownsRow base' 22 1 v n L) : ∀ k, r.v.ownBlock = some k → v.ownBlock ≠ some k := by
  intro k hk hv
  rcases h with ⟨hA, _, _⟩ | ⟨g, o, cur, hA, hb, hg, _⟩
  · rw [Rw.v, hA] at hk
    simp [Value.ownBlock] at hk
  · rw [Rw.v, hA] at hk
    simp only [Value.ownBlock, Option.some.injEq] at hk
    subst hk
    rcases h'.2 with ⟨rfl, _⟩ | ⟨g', cap, cu, rfl, _, hg', _⟩
    · simp [Value.ownBlock] at hv
    · simp only [Value.ownBlock, Option.some.injEq] at hv
      subst hv
      rw [hg] at hg'
      simp at hg'
/-- rows of the call's own, behind a value -/
structure OV (w : World) (base : Nat) (v : Value) (rs : List Rw) : Prop where
  outer : w.ownsRow base 22 1 v rs.length (rs.map Rw.v)
  each : ∀ r ∈ rs, Own1 w base r
  dist : (rs.map Rw.v).Pairwise fun a b => ∀ k, a.ownBlock = some k → b.ownBlock ≠ some k
theorem OV.next {w w' : World} {base : Nat} {v : Value} {rs : List Rw} (h : OV w base v rs) (hb : Below w.heap.size w w') : OV w' base v rs :=
  ⟨owns_next h.outer hb, fun r hr => (h.each r hr).next hb, h.dist⟩
theorem OV.ot {w : World} {base : Nat} {A : Option Addr} {c : Nat} {rs : List Rw} (h : OV w base (.slice A rs.length c) rs) : OT w base A c rs :=
  ⟨h.outer, h.each, h.dist, fun v hv k hk => by
    obtain ⟨r, hr, rfl⟩ := List.mem_map.1 hv
    exact rows_ne (h.each r hr) h.outer k hk⟩
/-- one more row -/
theorem OV.snoc {w w1 w' : World} {base : Nat} {v v' : Value} {rs : List Rw} {r : Rw} (h : OV w base v rs) (hb : Below w.heap.size w w1) (hr : Own1 w1 base r) (hnew : ∀ k, r.v.ownBlock = some k → w.heap.size ≤ k) (hg : w1.grownBy w' v.ownBlock)
    (ho : w'.ownsRow base 22 1 v' (rs.length + 1) (rs.map Rw.v ++ [r.v])) : OV w' base v' (rs ++ [r]) := by
  have h1 := h.next hb
  have keep : ∀ x, Own1 w1 base x → Own1 w' base x := fun x hx => hx.keep fun g hg' => hg.block g (hx.at_lt g hg').2 (fun e => rows_ne hx h1.outer g hg' e.symm)
  refine ⟨by simpa using ho, fun x hx => ?_, ?_⟩
  · rcases List.mem_append.1 hx with h2 | h2
    · exact keep x (h1.each x h2)
    · obtain rfl := List.mem_singleton.1 h2
      exact keep x hr
  · rw [List.map_append, List.map_cons, List.map_nil]
    refine List.pairwise_append.2 ⟨h.dist, List.pairwise_singleton _ _, fun a ha b hb' k hk e => ?_⟩
    obtain rfl := List.mem_singleton.1 hb'
    obtain ⟨x, hx, rfl⟩ := List.mem_map.1 ha
    have h2 := ((h.each x hx).at_lt k hk).2
    have h3 := hnew k e
    omega
set_option maxRecDepth 100000 in
set_option maxHeartbeats 4000000 in
theorem l04Own_any (A : Option Addr) (n c : Nat) (rs : List Rw) (en : n = rs.length) (hn : n ≤ 1048576) (hs : ∀ r ∈ rs, r.xs.length ≤ 1048576) (hN : ∀ r ∈ rs, r.A = none → r.c = 0) (w : World) (hg : SS w w.heap.size A rs) :
    Calls Tryd.prog 66 #[.slice A n c] w fun o w' => ∃ A' c' rs', o = .returned (.slice A' n c') ∧ rs'.length = n ∧ nums rs' = nums rs ∧ OT w' w.heap.size A' c' rs' ∧ Below w.heap.size w w' := by
  obtain ⟨i0, hi, hz0, hz1, hz2⟩ := info_parts infoRow
  have En := Lib.hid en
  clear en
  have hown := World.ownsRow_made (e := 22) (size := 1) w #[] 0 (Nat.le_refl _) (Nat.zero_le _) rfl
  have O0 : Hid (OV (w.alloc (.cells #[] 22)) w.heap.size (.slice (some ⟨w.heap.size, 0, none⟩) 0 0) []) := Lib.hid ⟨hown, (fun r hr => by cases hr), List.Pairwise.nil⟩
  clear hown
  go_enter Tryd.func66, Tryd.ntmps66
  go_wp2_with fail
  go_loopw [3, 4] (fun vo vi wr => ∃ (k : Nat) (v : Value) (rs' : List Rw), k ≤ n ∧ vi = .int .i64 k ∧ vo = v ∧ rs'.length = k ∧ nums rs' = (nums rs).take k ∧ OV wr w.heap.size v rs' ∧ Below w.heap.size w wr) (fun _ vi _ => n - (intOf vi).toNat)
  case atStart => exact ⟨0, _, [], by omega, rfl, rfl, rfl, rfl, O0.out, (Below.refl _ _).alloc (Nat.le_refl _) _⟩
  case round =>
    clear O0
    obtain ⟨k, v, rs', hk, rfl, rfl, hl, hm, hO, hB⟩ := hrel
    have HL := Lib.hid hl
    have HM := Lib.hid hm
    have HO := Lib.hid hO
    have HB := Lib.hid hB
    clear hl hm hO hB
    by_cases hlt : k < n
    · obtain ⟨r, hr⟩ : ∃ r, rs[k]? = some r := ⟨rs[k]'(by have := En.out; omega), List.getElem?_eq_getElem _⟩
      obtain ⟨a, rfl, hab, q0⟩ := (hg.below HB.out).head hr
      have hrs := hs r (List.mem_of_getElem? hr)
      have hrn := hN r (List.mem_of_getElem? hr)
      have HR := Lib.hid hr
      clear hr
      go_wp2_with fail
      refine (l00Own_any r hrs hrn _ ((hg.below HB.out).more HB.out.size |>.each r (List.mem_of_getElem? HR.out))).mono ?_
      rintro o u ⟨v2, rfl, P, hb⟩
      obtain ⟨A2, c2, rfl, _⟩ := owns_slice P
      have B2 := Lib.hid (below_next HB.out hb (Nat.le_refl _))
      have hP1 := Own1.of_owns (r := ⟨A2, c2, r.xs⟩) P
      have P1 := Lib.hid hP1
      have HBU := Lib.hid hb
      clear P hb q0 hP1
      have hown := (HO.out.next HBU.out).outer
      rw [HL.out] at hown
      have HW := Lib.hid hown
      clear hown
      go_wp2_with (first | (at_builtin; refine wpList_append_own _ rfl (.tmp 12) (.tmp 18) 27 rfl w.heap.size 22 i0 (.slice none 0 0) 1 24 Tryd.underlying27 hi hz0 hz1 hz2 rfl (by decide) _ k _ rfl (HW.out.alloc _) ⟨_, 0, none⟩ 1 1 [.slice A2 r.xs.length c2] rfl rfl (one_newB _ _ _ _ (by simp)) (one_cellI (by rfl)) (by unfold maxLen; omega) (by omega) (by have := B2.out.size; simp; omega) ?_; intro v3 w5 hP5 hgr _; have HG5 := Lib.hid hgr; have B5 := Lib.hid (Below.grown (B2.out.alloc B2.out.size _) hgr (by have := B2.out.size; simp; omega) (fun g hg => (HW.out.lt g hg).1)); have HP5 := Lib.hid hP5; clear hP5 hgr) | fail)
      go_roundw
      case rel =>
        have hub : Below u.heap.size u (u.alloc (.cells #[.slice A2 r.xs.length c2] 22)) := (Below.refl _ _).alloc (Nat.le_refl _) _
        refine ⟨k + 1, v3, rs' ++ [⟨A2, c2, r.xs⟩], by omega, by go_num, rfl, by rw [List.length_append, HL.out]; rfl, ?_, ?_, B5.out⟩
        · have e := take_snoc (xs := nums rs) (k := k) (x := r.xs) (by simp [nums, HR.out])
          rw [e, nums, List.map_append, ← HM.out]
          rfl
        · have hr1 := (P1.out.next hub).lower (base' := w.heap.size) HB.out.size
          exact HO.out.snoc (below_next HBU.out hub (Nat.le_refl _)) hr1 (fun k hk => (P1.out.at_lt k hk).1) HG5.out (by rw [HL.out]; exact HP5.out)
      case measure => simp [intOf]; omega
    · obtain rfl : k = n := by omega
      go_wp2_with fail
      go_ret
      obtain ⟨A', c', e, _⟩ := owns_slice HO.out.outer
      subst e
      have hO := HO.out.ot
      rw [HL.out]
      refine ⟨A', c', rs', rfl, HL.out, ?_, hO, HB.out⟩
      rw [HM.out, List.take_of_length_le (by simp [nums, ← En.out])]
end Go.Proofs.YtdcckdfemelbiaaDoor.rows

/-
  Cupboards copied, the program's.
-/
namespace Go.Proofs.YtdcckdfemelbiaaDoor.rows
open Go Go.RowKit sl fold cup

theorem not_own (A : Option Addr) (n c : Nat) (u : World) : (Instr.typeAssert (.iface 88 (.slice A n c)) 158 97 true).run Tryd.prog u = .ok (.tuple #[.slice none 0 0, .bool false]) u := by kernel_rfl
theorem is_given (A : Option Addr) (n c : Nat) (u : World) : (Instr.typeAssert (.iface 88 (.slice A n c)) 158 88 true).run Tryd.prog u = .ok (.tuple #[.slice A n c, .bool true]) u := by kernel_rfl
set_option maxRecDepth 100000 in
set_option maxHeartbeats 4000000 in
theorem owned_any (A : Option Addr) (n c : Nat) (rs : List Rw) (en : n = rs.length) (hn : n ≤ 1048576) (hs : ∀ r ∈ rs, r.xs.length ≤ 1048576) (hN : ∀ r ∈ rs, r.A = none → r.c = 0) (w : World) (hg : SS w w.heap.size A rs) :
    Calls Tryd.prog 75 #[givenV A n c] w fun o w' => ∃ g rs', o = .returned (.slice (some ⟨g, 0, none⟩) n n) ∧ rs'.length = n ∧ nums rs' = nums rs ∧ OT w' w.heap.size (some ⟨g, 0, none⟩) n rs' ∧ Below w.heap.size w w' := by
  obtain ⟨i0, hi, hz0, hz1, hz2⟩ := info_parts infoRow
  have En := Lib.hid en
  clear en
  have hmk : ∀ u : World, (Instr.makeSlice 97 (.int .i64 (n : Int)) (.int .i64 (n : Int))).run Tryd.prog u =
      .ok (.slice (some ⟨u.heap.size, 0, none⟩) n n) (u.alloc (.cells (madeCells #[.slice none 0 0] n) 22)) := fun u => by
    have h := run_make (P := Tryd.prog) u 97 22 i0 _ Tryd.underlying97 hi hz0 .i64 .i64 (n : Int) (n : Int) (by omega) (Int.le_refl _) (by rw [hz2]; omega) (by omega)
    have e : ((n : Int)).toNat = n := by omega
    rw [e] at h
    simpa [hz1, Value.cells] using h
  have q1 := not_own A n c
  have q2 := is_given A n c
  simp only [givenV]
  go_enter Tryd.func75, Tryd.ntmps75
  have hB0 : Below w.heap.size w (w.alloc (.cells (madeCells #[.slice none 0 0] n) 22)) := (Below.refl _ _).alloc (Nat.le_refl _) _
  have hP0 : (w.alloc (.cells (madeCells #[.slice none 0 0] n) 22)).ownsRow w.heap.size 22 1 (.slice (some ⟨w.heap.size, 0, none⟩) n n) n _ :=
    World.ownsRow_lit w (madeCells #[.slice none 0 0] n) n (Nat.le_refl _) (by unfold maxLen; omega) (by rw [size_madeCells, Nat.mul_one])
  have HP0 := Lib.hid hP0
  clear hP0
  go_wp2_with fail
  go_loopw [21] (fun vi wr => ∃ k L rs', k ≤ n ∧ vi = .int .i64 (k : Nat) ∧ rs'.length = k ∧ nums rs' = (nums rs).take k ∧ wr.ownsRow w.heap.size 22 1 (.slice (some ⟨w.heap.size, 0, none⟩) n n) n L ∧ Done Rw.C 1 rs' k L ∧
    (∀ r ∈ rs', Own1 wr (w.heap.size + 1) r) ∧ ((rs'.map Rw.v).Pairwise fun a b => ∀ k, a.ownBlock = some k → b.ownBlock ≠ some k) ∧ w.heap.size < wr.heap.size ∧ Below w.heap.size w wr) (fun vi _ => n - (intOf vi).toNat)
  case atStart => exact ⟨0, _, [], by omega, rfl, rfl, rfl, HP0.out, Done.zero _ _ _ _, fun r hr => by simp at hr, List.Pairwise.nil, by simp, hB0⟩
  case round =>
    clear hB0 HP0
    obtain ⟨k, L, rs', hk, rfl, hl', hn', hP, hD, hE, hW, hz, hB⟩ := hrel
    have HB := Lib.hid hB
    have HL' := Lib.hid hl'
    have HN' := Lib.hid hn'
    have HD := Lib.hid hD
    have HE := Lib.hid hE
    have HW := Lib.hid hW
    have HP := Lib.hid hP
    clear hB hl' hn' hD hE hW hP
    by_cases hlt : k < n
    · obtain ⟨r, hr⟩ : ∃ r, rs[k]? = some r := ⟨rs[k]'(by have := En.out; omega), List.getElem?_eq_getElem _⟩
      obtain ⟨a, rfl, hab, q0⟩ := (hg.below HB.out).head hr
      have hrs := hs r (List.mem_of_getElem? hr)
      have hrn := hN r (List.mem_of_getElem? hr)
      have HR := Lib.hid hr
      clear hr
      go_wp2_with fail
      refine (Clone_any r hrs hrn _ ((hg.below HB.out).more HB.out.size |>.each r (List.mem_of_getElem? HR.out))).mono ?_
      rintro o u ⟨v2, rfl, P, hb⟩
      obtain ⟨A2, c2, rfl, _⟩ := owns_slice P
      have hP1 := Own1.of_owns (r := ⟨A2, c2, r.xs⟩) P
      have P1 := Lib.hid hP1
      have HBU := Lib.hid hb
      have P2 := Lib.hid (owns_next HP.out hb)
      have B2 := Lib.hid (below_next HB.out hb (Nat.le_refl _))
      clear P hb q0 HP hP1
      have hLL := P2.out.1
      obtain ⟨v0, s0⟩ : ∃ v, u.cell? ⟨w.heap.size, k, none⟩ = some v := ⟨L[k]'(by omega), (P2.out.cellAt k (by omega)).trans (List.getElem?_eq_getElem _)⟩
      have f0 := P2.out.frozenAt k
      have HLL := Lib.hid hLL
      clear hLL
      go_wp2_with fail
      go_roundw
      case rel =>
        have hP3 := P2.out.stored k (.slice A2 r.xs.length c2)
        have hx : (rs' ++ [(⟨A2, c2, r.xs⟩ : Rw)])[k]? = some ⟨A2, c2, r.xs⟩ := by
          rw [List.getElem?_append_right (by rw [HL'.out]; exact Nat.le_refl _), HL'.out, Nat.sub_self]
          rfl
        have keep : ∀ x, Own1 u (w.heap.size + 1) x → Own1 (u.setCell ⟨w.heap.size, k, none⟩ (.slice A2 r.xs.length c2)) (w.heap.size + 1) x := fun x hx => hx.keep fun g hg => hP3.2.block g (hx.at_lt g hg).2 (fun e => by have := (hx.at_lt g hg).1; have := Option.some.inj e; omega)
        refine ⟨k + 1, _, rs' ++ [⟨A2, c2, r.xs⟩], by omega, by go_num, by rw [List.length_append, HL'.out]; rfl, ?_, hP3.1, ?_, ?_, ?_, ?_, ?_⟩
        · have e := take_snoc (xs := nums rs) (k := k) (x := r.xs) (by simp [nums, HR.out])
          rw [e, nums, List.map_append, ← HN'.out]
          rfl
        · have hmono : Done Rw.C 1 (rs' ++ [(⟨A2, c2, r.xs⟩ : Rw)]) k L := fun i x hi hxi j v hv => by
            rw [List.getElem?_append_left (by rw [HL'.out]; exact hi)] at hxi
            exact HD.out i x hi hxi j v hv
          intro i x hi hxi j v hv
          have hj : j = 0 := by
            have := (List.getElem?_eq_some_iff.1 hv).1
            simp [Rw.C] at this
            exact this
          subst hj
          simp only [Rw.C, List.getElem?_cons_zero, Option.some.injEq] at hv
          subst hv
          rcases Nat.lt_or_ge i k with h1 | h1
          · have := hmono i x h1 hxi 0 _ rfl
            rw [Nat.mul_one, Nat.add_zero] at this ⊢
            rw [List.getElem?_set_ne (by omega)]
            exact this
          · obtain rfl : i = k := by omega
            rw [hx] at hxi
            obtain rfl := Option.some.inj hxi
            rw [Nat.mul_one, Nat.add_zero, List.getElem?_set_self (by rw [HLL.out]; omega)]
        · intro x hx
          rcases List.mem_append.1 hx with h1 | h1
          · exact keep x ((HE.out x h1).next HBU.out)
          · obtain rfl := List.mem_singleton.1 h1
            exact keep _ (P1.out.lower (by omega))
        · rw [List.map_append, List.map_cons, List.map_nil]
          refine List.pairwise_append.2 ⟨HW.out, List.pairwise_singleton _ _, fun a ha b hb' k hk e => ?_⟩
          obtain rfl := List.mem_singleton.1 hb'
          obtain ⟨x, hx, rfl⟩ := List.mem_map.1 ha
          have h2 := ((HE.out x hx).at_lt k hk).2
          have h3 := (P1.out.at_lt k e).1
          omega
        · have := HBU.out.size
          simp [World.setCell]
          omega
        · exact B2.out.setCell (p := ⟨w.heap.size, k, none⟩) (Nat.le_refl _) _
      case measure => simp [intOf]; omega
    · go_wp2_with fail
      obtain rfl : k = n := by omega
      go_ret
      have hl := HL'.out
      have e : L = rs'.flatMap Rw.C := Done.full (by rw [hl]; exact HD.out) (Rw.len rs') (by omega) (by rw [HP.out.1, hl])
      have hP := HP.out
      rw [e, flat_v] at hP
      refine ⟨_, rs', rfl, hl, ?_, ⟨by rw [hl]; exact hP, fun r hr => (HE.out r hr).lower (by omega), HW.out, fun v hv k hk => ?_⟩, HB.out⟩
      · rw [HN'.out, List.take_of_length_le (by simp [nums, ← En.out])]
      · obtain ⟨r, hr, rfl⟩ := List.mem_map.1 hv
        rw [hl]
        exact rows_ne (HE.out r hr) hP k hk
end Go.Proofs.YtdcckdfemelbiaaDoor.rows

/-
  Cupboards copied, the program's: each row at the start of its block.
-/
namespace Go.Proofs.YtdcckdfemelbiaaDoor.rows
open Go Go.RowKit sl fold cup

set_option maxRecDepth 100000 in
set_option maxHeartbeats 4000000 in
theorem owned_os (A : Option Addr) (n c : Nat) (rs : List Rw) (en : n = rs.length) (hn : n ≤ 1048576) (hs : ∀ r ∈ rs, r.xs.length ≤ 1048576) (hN : ∀ r ∈ rs, r.A = none → r.c = 0) (w : World) (hg : SS w w.heap.size A rs) :
    Calls Tryd.prog 75 #[givenV A n c] w fun o w' => ∃ g rs', o = .returned (.slice (some ⟨g, 0, none⟩) n n) ∧ rs'.length = n ∧ nums rs' = nums rs ∧ OS w' w.heap.size (some ⟨g, 0, none⟩) n rs' ∧ Below w.heap.size w w' := by
  obtain ⟨i0, hi, hz0, hz1, hz2⟩ := info_parts infoRow
  have En := Lib.hid en
  clear en
  have hmk : ∀ u : World, (Instr.makeSlice 97 (.int .i64 (n : Int)) (.int .i64 (n : Int))).run Tryd.prog u =
      .ok (.slice (some ⟨u.heap.size, 0, none⟩) n n) (u.alloc (.cells (madeCells #[.slice none 0 0] n) 22)) := fun u => by
    have h := run_make (P := Tryd.prog) u 97 22 i0 _ Tryd.underlying97 hi hz0 .i64 .i64 (n : Int) (n : Int) (by omega) (Int.le_refl _) (by rw [hz2]; omega) (by omega)
    have e : ((n : Int)).toNat = n := by omega
    rw [e] at h
    simpa [hz1, Value.cells] using h
  have q1 := not_own A n c
  have q2 := is_given A n c
  simp only [givenV]
  go_enter Tryd.func75, Tryd.ntmps75
  have hB0 : Below w.heap.size w (w.alloc (.cells (madeCells #[.slice none 0 0] n) 22)) := (Below.refl _ _).alloc (Nat.le_refl _) _
  have hP0 : (w.alloc (.cells (madeCells #[.slice none 0 0] n) 22)).ownsRow w.heap.size 22 1 (.slice (some ⟨w.heap.size, 0, none⟩) n n) n _ :=
    World.ownsRow_lit w (madeCells #[.slice none 0 0] n) n (Nat.le_refl _) (by unfold maxLen; omega) (by rw [size_madeCells, Nat.mul_one])
  have HP0 := Lib.hid hP0
  clear hP0
  go_wp2_with fail
  go_loopw [21] (fun vi wr => ∃ k L rs', k ≤ n ∧ vi = .int .i64 (k : Nat) ∧ rs'.length = k ∧ nums rs' = (nums rs).take k ∧ wr.ownsRow w.heap.size 22 1 (.slice (some ⟨w.heap.size, 0, none⟩) n n) n L ∧ Done Rw.C 1 rs' k L ∧
    (∀ r ∈ rs', wr.ownsRow (w.heap.size + 1) 2 1 r.v r.xs.length (r.xs.flatMap intS.C)) ∧ ((rs'.map Rw.v).Pairwise fun a b => ∀ k, a.ownBlock = some k → b.ownBlock ≠ some k) ∧ w.heap.size < wr.heap.size ∧ Below w.heap.size w wr) (fun vi _ => n - (intOf vi).toNat)
  case atStart => exact ⟨0, _, [], by omega, rfl, rfl, rfl, HP0.out, Done.zero _ _ _ _, fun r hr => by simp at hr, List.Pairwise.nil, by simp, hB0⟩
  case round =>
    clear hB0 HP0
    obtain ⟨k, L, rs', hk, rfl, hl', hn', hP, hD, hE, hW, hz, hB⟩ := hrel
    have HB := Lib.hid hB
    have HL' := Lib.hid hl'
    have HN' := Lib.hid hn'
    have HD := Lib.hid hD
    have HE := Lib.hid hE
    have HW := Lib.hid hW
    have HP := Lib.hid hP
    clear hB hl' hn' hD hE hW hP
    by_cases hlt : k < n
    · obtain ⟨r, hr⟩ : ∃ r, rs[k]? = some r := ⟨rs[k]'(by have := En.out; omega), List.getElem?_eq_getElem _⟩
      obtain ⟨a, rfl, hab, q0⟩ := (hg.below HB.out).head hr
      have hrs := hs r (List.mem_of_getElem? hr)
      have hrn := hN r (List.mem_of_getElem? hr)
      have HR := Lib.hid hr
      clear hr
      go_wp2_with fail
      refine (Clone_any r hrs hrn _ ((hg.below HB.out).more HB.out.size |>.each r (List.mem_of_getElem? HR.out))).mono ?_
      rintro o u ⟨v2, rfl, P, hb⟩
      obtain ⟨A2, c2, rfl, _⟩ := owns_slice P
      have hP1 := P
      have P1 := Lib.hid hP1
      have HBU := Lib.hid hb
      have P2 := Lib.hid (owns_next HP.out hb)
      have B2 := Lib.hid (below_next HB.out hb (Nat.le_refl _))
      clear P hb q0 HP hP1
      have hLL := P2.out.1
      obtain ⟨v0, s0⟩ : ∃ v, u.cell? ⟨w.heap.size, k, none⟩ = some v := ⟨L[k]'(by omega), (P2.out.cellAt k (by omega)).trans (List.getElem?_eq_getElem _)⟩
      have f0 := P2.out.frozenAt k
      have HLL := Lib.hid hLL
      clear hLL
      go_wp2_with fail
      go_roundw
      case rel =>
        have hP3 := P2.out.stored k (.slice A2 r.xs.length c2)
        have hx : (rs' ++ [(⟨A2, c2, r.xs⟩ : Rw)])[k]? = some ⟨A2, c2, r.xs⟩ := by
          rw [List.getElem?_append_right (by rw [HL'.out]; exact Nat.le_refl _), HL'.out, Nat.sub_self]
          rfl
        have keep : ∀ x : Rw, u.ownsRow (w.heap.size + 1) 2 1 x.v x.xs.length (x.xs.flatMap intS.C) → (u.setCell ⟨w.heap.size, k, none⟩ (.slice A2 r.xs.length c2)).ownsRow (w.heap.size + 1) 2 1 x.v x.xs.length (x.xs.flatMap intS.C) := fun x hx => owns_other hx hP3.2 (fun g hg => by have := (hx.lt g hg).1; omega)
        refine ⟨k + 1, _, rs' ++ [⟨A2, c2, r.xs⟩], by omega, by go_num, by rw [List.length_append, HL'.out]; rfl, ?_, hP3.1, ?_, ?_, ?_, ?_, ?_⟩
        · have e := take_snoc (xs := nums rs) (k := k) (x := r.xs) (by simp [nums, HR.out])
          rw [e, nums, List.map_append, ← HN'.out]
          rfl
        · have hmono : Done Rw.C 1 (rs' ++ [(⟨A2, c2, r.xs⟩ : Rw)]) k L := fun i x hi hxi j v hv => by
            rw [List.getElem?_append_left (by rw [HL'.out]; exact hi)] at hxi
            exact HD.out i x hi hxi j v hv
          intro i x hi hxi j v hv
          have hj : j = 0 := by
            have := (List.getElem?_eq_some_iff.1 hv).1
            simp [Rw.C] at this
            exact this
          subst hj
          simp only [Rw.C, List.getElem?_cons_zero, Option.some.injEq] at hv
          subst hv
          rcases Nat.lt_or_ge i k with h1 | h1
          · have := hmono i x h1 hxi 0 _ rfl
            rw [Nat.mul_one, Nat.add_zero] at this ⊢
            rw [List.getElem?_set_ne (by omega)]
            exact this
          · obtain rfl : i = k := by omega
            rw [hx] at hxi
            obtain rfl := Option.some.inj hxi
            rw [Nat.mul_one, Nat.add_zero, List.getElem?_set_self (by rw [HLL.out]; omega)]
        · intro x hx
          rcases List.mem_append.1 hx with h1 | h1
          · exact keep x (owns_next (HE.out x h1) HBU.out)
          · obtain rfl := List.mem_singleton.1 h1
            exact keep ⟨A2, c2, r.xs⟩ (owns_below P1.out (by omega))
        · rw [List.map_append, List.map_cons, List.map_nil]
          refine List.pairwise_append.2 ⟨HW.out, List.pairwise_singleton _ _, fun a ha b hb' k hk e => ?_⟩
          obtain rfl := List.mem_singleton.1 hb'
          obtain ⟨x, hx, rfl⟩ := List.mem_map.1 ha
          have h2 := ((HE.out x hx).lt k hk).2
          have h3 := (P1.out.lt k e).1
          omega
        · have := HBU.out.size
          simp [World.setCell]
          omega
        · exact B2.out.setCell (p := ⟨w.heap.size, k, none⟩) (Nat.le_refl _) _
      case measure => simp [intOf]; omega
    · go_wp2_with fail
      obtain rfl : k = n := by omega
      go_ret
      have hl := HL'.out
      have e : L = rs'.flatMap Rw.C := Done.full (by rw [hl]; exact HD.out) (Rw.len rs') (by omega) (by rw [HP.out.1, hl])
      have hP := HP.out
      rw [e] at hP
      have hP2 := hP
      rw [flat_v] at hP2
      refine ⟨_, rs', rfl, hl, ?_, ⟨by rw [hl]; exact hP, fun r hr => owns_below (HE.out r hr) (by omega), List.pairwise_map.1 HW.out, fun r hr k hk => ?_, fun r hr => (Own1.of_owns (HE.out r hr)).short⟩, HB.out⟩
      · rw [HN'.out, List.take_of_length_le (by simp [nums, ← En.out])]
      · rw [hl]
        exact rows_ne (Own1.of_owns (HE.out r hr)) hP2 k hk
end Go.Proofs.YtdcckdfemelbiaaDoor.rows

/-
  Cupboards copied, the model's: each row at the start of its block.
-/
namespace Go.Proofs.YtdcckdfemelbiaaDoor.rows
open Go Go.RowKit sl fold cup

/-- rows of the call's own, behind a value -/
structure OW (w : World) (base : Nat) (v : Value) (rs : List Rw) : Prop where
  outer : w.ownsRow base 22 1 v rs.length (rs.map Rw.v)
  each : ∀ r ∈ rs, w.ownsRow base 2 1 r.v r.xs.length (r.xs.flatMap intS.C)
  dist : (rs.map Rw.v).Pairwise fun a b => ∀ k, a.ownBlock = some k → b.ownBlock ≠ some k
theorem OW.next {w w' : World} {base : Nat} {v : Value} {rs : List Rw} (h : OW w base v rs) (hb : Below w.heap.size w w') : OW w' base v rs :=
  ⟨owns_next h.outer hb, fun r hr => owns_next (h.each r hr) hb, h.dist⟩
theorem OW.os {w : World} {base : Nat} {A : Option Addr} {c : Nat} {rs : List Rw} (h : OW w base (.slice A rs.length c) rs) : OS w base A c rs :=
  ⟨by rw [flat_v]; exact h.outer, h.each, List.pairwise_map.1 h.dist, fun r hr => rows_ne (Own1.of_owns (h.each r hr)) h.outer, fun r hr => (Own1.of_owns (h.each r hr)).short⟩
/-- one more row -/
theorem OW.snoc {w w1 w' : World} {base : Nat} {v v' : Value} {rs : List Rw} {r : Rw} (h : OW w base v rs) (hb : Below w.heap.size w w1) (hr : w1.ownsRow base 2 1 r.v r.xs.length (r.xs.flatMap intS.C)) (hnew : ∀ k, r.v.ownBlock = some k → w.heap.size ≤ k) (hg : w1.grownBy w' v.ownBlock)
    (ho : w'.ownsRow base 22 1 v' (rs.length + 1) (rs.map Rw.v ++ [r.v])) : OW w' base v' (rs ++ [r]) := by
  have h1 := h.next hb
  have keep : ∀ x : Rw, w1.ownsRow base 2 1 x.v x.xs.length (x.xs.flatMap intS.C) → w'.ownsRow base 2 1 x.v x.xs.length (x.xs.flatMap intS.C) := fun x hx => owns_but hx ⟨hg.os, hg.tape, hg.output, hg.size, fun k hk hS => hg.block k hk hS⟩ (fun g hg' e => rows_ne (Own1.of_owns hx) h1.outer g hg' e.symm)
  refine ⟨by simpa using ho, fun x hx => ?_, ?_⟩
  · rcases List.mem_append.1 hx with h2 | h2
    · exact keep x (h1.each x h2)
    · obtain rfl := List.mem_singleton.1 h2
      exact keep _ hr
  · rw [List.map_append, List.map_cons, List.map_nil]
    refine List.pairwise_append.2 ⟨h.dist, List.pairwise_singleton _ _, fun a ha b hb' k hk e => ?_⟩
    obtain rfl := List.mem_singleton.1 hb'
    obtain ⟨x, hx, rfl⟩ := List.mem_map.1 ha
    have h2 := ((h.each x hx).lt k hk).2
    have h3 := hnew k e
    omega
set_option maxRecDepth 100000 in
set_option maxHeartbeats 4000000 in
theorem l04Own_os (A : Option Addr) (n c : Nat) (rs : List Rw) (en : n = rs.length) (hn : n ≤ 1048576) (hs : ∀ r ∈ rs, r.xs.length ≤ 1048576) (hN : ∀ r ∈ rs, r.A = none → r.c = 0) (w : World) (hg : SS w w.heap.size A rs) :
    Calls Tryd.prog 66 #[.slice A n c] w fun o w' => ∃ A' c' rs', o = .returned (.slice A' n c') ∧ rs'.length = n ∧ nums rs' = nums rs ∧ OS w' w.heap.size A' c' rs' ∧ Below w.heap.size w w' := by
  obtain ⟨i0, hi, hz0, hz1, hz2⟩ := info_parts infoRow
  have En := Lib.hid en
  clear en
  have hown := World.ownsRow_made (e := 22) (size := 1) w #[] 0 (Nat.le_refl _) (Nat.zero_le _) rfl
  have O0 : Hid (OW (w.alloc (.cells #[] 22)) w.heap.size (.slice (some ⟨w.heap.size, 0, none⟩) 0 0) []) := Lib.hid ⟨hown, (fun r hr => by cases hr), List.Pairwise.nil⟩
  clear hown
  go_enter Tryd.func66, Tryd.ntmps66
  go_wp2_with fail
  go_loopw [3, 4] (fun vo vi wr => ∃ (k : Nat) (v : Value) (rs' : List Rw), k ≤ n ∧ vi = .int .i64 k ∧ vo = v ∧ rs'.length = k ∧ nums rs' = (nums rs).take k ∧ OW wr w.heap.size v rs' ∧ Below w.heap.size w wr) (fun _ vi _ => n - (intOf vi).toNat)
  case atStart => exact ⟨0, _, [], by omega, rfl, rfl, rfl, rfl, O0.out, (Below.refl _ _).alloc (Nat.le_refl _) _⟩
  case round =>
    clear O0
    obtain ⟨k, v, rs', hk, rfl, rfl, hl, hm, hO, hB⟩ := hrel
    have HL := Lib.hid hl
    have HM := Lib.hid hm
    have HO := Lib.hid hO
    have HB := Lib.hid hB
    clear hl hm hO hB
    by_cases hlt : k < n
    · obtain ⟨r, hr⟩ : ∃ r, rs[k]? = some r := ⟨rs[k]'(by have := En.out; omega), List.getElem?_eq_getElem _⟩
      obtain ⟨a, rfl, hab, q0⟩ := (hg.below HB.out).head hr
      have hrs := hs r (List.mem_of_getElem? hr)
      have hrn := hN r (List.mem_of_getElem? hr)
      have HR := Lib.hid hr
      clear hr
      go_wp2_with fail
      refine (l00Own_any r hrs hrn _ ((hg.below HB.out).more HB.out.size |>.each r (List.mem_of_getElem? HR.out))).mono ?_
      rintro o u ⟨v2, rfl, P, hb⟩
      obtain ⟨A2, c2, rfl, _⟩ := owns_slice P
      have B2 := Lib.hid (below_next HB.out hb (Nat.le_refl _))
      have hP1 := P
      have P1 := Lib.hid hP1
      have HBU := Lib.hid hb
      clear P hb q0 hP1
      have hown := (HO.out.next HBU.out).outer
      rw [HL.out] at hown
      have HW := Lib.hid hown
      clear hown
      go_wp2_with (first | (at_builtin; refine wpList_append_own _ rfl (.tmp 12) (.tmp 18) 27 rfl w.heap.size 22 i0 (.slice none 0 0) 1 24 Tryd.underlying27 hi hz0 hz1 hz2 rfl (by decide) _ k _ rfl (HW.out.alloc _) ⟨_, 0, none⟩ 1 1 [.slice A2 r.xs.length c2] rfl rfl (one_newB _ _ _ _ (by simp)) (one_cellI (by rfl)) (by unfold maxLen; omega) (by omega) (by have := B2.out.size; simp; omega) ?_; intro v3 w5 hP5 hgr _; have HG5 := Lib.hid hgr; have B5 := Lib.hid (Below.grown (B2.out.alloc B2.out.size _) hgr (by have := B2.out.size; simp; omega) (fun g hg => (HW.out.lt g hg).1)); have HP5 := Lib.hid hP5; clear hP5 hgr) | fail)
      go_roundw
      case rel =>
        have hub : Below u.heap.size u (u.alloc (.cells #[.slice A2 r.xs.length c2] 22)) := (Below.refl _ _).alloc (Nat.le_refl _) _
        refine ⟨k + 1, v3, rs' ++ [⟨A2, c2, r.xs⟩], by omega, by go_num, rfl, by rw [List.length_append, HL.out]; rfl, ?_, ?_, B5.out⟩
        · have e := take_snoc (xs := nums rs) (k := k) (x := r.xs) (by simp [nums, HR.out])
          rw [e, nums, List.map_append, ← HM.out]
          rfl
        · have hr1 := owns_below (owns_next P1.out hub) HB.out.size
          exact HO.out.snoc (r := ⟨A2, c2, r.xs⟩) (below_next HBU.out hub (Nat.le_refl _)) hr1 (fun k hk => (P1.out.lt k hk).1) HG5.out (by rw [HL.out]; exact HP5.out)
      case measure => simp [intOf]; omega
    · obtain rfl : k = n := by omega
      go_wp2_with fail
      go_ret
      obtain ⟨A', c', e, _⟩ := owns_slice HO.out.outer
      subst e
      have hO := HO.out.os
      rw [HL.out]
      refine ⟨A', c', rs', rfl, HL.out, ?_, hO, HB.out⟩
      rw [HM.out, List.take_of_length_le (by simp [nums, ← En.out])]
end Go.Proofs.YtdcckdfemelbiaaDoor.rows
