/-
  Several texts of this proof, joined.
-/
import Derived.Test.YtdcckdfemelbiaaDoorJoin16
import Derived.Test.YtdcckdfemelbiaaDoorCupF
import Derived.Laws.AppendOwnNone
import Derived.Lib.SliceRun
import Derived.Test.YtdcckdfemelbiaaDoorJoin18
/-
  Rows that are copied, the program's way and the model's.
-/
namespace Go.Proofs.YtdcckdfemelbiaaDoor.rows
open Go Go.RowKit sl fold

theorem i64cell (xs : List Int) : ∀ u ∈ xs.flatMap intS.C, u.oneCell' = true := by
  intro u hu
  obtain ⟨x, _, hx⟩ := List.mem_flatMap.1 hu
  rw [List.mem_singleton.1 hx]
  rfl
theorem Sl.cells {w : World} {B : Nat} {a : Addr} {xs : List Int} (h : Sl intS.C 1 w B (some a) xs) : ∀ (j : Nat) u, (xs.flatMap intS.C)[j]? = some u → w.cell? (a.add j) = some u := by
  intro j u hu
  have hl := (List.getElem?_eq_some_iff.1 hu).1
  rw [flat_len (sz := 1) (fun y _ => rfl), Nat.mul_one] at hl
  obtain ⟨a', e, _, hat⟩ := h.at_ j xs[j] (List.getElem?_eq_getElem hl)
  obtain rfl := Option.some.inj e
  have h1 := intS.at_ hat
  have h2 := flat_get (fun y _ => rfl : ∀ y ∈ xs, (intS.C y).length = 1) (List.getElem?_eq_getElem hl) (j := 0) (v := .int .i64 xs[j]) rfl
  rw [Nat.mul_one, Nat.add_zero] at h2
  rw [h2] at hu
  rw [← Option.some.inj hu]
  exact h1
theorem Sl.none_nil {w : World} {B : Nat} {xs : List Int} (h : Sl intS.C 1 w B none xs) : xs = [] := by
  cases xs with
  | nil => rfl
  | cons x t =>
    obtain ⟨a, e, _⟩ := h.at_ 0 x rfl
    cases e
set_option maxRecDepth 100000 in
set_option maxHeartbeats 2000000 in
theorem l00Own_any (r : Rw) (hl : r.xs.length ≤ 1048576) (hn : r.A = none → r.c = 0) (w : World) (hg : Sl intS.C 1 w w.heap.size r.A r.xs) :
    Calls Tryd.prog 123 #[r.v] w fun o w' => ∃ v, o = .returned v ∧ w'.ownsRow w.heap.size 2 1 v r.xs.length (r.xs.flatMap intS.C) ∧ Below w.heap.size w w' := by
  obtain ⟨i0, hi, hz0, hz1, hz2⟩ := info_parts intS.info
  obtain ⟨A, c, xs⟩ := r
  simp only at hl hn hg
  simp only [Rw.v]
  have HG := Lib.hid hg
  clear hg
  cases A with
  | none =>
    obtain rfl := hn rfl
    obtain rfl := Sl.none_nil HG.out
    have hown := World.ownsRow_made (e := 2) (size := 1) w #[] 0 (Nat.le_refl _) (Nat.zero_le _) rfl
    go_enter Tryd.func123, Tryd.ntmps123
    go_wp2_with (first | (at_builtin; refine wpList_append_own_none rfl (.tmp 3) (.tmp 4) 22 rfl w.heap.size 2 i0 1 Tryd.underlying22 hi _ 0 [] rfl hown rfl ?_) | fail)
    go_ret
    exact ⟨_, rfl, hown, (Below.refl _ _).alloc (Nat.le_refl _) _⟩
  | some a =>
    have hown := World.ownsRow_made (e := 2) (size := 1) w #[] 0 (Nat.le_refl _) (Nat.zero_le _) rfl
    have hcells := Sl.cells (HG.out.below ((Below.refl w.heap.size w).alloc (Nat.le_refl _) (.cells #[] 2)))
    have hfl : (xs.flatMap intS.C).length = xs.length * 1 := flat_len (fun y _ => rfl)
    go_enter Tryd.func123, Tryd.ntmps123
    go_wp2_with (first | (at_builtin; refine wpList_append_own _ rfl (.tmp 3) (.tmp 4) 22 rfl w.heap.size 2 i0 (.int .i64 0) 1 8 Tryd.underlying22 hi hz0 hz1 hz2 rfl (by decide) _ 0 [] rfl hown a xs.length c (xs.flatMap intS.C) rfl hfl hcells (i64cell xs) (by unfold maxLen; omega) (by omega) (by simp) ?_; intro v3 w3 hP3 hgr _; have B3 := Lib.hid (Below.grown ((Below.refl w.heap.size w).alloc (Nat.le_refl _) (.cells #[] 2)) hgr (by simp) (fun g hg => by obtain rfl := Option.some.inj hg; exact Nat.le_refl _)); have HP3 := Lib.hid hP3; clear hP3 hgr) | fail)
    go_ret
    refine ⟨_, rfl, ?_, B3.out⟩
    have := HP3.out
    rwa [Nat.zero_add, List.nil_append] at this
set_option maxRecDepth 100000 in
set_option maxHeartbeats 2000000 in
theorem Clone_any (r : Rw) (hl : r.xs.length ≤ 1048576) (hn : r.A = none → r.c = 0) (w : World) (hg : Sl intS.C 1 w w.heap.size r.A r.xs) :
    Calls Tryd.prog 129 #[r.v] w fun o w' => ∃ v, o = .returned v ∧ w'.ownsRow w.heap.size 2 1 v r.xs.length (r.xs.flatMap intS.C) ∧ Below w.heap.size w w' := by
  obtain ⟨i0, hi, hz0, hz1, hz2⟩ := info_parts intS.info
  obtain ⟨A, c, xs⟩ := r
  simp only at hl hn hg
  simp only [Rw.v]
  have HG := Lib.hid hg
  clear hg
  cases A with
  | none =>
    obtain rfl := hn rfl
    obtain rfl := Sl.none_nil HG.out
    have q0 := fun u => Lib.run_eql_slice_nil (P := Tryd.prog) u 22 2 none 0 0 0 0 Tryd.underlying22
    go_enter Tryd.func129, Tryd.ntmps129
    go_wp2_with fail
    go_ret
    exact ⟨_, rfl, World.ownsRow_nil w w.heap.size 2 1, Below.refl _ _⟩
  | some a =>
    have hown := World.ownsRow_made (e := 2) (size := 1) w #[] 0 (Nat.le_refl _) (Nat.zero_le _) rfl
    have hcells := Sl.cells (HG.out.below ((Below.refl w.heap.size w).alloc (Nat.le_refl _) (.cells #[] 2)))
    have hfl : (xs.flatMap intS.C).length = xs.length * 1 := flat_len (fun y _ => rfl)
    have q0 := fun u => Lib.run_eql_slice_nil (P := Tryd.prog) u 22 2 (some a) xs.length c 0 0 Tryd.underlying22
    go_enter Tryd.func129, Tryd.ntmps129
    go_wp2_with (first | (at_builtin; refine wpList_append_own _ rfl (.tmp 5) (.tmp 6) 22 rfl w.heap.size 2 i0 (.int .i64 0) 1 8 Tryd.underlying22 hi hz0 hz1 hz2 rfl (by decide) _ 0 [] rfl hown a xs.length c (xs.flatMap intS.C) rfl hfl hcells (i64cell xs) (by unfold maxLen; omega) (by omega) (by simp) ?_; intro v3 w3 hP3 hgr _; have B3 := Lib.hid (Below.grown ((Below.refl w.heap.size w).alloc (Nat.le_refl _) (.cells #[] 2)) hgr (by simp) (fun g hg => by obtain rfl := Option.some.inj hg; exact Nat.le_refl _)); have HP3 := Lib.hid hP3; clear hP3 hgr) | fail)
    go_ret
    refine ⟨_, rfl, ?_, B3.out⟩
    have := HP3.out
    rwa [Nat.zero_add, List.nil_append] at this
end Go.Proofs.YtdcckdfemelbiaaDoor.rows

/-
  Cupboards copied, the model's.
-/
namespace Go.Proofs.YtdcckdfemelbiaaDoor.rows
open Go Go.RowKit sl fold

theorem infoRow : (Tryd.prog.info? 22).map (fun i => (i.zero, i.size, i.bytes)) = some (some (.slice none 0 0), 1, 24) := by kernel_rfl
/-- a block of rows is no block of numbers -/
theorem rows_ne {w : World} {base base' : Nat} {r : Rw} {v : Value} {n : Nat} {L : List Value} (h : Own1 w base r) (h' : w.ownsRow base' 22 1 v n L) : ∀ k, r.v.ownBlock = some k → v.ownBlock ≠ some k := by
  intro k hk hv
  rcases h with ⟨hA, _, _⟩ | ⟨g, o, cur, hA, hb, hg, _⟩
  · rw [Rw.v, hA] at hk
    simp [Value.ownBlock] at hk
  · rw [Rw.v, hA] at hk
    simp only [Value.ownBlock, Option.some.injEq] at hk
    subst hk
    rcases h'.2 with ⟨rfl, _⟩ | ⟨g', cap, cu, rfl, _, hg', _⟩
    · simp [Value.ownBlock] at hv
    · simp only [Value.ownBlock, Option.some.injEq] at hv
      subst hv
      rw [hg] at hg'
      simp at hg'
/-- rows of the call's own, behind a value -/
structure OV (w : World) (base : Nat) (v : Value) (rs : List Rw) : Prop where
  outer : w.ownsRow base 22 1 v rs.length (rs.map Rw.v)
  each : ∀ r ∈ rs, Own1 w base r
  dist : (rs.map Rw.v).Pairwise fun a b => ∀ k, a.ownBlock = some k → b.ownBlock ≠ some k
theorem OV.next {w w' : World} {base : Nat} {v : Value} {rs : List Rw} (h : OV w base v rs) (hb : Below w.heap.size w w') : OV w' base v rs :=
  ⟨owns_next h.outer hb, fun r hr => (h.each r hr).next hb, h.dist⟩
theorem OV.ot {w : World} {base : Nat} {A : Option Addr} {c : Nat} {rs : List Rw} (h : OV w base (.slice A rs.length c) rs) : OT w base A c rs :=
  ⟨h.outer, h.each, h.dist, fun v hv k hk => by
    obtain ⟨r, hr, rfl⟩ := List.mem_map.1 hv
    exact rows_ne (h.each r hr) h.outer k hk⟩
/-- one more row -/
theorem OV.snoc {w w1 w' : World} {base : Nat} {v v' : Value} {rs : List Rw} {r : Rw} (h : OV w base v rs) (hb : Below w.heap.size w w1) (hr : Own1 w1 base r) (hnew : ∀ k, r.v.ownBlock = some k → w.heap.size ≤ k) (hg : w1.grownBy w' v.ownBlock)
    (ho : w'.ownsRow base 22 1 v' (rs.length + 1) (rs.map Rw.v ++ [r.v])) : OV w' base v' (rs ++ [r]) := by
  have h1 := h.next hb
  have keep : ∀ x, Own1 w1 base x → Own1 w' base x := fun x hx => hx.keep fun g hg' => hg.block g (hx.at_lt g hg').2 (fun e => rows_ne hx h1.outer g hg' e.symm)
  refine ⟨by simpa using ho, fun x hx => ?_, ?_⟩
  · rcases List.mem_append.1 hx with h2 | h2
    · exact keep x (h1.each x h2)
    · obtain rfl := List.mem_singleton.1 h2
      exact keep x hr
  · rw [List.map_append, List.map_cons, List.map_nil]
    refine List.pairwise_append.2 ⟨h.dist, List.pairwise_singleton _ _, fun a ha b hb' k hk e => ?_⟩
    obtain rfl := List.mem_singleton.1 hb'
    obtain ⟨x, hx, rfl⟩ := List.mem_map.1 ha
    have h2 := ((h.each x hx).at_lt k hk).2
    have h3 := hnew k e
    omega
set_option maxRecDepth 100000 in
set_option maxHeartbeats 4000000 in
theorem l04Own_any (A : Option Addr) (n c : Nat) (rs : List Rw) (en : n = rs.length) (hn : n ≤ 1048576) (hs : ∀ r ∈ rs, r.xs.length ≤ 1048576) (hN : ∀ r ∈ rs, r.A = none → r.c = 0) (w : World) (hg : SS w w.heap.size A rs) :
    Calls Tryd.prog 66 #[.slice A n c] w fun o w' => ∃ A' c' rs', o = .returned (.slice A' n c') ∧ rs'.length = n ∧ nums rs' = nums rs ∧ OT w' w.heap.size A' c' rs' ∧ Below w.heap.size w w' := by
  obtain ⟨i0, hi, hz0, hz1, hz2⟩ := info_parts infoRow
  have En := Lib.hid en
  clear en
  have hown := World.ownsRow_made (e := 22) (size := 1) w #[] 0 (Nat.le_refl _) (Nat.zero_le _) rfl
  have O0 : Hid (OV (w.alloc (.cells #[] 22)) w.heap.size (.slice (some ⟨w.heap.size, 0, none⟩) 0 0) []) := Lib.hid ⟨hown, (fun r hr => by cases hr), List.Pairwise.nil⟩
  clear hown
  go_enter Tryd.func66, Tryd.ntmps66
  go_wp2_with fail
  go_loopw [3, 4] (fun vo vi wr => ∃ (k : Nat) (v : Value) (rs' : List Rw), k ≤ n ∧ vi = .int .i64 k ∧ vo = v ∧ rs'.length = k ∧ nums rs' = (nums rs).take k ∧ OV wr w.heap.size v rs' ∧ Below w.heap.size w wr) (fun _ vi _ => n - (intOf vi).toNat)
  case atStart => exact ⟨0, _, [], by omega, rfl, rfl, rfl, rfl, O0.out, (Below.refl _ _).alloc (Nat.le_refl _) _⟩
  case round =>
    clear O0
    obtain ⟨k, v, rs', hk, rfl, rfl, hl, hm, hO, hB⟩ := hrel
    have HL := Lib.hid hl
    have HM := Lib.hid hm
    have HO := Lib.hid hO
    have HB := Lib.hid hB
    clear hl hm hO hB
    by_cases hlt : k < n
    · obtain ⟨r, hr⟩ : ∃ r, rs[k]? = some r := ⟨rs[k]'(by have := En.out; omega), List.getElem?_eq_getElem _⟩
      obtain ⟨a, rfl, hab, q0⟩ := (hg.below HB.out).head hr
      have hrs := hs r (List.mem_of_getElem? hr)
      have hrn := hN r (List.mem_of_getElem? hr)
      have HR := Lib.hid hr
      clear hr
      go_wp2_with fail
      refine (l00Own_any r hrs hrn _ ((hg.below HB.out).more HB.out.size |>.each r (List.mem_of_getElem? HR.out))).mono ?_
      rintro o u ⟨v2, rfl, P, hb⟩
      obtain ⟨A2, c2, rfl, _⟩ := owns_slice P
      have B2 := Lib.hid (below_next HB.out hb (Nat.le_refl _))
      have hP1 := Own1.of_owns (r := ⟨A2, c2, r.xs⟩) P
      have P1 := Lib.hid hP1
      have HBU := Lib.hid hb
      clear P hb q0 hP1
      have hown := (HO.out.next HBU.out).outer
      rw [HL.out] at hown
      have HW := Lib.hid hown
      clear hown
      go_wp2_with (first | (at_builtin; refine wpList_append_own _ rfl (.tmp 12) (.tmp 18) 27 rfl w.heap.size 22 i0 (.slice none 0 0) 1 24 Tryd.underlying27 hi hz0 hz1 hz2 rfl (by decide) _ k _ rfl (HW.out.alloc _) ⟨_, 0, none⟩ 1 1 [.slice A2 r.xs.length c2] rfl rfl (one_newB _ _ _ _ (by simp)) (one_cellI (by rfl)) (by unfold maxLen; omega) (by omega) (by have := B2.out.size; simp; omega) ?_; intro v3 w5 hP5 hgr _; have HG5 := Lib.hid hgr; have B5 := Lib.hid (Below.grown (B2.out.alloc B2.out.size _) hgr (by have := B2.out.size; simp; omega) (fun g hg => (HW.out.lt g hg).1)); have HP5 := Lib.hid hP5; clear hP5 hgr) | fail)
      go_roundw
      case rel =>
        have hub : Below u.heap.size u (u.alloc (.cells #[.slice A2 r.xs.length c2] 22)) := (Below.refl _ _).alloc (Nat.le_refl _) _
        refine ⟨k + 1, v3, rs' ++ [⟨A2, c2, r.xs⟩], by omega, by go_num, rfl, by rw [List.length_append, HL.out]; rfl, ?_, ?_, B5.out⟩
        · have e := take_snoc (xs := nums rs) (k := k) (x := r.xs) (by simp [nums, HR.out])
          rw [e, nums, List.map_append, ← HM.out]
          rfl
        · have hr1 := (P1.out.next hub).lower (base' := w.heap.size) HB.out.size
          exact HO.out.snoc (below_next HBU.out hub (Nat.le_refl _)) hr1 (fun k hk => (P1.out.at_lt k hk).1) HG5.out (by rw [HL.out]; exact HP5.out)
      case measure => simp [intOf]; omega
    · obtain rfl : k = n := by omega
      go_wp2_with fail
      go_ret
      obtain ⟨A', c', e, _⟩ := owns_slice HO.out.outer
      subst e
      have hO := HO.out.ot
      rw [HL.out]
      refine ⟨A', c', rs', rfl, HL.out, ?_, hO, HB.out⟩
      rw [HM.out, List.take_of_length_le (by simp [nums, ← En.out])]
end Go.Proofs.YtdcckdfemelbiaaDoor.rows

/-
  Cupboards copied, the program's.
-/
namespace Go.Proofs.YtdcckdfemelbiaaDoor.rows
open Go Go.RowKit sl fold cup

theorem not_own (A : Option Addr) (n c : Nat) (u : World) : (Instr.typeAssert (.iface 88 (.slice A n c)) 158 97 true).run Tryd.prog u = .ok (.tuple #[.slice none 0 0, .bool false]) u := by kernel_rfl
theorem is_given (A : Option Addr) (n c : Nat) (u : World) : (Instr.typeAssert (.iface 88 (.slice A n c)) 158 88 true).run Tryd.prog u = .ok (.tuple #[.slice A n c, .bool true]) u := by kernel_rfl
set_option maxRecDepth 100000 in
set_option maxHeartbeats 4000000 in
theorem owned_any (A : Option Addr) (n c : Nat) (rs : List Rw) (en : n = rs.length) (hn : n ≤ 1048576) (hs : ∀ r ∈ rs, r.xs.length ≤ 1048576) (hN : ∀ r ∈ rs, r.A = none → r.c = 0) (w : World) (hg : SS w w.heap.size A rs) :
    Calls Tryd.prog 75 #[givenV A n c] w fun o w' => ∃ g rs', o = .returned (.slice (some ⟨g, 0, none⟩) n n) ∧ rs'.length = n ∧ nums rs' = nums rs ∧ OT w' w.heap.size (some ⟨g, 0, none⟩) n rs' ∧ Below w.heap.size w w' := by
  obtain ⟨i0, hi, hz0, hz1, hz2⟩ := info_parts infoRow
  have En := Lib.hid en
  clear en
  have hmk : ∀ u : World, (Instr.makeSlice 97 (.int .i64 (n : Int)) (.int .i64 (n : Int))).run Tryd.prog u =
      .ok (.slice (some ⟨u.heap.size, 0, none⟩) n n) (u.alloc (.cells (madeCells #[.slice none 0 0] n) 22)) := fun u => by
    have h := run_make (P := Tryd.prog) u 97 22 i0 _ Tryd.underlying97 hi hz0 .i64 .i64 (n : Int) (n : Int) (by omega) (Int.le_refl _) (by rw [hz2]; omega) (by omega)
    have e : ((n : Int)).toNat = n := by omega
    rw [e] at h
    simpa [hz1, Value.cells] using h
  have q1 := not_own A n c
  have q2 := is_given A n c
  simp only [givenV]
  go_enter Tryd.func75, Tryd.ntmps75
  have hB0 : Below w.heap.size w (w.alloc (.cells (madeCells #[.slice none 0 0] n) 22)) := (Below.refl _ _).alloc (Nat.le_refl _) _
  have hP0 : (w.alloc (.cells (madeCells #[.slice none 0 0] n) 22)).ownsRow w.heap.size 22 1 (.slice (some ⟨w.heap.size, 0, none⟩) n n) n _ :=
    World.ownsRow_lit w (madeCells #[.slice none 0 0] n) n (Nat.le_refl _) (by unfold maxLen; omega) (by rw [size_madeCells, Nat.mul_one])
  have HP0 := Lib.hid hP0
  clear hP0
  go_wp2_with fail
  go_loopw [21] (fun vi wr => ∃ k L rs', k ≤ n ∧ vi = .int .i64 (k : Nat) ∧ rs'.length = k ∧ nums rs' = (nums rs).take k ∧ wr.ownsRow w.heap.size 22 1 (.slice (some ⟨w.heap.size, 0, none⟩) n n) n L ∧ Done Rw.C 1 rs' k L ∧
    (∀ r ∈ rs', Own1 wr (w.heap.size + 1) r) ∧ ((rs'.map Rw.v).Pairwise fun a b => ∀ k, a.ownBlock = some k → b.ownBlock ≠ some k) ∧ w.heap.size < wr.heap.size ∧ Below w.heap.size w wr) (fun vi _ => n - (intOf vi).toNat)
  case atStart => exact ⟨0, _, [], by omega, rfl, rfl, rfl, HP0.out, Done.zero _ _ _ _, fun r hr => by simp at hr, List.Pairwise.nil, by simp, hB0⟩
  case round =>
    clear hB0 HP0
    obtain ⟨k, L, rs', hk, rfl, hl', hn', hP, hD, hE, hW, hz, hB⟩ := hrel
    have HB := Lib.hid hB
    have HL' := Lib.hid hl'
    have HN' := Lib.hid hn'
    have HD := Lib.hid hD
    have HE := Lib.hid hE
    have HW := Lib.hid hW
    have HP := Lib.hid hP
    clear hB hl' hn' hD hE hW hP
    by_cases hlt : k < n
    · obtain ⟨r, hr⟩ : ∃ r, rs[k]? = some r := ⟨rs[k]'(by have := En.out; omega), List.getElem?_eq_getElem _⟩
      obtain ⟨a, rfl, hab, q0⟩ := (hg.below HB.out).head hr
      have hrs := hs r (List.mem_of_getElem? hr)
      have hrn := hN r (List.mem_of_getElem? hr)
      have HR := Lib.hid hr
      clear hr
      go_wp2_with fail
      refine (Clone_any r hrs hrn _ ((hg.below HB.out).more HB.out.size |>.each r (List.mem_of_getElem? HR.out))).mono ?_
      rintro o u ⟨v2, rfl, P, hb⟩
      obtain ⟨A2, c2, rfl, _⟩ := owns_slice P
      have hP1 := Own1.of_owns (r := ⟨A2, c2, r.xs⟩) P
      have P1 := Lib.hid hP1
      have HBU := Lib.hid hb
      have P2 := Lib.hid (owns_next HP.out hb)
      have B2 := Lib.hid (below_next HB.out hb (Nat.le_refl _))
      clear P hb q0 HP hP1
      have hLL := P2.out.1
      obtain ⟨v0, s0⟩ : ∃ v, u.cell? ⟨w.heap.size, k, none⟩ = some v := ⟨L[k]'(by omega), (P2.out.cellAt k (by omega)).trans (List.getElem?_eq_getElem _)⟩
      have f0 := P2.out.frozenAt k
      have HLL := Lib.hid hLL
      clear hLL
      go_wp2_with fail
      go_roundw
      case rel =>
        have hP3 := P2.out.stored k (.slice A2 r.xs.length c2)
        have hx : (rs' ++ [(⟨A2, c2, r.xs⟩ : Rw)])[k]? = some ⟨A2, c2, r.xs⟩ := by
          rw [List.getElem?_append_right (by rw [HL'.out]; exact Nat.le_refl _), HL'.out, Nat.sub_self]
          rfl
        have keep : ∀ x, Own1 u (w.heap.size + 1) x → Own1 (u.setCell ⟨w.heap.size, k, none⟩ (.slice A2 r.xs.length c2)) (w.heap.size + 1) x := fun x hx => hx.keep fun g hg => hP3.2.block g (hx.at_lt g hg).2 (fun e => by have := (hx.at_lt g hg).1; have := Option.some.inj e; omega)
        refine ⟨k + 1, _, rs' ++ [⟨A2, c2, r.xs⟩], by omega, by go_num, by rw [List.length_append, HL'.out]; rfl, ?_, hP3.1, ?_, ?_, ?_, ?_, ?_⟩
        · have e := take_snoc (xs := nums rs) (k := k) (x := r.xs) (by simp [nums, HR.out])
          rw [e, nums, List.map_append, ← HN'.out]
          rfl
        · have hmono : Done Rw.C 1 (rs' ++ [(⟨A2, c2, r.xs⟩ : Rw)]) k L := fun i x hi hxi j v hv => by
            rw [List.getElem?_append_left (by rw [HL'.out]; exact hi)] at hxi
            exact HD.out i x hi hxi j v hv
          intro i x hi hxi j v hv
          have hj : j = 0 := by
            have := (List.getElem?_eq_some_iff.1 hv).1
            simp [Rw.C] at this
            exact this
          subst hj
          simp only [Rw.C, List.getElem?_cons_zero, Option.some.injEq] at hv
          subst hv
          rcases Nat.lt_or_ge i k with h1 | h1
          · have := hmono i x h1 hxi 0 _ rfl
            rw [Nat.mul_one, Nat.add_zero] at this ⊢
            rw [List.getElem?_set_ne (by omega)]
            exact this
          · obtain rfl : i = k := by omega
            rw [hx] at hxi
            obtain rfl := Option.some.inj hxi
            rw [Nat.mul_one, Nat.add_zero, List.getElem?_set_self (by rw [HLL.out]; omega)]
        · intro x hx
          rcases List.mem_append.1 hx with h1 | h1
          · exact keep x ((HE.out x h1).next HBU.out)
          · obtain rfl := List.mem_singleton.1 h1
            exact keep _ (P1.out.lower (by omega))
        · rw [List.map_append, List.map_cons, List.map_nil]
          refine List.pairwise_append.2 ⟨HW.out, List.pairwise_singleton _ _, fun a ha b hb' k hk e => ?_⟩
          obtain rfl := List.mem_singleton.1 hb'
          obtain ⟨x, hx, rfl⟩ := List.mem_map.1 ha
          have h2 := ((HE.out x hx).at_lt k hk).2
          have h3 := (P1.out.at_lt k e).1
          omega
        · have := HBU.out.size
          simp [World.setCell]
          omega
        · exact B2.out.setCell (p := ⟨w.heap.size, k, none⟩) (Nat.le_refl _) _
      case measure => simp [intOf]; omega
    · go_wp2_with fail
      obtain rfl : k = n := by omega
      go_ret
      have hl := HL'.out
      have e : L = rs'.flatMap Rw.C := Done.full (by rw [hl]; exact HD.out) (Rw.len rs') (by omega) (by rw [HP.out.1, hl])
      have hP := HP.out
      rw [e, flat_v] at hP
      refine ⟨_, rs', rfl, hl, ?_, ⟨by rw [hl]; exact hP, fun r hr => (HE.out r hr).lower (by omega), HW.out, fun v hv k hk => ?_⟩, HB.out⟩
      · rw [HN'.out, List.take_of_length_le (by simp [nums, ← En.out])]
      · obtain ⟨r, hr, rfl⟩ := List.mem_map.1 hv
        rw [hl]
        exact rows_ne (HE.out r hr) hP k hk
end Go.Proofs.YtdcckdfemelbiaaDoor.rows

/-
  Cupboards copied, the program's: each row at the start of its block.
-/
namespace Go.Proofs.YtdcckdfemelbiaaDoor.rows
open Go Go.RowKit sl fold cup

set_option maxRecDepth 100000 in
set_option maxHeartbeats 4000000 in
theorem owned_os (A : Option Addr) (n c : Nat) (rs : List Rw) (en : n = rs.length) (hn : n ≤ 1048576) (hs : ∀ r ∈ rs, r.xs.length ≤ 1048576) (hN : ∀ r ∈ rs, r.A = none → r.c = 0) (w : World) (hg : SS w w.heap.size A rs) :
    Calls Tryd.prog 75 #[givenV A n c] w fun o w' => ∃ g rs', o = .returned (.slice (some ⟨g, 0, none⟩) n n) ∧ rs'.length = n ∧ nums rs' = nums rs ∧ OS w' w.heap.size (some ⟨g, 0, none⟩) n rs' ∧ Below w.heap.size w w' := by
  obtain ⟨i0, hi, hz0, hz1, hz2⟩ := info_parts infoRow
  have En := Lib.hid en
  clear en
  have hmk : ∀ u : World, (Instr.makeSlice 97 (.int .i64 (n : Int)) (.int .i64 (n : Int))).run Tryd.prog u =
      .ok (.slice (some ⟨u.heap.size, 0, none⟩) n n) (u.alloc (.cells (madeCells #[.slice none 0 0] n) 22)) := fun u => by
    have h := run_make (P := Tryd.prog) u 97 22 i0 _ Tryd.underlying97 hi hz0 .i64 .i64 (n : Int) (n : Int) (by omega) (Int.le_refl _) (by rw [hz2]; omega) (by omega)
    have e : ((n : Int)).toNat = n := by omega
    rw [e] at h
    simpa [hz1, Value.cells] using h
  have q1 := not_own A n c
  have q2 := is_given A n c
  simp only [givenV]
  go_enter Tryd.func75, Tryd.ntmps75
  have hB0 : Below w.heap.size w (w.alloc (.cells (madeCells #[.slice none 0 0] n) 22)) := (Below.refl _ _).alloc (Nat.le_refl _) _
  have hP0 : (w.alloc (.cells (madeCells #[.slice none 0 0] n) 22)).ownsRow w.heap.size 22 1 (.slice (some ⟨w.heap.size, 0, none⟩) n n) n _ :=
    World.ownsRow_lit w (madeCells #[.slice none 0 0] n) n (Nat.le_refl _) (by unfold maxLen; omega) (by rw [size_madeCells, Nat.mul_one])
  have HP0 := Lib.hid hP0
  clear hP0
  go_wp2_with fail
  go_loopw [21] (fun vi wr => ∃ k L rs', k ≤ n ∧ vi = .int .i64 (k : Nat) ∧ rs'.length = k ∧ nums rs' = (nums rs).take k ∧ wr.ownsRow w.heap.size 22 1 (.slice (some ⟨w.heap.size, 0, none⟩) n n) n L ∧ Done Rw.C 1 rs' k L ∧
    (∀ r ∈ rs', wr.ownsRow (w.heap.size + 1) 2 1 r.v r.xs.length (r.xs.flatMap intS.C)) ∧ ((rs'.map Rw.v).Pairwise fun a b => ∀ k, a.ownBlock = some k → b.ownBlock ≠ some k) ∧ w.heap.size < wr.heap.size ∧ Below w.heap.size w wr) (fun vi _ => n - (intOf vi).toNat)
  case atStart => exact ⟨0, _, [], by omega, rfl, rfl, rfl, HP0.out, Done.zero _ _ _ _, fun r hr => by simp at hr, List.Pairwise.nil, by simp, hB0⟩
  case round =>
    clear hB0 HP0
    obtain ⟨k, L, rs', hk, rfl, hl', hn', hP, hD, hE, hW, hz, hB⟩ := hrel
    have HB := Lib.hid hB
    have HL' := Lib.hid hl'
    have HN' := Lib.hid hn'
    have HD := Lib.hid hD
    have HE := Lib.hid hE
    have HW := Lib.hid hW
    have HP := Lib.hid hP
    clear hB hl' hn' hD hE hW hP
    by_cases hlt : k < n
    · obtain ⟨r, hr⟩ : ∃ r, rs[k]? = some r := ⟨rs[k]'(by have := En.out; omega), List.getElem?_eq_getElem _⟩
      obtain ⟨a, rfl, hab, q0⟩ := (hg.below HB.out).head hr
      have hrs := hs r (List.mem_of_getElem? hr)
      have hrn := hN r (List.mem_of_getElem? hr)
      have HR := Lib.hid hr
      clear hr
      go_wp2_with fail
      refine (Clone_any r hrs hrn _ ((hg.below HB.out).more HB.out.size |>.each r (List.mem_of_getElem? HR.out))).mono ?_
      rintro o u ⟨v2, rfl, P, hb⟩
      obtain ⟨A2, c2, rfl, _⟩ := owns_slice P
      have hP1 := P
      have P1 := Lib.hid hP1
      have HBU := Lib.hid hb
      have P2 := Lib.hid (owns_next HP.out hb)
      have B2 := Lib.hid (below_next HB.out hb (Nat.le_refl _))
      clear P hb q0 HP hP1
      have hLL := P2.out.1
      obtain ⟨v0, s0⟩ : ∃ v, u.cell? ⟨w.heap.size, k, none⟩ = some v := ⟨L[k]'(by omega), (P2.out.cellAt k (by omega)).trans (List.getElem?_eq_getElem _)⟩
      have f0 := P2.out.frozenAt k
      have HLL := Lib.hid hLL
      clear hLL
      go_wp2_with fail
      go_roundw
      case rel =>
        have hP3 := P2.out.stored k (.slice A2 r.xs.length c2)
        have hx : (rs' ++ [(⟨A2, c2, r.xs⟩ : Rw)])[k]? = some ⟨A2, c2, r.xs⟩ := by
          rw [List.getElem?_append_right (by rw [HL'.out]; exact Nat.le_refl _), HL'.out, Nat.sub_self]
          rfl
        have keep : ∀ x : Rw, u.ownsRow (w.heap.size + 1) 2 1 x.v x.xs.length (x.xs.flatMap intS.C) → (u.setCell ⟨w.heap.size, k, none⟩ (.slice A2 r.xs.length c2)).ownsRow (w.heap.size + 1) 2 1 x.v x.xs.length (x.xs.flatMap intS.C) := fun x hx => owns_other hx hP3.2 (fun g hg => by have := (hx.lt g hg).1; omega)
        refine ⟨k + 1, _, rs' ++ [⟨A2, c2, r.xs⟩], by omega, by go_num, by rw [List.length_append, HL'.out]; rfl, ?_, hP3.1, ?_, ?_, ?_, ?_, ?_⟩
        · have e := take_snoc (xs := nums rs) (k := k) (x := r.xs) (by simp [nums, HR.out])
          rw [e, nums, List.map_append, ← HN'.out]
          rfl
        · have hmono : Done Rw.C 1 (rs' ++ [(⟨A2, c2, r.xs⟩ : Rw)]) k L := fun i x hi hxi j v hv => by
            rw [List.getElem?_append_left (by rw [HL'.out]; exact hi)] at hxi
            exact HD.out i x hi hxi j v hv
          intro i x hi hxi j v hv
          have hj : j = 0 := by
            have := (List.getElem?_eq_some_iff.1 hv).1
            simp [Rw.C] at this
            exact this
          subst hj
          simp only [Rw.C, List.getElem?_cons_zero, Option.some.injEq] at hv
          subst hv
          rcases Nat.lt_or_ge i k with h1 | h1
          · have := hmono i x h1 hxi 0 _ rfl
            rw [Nat.mul_one, Nat.add_zero] at this ⊢
            rw [List.getElem?_set_ne (by omega)]
            exact this
          · obtain rfl : i = k := by omega
            rw [hx] at hxi
            obtain rfl := Option.some.inj hxi
            rw [Nat.mul_one, Nat.add_zero, List.getElem?_set_self (by rw [HLL.out]; omega)]
        · intro x hx
          rcases List.mem_append.1 hx with h1 | h1
          · exact keep x (owns_next (HE.out x h1) HBU.out)
          · obtain rfl := List.mem_singleton.1 h1
            exact keep ⟨A2, c2, r.xs⟩ (owns_below P1.out (by omega))
        · rw [List.map_append, List.map_cons, List.map_nil]
          refine List.pairwise_append.2 ⟨HW.out, List.pairwise_singleton _ _, fun a ha b hb' k hk e => ?_⟩
          obtain rfl := List.mem_singleton.1 hb'
          obtain ⟨x, hx, rfl⟩ := List.mem_map.1 ha
          have h2 := ((HE.out x hx).lt k hk).2
          have h3 := (P1.out.lt k e).1
          omega
        · have := HBU.out.size
          simp [World.setCell]
          omega
        · exact B2.out.setCell (p := ⟨w.heap.size, k, none⟩) (Nat.le_refl _) _
      case measure => simp [intOf]; omega
    · go_wp2_with fail
      obtain rfl : k = n := by omega
      go_ret
      have hl := HL'.out
      have e : L = rs'.flatMap Rw.C := Done.full (by rw [hl]; exact HD.out) (Rw.len rs') (by omega) (by rw [HP.out.1, hl])
      have hP := HP.out
      rw [e] at hP
      have hP2 := hP
      rw [flat_v] at hP2
      refine ⟨_, rs', rfl, hl, ?_, ⟨by rw [hl]; exact hP, fun r hr => owns_below (HE.out r hr) (by omega), List.pairwise_map.1 HW.out, fun r hr k hk => ?_, fun r hr => (Own1.of_owns (HE.out r hr)).short⟩, HB.out⟩
      · rw [HN'.out, List.take_of_length_le (by simp [nums, ← En.out])]
      · rw [hl]
        exact rows_ne (Own1.of_owns (HE.out r hr)) hP2 k hk
end Go.Proofs.YtdcckdfemelbiaaDoor.rows

/-
  Cupboards copied, the model's: each row at the start of its block.
-/
namespace Go.Proofs.YtdcckdfemelbiaaDoor.rows
open Go Go.RowKit sl fold cup

/-- rows of the call's own, behind a value -/
structure OW (w : World) (base : Nat) (v : Value) (rs : List Rw) : Prop where
  outer : w.ownsRow base 22 1 v rs.length (rs.map Rw.v)
  each : ∀ r ∈ rs, w.ownsRow base 2 1 r.v r.xs.length (r.xs.flatMap intS.C)
  dist : (rs.map Rw.v).Pairwise fun a b => ∀ k, a.ownBlock = some k → b.ownBlock ≠ some k
theorem OW.next {w w' : World} {base : Nat} {v : Value} {rs : List Rw} (h : OW w base v rs) (hb : Below w.heap.size w w') : OW w' base v rs :=
  ⟨owns_next h.outer hb, fun r hr => owns_next (h.each r hr) hb, h.dist⟩
theorem OW.os {w : World} {base : Nat} {A : Option Addr} {c : Nat} {rs : List Rw} (h : OW w base (.slice A rs.length c) rs) : OS w base A c rs :=
  ⟨by rw [flat_v]; exact h.outer, h.each, List.pairwise_map.1 h.dist, fun r hr => rows_ne (Own1.of_owns (h.each r hr)) h.outer, fun r hr => (Own1.of_owns (h.each r hr)).short⟩
/-- one more row -/
theorem OW.snoc {w w1 w' : World} {base : Nat} {v v' : Value} {rs : List Rw} {r : Rw} (h : OW w base v rs) (hb : Below w.heap.size w w1) (hr : w1.ownsRow base 2 1 r.v r.xs.length (r.xs.flatMap intS.C)) (hnew : ∀ k, r.v.ownBlock = some k → w.heap.size ≤ k) (hg : w1.grownBy w' v.ownBlock)
    (ho : w'.ownsRow base 22 1 v' (rs.length + 1) (rs.map Rw.v ++ [r.v])) : OW w' base v' (rs ++ [r]) := by
  have h1 := h.next hb
  have keep : ∀ x : Rw, w1.ownsRow base 2 1 x.v x.xs.length (x.xs.flatMap intS.C) → w'.ownsRow base 2 1 x.v x.xs.length (x.xs.flatMap intS.C) := fun x hx => owns_but hx ⟨hg.os, hg.tape, hg.output, hg.size, fun k hk hS => hg.block k hk hS⟩ (fun g hg' e => rows_ne (Own1.of_owns hx) h1.outer g hg' e.symm)
  refine ⟨by simpa using ho, fun x hx => ?_, ?_⟩
  · rcases List.mem_append.1 hx with h2 | h2
    · exact keep x (h1.each x h2)
    · obtain rfl := List.mem_singleton.1 h2
      exact keep _ hr
  · rw [List.map_append, List.map_cons, List.map_nil]
    refine List.pairwise_append.2 ⟨h.dist, List.pairwise_singleton _ _, fun a ha b hb' k hk e => ?_⟩
    obtain rfl := List.mem_singleton.1 hb'
    obtain ⟨x, hx, rfl⟩ := List.mem_map.1 ha
    have h2 := ((h.each x hx).lt k hk).2
    have h3 := hnew k e
    omega
set_option maxRecDepth 100000 in
set_option maxHeartbeats 4000000 in
theorem l04Own_os (A : Option Addr) (n c : Nat) (rs : List Rw) (en : n = rs.length) (hn : n ≤ 1048576) (hs : ∀ r ∈ rs, r.xs.length ≤ 1048576) (hN : ∀ r ∈ rs, r.A = none → r.c = 0) (w : World) (hg : SS w w.heap.size A rs) :
    Calls Tryd.prog 66 #[.slice A n c] w fun o w' => ∃ A' c' rs', o = .returned (.slice A' n c') ∧ rs'.length = n ∧ nums rs' = nums rs ∧ OS w' w.heap.size A' c' rs' ∧ Below w.heap.size w w' := by
  obtain ⟨i0, hi, hz0, hz1, hz2⟩ := info_parts infoRow
  have En := Lib.hid en
  clear en
  have hown := World.ownsRow_made (e := 22) (size := 1) w #[] 0 (Nat.le_refl _) (Nat.zero_le _) rfl
  have O0 : Hid (OW (w.alloc (.cells #[] 22)) w.heap.size (.slice (some ⟨w.heap.size, 0, none⟩) 0 0) []) := Lib.hid ⟨hown, (fun r hr => by cases hr), List.Pairwise.nil⟩
  clear hown
  go_enter Tryd.func66, Tryd.ntmps66
  go_wp2_with fail
  go_loopw [3, 4] (fun vo vi wr => ∃ (k : Nat) (v : Value) (rs' : List Rw), k ≤ n ∧ vi = .int .i64 k ∧ vo = v ∧ rs'.length = k ∧ nums rs' = (nums rs).take k ∧ OW wr w.heap.size v rs' ∧ Below w.heap.size w wr) (fun _ vi _ => n - (intOf vi).toNat)
  case atStart => exact ⟨0, _, [], by omega, rfl, rfl, rfl, rfl, O0.out, (Below.refl _ _).alloc (Nat.le_refl _) _⟩
  case round =>
    clear O0
    obtain ⟨k, v, rs', hk, rfl, rfl, hl, hm, hO, hB⟩ := hrel
    have HL := Lib.hid hl
    have HM := Lib.hid hm
    have HO := Lib.hid hO
    have HB := Lib.hid hB
    clear hl hm hO hB
    by_cases hlt : k < n
    · obtain ⟨r, hr⟩ : ∃ r, rs[k]? = some r := ⟨rs[k]'(by have := En.out; omega), List.getElem?_eq_getElem _⟩
      obtain ⟨a, rfl, hab, q0⟩ := (hg.below HB.out).head hr
      have hrs := hs r (List.mem_of_getElem? hr)
      have hrn := hN r (List.mem_of_getElem? hr)
      have HR := Lib.hid hr
      clear hr
      go_wp2_with fail
      refine (l00Own_any r hrs hrn _ ((hg.below HB.out).more HB.out.size |>.each r (List.mem_of_getElem? HR.out))).mono ?_
      rintro o u ⟨v2, rfl, P, hb⟩
      obtain ⟨A2, c2, rfl, _⟩ := owns_slice P
      have B2 := Lib.hid (below_next HB.out hb (Nat.le_refl _))
      have hP1 := P
      have P1 := Lib.hid hP1
      have HBU := Lib.hid hb
      clear P hb q0 hP1
      have hown := (HO.out.next HBU.out).outer
      rw [HL.out] at hown
      have HW := Lib.hid hown
      clear hown
      go_wp2_with (first | (at_builtin; refine wpList_append_own _ rfl (.tmp 12) (.tmp 18) 27 rfl w.heap.size 22 i0 (.slice none 0 0) 1 24 Tryd.underlying27 hi hz0 hz1 hz2 rfl (by decide) _ k _ rfl (HW.out.alloc _) ⟨_, 0, none⟩ 1 1 [.slice A2 r.xs.length c2] rfl rfl (one_newB _ _ _ _ (by simp)) (one_cellI (by rfl)) (by unfold maxLen; omega) (by omega) (by have := B2.out.size; simp; omega) ?_; intro v3 w5 hP5 hgr _; have HG5 := Lib.hid hgr; have B5 := Lib.hid (Below.grown (B2.out.alloc B2.out.size _) hgr (by have := B2.out.size; simp; omega) (fun g hg => (HW.out.lt g hg).1)); have HP5 := Lib.hid hP5; clear hP5 hgr) | fail)
      go_roundw
      case rel =>
        have hub : Below u.heap.size u (u.alloc (.cells #[.slice A2 r.xs.length c2] 22)) := (Below.refl _ _).alloc (Nat.le_refl _) _
        refine ⟨k + 1, v3, rs' ++ [⟨A2, c2, r.xs⟩], by omega, by go_num, rfl, by rw [List.length_append, HL.out]; rfl, ?_, ?_, B5.out⟩
        · have e := take_snoc (xs := nums rs) (k := k) (x := r.xs) (by simp [nums, HR.out])
          rw [e, nums, List.map_append, ← HM.out]
          rfl
        · have hr1 := owns_below (owns_next P1.out hub) HB.out.size
          exact HO.out.snoc (r := ⟨A2, c2, r.xs⟩) (below_next HBU.out hub (Nat.le_refl _)) hr1 (fun k hk => (P1.out.lt k hk).1) HG5.out (by rw [HL.out]; exact HP5.out)
      case measure => simp [intOf]; omega
    · obtain rfl : k = n := by omega
      go_wp2_with fail
      go_ret
      obtain ⟨A', c', e, _⟩ := owns_slice HO.out.outer
      subst e
      have hO := HO.out.os
      rw [HL.out]
      refine ⟨A', c', rs', rfl, HL.out, ?_, hO, HB.out⟩
      rw [HM.out, List.take_of_length_le (by simp [nums, ← En.out])]
end Go.Proofs.YtdcckdfemelbiaaDoor.rows

/-
  The heights of a cupboard's piles, the program's; slices.Index of them.
-/
namespace Go.Proofs.YtdcckdfemelbiaaDoor.cup
open Go Go.RowKit sl errs fold rows

abbrev ownV (A : Option Addr) (n c : Nat) : Value := .iface 97 (.slice A n c)
def hts (xss : List (List Int)) : List Int := xss.map fun xs => (xs.length : Int)
theorem hts_get (rs : List Rw) (k : Nat) : (hts (nums rs))[k]? = (rs[k]?).map fun r => (r.xs.length : Int) := by simp [hts, nums, Function.comp_def]
/-- the method piles of a cupboard -/
structure Piles (T F : Nat) (A : Option Addr) (n c : Nat) : Prop where
  meth : ∀ u : World, (Go.method 379 T (.slice A n c) "loop.example/g01378/impl.piles").run Tryd.prog u = .ok (F, .slice A n c) u
  call : ∀ u : World, Sem.run Tryd.prog (callFunc F #[.slice A n c]) u = .ok (.enter F #[.slice A n c]) u
  runs : ∀ u : World, Calls Tryd.prog F #[.slice A n c] u fun o w' => o = .returned (.slice A n c) ∧ u = w'
theorem Piles.given (A : Option Addr) (n c : Nat) : Piles 88 195 A n c := ⟨method_piles A n c, fun _ => by kernel_rfl, piles_any A n c⟩
theorem method_pilesO (A : Option Addr) (n c : Nat) (w : World) : (Go.method 379 97 (.slice A n c) "loop.example/g01378/impl.piles").run Tryd.prog w = .ok (196, .slice A n c) w := by kernel_rfl
theorem pilesO_any (A : Option Addr) (n c : Nat) (w : World) :
    Calls Tryd.prog 196 #[.slice A n c] w fun o w' => o = .returned (.slice A n c) ∧ w = w' := by
  go_enter Tryd.func196, Tryd.ntmps196
  go_wp2_with fail
  go_ret
  exact ⟨rfl, rfl⟩
theorem Piles.own (A : Option Addr) (n c : Nat) : Piles 97 196 A n c := ⟨method_pilesO A n c, fun _ => by kernel_rfl, pilesO_any A n c⟩
theorem infoInt : (Tryd.prog.info? 3).map (fun i => (i.zero, i.size, i.bytes)) = some (some (.int .i64 0), 1, 8) := by kernel_rfl
set_option maxRecDepth 100000 in
set_option maxHeartbeats 4000000 in
theorem heightsOf_any {T F : Nat} (A : Option Addr) (n c : Nat) (rs : List Rw) (en : n = rs.length) (hn : n ≤ 1048576) (_hs : ∀ r ∈ rs, r.xs.length ≤ 1048576) (w : World) (hg : SS w w.heap.size A rs) (hp : Piles T F A n c) :
    Calls Tryd.prog 126 #[.iface T (.slice A n c)] w fun o w' => ∃ g, o = .returned (.slice (some ⟨g, 0, none⟩) n n) ∧ Sl intS.C 1 w' w'.heap.size (some ⟨g, 0, none⟩) (hts (nums rs)) ∧ Below w.heap.size w w' := by
  obtain ⟨i0, hi, hz0, hz1, hz2⟩ := info_parts infoInt
  have hl : (hts (nums rs)).length = n := by simp [hts, nums, en]
  have HL := Lib.hid hl
  have En := Lib.hid en
  have hmp := hp.meth
  have hpr := hp.runs
  have hca := hp.call
  have hmk : ∀ u : World, (Instr.makeSlice 163 (.int .i64 (n : Int)) (.int .i64 (n : Int))).run Tryd.prog u =
      .ok (.slice (some ⟨u.heap.size, 0, none⟩) n n) (u.alloc (.cells (madeCells #[.int .i64 0] n) 3)) := fun u => by
    have h := run_make (P := Tryd.prog) u 163 3 i0 _ Tryd.underlying163 hi hz0 .i64 .i64 (n : Int) (n : Int) (by omega) (Int.le_refl _) (by rw [hz2]; omega) (by omega)
    have e : ((n : Int)).toNat = n := by omega
    rw [e] at h
    simpa [hz1, Value.cells] using h
  have hP0 : (w.alloc (.cells (madeCells #[.int .i64 0] n) 3)).ownsRow w.heap.size 3 1 (.slice (some ⟨w.heap.size, 0, none⟩) n n) n _ :=
    World.ownsRow_lit w (madeCells #[.int .i64 0] n) n (Nat.le_refl _) (by unfold maxLen; omega) (by rw [size_madeCells, Nat.mul_one])
  have HP0 := Lib.hid hP0
  have HB0 : Hid (Below w.heap.size w (w.alloc (.cells (madeCells #[.int .i64 0] n) 3))) := Lib.hid ((Below.refl _ _).alloc (Nat.le_refl _) _)
  have HAT : Hid (∀ i, i < n → ∃ r, rs[i]? = some r) := Lib.hid fun i hi => ⟨rs[i]'(by omega), List.getElem?_eq_getElem _⟩
  clear hP0 en hl hp
  go_enter Tryd.func126, Tryd.ntmps126
  go_wp2_with fail
  refine (hpr _).mono ?_
  rintro o u ⟨rfl, rfl⟩
  clear hmp hpr hca
  go_wp2_with fail
  go_loopw [5, 6, 14] (fun _ _ vi wr => ∃ i L, i ≤ n ∧ vi = .int .i64 (i : Nat) ∧ wr.ownsRow w.heap.size 3 1 (.slice (some ⟨w.heap.size, 0, none⟩) n n) n L ∧ Done intS.C 1 (hts (nums rs)) i L ∧ Below w.heap.size w wr) (fun _ _ vi _ => n - (intOf vi).toNat)
  case atStart => exact ⟨0, _, by omega, rfl, HP0.out, Done.zero _ _ _ _, HB0.out⟩
  case round =>
    clear HP0 HB0
    obtain ⟨i, L, hi, rfl, hP, hD, hB⟩ := hrel
    have HD := Lib.hid hD
    have HB := Lib.hid hB
    by_cases hlt : i < n
    · obtain ⟨r, hr⟩ := HAT.out i hlt
      obtain ⟨a, rfl, hab, q0⟩ := (hg.below HB.out).head hr
      have HX : Hid ((hts (nums rs))[i]? = some (r.xs.length : Int)) := Lib.hid (by rw [hts_get, hr]; rfl)
      have hLL := hP.1
      obtain ⟨v0, s0⟩ : ∃ v, wr.cell? ⟨w.heap.size, i, none⟩ = some v := ⟨L[i]'(by omega), (hP.cellAt i (by omega)).trans (List.getElem?_eq_getElem _)⟩
      have f0 := hP.frozenAt i
      have HLL := Lib.hid hLL
      have HP := Lib.hid hP
      clear hLL hP hD hB hr
      go_wp2_with fail
      go_roundw
      case rel =>
        have hP3 := (HP.out.stored i (.int .i64 (r.xs.length : Int))).1
        have hd := HD.out.step (C := intS.C) (fun _ _ => rfl) HX.out (by rw [HLL.out, HL.out])
        rw [Nat.mul_one] at hd
        exact ⟨i + 1, _, by omega, by go_num, hP3, hd, HB.out.setCell (p := ⟨w.heap.size, i, none⟩) (Nat.le_refl _) _⟩
      case measure => simp [intOf]; omega
    · obtain rfl : i = n := by omega
      have hL : L = (hts (nums rs)).flatMap intS.C := Done.full (C := intS.C) (sz := 1) (by rw [HL.out]; exact hD) (fun _ _ => rfl) (by decide) (by rw [hP.1, HL.out])
      rw [hL] at hP
      have HS := Lib.hid (Sl.of_owns hP (fun _ _ => rfl) (by decide))
      clear hL hP hD
      go_wp2_with fail
      go_ret
      exact ⟨_, rfl, HS.out, HB.out⟩
set_option maxHeartbeats 1000000 in
theorem IndexI_any (A : Option Addr) (n c : Nat) (xs : List Int) (s : Int) (en : n = xs.length) (hn : n ≤ 9223372036854775807) (w : World) (B : Nat) (hg : Sl intS.C 1 w B A xs) (z : Int) (hz : (∀ I : Nat, At1 xs s I → z = I) ∧ (s ∉ xs → z = -1)) :
    Calls Tryd.prog 128 #[.slice A n c, .int .i64 s] w fun o w' => o = .returned (.int .i64 z) ∧ w = w' := by
  have En := Lib.hid en
  have HZ := Lib.hid hz
  clear en hz
  go_enter Tryd.func128, Tryd.ntmps128
  go_wp2_with fail
  go_loop [8, 5] (fun vi _ => ∃ k : Nat, k ≤ n ∧ vi = .int .i64 k ∧ ∀ j, j < k → xs[j]? ≠ some s) (fun vi _ => n - (intOf vi).toNat)
  case atStart => exact ⟨0, by omega, rfl, fun j hj => absurd hj (by omega)⟩
  case round =>
    obtain ⟨k, hk, rfl, hno⟩ := hrel
    have HN := Lib.hid hno
    clear hno
    by_cases hlt : k < n
    · obtain ⟨y, hy⟩ : ∃ y, xs[k]? = some y := ⟨xs[k]'(by have := En.out; omega), List.getElem?_eq_getElem _⟩
      obtain ⟨a, rfl, hab, hat⟩ := hg.at_ k y hy
      have q0 := intS.at_ hat
      have HY := Lib.hid hy
      clear hy hat
      by_cases hxy : y = s
      · obtain rfl : z = k := HZ.out.1 k ⟨by rw [HY.out, hxy], HN.out⟩
        subst hxy
        go_wp2_with fail
        go_ret
        exact ⟨rfl, rfl⟩
      · have hne : (s == y) = false := by rw [beq_eq_false_iff_ne]; exact fun e => hxy e.symm
        have HXY := Lib.hid hxy
        clear hxy
        go_wp2_with fail
        go_round
        case rel => exact ⟨k + 1, by omega, by go_num, fun i hi => by
          rcases Nat.lt_or_ge i k with h1 | h1
          · exact HN.out i h1
          · obtain rfl : i = k := by omega
            rw [HY.out]
            exact fun e => HXY.out (Option.some.inj e)⟩
        case measure => simp [intOf]; omega
    · obtain rfl : k = n := by omega
      obtain rfl : z = -1 := HZ.out.2 (fun hm => by
        obtain ⟨i, hi⟩ := List.mem_iff_getElem?.1 hm
        exact HN.out i (by have := (List.getElem?_eq_some_iff.1 hi).1; have := En.out; omega) hi)
      go_wp2_with fail
      go_ret
      exact ⟨rfl, rfl⟩
end Go.Proofs.YtdcckdfemelbiaaDoor.cup

/-
  The first pile with the fewest sheets, the program's and the model's.
-/
namespace Go.Proofs.YtdcckdfemelbiaaDoor.cup
open Go Go.RowKit sl errs fold rows

/-- the first of the least among the first numbers of a list -/
structure LowTo (hs : List Int) (k p : Nat) (h : Int) : Prop where
  lt : p < k
  here : hs[p]? = some h
  first : ∀ j y, j < p → hs[j]? = some y → h < y
  least : ∀ j y, j < k → hs[j]? = some y → h ≤ y
abbrev Low (hs : List Int) (p : Nat) (h : Int) : Prop := LowTo hs hs.length p h
theorem LowTo.zero {hs : List Int} {h : Int} (h0 : hs[0]? = some h) : LowTo hs 1 0 h :=
  ⟨by omega, h0, fun j y hj => absurd hj (by omega), fun j y hj hy => by
    obtain rfl : j = 0 := by omega
    rw [h0] at hy
    obtain rfl := Option.some.inj hy
    omega⟩
theorem LowTo.keep {hs : List Int} {k p : Nat} {h y : Int} (e : LowTo hs k p h) (hk : hs[k]? = some y) (hy : ¬ y < h) : LowTo hs (k + 1) p h :=
  ⟨by have := e.lt; omega, e.here, e.first, fun j z hj hz => by
    rcases Nat.lt_or_ge j k with h1 | h1
    · exact e.least j z h1 hz
    · obtain rfl : j = k := by omega
      rw [hk] at hz
      obtain rfl := Option.some.inj hz
      omega⟩
theorem LowTo.new {hs : List Int} {k p : Nat} {h y : Int} (e : LowTo hs k p h) (hk : hs[k]? = some y) (hy : y < h) : LowTo hs (k + 1) k y :=
  ⟨by omega, hk, fun j z hj hz => by have := e.least j z hj hz; omega, fun j z hj hz => by
    rcases Nat.lt_or_ge j k with h1 | h1
    · have := e.least j z h1 hz; omega
    · obtain rfl : j = k := by omega
      rw [hk] at hz
      obtain rfl := Option.some.inj hz
      omega⟩
theorem LowTo.unique {hs : List Int} {k p q : Nat} {h y : Int} (e : LowTo hs k p h) (f : LowTo hs k q y) : p = q ∧ h = y := by
  have h1 := e.least q y f.lt f.here
  have h2 := f.least p h e.lt e.here
  rcases Nat.lt_trichotomy p q with h3 | rfl | h3
  · have := f.first p h h3 e.here; omega
  · exact ⟨rfl, by omega⟩
  · have := e.first q y h3 f.here; omega
theorem LowTo.exists {hs : List Int} : ∀ k, 0 < k → k ≤ hs.length → ∃ p h, LowTo hs k p h
  | 0, h, _ => absurd h (by omega)
  | 1, _, h => ⟨0, hs[0]'(by omega), .zero (List.getElem?_eq_getElem _)⟩
  | k + 2, _, h => by
    obtain ⟨p, x, e⟩ := LowTo.exists (hs := hs) (k + 1) (by omega) (by omega)
    have hk : hs[k + 1]? = some (hs[k + 1]'(by omega)) := List.getElem?_eq_getElem _
    by_cases hy : (hs[k + 1]'(by omega)) < x
    · exact ⟨_, _, e.new hk hy⟩
    · exact ⟨_, _, e.keep hk hy⟩
theorem LowTo.at1 {hs : List Int} {k p : Nat} {h : Int} (e : LowTo hs k p h) : At1 hs h p := ⟨e.here, fun j hj hy => by have := e.first j h hj hy; omega⟩
set_option maxRecDepth 100000 in
set_option maxHeartbeats 4000000 in
theorem l04Fewest_any (A : Option Addr) (n c : Nat) (rs : List Rw) (en : n = rs.length) (hn : n ≤ 1048576) (_hs : ∀ r ∈ rs, r.xs.length ≤ 1048576) (w : World) (hg : SS w w.heap.size A rs) (p : Nat) (h : Int) (he : Low (hts (nums rs)) p h) :
    Calls Tryd.prog 65 #[.slice A n c] w fun o w' => o = .returned (.int .i64 p) ∧ Below w.heap.size w w' := by
  have hl : (hts (nums rs)).length = n := by simp [hts, nums, en]
  have he' : LowTo (hts (nums rs)) n p h := by rw [← hl]; exact he
  have En := Lib.hid en
  have HE := Lib.hid he'
  have hn0 : 0 < n := by have := he'.lt; omega
  have H0 : Hid (∃ q x, LowTo (hts (nums rs)) 1 q x ∧ q = 0) := Lib.hid ⟨0, _, .zero (List.getElem?_eq_getElem (by omega)), rfl⟩
  have HAT : Hid (∀ i, i < n → ∃ r, rs[i]? = some r) := Lib.hid fun i hi => ⟨rs[i]'(by omega), List.getElem?_eq_getElem _⟩
  clear en he he' hl
  go_enter Tryd.func65, Tryd.ntmps65
  go_wp2_with fail
  go_loopw [3, 4] (fun vb vi wr => ∃ (k q : Nat) (x : Int), 1 ≤ k ∧ k ≤ n ∧ vi = .int .i64 k ∧ vb = .int .i64 q ∧ LowTo (hts (nums rs)) k q x ∧ Below w.heap.size w wr) (fun _ vi _ => n - (intOf vi).toNat)
  case atStart =>
    obtain ⟨q, x, e, rfl⟩ := H0.out
    exact ⟨1, 0, x, by omega, by omega, rfl, rfl, e, Below.refl _ _⟩
  case round =>
    clear H0
    obtain ⟨k, q, x, hk1, hk, rfl, rfl, he, hB⟩ := hrel
    have hq := he.lt
    have HK := Lib.hid he
    have HB := Lib.hid hB
    clear he hB
    by_cases hlt : k < n
    · obtain ⟨r, hr⟩ := HAT.out k hlt
      obtain ⟨b, hb⟩ := HAT.out q (by omega)
      obtain ⟨a, ha, hab, q0⟩ := (hg.below HB.out).head hr
      obtain ⟨a', ha', _, q1⟩ := (hg.below HB.out).head hb
      subst ha
      obtain rfl := Option.some.inj ha'
      have hqn : q < n := by omega
      have hx1 : (hts (nums rs))[k]? = some (r.xs.length : Int) := by rw [hts_get, hr]; rfl
      have hx2 : x = (b.xs.length : Int) := by
        have h1 : (hts (nums rs))[q]? = some (b.xs.length : Int) := by rw [hts_get, hb]; rfl
        rw [HK.out.here] at h1
        exact Option.some.inj h1
      have HX1 := Lib.hid hx1
      obtain ⟨lr, hlr⟩ : ∃ lr, r.xs.length = lr := ⟨_, rfl⟩
      obtain ⟨lb, hlb⟩ : ∃ lb, b.xs.length = lb := ⟨_, rfl⟩
      rw [hlr] at q0 HX1
      rw [hlb] at q1 hx2
      subst hx2
      clear hx1 hr hb hlr hlb
      by_cases hc : (lr : Int) < lb
      · have hd : decide ((lr : Int) < lb) = true := decide_eq_true hc
        have HN := Lib.hid (HK.out.new HX1.out hc)
        go_wp2_with fail
        go_quiet (fail)
        go_wp2_with fail
        go_roundw
        case rel => exact ⟨k + 1, k, _, by omega, by omega, by go_num, rfl, HN.out, below_drewN' HB.out⟩
        case measure => simp [intOf]; omega
      · have hd : decide ((lr : Int) < lb) = false := decide_eq_false hc
        have HN := Lib.hid (HK.out.keep HX1.out hc)
        go_wp2_with fail
        go_quiet (fail)
        go_wp2_with fail
        go_roundw
        case rel => exact ⟨k + 1, q, _, by omega, by omega, by go_num, rfl, HN.out, below_drewN' HB.out⟩
        case measure => simp [intOf]; omega
    · obtain rfl : k = n := by omega
      obtain ⟨rfl, rfl⟩ := HK.out.unique HE.out
      go_wp2_with fail
      go_ret
      exact ⟨rfl, HB.out⟩
set_option maxRecDepth 100000 in
set_option maxHeartbeats 4000000 in
theorem MinI_any (g n c : Nat) (hs : List Int) (en : n = hs.length) (hn : n ≤ 1048576) (w : World) (B : Nat) (hg : Sl intS.C 1 w B (some ⟨g, 0, none⟩) hs) (p : Nat) (h : Int) (he : Low hs p h) :
    Calls Tryd.prog 127 #[.slice (some ⟨g, 0, none⟩) n c] w fun o w' => o = .returned (.int .i64 h) ∧ w = w' := by
  have he' : LowTo hs n p h := by rw [en]; exact he
  have hn0 : 0 < n := by have := he'.lt; omega
  have HE := Lib.hid he'
  obtain ⟨x0, hx0⟩ : ∃ x, hs[0]? = some x := ⟨_, List.getElem?_eq_getElem (by omega)⟩
  have H0 := Lib.hid (LowTo.zero hx0)
  have HAT : Hid (∀ i, i < n → ∃ y, hs[i]? = some y ∧ w.cell? ⟨g, i, none⟩ = some (.int .i64 y)) := Lib.hid fun i hi => by
    have hy : hs[i]? = some (hs[i]'(by omega)) := List.getElem?_eq_getElem _
    obtain ⟨a', e, _, h2⟩ := hg.at_ i _ hy
    obtain rfl := Option.some.inj e
    have h3 := intS.at_ h2
    rw [add_lit] at h3
    exact ⟨_, hy, h3⟩
  have q0 : w.cell? ⟨g, 0, none⟩ = some (.int .i64 x0) := by
    obtain ⟨y, hy, h3⟩ := HAT.out 0 hn0
    rw [hx0] at hy
    obtain rfl := Option.some.inj hy
    exact h3
  have hd1 : decide ((n : Int) < 1) = false := decide_eq_false (by omega)
  clear he he' en hx0 hg
  go_enter Tryd.func127, Tryd.ntmps127
  go_wp2_with fail
  go_loopw [3, 4] (fun vm vi wr => ∃ (k q : Nat) (m : Int), 1 ≤ k ∧ k ≤ n ∧ vi = .int .i64 (k : Nat) ∧ vm = .int .i64 m ∧ LowTo hs k q m ∧ wr = w) (fun _ vi _ => n - (intOf vi).toNat)
  case atStart => exact ⟨1, 0, x0, by omega, by omega, rfl, rfl, H0.out, rfl⟩
  case round =>
    clear H0 q0
    obtain ⟨k, q, m, hk1, hk, rfl, rfl, hm, rfl⟩ := hrel
    have HM := Lib.hid hm
    clear hm
    by_cases hlt : k < n
    · obtain ⟨y, hy, hc⟩ := HAT.out k hlt
      have HY := Lib.hid hy
      clear hy
      by_cases hym : y < m
      · have HN := Lib.hid (HM.out.new HY.out hym)
        go_wp2_with fail
        go_roundw
        case rel => exact ⟨k + 1, k, y, by omega, by omega, by go_num, by rfl, HN.out, by trivial⟩
        case measure => simp [intOf]; omega
      · have HN := Lib.hid (HM.out.keep HY.out hym)
        go_wp2_with fail
        go_roundw
        case rel => exact ⟨k + 1, q, m, by omega, by omega, by go_num, by rfl, HN.out, by trivial⟩
        case measure => simp [intOf]; omega
    · obtain rfl : k = n := by omega
      obtain ⟨rfl, rfl⟩ := HM.out.unique HE.out
      go_wp2_with fail
      go_ret
      exact ⟨rfl, rfl⟩
set_option maxRecDepth 100000 in
set_option maxHeartbeats 4000000 in
theorem lowestPile_any {T F : Nat} (A : Option Addr) (n c : Nat) (rs : List Rw) (en : n = rs.length) (hn : n ≤ 1048576) (hs : ∀ r ∈ rs, r.xs.length ≤ 1048576) (w : World) (hg : SS w w.heap.size A rs) (hp : Piles T F A n c) (p : Nat) (h : Int) (he : Low (hts (nums rs)) p h) :
    Calls Tryd.prog 72 #[.iface T (.slice A n c)] w fun o w' => o = .returned (.tuple #[.int .i64 p, .int .i64 h]) ∧ Below w.heap.size w w' := by
  have hl : (hts (nums rs)).length = n := by simp [hts, nums, en]
  have En := Lib.hid en
  have HE := Lib.hid he
  have HL := Lib.hid hl
  have HP := Lib.hid hp
  clear en he hl hp
  go_enter Tryd.func72, Tryd.ntmps72
  go_wp2_with fail
  refine (heightsOf_any A n c rs En.out hn hs _ hg HP.out).mono ?_
  rintro o u ⟨g, rfl, hS, hb⟩
  have HB := Lib.hid hb
  have HS := Lib.hid hS
  clear hb hS
  go_wp2_with fail
  refine (MinI_any g n n (hts (nums rs)) HL.out.symm hn _ _ HS.out p h HE.out).mono ?_
  rintro o u2 ⟨rfl, rfl⟩
  go_wp2_with fail
  refine (IndexI_any (some ⟨g, 0, none⟩) n n (hts (nums rs)) h HL.out.symm (by omega) _ _ HS.out (p : Int) ⟨fun I hI => by rw [hI.unique HE.out.at1], fun hm => absurd HE.out.at1.mem hm⟩).mono ?_
  rintro o u2 ⟨rfl, rfl⟩
  go_wp2_with fail
  go_ret2
  exact ⟨rfl, HB.out⟩
end Go.Proofs.YtdcckdfemelbiaaDoor.cup

/-
  The first pile with the most sheets, the program's and the model's.
-/
namespace Go.Proofs.YtdcckdfemelbiaaDoor.cup
open Go Go.RowKit sl errs fold rows

/-- the first of the greatest among the first numbers of a list -/
structure TopTo (hs : List Int) (k p : Nat) (h : Int) : Prop where
  lt : p < k
  here : hs[p]? = some h
  first : ∀ j y, j < p → hs[j]? = some y → y < h
  least : ∀ j y, j < k → hs[j]? = some y → y ≤ h
abbrev Top (hs : List Int) (p : Nat) (h : Int) : Prop := TopTo hs hs.length p h
theorem TopTo.zero {hs : List Int} {h : Int} (h0 : hs[0]? = some h) : TopTo hs 1 0 h :=
  ⟨by omega, h0, fun j y hj => absurd hj (by omega), fun j y hj hy => by
    obtain rfl : j = 0 := by omega
    rw [h0] at hy
    obtain rfl := Option.some.inj hy
    omega⟩
theorem TopTo.keep {hs : List Int} {k p : Nat} {h y : Int} (e : TopTo hs k p h) (hk : hs[k]? = some y) (hy : ¬ h < y) : TopTo hs (k + 1) p h :=
  ⟨by have := e.lt; omega, e.here, e.first, fun j z hj hz => by
    rcases Nat.lt_or_ge j k with h1 | h1
    · exact e.least j z h1 hz
    · obtain rfl : j = k := by omega
      rw [hk] at hz
      obtain rfl := Option.some.inj hz
      omega⟩
theorem TopTo.new {hs : List Int} {k p : Nat} {h y : Int} (e : TopTo hs k p h) (hk : hs[k]? = some y) (hy : h < y) : TopTo hs (k + 1) k y :=
  ⟨by omega, hk, fun j z hj hz => by have := e.least j z hj hz; omega, fun j z hj hz => by
    rcases Nat.lt_or_ge j k with h1 | h1
    · have := e.least j z h1 hz; omega
    · obtain rfl : j = k := by omega
      rw [hk] at hz
      obtain rfl := Option.some.inj hz
      omega⟩
theorem TopTo.unique {hs : List Int} {k p q : Nat} {h y : Int} (e : TopTo hs k p h) (f : TopTo hs k q y) : p = q ∧ h = y := by
  have h1 := e.least q y f.lt f.here
  have h2 := f.least p h e.lt e.here
  rcases Nat.lt_trichotomy p q with h3 | rfl | h3
  · have := f.first p h h3 e.here; omega
  · exact ⟨rfl, by omega⟩
  · have := e.first q y h3 f.here; omega
theorem TopTo.exists {hs : List Int} : ∀ k, 0 < k → k ≤ hs.length → ∃ p h, TopTo hs k p h
  | 0, h, _ => absurd h (by omega)
  | 1, _, h => ⟨0, hs[0]'(by omega), .zero (List.getElem?_eq_getElem _)⟩
  | k + 2, _, h => by
    obtain ⟨p, x, e⟩ := TopTo.exists (hs := hs) (k + 1) (by omega) (by omega)
    have hk : hs[k + 1]? = some (hs[k + 1]'(by omega)) := List.getElem?_eq_getElem _
    by_cases hy : x < (hs[k + 1]'(by omega))
    · exact ⟨_, _, e.new hk hy⟩
    · exact ⟨_, _, e.keep hk hy⟩
theorem TopTo.at1 {hs : List Int} {k p : Nat} {h : Int} (e : TopTo hs k p h) : At1 hs h p := ⟨e.here, fun j hj hy => by have := e.first j h hj hy; omega⟩
set_option maxRecDepth 100000 in
set_option maxHeartbeats 4000000 in
theorem l04Most_any (A : Option Addr) (n c : Nat) (rs : List Rw) (en : n = rs.length) (hn : n ≤ 1048576) (_hs : ∀ r ∈ rs, r.xs.length ≤ 1048576) (w : World) (hg : SS w w.heap.size A rs) (p : Nat) (h : Int) (he : Top (hts (nums rs)) p h) :
    Calls Tryd.prog 74 #[.slice A n c] w fun o w' => o = .returned (.int .i64 p) ∧ Below w.heap.size w w' := by
  have hl : (hts (nums rs)).length = n := by simp [hts, nums, en]
  have he' : TopTo (hts (nums rs)) n p h := by rw [← hl]; exact he
  have En := Lib.hid en
  have HE := Lib.hid he'
  have hn0 : 0 < n := by have := he'.lt; omega
  have H0 : Hid (∃ q x, TopTo (hts (nums rs)) 1 q x ∧ q = 0) := Lib.hid ⟨0, _, .zero (List.getElem?_eq_getElem (by omega)), rfl⟩
  have HAT : Hid (∀ i, i < n → ∃ r, rs[i]? = some r) := Lib.hid fun i hi => ⟨rs[i]'(by omega), List.getElem?_eq_getElem _⟩
  clear en he he' hl
  go_enter Tryd.func74, Tryd.ntmps74
  go_wp2_with fail
  go_loopw [3, 4] (fun vb vi wr => ∃ (k q : Nat) (x : Int), 1 ≤ k ∧ k ≤ n ∧ vi = .int .i64 k ∧ vb = .int .i64 q ∧ TopTo (hts (nums rs)) k q x ∧ Below w.heap.size w wr) (fun _ vi _ => n - (intOf vi).toNat)
  case atStart =>
    obtain ⟨q, x, e, rfl⟩ := H0.out
    exact ⟨1, 0, x, by omega, by omega, rfl, rfl, e, Below.refl _ _⟩
  case round =>
    clear H0
    obtain ⟨k, q, x, hk1, hk, rfl, rfl, he, hB⟩ := hrel
    have hq := he.lt
    have HK := Lib.hid he
    have HB := Lib.hid hB
    clear he hB
    by_cases hlt : k < n
    · obtain ⟨r, hr⟩ := HAT.out k hlt
      obtain ⟨b, hb⟩ := HAT.out q (by omega)
      obtain ⟨a, ha, hab, q0⟩ := (hg.below HB.out).head hr
      obtain ⟨a', ha', _, q1⟩ := (hg.below HB.out).head hb
      subst ha
      obtain rfl := Option.some.inj ha'
      have hqn : q < n := by omega
      have hx1 : (hts (nums rs))[k]? = some (r.xs.length : Int) := by rw [hts_get, hr]; rfl
      have hx2 : x = (b.xs.length : Int) := by
        have h1 : (hts (nums rs))[q]? = some (b.xs.length : Int) := by rw [hts_get, hb]; rfl
        rw [HK.out.here] at h1
        exact Option.some.inj h1
      have HX1 := Lib.hid hx1
      obtain ⟨lr, hlr⟩ : ∃ lr, r.xs.length = lr := ⟨_, rfl⟩
      obtain ⟨lb, hlb⟩ : ∃ lb, b.xs.length = lb := ⟨_, rfl⟩
      rw [hlr] at q0 HX1
      rw [hlb] at q1 hx2
      subst hx2
      clear hx1 hr hb hlr hlb
      by_cases hc : lb < (lr : Int)
      · have hd : decide (lb < (lr : Int)) = true := decide_eq_true hc
        have HN := Lib.hid (HK.out.new HX1.out hc)
        go_wp2_with fail
        go_quiet (fail)
        go_wp2_with fail
        go_roundw
        case rel => exact ⟨k + 1, k, _, by omega, by omega, by go_num, rfl, HN.out, below_drewN' HB.out⟩
        case measure => simp [intOf]; omega
      · have hd : decide (lb < (lr : Int)) = false := decide_eq_false hc
        have HN := Lib.hid (HK.out.keep HX1.out hc)
        go_wp2_with fail
        go_quiet (fail)
        go_wp2_with fail
        go_roundw
        case rel => exact ⟨k + 1, q, _, by omega, by omega, by go_num, rfl, HN.out, below_drewN' HB.out⟩
        case measure => simp [intOf]; omega
    · obtain rfl : k = n := by omega
      obtain ⟨rfl, rfl⟩ := HK.out.unique HE.out
      go_wp2_with fail
      go_ret
      exact ⟨rfl, HB.out⟩
set_option maxRecDepth 100000 in
set_option maxHeartbeats 4000000 in
theorem MaxI_any (g n c : Nat) (hs : List Int) (en : n = hs.length) (hn : n ≤ 1048576) (w : World) (B : Nat) (hg : Sl intS.C 1 w B (some ⟨g, 0, none⟩) hs) (p : Nat) (h : Int) (he : Top hs p h) :
    Calls Tryd.prog 130 #[.slice (some ⟨g, 0, none⟩) n c] w fun o w' => o = .returned (.int .i64 h) ∧ w = w' := by
  have he' : TopTo hs n p h := by rw [en]; exact he
  have hn0 : 0 < n := by have := he'.lt; omega
  have HE := Lib.hid he'
  obtain ⟨x0, hx0⟩ : ∃ x, hs[0]? = some x := ⟨_, List.getElem?_eq_getElem (by omega)⟩
  have H0 := Lib.hid (TopTo.zero hx0)
  have HAT : Hid (∀ i, i < n → ∃ y, hs[i]? = some y ∧ w.cell? ⟨g, i, none⟩ = some (.int .i64 y)) := Lib.hid fun i hi => by
    have hy : hs[i]? = some (hs[i]'(by omega)) := List.getElem?_eq_getElem _
    obtain ⟨a', e, _, h2⟩ := hg.at_ i _ hy
    obtain rfl := Option.some.inj e
    have h3 := intS.at_ h2
    rw [add_lit] at h3
    exact ⟨_, hy, h3⟩
  have q0 : w.cell? ⟨g, 0, none⟩ = some (.int .i64 x0) := by
    obtain ⟨y, hy, h3⟩ := HAT.out 0 hn0
    rw [hx0] at hy
    obtain rfl := Option.some.inj hy
    exact h3
  have hd1 : decide ((n : Int) < 1) = false := decide_eq_false (by omega)
  clear he he' en hx0 hg
  go_enter Tryd.func130, Tryd.ntmps130
  go_wp2_with fail
  go_loopw [3, 4] (fun vm vi wr => ∃ (k q : Nat) (m : Int), 1 ≤ k ∧ k ≤ n ∧ vi = .int .i64 (k : Nat) ∧ vm = .int .i64 m ∧ TopTo hs k q m ∧ wr = w) (fun _ vi _ => n - (intOf vi).toNat)
  case atStart => exact ⟨1, 0, x0, by omega, by omega, rfl, rfl, H0.out, rfl⟩
  case round =>
    clear H0 q0
    obtain ⟨k, q, m, hk1, hk, rfl, rfl, hm, rfl⟩ := hrel
    have HM := Lib.hid hm
    clear hm
    by_cases hlt : k < n
    · obtain ⟨y, hy, hc⟩ := HAT.out k hlt
      have HY := Lib.hid hy
      clear hy
      by_cases hym : m < y
      · have HN := Lib.hid (HM.out.new HY.out hym)
        go_wp2_with fail
        go_roundw
        case rel => exact ⟨k + 1, k, y, by omega, by omega, by go_num, by rfl, HN.out, by trivial⟩
        case measure => simp [intOf]; omega
      · have HN := Lib.hid (HM.out.keep HY.out hym)
        go_wp2_with fail
        go_roundw
        case rel => exact ⟨k + 1, q, m, by omega, by omega, by go_num, by rfl, HN.out, by trivial⟩
        case measure => simp [intOf]; omega
    · obtain rfl : k = n := by omega
      obtain ⟨rfl, rfl⟩ := HM.out.unique HE.out
      go_wp2_with fail
      go_ret
      exact ⟨rfl, rfl⟩
set_option maxRecDepth 100000 in
set_option maxHeartbeats 4000000 in
theorem highestPile_any {T F : Nat} (A : Option Addr) (n c : Nat) (rs : List Rw) (en : n = rs.length) (hn : n ≤ 1048576) (hs : ∀ r ∈ rs, r.xs.length ≤ 1048576) (w : World) (hg : SS w w.heap.size A rs) (hp : Piles T F A n c) (p : Nat) (h : Int) (he : Top (hts (nums rs)) p h) :
    Calls Tryd.prog 76 #[.iface T (.slice A n c)] w fun o w' => o = .returned (.tuple #[.int .i64 p, .int .i64 h]) ∧ Below w.heap.size w w' := by
  have hl : (hts (nums rs)).length = n := by simp [hts, nums, en]
  have En := Lib.hid en
  have HE := Lib.hid he
  have HL := Lib.hid hl
  have HP := Lib.hid hp
  clear en he hl hp
  go_enter Tryd.func76, Tryd.ntmps76
  go_wp2_with fail
  refine (heightsOf_any A n c rs En.out hn hs _ hg HP.out).mono ?_
  rintro o u ⟨g, rfl, hS, hb⟩
  have HB := Lib.hid hb
  have HS := Lib.hid hS
  clear hb hS
  go_wp2_with fail
  refine (MaxI_any g n n (hts (nums rs)) HL.out.symm hn _ _ HS.out p h HE.out).mono ?_
  rintro o u2 ⟨rfl, rfl⟩
  go_wp2_with fail
  refine (IndexI_any (some ⟨g, 0, none⟩) n n (hts (nums rs)) h HL.out.symm (by omega) _ _ HS.out (p : Int) ⟨fun I hI => by rw [hI.unique HE.out.at1], fun hm => absurd HE.out.at1.mem hm⟩).mono ?_
  rintro o u2 ⟨rfl, rfl⟩
  go_wp2_with fail
  go_ret2
  exact ⟨rfl, HB.out⟩
end Go.Proofs.YtdcckdfemelbiaaDoor.cup

/-
  The lowest sheet of a pile is taken.
-/
namespace Go.Proofs.YtdcckdfemelbiaaDoor.rows
open Go Go.RowKit sl fold cup

/-- one row lies elsewhere now -/
theorem OT.put {w : World} {base g : Nat} {c : Nat} {pre post : List Rw} {r r' : Rw} (h : OT w base (some ⟨g, 0, none⟩) c (pre ++ r :: post)) (h' : Own1 w base r') (hv : ∀ k, r'.v.ownBlock = some k → r.v.ownBlock = some k) :
    OT (w.setCell ⟨g, pre.length, none⟩ r'.v) base (some ⟨g, 0, none⟩) c (pre ++ r' :: post) ∧ w.grownBy (w.setCell ⟨g, pre.length, none⟩ r'.v) (some g) := by
  have hl : (pre ++ r' :: post).length = (pre ++ r :: post).length := by simp
  have hst := h.outer.stored pre.length r'.v
  have hset : ((pre ++ r :: post).map Rw.v).set pre.length r'.v = (pre ++ r' :: post).map Rw.v := by
    rw [List.map_append, List.map_cons, List.set_append_right _ _ (by simp)]
    simp
  rw [hset] at hst
  have keep : ∀ x, Own1 w base x → (∀ k, x.v.ownBlock = some k → k ≠ g) → Own1 (w.setCell ⟨g, pre.length, none⟩ r'.v) base x := fun x hx hne => hx.keep fun k hk => hst.2.block k (hx.at_lt k hk).2 (fun e => hne k hk (Option.some.inj e))
  have hoff : ∀ x ∈ pre ++ r :: post, ∀ k, x.v.ownBlock = some k → k ≠ g := fun x hx k hk e => h.off x.v (List.mem_map_of_mem hx) k hk (by subst e; rfl)
  have hd := h.dist
  rw [List.map_append, List.map_cons, List.pairwise_append, List.pairwise_cons] at hd
  obtain ⟨d0, ⟨d1, d2⟩, d3⟩ := hd
  refine ⟨⟨by rw [hl]; exact hst.1, fun x hx => ?_, ?_, fun v hx k hk => ?_⟩, hst.2⟩
  · rcases List.mem_append.1 hx with h1 | h1
    · exact keep x (h.each x (List.mem_append_left _ h1)) (hoff x (List.mem_append_left _ h1))
    · rcases List.mem_cons.1 h1 with rfl | h1
      · exact keep _ h' fun k hk => hoff r (by simp) k (hv k hk)
      · exact keep x (h.each x (List.mem_append_right _ (List.mem_cons_of_mem _ h1))) (hoff x (List.mem_append_right _ (List.mem_cons_of_mem _ h1)))
  · rw [List.map_append, List.map_cons, List.pairwise_append, List.pairwise_cons]
    refine ⟨d0, ⟨fun b hb k hk => d1 b hb k (hv k hk), d2⟩, fun a ha b hb k hk e => ?_⟩
    rcases List.mem_cons.1 hb with rfl | hb
    · exact d3 a ha r.v (List.mem_cons_self ..) k hk (hv k e)
    · exact d3 a ha b (List.mem_cons_of_mem _ hb) k hk e
  · rw [hl]
    obtain ⟨x, hxm, rfl⟩ := List.mem_map.1 hx
    rcases List.mem_append.1 hxm with h1 | h1
    · exact h.off x.v (List.mem_map_of_mem (List.mem_append_left _ h1)) k hk
    · rcases List.mem_cons.1 h1 with rfl | h1
      · exact h.off r.v (by simp) k (hv k hk)
      · exact h.off x.v (List.mem_map_of_mem (List.mem_append_right _ (List.mem_cons_of_mem _ h1))) k hk
/-- the rows, the k-th of them parted off -/
theorem rows_at {rs : List Rw} {k : Nat} {xs : List Int} (h : (nums rs)[k]? = some xs) : ∃ pre r post, rs = pre ++ r :: post ∧ pre.length = k ∧ r.xs = xs := by
  simp only [nums, List.getElem?_map, Option.map_eq_some_iff] at h
  obtain ⟨r, hr, e⟩ := h
  have hk := (List.getElem?_eq_some_iff.1 hr).1
  refine ⟨rs.take k, r, rs.drop (k + 1), ?_, by simp; omega, e⟩
  have h1 : rs.drop k = r :: rs.drop (k + 1) := by
    rw [List.drop_eq_getElem_cons hk]
    congr 1
    exact Option.some.inj ((List.getElem?_eq_getElem hk).symm.trans hr)
  rw [← h1, List.take_append_drop]
/-- where a row of the call's own starts -/
theorem Own1.start {w : World} {base : Nat} {r : Rw} {x : Int} {t : List Int} (h : Own1 w base r) (hx : r.xs = x :: t) : ∃ g o, r.A = some ⟨g, o, none⟩ ∧ w.cell? ⟨g, o, none⟩ = some (.int .i64 x) := by
  rcases h with ⟨_, _, e⟩ | ⟨g, o, cur, hA, hb, hg, h1, h2, h3, h4⟩
  · rw [e] at hx
    cases hx
  · refine ⟨g, o, hA, ?_⟩
    rw [cell_of_row _ _ _ _ _ _ hg]
    have := h4 0 x (by rw [hx]; rfl)
    rwa [Nat.add_zero] at this
theorem Own1.tail2 {w : World} {base : Nat} {g o c : Nat} {x : Int} {xs : List Int} (h : Own1 w base ⟨some ⟨g, o, none⟩, c, x :: xs⟩) {o2 : Nat} (ho : o2 = if c = 1 then o else o + 1) : Own1 w base ⟨some ⟨g, o2, none⟩, c - 1, xs⟩ := by
  by_cases h1 : c = 1
  · rw [if_pos h1] at ho
    subst ho h1
    rcases h with ⟨h, _⟩ | ⟨g', o', cur, hA, hb, hg, k1, k2, k3, k4⟩
    · cases h
    · simp only [Option.some.injEq, Addr.mk.injEq, and_true] at hA
      obtain ⟨rfl, rfl⟩ := hA
      simp only [List.length_cons] at k1 k2 k3
      have : xs = [] := List.length_eq_zero_iff.1 (by omega)
      subst this
      exact .inr ⟨g, o2, cur, rfl, hb, hg, by simp, by simp, by simp only; omega, fun j y hy => by simp at hy⟩
  · rw [if_neg h1] at ho
    subst ho
    exact h.tail
set_option maxRecDepth 100000 in
set_option maxHeartbeats 4000000 in
theorem takeLowest_any (A : Option Addr) (n c p : Nat) (x : Int) (t : List Int) (rs : List Rw) (en : n = rs.length) (hn : n ≤ 1048576) (hs : ∀ r ∈ rs, r.xs.length ≤ 1048576) (hN : ∀ r ∈ rs, r.A = none → r.c = 0) (hp : (nums rs)[p]? = some (x :: t)) (w : World) (hg : SS w w.heap.size A rs) :
    Calls Tryd.prog 77 #[givenV A n c, .int .i64 p] w fun o w' => ∃ g rs', o = .returned (.tuple #[.slice (some ⟨g, 0, none⟩) n n, .int .i64 x]) ∧ rs'.length = n ∧ nums rs' = (nums rs).set p t ∧ OT w' w.heap.size (some ⟨g, 0, none⟩) n rs' ∧ Below w.heap.size w w' := by
  have HP := Lib.hid hp
  have hpn : p < n := by
    have := (List.getElem?_eq_some_iff.1 hp).1
    simp [nums] at this
    omega
  have En := Lib.hid en
  clear hp en
  go_enter Tryd.func77, Tryd.ntmps77
  go_wp2_with fail
  refine (owned_any A n c rs En.out hn hs hN _ hg).mono ?_
  rintro o u ⟨g, rs', rfl, hl, hm, hO, hb⟩
  have hp' := HP.out
  rw [← hm] at hp'
  obtain ⟨pre, r, post, rfl, hpre, hrx⟩ := rows_at hp'
  have hr : (pre ++ r :: post)[p]? = some r := by rw [List.getElem?_append_right (by omega), hpre, Nat.sub_self]; rfl
  obtain ⟨a, ea, hab, q0⟩ := hO.ss.head hr
  obtain rfl := Option.some.inj ea
  rw [add_lit] at q0
  have hr1 := hO.each r (List.mem_of_getElem? hr)
  obtain ⟨g1, o1, hA1, q1⟩ := hr1.start hrx
  obtain ⟨rA, rc, rxs⟩ := r
  simp only at hA1 hrx q0
  subst hA1 hrx
  have hcap : t.length + 1 ≤ rc := by
    rcases hr1 with ⟨h, _⟩ | ⟨_, _, _, _, _, _, h, _⟩
    · cases h
    · simpa using h
  have hput := fun (o2 : Nat) (ho : o2 = if rc = 1 then o1 else o1 + 1) => hO.put (r' := ⟨some ⟨g1, o2, none⟩, rc - 1, t⟩) (hr1.tail2 ho) (fun k hk => hk)
  have f0 := hO.outer.frozenAt p
  rw [hpre] at hput
  obtain ⟨m, hm2⟩ : ∃ m, t.length = m := ⟨_, rfl⟩
  rw [List.length_cons, hm2] at q0
  rw [hm2] at hcap
  have hnums : nums (pre ++ (⟨some ⟨g1, o1, none⟩, rc, x :: t⟩ : Rw) :: post) = nums rs := hm
  have hfin : ∀ o2 : Nat, (o2 = if rc = 1 then o1 else o1 + 1) → ∃ rs2 : List Rw, rs2.length = n ∧ nums rs2 = (nums rs).set p t ∧ OT (u.setCell ⟨g, p, none⟩ (.slice (some ⟨g1, o2, none⟩) m (rc - 1))) w.heap.size (some ⟨g, 0, none⟩) n rs2 ∧ Below w.heap.size w (u.setCell ⟨g, p, none⟩ (.slice (some ⟨g1, o2, none⟩) m (rc - 1))) := fun o2 ho => by
    have h2 := hput o2 ho
    simp only [Rw.v, hm2] at h2
    refine ⟨_, ?_, ?_, h2.1, ?_⟩
    · rw [← hl]
      simp
    · rw [← hnums, nums, nums, List.map_append, List.map_append, List.map_cons, List.map_cons, List.set_append_right _ _ (by simp [hpre])]
      simp [hpre]
    · exact hb.setCell (p := ⟨g, p, none⟩) (hO.outer.lt g rfl).1 _
  have FIN := Lib.hid hfin
  have HL := Lib.hid hl
  have HM := Lib.hid hm
  have HB := Lib.hid hb
  have HPRE := Lib.hid hpre
  clear hfin hnums hm2 hput hl hm hb hO hr hr1 hp' hab hpre ea
  go_wp2_with fail
  all_goals go_ret2
  · have h1 : rc = 1 := by assumption
    obtain ⟨rs2, k1, k2, k3, k4⟩ := FIN.out o1 (by rw [if_pos h1])
    rw [h1] at k3 k4
    exact ⟨g, rfl, rs2, k1, k2, k3, k4⟩
  · have h1 : ¬ rc = 1 := by assumption
    obtain ⟨rs2, k1, k2, k3, k4⟩ := FIN.out (o1 + 1) (by rw [if_neg h1])
    exact ⟨g, rfl, rs2, k1, k2, k3, k4⟩
end Go.Proofs.YtdcckdfemelbiaaDoor.rows

/-
  TakeSheet, the model's.
-/
namespace Go.Proofs.YtdcckdfemelbiaaDoor.rows
open Go Go.RowKit sl fold cup

theorem OT.nil0 (w : World) (base : Nat) : OT w base none 0 [] := ⟨World.ownsRow_nil w base 22 1, (fun r hr => by cases hr), List.Pairwise.nil, (fun v hv => by cases hv)⟩
theorem OT.empty (w : World) {base : Nat} (hb : base ≤ w.heap.size) : OT (w.alloc (.cells #[] 22)) base (some ⟨w.heap.size, 0, none⟩) 0 [] :=
  ⟨World.ownsRow_made w #[] 0 hb (Nat.zero_le _) rfl, (fun r hr => by cases hr), List.Pairwise.nil, (fun v hv => by cases hv)⟩
/-- what is there when the lowest number of a row is taken -/
theorem take_facts {u : World} {base : Nat} {A : Option Addr} {n c p : Nat} {x : Int} {t : List Int} {rs : List Rw} (hO : OT u base A c rs) (hl : rs.length = n) (hp : (nums rs)[p]? = some (x :: t)) :
    ∃ g g1 o1 rc m, A = some ⟨g, 0, none⟩ ∧ u.cell? ⟨g, p, none⟩ = some (.slice (some ⟨g1, o1, none⟩) (m + 1) rc) ∧ u.frozen? ⟨g, p, none⟩ = false ∧ u.cell? ⟨g1, o1, none⟩ = some (.int .i64 x) ∧ m + 1 ≤ rc ∧ base ≤ g ∧ g < u.heap.size ∧
      ∀ o2 : Nat, (o2 = if rc = 1 then o1 else o1 + 1) → ∃ rs2 : List Rw, rs2.length = n ∧ nums rs2 = (nums rs).set p t ∧ OT (u.setCell ⟨g, p, none⟩ (.slice (some ⟨g1, o2, none⟩) m (rc - 1))) base A c rs2 := by
  obtain ⟨pre, r, post, rfl, hpre, hrx⟩ := rows_at hp
  have hr : (pre ++ r :: post)[p]? = some r := by rw [List.getElem?_append_right (by omega), hpre, Nat.sub_self]; rfl
  obtain ⟨g, hg⟩ : ∃ g, A = some ⟨g, 0, Option.none⟩ := by
    rcases hO.outer.2 with ⟨h, h0⟩ | ⟨g, cap, cur, h, _⟩
    · simp at h0
    · simp only [Value.slice.injEq] at h
      exact ⟨g, h.1⟩
  subst hg
  obtain ⟨a, ea, hab, q0⟩ := hO.ss.head hr
  obtain rfl := Option.some.inj ea
  rw [add_lit] at q0
  have hr1 := hO.each r (List.mem_of_getElem? hr)
  obtain ⟨g1, o1, hA1, q1⟩ := hr1.start hrx
  obtain ⟨rA, rc, rxs⟩ := r
  simp only at hA1 hrx q0
  subst hA1 hrx
  have hcap : t.length + 1 ≤ rc := by
    rcases hr1 with ⟨h, _⟩ | ⟨_, _, _, _, _, _, h, _⟩
    · cases h
    · simpa using h
  have hput := fun (o2 : Nat) (ho : o2 = if rc = 1 then o1 else o1 + 1) => hO.put (r' := ⟨some ⟨g1, o2, Option.none⟩, rc - 1, t⟩) (hr1.tail2 ho) (fun k hk => hk)
  have f0 := hO.outer.frozenAt p
  have hb := hO.outer.lt g rfl
  rw [hpre] at hput
  rw [List.length_cons] at q0
  refine ⟨g, g1, o1, rc, t.length, rfl, q0, f0, q1, hcap, hb.1, hb.2, fun o2 ho => ⟨_, ?_, ?_, (hput o2 ho).1⟩⟩
  · rw [← hl]
    simp
  · rw [nums, nums, List.map_append, List.map_append, List.map_cons, List.map_cons, List.set_append_right _ _ (by simp [hpre])]
    simp [hpre]
/-- what TakeSheet returns -/
structure TR (xss : List (List Int)) (p : Int) (out : List (List Int)) (x : Int) (k : Nat) : Prop where
  bad : ¬ CupOk xss → out = [] ∧ x = 0 ∧ k = 1
  far : CupOk xss → ¬ (0 ≤ p ∧ p ≤ (xss.length : Int) - 1) → out = [] ∧ x = 0 ∧ k = 2
  bare : CupOk xss → ∀ m : Nat, p = m → xss[m]? = some [] → out = [] ∧ x = 0 ∧ k = 6
  ok : CupOk xss → ∀ (m : Nat) (y : Int) (t : List Int), p = m → xss[m]? = some (y :: t) → out = xss.set m t ∧ x = y ∧ k = 0
theorem range_row {xss : List (List Int)} {p : Int} (h : 0 ≤ p ∧ p ≤ (xss.length : Int) - 1) : ∃ m : Nat, p = m ∧ (xss[m]? = some [] ∨ ∃ y t, xss[m]? = some (y :: t)) := by
  refine ⟨p.toNat, by omega, ?_⟩
  have hl : p.toNat < xss.length := by omega
  rw [List.getElem?_eq_getElem hl]
  cases xss[p.toNat] with
  | nil => exact .inl rfl
  | cons y t => exact .inr ⟨y, t, rfl⟩
theorem TR.exists (xss : List (List Int)) (p : Int) : ∃ out x k, TR xss p out x k := by
  by_cases hc : CupOk xss
  · by_cases hr : 0 ≤ p ∧ p ≤ (xss.length : Int) - 1
    · obtain ⟨m, rfl, h | ⟨y, t, h⟩⟩ := range_row hr
      · refine ⟨[], 0, 6, ⟨fun h' => absurd hc h', fun _ h' => absurd hr h', fun _ _ _ _ => ⟨rfl, rfl, rfl⟩, fun _ m' y t e h' => ?_⟩⟩
        obtain rfl : m = m' := by omega
        rw [h] at h'
        simp at h'
      · refine ⟨xss.set m t, y, 0, ⟨fun h' => absurd hc h', fun _ h' => absurd hr h', fun _ m' e h' => ?_, fun _ m' y' t' e h' => ?_⟩⟩
        · obtain rfl : m = m' := by omega
          rw [h] at h'
          simp at h'
        · obtain rfl : m = m' := by omega
          rw [h] at h'
          simp only [Option.some.injEq, List.cons.injEq] at h'
          obtain ⟨rfl, rfl⟩ := h'
          exact ⟨rfl, rfl, rfl⟩
    · refine ⟨[], 0, 2, ⟨fun h' => absurd hc h', fun _ _ => ⟨rfl, rfl, rfl⟩, fun _ m e h' => ?_, fun _ m _ _ e h' => ?_⟩⟩
      · have := (List.getElem?_eq_some_iff.1 h').1
        omega
      · have := (List.getElem?_eq_some_iff.1 h').1
        omega
  · exact ⟨[], 0, 1, ⟨fun _ => ⟨rfl, rfl, rfl⟩, fun h' => absurd h' hc, fun h' => absurd h' hc, fun h' => absurd h' hc⟩⟩
abbrev takenV (A : Option Addr) (n c : Nat) (x : Int) (k : Nat) : Value := .tuple #[.slice A n c, .int .i64 x, .int .i64 k]
end Go.Proofs.YtdcckdfemelbiaaDoor.rows

/-
  TakeSheet, the program's.
-/
namespace Go.Proofs.YtdcckdfemelbiaaDoor.rows
open Go Go.RowKit sl fold cup errs

theorem first_zero {a b : Nat} (h : firstCode [a, b] = 0) : a = 0 ∧ b = 0 := by
  cases a with
  | zero =>
    cases b with
    | zero => exact ⟨rfl, rfl⟩
    | succ j => cases h
  | succ i => cases h
end Go.Proofs.YtdcckdfemelbiaaDoor.rows

/-
  What TakeSheet returns is no longer than what it is given; where rows lie.
-/
namespace Go.Proofs.YtdcckdfemelbiaaDoor.rows
open Go Go.RowKit sl fold cup

theorem OS.noneC {w : World} {base : Nat} {A : Option Addr} {c : Nat} {rs : List Rw} (h : OS w base A c rs) : ∀ r ∈ rs, r.A = none → r.c = 0 := fun r hr hA => by
  rcases (h.each r hr).2 with ⟨hv, _⟩ | ⟨g, cap, cur, hv, _⟩
  · simp only [Rw.v, Value.slice.injEq] at hv
    exact hv.2.2
  · simp only [Rw.v, Value.slice.injEq] at hv
    rw [hA] at hv
    cases hv.1
theorem tot_le {rs : List Rw} {n : Nat} (h : n + tot rs ≤ 1048576) : ∀ r ∈ rs, r.xs.length ≤ 1048576 := fun r hr => by
  have := tot_mem hr
  omega
theorem TR.small {rs : List Rw} {p : Int} {out : List (List Int)} {x : Int} {k : Nat} (h : TR (nums rs) p out x k) : ∀ rs2 : List Rw, nums rs2 = out → rs2.length ≤ rs.length ∧ tot rs2 ≤ tot rs := by
  intro rs2 h2
  have hnil : out = [] → rs2.length ≤ rs.length ∧ tot rs2 ≤ tot rs := fun e => by
    subst e
    have : rs2 = [] := List.map_eq_nil_iff.1 h2
    subst this
    exact ⟨Nat.zero_le _, Nat.zero_le _⟩
  by_cases hc : CupOk (nums rs)
  · by_cases hr : 0 ≤ p ∧ p ≤ ((nums rs).length : Int) - 1
    · obtain ⟨m, rfl, hrow | ⟨y, t, hrow⟩⟩ := range_row hr
      · exact hnil (h.bare hc m rfl hrow).1
      · obtain ⟨e, _, _⟩ := h.ok hc m y t rfl hrow
        obtain ⟨pre, r, post, rfl, hpre, hrx⟩ := rows_at hrow
        have hn : nums rs2 = nums (pre ++ (⟨r.A, r.c, t⟩ : Rw) :: post) := by
          rw [h2, e, nums, nums, List.map_append, List.map_append, List.map_cons, List.map_cons, List.set_append_right _ _ (by simp [hpre])]
          simp [hpre]
        have hl := congrArg List.length hn
        simp only [nums, List.length_map, List.length_append, List.length_cons] at hl
        refine ⟨by simp only [List.length_append, List.length_cons]; omega, ?_⟩
        rw [tot_nums hn, tot_append, tot_append, tot, tot, hrx, List.length_cons]
        simp only
        omega
    · exact hnil (h.far hc hr).1
  · exact hnil (h.bad hc).1
theorem OT.blocks {w : World} {base : Nat} {A : Option Addr} {c : Nat} {rs : List Rw} (h : OT w base A c rs) : ∀ k, Blocks A rs k → base ≤ k ∧ k < w.heap.size := by
  rintro k (⟨a, rfl, rfl⟩ | ⟨r, hr, hk⟩)
  · exact h.outer.lt _ rfl
  · exact (h.each r hr).at_lt k hk
theorem OT.apart {w w' : World} {base : Nat} {A : Option Addr} {c : Nat} {rs : List Rw} {S : Nat → Prop} (h : OT w base A c rs) (hb : But S w w') (hS : ∀ k, Blocks A rs k → ¬ S k) : OT w' base A c rs := by
  refine ⟨owns_but h.outer hb (fun g hg => hS g (.inl ?_)), fun r hr => (h.each r hr).but hb (fun g hg => hS g (.inr ⟨r, hr, hg⟩)), h.dist, h.off⟩
  cases A with
  | none => cases hg
  | some a => exact ⟨a, rfl, Option.some.inj hg⟩
end Go.Proofs.YtdcckdfemelbiaaDoor.rows

/-
  A cupboard made level: pure.
-/
namespace Go.Proofs.YtdcckdfemelbiaaDoor.rows
open Go Go.RowKit sl fold cup

def sumF (f : List Int → Nat) : List (List Int) → Nat
  | [] => 0
  | xs :: r => f xs + sumF f r
theorem sumF_set (f : List Int → Nat) (ys : List Int) : ∀ {xss : List (List Int)} {p : Nat} {xs : List Int}, xss[p]? = some xs → sumF f (xss.set p ys) + f xs = sumF f xss + f ys
  | [], p, xs, h => by simp at h
  | z :: r, 0, xs, h => by
    simp only [List.getElem?_cons_zero, Option.some.injEq] at h
    subst h
    simp only [List.set_cons_zero, sumF]
    omega
  | z :: r, p + 1, xs, h => by
    have := sumF_set f ys (xss := r) (p := p) (xs := xs) (by simpa using h)
    simp only [List.set_cons_succ, sumF]
    omega
theorem sumF_mem (f : List Int → Nat) : ∀ {xss : List (List Int)} {xs : List Int}, xs ∈ xss → f xs ≤ sumF f xss
  | z :: r, xs, h => by
    rcases List.mem_cons.1 h with rfl | h
    · simp only [sumF]; omega
    · have := sumF_mem f h
      simp only [sumF]; omega
theorem sumF_le (f : List Int → Nat) (b : Nat) : ∀ {xss : List (List Int)}, (∀ xs ∈ xss, f xs ≤ b) → sumF f xss ≤ xss.length * b
  | [], _ => by simp [sumF]
  | z :: r, h => by
    have h1 := sumF_le f b (xss := r) fun x hx => h x (List.mem_cons_of_mem _ hx)
    have h2 := h z (List.mem_cons_self ..)
    rw [List.length_cons, Nat.add_mul, Nat.one_mul, sumF]
    omega
abbrev szF : List (List Int) → Nat := sumF List.length
abbrev potF : List (List Int) → Nat := sumF fun xs => xs.length * xs.length
theorem tot_szF : ∀ rs : List Rw, tot rs = szF (nums rs)
  | [] => rfl
  | r :: rs => by
    have := tot_szF rs
    simp only [tot, szF, nums, List.map_cons, sumF] at this ⊢
    omega
theorem szF_rows {rs : List Rw} (h : szF (nums rs) ≤ 1048576) : ∀ r ∈ rs, r.xs.length ≤ 1048576 := fun r hr => by
  have : r.xs.length ≤ szF (nums rs) := sumF_mem List.length (List.mem_map_of_mem hr)
  omega

/-- sheets moved until the cupboard is level -/
inductive Run : List (List Int) → List (List Int) → Nat → Prop
  | done {xss : List (List Int)} {p q : Nat} {h l : Int} : Top (hts xss) p h → Low (hts xss) q l → h - l ≤ 1 → Run xss xss 0
  | step {xss out : List (List Int)} {p q m : Nat} {h l x : Int} {ys zs : List Int} : Top (hts xss) p h → Low (hts xss) q l → ¬ h - l ≤ 1 → xss[p]? = some (ys ++ [x]) → xss[q]? = some zs → p ≠ q →
      Run ((xss.set p ys).set q (zs ++ [x])) out m → Run xss out (m + 1)
theorem Run.inv {xss out : List (List Int)} {m : Nat} (r : Run xss out m) :
    (∃ p q h l, Top (hts xss) p h ∧ Low (hts xss) q l ∧ h - l ≤ 1 ∧ out = xss ∧ m = 0) ∨
    (∃ p q h l x ys zs m', Top (hts xss) p h ∧ Low (hts xss) q l ∧ ¬ h - l ≤ 1 ∧ xss[p]? = some (ys ++ [x]) ∧ xss[q]? = some zs ∧ p ≠ q ∧ Run ((xss.set p ys).set q (zs ++ [x])) out m' ∧ m = m' + 1) := by
  cases r with
  | done a b c => exact .inl ⟨_, _, _, _, a, b, c, rfl, rfl⟩
  | step a b c d e f g => exact .inr ⟨_, _, _, _, _, _, _, _, a, b, c, d, e, f, g, rfl⟩
theorem step_sz {xss : List (List Int)} {p q : Nat} {x : Int} {ys zs : List Int} (hp : xss[p]? = some (ys ++ [x])) (hq : xss[q]? = some zs) (hne : p ≠ q) :
    szF ((xss.set p ys).set q (zs ++ [x])) = szF xss := by
  have h1 := sumF_set List.length ys hp
  have h2 := sumF_set List.length (zs ++ [x]) (xss := xss.set p ys) (p := q) (xs := zs) (by rw [List.getElem?_set_ne hne]; exact hq)
  simp only [List.length_append, List.length_singleton] at h1 h2
  simp only [szF]
  omega
theorem Run.sz {xss out : List (List Int)} {m : Nat} (r : Run xss out m) : out.length = xss.length ∧ szF out = szF xss := by
  induction r with
  | done => exact ⟨rfl, rfl⟩
  | step _ _ _ hp hq hne _ ih =>
    rw [step_sz hp hq hne] at ih
    exact ⟨by rw [ih.1]; simp, ih.2⟩
theorem step_pot {xss : List (List Int)} {p q : Nat} {x : Int} {ys zs : List Int} (hp : xss[p]? = some (ys ++ [x])) (hq : xss[q]? = some zs) (hne : p ≠ q) (hgap : zs.length + 2 ≤ (ys ++ [x]).length) :
    potF ((xss.set p ys).set q (zs ++ [x])) < potF xss := by
  have h1 := sumF_set (fun xs => xs.length * xs.length) ys hp
  have h2 := sumF_set (fun xs => xs.length * xs.length) (zs ++ [x]) (xss := xss.set p ys) (p := q) (xs := zs) (by rw [List.getElem?_set_ne hne]; exact hq)
  simp only [List.length_append, List.length_singleton] at h1 h2 hgap
  simp only [potF]
  have e1 : (ys.length + 1) * (ys.length + 1) = ys.length * ys.length + 2 * ys.length + 1 := by
    rw [Nat.add_mul, Nat.mul_add]; omega
  have e2 : (zs.length + 1) * (zs.length + 1) = zs.length * zs.length + 2 * zs.length + 1 := by
    rw [Nat.add_mul, Nat.mul_add]; omega
  omega
theorem Run.exists : ∀ (b : Nat) (xss : List (List Int)), 0 < xss.length → potF xss ≤ b → ∃ out m, Run xss out m ∧ m ≤ potF xss
  | b, xss, h0, hb => by
    obtain ⟨p, h, ht⟩ := TopTo.exists (hs := hts xss) (hts xss).length (by simp [hts]; exact h0) (Nat.le_refl _)
    obtain ⟨q, l, hl⟩ := LowTo.exists (hs := hts xss) (hts xss).length (by simp [hts]; exact h0) (Nat.le_refl _)
    by_cases hg : h - l ≤ 1
    · exact ⟨xss, 0, .done ht hl hg, Nat.zero_le _⟩
    · obtain ⟨xs, hx, ex⟩ : ∃ xs, xss[p]? = some xs ∧ h = (xs.length : Int) := by
        have e := ht.here
        simp only [hts, List.getElem?_map, Option.map_eq_some_iff] at e
        obtain ⟨xs, h1, h2⟩ := e
        exact ⟨xs, h1, h2.symm⟩
      obtain ⟨zs, hz, ez⟩ : ∃ zs, xss[q]? = some zs ∧ l = (zs.length : Int) := by
        have e := hl.here
        simp only [hts, List.getElem?_map, Option.map_eq_some_iff] at e
        obtain ⟨xs, h1, h2⟩ := e
        exact ⟨xs, h1, h2.symm⟩
      have hne : p ≠ q := fun e => by
        subst e
        rw [hx] at hz
        obtain rfl := Option.some.inj hz
        omega
      obtain ⟨ys, x, rfl⟩ : ∃ ys x, xs = ys ++ [x] := ⟨xs.dropLast, xs.getLast (fun e => by subst e; simp at ex; omega), (List.dropLast_concat_getLast _).symm⟩
      have hpot := step_pot hx hz hne (by omega)
      match b, hb with
      | 0, hb => omega
      | b + 1, hb =>
        obtain ⟨out, m, hr, hm⟩ := Run.exists b ((xss.set p ys).set q (zs ++ [x])) (by simpa using h0) (by omega)
        exact ⟨out, m + 1, .step ht hl hg hx hz hne hr, by omega⟩
/-- what LevelCupboard returns -/
structure LR (xss : List (List Int)) (out : List (List Int)) (x : Int) (k : Nat) : Prop where
  bad : ¬ CupOk xss → out = [] ∧ x = 0 ∧ k = 1
  ok : CupOk xss → ∃ m : Nat, Run xss out m ∧ m ≤ 1000 ∧ x = m ∧ k = 0
theorem LR.exists (xss : List (List Int)) : ∃ out x k, LR xss out x k := by
  by_cases hc : CupOk xss
  · obtain ⟨out, m, h, hm⟩ := Run.exists _ xss hc.pos (Nat.le_refl _)
    have h1 := sumF_le (fun xs => xs.length * xs.length) 64 (xss := xss) fun xs hx => by
      have := hc.high xs hx
      exact Nat.le_trans (Nat.mul_le_mul this this) (by decide)
    have := hc.most
    exact ⟨out, m, 0, ⟨fun h => absurd hc h, fun _ => ⟨m, h, by simp only [potF] at hm; omega, rfl, rfl⟩⟩⟩
  · exact ⟨[], 0, 1, ⟨fun _ => ⟨rfl, rfl, rfl⟩, fun h => absurd h hc⟩⟩
theorem LR.small {rs : List Rw} {out : List (List Int)} {x : Int} {k : Nat} {n : Nat} (h : LR (nums rs) out x k) (en : n = rs.length) (ht : n + tot rs ≤ 1048576) : ∀ rs2 : List Rw, nums rs2 = out → rs2.length ≤ n ∧ n + tot rs2 ≤ 1048576 := by
  intro rs2 h2
  by_cases hc : CupOk (nums rs)
  · obtain ⟨m, hr, _⟩ := h.ok hc
    obtain ⟨e1, e2⟩ := hr.sz
    rw [← h2] at e1 e2
    rw [← tot_szF, ← tot_szF] at e2
    simp only [nums, List.length_map] at e1
    omega
  · obtain ⟨rfl, _⟩ := h.bad hc
    have : rs2 = [] := List.map_eq_nil_iff.1 h2
    subst this
    exact ⟨Nat.zero_le _, by simp only [tot]; omega⟩
end Go.Proofs.YtdcckdfemelbiaaDoor.rows

/-
  A row of a list that is the call's own grows, or shrinks at its end.
-/
namespace Go.Proofs.YtdcckdfemelbiaaDoor.rows
open Go Go.RowKit sl fold cup

end Go.Proofs.YtdcckdfemelbiaaDoor.rows

/-
  A row of a list that is the call's own shrinks at its end.
-/
namespace Go.Proofs.YtdcckdfemelbiaaDoor.rows
open Go Go.RowKit sl fold cup

theorem Own0.init {w : World} {base g c : Nat} {xs : List Int} {x : Int} (h : Own0 w base ⟨some ⟨g, 0, none⟩, c, xs ++ [x]⟩) : Own0 w base ⟨some ⟨g, 0, none⟩, c, xs⟩ := by
  obtain ⟨h1, h2⟩ := h
  rcases h2 with ⟨hv, _⟩ | ⟨g', cap, cur, hv, hb, hh, hnc, hcm, hcs, ht⟩
  · simp [Rw.v] at hv
  · simp only [Rw.v, Value.slice.injEq, Option.some.injEq, Addr.mk.injEq, and_true, true_and] at hv
    obtain ⟨rfl, rfl⟩ := hv
    simp only [List.length_append, List.length_singleton, Nat.mul_one] at hnc ht
    have hl : (xs.flatMap intS.C).length = xs.length := by rw [flat_len (sz := 1) (fun y _ => rfl), Nat.mul_one]
    refine ⟨by rw [hl, Nat.mul_one], .inr ⟨g, c, cur, rfl, hb, hh, by show xs.length ≤ c; omega, hcm, hcs, ?_⟩⟩
    have h3 := congrArg (List.take xs.length) ht
    rw [List.take_take, Nat.min_eq_left (Nat.le_succ _), List.flatMap_append, List.take_left' hl] at h3
    simpa using h3
theorem OS.init {u : World} {base g c : Nat} {pre post : List Rw} {g1 c1 : Nat} {xs : List Int} {x : Int} (h : OS u base (some ⟨g, 0, none⟩) c (pre ++ ⟨some ⟨g1, 0, none⟩, c1, xs ++ [x]⟩ :: post)) :
    OS (u.setCell ⟨g, pre.length, none⟩ (.slice (some ⟨g1, 0, none⟩) xs.length c1)) base (some ⟨g, 0, none⟩) c (pre ++ ⟨some ⟨g1, 0, none⟩, c1, xs⟩ :: post) ∧ u.grownBy (u.setCell ⟨g, pre.length, none⟩ (.slice (some ⟨g1, 0, none⟩) xs.length c1)) (some g) :=
  OS.grow (r' := ⟨some ⟨g1, 0, none⟩, c1, xs⟩) h ⟨rfl, rfl, rfl, Nat.le_refl _, fun _ _ _ => rfl⟩ (Own0.init (x := x) (h.each _ (by simp))) (.inl rfl)
end Go.Proofs.YtdcckdfemelbiaaDoor.rows

/-
  A sheet put upon a pile, the program's.
-/
namespace Go.Proofs.YtdcckdfemelbiaaDoor.rows
open Go Go.RowKit sl fold cup

/-- the cell of a row's head, ahead of its store -/
theorem OS.cell1 {u u1 : World} {base g c : Nat} {pre post : List Rw} {r : Rw} (h : OS u base (some ⟨g, 0, none⟩) c (pre ++ r :: post)) (hg : u.grownBy u1 r.v.ownBlock) :
    (∃ x, u1.cell? ⟨g, pre.length, none⟩ = some x) ∧ u1.frozen? ⟨g, pre.length, none⟩ = false := by
  have h1 := h.outer1 hg
  have hl : pre.length < ((pre ++ r :: post).flatMap Rw.C).length := by rw [flat_v]; simp
  exact ⟨⟨_, (h1.cellAt pre.length (by rw [h1.1] at hl; omega)).trans (List.getElem?_eq_getElem hl)⟩, h1.frozenAt pre.length⟩
/-- a row of rows of the call's own -/
theorem OS.row_at {u : World} {base g c : Nat} {rs : List Rw} {p : Nat} {xs : List Int} (h : OS u base (some ⟨g, 0, none⟩) c rs) (hp : (nums rs)[p]? = some xs) :
    ∃ pre r post, rs = pre ++ r :: post ∧ pre.length = p ∧ r.xs = xs ∧ u.cell? ⟨g, p, none⟩ = some (.slice r.A xs.length r.c) ∧ u.frozen? ⟨g, p, none⟩ = false := by
  obtain ⟨pre, r, post, rfl, hpre, hrx⟩ := rows_at hp
  have hr : (pre ++ r :: post)[p]? = some r := by rw [List.getElem?_append_right (by omega), hpre, Nat.sub_self]; rfl
  obtain ⟨a, ea, hab, q0⟩ := h.ss.head hr
  obtain rfl := Option.some.inj ea
  rw [add_lit, hrx] at q0
  exact ⟨pre, r, post, rfl, hpre, hrx, q0, h.outer.frozenAt p⟩
theorem nums_set (pre : List Rw) (r r' : Rw) (post : List Rw) {p : Nat} (hp : pre.length = p) {ys : List Int} (h : r'.xs = ys) : nums (pre ++ r' :: post) = (nums (pre ++ r :: post)).set p ys := by
  subst hp h
  rw [nums, nums, List.map_append, List.map_append, List.map_cons, List.map_cons, List.set_append_right _ _ (by simp)]
  simp
theorem is_own (A : Option Addr) (n c : Nat) (u : World) : (Instr.typeAssert (.iface 97 (.slice A n c)) 158 97 true).run Tryd.prog u = .ok (.tuple #[.slice A n c, .bool true]) u := by kernel_rfl
theorem owned_own (A : Option Addr) (n c : Nat) (w : World) :
    Calls Tryd.prog 75 #[ownV A n c] w fun o w' => o = .returned (.slice A n c) ∧ w = w' := by
  have q1 := is_own A n c
  simp only [ownV]
  go_enter Tryd.func75, Tryd.ntmps75
  go_wp2_with fail
  go_ret
  exact ⟨rfl, rfl⟩
/-- what owned does with either kind of cupboard -/
abbrev OwnR (V : Value) (w : World) (base n : Nat) (xss : List (List Int)) : Prop :=
  Calls Tryd.prog 75 #[V] w fun o u => ∃ g rs', o = .returned (.slice (some ⟨g, 0, none⟩) n n) ∧ rs'.length = n ∧ nums rs' = xss ∧ OS u base (some ⟨g, 0, none⟩) n rs' ∧ Below base w u
theorem OwnR.given (A : Option Addr) (n c : Nat) (rs : List Rw) (en : n = rs.length) (hn : n ≤ 1048576) (hs : ∀ r ∈ rs, r.xs.length ≤ 1048576) (hN : ∀ r ∈ rs, r.A = none → r.c = 0) (w : World) (hg : SS w w.heap.size A rs) : OwnR (givenV A n c) w w.heap.size n (nums rs) :=
  owned_os A n c rs en hn hs hN w hg
theorem OwnR.own {w : World} {base g n : Nat} {rs : List Rw} (h : OS w base (some ⟨g, 0, none⟩) n rs) (en : rs.length = n) : OwnR (ownV (some ⟨g, 0, none⟩) n n) w base n (nums rs) :=
  (owned_own _ n n w).mono fun _o _u ⟨e, hu⟩ => ⟨g, rs, e, en, rfl, hu ▸ h, hu ▸ Below.refl _ _⟩
set_option maxRecDepth 100000 in
set_option maxHeartbeats 4000000 in
theorem put_any (V : Value) (n p : Nat) (s : Int) (xs : List Int) (xss : List (List Int)) (hp : xss[p]? = some xs) (hl : xss.length = n) (_hn : n ≤ 1048576) (hx : xs.length ≤ 1048576) (w : World) (base : Nat) (hbs : base ≤ w.heap.size) (hV : OwnR V w base n xss) :
    Calls Tryd.prog 73 #[V, .int .i64 p, .int .i64 s] w fun o w' => ∃ g rs', o = .returned (.slice (some ⟨g, 0, none⟩) n n) ∧ rs'.length = n ∧ nums rs' = xss.set p (xs ++ [s]) ∧ OS w' base (some ⟨g, 0, none⟩) n rs' ∧ Below base w w' := by
  obtain ⟨i0, hI, hz0, hz1, hz2⟩ := info_parts intS.info
  have HV := Lib.hid hV
  have HP := Lib.hid hp
  have hpn : p < n := by have := (List.getElem?_eq_some_iff.1 hp).1; omega
  clear hV hp
  go_enter Tryd.func73, Tryd.ntmps73
  go_wp2_with fail
  refine HV.out.mono ?_
  rintro o u ⟨g, rs, rfl, hrl, hrn, hO, hb⟩
  obtain ⟨pre, r, post, rfl, hpre, hrx, q0, f0⟩ := hO.row_at (by rw [hrn]; exact HP.out)
  obtain ⟨rA, rc, rx⟩ := r
  simp only [] at hrx q0
  subst hrx
  obtain ⟨l, hl2⟩ : ∃ l, l = rx.length := ⟨_, rfl⟩
  rw [← hl2] at q0 hx
  have hab := (hO.outer.lt g rfl).2
  have hgb := (hO.outer.lt g rfl).1
  have HO := Lib.hid hO
  have HB := Lib.hid hb
  have hbu := hb.size
  have HLL := Lib.hid hl2
  have HPQ := Lib.hid hpre
  have HRL := Lib.hid hrl
  have HRN := Lib.hid hrn
  have HOA := Lib.hid (hO.next ((Below.refl u.heap.size u).alloc (Nat.le_refl _) (.cells #[.int .i64 s] 2)))
  have BA := Lib.hid (hb.alloc (Nat.le_trans hbs hbu) (.cells #[.int .i64 s] 2))
  have HOW : Hid ((u.alloc (.cells #[.int .i64 s] 2)).ownsRow base 2 1 (.slice rA l rc) l (rx.flatMap intS.C)) := Lib.hid (by rw [HLL.out]; exact HOA.out.each ⟨rA, rc, rx⟩ (by simp))
  clear hO hb hl2 hpre hrl hrn
  go_wp2_with (first | (at_builtin; refine wpList_append_own_at _ rfl (.tmp 15) (.tmp 17) 22 rfl base 2 i0 (.int .i64 0) 1 8 Tryd.underlying22 hI hz0 hz1 hz2 rfl (by decide) _ _ _ rfl HOW.out ⟨_, 0, none⟩ 1 1 [.int .i64 s] rfl rfl (one_newB _ _ _ _ (by simp)) (one_cellI (by rfl)) (by unfold maxLen; omega) (by omega) (by have := BA.out.size; have := HB.out.size; simp; omega) ?_; intro v3 w5 hP5 hgr _ hat5; obtain ⟨A2, c2, rfl, _⟩ := owns_slice hP5; obtain ⟨⟨x0, hx0⟩, fz0⟩ := HOA.out.cell1 (r := ⟨rA, rc, rx⟩) (by rw [show (⟨rA, rc, rx⟩ : Rw).v = .slice rA l rc by rw [HLL.out]]; exact hgr); rw [HPQ.out] at hx0 fz0; have HP5 := Lib.hid hP5; have HGR := Lib.hid hgr; have HAT := Lib.hid hat5; clear hP5 hgr hat5) | fail)
  have hlen : (rx ++ [s]).length = l + 1 := by rw [List.length_append, ← HLL.out]; rfl
  have S5 := HOA.out.grow (r := ⟨rA, rc, rx⟩) (r' := ⟨A2, c2, rx ++ [s]⟩) (by rw [show (⟨rA, rc, rx⟩ : Rw).v = .slice rA l rc by rw [HLL.out]]; exact HGR.out)
    (by show World.ownsRow _ _ _ _ (.slice A2 (rx ++ [s]).length c2) _ _
        rw [hlen, flat_snoc]; exact HP5.out)
    (by show (Value.slice A2 (rx ++ [s]).length c2).ownBlock = _ ∨ (Value.slice A2 (rx ++ [s]).length c2).ownBlock = _
        rw [hlen, show (⟨rA, rc, rx⟩ : Rw).v = .slice rA l rc by rw [HLL.out]]; exact HAT.out)
  have B5 := (Below.grown BA.out HGR.out (Nat.le_trans hbs BA.out.size) (fun g hg => (HOW.out.lt g hg).1)).setCell (p := ⟨g, p, none⟩) hgb (.slice A2 (l + 1) c2)
  go_ret
  refine ⟨g, pre ++ ⟨A2, c2, rx ++ [s]⟩ :: post, rfl, by have := HRL.out; simpa using this, by rw [← HRN.out]; exact nums_set pre ⟨rA, rc, rx⟩ ⟨A2, c2, rx ++ [s]⟩ post HPQ.out rfl, ?_, B5⟩
  have h5 := S5.1
  rw [HPQ.out] at h5
  rw [← hlen]
  exact h5
end Go.Proofs.YtdcckdfemelbiaaDoor.rows

/-
  Sheets taken one after another: pure; the list of what has been taken beside the rows.
-/
namespace Go.Proofs.YtdcckdfemelbiaaDoor.rows
open Go Go.RowKit sl fold cup

/-- so many sheets taken from the highest piles, or none if there are not so many -/
inductive Tk : List (List Int) → Nat → Option (List Int × List (List Int)) → Prop
  | done {xss : List (List Int)} : Tk xss 0 (some ([], xss))
  | bare {xss : List (List Int)} {p t : Nat} : Top (hts xss) p 0 → Tk xss (t + 1) none
  | step {xss : List (List Int)} {p t : Nat} {h x : Int} {ys : List Int} {r : Option (List Int × List (List Int))} : Top (hts xss) p h → h ≠ 0 → xss[p]? = some (x :: ys) → Tk (xss.set p ys) t r → Tk xss (t + 1) (r.map fun z => (x :: z.1, z.2))
theorem Tk.inv {xss : List (List Int)} {T : Nat} {r : Option (List Int × List (List Int))} (h : Tk xss T r) : (T = 0 ∧ r = some ([], xss)) ∨ (∃ t p, T = t + 1 ∧ Top (hts xss) p 0 ∧ r = none) ∨
    (∃ t p h x ys r', T = t + 1 ∧ Top (hts xss) p h ∧ h ≠ 0 ∧ xss[p]? = some (x :: ys) ∧ Tk (xss.set p ys) t r' ∧ r = r'.map fun z => (x :: z.1, z.2)) := by
  cases h with
  | done => exact .inl ⟨rfl, rfl⟩
  | bare a => exact .inr (.inl ⟨_, _, rfl, a, rfl⟩)
  | step a b c d => exact .inr (.inr ⟨_, _, _, _, _, _, rfl, a, b, c, d, rfl⟩)
theorem Tk.exists : ∀ (T : Nat) (xss : List (List Int)), 0 < xss.length → ∃ r, Tk xss T r
  | 0, xss, _ => ⟨_, .done⟩
  | T + 1, xss, h0 => by
    obtain ⟨p, h, ht⟩ := TopTo.exists (hs := hts xss) (hts xss).length (by simp [hts]; exact h0) (Nat.le_refl _)
    by_cases h1 : h = 0
    · exact ⟨none, .bare (h1 ▸ ht)⟩
    · have e := ht.here
      simp only [hts, List.getElem?_map, Option.map_eq_some_iff] at e
      obtain ⟨xs, hx, e⟩ := e
      cases xs with
      | nil => exact absurd e.symm h1
      | cons x ys =>
        obtain ⟨r, hr⟩ := Tk.exists T (xss.set p ys) (by simpa using h0)
        exact ⟨_, .step ht h1 hx hr⟩
theorem Tk.sz {xss : List (List Int)} {T : Nat} {r : Option (List Int × List (List Int))} (h : Tk xss T r) : ∀ z, r = some z → z.2.length = xss.length ∧ szF z.2 + z.1.length = szF xss := by
  induction h with
  | done =>
    intro z hz
    obtain rfl := Option.some.inj hz
    exact ⟨rfl, rfl⟩
  | bare => intro z hz; cases hz
  | @step xss p t h x ys r _ _ hp _ ih =>
    intro z hz
    rw [Option.map_eq_some_iff] at hz
    obtain ⟨y, hy, rfl⟩ := hz
    obtain ⟨h1, h2⟩ := ih y hy
    have h3 := sumF_set List.length ys hp
    refine ⟨by rw [h1]; simp, ?_⟩
    simp only [List.length_cons] at h3 ⊢
    simp only [szF] at h2 ⊢
    omega
/-- what has been taken stands ahead -/
abbrev ahead (acc : List Int) (r : Option (List Int × List (List Int))) : Option (List Int × List (List Int)) := r.map fun z => (acc ++ z.1, z.2)
theorem ahead_step (acc : List Int) (x : Int) (r : Option (List Int × List (List Int))) : ahead acc (r.map fun z => (x :: z.1, z.2)) = ahead (acc ++ [x]) r := by
  cases r with
  | none => rfl
  | some z => simp [ahead]
def finO : Option (List Int × List (List Int)) → List Int × List (List Int) × Nat
  | none => ([], [], 6)
  | some z => (z.1, z.2, 0)
/-- what OldestFirst returns -/
structure OR (xss : List (List Int)) (t : Int) (ts : List Int) (out : List (List Int)) (k : Nat) : Prop where
  bad : ¬ CupOk xss → ts = [] ∧ out = [] ∧ k = 1
  neg : CupOk xss → t < 0 → ts = [] ∧ out = [] ∧ k = 2
  ok : CupOk xss → ∀ T : Nat, t = T → ∃ r, Tk xss T r ∧ (ts, out, k) = finO r
theorem OR.exists (xss : List (List Int)) (t : Int) : ∃ ts out k, OR xss t ts out k := by
  by_cases hc : CupOk xss
  · by_cases ht : t < 0
    · exact ⟨[], [], 2, fun h => absurd hc h, fun _ _ => ⟨rfl, rfl, rfl⟩, fun _ T e => absurd ht (by omega)⟩
    · obtain ⟨r, hr⟩ := Tk.exists t.toNat xss hc.pos
      exact ⟨(finO r).1, (finO r).2.1, (finO r).2.2, fun h => absurd hc h, fun _ h => absurd h ht, fun _ T e => ⟨r, by subst e; simpa using hr, rfl⟩⟩
  · exact ⟨[], [], 1, fun _ => ⟨rfl, rfl, rfl⟩, fun h => absurd h hc, fun h => absurd h hc⟩
theorem OR.small {rs : List Rw} {t : Int} {ts : List Int} {out : List (List Int)} {k : Nat} {n : Nat} (h : OR (nums rs) t ts out k) (en : n = rs.length) (ht : n + tot rs ≤ 1048576) : ts.length ≤ 1048576 ∧ ∀ rs2 : List Rw, nums rs2 = out → rs2.length + tot rs2 ≤ 1048576 ∧ ∀ r ∈ rs2, r.xs.length ≤ 1048576 := by
  have hnil : ts = [] → out = [] → ts.length ≤ 1048576 ∧ ∀ rs2 : List Rw, nums rs2 = out → rs2.length + tot rs2 ≤ 1048576 ∧ ∀ r ∈ rs2, r.xs.length ≤ 1048576 := fun e1 e2 => by
    subst e1 e2
    refine ⟨by simp, fun rs2 h2 => ?_⟩
    have : rs2 = [] := List.map_eq_nil_iff.1 h2
    subst this
    exact ⟨by simp [tot], fun r hr => by cases hr⟩
  by_cases hc : CupOk (nums rs)
  · by_cases h0 : t < 0
    · obtain ⟨e1, e2, _⟩ := h.neg hc h0
      exact hnil e1 e2
    · obtain ⟨r, hr, e⟩ := h.ok hc t.toNat (by omega)
      cases r with
      | none =>
        simp only [finO, Prod.mk.injEq] at e
        exact hnil e.1 e.2.1
      | some z =>
        simp only [finO, Prod.mk.injEq] at e
        obtain ⟨rfl, rfl, _⟩ := e
        obtain ⟨h1, h2⟩ := hr.sz z rfl
        have h3 := tot_szF rs
        refine ⟨by omega, fun rs2 e2 => ?_⟩
        have h4 := tot_szF rs2
        rw [e2] at h4
        have h5 := congrArg List.length e2
        simp only [nums, List.length_map] at h5 h1
        have h6 : rs2.length + tot rs2 ≤ 1048576 := by omega
        exact ⟨h6, fun r hr => by have := tot_mem hr; omega⟩
  · obtain ⟨e1, e2, _⟩ := h.bad hc
    exact hnil e1 e2

/-- a row whose lowest number may be taken -/
theorem take_row {u : World} {base g c : Nat} {rs : List Rw} {p : Nat} {x : Int} {t : List Int} (hO : OT u base (some ⟨g, 0, none⟩) c rs) (hp : (nums rs)[p]? = some (x :: t)) :
    ∃ pre g1 o1 rc post, rs = pre ++ ⟨some ⟨g1, o1, none⟩, rc, x :: t⟩ :: post ∧ pre.length = p := by
  obtain ⟨pre, r, post, rfl, hpre, hrx⟩ := rows_at hp
  obtain ⟨g1, o1, hA1, _⟩ := (hO.each r (by simp)).start hrx
  obtain ⟨rA, rc, rxs⟩ := r
  simp only at hA1 hrx
  subst hA1 hrx
  exact ⟨pre, g1, o1, rc, post, rfl, hpre⟩
theorem take_at {u : World} {base g c : Nat} {pre post : List Rw} {g1 o1 rc : Nat} {x : Int} {t : List Int} (hO : OT u base (some ⟨g, 0, none⟩) c (pre ++ ⟨some ⟨g1, o1, none⟩, rc, x :: t⟩ :: post)) :
    u.cell? ⟨g, pre.length, none⟩ = some (.slice (some ⟨g1, o1, none⟩) (t.length + 1) rc) ∧ u.frozen? ⟨g, pre.length, none⟩ = false ∧ u.cell? ⟨g1, o1, none⟩ = some (.int .i64 x) ∧ t.length + 1 ≤ rc ∧ g < u.heap.size ∧ base ≤ g ∧ g1 < u.heap.size ∧
      ∀ o2 : Nat, (o2 = if rc = 1 then o1 else o1 + 1) → OT (u.setCell ⟨g, pre.length, none⟩ (.slice (some ⟨g1, o2, none⟩) t.length (rc - 1))) base (some ⟨g, 0, none⟩) c (pre ++ ⟨some ⟨g1, o2, none⟩, rc - 1, t⟩ :: post) := by
  have hr : (pre ++ (⟨some ⟨g1, o1, none⟩, rc, x :: t⟩ : Rw) :: post)[pre.length]? = some ⟨some ⟨g1, o1, none⟩, rc, x :: t⟩ := by rw [List.getElem?_append_right (Nat.le_refl _), Nat.sub_self]; rfl
  obtain ⟨a, ea, hab, q0⟩ := hO.ss.head hr
  obtain rfl := Option.some.inj ea
  rw [add_lit] at q0
  have hr1 := hO.each _ (List.mem_of_getElem? hr)
  obtain ⟨g2, o2, hA1, q1⟩ := hr1.start rfl
  simp only [Option.some.injEq, Addr.mk.injEq, and_true] at hA1
  obtain ⟨rfl, rfl⟩ := hA1
  have hcap : t.length + 1 ≤ rc := by
    rcases hr1 with ⟨h, _⟩ | ⟨_, _, _, _, _, _, h, _⟩
    · cases h
    · simpa using h
  have hb := hO.outer.lt g rfl
  exact ⟨q0, hO.outer.frozenAt _, q1, hcap, hb.2, hb.1, (hr1.at_lt g1 rfl).2, fun o2 ho => (hO.put (r' := ⟨some ⟨g1, o2, none⟩, rc - 1, t⟩) (hr1.tail2 ho) (fun k hk => hk)).1⟩
theorem take_blocks {A : Option Addr} {pre post : List Rw} {g1 o1 o2 rc rc2 : Nat} {xs ys : List Int} {k : Nat} (h : Blocks A (pre ++ ⟨some ⟨g1, o2, none⟩, rc2, ys⟩ :: post) k) : Blocks A (pre ++ ⟨some ⟨g1, o1, none⟩, rc, xs⟩ :: post) k := by
  rcases h with h | ⟨r, hr, hk⟩
  · exact .inl h
  · rcases List.mem_append.1 hr with h1 | h1
    · exact .inr ⟨r, List.mem_append_left _ h1, hk⟩
    · rcases List.mem_cons.1 h1 with rfl | h1
      · exact .inr ⟨⟨some ⟨g1, o1, none⟩, rc, xs⟩, by simp, hk⟩
      · exact .inr ⟨r, by simp [h1], hk⟩
/-- rows of the call's own, and a list of numbers beside them -/
structure TL (w : World) (base : Nat) (A : Option Addr) (c : Nat) (rs : List Rw) (v : Value) (ys : List Int) : Prop where
  ot : OT w base A c rs
  own : w.ownsRow base 2 1 v ys.length (ys.flatMap intS.C)
  sep : ∀ k, v.ownBlock = some k → ¬ Blocks A rs k
theorem TL.next {w w' : World} {base : Nat} {A : Option Addr} {c : Nat} {rs : List Rw} {v : Value} {ys : List Int} (h : TL w base A c rs v ys) (hb : Below w.heap.size w w') : TL w' base A c rs v ys :=
  ⟨h.ot.next hb, owns_next h.own hb, h.sep⟩
theorem TL.lower {w : World} {base base' : Nat} {A : Option Addr} {c : Nat} {rs : List Rw} {v : Value} {ys : List Int} (h : TL w base A c rs v ys) (hb : base' ≤ base) : TL w base' A c rs v ys :=
  ⟨h.ot.lower hb, owns_below h.own hb, h.sep⟩
theorem OT.blocksE {w : World} {base : Nat} {A : Option Addr} {c : Nat} {rs : List Rw} (h : OT w base A c rs) : ∀ k, Blocks A rs k → base ≤ k ∧ k < w.heap.size := by
  rintro k (⟨a, rfl, rfl⟩ | ⟨r, hr, hk⟩)
  · exact h.outer.lt _ rfl
  · exact (h.each r hr).at_lt k hk
theorem OT.apartE {w w' : World} {base : Nat} {A : Option Addr} {c : Nat} {rs : List Rw} {S : Nat → Prop} (h : OT w base A c rs) (hb : But S w w') (hS : ∀ k, Blocks A rs k → ¬ S k) : OT w' base A c rs := by
  refine ⟨owns_but h.outer hb (fun g hg => hS g (.inl ?_)), fun r hr => (h.each r hr).but hb (fun g hg => hS g (.inr ⟨r, hr, hg⟩)), h.dist, h.off⟩
  cases A with
  | none => cases hg
  | some a => exact ⟨a, rfl, Option.some.inj hg⟩
/-- one row is another one now -/
theorem TL.set {u : World} {base g c p : Nat} {rs rs2 : List Rw} {v x : Value} {ys : List Int} (h : TL u base (some ⟨g, 0, none⟩) c rs v ys) (hO : OT (u.setCell ⟨g, p, none⟩ x) base (some ⟨g, 0, none⟩) c rs2) (hB : ∀ k, Blocks (some ⟨g, 0, none⟩) rs2 k → Blocks (some ⟨g, 0, none⟩) rs k) :
    TL (u.setCell ⟨g, p, none⟩ x) base (some ⟨g, 0, none⟩) c rs2 v ys :=
  ⟨hO, owns_other h.own (h.ot.outer.stored p x).2 (fun k hk e => h.sep k hk (.inl ⟨_, rfl, e.symm⟩)), fun k hk hx => h.sep k hk (hB k hx)⟩
/-- the list is longer now -/
theorem TL.rest {u u1 : World} {base c : Nat} {A : Option Addr} {rs : List Rw} {v v' : Value} {ys ys' : List Int} (h : TL u base A c rs v ys) (hg : u.grownBy u1 v.ownBlock) (h' : u1.ownsRow base 2 1 v' ys'.length (ys'.flatMap intS.C))
    (hat : v'.ownBlock = v.ownBlock ∨ v'.ownBlock = some u.heap.size) : TL u1 base A c rs v' ys' := by
  have hbut : But (fun k => v.ownBlock = some k) u u1 := ⟨hg.os, hg.tape, hg.output, hg.size, fun k hk hn => hg.block k hk (fun e => hn e.symm)⟩
  refine ⟨h.ot.apartE hbut (fun k hk e => h.sep k e hk), h', fun k hk hx => ?_⟩
  rcases hat with h1 | h1
  · exact h.sep k (h1 ▸ hk) hx
  · rw [h1] at hk
    have h2 := Option.some.inj hk
    have h3 := (h.ot.blocksE k hx).2
    omega
theorem TL.nil {w : World} {base : Nat} {A : Option Addr} {c : Nat} {rs : List Rw} (h : OT w base A c rs) : TL w base A c rs (.slice none 0 0) [] :=
  ⟨h, World.ownsRow_nil _ _ _ _, fun k hk => by cases hk⟩
/-- the length of a slice -/
def slen : Value → Nat
  | .slice _ n _ => n
  | _ => 0
/-- what is returned: numbers, rows and a code, all of the call's own -/
abbrev OwnO (w : World) (ts : List Int) (out : List (List Int)) (k : Nat) (o : Ending) (w' : World) : Prop :=
  ∃ A c rs v, o = .returned (.tuple #[v, .slice A rs.length c, .int .i64 k]) ∧ TL w' w.heap.size A c rs v ts ∧ nums rs = out ∧ Below w.heap.size w w'
end Go.Proofs.YtdcckdfemelbiaaDoor.rows
