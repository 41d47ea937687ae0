/-
  Several texts of this proof, joined.
-/
import Derived.Test.YtcbbabepjfiigaaDoorJoin11
import Derived.Test.YtcbbabepjfiigaaDoorCupF
import Derived.Laws.AppendOwnNone
import Derived.Lib.SliceRun
import Derived.Test.YtcbbabepjfiigaaDoorJoin12
/-
  Rows that are copied, the program's way and the model's.
-/
namespace Go.Proofs.YtcbbabepjfiigaaDoor.rows
open Go Go.RowKit sl fold

theorem i64cell (xs : List Int) : ∀ u ∈ xs.flatMap intS.C, u.oneCell' = true := by
  intro u hu
  obtain ⟨x, _, hx⟩ := List.mem_flatMap.1 hu
  rw [List.mem_singleton.1 hx]
  rfl
theorem Sl.cells {w : World} {B : Nat} {a : Addr} {xs : List Int} (h : Sl intS.C 1 w B (some a) xs) : ∀ (j : Nat) u, (xs.flatMap intS.C)[j]? = some u → w.cell? (a.add j) = some u := by
  intro j u hu
  have hl := (List.getElem?_eq_some_iff.1 hu).1
  rw [flat_len (sz := 1) (fun y _ => rfl), Nat.mul_one] at hl
  obtain ⟨a', e, _, hat⟩ := h.at_ j xs[j] (List.getElem?_eq_getElem hl)
  obtain rfl := Option.some.inj e
  have h1 := intS.at_ hat
  have h2 := flat_get (fun y _ => rfl : ∀ y ∈ xs, (intS.C y).length = 1) (List.getElem?_eq_getElem hl) (j := 0) (v := .int .i64 xs[j]) rfl
  rw [Nat.mul_one, Nat.add_zero] at h2
  rw [h2] at hu
  rw [← Option.some.inj hu]
  exact h1
theorem Sl.none_nil {w : World} {B : Nat} {xs : List Int} (h : Sl intS.C 1 w B none xs) : xs = [] := by
  cases xs with
  | nil => rfl
  | cons x t =>
    obtain ⟨a, e, _⟩ := h.at_ 0 x rfl
    cases e
set_option maxRecDepth 100000 in
set_option maxHeartbeats 2000000 in
theorem l00Own_any (r : Rw) (hl : r.xs.length ≤ 1048576) (hn : r.A = none → r.c = 0) (w : World) (hg : Sl intS.C 1 w w.heap.size r.A r.xs) :
    Calls Tryd.prog 91 #[r.v] w fun o w' => ∃ v, o = .returned v ∧ w'.ownsRow w.heap.size 2 1 v r.xs.length (r.xs.flatMap intS.C) ∧ Below w.heap.size w w' := by
  obtain ⟨i0, hi, hz0, hz1, hz2⟩ := info_parts intS.info
  obtain ⟨A, c, xs⟩ := r
  simp only at hl hn hg
  simp only [Rw.v]
  have HG := Lib.hid hg
  clear hg
  cases A with
  | none =>
    obtain rfl := hn rfl
    obtain rfl := Sl.none_nil HG.out
    have hown := World.ownsRow_made (e := 2) (size := 1) w #[] 0 (Nat.le_refl _) (Nat.zero_le _) rfl
    go_enter Tryd.func91, Tryd.ntmps91
    go_wp2_with (first | (at_builtin; refine wpList_append_own_none rfl (.tmp 3) (.tmp 4) 31 rfl w.heap.size 2 i0 1 Tryd.underlying31 hi _ 0 [] rfl hown rfl ?_) | fail)
    go_ret
    exact ⟨_, rfl, hown, (Below.refl _ _).alloc (Nat.le_refl _) _⟩
  | some a =>
    have hown := World.ownsRow_made (e := 2) (size := 1) w #[] 0 (Nat.le_refl _) (Nat.zero_le _) rfl
    have hcells := Sl.cells (HG.out.below ((Below.refl w.heap.size w).alloc (Nat.le_refl _) (.cells #[] 2)))
    have hfl : (xs.flatMap intS.C).length = xs.length * 1 := flat_len (fun y _ => rfl)
    go_enter Tryd.func91, Tryd.ntmps91
    go_wp2_with (first | (at_builtin; refine wpList_append_own _ rfl (.tmp 3) (.tmp 4) 31 rfl w.heap.size 2 i0 (.int .i64 0) 1 8 Tryd.underlying31 hi hz0 hz1 hz2 rfl (by decide) _ 0 [] rfl hown a xs.length c (xs.flatMap intS.C) rfl hfl hcells (i64cell xs) (by unfold maxLen; omega) (by omega) (by simp) ?_; intro v3 w3 hP3 hgr _; have B3 := Lib.hid (Below.grown ((Below.refl w.heap.size w).alloc (Nat.le_refl _) (.cells #[] 2)) hgr (by simp) (fun g hg => by obtain rfl := Option.some.inj hg; exact Nat.le_refl _)); have HP3 := Lib.hid hP3; clear hP3 hgr) | fail)
    go_ret
    refine ⟨_, rfl, ?_, B3.out⟩
    have := HP3.out
    rwa [Nat.zero_add, List.nil_append] at this
set_option maxRecDepth 100000 in
set_option maxHeartbeats 2000000 in
theorem Clone_any (r : Rw) (hl : r.xs.length ≤ 1048576) (hn : r.A = none → r.c = 0) (w : World) (hg : Sl intS.C 1 w w.heap.size r.A r.xs) :
    Calls Tryd.prog 95 #[r.v] w fun o w' => ∃ v, o = .returned v ∧ w'.ownsRow w.heap.size 2 1 v r.xs.length (r.xs.flatMap intS.C) ∧ Below w.heap.size w w' := by
  obtain ⟨i0, hi, hz0, hz1, hz2⟩ := info_parts intS.info
  obtain ⟨A, c, xs⟩ := r
  simp only at hl hn hg
  simp only [Rw.v]
  have HG := Lib.hid hg
  clear hg
  cases A with
  | none =>
    obtain rfl := hn rfl
    obtain rfl := Sl.none_nil HG.out
    have q0 := fun u => Lib.run_eql_slice_nil (P := Tryd.prog) u 31 2 none 0 0 0 0 Tryd.underlying31
    go_enter Tryd.func95, Tryd.ntmps95
    go_wp2_with fail
    go_ret
    exact ⟨_, rfl, World.ownsRow_nil w w.heap.size 2 1, Below.refl _ _⟩
  | some a =>
    have hown := World.ownsRow_made (e := 2) (size := 1) w #[] 0 (Nat.le_refl _) (Nat.zero_le _) rfl
    have hcells := Sl.cells (HG.out.below ((Below.refl w.heap.size w).alloc (Nat.le_refl _) (.cells #[] 2)))
    have hfl : (xs.flatMap intS.C).length = xs.length * 1 := flat_len (fun y _ => rfl)
    have q0 := fun u => Lib.run_eql_slice_nil (P := Tryd.prog) u 31 2 (some a) xs.length c 0 0 Tryd.underlying31
    go_enter Tryd.func95, Tryd.ntmps95
    go_wp2_with (first | (at_builtin; refine wpList_append_own _ rfl (.tmp 5) (.tmp 6) 31 rfl w.heap.size 2 i0 (.int .i64 0) 1 8 Tryd.underlying31 hi hz0 hz1 hz2 rfl (by decide) _ 0 [] rfl hown a xs.length c (xs.flatMap intS.C) rfl hfl hcells (i64cell xs) (by unfold maxLen; omega) (by omega) (by simp) ?_; intro v3 w3 hP3 hgr _; have B3 := Lib.hid (Below.grown ((Below.refl w.heap.size w).alloc (Nat.le_refl _) (.cells #[] 2)) hgr (by simp) (fun g hg => by obtain rfl := Option.some.inj hg; exact Nat.le_refl _)); have HP3 := Lib.hid hP3; clear hP3 hgr) | fail)
    go_ret
    refine ⟨_, rfl, ?_, B3.out⟩
    have := HP3.out
    rwa [Nat.zero_add, List.nil_append] at this
end Go.Proofs.YtcbbabepjfiigaaDoor.rows

/-
  Cupboards copied, the model's.
-/
namespace Go.Proofs.YtcbbabepjfiigaaDoor.rows
open Go Go.RowKit sl fold

theorem infoRow : (Tryd.prog.info? 31).map (fun i => (i.zero, i.size, i.bytes)) = some (some (.slice none 0 0), 1, 24) := by kernel_rfl
/-- a block of rows is no block of numbers -/
theorem rows_ne {w : World} {base base' : Nat} {r : Rw} {v : Value} {n : Nat} {L : List Value} (h : Own1 w base r) (h' : w.ownsRow base' 31 1 v n L) : ∀ k, r.v.ownBlock = some k → v.ownBlock ≠ some k := by
  intro k hk hv
  rcases h with ⟨hA, _, _⟩ | ⟨g, o, cur, hA, hb, hg, _⟩
  · rw [Rw.v, hA] at hk
    simp [Value.ownBlock] at hk
  · rw [Rw.v, hA] at hk
    simp only [Value.ownBlock, Option.some.injEq] at hk
    subst hk
    rcases h'.2 with ⟨rfl, _⟩ | ⟨g', cap, cu, rfl, _, hg', _⟩
    · simp [Value.ownBlock] at hv
    · simp only [Value.ownBlock, Option.some.injEq] at hv
      subst hv
      rw [hg] at hg'
      simp at hg'
/-- rows of the call's own, behind a value -/
structure OV (w : World) (base : Nat) (v : Value) (rs : List Rw) : Prop where
  outer : w.ownsRow base 31 1 v rs.length (rs.map Rw.v)
  each : ∀ r ∈ rs, Own1 w base r
  dist : (rs.map Rw.v).Pairwise fun a b => ∀ k, a.ownBlock = some k → b.ownBlock ≠ some k
theorem OV.next {w w' : World} {base : Nat} {v : Value} {rs : List Rw} (h : OV w base v rs) (hb : Below w.heap.size w w') : OV w' base v rs :=
  ⟨owns_next h.outer hb, fun r hr => (h.each r hr).next hb, h.dist⟩
theorem OV.ot {w : World} {base : Nat} {A : Option Addr} {c : Nat} {rs : List Rw} (h : OV w base (.slice A rs.length c) rs) : OT w base A c rs :=
  ⟨h.outer, h.each, h.dist, fun v hv k hk => by
    obtain ⟨r, hr, rfl⟩ := List.mem_map.1 hv
    exact rows_ne (h.each r hr) h.outer k hk⟩
/-- one more row -/
theorem OV.snoc {w w1 w' : World} {base : Nat} {v v' : Value} {rs : List Rw} {r : Rw} (h : OV w base v rs) (hb : Below w.heap.size w w1) (hr : Own1 w1 base r) (hnew : ∀ k, r.v.ownBlock = some k → w.heap.size ≤ k) (hg : w1.grownBy w' v.ownBlock)
    (ho : w'.ownsRow base 31 1 v' (rs.length + 1) (rs.map Rw.v ++ [r.v])) : OV w' base v' (rs ++ [r]) := by
  have h1 := h.next hb
  have keep : ∀ x, Own1 w1 base x → Own1 w' base x := fun x hx => hx.keep fun g hg' => hg.block g (hx.at_lt g hg').2 (fun e => rows_ne hx h1.outer g hg' e.symm)
  refine ⟨by simpa using ho, fun x hx => ?_, ?_⟩
  · rcases List.mem_append.1 hx with h2 | h2
    · exact keep x (h1.each x h2)
    · obtain rfl := List.mem_singleton.1 h2
      exact keep x hr
  · rw [List.map_append, List.map_cons, List.map_nil]
    refine List.pairwise_append.2 ⟨h.dist, List.pairwise_singleton _ _, fun a ha b hb' k hk e => ?_⟩
    obtain rfl := List.mem_singleton.1 hb'
    obtain ⟨x, hx, rfl⟩ := List.mem_map.1 ha
    have h2 := ((h.each x hx).at_lt k hk).2
    have h3 := hnew k e
    omega
set_option maxRecDepth 100000 in
set_option maxHeartbeats 4000000 in
theorem l04Own_any (A : Option Addr) (n c : Nat) (rs : List Rw) (en : n = rs.length) (hn : n ≤ 1048576) (hs : ∀ r ∈ rs, r.xs.length ≤ 1048576) (hN : ∀ r ∈ rs, r.A = none → r.c = 0) (w : World) (hg : SS w w.heap.size A rs) :
    Calls Tryd.prog 74 #[.slice A n c] w fun o w' => ∃ A' c' rs', o = .returned (.slice A' n c') ∧ rs'.length = n ∧ nums rs' = nums rs ∧ OT w' w.heap.size A' c' rs' ∧ Below w.heap.size w w' := by
  obtain ⟨i0, hi, hz0, hz1, hz2⟩ := info_parts infoRow
  have En := Lib.hid en
  clear en
  have hown := World.ownsRow_made (e := 31) (size := 1) w #[] 0 (Nat.le_refl _) (Nat.zero_le _) rfl
  have O0 : Hid (OV (w.alloc (.cells #[] 31)) w.heap.size (.slice (some ⟨w.heap.size, 0, none⟩) 0 0) []) := Lib.hid ⟨hown, (fun r hr => by cases hr), List.Pairwise.nil⟩
  clear hown
  go_enter Tryd.func74, Tryd.ntmps74
  go_wp2_with fail
  go_loopw [3, 4] (fun vo vi wr => ∃ (k : Nat) (v : Value) (rs' : List Rw), k ≤ n ∧ vi = .int .i64 k ∧ vo = v ∧ rs'.length = k ∧ nums rs' = (nums rs).take k ∧ OV wr w.heap.size v rs' ∧ Below w.heap.size w wr) (fun _ vi _ => n - (intOf vi).toNat)
  case atStart => exact ⟨0, _, [], by omega, rfl, rfl, rfl, rfl, O0.out, (Below.refl _ _).alloc (Nat.le_refl _) _⟩
  case round =>
    clear O0
    obtain ⟨k, v, rs', hk, rfl, rfl, hl, hm, hO, hB⟩ := hrel
    have HL := Lib.hid hl
    have HM := Lib.hid hm
    have HO := Lib.hid hO
    have HB := Lib.hid hB
    clear hl hm hO hB
    by_cases hlt : k < n
    · obtain ⟨r, hr⟩ : ∃ r, rs[k]? = some r := ⟨rs[k]'(by have := En.out; omega), List.getElem?_eq_getElem _⟩
      obtain ⟨a, rfl, hab, q0⟩ := (hg.below HB.out).head hr
      have hrs := hs r (List.mem_of_getElem? hr)
      have hrn := hN r (List.mem_of_getElem? hr)
      have HR := Lib.hid hr
      clear hr
      go_wp2_with fail
      refine (l00Own_any r hrs hrn _ ((hg.below HB.out).more HB.out.size |>.each r (List.mem_of_getElem? HR.out))).mono ?_
      rintro o u ⟨v2, rfl, P, hb⟩
      obtain ⟨A2, c2, rfl, _⟩ := owns_slice P
      have B2 := Lib.hid (below_next HB.out hb (Nat.le_refl _))
      have hP1 := Own1.of_owns (r := ⟨A2, c2, r.xs⟩) P
      have P1 := Lib.hid hP1
      have HBU := Lib.hid hb
      clear P hb q0 hP1
      have hown := (HO.out.next HBU.out).outer
      rw [HL.out] at hown
      have HW := Lib.hid hown
      clear hown
      go_wp2_with (first | (at_builtin; refine wpList_append_own _ rfl (.tmp 12) (.tmp 18) 53 rfl w.heap.size 31 i0 (.slice none 0 0) 1 24 Tryd.underlying53 hi hz0 hz1 hz2 rfl (by decide) _ k _ rfl (HW.out.alloc _) ⟨_, 0, none⟩ 1 1 [.slice A2 r.xs.length c2] rfl rfl (one_newB _ _ _ _ (by simp)) (one_cellI (by rfl)) (by unfold maxLen; omega) (by omega) (by have := B2.out.size; simp; omega) ?_; intro v3 w5 hP5 hgr _; have HG5 := Lib.hid hgr; have B5 := Lib.hid (Below.grown (B2.out.alloc B2.out.size _) hgr (by have := B2.out.size; simp; omega) (fun g hg => (HW.out.lt g hg).1)); have HP5 := Lib.hid hP5; clear hP5 hgr) | fail)
      go_roundw
      case rel =>
        have hub : Below u.heap.size u (u.alloc (.cells #[.slice A2 r.xs.length c2] 31)) := (Below.refl _ _).alloc (Nat.le_refl _) _
        refine ⟨k + 1, v3, rs' ++ [⟨A2, c2, r.xs⟩], by omega, by go_num, rfl, by rw [List.length_append, HL.out]; rfl, ?_, ?_, B5.out⟩
        · have e := take_snoc (xs := nums rs) (k := k) (x := r.xs) (by simp [nums, HR.out])
          rw [e, nums, List.map_append, ← HM.out]
          rfl
        · have hr1 := (P1.out.next hub).lower (base' := w.heap.size) HB.out.size
          exact HO.out.snoc (below_next HBU.out hub (Nat.le_refl _)) hr1 (fun k hk => (P1.out.at_lt k hk).1) HG5.out (by rw [HL.out]; exact HP5.out)
      case measure => simp [intOf]; omega
    · obtain rfl : k = n := by omega
      go_wp2_with fail
      go_ret
      obtain ⟨A', c', e, _⟩ := owns_slice HO.out.outer
      subst e
      have hO := HO.out.ot
      rw [HL.out]
      refine ⟨A', c', rs', rfl, HL.out, ?_, hO, HB.out⟩
      rw [HM.out, List.take_of_length_le (by simp [nums, ← En.out])]
end Go.Proofs.YtcbbabepjfiigaaDoor.rows

/-
  Cupboards copied, the program's.
-/
namespace Go.Proofs.YtcbbabepjfiigaaDoor.rows
open Go Go.RowKit sl fold cup

theorem not_own (A : Option Addr) (n c : Nat) (u : World) : (Instr.typeAssert (.iface 93 (.slice A n c)) 116 98 true).run Tryd.prog u = .ok (.tuple #[.slice none 0 0, .bool false]) u := by kernel_rfl
theorem is_given (A : Option Addr) (n c : Nat) (u : World) : (Instr.typeAssert (.iface 93 (.slice A n c)) 116 93 true).run Tryd.prog u = .ok (.tuple #[.slice A n c, .bool true]) u := by kernel_rfl
set_option maxRecDepth 100000 in
set_option maxHeartbeats 4000000 in
theorem owned_any (A : Option Addr) (n c : Nat) (rs : List Rw) (en : n = rs.length) (hn : n ≤ 1048576) (hs : ∀ r ∈ rs, r.xs.length ≤ 1048576) (hN : ∀ r ∈ rs, r.A = none → r.c = 0) (w : World) (hg : SS w w.heap.size A rs) :
    Calls Tryd.prog 92 #[givenV A n c] w fun o w' => ∃ g rs', o = .returned (.slice (some ⟨g, 0, none⟩) n n) ∧ rs'.length = n ∧ nums rs' = nums rs ∧ OT w' w.heap.size (some ⟨g, 0, none⟩) n rs' ∧ Below w.heap.size w w' := by
  obtain ⟨i0, hi, hz0, hz1, hz2⟩ := info_parts infoRow
  have En := Lib.hid en
  clear en
  have hmk : ∀ u : World, (Instr.makeSlice 98 (.int .i64 (n : Int)) (.int .i64 (n : Int))).run Tryd.prog u =
      .ok (.slice (some ⟨u.heap.size, 0, none⟩) n n) (u.alloc (.cells (madeCells #[.slice none 0 0] n) 31)) := fun u => by
    have h := run_make (P := Tryd.prog) u 98 31 i0 _ Tryd.underlying98 hi hz0 .i64 .i64 (n : Int) (n : Int) (by omega) (Int.le_refl _) (by rw [hz2]; omega) (by omega)
    have e : ((n : Int)).toNat = n := by omega
    rw [e] at h
    simpa [hz1, Value.cells] using h
  have q1 := not_own A n c
  have q2 := is_given A n c
  simp only [givenV]
  go_enter Tryd.func92, Tryd.ntmps92
  have hB0 : Below w.heap.size w (w.alloc (.cells (madeCells #[.slice none 0 0] n) 31)) := (Below.refl _ _).alloc (Nat.le_refl _) _
  have hP0 : (w.alloc (.cells (madeCells #[.slice none 0 0] n) 31)).ownsRow w.heap.size 31 1 (.slice (some ⟨w.heap.size, 0, none⟩) n n) n _ :=
    World.ownsRow_lit w (madeCells #[.slice none 0 0] n) n (Nat.le_refl _) (by unfold maxLen; omega) (by rw [size_madeCells, Nat.mul_one])
  have HP0 := Lib.hid hP0
  clear hP0
  go_wp2_with fail
  go_loopw [21] (fun vi wr => ∃ k L rs', k ≤ n ∧ vi = .int .i64 (k : Nat) ∧ rs'.length = k ∧ nums rs' = (nums rs).take k ∧ wr.ownsRow w.heap.size 31 1 (.slice (some ⟨w.heap.size, 0, none⟩) n n) n L ∧ Done Rw.C 1 rs' k L ∧
    (∀ r ∈ rs', Own1 wr (w.heap.size + 1) r) ∧ ((rs'.map Rw.v).Pairwise fun a b => ∀ k, a.ownBlock = some k → b.ownBlock ≠ some k) ∧ w.heap.size < wr.heap.size ∧ Below w.heap.size w wr) (fun vi _ => n - (intOf vi).toNat)
  case atStart => exact ⟨0, _, [], by omega, rfl, rfl, rfl, HP0.out, Done.zero _ _ _ _, fun r hr => by simp at hr, List.Pairwise.nil, by simp, hB0⟩
  case round =>
    clear hB0 HP0
    obtain ⟨k, L, rs', hk, rfl, hl', hn', hP, hD, hE, hW, hz, hB⟩ := hrel
    have HB := Lib.hid hB
    have HL' := Lib.hid hl'
    have HN' := Lib.hid hn'
    have HD := Lib.hid hD
    have HE := Lib.hid hE
    have HW := Lib.hid hW
    have HP := Lib.hid hP
    clear hB hl' hn' hD hE hW hP
    by_cases hlt : k < n
    · obtain ⟨r, hr⟩ : ∃ r, rs[k]? = some r := ⟨rs[k]'(by have := En.out; omega), List.getElem?_eq_getElem _⟩
      obtain ⟨a, rfl, hab, q0⟩ := (hg.below HB.out).head hr
      have hrs := hs r (List.mem_of_getElem? hr)
      have hrn := hN r (List.mem_of_getElem? hr)
      have HR := Lib.hid hr
      clear hr
      go_wp2_with fail
      refine (Clone_any r hrs hrn _ ((hg.below HB.out).more HB.out.size |>.each r (List.mem_of_getElem? HR.out))).mono ?_
      rintro o u ⟨v2, rfl, P, hb⟩
      obtain ⟨A2, c2, rfl, _⟩ := owns_slice P
      have hP1 := Own1.of_owns (r := ⟨A2, c2, r.xs⟩) P
      have P1 := Lib.hid hP1
      have HBU := Lib.hid hb
      have P2 := Lib.hid (owns_next HP.out hb)
      have B2 := Lib.hid (below_next HB.out hb (Nat.le_refl _))
      clear P hb q0 HP hP1
      have hLL := P2.out.1
      obtain ⟨v0, s0⟩ : ∃ v, u.cell? ⟨w.heap.size, k, none⟩ = some v := ⟨L[k]'(by omega), (P2.out.cellAt k (by omega)).trans (List.getElem?_eq_getElem _)⟩
      have f0 := P2.out.frozenAt k
      have HLL := Lib.hid hLL
      clear hLL
      go_wp2_with fail
      go_roundw
      case rel =>
        have hP3 := P2.out.stored k (.slice A2 r.xs.length c2)
        have hx : (rs' ++ [(⟨A2, c2, r.xs⟩ : Rw)])[k]? = some ⟨A2, c2, r.xs⟩ := by
          rw [List.getElem?_append_right (by rw [HL'.out]; exact Nat.le_refl _), HL'.out, Nat.sub_self]
          rfl
        have keep : ∀ x, Own1 u (w.heap.size + 1) x → Own1 (u.setCell ⟨w.heap.size, k, none⟩ (.slice A2 r.xs.length c2)) (w.heap.size + 1) x := fun x hx => hx.keep fun g hg => hP3.2.block g (hx.at_lt g hg).2 (fun e => by have := (hx.at_lt g hg).1; have := Option.some.inj e; omega)
        refine ⟨k + 1, _, rs' ++ [⟨A2, c2, r.xs⟩], by omega, by go_num, by rw [List.length_append, HL'.out]; rfl, ?_, hP3.1, ?_, ?_, ?_, ?_, ?_⟩
        · have e := take_snoc (xs := nums rs) (k := k) (x := r.xs) (by simp [nums, HR.out])
          rw [e, nums, List.map_append, ← HN'.out]
          rfl
        · have hmono : Done Rw.C 1 (rs' ++ [(⟨A2, c2, r.xs⟩ : Rw)]) k L := fun i x hi hxi j v hv => by
            rw [List.getElem?_append_left (by rw [HL'.out]; exact hi)] at hxi
            exact HD.out i x hi hxi j v hv
          intro i x hi hxi j v hv
          have hj : j = 0 := by
            have := (List.getElem?_eq_some_iff.1 hv).1
            simp [Rw.C] at this
            exact this
          subst hj
          simp only [Rw.C, List.getElem?_cons_zero, Option.some.injEq] at hv
          subst hv
          rcases Nat.lt_or_ge i k with h1 | h1
          · have := hmono i x h1 hxi 0 _ rfl
            rw [Nat.mul_one, Nat.add_zero] at this ⊢
            rw [List.getElem?_set_ne (by omega)]
            exact this
          · obtain rfl : i = k := by omega
            rw [hx] at hxi
            obtain rfl := Option.some.inj hxi
            rw [Nat.mul_one, Nat.add_zero, List.getElem?_set_self (by rw [HLL.out]; omega)]
        · intro x hx
          rcases List.mem_append.1 hx with h1 | h1
          · exact keep x ((HE.out x h1).next HBU.out)
          · obtain rfl := List.mem_singleton.1 h1
            exact keep _ (P1.out.lower (by omega))
        · rw [List.map_append, List.map_cons, List.map_nil]
          refine List.pairwise_append.2 ⟨HW.out, List.pairwise_singleton _ _, fun a ha b hb' k hk e => ?_⟩
          obtain rfl := List.mem_singleton.1 hb'
          obtain ⟨x, hx, rfl⟩ := List.mem_map.1 ha
          have h2 := ((HE.out x hx).at_lt k hk).2
          have h3 := (P1.out.at_lt k e).1
          omega
        · have := HBU.out.size
          simp [World.setCell]
          omega
        · exact B2.out.setCell (p := ⟨w.heap.size, k, none⟩) (Nat.le_refl _) _
      case measure => simp [intOf]; omega
    · go_wp2_with fail
      obtain rfl : k = n := by omega
      go_ret
      have hl := HL'.out
      have e : L = rs'.flatMap Rw.C := Done.full (by rw [hl]; exact HD.out) (Rw.len rs') (by omega) (by rw [HP.out.1, hl])
      have hP := HP.out
      rw [e, flat_v] at hP
      refine ⟨_, rs', rfl, hl, ?_, ⟨by rw [hl]; exact hP, fun r hr => (HE.out r hr).lower (by omega), HW.out, fun v hv k hk => ?_⟩, HB.out⟩
      · rw [HN'.out, List.take_of_length_le (by simp [nums, ← En.out])]
      · obtain ⟨r, hr, rfl⟩ := List.mem_map.1 hv
        rw [hl]
        exact rows_ne (HE.out r hr) hP k hk
end Go.Proofs.YtcbbabepjfiigaaDoor.rows

/-
  The lowest sheet of a pile is taken.
-/
namespace Go.Proofs.YtcbbabepjfiigaaDoor.rows
open Go Go.RowKit sl fold cup

/-- one row lies elsewhere now -/
theorem OT.put {w : World} {base g : Nat} {c : Nat} {pre post : List Rw} {r r' : Rw} (h : OT w base (some ⟨g, 0, none⟩) c (pre ++ r :: post)) (h' : Own1 w base r') (hv : ∀ k, r'.v.ownBlock = some k → r.v.ownBlock = some k) :
    OT (w.setCell ⟨g, pre.length, none⟩ r'.v) base (some ⟨g, 0, none⟩) c (pre ++ r' :: post) ∧ w.grownBy (w.setCell ⟨g, pre.length, none⟩ r'.v) (some g) := by
  have hl : (pre ++ r' :: post).length = (pre ++ r :: post).length := by simp
  have hst := h.outer.stored pre.length r'.v
  have hset : ((pre ++ r :: post).map Rw.v).set pre.length r'.v = (pre ++ r' :: post).map Rw.v := by
    rw [List.map_append, List.map_cons, List.set_append_right _ _ (by simp)]
    simp
  rw [hset] at hst
  have keep : ∀ x, Own1 w base x → (∀ k, x.v.ownBlock = some k → k ≠ g) → Own1 (w.setCell ⟨g, pre.length, none⟩ r'.v) base x := fun x hx hne => hx.keep fun k hk => hst.2.block k (hx.at_lt k hk).2 (fun e => hne k hk (Option.some.inj e))
  have hoff : ∀ x ∈ pre ++ r :: post, ∀ k, x.v.ownBlock = some k → k ≠ g := fun x hx k hk e => h.off x.v (List.mem_map_of_mem hx) k hk (by subst e; rfl)
  have hd := h.dist
  rw [List.map_append, List.map_cons, List.pairwise_append, List.pairwise_cons] at hd
  obtain ⟨d0, ⟨d1, d2⟩, d3⟩ := hd
  refine ⟨⟨by rw [hl]; exact hst.1, fun x hx => ?_, ?_, fun v hx k hk => ?_⟩, hst.2⟩
  · rcases List.mem_append.1 hx with h1 | h1
    · exact keep x (h.each x (List.mem_append_left _ h1)) (hoff x (List.mem_append_left _ h1))
    · rcases List.mem_cons.1 h1 with rfl | h1
      · exact keep _ h' fun k hk => hoff r (by simp) k (hv k hk)
      · exact keep x (h.each x (List.mem_append_right _ (List.mem_cons_of_mem _ h1))) (hoff x (List.mem_append_right _ (List.mem_cons_of_mem _ h1)))
  · rw [List.map_append, List.map_cons, List.pairwise_append, List.pairwise_cons]
    refine ⟨d0, ⟨fun b hb k hk => d1 b hb k (hv k hk), d2⟩, fun a ha b hb k hk e => ?_⟩
    rcases List.mem_cons.1 hb with rfl | hb
    · exact d3 a ha r.v (List.mem_cons_self ..) k hk (hv k e)
    · exact d3 a ha b (List.mem_cons_of_mem _ hb) k hk e
  · rw [hl]
    obtain ⟨x, hxm, rfl⟩ := List.mem_map.1 hx
    rcases List.mem_append.1 hxm with h1 | h1
    · exact h.off x.v (List.mem_map_of_mem (List.mem_append_left _ h1)) k hk
    · rcases List.mem_cons.1 h1 with rfl | h1
      · exact h.off r.v (by simp) k (hv k hk)
      · exact h.off x.v (List.mem_map_of_mem (List.mem_append_right _ (List.mem_cons_of_mem _ h1))) k hk
/-- the rows, the k-th of them parted off -/
theorem rows_at {rs : List Rw} {k : Nat} {xs : List Int} (h : (nums rs)[k]? = some xs) : ∃ pre r post, rs = pre ++ r :: post ∧ pre.length = k ∧ r.xs = xs := by
  simp only [nums, List.getElem?_map, Option.map_eq_some_iff] at h
  obtain ⟨r, hr, e⟩ := h
  have hk := (List.getElem?_eq_some_iff.1 hr).1
  refine ⟨rs.take k, r, rs.drop (k + 1), ?_, by simp; omega, e⟩
  have h1 : rs.drop k = r :: rs.drop (k + 1) := by
    rw [List.drop_eq_getElem_cons hk]
    congr 1
    exact Option.some.inj ((List.getElem?_eq_getElem hk).symm.trans hr)
  rw [← h1, List.take_append_drop]
/-- where a row of the call's own starts -/
theorem Own1.start {w : World} {base : Nat} {r : Rw} {x : Int} {t : List Int} (h : Own1 w base r) (hx : r.xs = x :: t) : ∃ g o, r.A = some ⟨g, o, none⟩ ∧ w.cell? ⟨g, o, none⟩ = some (.int .i64 x) := by
  rcases h with ⟨_, _, e⟩ | ⟨g, o, cur, hA, hb, hg, h1, h2, h3, h4⟩
  · rw [e] at hx
    cases hx
  · refine ⟨g, o, hA, ?_⟩
    rw [cell_of_row _ _ _ _ _ _ hg]
    have := h4 0 x (by rw [hx]; rfl)
    rwa [Nat.add_zero] at this
theorem Own1.tail2 {w : World} {base : Nat} {g o c : Nat} {x : Int} {xs : List Int} (h : Own1 w base ⟨some ⟨g, o, none⟩, c, x :: xs⟩) {o2 : Nat} (ho : o2 = if c = 1 then o else o + 1) : Own1 w base ⟨some ⟨g, o2, none⟩, c - 1, xs⟩ := by
  by_cases h1 : c = 1
  · rw [if_pos h1] at ho
    subst ho h1
    rcases h with ⟨h, _⟩ | ⟨g', o', cur, hA, hb, hg, k1, k2, k3, k4⟩
    · cases h
    · simp only [Option.some.injEq, Addr.mk.injEq, and_true] at hA
      obtain ⟨rfl, rfl⟩ := hA
      simp only [List.length_cons] at k1 k2 k3
      have : xs = [] := List.length_eq_zero_iff.1 (by omega)
      subst this
      exact .inr ⟨g, o2, cur, rfl, hb, hg, by simp, by simp, by simp only; omega, fun j y hy => by simp at hy⟩
  · rw [if_neg h1] at ho
    subst ho
    exact h.tail
set_option maxRecDepth 100000 in
set_option maxHeartbeats 4000000 in
theorem takeLowest_any (A : Option Addr) (n c p : Nat) (x : Int) (t : List Int) (rs : List Rw) (en : n = rs.length) (hn : n ≤ 1048576) (hs : ∀ r ∈ rs, r.xs.length ≤ 1048576) (hN : ∀ r ∈ rs, r.A = none → r.c = 0) (hp : (nums rs)[p]? = some (x :: t)) (w : World) (hg : SS w w.heap.size A rs) :
    Calls Tryd.prog 76 #[givenV A n c, .int .i64 p] w fun o w' => ∃ g rs', o = .returned (.tuple #[.slice (some ⟨g, 0, none⟩) n n, .int .i64 x]) ∧ rs'.length = n ∧ nums rs' = (nums rs).set p t ∧ OT w' w.heap.size (some ⟨g, 0, none⟩) n rs' ∧ Below w.heap.size w w' := by
  have HP := Lib.hid hp
  have hpn : p < n := by
    have := (List.getElem?_eq_some_iff.1 hp).1
    simp [nums] at this
    omega
  have En := Lib.hid en
  clear hp en
  go_enter Tryd.func76, Tryd.ntmps76
  go_wp2_with fail
  refine (owned_any A n c rs En.out hn hs hN _ hg).mono ?_
  rintro o u ⟨g, rs', rfl, hl, hm, hO, hb⟩
  have hp' := HP.out
  rw [← hm] at hp'
  obtain ⟨pre, r, post, rfl, hpre, hrx⟩ := rows_at hp'
  have hr : (pre ++ r :: post)[p]? = some r := by rw [List.getElem?_append_right (by omega), hpre, Nat.sub_self]; rfl
  obtain ⟨a, ea, hab, q0⟩ := hO.ss.head hr
  obtain rfl := Option.some.inj ea
  rw [add_lit] at q0
  have hr1 := hO.each r (List.mem_of_getElem? hr)
  obtain ⟨g1, o1, hA1, q1⟩ := hr1.start hrx
  obtain ⟨rA, rc, rxs⟩ := r
  simp only at hA1 hrx q0
  subst hA1 hrx
  have hcap : t.length + 1 ≤ rc := by
    rcases hr1 with ⟨h, _⟩ | ⟨_, _, _, _, _, _, h, _⟩
    · cases h
    · simpa using h
  have hput := fun (o2 : Nat) (ho : o2 = if rc = 1 then o1 else o1 + 1) => hO.put (r' := ⟨some ⟨g1, o2, none⟩, rc - 1, t⟩) (hr1.tail2 ho) (fun k hk => hk)
  have f0 := hO.outer.frozenAt p
  rw [hpre] at hput
  obtain ⟨m, hm2⟩ : ∃ m, t.length = m := ⟨_, rfl⟩
  rw [List.length_cons, hm2] at q0
  rw [hm2] at hcap
  have hnums : nums (pre ++ (⟨some ⟨g1, o1, none⟩, rc, x :: t⟩ : Rw) :: post) = nums rs := hm
  have hfin : ∀ o2 : Nat, (o2 = if rc = 1 then o1 else o1 + 1) → ∃ rs2 : List Rw, rs2.length = n ∧ nums rs2 = (nums rs).set p t ∧ OT (u.setCell ⟨g, p, none⟩ (.slice (some ⟨g1, o2, none⟩) m (rc - 1))) w.heap.size (some ⟨g, 0, none⟩) n rs2 ∧ Below w.heap.size w (u.setCell ⟨g, p, none⟩ (.slice (some ⟨g1, o2, none⟩) m (rc - 1))) := fun o2 ho => by
    have h2 := hput o2 ho
    simp only [Rw.v, hm2] at h2
    refine ⟨_, ?_, ?_, h2.1, ?_⟩
    · rw [← hl]
      simp
    · rw [← hnums, nums, nums, List.map_append, List.map_append, List.map_cons, List.map_cons, List.set_append_right _ _ (by simp [hpre])]
      simp [hpre]
    · exact hb.setCell (p := ⟨g, p, none⟩) (hO.outer.lt g rfl).1 _
  have FIN := Lib.hid hfin
  have HL := Lib.hid hl
  have HM := Lib.hid hm
  have HB := Lib.hid hb
  have HPRE := Lib.hid hpre
  clear hfin hnums hm2 hput hl hm hb hO hr hr1 hp' hab hpre ea
  go_wp2_with fail
  all_goals go_ret2
  · have h1 : rc = 1 := by assumption
    obtain ⟨rs2, k1, k2, k3, k4⟩ := FIN.out o1 (by rw [if_pos h1])
    rw [h1] at k3 k4
    exact ⟨g, rfl, rs2, k1, k2, k3, k4⟩
  · have h1 : ¬ rc = 1 := by assumption
    obtain ⟨rs2, k1, k2, k3, k4⟩ := FIN.out (o1 + 1) (by rw [if_neg h1])
    exact ⟨g, rfl, rs2, k1, k2, k3, k4⟩
end Go.Proofs.YtcbbabepjfiigaaDoor.rows

/-
  TakeSheet, the model's.
-/
namespace Go.Proofs.YtcbbabepjfiigaaDoor.rows
open Go Go.RowKit sl fold cup

theorem OT.nil0 (w : World) (base : Nat) : OT w base none 0 [] := ⟨World.ownsRow_nil w base 31 1, (fun r hr => by cases hr), List.Pairwise.nil, (fun v hv => by cases hv)⟩
theorem OT.empty (w : World) {base : Nat} (hb : base ≤ w.heap.size) : OT (w.alloc (.cells #[] 31)) base (some ⟨w.heap.size, 0, none⟩) 0 [] :=
  ⟨World.ownsRow_made w #[] 0 hb (Nat.zero_le _) rfl, (fun r hr => by cases hr), List.Pairwise.nil, (fun v hv => by cases hv)⟩
/-- what is there when the lowest number of a row is taken -/
theorem take_facts {u : World} {base : Nat} {A : Option Addr} {n c p : Nat} {x : Int} {t : List Int} {rs : List Rw} (hO : OT u base A c rs) (hl : rs.length = n) (hp : (nums rs)[p]? = some (x :: t)) :
    ∃ g g1 o1 rc m, A = some ⟨g, 0, none⟩ ∧ u.cell? ⟨g, p, none⟩ = some (.slice (some ⟨g1, o1, none⟩) (m + 1) rc) ∧ u.frozen? ⟨g, p, none⟩ = false ∧ u.cell? ⟨g1, o1, none⟩ = some (.int .i64 x) ∧ m + 1 ≤ rc ∧ base ≤ g ∧ g < u.heap.size ∧
      ∀ o2 : Nat, (o2 = if rc = 1 then o1 else o1 + 1) → ∃ rs2 : List Rw, rs2.length = n ∧ nums rs2 = (nums rs).set p t ∧ OT (u.setCell ⟨g, p, none⟩ (.slice (some ⟨g1, o2, none⟩) m (rc - 1))) base A c rs2 := by
  obtain ⟨pre, r, post, rfl, hpre, hrx⟩ := rows_at hp
  have hr : (pre ++ r :: post)[p]? = some r := by rw [List.getElem?_append_right (by omega), hpre, Nat.sub_self]; rfl
  obtain ⟨g, hg⟩ : ∃ g, A = some ⟨g, 0, Option.none⟩ := by
    rcases hO.outer.2 with ⟨h, h0⟩ | ⟨g, cap, cur, h, _⟩
    · simp at h0
    · simp only [Value.slice.injEq] at h
      exact ⟨g, h.1⟩
  subst hg
  obtain ⟨a, ea, hab, q0⟩ := hO.ss.head hr
  obtain rfl := Option.some.inj ea
  rw [add_lit] at q0
  have hr1 := hO.each r (List.mem_of_getElem? hr)
  obtain ⟨g1, o1, hA1, q1⟩ := hr1.start hrx
  obtain ⟨rA, rc, rxs⟩ := r
  simp only at hA1 hrx q0
  subst hA1 hrx
  have hcap : t.length + 1 ≤ rc := by
    rcases hr1 with ⟨h, _⟩ | ⟨_, _, _, _, _, _, h, _⟩
    · cases h
    · simpa using h
  have hput := fun (o2 : Nat) (ho : o2 = if rc = 1 then o1 else o1 + 1) => hO.put (r' := ⟨some ⟨g1, o2, Option.none⟩, rc - 1, t⟩) (hr1.tail2 ho) (fun k hk => hk)
  have f0 := hO.outer.frozenAt p
  have hb := hO.outer.lt g rfl
  rw [hpre] at hput
  rw [List.length_cons] at q0
  refine ⟨g, g1, o1, rc, t.length, rfl, q0, f0, q1, hcap, hb.1, hb.2, fun o2 ho => ⟨_, ?_, ?_, (hput o2 ho).1⟩⟩
  · rw [← hl]
    simp
  · rw [nums, nums, List.map_append, List.map_append, List.map_cons, List.map_cons, List.set_append_right _ _ (by simp [hpre])]
    simp [hpre]
/-- what TakeSheet returns -/
structure TR (xss : List (List Int)) (p : Int) (out : List (List Int)) (x : Int) (k : Nat) : Prop where
  bad : ¬ CupOk xss → out = [] ∧ x = 0 ∧ k = 1
  far : CupOk xss → ¬ (0 ≤ p ∧ p ≤ (xss.length : Int) - 1) → out = [] ∧ x = 0 ∧ k = 2
  bare : CupOk xss → ∀ m : Nat, p = m → xss[m]? = some [] → out = [] ∧ x = 0 ∧ k = 6
  ok : CupOk xss → ∀ (m : Nat) (y : Int) (t : List Int), p = m → xss[m]? = some (y :: t) → out = xss.set m t ∧ x = y ∧ k = 0
theorem range_row {xss : List (List Int)} {p : Int} (h : 0 ≤ p ∧ p ≤ (xss.length : Int) - 1) : ∃ m : Nat, p = m ∧ (xss[m]? = some [] ∨ ∃ y t, xss[m]? = some (y :: t)) := by
  refine ⟨p.toNat, by omega, ?_⟩
  have hl : p.toNat < xss.length := by omega
  rw [List.getElem?_eq_getElem hl]
  cases xss[p.toNat] with
  | nil => exact .inl rfl
  | cons y t => exact .inr ⟨y, t, rfl⟩
theorem TR.exists (xss : List (List Int)) (p : Int) : ∃ out x k, TR xss p out x k := by
  by_cases hc : CupOk xss
  · by_cases hr : 0 ≤ p ∧ p ≤ (xss.length : Int) - 1
    · obtain ⟨m, rfl, h | ⟨y, t, h⟩⟩ := range_row hr
      · refine ⟨[], 0, 6, ⟨fun h' => absurd hc h', fun _ h' => absurd hr h', fun _ _ _ _ => ⟨rfl, rfl, rfl⟩, fun _ m' y t e h' => ?_⟩⟩
        obtain rfl : m = m' := by omega
        rw [h] at h'
        simp at h'
      · refine ⟨xss.set m t, y, 0, ⟨fun h' => absurd hc h', fun _ h' => absurd hr h', fun _ m' e h' => ?_, fun _ m' y' t' e h' => ?_⟩⟩
        · obtain rfl : m = m' := by omega
          rw [h] at h'
          simp at h'
        · obtain rfl : m = m' := by omega
          rw [h] at h'
          simp only [Option.some.injEq, List.cons.injEq] at h'
          obtain ⟨rfl, rfl⟩ := h'
          exact ⟨rfl, rfl, rfl⟩
    · refine ⟨[], 0, 2, ⟨fun h' => absurd hc h', fun _ _ => ⟨rfl, rfl, rfl⟩, fun _ m e h' => ?_, fun _ m _ _ e h' => ?_⟩⟩
      · have := (List.getElem?_eq_some_iff.1 h').1
        omega
      · have := (List.getElem?_eq_some_iff.1 h').1
        omega
  · exact ⟨[], 0, 1, ⟨fun _ => ⟨rfl, rfl, rfl⟩, fun h' => absurd h' hc, fun h' => absurd h' hc, fun h' => absurd h' hc⟩⟩
abbrev takenV (A : Option Addr) (n c : Nat) (x : Int) (k : Nat) : Value := .tuple #[.slice A n c, .int .i64 x, .int .i64 k]
set_option maxRecDepth 100000 in
set_option maxHeartbeats 4000000 in
theorem TakeSheet_spec (A : Option Addr) (n c : Nat) (rs : List Rw) (p : Int) (en : n = rs.length) (hn : n ≤ 1048576) (hs : ∀ r ∈ rs, r.xs.length ≤ 1048576) (hN : ∀ r ∈ rs, r.A = none → r.c = 0) (w : World) (hg : SS w w.heap.size A rs) (out : List (List Int)) (x : Int) (k : Nat) (hr : TR (nums rs) p out x k) :
    Calls Tryd.prog 44 #[.slice A n c, .int .i64 p] w fun o w' => ∃ A' c' rs', o = .returned (takenV A' rs'.length c' x k) ∧ nums rs' = out ∧ OT w' w.heap.size A' c' rs' ∧ Below w.heap.size w w' := by
  have En := Lib.hid en
  have HR := Lib.hid hr
  have hlen : (nums rs).length = n := by simp [nums, en]
  clear en hr
  by_cases hc : CupOk (nums rs)
  · by_cases hrg : 0 ≤ p ∧ p ≤ (n : Int) - 1
    · obtain ⟨m, rfl, hrow⟩ := range_row (xss := nums rs) (by rw [hlen]; exact hrg)
      have hmn : m < n := by omega
      rcases hrow with hrow | ⟨y, t, hrow⟩
      · obtain ⟨rfl, rfl, rfl⟩ := HR.out.bare hc m rfl hrow
        have HC := Lib.hid hc
        obtain ⟨pre, r, post, hsp, hpre, hrx⟩ := rows_at hrow
        have hrk : rs[m]? = some r := by rw [hsp, List.getElem?_append_right (by omega), hpre, Nat.sub_self]; rfl
        have HRK := Lib.hid hrk
        have hrl : r.xs.length = 0 := by rw [hrx]; rfl
        clear hc HR hrow hsp hpre hrx hrk hlen
        go_enter Tryd.func44, Tryd.ntmps44
        go_wp2_with fail
        refine (l04Cupboard_any A n c rs En.out (by omega) _ hg true ⟨fun _ => HC.out, fun _ => rfl⟩).mono ?_
        rintro o u ⟨rfl, hb⟩
        have HB := Lib.hid hb
        clear hb
        go_wp2_with fail
        refine (l00In_b (m : Int) 0 ((n : Int) - 1) true ((inB_iff _ _ _).2 ⟨by omega, by omega⟩) _).mono ?_
        rintro o u ⟨rfl, rfl⟩
        obtain ⟨a, rfl, hab, q0⟩ := (hg.below HB.out).head HRK.out
        rw [hrl] at q0
        go_wp2_with fail
        go_ret3
        exact ⟨_, _, [], rfl, rfl, OT.empty _ HB.out.size, HB.out.alloc HB.out.size _⟩
      · obtain ⟨rfl, rfl, rfl⟩ := HR.out.ok hc m y t rfl hrow
        have HC := Lib.hid hc
        have HW := Lib.hid hrow
        obtain ⟨pre, r, post, hsp, hpre, hrx⟩ := rows_at hrow
        have hrk : rs[m]? = some r := by rw [hsp, List.getElem?_append_right (by omega), hpre, Nat.sub_self]; rfl
        have HRK := Lib.hid hrk
        have hrl : r.xs.length = t.length + 1 := by rw [hrx]; rfl
        have hne : ((r.xs.length : Int) == 0) = false := by rw [hrl]; simp; omega
        clear hc HR hrow hsp hpre hrx hrk hlen
        go_enter Tryd.func44, Tryd.ntmps44
        go_wp2_with fail
        refine (l04Cupboard_any A n c rs En.out (by omega) _ hg true ⟨fun _ => HC.out, fun _ => rfl⟩).mono ?_
        rintro o u ⟨rfl, hb⟩
        have HB := Lib.hid hb
        clear hb
        go_wp2_with fail
        refine (l00In_b (m : Int) 0 ((n : Int) - 1) true ((inB_iff _ _ _).2 ⟨by omega, by omega⟩) _).mono ?_
        rintro o u ⟨rfl, rfl⟩
        obtain ⟨a, rfl, hab, q0⟩ := (hg.below HB.out).head HRK.out
        go_wp2_with fail
        refine (l04Own_any (some a) n c rs En.out hn hs hN _ ((hg.below HB.out).more HB.out.size)).mono ?_
        rintro o u2 ⟨A2, c2, rs2, rfl, hl2, hm2, hO2, hb2⟩
        obtain ⟨g, g1, o1, rc, mm, rfl, s0, f0, s1, hcap, hgb, hgl, hfin⟩ := take_facts hO2 hl2 (by rw [hm2]; exact HW.out)
        have FIN := Lib.hid hfin
        have HM2 := Lib.hid hm2
        have B2 := Lib.hid (below_next HB.out hb2 (Nat.le_refl _))
        have HGB : Hid (w.heap.size ≤ g) := Lib.hid (Nat.le_trans HB.out.size hgb)
        clear hfin hm2 hb2 hO2 q0 hl2
        go_wp2_with fail
        all_goals go_ret3
        · have h1 : rc = 1 := by assumption
          obtain ⟨rs3, k1, k2, k3⟩ := FIN.out o1 (by rw [if_pos h1])
          rw [h1] at k3
          refine ⟨_, _, rs3, by rw [k1]; rfl, by rw [k2, HM2.out], k3.lower HB.out.size, B2.out.setCell (p := ⟨g, m, Option.none⟩) HGB.out _⟩
        · have h1 : ¬ rc = 1 := by assumption
          obtain ⟨rs3, k1, k2, k3⟩ := FIN.out (o1 + 1) (by rw [if_neg h1])
          refine ⟨_, _, rs3, by rw [k1]; rfl, by rw [k2, HM2.out], k3.lower HB.out.size, B2.out.setCell (p := ⟨g, m, Option.none⟩) HGB.out _⟩
    · obtain ⟨rfl, rfl, rfl⟩ := HR.out.far hc (by rw [hlen]; exact hrg)
      have HC := Lib.hid hc
      have HG := Lib.hid hrg
      clear hc HR hrg hlen
      go_enter Tryd.func44, Tryd.ntmps44
      go_wp2_with fail
      refine (l04Cupboard_any A n c rs En.out (by omega) _ hg true ⟨fun _ => HC.out, fun _ => rfl⟩).mono ?_
      rintro o u ⟨rfl, hb⟩
      have HB := Lib.hid hb
      clear hb
      go_wp2_with fail
      refine (l00In_b p 0 ((n : Int) - 1) false ((inB_no _ _ _).2 (by have := HG.out; omega)) _).mono ?_
      rintro o u ⟨rfl, rfl⟩
      go_wp2_with fail
      go_ret3
      exact ⟨_, _, [], rfl, rfl, OT.empty _ HB.out.size, HB.out.alloc HB.out.size _⟩
  · obtain ⟨rfl, rfl, rfl⟩ := HR.out.bad hc
    have HC := Lib.hid hc
    clear hc HR hlen
    go_enter Tryd.func44, Tryd.ntmps44
    go_wp2_with fail
    refine (l04Cupboard_any A n c rs En.out (by omega) _ hg false ⟨(fun h => by cases h), fun h => absurd h HC.out⟩).mono ?_
    rintro o u ⟨rfl, hb⟩
    have HB := Lib.hid hb
    clear hb
    go_wp2_with fail
    go_ret3
    exact ⟨_, _, [], rfl, rfl, OT.empty _ HB.out.size, HB.out.alloc HB.out.size _⟩
end Go.Proofs.YtcbbabepjfiigaaDoor.rows

/-
  TakeSheet, the program's.
-/
namespace Go.Proofs.YtcbbabepjfiigaaDoor.rows
open Go Go.RowKit sl fold cup errs

theorem first_zero {a b : Nat} (h : firstCode [a, b] = 0) : a = 0 ∧ b = 0 := by
  cases a with
  | zero =>
    cases b with
    | zero => exact ⟨rfl, rfl⟩
    | succ j => cases h
  | succ i => cases h
set_option maxRecDepth 100000 in
set_option maxHeartbeats 4000000 in
theorem TakeSheet_any (A : Option Addr) (n c : Nat) (rs : List Rw) (p : Int) (en : n = rs.length) (hn : n ≤ 1048576) (hs : ∀ r ∈ rs, r.xs.length ≤ 1048576) (hN : ∀ r ∈ rs, r.A = none → r.c = 0) {w : World} {B : Nat} {e : Nat → Addr} (h : Errs w B e) (hB : B ≤ w.heap.size) (hg : SS w w.heap.size A rs) (out : List (List Int)) (x : Int) (k : Nat) (hr : TR (nums rs) p out x k) :
    Calls Tryd.prog 45 #[.slice A n c, .int .i64 p] w fun o w' => ∃ A' c' rs', o = .returned (takenV A' rs'.length c' x k) ∧ nums rs' = out ∧ OT w' w.heap.size A' c' rs' ∧ Below w.heap.size w w' := by
  have En := Lib.hid en
  have HR := Lib.hid hr
  have HE := Lib.hid h
  have hlen : (nums rs).length = n := by simp [nums, en]
  have HLEN := Lib.hid hlen
  obtain ⟨k0, hk0⟩ : ∃ k0 : Nat, (CupOk (nums rs) → k0 = 0) ∧ (¬ CupOk (nums rs) → k0 = 1) := by
    by_cases hc : CupOk (nums rs)
    · exact ⟨0, fun _ => rfl, fun h => absurd hc h⟩
    · exact ⟨1, fun h => absurd h hc, fun _ => rfl⟩
  obtain ⟨k1, hk1⟩ : ∃ k1 : Nat, k1 = if 0 ≤ p ∧ p ≤ (n : Int) - 1 then 0 else 2 := ⟨_, rfl⟩
  obtain ⟨K, hK⟩ : ∃ K, firstCode [k0, k1] = K := ⟨_, rfl⟩
  have hk0le : k0 ≤ 1 := by
    by_cases hc : CupOk (nums rs)
    · have := hk0.1 hc; omega
    · have := hk0.2 hc; omega
  have H0 := Lib.hid hk0
  have H1 := Lib.hid hk1
  have HK := Lib.hid hK
  clear en hr h hlen hk0 hk1 hK
  go_enter Tryd.func45, Tryd.ntmps45
  go_wp2_with fail
  refine (checkCupboard_any A n c rs En.out (by omega) (E1.of HE.out) hB hg k0 H0.out).mono ?_
  rintro o u ⟨rfl, hb⟩
  have HB := Lib.hid hb
  clear hb
  go_wp2_with fail
  refine (checkWithin_any p 0 ((n : Int) - 1) (HE.out.below (HB.out.mono hB))).mono ?_
  rintro o u1 ⟨rfl, rfl⟩
  rw [← H1.out]
  have B2 := Lib.hid (HB.out.alloc HB.out.size (.cells #[errOf e k0, errOf e k1] 65))
  go_wp2_with (refine wpList_listed rfl 107 2 _ rfl #[(0, errOf e k0), (1, errOf e k1)] ?hp (buildSlice2 e k0 k1 _) ?_; case hp => simp [Act.eval])
  refine (firstOf_any e [k0, k1] _ 2 2 rfl (by decide) _ (cells_errs e [k0, k1] u 65 #[errOf e k0, errOf e k1] rfl)).mono ?_
  rintro o u ⟨rfl, rfl⟩
  rw [HK.out]
  obtain ⟨w3, hw3⟩ : ∃ w3, w3 = u.alloc (.cells #[errOf e k0, errOf e k1] 65) := ⟨_, rfl⟩
  rw [← hw3] at B2 ⊢
  clear hw3 HB
  cases K with
  | zero =>
    have e0 : errOf e 0 = .nilIface := rfl
    rw [e0]
    clear e0
    obtain ⟨h0, h1⟩ := first_zero HK.out
    have hc : CupOk (nums rs) := by
      by_cases hc : CupOk (nums rs)
      · exact hc
      · have := H0.out.2 hc; omega
    have hrg : 0 ≤ p ∧ p ≤ (n : Int) - 1 := by
      have h2 := H1.out
      rw [h1] at h2
      split at h2
      · assumption
      · cases h2
    have HC := Lib.hid hc
    obtain ⟨m, rfl, hrow⟩ := range_row (xss := nums rs) (by rw [HLEN.out]; exact hrg)
    have hmn : m < n := by omega
    clear hc h0 h1
    rcases hrow with hrow | ⟨y, t, hrow⟩
    · obtain ⟨rfl, rfl, rfl⟩ := HR.out.bare HC.out m rfl hrow
      obtain ⟨pre, r, post, hsp, hpre, hrx⟩ := rows_at hrow
      have hrk : rs[m]? = some r := by rw [hsp, List.getElem?_append_right (by omega), hpre, Nat.sub_self]; rfl
      obtain ⟨a, rfl, hab, q0⟩ := (hg.below B2.out).head hrk
      rw [hrx] at q0
      clear HR hrow hsp hpre hrx hrk
      go_wp2_with fail
      go_ret3
      exact ⟨_, _, [], rfl, rfl, OT.nil0 _ _, B2.out⟩
    · obtain ⟨rfl, rfl, rfl⟩ := HR.out.ok HC.out m y t rfl hrow
      have HW := Lib.hid hrow
      obtain ⟨pre, r, post, hsp, hpre, hrx⟩ := rows_at hrow
      have hrk : rs[m]? = some r := by rw [hsp, List.getElem?_append_right (by omega), hpre, Nat.sub_self]; rfl
      have hrl : r.xs.length = t.length + 1 := by rw [hrx]; rfl
      obtain ⟨a, rfl, hab, q0⟩ := (hg.below B2.out).head hrk
      rw [hrl] at q0
      have hne : (((t.length + 1 : Nat) : Int) == 0) = false := by simp; omega
      have hwr : IntKind.i64.wrap (m : Int) = m := IntWalk.i64_in _ (by omega)
      clear HR hrow hsp hpre hrx hrk hrl
      go_wp2_with fail
      refine (takeLowest_any (some a) n c m x t rs En.out hn hs hN HW.out _ ((hg.below B2.out).more B2.out.size)).mono ?_
      rintro o u2 ⟨g, rs2, rfl, hl2, hm2, hO2, hb2⟩
      have HO2 := Lib.hid hO2
      have HL2 := Lib.hid hl2
      have HM2 := Lib.hid hm2
      have HB2 := Lib.hid (below_next B2.out hb2 (Nat.le_refl _))
      clear hO2 hl2 hm2 hb2 q0
      go_wp2_with fail
      go_ret3
      exact ⟨_, _, rs2, by rw [HL2.out]; rfl, HM2.out, HO2.out.lower B2.out.size, HB2.out⟩
  | succ i =>
    have e0 : errOf e (i + 1) = errV (e i) := rfl
    rw [e0]
    clear e0
    have hres : out = [] ∧ x = 0 ∧ k = i + 1 ∧ i + 1 ≤ 2 := by
      by_cases hc : CupOk (nums rs)
      · have h0 := H0.out.1 hc
        have hK := HK.out
        rw [h0] at hK
        by_cases hrg : 0 ≤ p ∧ p ≤ (n : Int) - 1
        · rw [H1.out, if_pos hrg] at hK
          cases hK
        · rw [H1.out, if_neg hrg] at hK
          obtain ⟨rfl, rfl, rfl⟩ := HR.out.far hc (by rw [HLEN.out]; exact hrg)
          obtain rfl : 1 = i := by cases hK; rfl
          exact ⟨rfl, rfl, rfl, by omega⟩
      · have h0 := H0.out.2 hc
        have hK := HK.out
        rw [h0] at hK
        obtain ⟨rfl, rfl, rfl⟩ := HR.out.bad hc
        obtain rfl : 0 = i := by cases hK; rfl
        exact ⟨rfl, rfl, rfl, by omega⟩
    obtain ⟨rfl, rfl, rfl, hi⟩ := hres
    clear HR
    go_wp2_with fail
    refine (codeOf_any (HE.out.below (B2.out.mono hB)) (i + 1) (by omega)).mono ?_
    rintro o u ⟨rfl, rfl⟩
    go_wp2_with fail
    go_ret3
    exact ⟨_, _, [], rfl, rfl, OT.nil0 _ _, B2.out⟩
end Go.Proofs.YtcbbabepjfiigaaDoor.rows

/-
  What TakeSheet returns is no longer than what it is given; where rows lie.
-/
namespace Go.Proofs.YtcbbabepjfiigaaDoor.rows
open Go Go.RowKit sl fold cup

theorem OS.noneC {w : World} {base : Nat} {A : Option Addr} {c : Nat} {rs : List Rw} (h : OS w base A c rs) : ∀ r ∈ rs, r.A = none → r.c = 0 := fun r hr hA => by
  rcases (h.each r hr).2 with ⟨hv, _⟩ | ⟨g, cap, cur, hv, _⟩
  · simp only [Rw.v, Value.slice.injEq] at hv
    exact hv.2.2
  · simp only [Rw.v, Value.slice.injEq] at hv
    rw [hA] at hv
    cases hv.1
theorem tot_le {rs : List Rw} {n : Nat} (h : n + tot rs ≤ 1048576) : ∀ r ∈ rs, r.xs.length ≤ 1048576 := fun r hr => by
  have := tot_mem hr
  omega
theorem TR.small {rs : List Rw} {p : Int} {out : List (List Int)} {x : Int} {k : Nat} (h : TR (nums rs) p out x k) : ∀ rs2 : List Rw, nums rs2 = out → rs2.length ≤ rs.length ∧ tot rs2 ≤ tot rs := by
  intro rs2 h2
  have hnil : out = [] → rs2.length ≤ rs.length ∧ tot rs2 ≤ tot rs := fun e => by
    subst e
    have : rs2 = [] := List.map_eq_nil_iff.1 h2
    subst this
    exact ⟨Nat.zero_le _, Nat.zero_le _⟩
  by_cases hc : CupOk (nums rs)
  · by_cases hr : 0 ≤ p ∧ p ≤ ((nums rs).length : Int) - 1
    · obtain ⟨m, rfl, hrow | ⟨y, t, hrow⟩⟩ := range_row hr
      · exact hnil (h.bare hc m rfl hrow).1
      · obtain ⟨e, _, _⟩ := h.ok hc m y t rfl hrow
        obtain ⟨pre, r, post, rfl, hpre, hrx⟩ := rows_at hrow
        have hn : nums rs2 = nums (pre ++ (⟨r.A, r.c, t⟩ : Rw) :: post) := by
          rw [h2, e, nums, nums, List.map_append, List.map_append, List.map_cons, List.map_cons, List.set_append_right _ _ (by simp [hpre])]
          simp [hpre]
        have hl := congrArg List.length hn
        simp only [nums, List.length_map, List.length_append, List.length_cons] at hl
        refine ⟨by simp only [List.length_append, List.length_cons]; omega, ?_⟩
        rw [tot_nums hn, tot_append, tot_append, tot, tot, hrx, List.length_cons]
        simp only
        omega
    · exact hnil (h.far hc hr).1
  · exact hnil (h.bad hc).1
theorem OT.blocks {w : World} {base : Nat} {A : Option Addr} {c : Nat} {rs : List Rw} (h : OT w base A c rs) : ∀ k, Blocks A rs k → base ≤ k ∧ k < w.heap.size := by
  rintro k (⟨a, rfl, rfl⟩ | ⟨r, hr, hk⟩)
  · exact h.outer.lt _ rfl
  · exact (h.each r hr).at_lt k hk
theorem OT.apart {w w' : World} {base : Nat} {A : Option Addr} {c : Nat} {rs : List Rw} {S : Nat → Prop} (h : OT w base A c rs) (hb : But S w w') (hS : ∀ k, Blocks A rs k → ¬ S k) : OT w' base A c rs := by
  refine ⟨owns_but h.outer hb (fun g hg => hS g (.inl ?_)), fun r hr => (h.each r hr).but hb (fun g hg => hS g (.inr ⟨r, hr, hg⟩)), h.dist, h.off⟩
  cases A with
  | none => cases hg
  | some a => exact ⟨a, rfl, Option.some.inj hg⟩
end Go.Proofs.YtcbbabepjfiigaaDoor.rows
