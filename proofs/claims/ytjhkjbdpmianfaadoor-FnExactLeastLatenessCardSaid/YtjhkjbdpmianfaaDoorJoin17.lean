/-
  Several texts of this proof, joined.
-/
import Derived.Test.YtjhkjbdpmianfaaDoorJoin15
import Derived.Test.YtjhkjbdpmianfaaDoorRowAt
import Derived.Test.YtjhkjbdpmianfaaDoorStill
import Derived.Test.YtjhkjbdpmianfaaDoorResRow
import Derived.Deep.MidRow
import Derived.Lib.Hide
import Derived.IntWalk
import Derived.WalkKit
import Derived.WalkSpells
/-
  The program's start of an order in plain words: eight places, how many are used, level, minute and sum; its cells, and such a one in a block.
-/
namespace Go.Proofs.YtjhkjbdpmianfaaDoor.iron
open Go Go.RowKit sl row

abbrev Str := Nat → Int
def cellR (f : Str) (j : Nat) : Value := if j < 8 then .int .i8 (f j) else if j = 9 then .int .i8 (f j) else .int .i64 (f j)
def strCs (f : Str) : Array Value := (lst 12 (cellR f)).toArray
abbrev strV (f : Str) : Value := .agg (strCs f)
theorem cellR_low (f : Str) {j : Nat} (h : j < 8) : cellR f j = .int .i8 (f j) := by unfold cellR; rw [if_pos h]
theorem cellR_8 (f : Str) : cellR f 8 = .int .i64 (f 8) := rfl
theorem cellR_9 (f : Str) : cellR f 9 = .int .i8 (f 9) := rfl
theorem cellR_10 (f : Str) : cellR f 10 = .int .i64 (f 10) := rfl
theorem cellR_11 (f : Str) : cellR f 11 = .int .i64 (f 11) := rfl
theorem cellR_one (f : Str) (j : Nat) : (cellR f j).oneCell' = true := by unfold cellR; split; rfl; split <;> rfl
theorem cellR_congr {f g : Str} {j : Nat} (h : f j = g j) : cellR f j = cellR g j := by unfold cellR; rw [h]
theorem strCs_size (f : Str) : (strCs f).size = 12 := by simp [strCs, lst_len]
theorem strCs_one (f : Str) : (strCs f).all (·.oneCell') = true := lst_one fun j _ => cellR_one f j
theorem strV_congr {f g : Str} (h : ∀ j, j < 12 → f j = g j) : strV f = strV g := by
  unfold strV strCs
  rw [lst_congr (d := cellR g) fun j hj => cellR_congr (h j hj)]
abbrev zeroR : Str := fun _ => 0
theorem infoR : (Tryd.prog.info? 61).map (·.size) = some 12 := by kernel_rfl
theorem zeroRi : (Tryd.prog.info? 61).map (fun i => (i.zero, i.size)) = some (some (.agg (strCs zeroR)), 12) := by kernel_rfl

abbrev StrAt (u : World) (b p : Nat) (f : Str) : Prop := RowAt u b p 12 (cellR f)
abbrev StrOwn (u : World) (b p : Nat) (f : Str) : Prop := RowOwn u b p 12 (cellR f)
section
variable {ops : Array Oper} {rest : List Oper} {op : Oper} {a : Act} {u : World} {Q : Exit → Act → World → Prop}
/-- a start, read and written, as a walk meets it -/
theorem wpl_load_str (hgd : op.guard = none) (x : Operand) (ho : op.op = .load 61 x) (b p : Nat) (hx : a.eval x = .pointer (some ⟨b, p, none⟩))
    {f : Str} (h : StrAt u b p f) (hK : wpList Tryd.prog ops Q rest (a.put op.dst (strV f)) u) : wpList Tryd.prog ops Q (op :: rest) a u :=
  wpList_load_mid hgd 61 x ho b p hx (lst 12 (cellR f)) _ h.range Tryd.underlying61 rfl (by rw [infoR, lst_len]) hK
theorem wpl_store_str (hgd : op.guard = none) (x y : Operand) (ho : op.op = .store 61 x y) (b p : Nat) (hx : a.eval x = .pointer (some ⟨b, p, none⟩))
    {f g : Str} (hy : a.eval y = strV f) (ht : StrOwn u b p g) (hK : wpList Tryd.prog ops Q rest (a.put op.dst undef) (u.setCells b p (lst 12 (cellR f)))) : wpList Tryd.prog ops Q (op :: rest) a u :=
  wpList_store_mid hgd 61 x y ho b p (strCs f) hx hy (by rw [strCs_size]; exact ht.there) (by rw [infoR, strCs_size]) (strCs_one f) hK
end
theorem StrOwn.new (w : World) (f : Str) (T : TypeId) : StrOwn (w.alloc (.cells (strCs f) T)) w.heap.size 0 f := RowOwn.new w 12 (cellR f) T
theorem StrOwn.stored {u : World} {b p : Nat} {g : Str} (h : StrOwn u b p g) (f : Str) : StrOwn (u.setCells b p (lst 12 (cellR f))) b p f :=
  (RowOwn.sets (o := 0) (m := 12) h (by omega) (cellR f)).to fun j hj => by rw [if_pos (by omega), Nat.sub_zero]

/-- an order's start: its pieces, and what has come of them -/
def strOf (os : List Int) (s : Sta) : Str := fun j => if j < 8 then (match os[j]? with | some i => i + 1 | none => 0) else if j = 8 then (os.length : Int) else if j = 9 then s.lev else if j = 10 then s.at_ else s.sum
theorem strOf_8 (os : List Int) (s : Sta) : strOf os s 8 = (os.length : Int) := rfl
theorem strOf_9 (os : List Int) (s : Sta) : strOf os s 9 = s.lev := rfl
theorem strOf_10 (os : List Int) (s : Sta) : strOf os s 10 = s.at_ := rfl
theorem strOf_11 (os : List Int) (s : Sta) : strOf os s 11 = s.sum := rfl
theorem strOf_low (os : List Int) (s : Sta) {j : Nat} (h : j < 8) {i : Int} (hi : os[j]? = some i) : strOf os s j = i + 1 := by unfold strOf; rw [if_pos h, hi]
theorem strOf_none (os : List Int) (s : Sta) {j : Nat} (h : j < 8) (hi : os.length ≤ j) : strOf os s j = 0 := by unfold strOf; rw [if_pos h, List.getElem?_eq_none hi]
theorem strOf_zero : strOf [] sta0 = zeroR := by
  funext j
  unfold strOf sta0
  split
  · simp
  · split
    · rfl
    · split
      · rfl
      · split <;> rfl
/-- the five stores that add a piece -/
theorem strOf_snoc (os : List Int) (h8 : os.length < 8) (s t : Sta) (i : Int) : ∀ j, j < 12 →
    (if j = 8 then (.int .i64 (((os.length : Nat) : Int) + 1)) else if j = os.length then .int .i8 (i + 1) else if j = 9 then .int .i8 t.lev else if j = 11 then .int .i64 t.sum else if j = 10 then .int .i64 t.at_ else cellR (strOf os s) j) = cellR (strOf (os ++ [i]) t) j := by
  intro j hj
  by_cases e8 : j = 8
  · subst e8
    rw [if_pos rfl, cellR_8, strOf_8]
    simp
  · rw [if_neg e8]
    by_cases el : j = os.length
    · subst el
      rw [if_pos rfl, cellR_low _ h8, strOf_low _ _ h8 (by simp : (os ++ [i])[os.length]? = some i)]
    · rw [if_neg el]
      by_cases e9 : j = 9
      · subst e9; rfl
      · rw [if_neg e9]
        by_cases e11 : j = 11
        · subst e11; rfl
        · rw [if_neg e11]
          by_cases e10 : j = 10
          · subst e10; rfl
          · rw [if_neg e10]
            have hj8 : j < 8 := by omega
            refine cellR_congr ?_
            unfold strOf
            rw [if_pos hj8, if_pos hj8]
            rcases Nat.lt_or_ge j os.length with h | h
            · rw [List.getElem?_append_left h]
            · rw [List.getElem?_eq_none h, List.getElem?_eq_none (by simp; omega)]
end Go.Proofs.YtjhkjbdpmianfaaDoor.iron

/-
  Which pieces a start has, and its list of indices: the program's.
-/
namespace Go.Proofs.YtjhkjbdpmianfaaDoor.iron
open Go Go.RowKit sl stk row

set_option maxHeartbeats 2000000 in
theorem index8_any (D n c : Nat) (g : Nat → Int) (v : Int) (hn : n ≤ 1000) (w : World) (hc : ∀ j, j < n → w.cell? ⟨D, j, none⟩ = some (.int .i8 (g j))) (b : Bool) (hb : b = true ↔ ∃ j, j < n ∧ g j = v) :
    Calls Tryd.prog 77 #[.slice (some ⟨D, 0, none⟩) n c, .int .i8 v] w fun o w' => (∃ z : Int, o = .returned (.int .i64 z) ∧ decide (0 ≤ z) = b) ∧ w = w' := by
  have HC := Lib.hid hc
  have HB := Lib.hid hb
  clear hc hb
  go_enter Tryd.func77, Tryd.ntmps77
  go_wp2_with fail
  go_loop [8, 5] (fun vi _ => ∃ k : Nat, k ≤ n ∧ vi = .int .i64 k ∧ ∀ j, j < k → g j ≠ v) (fun vi _ => n - (intOf vi).toNat)
  case atStart => exact ⟨0, by omega, rfl, fun j hj => absurd hj (by omega)⟩
  case round =>
    obtain ⟨k, hk, rfl, hno⟩ := hrel
    have HN := Lib.hid hno
    clear hno
    by_cases hlt : k < n
    · have q0 := HC.out k hlt
      by_cases he : v = g k
      · have HE := Lib.hid he
        have d1 : (v == g k) = true := by rw [beq_iff_eq]; exact he
        clear he
        go_wp2_with fail
        go_ret
        refine ⟨⟨_, rfl, ?_⟩, rfl⟩
        have : b = true := HB.out.2 ⟨k, hlt, HE.out.symm⟩
        rw [this]
        exact decide_eq_true (by omega)
      · have HE := Lib.hid he
        have d1 : (v == g k) = false := by rw [beq_eq_false_iff_ne]; exact he
        clear he
        go_wp2_with fail
        go_round
        case rel => exact ⟨k + 1, by omega, by go_num, fun j hj => by
          rcases Nat.lt_or_ge j k with h1 | h1
          · exact HN.out j h1
          · obtain rfl : j = k := by omega
            exact fun e => HE.out e.symm⟩
        case measure => simp [intOf]; omega
    · go_wp2_with fail
      go_ret
      refine ⟨⟨_, rfl, ?_⟩, rfl⟩
      cases hbb : b with
      | false => exact decide_eq_false (by omega)
      | true =>
        obtain ⟨j, h1, h2⟩ := HB.out.1 hbb
        exact absurd h2 (HN.out j (by omega))
set_option maxHeartbeats 1000000 in
theorem contains8_any (D n c : Nat) (g : Nat → Int) (v : Int) (hn : n ≤ 1000) (w : World) (hc : ∀ j, j < n → w.cell? ⟨D, j, none⟩ = some (.int .i8 (g j))) (b : Bool) (hb : b = true ↔ ∃ j, j < n ∧ g j = v) :
    Calls Tryd.prog 64 #[.slice (some ⟨D, 0, none⟩) n c, .int .i8 v] w fun o w' => o = .returned (.bool b) ∧ w = w' := by
  have HI := Lib.hid (index8_any D n c g v hn w hc b hb)
  clear hc hb
  go_enter Tryd.func64, Tryd.ntmps64
  go_wp2_with fail
  refine HI.out.mono ?_
  rintro o w1 ⟨⟨z, rfl, hz⟩, rfl⟩
  have HZ := Lib.hid hz
  clear hz
  go_wp2_with fail
  go_ret
  exact ⟨ret_bool HZ.out, rfl⟩
set_option maxRecDepth 100000 in
set_option maxHeartbeats 2000000 in
theorem has_any (os : List Int) (h8 : os.length ≤ 8) (s : Sta) (i : Nat) (hi : i < 8) (b : Bool) (hb : b = true ↔ (i : Int) ∈ os) (w : World) :
    Calls Tryd.prog 59 #[strV (strOf os s), .int .i64 i] w fun o w' => o = .returned (.bool b) ∧ Below w.heap.size w w' := by
  obtain ⟨u, hu⟩ : ∃ u, u = w.alloc (.cells (strCs (strOf os s)) 61) := ⟨_, rfl⟩
  have hS : StrOwn u w.heap.size 0 (strOf os s) := by rw [hu]; exact StrOwn.new w (strOf os s) 61
  obtain ⟨m, hm⟩ : ∃ m, m = os.length := ⟨_, rfl⟩
  have c8 : u.cell? ⟨w.heap.size, 8, none⟩ = some (.int .i64 (m : Int)) := by have := hS.cell 8 (by decide); rw [Nat.zero_add, cellR_8, strOf_8, ← hm] at this; exact this
  have HC : Hid (∀ j, j < m → u.cell? ⟨w.heap.size, j, none⟩ = some (.int .i8 (strOf os s j))) := Lib.hid (fun j hj => by have := hS.cell j (by omega); rw [Nat.zero_add, cellR_low _ (by omega)] at this; exact this)
  have HB : Hid (b = true ↔ ∃ j, j < m ∧ strOf os s j = (i : Int) + 1) := Lib.hid (hb.trans ⟨fun h => by
      obtain ⟨j, hj⟩ := List.mem_iff_getElem?.1 h
      have hl := (List.getElem?_eq_some_iff.1 hj).1
      exact ⟨j, by omega, strOf_low os s (by omega) hj⟩, fun ⟨j, h1, h2⟩ => by
      have hj : os[j]? = some os[j] := List.getElem?_eq_getElem (by omega)
      rw [strOf_low os s (by omega) hj] at h2
      have : os[j] = (i : Int) := by omega
      rw [← this]
      exact List.getElem_mem _⟩)
  have hm8 : m ≤ 8 := by omega
  have hm9 : (m : Int) ≤ 8 := by omega
  have HU := Lib.hid hu
  have HBL : Hid (Below w.heap.size w u) := Lib.hid (by rw [hu]; exact (Below.refl _ _).alloc (Nat.le_refl _) _)
  clear hu hS hm hb h8
  go_enter Tryd.func59, Tryd.ntmps59
  go_wp2_with (first | (rw [← HU.out]) | fail)
  refine (contains8_any w.heap.size m 8 (strOf os s) ((i : Int) + 1) (by omega) u HC.out b HB.out).mono ?_
  rintro o w1 ⟨rfl, rfl⟩
  go_wp2_with fail
  go_ret
  exact ⟨rfl, HBL.out⟩
set_option maxRecDepth 100000 in
set_option maxHeartbeats 4000000 in
theorem indices_any (os : List Int) (h8 : os.length ≤ 8) (ho : ∀ i ∈ os, 0 ≤ i ∧ i < 8) (s : Sta) (w : World) :
    Calls Tryd.prog 35 #[strV (strOf os s)] w fun o w' => ∃ v, o = .returned v ∧ w'.ownsRow w.heap.size 2 1 v os.length (os.flatMap intS.C) ∧ Below w.heap.size w w' := by
  obtain ⟨u, hu⟩ : ∃ u, u = w.alloc (.cells (strCs (strOf os s)) 61) := ⟨_, rfl⟩
  have hS : StrOwn u w.heap.size 0 (strOf os s) := by rw [hu]; exact StrOwn.new w (strOf os s) 61
  have hus : u.heap.size = w.heap.size + 1 := by rw [hu]; simp
  obtain ⟨m, hm⟩ : ∃ m, m = os.length := ⟨_, rfl⟩
  rw [← hm]
  have hm8 : m ≤ 8 := by omega
  have c8 : u.cell? ⟨w.heap.size, 8, none⟩ = some (.int .i64 (m : Int)) := by have := hS.cell 8 (by decide); rw [Nat.zero_add, cellR_8, strOf_8, ← hm] at this; exact this
  obtain ⟨i0, hI, hz0, hz1, hz2⟩ := info_parts intS.info
  have hmk : ∀ u : World, (Instr.makeSlice 27 (.int .i64 (m : Int)) (.int .i64 (m : Int))).run Tryd.prog u =
      .ok (.slice (some ⟨u.heap.size, 0, none⟩) m m) (u.alloc (.cells (madeCells #[.int .i64 0] m) 2)) := fun u => by
    have h := run_make (P := Tryd.prog) u 27 2 i0 _ Tryd.underlying27 hI hz0 .i64 .i64 (m : Int) (m : Int) (by omega) (Int.le_refl _) (by rw [hz2]; omega) (by omega)
    have e : ((m : Int)).toNat = m := by omega
    rw [e] at h
    simpa [hz1, Value.cells] using h
  obtain ⟨D, hD⟩ : ∃ D, D = u.heap.size := ⟨_, rfl⟩
  obtain ⟨w2, hw2⟩ : ∃ v, v = u.alloc (.cells (madeCells #[.int .i64 0] m) 2) := ⟨_, rfl⟩
  have hT0 : w2.ownsRow w.heap.size 2 1 (.slice (some ⟨D, 0, none⟩) m m) m (madeCells #[.int .i64 0] m).toList := by
    rw [hw2, hD]
    exact World.ownsRow_lit u (madeCells #[.int .i64 0] m) m (by omega) (by unfold maxLen; omega) (by rw [size_madeCells, Nat.mul_one])
  have HS := Lib.hid hS
  have HT0 := Lib.hid hT0
  have HBB : Hid (Below D u w2) := Lib.hid (by rw [hw2]; exact (Below.refl _ _).alloc (by rw [hD]; exact Nat.le_refl _) _)
  have HBU : Hid (Below w.heap.size w u) := Lib.hid (by rw [hu]; exact (Below.refl _ _).alloc (Nat.le_refl _) _)
  have hDw : w.heap.size < D := by omega
  have HU := Lib.hid hu
  have HW := Lib.hid hw2
  have HDD := Lib.hid hD.symm
  have HM := Lib.hid hm
  have HO := Lib.hid ho
  clear hu hS hm h8 ho hI hz0 hz1 hz2 hw2 hT0 hD hus
  go_enter Tryd.func35, Tryd.ntmps35
  go_wp2_with (first | (rw [← HU.out]) | (rw [← HW.out, HDD.out]) | fail)
  clear hmk
  go_loopw [10, 4] (fun vi _ wr => ∃ (k : Nat) (L : List Value), k ≤ m ∧ vi = .int .i64 (k : Nat) ∧ wr.ownsRow w.heap.size 2 1 (.slice (some ⟨D, 0, none⟩) m m) m L ∧ Done intS.C 1 os k L ∧ Below D u wr) (fun vi _ _ => m - (intOf vi).toNat)
  case atStart => exact ⟨0, _, by omega, rfl, HT0.out, Done.zero _ _ _ _, HBB.out⟩
  case round =>
    clear HT0 HBB HW HU c8
    obtain ⟨k, L, hk, rfl, hP, hD, hB1⟩ := hrel
    have HPk := Lib.hid hP
    have HDk := Lib.hid hD
    have HBk := Lib.hid hB1
    clear hP hD hB1
    by_cases hlt : k < m
    · obtain ⟨i, hi⟩ : ∃ i, os[k]? = some i := ⟨os[k]'(by have := HM.out; omega), List.getElem?_eq_getElem _⟩
      have hib := HO.out i (List.mem_of_getElem? hi)
      have q0 : wr.cell? ⟨w.heap.size, k, none⟩ = some (.int .i8 (i + 1)) := by
        have := HS.out.cell k (by omega)
        rw [Nat.zero_add, cellR_low _ (by omega), strOf_low os s (by omega) hi] at this
        exact (HBk.out.cell (p := ⟨w.heap.size, k, none⟩) hDw).trans this
      have hLL := HPk.out.1
      obtain ⟨v0, s0⟩ : ∃ v, wr.cell? ⟨D, k, none⟩ = some v := ⟨L[k]'(by omega), (HPk.out.cellAt k (by omega)).trans (List.getElem?_eq_getElem _)⟩
      have f0 := HPk.out.frozenAt k
      have HLL := Lib.hid hLL
      have HTE := Lib.hid hi
      obtain ⟨hib0, hib1⟩ := hib
      have hk8 : (k : Int) < 8 := by omega
      have hk8n : k < 8 := by omega
      clear hLL hi
      go_wp2_with fail
      go_roundw
      case rel =>
        have hP3 := (HPk.out.stored k (.int .i64 i)).1
        refine ⟨k + 1, _, by omega, by go_num, by first | exact hP3 | (have e : i + 1 - 1 = i := by omega
                                                                       rw [e]; exact hP3), ?_, HBk.out.setCell (p := ⟨D, k, none⟩) (Nat.le_refl _) _⟩
        have hd := HDk.out.step (intS.len _) HTE.out (by rw [HLL.out, HM.out])
        rw [Nat.mul_one] at hd
        exact hd
      case measure => simp [intOf]; omega
    · obtain rfl : k = m := by omega
      have e1 : Hid (L = os.flatMap intS.C) := Lib.hid (Done.full (by rw [← HM.out]; exact HDk.out) (intS.len _) (by omega) (by rw [HPk.out.1, HM.out]))
      go_wp2_with fail
      go_ret
      refine ⟨_, rfl, ?_, HBU.out.trans (HBk.out.mono (Nat.le_of_lt hDw))⟩
      rw [← e1.out]
      exact HPk.out
end Go.Proofs.YtjhkjbdpmianfaaDoor.iron
