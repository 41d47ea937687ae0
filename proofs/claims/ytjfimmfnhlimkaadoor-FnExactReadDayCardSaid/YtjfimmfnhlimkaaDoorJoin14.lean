/-
  Several texts of this proof, joined.
-/
import Derived.Test.YtjfimmfnhlimkaaDoorJoin13
import Derived.Deep.WholeRow
import Derived.Laws.OwnMore
/-
  A day is copied: the law's toDay. Days that a call fills hour by hour.
-/
namespace Go.Proofs.YtjfimmfnhlimkaaDoor.day
open Go Go.RowKit sl

theorem infoD : (Tryd.prog.info? 40).map (·.size) = some 72 := by kernel_rfl
/-- the cells of a day that has not been told -/
def zeroCs : Array Value := Array.replicate 72 (.int .i8 0)
theorem zeroD : (Tryd.prog.info? 40).map (fun i => (i.zero, i.size)) = some (some (.agg zeroCs), 72) := by kernel_rfl
theorem zeroCs_size : zeroCs.size = 72 := by simp [zeroCs]

/-- a day of the call's own, in its own block -/
abbrev OwnD (u : World) (B b : Nat) (L : List Value) : Prop := u.ownsRow B 40 3 (.slice (some ⟨b, 0, none⟩) 24 24) 24 L
theorem OwnD.range {u : World} {B b : Nat} {L : List Value} (h : OwnD u B b L) : u.rangeAt b 0 L := fun j v hv => by
  have h1 := h.1
  have h2 := (List.getElem?_eq_some_iff.1 hv).1
  rw [Nat.zero_add, h.cellAt j (by omega)]
  exact hv
theorem OwnD.there {u : World} {B b : Nat} {L : List Value} (h : OwnD u B b L) : u.there b 0 72 := fun j hj => by
  have h1 := h.1
  rw [Nat.zero_add]
  refine ⟨?_, h.frozenAt j⟩
  rw [h.cellAt j (by omega), List.getElem?_eq_getElem (by omega)]
  rfl
theorem OwnD.new (cs : Array Value) (hs : cs.size = 72) {B : Nat} (w : World) (hB : B ≤ w.heap.size) : OwnD (w.alloc (.cells cs 40)) B w.heap.size cs.toList :=
  World.ownsRow_lit w cs 24 hB (by decide) (by rw [hs])
theorem OwnD.of (u : World) {B b : Nat} {d : List Wea} (h : OwnD u B b (d.flatMap Wea.cells)) : DayAt u b d :=
  ⟨(h.lt b rfl).2, h.range⟩
theorem day_one (d : List Wea) : (dayCs d).all (·.oneCell') = true := all_oneCell_toArray fun v hv => by
  simp only [List.mem_flatMap] at hv
  obtain ⟨x, _, hx⟩ := hv
  simp only [Wea.cells, List.mem_cons, List.not_mem_nil, or_false] at hx
  rcases hx with rfl | rfl | rfl <;> rfl

/-- a day is read out of its block -/
theorem load_day {u : World} {b : Nat} {d : List Wea} (hd : d.length = 24) (h : DayAt u b d) : (Instr.loadAt 40 (.pointer (some ⟨b, 0, none⟩))).run Tryd.prog u = .ok (dayV d) u :=
  run_loadAt_mid u b 0 40 (d.flatMap Wea.cells) _ h.row Tryd.underlying40 rfl (by rw [infoD, flat_len (Wea.len d), hd])
theorem loadVar_day {u : World} {b : Nat} {d : List Wea} (hd : d.length = 24) (h : DayAt u b d) : (loadVar 40 ⟨b, 0, none⟩).run Tryd.prog u = .ok (dayV d) u :=
  run_loadVar_mid u b 0 40 (d.flatMap Wea.cells) _ h.row Tryd.underlying40 rfl (by rw [infoD, flat_len (Wea.len d), hd])
theorem store_day {u : World} {b : Nat} {d : List Wea} (hd : d.length = 24) (ht : u.there b 0 72) : (Instr.storeAt 40 (.pointer (some ⟨b, 0, none⟩)) (dayV d)).run Tryd.prog u = .ok () (u.setCells b 0 (d.flatMap Wea.cells)) :=
  run_storeAt_mid u b 0 40 (dayCs d) (by rw [dayCs_size hd]; exact ht) (by rw [infoD, dayCs_size hd]) (day_one d)
theorem stored_day {u : World} {b : Nat} {d : List Wea} (hd : d.length = 24) (hb : b < u.heap.size) (ht : u.there b 0 72) : DayAt (u.setCells b 0 (d.flatMap Wea.cells)) b d :=
  ⟨Nat.lt_of_lt_of_le hb (below_cells (Below.refl 0 u) (Nat.zero_le _) _ _).size, World.rangeAt_setCells_same u b 0 _ (by rw [flat_len (Wea.len d), hd]; exact ht)⟩
/-- the operations, as a walk meets them -/
theorem wpl_load_day {ops : Array Oper} {rest : List Oper} {op : Oper} {a : Act} {u : World} {Q : Exit → Act → World → Prop} (hgd : op.guard = none) (x : Operand) (ho : op.op = .load 40 x) (b : Nat) (hx : a.eval x = .pointer (some ⟨b, 0, none⟩))
    {d : List Wea} (hd : d.length = 24) (h : DayAt u b d) (hK : wpList Tryd.prog ops Q rest (a.put op.dst (dayV d)) u) : wpList Tryd.prog ops Q (op :: rest) a u :=
  wpList_load_mid hgd 40 x ho b 0 hx (d.flatMap Wea.cells) _ h.row Tryd.underlying40 rfl (by rw [infoD, flat_len (Wea.len d), hd]) hK
theorem wpl_store_day {ops : Array Oper} {rest : List Oper} {op : Oper} {a : Act} {u : World} {Q : Exit → Act → World → Prop} (hgd : op.guard = none) (x y : Operand) (ho : op.op = .store 40 x y) (b : Nat) (hx : a.eval x = .pointer (some ⟨b, 0, none⟩))
    {d : List Wea} (hd : d.length = 24) (hy : a.eval y = dayV d) (ht : u.there b 0 72) (hK : wpList Tryd.prog ops Q rest (a.put op.dst undef) (u.setCells b 0 (d.flatMap Wea.cells))) : wpList Tryd.prog ops Q (op :: rest) a u :=
  wpList_store_mid hgd 40 x y ho b 0 (dayCs d) hx hy (by rw [dayCs_size hd]; exact ht) (by rw [infoD, dayCs_size hd]) (day_one d) hK
/-- a function's result that is a day -/
theorem results_day {fn : Func} {s : Nat} (hf : fn.results = #[.cell s 40]) {tmps : Array Value} {u : World} {b : Nat} {d : List Wea} (hd : d.length = 24) (hs : tmps.getD s undef = .pointer (some ⟨b, 0, none⟩)) (h : DayAt u b d) :
    (results fn tmps).run Tryd.prog u = .ok (dayV d) u := by
  have hr := loadVar_day hd h
  have hs' : tmps[s]?.getD undef = .pointer (some ⟨b, 0, none⟩) := by rw [← hs]; simp
  generalize hdv : dayV d = dv at hr
  simp [results, hf, hs', hr, asAddr]

set_option maxRecDepth 100000 in
set_option maxHeartbeats 4000000 in
theorem toDay_any (d : List Wea) (hd : d.length = 24) (w : World) :
    Calls Tryd.prog 24 #[dayV d] w fun e w' => e = .returned (dayV d) ∧ Below w.heap.size w w' := by
  have HD := Lib.hid hd
  clear hd
  have hzz : ∀ u : World, (zeroValue 40).run Tryd.prog u = .ok (.agg zeroCs) u := (zero_of_info zeroD).1
  have A0 := Lib.hid (DayAt.new d 36 w)
  go_enter Tryd.func24, Tryd.ntmps24
  go_wp2_with fail
  obtain ⟨u, hu⟩ : ∃ u, u = ((w.alloc (.cells (dayCs d) 36)).alloc (.cells zeroCs 40)).alloc (.cells zeroCs 40) := ⟨_, rfl⟩
  have R0 : OwnD u w.heap.size (w.heap.size + 1) zeroCs.toList := by
    rw [hu]
    have h := OwnD.new zeroCs zeroCs_size (B := w.heap.size) (w.alloc (.cells (dayCs d) 36)) (by simp)
    rw [World.size_alloc] at h
    exact owns_next h ((Below.refl _ _).alloc (by simp) _)
  have O0 : OwnD u w.heap.size (w.heap.size + 1 + 1) zeroCs.toList := by
    rw [hu]
    have h := OwnD.new zeroCs zeroCs_size (B := w.heap.size) ((w.alloc (.cells (dayCs d) 36)).alloc (.cells zeroCs 40)) (by simp; omega)
    rw [World.size_alloc, World.size_alloc] at h
    exact h
  have A1 : DayAt u w.heap.size d := by
    rw [hu]
    exact (A0.out.next ((Below.refl _ _).alloc (Nat.le_refl _) _)).next ((Below.refl _ _).alloc (Nat.le_refl _) _)
  have B0 : Below w.heap.size w u := by
    rw [hu]
    exact (((Below.refl _ _).alloc (Nat.le_refl _) _).alloc (by simp) _).alloc (by simp; omega) _
  rw [← hu]
  have HR0 := Lib.hid R0
  have HO0 := Lib.hid O0
  have HA1 := Lib.hid A1
  have HB0 := Lib.hid B0
  clear hu R0 O0 A1 B0 A0 hzz
  go_loopw [4] (fun vi wr => ∃ k L, k ≤ 24 ∧ vi = .int .i64 (k : Nat) ∧ OwnD wr w.heap.size (w.heap.size + 1) zeroCs.toList ∧ OwnD wr w.heap.size (w.heap.size + 1 + 1) L ∧ Done Wea.cells 3 d k L ∧ DayAt wr w.heap.size d ∧ Below w.heap.size w wr) (fun vi _ => 24 - (intOf vi).toNat)
  case atStart => exact ⟨0, _, by omega, rfl, HR0.out, HO0.out, Done.zero _ _ _ _, HA1.out, HB0.out⟩
  case round =>
    clear HR0 HO0 HA1 HB0
    obtain ⟨k, L, hk, rfl, hR, hO, hDn, hA, hB⟩ := hrel
    have HR := Lib.hid hR
    have HO := Lib.hid hO
    have HDn := Lib.hid hDn
    have HA := Lib.hid hA
    have HB := Lib.hid hB
    clear hR hO hDn hA hB
    by_cases hlt : k < 24
    · obtain ⟨x, hx⟩ : ∃ x, d[k]? = some x := ⟨d[k]'(by have := HD.out; omega), List.getElem?_eq_getElem _⟩
      obtain ⟨c0, c1, c2⟩ := HA.out.get hx
      have HX := Lib.hid hx
      clear hx
      go_wp2_with fail
      refine (weaS.to_any x _).mono ?_
      rintro e w2 ⟨rfl, hb2⟩
      have HR2 := Lib.hid (owns_next HR.out hb2)
      have HA2 := Lib.hid (HA.out.next hb2)
      have HB2 := Lib.hid (below_next HB.out hb2 (Nat.le_refl _))
      have hO2 := owns_next HO.out hb2
      clear c0 c1 c2 hb2 HR HA HB HO
      have hLL := hO2.1
      obtain ⟨v0, s0⟩ : ∃ v, w2.cell? ⟨w.heap.size + 1 + 1, k * 3, none⟩ = some v := ⟨L[k * 3]'(by omega), (hO2.cellAt (k * 3) (by omega)).trans (List.getElem?_eq_getElem _)⟩
      have f0 := hO2.frozenAt (k * 3)
      obtain ⟨v1, s1⟩ : ∃ v, w2.cell? ⟨w.heap.size + 1 + 1, k * 3 + 1, none⟩ = some v := ⟨L[k * 3 + 1]'(by omega), (hO2.cellAt (k * 3 + 1) (by omega)).trans (List.getElem?_eq_getElem _)⟩
      have f1 := hO2.frozenAt (k * 3 + 1)
      obtain ⟨v2, s2⟩ : ∃ v, w2.cell? ⟨w.heap.size + 1 + 1, k * 3 + 2, none⟩ = some v := ⟨L[k * 3 + 2]'(by omega), (hO2.cellAt (k * 3 + 2) (by omega)).trans (List.getElem?_eq_getElem _)⟩
      have f2 := hO2.frozenAt (k * 3 + 2)
      have HLL := Lib.hid hLL
      have HO2 := Lib.hid hO2
      clear hLL hO2
      go_wp2_with fail
      go_roundw
      case rel =>
        obtain ⟨hO3, hg3⟩ := owns_cells (o := k * 3) (vs := x.cells) HO2.out
        exact ⟨k + 1, _, by omega, by go_num, owns_other HR2.out hg3 (fun j hj => by have : w.heap.size + 1 = j := Option.some.inj hj; omega), hO3, HDn.out.step (Wea.len d) HX.out (by rw [HLL.out, HD.out]),
          ⟨Nat.lt_of_lt_of_le HA2.out.lt hg3.size, fun j v hv => by
            have := HA2.out.row j v hv
            have hc := World.cell?_setCells_out (w.heap.size + 1 + 1) x.cells (k * 3) w2 ⟨w.heap.size, 0 + j, none⟩ (fun hb _ => by have : w.heap.size = w.heap.size + 1 + 1 := hb; omega)
            exact hc.trans this⟩, below_cells HB2.out (by omega) x.cells (k * 3)⟩
      case measure => simp [intOf]; omega
    · obtain rfl : k = 24 := by omega
      have hfull : L = d.flatMap Wea.cells := Done.full (by rw [HD.out]; exact HDn.out) (Wea.len d) (by omega) (by rw [HO.out.1, HD.out])
      subst hfull
      have hA := Lib.hid (OwnD.of _ HO.out)
      have hT := Lib.hid HR.out.there
      have hS := stored_day HD.out (HR.out.lt _ rfl).2 HR.out.there
      go_wp2_with (first | (refine wpl_load_day rfl (.tmp 3) rfl (w.heap.size + 1 + 1) rfl HD.out hA.out ?_) | (refine wpl_store_day rfl (.tmp 2) (.tmp 15) rfl (w.heap.size + 1) rfl HD.out rfl hT.out ?_))

      refine bodyPost_ret (v := dayV d) (results_day Tryd.results24 HD.out rfl hS) rfl ⟨rfl, ?_⟩
      exact below_cells HB.out (by omega) _ _
end Go.Proofs.YtjfimmfnhlimkaaDoor.day

/-
  The program's days are compared hour by hour.
-/
namespace Go.Proofs.YtjfimmfnhlimkaaDoor.day
open Go Go.RowKit sl

abbrev w0 : Wea := ⟨0, 0, 0⟩
/-- are two days equal -/
def dayEq (xs ys : List Wea) : Bool := (List.range' 0 24 1).all fun i => Wea.eq (xs.getD i w0) (ys.getD i w0)
theorem dayEq_iff {xs ys : List Wea} (hx : xs.length = 24) (hy : ys.length = 24) : dayEq xs ys = true ↔ xs = ys := by
  unfold dayEq
  rw [List.all_eq_true]
  constructor
  · intro h
    refine List.ext_getElem? fun i => ?_
    rcases Nat.lt_or_ge i 24 with hi | hi
    · have h1 := (Wea.eq_iff _ _).1 (h i (by simp; omega))
      simp only [List.getD] at h1
      rw [List.getElem?_eq_getElem (show i < xs.length by omega), List.getElem?_eq_getElem (show i < ys.length by omega)] at h1 ⊢
      exact congrArg some h1
    · rw [List.getElem?_eq_none (by omega), List.getElem?_eq_none (by omega)]
  · rintro rfl i _
    exact (Wea.eq_iff _ _).2 rfl
theorem extract_day {d : List Wea} {k : Nat} {x : Wea} (hx : d[k]? = some x) : (dayCs d).extract (k * 3) (k * 3 + 3) = #[.int .i8 x.sun, .int .i8 x.wind, .int .i8 x.rain] := by
  have hk : k < d.length := (List.getElem?_eq_some_iff.1 hx).1
  have hs : (dayCs d).size = d.length * 3 := by
    unfold dayCs
    rw [List.size_toArray, flat_len (Wea.len d)]
  have g := fun j v (hj : (Wea.cells x)[j]? = some v) => flat_get (Wea.len d) hx hj
  refine Array.ext_getElem? fun i => ?_
  rw [Array.getElem?_extract]
  have hd : ∀ j : Nat, (dayCs d)[j]? = (d.flatMap Wea.cells)[j]? := fun j => by simp [dayCs]
  match i with
  | 0 => rw [if_pos (by omega), hd, g 0 _ rfl]; rfl
  | 1 => rw [if_pos (by omega), hd, g 1 _ rfl]; rfl
  | 2 => rw [if_pos (by omega), hd, g 2 _ rfl]; rfl
  | i + 3 => rw [if_neg (by omega)]; simp
theorem sizeWea (u : World) : (sizeOf 38).run Tryd.prog u = .ok 3 u := by kernel_rfl
theorem aggWea (u : World) : (isAgg 38).run Tryd.prog u = .ok true u := by kernel_rfl
theorem part_day {d : List Wea} {k : Nat} {x : Wea} (hx : d[k]? = some x) (u : World) : (part 38 (dayCs d) (k * 3)).run Tryd.prog u = .ok x.v u := by
  simp only [part, Sem.run_bind, aggWea, sizeWea, Result.andThen_ok, if_true, Sem.run_pure, extract_day hx]

theorem equalIn_day (n : Nat) (xs ys : List Wea) (hx : xs.length = 24) (hy : ys.length = 24) (u : World) : (Op.equalIn (n + 3) 40 (dayV xs) (dayV ys)).run Tryd.prog u = .ok (dayEq xs ys) u := by
  have hu : Tryd.prog.underlying 40 = some (.array 24 38) := Tryd.underlying40
  unfold dayEq
  rw [Op.equalIn]
  simp only [Sem.run_bind, run_underlying hu, Result.andThen_ok, sizeWea, Std.Legacy.Range.forIn_eq_forIn_range', Std.Legacy.Range.size, Nat.sub_zero, Nat.add_sub_cancel, Nat.div_one]
  have hl : ∀ i ∈ List.range' 0 24 1, i < 24 := fun i hi => by simpa using (List.mem_range'_1.1 hi).2
  generalize List.range' 0 24 1 = l at hl ⊢
  induction l with
  | nil => simp
  | cons i l ih =>
    have hi : i < 24 := hl i (by simp)
    have gx : xs[i]? = some (xs.getD i w0) := by simp [List.getD, List.getElem?_eq_getElem (show i < xs.length by omega)]
    have gy : ys[i]? = some (ys.getD i w0) := by simp [List.getD, List.getElem?_eq_getElem (show i < ys.length by omega)]
    simp only [List.forIn_cons, Sem.run_bind, part_day gx, part_day gy, weaS.equalIn_any n, Result.andThen_ok, List.all_cons]
    cases hb : Wea.eq (xs.getD i w0) (ys.getD i w0)
    · simp
    · simp only [Bool.not_true, Bool.false_eq_true, if_false, Sem.run_pure, Result.andThen_ok, Bool.true_and]
      exact ih fun j hj => hl j (by simp [hj])
theorem run_eql_day (xs ys : List Wea) (hx : xs.length = 24) (hy : ys.length = 24) (u : World) : (binOp .eql 40 (dayV xs) (dayV ys)).run Tryd.prog u = .ok (.bool (dayEq xs ys)) u := by
  have e : (10000 : Nat) = 9997 + 3 := by decide
  rw [run_eql_struct, e, equalIn_day 9997 xs ys hx hy u, Result.andThen_ok]
theorem guardD : Tryd.prog.eqGuardType Tryd.prog.depth 40 = false := by kernel_rfl
theorem run_guard_day (xs ys : List Wea) (o p : Operand) (u : World) : (eqGuard .eql 40 o p (dayV xs) (dayV ys)).run Tryd.prog u = .ok () u := run_eqGuard_agg u .eql _ _ _ _ _ guardD
end Go.Proofs.YtjfimmfnhlimkaaDoor.day
