/-
  Several texts of this proof, joined.
-/
import Derived.Test.YtjfimmfnhlimkaaDoorJoin9
import Derived.Test.YtjfimmfnhlimkaaDoorStill
import Derived.OwnWalk
import Derived.Deep.RegionHeld3
/-
  Lists of stocks: copied and compared by the laws.
-/
namespace Go.Proofs.YtjfimmfnhlimkaaDoor.stk
open Go Go.RowKit sl row

/-- a stock's cells, as a list -/
abbrev stkC (f : Stk) : List Value := lst 25 (cellS f)
theorem stkC_len (xs : List Stk) : ∀ x ∈ xs, (stkC x).length = 25 := fun _ _ => lst_len _ _
/-! a row of cells at whatever address -/
section
variable {P : Program}
theorem run_loadVar_at (w : World) (p : Addr) (ty : TypeId) (cs : List Value) (d : TypeDesc) (hc : At w p cs)
    (hu : P.underlying ty = some d) (hd : d.isRow = true) (hi : (P.info? ty).map (·.size) = some cs.length) :
    (loadVar ty p).run P w = .ok (.agg cs.toArray) w := by
  have hl : (loadCells p cs.length).run P w = .ok cs.toArray w := run_loadCells_list (P := P) w p cs hc
  cases hq : P.info? ty with
  | none => simp [hq] at hi
  | some i =>
    have hs : i.size = cs.length := by simpa [hq] using hi
    have hagg : (isAgg ty).run P w = .ok true w := by
      unfold isAgg
      rw [Sem.run_bind, run_underlying hu w]
      cases d <;> simp_all
    simp [loadVar, Sem.run_bind, hagg, sizeOf, typeInfo, hq, hs, hl]
theorem wpl_load_at {ops : Array Oper} {rest : List Oper} {op : Oper} {a : Act} {w : World} {Q : Exit → Act → World → Prop} (hgd : op.guard = none) (ty : TypeId) (x : Operand) (ho : op.op = .load ty x)
    (p : Addr) (hx : a.eval x = .pointer (some p)) (cs : List Value) (d : TypeDesc) (hc : At w p cs)
    (hu : P.underlying ty = some d) (hd : d.isRow = true) (hi : (P.info? ty).map (·.size) = some cs.length)
    (h : wpList P ops Q rest (a.put op.dst (.agg cs.toArray)) w) : wpList P ops Q (op :: rest) a w :=
  wpList_plain hgd fun _ hK => by
    unfold Oper.wp execOp
    simp only [ho, hx, Instr.loadAt, Instr.sureAddr, Sem.run_bind, Sem.run_pure, Result.andThen_ok, run_loadVar_at w p ty cs d hc hu hd hi]
    exact hK _ _ h
theorem yieldsIf_load_at {ops : Array Oper} {S : World → Prop} {op : Oper} {a : Act} (hw : Region.wanted op (yielded ops a.tmps) = true) (ty : TypeId) (x : Operand) (ho : op.op = .load ty x)
    (p : Addr) (hx : a.eval x = .pointer (some p)) (cs : List Value) (d : TypeDesc) (hS : ∀ w, S w → At w p cs)
    (hu : P.underlying ty = some d) (hd : d.isRow = true) (hi : (P.info? ty).map (·.size) = some cs.length) : YieldsIf P ops S op (.agg cs.toArray) a :=
  .inl ⟨hw, fun w hw' => by
    unfold execOp
    simp only [ho, hx, Instr.loadAt, Instr.sureAddr, Sem.run_bind, Sem.run_pure, Result.andThen_ok, run_loadVar_at w p ty cs d (hS w hw') hu hd hi]⟩
end
theorem wpl_store_there {ops : Array Oper} {rest : List Oper} {op : Oper} {a : Act} {u : World} {Q : Exit → Act → World → Prop} (hgd : op.guard = none) (x y : Operand) (ho : op.op = .store 153 x y) (b p : Nat) (hx : a.eval x = .pointer (some ⟨b, p, none⟩))
    {f : Stk} (hy : a.eval y = stkV f) (ht : u.there b p 25) (hK : wpList Tryd.prog ops Q rest (a.put op.dst undef) (u.setCells b p (stkC f))) : wpList Tryd.prog ops Q (op :: rest) a u :=
  wpList_store_mid hgd 153 x y ho b p (stkCs f) hx hy (by rw [stkCs_size]; exact ht) (by rw [infoS, stkCs_size]) (stkCs_one f) hK
theorem infoSs : (Tryd.prog.info? 153).map (fun i => (i.zero, i.size, i.bytes)) = some (some (.agg (stkCs zeroS)), 25, 52) := by kernel_rfl
abbrev StkOwns (u : World) (B : Nat) (v : Value) (n : Nat) (L : List Value) : Prop := u.ownsRow B 153 25 v n L
theorem owns_there {u : World} {B g n c : Nat} {L : List Value} (h : StkOwns u B (.slice (some ⟨g, 0, none⟩) n c) n L) {k : Nat} (hk : k < n) : u.there g (k * 25) 25 := fun j hj => by
  have hl := h.1
  have : k * 25 + j < n * 25 := by omega
  exact ⟨by rw [h.cellAt (k * 25 + j) (by omega), List.getElem?_eq_getElem (by omega)]; rfl, h.frozenAt (k * 25 + j)⟩
theorem infoL' : (Tryd.prog.info? 193).map (·.size) = some 25 := by kernel_rfl
set_option maxRecDepth 100000 in
set_option maxHeartbeats 4000000 in
theorem toStockS_any (A : Option Addr) (c : Nat) (xs : List Stk) (hn : xs.length ≤ 1048576) (w : World) (hg : Sl stkC 25 w w.heap.size A xs) :
    Calls Tryd.prog 100 #[.slice A xs.length c] w fun e w' => ∃ g, e = .returned (.slice (some ⟨g, 0, none⟩) xs.length xs.length) ∧
      StkOwns w' w.heap.size (.slice (some ⟨g, 0, none⟩) xs.length xs.length) xs.length (xs.flatMap stkC) ∧ Below w.heap.size w w' := by
  obtain ⟨i0, hi, hz0, hz1, hz2⟩ := info_parts infoSs
  obtain ⟨n, en⟩ : ∃ n, n = xs.length := ⟨_, rfl⟩
  rw [← en] at hn ⊢
  have En := Lib.hid en
  clear en
  go_enter Tryd.func100, Tryd.ntmps100
  go_wp2_with (at_make; refine wpList_make_full _ rfl _ _ 72 rfl w.heap.size 153 i0 (.agg (stkCs zeroS)) 25 Tryd.underlying72 hi hz0 hz1 .i64 .i64 n n n rfl rfl rfl rfl (by rw [hz2]; omega) (by unfold maxLen; omega) (Nat.le_refl _) ?_; intro w1 hown hgr; have HP1 := Lib.hid hown; have HB1 := Lib.hid (Below.grown (Below.refl w.heap.size w) hgr (Nat.le_refl _) (fun g hg => by cases hg)); clear hown hgr)
  go_loopw [4] (fun vi wr => ∃ k L, k ≤ n ∧ vi = .int .i64 (k : Nat) ∧ StkOwns wr w.heap.size (.slice (some ⟨w.heap.size, 0, none⟩) n n) n L ∧ Done stkC 25 xs k L ∧ Below w.heap.size w wr) (fun vi _ => n - (intOf vi).toNat)
  case atStart => exact ⟨0, _, by omega, rfl, HP1.out, Done.zero _ _ _ _, HB1.out⟩
  case round =>
    clear HP1 HB1
    obtain ⟨k, L, hk, rfl, hP, hD, hB⟩ := hrel
    have HP := Lib.hid hP
    have HD := Lib.hid hD
    have HB := Lib.hid hB
    clear hP hD hB
    by_cases hlt : k < n
    · obtain ⟨x, hx⟩ : ∃ x, xs[k]? = some x := ⟨xs[k]'(by have := En.out; omega), List.getElem?_eq_getElem _⟩
      obtain ⟨a, rfl, hab, hat⟩ := (hg.below HB.out).at_ k x hx
      have HX := Lib.hid hx
      have HA := Lib.hid hat
      clear hx hat
      go_wp2_with (refine wpl_load_at rfl 193 (.tmp 18) rfl (a.add (k * 25)) rfl (stkC x) _ HA.out Tryd.underlying193 rfl (by rw [infoL', lst_len]) ?_)
      refine (toStock_any x _).mono ?_
      rintro e w2 ⟨rfl, hb2⟩
      have HP2 := Lib.hid (owns_next HP.out hb2)
      have HB2 := Lib.hid (below_next HB.out hb2 (Nat.le_refl _))
      have HT := Lib.hid (owns_there HP2.out hlt)
      obtain ⟨w3, hw3⟩ : ∃ w3, w3 = w2.setCells w.heap.size (k * 25) (stkC x) := ⟨_, rfl⟩
      have HW3 := Lib.hid hw3
      clear hb2 hw3 HP HB
      go_wp2_with (refine wpl_store_there rfl (.tmp 21) (.tmp 20) rfl w.heap.size (k * 25) rfl (f := x) rfl HT.out ?_; rw [← HW3.out])
      go_roundw
      case rel =>
        obtain ⟨hO3, hg3⟩ := owns_cells (o := k * 25) (vs := stkC x) HP2.out
        exact ⟨k + 1, _, by omega, by go_num, by rw [HW3.out]; exact hO3, HD.out.step (stkC_len xs) HX.out (by rw [HP2.out.1, En.out]), by rw [HW3.out]; exact below_cells HB2.out (Nat.le_refl _) _ _⟩
      case measure => simp [intOf]; omega
    · obtain rfl : k = n := by omega
      go_wp2_with fail
      go_ret
      have hl := En.out
      have e : L = xs.flatMap stkC := Done.full (by rw [← hl]; exact HD.out) (stkC_len xs) (by omega) (by rw [HP.out.1, hl])
      rw [← e]
      exact ⟨_, rfl, HP.out, HB.out⟩
/-- are two lists of stocks equal, number by number -/
def eqL (xs ys : List Stk) : Prop := xs.length = ys.length ∧ ∀ (i : Nat) (x y : Stk), xs[i]? = some x → ys[i]? = some y → eqS x y = true
theorem eqL_refl (xs : List Stk) : eqL xs xs := ⟨rfl, fun i x y hx hy => by rw [hx] at hy; obtain rfl := Option.some.inj hy; exact eqS_iff.2 fun _ _ => rfl⟩
structure TwoS (p q : Addr) (x y : Stk) (W u : World) : Prop where
  p : At u p (stkC x)
  q : At u q (stkC y)
  b : Below W.heap.size W u
theorem TwoS.next {p q : Addr} {x y : Stk} {W u v : World} (h : TwoS p q x y W u) (hp : p.block < W.heap.size) (hq : q.block < W.heap.size) (hb : Below u.heap.size u v) : TwoS p q x y W v :=
  ⟨h.p.below (hb.mono h.b.size) hp, h.q.below (hb.mono h.b.size) hq, below_next h.b hb (Nat.le_refl _)⟩
set_option maxRecDepth 100000 in
set_option maxHeartbeats 4000000 in
theorem eqStockS_any (A A' : Option Addr) (n n' c c' : Nat) (xs ys : List Stk) (en : n = xs.length) (en' : n' = ys.length) (hn : n ≤ 1048576) (hn' : n' ≤ 9223372036854775807) (w : World) (hg : Sl stkC 25 w w.heap.size A xs) (hg' : Sl stkC 25 w w.heap.size A' ys) (b : Bool) (hb : b = true ↔ eqL xs ys) :
    Calls Tryd.prog 104 #[.slice A n c, .slice A' n' c'] w fun e w' => e = .returned (.bool b) ∧ Below w.heap.size w w' := by
  have En := Lib.hid en
  have En' := Lib.hid en'
  have Hb := Lib.hid hb
  clear en en' hb
  by_cases hlen : n = n'
  · subst hlen
    go_enter Tryd.func104, Tryd.ntmps104
    go_wp2_with fail
    go_loopw [5] (fun vi wr => ∃ k : Nat, k ≤ n ∧ vi = .int .i64 k ∧ (∀ (i : Nat) (x y : Stk), i < k → xs[i]? = some x → ys[i]? = some y → eqS x y = true) ∧ Below w.heap.size w wr) (fun vi _ => n - (intOf vi).toNat)
    case atStart => exact ⟨0, by omega, rfl, fun i x y hi => absurd hi (by omega), Below.refl _ _⟩
    case round =>
      obtain ⟨k, hk, rfl, hsame, hB⟩ := hrel
      have HSame := Lib.hid hsame
      have HB := Lib.hid hB
      clear hsame hB
      by_cases hlt : k < n
      · obtain ⟨x, hx⟩ : ∃ x, xs[k]? = some x := ⟨xs[k]'(by have := En.out; omega), List.getElem?_eq_getElem _⟩
        obtain ⟨y, hy⟩ : ∃ y, ys[k]? = some y := ⟨ys[k]'(by have := En'.out; omega), List.getElem?_eq_getElem _⟩
        obtain ⟨a, rfl, hab, hat⟩ := (hg.below HB.out).at_ k x hx
        obtain ⟨a', rfl, hab', hat'⟩ := (hg'.below HB.out).at_ k y hy
        have hp : (a.add (k * 25)).block < w.heap.size := by rw [block_add]; exact hab
        have hp' : (a'.add (k * 25)).block < w.heap.size := by rw [block_add]; exact hab'
        have HT : Hid (TwoS (a.add (k * 25)) (a'.add (k * 25)) x y w wr.drew) := Lib.hid (TwoS.next ⟨hat, hat', HB.out⟩ hp hp' (Below.refl _ _).drew)
        have HX := Lib.hid hx
        have HY := Lib.hid hy
        obtain ⟨q, hq⟩ : ∃ q, q = eqS x y := ⟨_, rfl⟩
        have HQ := Lib.hid hq
        clear hx hy hat hat' hq
        go_wp2_with fail
        refine wp_region_held_drew (S := TwoS (a.add (k * 25)) (a'.add (k * 25)) x y w) (by kernel_rfl) HT.out (fun hHeld => ?_)
        refine wpAnyH_take (i := 0) (v := ?_) rfl (by kernel_rfl) (by kernel_rfl) (by kernel_rfl) (fun _ _ _ h => h) (Or.inl ⟨by rfl, ?_⟩) (by assumption) ?_
        rotate_left
        · intro u hSu
          (try dsimp only at hSu)
          first | (go_simp; done) | (go_simp; with_reducible rfl)
        try simp only [Act.put, List.getElem_toArray, List.getElem_cons_zero, List.setIfInBounds_toArray, List.set_cons_zero, List.set_cons_succ]
        refine wpAnyH_take (i := 1) (v := ?_) rfl (by kernel_rfl) (by kernel_rfl) (by kernel_rfl) (fun _ _ _ h => h) (Or.inl ⟨by rfl, ?_⟩) (by assumption) ?_
        rotate_left
        · intro u hSu
          (try dsimp only at hSu)
          first | (go_simp; done) | (go_simp; with_reducible rfl)
        try simp only [Act.put, List.getElem_toArray, List.getElem_cons_zero, List.getElem_cons_succ, List.setIfInBounds_toArray, List.set_cons_zero, List.set_cons_succ]
        refine wpAnyH_take (i := 2) (v := ?_) rfl (by kernel_rfl) (by kernel_rfl) (by kernel_rfl) (fun _ _ _ h => h) (Or.inl ⟨by rfl, ?_⟩) (by assumption) ?_
        rotate_left
        · intro u hSu
          (try dsimp only at hSu)
          first | (go_simp; done) | (go_simp; with_reducible rfl)
        try simp only [Act.put, List.getElem_toArray, List.getElem_cons_zero, List.getElem_cons_succ, List.setIfInBounds_toArray, List.set_cons_zero, List.set_cons_succ]
        refine wpAnyH_take (i := 3) (v := stkV x) rfl (by kernel_rfl) (by kernel_rfl) (by kernel_rfl) (fun _ _ _ h => h) (yieldsIf_load_at (by rfl) 153 (.tmp 19) rfl (a.add (k * 25)) rfl (stkC x) _ (fun u h => h.p) Tryd.underlying153 rfl (by rw [infoS, lst_len])) hHeld ?_
        (try simp only [Act.put, List.getElem_toArray, List.getElem_cons_zero, List.getElem_cons_succ, List.setIfInBounds_toArray, List.set_cons_zero, List.set_cons_succ])
        refine wpAnyH_take (i := 4) (v := ?_) rfl (by kernel_rfl) (by kernel_rfl) (by kernel_rfl) (fun _ _ _ h => h) (Or.inl ⟨by rfl, ?_⟩) (by assumption) ?_
        rotate_left
        · intro u hSu
          (try dsimp only at hSu)
          first | (go_simp; done) | (go_simp; with_reducible rfl)
        try simp only [Act.put, List.getElem_toArray, List.getElem_cons_zero, List.getElem_cons_succ, List.setIfInBounds_toArray, List.set_cons_zero, List.set_cons_succ]
        refine wpAnyH_take (i := 5) (v := ?_) rfl (by kernel_rfl) (by kernel_rfl) (by kernel_rfl) (fun _ _ _ h => h) (Or.inl ⟨by rfl, ?_⟩) (by assumption) ?_
        rotate_left
        · intro u hSu
          (try dsimp only at hSu)
          first | (go_simp; done) | (go_simp; with_reducible rfl)
        try simp only [Act.put, List.getElem_toArray, List.getElem_cons_zero, List.getElem_cons_succ, List.setIfInBounds_toArray, List.set_cons_zero, List.set_cons_succ]
        refine wpAnyH_take (i := 6) (v := ?_) rfl (by kernel_rfl) (by kernel_rfl) (by kernel_rfl) (fun _ _ _ h => h) (Or.inl ⟨by rfl, ?_⟩) (by assumption) ?_
        rotate_left
        · intro u hSu
          (try dsimp only at hSu)
          first | (go_simp; done) | (go_simp; with_reducible rfl)
        try simp only [Act.put, List.getElem_toArray, List.getElem_cons_zero, List.getElem_cons_succ, List.setIfInBounds_toArray, List.set_cons_zero, List.set_cons_succ]
        refine wpAnyH_take (i := 7) (v := stkV y) rfl (by kernel_rfl) (by kernel_rfl) (by kernel_rfl) (fun _ _ _ h => h) (yieldsIf_load_at (by rfl) 153 (.tmp 23) rfl (a'.add (k * 25)) rfl (stkC y) _ (fun u h => h.q) Tryd.underlying153 rfl (by rw [infoS, lst_len])) hHeld ?_
        (try simp only [Act.put, List.getElem_toArray, List.getElem_cons_zero, List.getElem_cons_succ, List.setIfInBounds_toArray, List.set_cons_zero, List.set_cons_succ])
        refine wpAnyH_ready (rs := [8]) (by kernel_rfl) (by simp) ?_
        refine AllReadyH.cons rfl (fun K hK => ?_) AllReadyH.nil
        go_simp
        refine (eqStock_any x y q HQ.out _).mono ?_
        rintro e w2 ⟨rfl, hb2⟩
        refine hK.out _ _ (hHeld.next hp hp' hb2) (fun hHeld2 => ?_)
        clear hK K hHeld
        have hHeld := hHeld2
        clear hHeld2
        try simp only [Act.put, List.getElem_toArray, List.getElem_cons_zero, List.getElem_cons_succ, List.setIfInBounds_toArray, List.set_cons_zero, List.set_cons_succ]
        refine wpAnyH_ready (rs := [9]) (by kernel_rfl) (by simp) ?_
        refine AllReadyH.cons rfl (fun K hK => ?_) AllReadyH.nil
        go_simp
        refine hK.out _ _ (hHeld) (fun hHeld2 => ?_)
        clear hK K hHeld
        have hHeld := hHeld2
        clear hHeld2
        try simp only [Act.put, List.getElem_toArray, List.getElem_cons_zero, List.getElem_cons_succ, List.setIfInBounds_toArray, List.set_cons_zero, List.set_cons_succ]
        refine wpAnyH_done (by kernel_rfl) ?_ _
        have HB2 := Lib.hid hHeld.b
        clear hHeld hb2
        cases q with
        | true =>
          go_wp2_with fail
          go_roundw
          case rel => exact ⟨k + 1, by omega, by go_num, fun i x' y' hi hx' hy' => by
            rcases Nat.lt_or_ge i k with h1 | h1
            · exact HSame.out i x' y' h1 hx' hy'
            · obtain rfl : i = k := by omega
              have e1 := HX.out
              have e2 := HY.out
              rw [hx'] at e1
              rw [hy'] at e2
              rw [Option.some.inj e1, Option.some.inj e2]
              exact HQ.out.symm, HB2.out⟩
          case measure => simp [intOf]; omega
        | false =>
          go_wp2_with fail
          go_ret
          refine ⟨ret_bool ?_, HB2.out⟩
          cases hbb : b with
          | false => rfl
          | true =>
            have := (Hb.out.1 hbb).2 k x y HX.out HY.out
            rw [← HQ.out] at this
            cases this
      · go_wp2_with fail
        go_ret
        refine ⟨ret_bool ?_, HB.out⟩
        exact (Hb.out.2 ⟨En.out.symm.trans En'.out, fun i x y hx hy => HSame.out i x y (by have := (List.getElem?_eq_some_iff.1 hx).1; have := En.out; omega) hx hy⟩).symm
  · have hno : b = false := by
      cases hbb : b with
      | false => rfl
      | true => exact absurd (En.out.trans ((Hb.out.1 hbb).1.trans En'.out.symm)) hlen
    subst hno
    have hl : ((n : Int) != (n' : Int)) = true := by rw [bne_iff_ne]; omega
    clear hlen
    go_enter Tryd.func104, Tryd.ntmps104
    go_wp2_with fail
    go_ret
    exact ⟨rfl, Below.refl _ _⟩
end Go.Proofs.YtjfimmfnhlimkaaDoor.stk

/-
  Houses in plain words: stocks, a tub, washing days, today. Copied, counted and compared by the laws.
-/
namespace Go.Proofs.YtjfimmfnhlimkaaDoor.hou
open Go Go.RowKit sl row stk

/-- a house's value -/
abbrev houV (v : Value) (t e d : Int) : Value := .agg #[v, .int .i16 t, .int .i8 e, .int .i16 d]
def houL (v : Value) (t e d : Int) : List Value := [v, .int .i16 t, .int .i8 e, .int .i16 d]
/-- a house lies at the head of a block, and may be written -/
structure HouAt (u : World) (b : Nat) (v : Value) (t e d : Int) : Prop where
  c0 : u.cell? ⟨b, 0, none⟩ = some v
  c1 : u.cell? ⟨b, 1, none⟩ = some (.int .i16 t)
  c2 : u.cell? ⟨b, 2, none⟩ = some (.int .i8 e)
  c3 : u.cell? ⟨b, 3, none⟩ = some (.int .i16 d)
  fz : ∀ i, u.frozen? ⟨b, i, none⟩ = false
  lt : b < u.heap.size
theorem HouAt.below {u u' : World} {b B : Nat} {v : Value} {t e d : Int} (h : HouAt u b v t e d) (hb : Below B u u') (hB : b < B) : HouAt u' b v t e d :=
  ⟨(hb.cell (p := ⟨b, 0, none⟩) hB).trans h.c0, (hb.cell (p := ⟨b, 1, none⟩) hB).trans h.c1, (hb.cell (p := ⟨b, 2, none⟩) hB).trans h.c2, (hb.cell (p := ⟨b, 3, none⟩) hB).trans h.c3,
    fun i => (hb.frozen (p := ⟨b, i, none⟩) hB).trans (h.fz i), Nat.lt_of_lt_of_le h.lt hb.size⟩
theorem HouAt.next {u u' : World} {b : Nat} {v : Value} {t e d : Int} (h : HouAt u b v t e d) (hb : Below u.heap.size u u') : HouAt u' b v t e d := h.below hb h.lt
theorem HouAt.new (w : World) (v : Value) (t e d : Int) (T : TypeId) : HouAt (w.alloc (.cells #[v, .int .i16 t, .int .i8 e, .int .i16 d] T)) w.heap.size v t e d := by
  have h := heap_alloc_new w (.cells #[v, .int .i16 t, .int .i8 e, .int .i16 d] T)
  have k := fun i => cell_of_row _ _ i _ _ _ h
  exact ⟨k 0, k 1, k 2, k 3, fun i => frozen_of_row _ _ _ _ _ h, by simp⟩
theorem HouAt.there {u : World} {b : Nat} {v : Value} {t e d : Int} (h : HouAt u b v t e d) : u.there b 0 4 := fun j hj => by
  rw [Nat.zero_add]
  refine ⟨?_, h.fz j⟩
  match j, hj with
  | 0, _ => rw [h.c0]; rfl
  | 1, _ => rw [h.c1]; rfl
  | 2, _ => rw [h.c2]; rfl
  | 3, _ => rw [h.c3]; rfl
theorem HouAt.range {u : World} {b : Nat} {v : Value} {t e d : Int} (h : HouAt u b v t e d) : u.rangeAt b 0 (houL v t e d) := fun j x hj => by
  rw [Nat.zero_add]
  match j, hj with
  | 0, hj => obtain rfl := Option.some.inj hj; exact h.c0
  | 1, hj => obtain rfl := Option.some.inj hj; exact h.c1
  | 2, hj => obtain rfl := Option.some.inj hj; exact h.c2
  | 3, hj => obtain rfl := Option.some.inj hj; exact h.c3
theorem infoH : (Tryd.prog.info? 74).map (·.size) = some 4 := by kernel_rfl
theorem infoLH : (Tryd.prog.info? 69).map (·.size) = some 4 := by kernel_rfl
theorem HouAt.stored {u : World} {b : Nat} {v v' : Value} {t e d t' e' d' : Int} (h : HouAt u b v t e d) : HouAt (u.setCells b 0 (houL v' t' e' d')) b v' t' e' d' := by
  have hr := World.rangeAt_setCells_same u b 0 (houL v' t' e' d') h.there
  have k := fun j w hj => hr j w hj
  refine ⟨?_, ?_, ?_, ?_, fun i => by rw [World.frozen?_setCells]; exact h.fz i, by rw [size_setCells]; exact h.lt⟩
  · exact k 0 _ rfl
  · exact k 1 _ rfl
  · exact k 2 _ rfl
  · exact k 3 _ rfl
set_option maxRecDepth 100000 in
set_option maxHeartbeats 4000000 in
theorem toHouse_any (A : Option Addr) (c : Nat) (xs : List Stk) (t e d : Int) (hn : xs.length ≤ 1048576) (w : World) (hg : Sl stkC 25 w w.heap.size A xs) :
    Calls Tryd.prog 49 #[houV (.slice A xs.length c) t e d] w fun o w' => ∃ g, o = .returned (houV (.slice (some ⟨g, 0, none⟩) xs.length xs.length) t e d) ∧
      StkOwns w' w.heap.size (.slice (some ⟨g, 0, none⟩) xs.length xs.length) xs.length (xs.flatMap stkC) ∧ Below w.heap.size w w' := by
  obtain ⟨n, en⟩ : ∃ n, n = xs.length := ⟨_, rfl⟩
  have En := Lib.hid en
  have HN := Lib.hid hn
  rw [← en]
  obtain ⟨u, hu⟩ : ∃ u, u = ((w.alloc (.cells #[.slice A n c, .int .i16 t, .int .i8 e, .int .i16 d] 69)).alloc (.cells #[.slice none 0 0, .int .i16 0, .int .i8 0, .int .i16 0] 74)).alloc (.cells #[.slice none 0 0, .int .i16 0, .int .i8 0, .int .i16 0] 74) := ⟨_, rfl⟩
  have A0 : HouAt u w.heap.size (.slice A n c) t e d := by
    rw [hu]
    exact ((HouAt.new w _ t e d _).next ((Below.refl _ _).alloc (Nat.le_refl _) _)).next ((Below.refl _ _).alloc (Nat.le_refl _) _)
  have R0 : HouAt u (w.heap.size + 1) (.slice none 0 0) 0 0 0 := by
    rw [hu]
    have := HouAt.new (w.alloc (.cells #[.slice A n c, .int .i16 t, .int .i8 e, .int .i16 d] 69)) (.slice none 0 0) 0 0 0 74
    rw [World.size_alloc] at this
    exact this.next ((Below.refl _ _).alloc (Nat.le_refl _) _)
  have O0 : HouAt u (w.heap.size + 1 + 1) (.slice none 0 0) 0 0 0 := by
    rw [hu]
    have := HouAt.new ((w.alloc (.cells #[.slice A n c, .int .i16 t, .int .i8 e, .int .i16 d] 69)).alloc (.cells #[.slice none 0 0, .int .i16 0, .int .i8 0, .int .i16 0] 74)) (.slice none 0 0) 0 0 0 74
    rw [World.size_alloc, World.size_alloc] at this
    exact this
  have B0 : Below w.heap.size w u := by
    rw [hu]
    exact (((Below.refl _ _).alloc (Nat.le_refl _) _).alloc (by simp) _).alloc (by simp; omega) _
  have HU := Lib.hid hu
  have HA := Lib.hid A0
  have HR := Lib.hid R0
  have HO := Lib.hid O0
  have HB := Lib.hid B0
  clear hu A0 R0 O0 B0 en hn
  go_enter Tryd.func49, Tryd.ntmps49
  go_wp2_with fail
  rw [← HU.out, En.out]
  refine (toStockS_any A c xs HN.out _ ((hg.below HB.out).more HB.out.size)).mono ?_
  rintro o w1 ⟨g, rfl, hP, hb⟩
  rw [← En.out] at hP ⊢
  have hsz : u.heap.size = w.heap.size + 3 := by rw [HU.out]; simp
  have HP := Lib.hid hP
  have HSZ := Lib.hid hsz
  have hA := HA.out.next hb
  have hR := HR.out.next hb
  have hO := HO.out.next hb
  have HB1 := Lib.hid (below_next HB.out hb (Nat.le_refl _))
  have a1 := hA.c1
  have a2 := hA.c2
  have a3 := hA.c3
  have o0 := hO.c0
  have o1 := hO.c1
  have o2 := hO.c2
  have o3 := hO.c3
  have p0 := hO.fz 0
  have p1 := hO.fz 1
  have p2 := hO.fz 2
  have p3 := hO.fz 3
  have r0 := hR.c0
  have r1 := hR.c1
  have r2 := hR.c2
  have r3 := hR.c3
  have q0 := hR.fz 0
  have q1 := hR.fz 1
  have q2 := hR.fz 2
  have q3 := hR.fz 3
  have HR1 := Lib.hid hR
  have HO1 := Lib.hid hO
  clear hP hb hA hR hO HA HR HO HB HU hsz
  go_wp2_with fail
  refine bodyPost_ret (v := houV (.slice (some ⟨g, 0, none⟩) n n) t e d) (results_stored (u := w1.setCells (w.heap.size + 1 + 1) 0 (houL (.slice (some ⟨g, 0, none⟩) n n) t e d)) (b := w.heap.size + 1) (cs := houL (.slice (some ⟨g, 0, none⟩) n n) t e d) Tryd.results49 rfl (World.there_setCells HR1.out.there _ _ _) Tryd.underlying74 rfl (by kernel_rfl)) rfl ⟨g, rfl, ?_, ?_⟩
  · refine owns_below (owns_other (owns_other HP.out (grownBy_cells (houL _ t e d) 0 (grownBy_refl w1 (some (w.heap.size + 1 + 1)))) ?_) (grownBy_cells (houL _ t e d) 0 (grownBy_refl _ (some (w.heap.size + 1)))) ?_) (by have := HSZ.out; omega)
    · intro k hk
      have := (HP.out.lt k hk).1
      have := HSZ.out
      omega
    · intro k hk
      have := (HP.out.lt k hk).1
      have := HSZ.out
      omega
  · exact below_cells (below_cells HB1.out (show w.heap.size ≤ w.heap.size + 1 + 1 by omega) (houL _ t e d) 0) (show w.heap.size ≤ w.heap.size + 1 by omega) (houL _ t e d) 0
theorem szStockS_any (A : Option Addr) (n c : Nat) (left : Int) (hn : n ≤ 9223372036854775807) (hl : 0 ≤ left ∧ left ≤ 1048576) (w : World) :
    Calls Tryd.prog 97 #[.slice A n c, .int .i64 left] w fun e w' => e = .returned (.int .i64 (if left - n < 0 then -1 else left - n)) ∧ w = w' := by
  go_enter Tryd.func97, Tryd.ntmps97
  go_wp2_with fail
  all_goals go_ret
  all_goals exact ⟨rfl, rfl⟩
set_option maxHeartbeats 1000000 in
theorem szHouse_any (A : Option Addr) (n c : Nat) (t e d : Int) (left : Int) (hn : n ≤ 9223372036854775807) (hl : 0 ≤ left ∧ left ≤ 1048576) (w : World) :
    Calls Tryd.prog 47 #[houV (.slice A n c) t e d, .int .i64 left] w fun o w' => o = .returned (.int .i64 (if left - n < 0 then -1 else left - n)) ∧ Below w.heap.size w w' := by
  have B0 := Lib.hid ((Below.refl w.heap.size w).alloc (Nat.le_refl _) (.cells #[.slice A n c, .int .i16 t, .int .i8 e, .int .i16 d] 69))
  by_cases hlt : left - n < 0
  · rw [if_pos hlt]
    go_enter Tryd.func47, Tryd.ntmps47
    go_wp2_with fail
    refine (szStockS_any A n c left hn hl _).mono ?_
    rintro o u ⟨rfl, rfl⟩
    rw [if_pos hlt]
    go_wp2_with fail
    go_ret
    exact ⟨rfl, B0.out⟩
  · have HNO : Hid (¬ left - n < 0) := Lib.hid hlt
    rw [if_neg hlt]
    go_enter Tryd.func47, Tryd.ntmps47
    go_wp2_with fail
    refine (szStockS_any A n c left hn hl _).mono ?_
    rintro o u ⟨rfl, rfl⟩
    rw [if_neg (by have := HNO.out; omega)]
    go_wp2_with fail
    go_ret
    exact ⟨rfl, B0.out⟩
/-- two houses that are held against each other -/
structure EH (w : World) (v v' : Value) (t e d t' e' d' : Int) (u : World) : Prop where
  a : HouAt u w.heap.size v t e d
  c : HouAt u (w.heap.size + 1) v' t' e' d'
  b : Below w.heap.size w u
set_option maxHeartbeats 4000000 in
theorem eqHouse_any (A A' : Option Addr) (n n' c c' : Nat) (xs ys : List Stk) (t e d t' e' d' : Int) (en : n = xs.length) (en' : n' = ys.length) (hn : n ≤ 1048576) (hn' : n' ≤ 9223372036854775807) (w : World) (hg : Sl stkC 25 w w.heap.size A xs) (hg' : Sl stkC 25 w w.heap.size A' ys)
    (b0 b : Bool) (hb0 : b0 = true ↔ eqL xs ys) (hb : b = (b0 && (t == t' && (e == e' && d == d')))) :
    Calls Tryd.prog 51 #[houV (.slice A n c) t e d, houV (.slice A' n' c') t' e' d'] w fun o w' => o = .returned (.bool b) ∧ Below w.heap.size w w' := by
  have En := Lib.hid en
  have En' := Lib.hid en'
  have Hb := Lib.hid hb
  have Hb0 := Lib.hid hb0
  obtain ⟨u, hu⟩ : ∃ u, u = (w.alloc (.cells #[.slice A n c, .int .i16 t, .int .i8 e, .int .i16 d] 74)).alloc (.cells #[.slice A' n' c', .int .i16 t', .int .i8 e', .int .i16 d'] 74) := ⟨_, rfl⟩
  have H0 : Hid (EH w (.slice A n c) (.slice A' n' c') t e d t' e' d' u) := Lib.hid (by
    rw [hu]
    refine ⟨(HouAt.new w _ t e d _).next ((Below.refl _ _).alloc (Nat.le_refl _) _), ?_, ((Below.refl _ _).alloc (Nat.le_refl _) _).alloc (by simp) _⟩
    have := HouAt.new (w.alloc (.cells #[.slice A n c, .int .i16 t, .int .i8 e, .int .i16 d] 74)) (.slice A' n' c') t' e' d' 74
    rwa [World.size_alloc] at this)
  have HU := Lib.hid hu
  clear hu en en' hb hb0
  go_enter Tryd.func51, Tryd.ntmps51
  go_wp2_with fail
  rw [← HU.out]
  refine (eqStockS_any A A' n n' c c' xs ys En.out En'.out hn hn' _ ((hg.below H0.out.b).more H0.out.b.size) ((hg'.below H0.out.b).more H0.out.b.size) b0 Hb0.out).mono ?_
  rintro o w1 ⟨rfl, hb1⟩
  have hA := H0.out.a.next hb1
  have hC := H0.out.c.next hb1
  have HB1 := Lib.hid (below_next H0.out.b hb1 (Nat.le_refl _))
  have a1 := hA.c1
  have a2 := hA.c2
  have a3 := hA.c3
  have c1 := hC.c1
  have c2 := hC.c2
  have c3 := hC.c3
  clear hb1 hA hC H0 HU
  cases b0 with
  | false =>
    obtain rfl : b = false := Hb.out
    go_wp2_with fail
    go_ret
    exact ⟨rfl, HB1.out⟩
  | true =>
    by_cases h1 : t = t'
    · have h1' : (t != t') = false := by simpa using h1
      by_cases h2 : e = e'
      · have h2' : (e != e') = false := by simpa using h2
        by_cases h3 : d = d'
        · have h3' : (d != d') = false := by simpa using h3
          obtain rfl : b = true := Hb.out.trans (by simp [h1, h2, h3])
          clear h1 h2 h3
          go_wp2_with fail
          go_ret
          exact ⟨rfl, HB1.out⟩
        · have h3' : (d != d') = true := by simpa using h3
          obtain rfl : b = false := Hb.out.trans (by simp [h3])
          clear h1 h2 h3
          go_wp2_with fail
          go_ret
          exact ⟨rfl, HB1.out⟩
      · have h2' : (e != e') = true := by simpa using h2
        obtain rfl : b = false := Hb.out.trans (by simp [h2])
        clear h1 h2
        go_wp2_with fail
        go_ret
        exact ⟨rfl, HB1.out⟩
    · have h1' : (t != t') = true := by simpa using h1
      obtain rfl : b = false := Hb.out.trans (by simp [h1])
      clear h1
      go_wp2_with fail
      go_ret
      exact ⟨rfl, HB1.out⟩
end Go.Proofs.YtjfimmfnhlimkaaDoor.hou

/-
  Stocks and houses of the call's own are marked by the laws, and what was marked is still held.
-/
namespace Go.Proofs.YtjfimmfnhlimkaaDoor.hou
open Go Go.RowKit sl row stk

/-- a marked stock -/
def mkS (k : Int) : Stk := fun j => if j = 24 then wrap32 (k + 24) else IntKind.i16.wrap (k + (j : Int))
def marksS (k : Int) (n : Nat) : List Stk := (List.range n).map fun i : Nat => mkS (k + 25 * (i : Int))
theorem marksS_len (k : Int) (n : Nat) : (marksS k n).length = n := by simp [marksS]
theorem marksS_at (k : Int) {n i : Nat} (h : i < n) : (marksS k n)[i]? = some (mkS (k + 25 * (i : Int))) := by simp [marksS, h]
theorem mkS_16 (k : Int) {j : Nat} (h : j < 24) : cellS (mkS k) j = .int .i16 (IntKind.i16.wrap (k + (j : Int))) := by
  rw [cellS_16 _ h]
  unfold mkS
  rw [if_neg (by omega)]
theorem mkS_24 (k : Int) : cellS (mkS k) 24 = .int .i32 (wrap32 (k + 24)) := rfl
/-- the first t numbers of stock i are marked -/
def PD (k : Int) (i t : Nat) (L : List Value) : Prop := ∀ j, j < t → L[i * 25 + j]? = some (cellS (mkS (k + 25 * (i : Int))) j)
theorem PD.set {k : Int} {i t : Nat} {L : List Value} (h : PD k i t L) (hl : i * 25 + t < L.length) {v : Value} (hv : v = cellS (mkS (k + 25 * (i : Int))) t) : PD k i (t + 1) (L.set (i * 25 + t) v) := fun j hj => by
  by_cases e : j = t
  · subst e
    rw [List.getElem?_set_self hl, hv]
  · rw [List.getElem?_set_ne (by omega)]
    exact h j (by omega)
theorem Done.set {k : Int} {n i : Nat} {L : List Value} (h : Done stkC 25 (marksS k n) i L) {q : Nat} (hq : i * 25 ≤ q) (v : Value) : Done stkC 25 (marksS k n) i (L.set q v) := fun a x ha hx j u hj => by
  have hj25 : j < 25 := (lst_some hj).1
  rw [List.getElem?_set_ne (by omega)]
  exact h a x ha hx j u hj
theorem Done.next {k : Int} {n i : Nat} {L : List Value} (h : Done stkC 25 (marksS k n) i L) (hi : i < n) (p : PD k i 25 L) : Done stkC 25 (marksS k n) (i + 1) L := fun a x ha hx j u hj => by
  rcases Nat.lt_or_ge a i with h1 | h1
  · exact h a x h1 hx j u hj
  · obtain rfl : a = i := by omega
    rw [marksS_at k hi] at hx
    obtain rfl := Option.some.inj hx
    obtain ⟨h25, rfl⟩ := lst_some hj
    exact p j h25
end Go.Proofs.YtjfimmfnhlimkaaDoor.hou
