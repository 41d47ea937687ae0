/-
  Several texts of this proof, joined.
-/
import Derived.Test.YtjfimmfnhlimkaaDoorRowAt
import Derived.Test.YtjfimmfnhlimkaaDoorResRow
import Derived.Deep.QuietTactic
import Derived.BigQuiet
/-
  Stocks in plain words: 24 numbers of 16 bits and one of 32; their cells, a stock in a block. Copied and compared by the laws.
-/
namespace Go.Proofs.YtjfimmfnhlimkaaDoor.stk
open Go Go.RowKit sl row

/-- a stock: the number at each place, 0 to 7 clean, 8 to 15 used, 16 to 23 dirty, 24 the rags -/
abbrev Stk := Nat → Int
def cellS (f : Stk) (j : Nat) : Value := if j = 24 then .int .i32 (f j) else .int .i16 (f j)
def cellA (f : Stk) (o j : Nat) : Value := .int .i16 (f (o + j))
/-- the cells of a stock -/
def stkCs (f : Stk) : Array Value := (lst 25 (cellS f)).toArray
abbrev stkV (f : Stk) : Value := .agg (stkCs f)
/-- the cells of eight numbers -/
def arrCs (f : Stk) (o : Nat) : Array Value := (lst 8 (cellA f o)).toArray
abbrev arrV (f : Stk) (o : Nat) : Value := .agg (arrCs f o)
structure Fits (f : Stk) : Prop where
  lo : ∀ j, j < 24 → -32768 ≤ f j
  hi : ∀ j, j < 24 → f j ≤ 32767
  rlo : -2147483648 ≤ f 24
  rhi : f 24 ≤ 2147483647
theorem cellS_16 (f : Stk) {j : Nat} (h : j < 24) : cellS f j = .int .i16 (f j) := by unfold cellS; rw [if_neg (by omega)]
theorem cellS_24 (f : Stk) : cellS f 24 = .int .i32 (f 24) := rfl
theorem cellS_one (f : Stk) (j : Nat) : (cellS f j).oneCell' = true := by unfold cellS; split <;> rfl
theorem cellA_one (f : Stk) (o j : Nat) : (cellA f o j).oneCell' = true := rfl
theorem stkCs_size (f : Stk) : (stkCs f).size = 25 := by simp [stkCs, lst_len]
theorem arrCs_size (f : Stk) (o : Nat) : (arrCs f o).size = 8 := by simp [arrCs, lst_len]
theorem stkCs_one (f : Stk) : (stkCs f).all (·.oneCell') = true := lst_one fun j _ => cellS_one f j
theorem arrCs_one (f : Stk) (o : Nat) : (arrCs f o).all (·.oneCell') = true := lst_one fun _ _ => rfl
theorem cellS_inj {f g : Stk} {j : Nat} (h : cellS f j = cellS g j) : f j = g j := by
  unfold cellS at h
  split at h <;> simpa using h
theorem stkV_congr {f g : Stk} (h : ∀ j, j < 25 → f j = g j) : stkV f = stkV g := by
  unfold stkV stkCs
  rw [lst_congr (d := cellS g) fun j hj => by unfold cellS; rw [h j hj]]
abbrev zeroS : Stk := fun _ => 0

theorem infoS : (Tryd.prog.info? 153).map (·.size) = some 25 := by kernel_rfl
theorem zeroSi : (Tryd.prog.info? 153).map (fun i => (i.zero, i.size)) = some (some (.agg (stkCs zeroS)), 25) := by kernel_rfl
theorem infoA : (Tryd.prog.info? 151).map (·.size) = some 8 := by kernel_rfl
theorem zeroAi : (Tryd.prog.info? 151).map (fun i => (i.zero, i.size)) = some (some (.agg (arrCs zeroS 0)), 8) := by kernel_rfl

/-- a stock lies at p of block b -/
abbrev StkAt (u : World) (b p : Nat) (f : Stk) : Prop := RowAt u b p 25 (cellS f)
abbrev StkOwn (u : World) (b p : Nat) (f : Stk) : Prop := RowOwn u b p 25 (cellS f)
abbrev ArrAt (u : World) (b p : Nat) (f : Stk) (o : Nat) : Prop := RowAt u b p 8 (cellA f o)
abbrev ArrOwn (u : World) (b p : Nat) (f : Stk) (o : Nat) : Prop := RowOwn u b p 8 (cellA f o)
theorem StkAt.arr {u : World} {b p : Nat} {f : Stk} (h : StkAt u b p f) (o : Nat) (ho : o + 8 ≤ 24) : ArrAt u b (p + o) f o :=
  (h.sub o 8 (by omega)).to fun j hj => cellS_16 f (by omega)
/-- one number changed -/
def upd (f : Stk) (j : Nat) (x : Int) : Stk := fun i => if i = j then x else f i
theorem StkOwn.set {u : World} {b p : Nat} {f : Stk} (h : StkOwn u b p f) {j : Nat} (hj : j < 24) (x : Int) : StkOwn (u.setCell ⟨b, p + j, none⟩ (.int .i16 x)) b p (upd f j x) :=
  (RowOwn.set h (show j < 25 by omega) (.int .i16 x)).to fun i hi => by
    unfold cellS upd
    by_cases e : i = j
    · subst e; rw [if_pos rfl, if_neg (by omega), if_pos rfl]
    · rw [if_neg e, if_neg e]
theorem StkOwn.setRags {u : World} {b p : Nat} {f : Stk} (h : StkOwn u b p f) (x : Int) : StkOwn (u.setCell ⟨b, p + 24, none⟩ (.int .i32 x)) b p (upd f 24 x) :=
  (RowOwn.set h (show 24 < 25 by omega) (.int .i32 x)).to fun i hi => by
    unfold cellS upd
    by_cases e : i = 24
    · subst e; rfl
    · rw [if_neg e, if_neg e, if_neg e, if_neg e]
theorem ArrOwn.set {u : World} {b p : Nat} {f : Stk} {o : Nat} (h : ArrOwn u b p f o) {j : Nat} (hj : j < 8) (x : Int) : ArrOwn (u.setCell ⟨b, p + j, none⟩ (.int .i16 x)) b p (upd f (o + j) x) o :=
  (RowOwn.set h hj (.int .i16 x)).to fun i hi => by
    unfold cellA upd
    by_cases e : i = j
    · subst e; rw [if_pos rfl, if_pos rfl]
    · rw [if_neg e, if_neg (by omega)]
/-- eight numbers changed -/
def upd8 (f : Stk) (o : Nat) (g : Stk) (q : Nat) : Stk := fun i => if o ≤ i ∧ i < o + 8 then g (q + (i - o)) else f i
theorem StkOwn.set8 {u : World} {b p : Nat} {f : Stk} (h : StkOwn u b p f) {o : Nat} (ho : o + 8 ≤ 24) (g : Stk) (q : Nat) : StkOwn (u.setCells b (p + o) (lst 8 (cellA g q))) b p (upd8 f o g q) :=
  (RowOwn.sets h o 8 (by omega) (cellA g q)).to fun i hi => by
    unfold cellS upd8 cellA
    by_cases e : o ≤ i ∧ i < o + 8
    · rw [if_pos e, if_pos e, if_neg (by omega)]
    · rw [if_neg e, if_neg e]

section
variable {ops : Array Oper} {rest : List Oper} {op : Oper} {a : Act} {u : World} {Q : Exit → Act → World → Prop}
/-- a stock, or eight numbers, read and written, as a walk meets it -/
theorem wpl_load_stk (hgd : op.guard = none) (x : Operand) (ho : op.op = .load 153 x) (b p : Nat) (hx : a.eval x = .pointer (some ⟨b, p, none⟩))
    {f : Stk} (h : StkAt u b p f) (hK : wpList Tryd.prog ops Q rest (a.put op.dst (stkV f)) u) : wpList Tryd.prog ops Q (op :: rest) a u :=
  wpList_load_mid hgd 153 x ho b p hx (lst 25 (cellS f)) _ h.range Tryd.underlying153 rfl (by rw [infoS, lst_len]) hK
theorem wpl_store_stk (hgd : op.guard = none) (x y : Operand) (ho : op.op = .store 153 x y) (b p : Nat) (hx : a.eval x = .pointer (some ⟨b, p, none⟩))
    {f g : Stk} (hy : a.eval y = stkV f) (ht : StkOwn u b p g) (hK : wpList Tryd.prog ops Q rest (a.put op.dst undef) (u.setCells b p (lst 25 (cellS f)))) : wpList Tryd.prog ops Q (op :: rest) a u :=
  wpList_store_mid hgd 153 x y ho b p (stkCs f) hx hy (by rw [stkCs_size]; exact ht.there) (by rw [infoS, stkCs_size]) (stkCs_one f) hK
theorem wpl_load_arr (hgd : op.guard = none) (x : Operand) (ho : op.op = .load 151 x) (b p : Nat) (hx : a.eval x = .pointer (some ⟨b, p, none⟩))
    {f : Stk} {o : Nat} (h : ArrAt u b p f o) (hK : wpList Tryd.prog ops Q rest (a.put op.dst (arrV f o)) u) : wpList Tryd.prog ops Q (op :: rest) a u :=
  wpList_load_mid hgd 151 x ho b p hx (lst 8 (cellA f o)) _ h.range Tryd.underlying151 rfl (by rw [infoA, lst_len]) hK
theorem wpl_store_arr (hgd : op.guard = none) (x y : Operand) (ho : op.op = .store 151 x y) (b p : Nat) (hx : a.eval x = .pointer (some ⟨b, p, none⟩))
    {f : Stk} {o : Nat} (hy : a.eval y = arrV f o) (ht : u.there b p 8) (hK : wpList Tryd.prog ops Q rest (a.put op.dst undef) (u.setCells b p (lst 8 (cellA f o)))) : wpList Tryd.prog ops Q (op :: rest) a u :=
  wpList_store_mid hgd 151 x y ho b p (arrCs f o) hx hy (by rw [arrCs_size]; exact ht) (by rw [infoA, arrCs_size]) (arrCs_one f o) hK
end
theorem StkOwn.there8 {u : World} {b p : Nat} {f : Stk} (h : StkOwn u b p f) (o : Nat) (ho : o + 8 ≤ 24) : u.there b (p + o) 8 := (h.sub o 8 (by omega)).there
theorem StkOwn.new (w : World) (f : Stk) (T : TypeId) : StkOwn (w.alloc (.cells (stkCs f) T)) w.heap.size 0 f := RowOwn.new w 25 (cellS f) T
theorem ArrOwn.new (w : World) (f : Stk) (o : Nat) (T : TypeId) : ArrOwn (w.alloc (.cells (arrCs f o) T)) w.heap.size 0 f o := RowOwn.new w 8 (cellA f o) T
theorem StkOwn.stored {u : World} {b p : Nat} {g : Stk} (h : StkOwn u b p g) (f : Stk) : StkOwn (u.setCells b p (lst 25 (cellS f))) b p f :=
  (RowOwn.sets (o := 0) (m := 25) h (by omega) (cellS f)).to fun j hj => by rw [if_pos (by omega), Nat.sub_zero]
theorem ArrOwn.stored {u : World} {b p o q : Nat} {g : Stk} (h : ArrOwn u b p g q) (f : Stk) : ArrOwn (u.setCells b p (lst 8 (cellA f o))) b p f o :=
  (RowOwn.sets (o := 0) (m := 8) h (by omega) (cellA f o)).to fun j hj => by rw [if_pos (by omega), Nat.sub_zero]
theorem below_lst {B : Nat} {a w : World} (h : Below B a w) {g : Nat} (hg : B ≤ g) (vs : List Value) (o : Nat) : Below B a (w.setCells g o vs) := below_cells h hg vs o
end Go.Proofs.YtjfimmfnhlimkaaDoor.stk

/-
  Stocks are copied and compared by the laws.
-/
namespace Go.Proofs.YtjfimmfnhlimkaaDoor.stk
open Go Go.RowKit sl row

set_option maxRecDepth 100000 in
set_option maxHeartbeats 4000000 in
theorem toA8_any (f : Stk) (o : Nat) (w : World) :
    Calls Tryd.prog 165 #[arrV f o] w fun e w' => e = .returned (arrV f o) ∧ Below w.heap.size w w' := by
  have hzz : ∀ u : World, (zeroValue 151).run Tryd.prog u = .ok (.agg (arrCs zeroS 0)) u := (zero_of_info zeroAi).1
  go_enter Tryd.func165, Tryd.ntmps165
  go_wp2_with fail
  obtain ⟨u, hu⟩ : ∃ u, u = ((w.alloc (.cells (arrCs f o) 151)).alloc (.cells (arrCs zeroS 0) 151)).alloc (.cells (arrCs zeroS 0) 151) := ⟨_, rfl⟩
  have A0 : ArrOwn u w.heap.size 0 f o := by
    rw [hu]
    exact ((ArrOwn.new w f o _).next ((Below.refl _ _).alloc (Nat.le_refl _) _)).next ((Below.refl _ _).alloc (Nat.le_refl _) _)
  have R0 : ArrOwn u (w.heap.size + 1) 0 zeroS 0 := by
    rw [hu]
    have := ArrOwn.new (w.alloc (.cells (arrCs f o) 151)) zeroS 0 151
    rw [World.size_alloc] at this
    exact this.next ((Below.refl _ _).alloc (Nat.le_refl _) _)
  have O0 : ArrOwn u (w.heap.size + 1 + 1) 0 zeroS 0 := by
    rw [hu]
    have := ArrOwn.new ((w.alloc (.cells (arrCs f o) 151)).alloc (.cells (arrCs zeroS 0) 151)) zeroS 0 151
    rw [World.size_alloc, World.size_alloc] at this
    exact this
  have B0 : Below w.heap.size w u := by
    rw [hu]
    exact (((Below.refl _ _).alloc (Nat.le_refl _) _).alloc (by simp) _).alloc (by simp; omega) _
  rw [← hu]
  have HA0 := Lib.hid A0
  have HR0 := Lib.hid R0
  have HO0 := Lib.hid O0
  have HB0 := Lib.hid B0
  clear hu R0 O0 A0 B0 hzz
  go_loopw [4] (fun vi wr => ∃ (k : Nat) (g : Stk), k ≤ 8 ∧ vi = .int .i64 (k : Nat) ∧ ArrOwn wr w.heap.size 0 f o ∧ ArrOwn wr (w.heap.size + 1) 0 zeroS 0 ∧ ArrOwn wr (w.heap.size + 1 + 1) 0 g 0 ∧ (∀ j, j < k → g j = f (o + j)) ∧ Below w.heap.size w wr) (fun vi _ => 8 - (intOf vi).toNat)
  case atStart => exact ⟨0, _, by omega, rfl, HA0.out, HR0.out, HO0.out, fun j hj => absurd hj (by omega), HB0.out⟩
  case round =>
    clear HA0 HR0 HO0 HB0
    obtain ⟨k, g, hk, rfl, hA, hR, hO, hg, hB⟩ := hrel
    have HR := Lib.hid hR
    have HO := Lib.hid hO
    have HG := Lib.hid hg
    have HA := Lib.hid hA
    have HB := Lib.hid hB
    clear hR hO hg hA hB
    by_cases hlt : k < 8
    · have c0 : wr.cell? ⟨w.heap.size, k, none⟩ = some (.int .i16 (f (o + k))) := by simpa [cellA] using HA.out.cell k hlt
      have s0 : wr.cell? ⟨w.heap.size + 1 + 1, k, none⟩ = some (.int .i16 (g k)) := by simpa [cellA] using HO.out.cell k hlt
      have f0 : wr.frozen? ⟨w.heap.size + 1 + 1, k, none⟩ = false := by simpa using HO.out.free k hlt
      go_wp2_with fail
      go_roundw
      case rel =>
        have h3 := ArrOwn.set HO.out hlt (f (o + k))
        rw [Nat.zero_add] at h3
        exact ⟨k + 1, _, by omega, by go_num, RowOwn.set_other HA.out (by simp; omega) _, RowOwn.set_other HR.out (by simp) _, h3, fun j hj => by
          unfold upd
          by_cases e : j = k
          · rw [if_pos e, e]
          · rw [if_neg e, HG.out j (by omega)], HB.out.setCell (by simp; omega) _⟩
      case measure => simp [intOf]; omega
    · obtain rfl : k = 8 := by omega
      have hO : ArrOwn wr (w.heap.size + 1 + 1) 0 f o := HO.out.to fun j hj => by
        unfold cellA
        rw [Nat.zero_add, HG.out j hj]
      have HO2 := Lib.hid hO
      have HS := Lib.hid ((ArrOwn.stored (o := o) HR.out f).toRowAt)
      clear hO HO HG
      go_wp2_with (first | (refine wpl_load_arr rfl (.tmp 3) rfl (w.heap.size + 1 + 1) 0 rfl HO2.out.toRowAt ?_) | (refine wpl_store_arr rfl (.tmp 2) (.tmp 14) rfl (w.heap.size + 1) 0 rfl (f := f) (o := o) rfl HR.out.there ?_))
      refine bodyPost_ret (v := arrV f o) (results_row Tryd.results165 rfl HS.out.range Tryd.underlying151 rfl (by rw [infoA, lst_len])) rfl ⟨rfl, ?_⟩
      exact below_cells HB.out (by omega) _ _
/-- are eight numbers equal to eight others -/
def eq8 (f : Stk) (o : Nat) (g : Stk) (q : Nat) : Bool := (List.range 8).all fun j => f (o + j) == g (q + j)
theorem eq8_iff {f g : Stk} {o q : Nat} : eq8 f o g q = true ↔ ∀ j, j < 8 → f (o + j) = g (q + j) := by
  simp [eq8, List.all_eq_true]
set_option maxRecDepth 100000 in
set_option maxHeartbeats 4000000 in
theorem eqA8_any (f g : Stk) (o q : Nat) (b : Bool) (hb : eq8 f o g q = b) (w : World) :
    Calls Tryd.prog 173 #[arrV f o, arrV g q] w fun e w' => e = .returned (.bool b) ∧ Below w.heap.size w w' := by
  have Hb := Lib.hid hb
  clear hb
  go_enter Tryd.func173, Tryd.ntmps173
  go_wp2_with fail
  obtain ⟨u, hu⟩ : ∃ u, u = (w.alloc (.cells (arrCs f o) 151)).alloc (.cells (arrCs g q) 151) := ⟨_, rfl⟩
  have A0 : ArrAt u w.heap.size 0 f o := by
    rw [hu]
    exact ((ArrOwn.new w f o _).next ((Below.refl _ _).alloc (Nat.le_refl _) _)).toRowAt
  have A1 : ArrAt u (w.heap.size + 1) 0 g q := by
    rw [hu]
    have := ArrOwn.new (w.alloc (.cells (arrCs f o) 151)) g q 151
    rw [World.size_alloc] at this
    exact this.toRowAt
  have B0 : Below w.heap.size w u := by
    rw [hu]
    exact ((Below.refl _ _).alloc (Nat.le_refl _) _).alloc (by simp) _
  rw [← hu]
  have HA := Lib.hid A0
  have HC := Lib.hid A1
  have HB := Lib.hid B0
  clear hu A0 A1 B0
  go_loopw [5] (fun vi wr => ∃ k m : Nat, k ≤ 8 ∧ vi = .int .i64 (k : Nat) ∧ wr = u.drewN m ∧ (∀ j, j < k → f (o + j) = g (q + j))) (fun vi _ => 8 - (intOf vi).toNat)
  case atStart => exact ⟨0, 0, by omega, rfl, rfl, fun j hj => absurd hj (by omega)⟩
  case round =>
    obtain ⟨k, m, hk, rfl, rfl, hg⟩ := hrel
    have HG := Lib.hid hg
    clear hg
    have HD := Lib.hid (HB.out.trans (below_drewN _ u m))
    by_cases hlt : k < 8
    · have c0 : u.cell? ⟨w.heap.size, k, none⟩ = some (.int .i16 (f (o + k))) := by simpa [cellA] using HA.out.cell k hlt
      have c1 : u.cell? ⟨w.heap.size + 1, k, none⟩ = some (.int .i16 (g (q + k))) := by simpa [cellA] using HC.out.cell k hlt
      have k0 : (0 : Int) ≤ (k : Int) ∧ (k : Int) < 8 := ⟨by omega, by omega⟩
      go_wp2_with fail
      go_quiet (fail)
      by_cases e : f (o + k) = g (q + k)
      · have E := Lib.hid e
        have e2 : (f (o + k) != g (q + k)) = false := by simpa using e
        clear e
        go_wp2_with fail
        go_roundw
        case rel => exact ⟨k + 1, _, by omega, by go_num, rfl, fun j hj => by
          by_cases e : j = k
          · rw [e]; exact E.out
          · exact HG.out j (by omega)⟩
        case measure => simp [intOf]; omega
      · have e2 : (f (o + k) != g (q + k)) = true := by simpa using e
        have hno : b = false := by
          cases hbb : b with
          | false => rfl
          | true => exact absurd (eq8_iff.1 (Hb.out.trans hbb) k hlt) e
        subst hno
        clear e
        go_wp2_with fail
        go_ret
        exact ⟨rfl, HD.out.trans (below_drewN _ _ _)⟩
    · have hyes : b = true := by
        rw [← Hb.out, eq8_iff]
        exact fun j hj => HG.out j (by omega)
      subst hyes
      go_wp2_with fail
      go_ret
      exact ⟨rfl, HD.out⟩
/-- three stocks in three blocks, one behind the other: what is copied, the result, the copy -/
structure TS (w : World) (f g : Stk) (u : World) : Prop where
  a : StkOwn u w.heap.size 0 f
  r : StkOwn u (w.heap.size + 1) 0 zeroS
  o : StkOwn u (w.heap.size + 1 + 1) 0 g
  b : Below w.heap.size w u
theorem TS.next {w : World} {f g : Stk} {u v : World} (h : TS w f g u) (hb : Below u.heap.size u v) : TS w f g v :=
  ⟨h.a.next hb, h.r.next hb, h.o.next hb, below_next h.b hb (Nat.le_refl _)⟩
theorem TS.set8 {w : World} {f g : Stk} {u : World} (h : TS w f g u) {o : Nat} (ho : o + 8 ≤ 24) : TS w f (upd8 g o f o) (u.setCells (w.heap.size + 1 + 1) o (lst 8 (cellA f o))) := by
  have h1 := StkOwn.set8 h.o ho f o
  rw [Nat.zero_add] at h1
  exact ⟨RowOwn.sets_other h.a (by omega) _ _, RowOwn.sets_other h.r (by omega) _ _, h1, below_cells h.b (by omega) _ _⟩
theorem TS.there {w : World} {f g : Stk} {u : World} (h : TS w f g u) {o : Nat} (ho : o + 8 ≤ 24) : u.there (w.heap.size + 1 + 1) o 8 := by
  have h1 := StkOwn.there8 h.o o ho
  rwa [Nat.zero_add] at h1
theorem TS.arr {w : World} {f g : Stk} {u : World} (h : TS w f g u) {o : Nat} (ho : o + 8 ≤ 24) : ArrAt u w.heap.size o f o := by
  have h1 := StkAt.arr h.a.toRowAt o ho
  rwa [Nat.zero_add] at h1
theorem TS.rags {w : World} {f g : Stk} {u : World} (h : TS w f g u) (x : Int) : TS w f (upd g 24 x) (u.setCell ⟨w.heap.size + 1 + 1, 24, none⟩ (.int .i32 x)) :=
  ⟨RowOwn.set_other h.a (by simp; omega) _, RowOwn.set_other h.r (by simp) _, StkOwn.setRags h.o x, h.b.setCell (by simp; omega) _⟩
theorem TS.to {w : World} {f g g' : Stk} {u : World} (h : TS w f g u) (hg : ∀ j, j < 25 → g j = g' j) : TS w f g' u :=
  ⟨h.a, h.r, h.o.to fun j hj => by unfold cellS; rw [hg j hj], h.b⟩
set_option maxRecDepth 100000 in
set_option maxHeartbeats 4000000 in
theorem toStock_any (f : Stk) (w : World) :
    Calls Tryd.prog 139 #[stkV f] w fun e w' => e = .returned (stkV f) ∧ Below w.heap.size w w' := by
  have hzz : ∀ u : World, (zeroValue 153).run Tryd.prog u = .ok (.agg (stkCs zeroS)) u := (zero_of_info zeroSi).1
  obtain ⟨u, hu⟩ : ∃ u, u = ((w.alloc (.cells (stkCs f) 193)).alloc (.cells (stkCs zeroS) 153)).alloc (.cells (stkCs zeroS) 153) := ⟨_, rfl⟩
  have A0 : StkOwn u w.heap.size 0 f := by
    rw [hu]
    exact ((StkOwn.new w f _).next ((Below.refl _ _).alloc (Nat.le_refl _) _)).next ((Below.refl _ _).alloc (Nat.le_refl _) _)
  have R0 : StkOwn u (w.heap.size + 1) 0 zeroS := by
    rw [hu]
    have := StkOwn.new (w.alloc (.cells (stkCs f) 193)) zeroS 153
    rw [World.size_alloc] at this
    exact this.next ((Below.refl _ _).alloc (Nat.le_refl _) _)
  have O0 : StkOwn u (w.heap.size + 1 + 1) 0 zeroS := by
    rw [hu]
    have := StkOwn.new ((w.alloc (.cells (stkCs f) 193)).alloc (.cells (stkCs zeroS) 153)) zeroS 153
    rw [World.size_alloc, World.size_alloc] at this
    exact this
  have B0 : Below w.heap.size w u := by
    rw [hu]
    exact (((Below.refl _ _).alloc (Nat.le_refl _) _).alloc (by simp) _).alloc (by simp; omega) _
  have HU := Lib.hid hu
  have H0 : Hid (TS w f zeroS u) := Lib.hid ⟨A0, R0, O0, B0⟩
  clear hu A0 R0 O0 B0
  go_enter Tryd.func139, Tryd.ntmps139
  go_wp2_with (rw [← HU.out]; refine wpl_load_arr rfl (.tmp 4) rfl w.heap.size 0 rfl (f := f) (o := 0) (H0.out.arr (by omega)) ?_)
  clear hzz
  refine (toA8_any f 0 _).mono ?_
  rintro e w1 ⟨rfl, hb⟩
  have H1 := Lib.hid (H0.out.next hb)
  obtain ⟨w2, hw2⟩ : ∃ w2, w2 = w1.setCells (w.heap.size + 1 + 1) 0 (lst 8 (cellA f 0)) := ⟨_, rfl⟩
  have H2 : Hid (TS w f (upd8 zeroS 0 f 0) w2) := Lib.hid (by rw [hw2]; exact H1.out.set8 (by omega))
  have HW2 := Lib.hid hw2
  clear hw2 hb HU H0
  go_wp2_with (first
    | (refine wpl_store_arr rfl (.tmp 7) (.tmp 6) rfl (w.heap.size + 1 + 1) 0 rfl (f := f) (o := 0) rfl (H1.out.there (by omega)) ?_; rw [← HW2.out])
    | (refine wpl_load_arr rfl (.tmp 8) rfl w.heap.size 8 rfl (f := f) (o := 8) (H2.out.arr (by omega)) ?_)
    | fail)
  refine (toA8_any f 8 _).mono ?_
  rintro e w3 ⟨rfl, hb⟩
  have H3 := Lib.hid (H2.out.next hb)
  obtain ⟨w4, hw4⟩ : ∃ w4, w4 = w3.setCells (w.heap.size + 1 + 1) 8 (lst 8 (cellA f 8)) := ⟨_, rfl⟩
  have H4 : Hid (TS w f (upd8 (upd8 zeroS 0 f 0) 8 f 8) w4) := Lib.hid (by rw [hw4]; exact H3.out.set8 (by omega))
  have HW4 := Lib.hid hw4
  clear hw4 hb HW2 H1 H2
  go_wp2_with (first
    | (refine wpl_store_arr rfl (.tmp 11) (.tmp 10) rfl (w.heap.size + 1 + 1) 8 rfl (f := f) (o := 8) rfl (H3.out.there (by omega)) ?_; rw [← HW4.out])
    | (refine wpl_load_arr rfl (.tmp 12) rfl w.heap.size 16 rfl (f := f) (o := 16) (H4.out.arr (by omega)) ?_)
    | fail)
  refine (toA8_any f 16 _).mono ?_
  rintro e w5 ⟨rfl, hb⟩
  have H5 := Lib.hid (H4.out.next hb)
  obtain ⟨w6, hw6⟩ : ∃ w6, w6 = w5.setCells (w.heap.size + 1 + 1) 16 (lst 8 (cellA f 16)) := ⟨_, rfl⟩
  have H6 : Hid (TS w f (upd8 (upd8 (upd8 zeroS 0 f 0) 8 f 8) 16 f 16) w6) := Lib.hid (by rw [hw6]; exact H5.out.set8 (by omega))
  have HW6 := Lib.hid hw6
  have c0 : w6.cell? ⟨w.heap.size, 24, none⟩ = some (.int .i32 (f 24)) := H6.out.a.cell 24 (by omega)
  have s0 : w6.cell? ⟨w.heap.size + 1 + 1, 24, none⟩ = some (cellS (upd8 (upd8 (upd8 zeroS 0 f 0) 8 f 8) 16 f 16) 24) := H6.out.o.cell 24 (by omega)
  have f0 : w6.frozen? ⟨w.heap.size + 1 + 1, 24, none⟩ = false := H6.out.o.free 24 (by omega)
  obtain ⟨w7, hw7⟩ : ∃ w7, w7 = w6.setCell ⟨w.heap.size + 1 + 1, 24, none⟩ (.int .i32 (f 24)) := ⟨_, rfl⟩
  have H7 : Hid (TS w f f w7) := Lib.hid (by
    rw [hw7]
    refine (H6.out.rags (f 24)).to fun j hj => ?_
    unfold upd upd8
    repeat' split
    all_goals first | omega | (congr 1; omega))
  have HW7 := Lib.hid hw7
  have HS := Lib.hid (StkOwn.stored H7.out.r f).toRowAt
  clear hw6 hw7 hb HW4 H3 H4
  go_wp2_with (first
    | (refine wpl_store_arr rfl (.tmp 15) (.tmp 14) rfl (w.heap.size + 1 + 1) 16 rfl (f := f) (o := 16) rfl (H5.out.there (by omega)) ?_; rw [← HW6.out])
    | (rw [← HW7.out]; refine wpl_load_stk rfl (.tmp 3) rfl (w.heap.size + 1 + 1) 0 rfl (f := f) H7.out.o.toRowAt ?_)
    | (refine wpl_store_stk rfl (.tmp 2) (.tmp 19) rfl (w.heap.size + 1) 0 rfl (f := f) rfl H7.out.r ?_)
    | fail)
  refine bodyPost_ret (v := stkV f) (results_row Tryd.results139 rfl HS.out.range Tryd.underlying153 rfl (by rw [infoS, lst_len])) rfl ⟨rfl, ?_⟩
  exact below_cells H7.out.b (by omega) _ _
/-- are two stocks equal -/
def eqS (f g : Stk) : Bool := (List.range 25).all fun j => f j == g j
theorem eqS_iff {f g : Stk} : eqS f g = true ↔ ∀ j, j < 25 → f j = g j := by simp [eqS, List.all_eq_true]
theorem eqS_parts (f g : Stk) : eqS f g = (eq8 f 0 g 0 && (eq8 f 8 g 8 && (eq8 f 16 g 16 && f 24 == g 24))) := by
  rw [Bool.eq_iff_iff, eqS_iff]
  simp only [Bool.and_eq_true, eq8_iff, beq_iff_eq, Nat.zero_add]
  constructor
  · exact fun h => ⟨fun j hj => h j (by omega), fun j hj => h _ (by omega), fun j hj => h _ (by omega), h 24 (by omega)⟩
  · rintro ⟨h0, h1, h2, h3⟩ j hj
    rcases Nat.lt_or_ge j 8 with a | a
    · exact h0 j a
    · rcases Nat.lt_or_ge j 16 with b | b
      · have := h1 (j - 8) (by omega)
        rwa [show 8 + (j - 8) = j by omega] at this
      · rcases Nat.lt_or_ge j 24 with c | c
        · have := h2 (j - 16) (by omega)
          rwa [show 16 + (j - 16) = j by omega] at this
        · obtain rfl : j = 24 := by omega
          exact h3
/-- two stocks that are held against each other -/
structure ES (w : World) (f g : Stk) (u : World) : Prop where
  a : StkOwn u w.heap.size 0 f
  c : StkOwn u (w.heap.size + 1) 0 g
  b : Below w.heap.size w u
theorem ES.next {w : World} {f g : Stk} {u v : World} (h : ES w f g u) (hb : Below u.heap.size u v) : ES w f g v :=
  ⟨h.a.next hb, h.c.next hb, below_next h.b hb (Nat.le_refl _)⟩
theorem ES.arr {w : World} {f g : Stk} {u : World} (h : ES w f g u) {o : Nat} (ho : o + 8 ≤ 24) : ArrAt u w.heap.size o f o := by
  have h1 := StkAt.arr h.a.toRowAt o ho
  rwa [Nat.zero_add] at h1
theorem ES.arr2 {w : World} {f g : Stk} {u : World} (h : ES w f g u) {o : Nat} (ho : o + 8 ≤ 24) : ArrAt u (w.heap.size + 1) o g o := by
  have h1 := StkAt.arr h.c.toRowAt o ho
  rwa [Nat.zero_add] at h1
set_option maxRecDepth 100000 in
set_option maxHeartbeats 4000000 in
theorem eqStock_any (f g : Stk) (b : Bool) (hb : b = eqS f g) (w : World) :
    Calls Tryd.prog 145 #[stkV f, stkV g] w fun e w' => e = .returned (.bool b) ∧ Below w.heap.size w w' := by
  rw [eqS_parts] at hb
  obtain ⟨b0, h0⟩ : ∃ x, eq8 f 0 g 0 = x := ⟨_, rfl⟩
  obtain ⟨b1, h1⟩ : ∃ x, eq8 f 8 g 8 = x := ⟨_, rfl⟩
  obtain ⟨b2, h2⟩ : ∃ x, eq8 f 16 g 16 = x := ⟨_, rfl⟩
  rw [h0, h1, h2] at hb
  have HQ0 := Lib.hid h0
  have HQ1 := Lib.hid h1
  have HQ2 := Lib.hid h2
  have Hb := Lib.hid hb
  clear h0 h1 h2 hb
  obtain ⟨u, hu⟩ : ∃ u, u = (w.alloc (.cells (stkCs f) 153)).alloc (.cells (stkCs g) 153) := ⟨_, rfl⟩
  have A0 : StkOwn u w.heap.size 0 f := by
    rw [hu]
    exact ((StkOwn.new w f _).next ((Below.refl _ _).alloc (Nat.le_refl _) _))
  have C0 : StkOwn u (w.heap.size + 1) 0 g := by
    rw [hu]
    have := StkOwn.new (w.alloc (.cells (stkCs f) 153)) g 153
    rw [World.size_alloc] at this
    exact this
  have B0 : Below w.heap.size w u := by
    rw [hu]
    exact ((Below.refl _ _).alloc (Nat.le_refl _) _).alloc (by simp) _
  have HU := Lib.hid hu
  have H0 : Hid (ES w f g u) := Lib.hid ⟨A0, C0, B0⟩
  clear hu A0 C0 B0
  go_enter Tryd.func145, Tryd.ntmps145
  go_wp2_with (first
    | (rw [← HU.out]; refine wpl_load_arr rfl (.tmp 5) rfl w.heap.size 0 rfl (f := f) (o := 0) (H0.out.arr (by omega)) ?_)
    | (refine wpl_load_arr rfl (.tmp 7) rfl (w.heap.size + 1) 0 rfl (f := g) (o := 0) (H0.out.arr2 (by omega)) ?_)
    | fail)
  refine (eqA8_any f g 0 0 b0 HQ0.out _).mono ?_
  rintro e w1 ⟨rfl, hb⟩
  have H1 := Lib.hid (H0.out.next hb)
  clear hb H0 HU
  cases b0 with
  | false =>
    obtain rfl : b = false := Hb.out
    go_wp2_with fail
    go_ret
    exact ⟨rfl, H1.out.b⟩
  | true =>
  go_wp2_with (first
    | (refine wpl_load_arr rfl (.tmp 11) rfl w.heap.size 8 rfl (f := f) (o := 8) (H1.out.arr (by omega)) ?_)
    | (refine wpl_load_arr rfl (.tmp 13) rfl (w.heap.size + 1) 8 rfl (f := g) (o := 8) (H1.out.arr2 (by omega)) ?_)
    | fail)
  refine (eqA8_any f g 8 8 b1 HQ1.out _).mono ?_
  rintro e w2 ⟨rfl, hb⟩
  have H2 := Lib.hid (H1.out.next hb)
  clear hb H1
  cases b1 with
  | false =>
    obtain rfl : b = false := Hb.out
    go_wp2_with fail
    go_ret
    exact ⟨rfl, H2.out.b⟩
  | true =>
  go_wp2_with (first
    | (refine wpl_load_arr rfl (.tmp 17) rfl w.heap.size 16 rfl (f := f) (o := 16) (H2.out.arr (by omega)) ?_)
    | (refine wpl_load_arr rfl (.tmp 19) rfl (w.heap.size + 1) 16 rfl (f := g) (o := 16) (H2.out.arr2 (by omega)) ?_)
    | fail)
  refine (eqA8_any f g 16 16 b2 HQ2.out _).mono ?_
  rintro e w3 ⟨rfl, hb⟩
  have H3 := Lib.hid (H2.out.next hb)
  clear hb H2
  cases b2 with
  | false =>
    obtain rfl : b = false := Hb.out
    go_wp2_with fail
    go_ret
    exact ⟨rfl, H3.out.b⟩
  | true =>
  have c0 : w3.cell? ⟨w.heap.size, 24, none⟩ = some (.int .i32 (f 24)) := H3.out.a.cell 24 (by omega)
  have c1 : w3.cell? ⟨w.heap.size + 1, 24, none⟩ = some (.int .i32 (g 24)) := H3.out.c.cell 24 (by omega)
  by_cases e : f 24 = g 24
  · have e2 : (f 24 != g 24) = false := by simpa using e
    obtain rfl : b = true := Hb.out.trans (by simpa using e)
    clear e
    go_wp2_with fail
    go_ret
    exact ⟨rfl, H3.out.b⟩
  · have e2 : (f 24 != g 24) = true := by simpa using e
    obtain rfl : b = false := Hb.out.trans (by simpa using e)
    clear e
    go_wp2_with fail
    go_ret
    exact ⟨rfl, H3.out.b⟩
end Go.Proofs.YtjfimmfnhlimkaaDoor.stk
