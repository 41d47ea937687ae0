/-
  Several texts of this proof, joined.
-/
import Derived.Test.YtlembainfhnnbaaDoorMkMust
import Derived.Test.YtlembainfhnnbaaDoorJoin14
import Derived.Test.YtlembainfhnnbaaDoorJoin13
import Derived.Test.YtlembainfhnnbaaDoorJoin15
/-
  Some lists of marks are looked at: the program's check.
-/
namespace Go.Proofs.YtlembainfhnnbaaDoor
open Go.RowKit sl
/-- a list of marks: where it lies, its capacity, its marks -/
structure Mw where
  A : Option Addr
  c : Nat
  xs : List Nat
abbrev Mw.v (r : Mw) : Value := .slice r.A r.xs.length r.c
abbrev Mw.C (r : Mw) : List Value := [r.v]
theorem Mw.len (rs : List Mw) : ∀ r ∈ rs, (Mw.C r).length = 1 := fun _ _ => rfl
end Go.Proofs.YtlembainfhnnbaaDoor
namespace Go.Proofs.YtlembainfhnnbaaDoor.mks
open Go Go.RowKit sl stk errs

/-- lists of marks in memory, all below block B -/
structure MS (w : World) (B : Nat) (A : Option Addr) (rs : List Mw) : Prop where
  heads : Sl Mw.C 1 w B A rs
  each : ∀ r ∈ rs, Sl marS.C 1 w B r.A r.xs
  short : ∀ r ∈ rs, r.xs.length ≤ maxLen
theorem MS.below {w w' : World} {B : Nat} {A : Option Addr} {rs : List Mw} (h : MS w B A rs) (hb : Below B w w') : MS w' B A rs := ⟨h.heads.below hb, fun r hr => (h.each r hr).below hb, h.short⟩
theorem MS.more {w : World} {B B' : Nat} {A : Option Addr} {rs : List Mw} (h : MS w B A rs) (hB : B ≤ B') : MS w B' A rs := ⟨h.heads.more hB, fun r hr => (h.each r hr).more hB, h.short⟩
theorem MS.head {w : World} {B : Nat} {A : Option Addr} {rs : List Mw} (h : MS w B A rs) {k : Nat} {r : Mw} (hr : rs[k]? = some r) : ∃ a, A = some a ∧ a.block < B ∧ w.cell? (a.add k) = some (.slice r.A r.xs.length r.c) := by
  obtain ⟨a, e, hb, hat⟩ := h.heads.at_ k r hr
  refine ⟨a, e, hb, ?_⟩
  have := hat 0 _ rfl
  rwa [Nat.mul_one] at this

/-- the code of marks -/
def codeM (s : Int) (ls : List (List Nat)) : Nat := if (inB s 1 12 && ls.all (fun xs => xs.all (okB s))) = true then (if ls.any (fun xs => decide (40 < xs.length)) = true then 3 else 0) else 1
/-- the error of a check of marks -/
def errM (e : Nat → Addr) (k : Nat) : Value := if k = 1 then noMarkV else errOf e k

theorem ok_zero (s : Int) : okB s 0 = inB s 1 12 := by
  unfold okB
  rw [show decide (0 < 2 ^ s.toNat) = true by simpa using Nat.two_pow_pos _]
  simp
theorem codeM_bad {s : Int} {ls : List (List Nat)} (h : inB s 1 12 = false) : codeM s ls = 1 := by simp [codeM, h]
theorem codeM_no {s : Int} {ls : List (List Nat)} {xs : List Nat} {m : Nat} (h : xs ∈ ls) (hm : m ∈ xs) (hb : okB s m = false) : codeM s ls = 1 := by
  unfold codeM
  rw [if_neg]
  simp only [Bool.and_eq_true, List.all_eq_true, not_and]
  intro _ h2
  have := h2 xs h m hm
  rw [hb] at this
  cases this
theorem codeM_many {s : Int} {ls : List (List Nat)} (h : inB s 1 12 = true) (ha : ∀ xs ∈ ls, ∀ m ∈ xs, okB s m = true) {xs : List Nat} (hx : xs ∈ ls) (hn : 40 < xs.length) : codeM s ls = 3 := by
  unfold codeM
  rw [if_pos, if_pos]
  · simp only [List.any_eq_true, decide_eq_true_eq]
    exact ⟨xs, hx, hn⟩
  · simp only [Bool.and_eq_true, List.all_eq_true]
    exact ⟨h, ha⟩
theorem codeM_fine {s : Int} {ls : List (List Nat)} (h : inB s 1 12 = true) (ha : ∀ xs ∈ ls, ∀ m ∈ xs, okB s m = true) (hn : ∀ xs ∈ ls, xs.length ≤ 40) : codeM s ls = 0 := by
  unfold codeM
  rw [if_pos, if_neg]
  · simp only [List.any_eq_true, decide_eq_true_eq, not_exists, not_and]
    intro xs hx
    have := hn xs hx
    omega
  · simp only [Bool.and_eq_true, List.all_eq_true]
    exact ⟨h, ha⟩

theorem must0_yes (s : Int) (h : inB s 1 12 = true) (w : World) :
    Calls Tryd.prog 81 #[.int .u16 0, .int .i64 s] w fun e w' => e = .returned (.tuple #[]) ∧ w = w' := mustBe_yes s 0 (by rw [ok_zero]; exact h) w
theorem must0_no (s : Int) (h : inB s 1 12 = false) (w : World) :
    Calls Tryd.prog 81 #[.int .u16 0, .int .i64 s] w fun e w' => e = .panicked [{ v := noMarkV, recovered := false }] ∧ w = w' := mustBe_no s 0 (by rw [ok_zero]; exact h) w

set_option maxRecDepth 100000 in
set_option maxHeartbeats 8000000 in
theorem checkMarks_any (s : Int) (A : Option Addr) (n c : Nat) (rs : List Mw) (en : n = rs.length) (hn : n ≤ 9223372036854775807) {w : World} {B : Nat} {e : Nat → Addr} (h : Errs w B e) (hB : B ≤ w.heap.size) (hg : MS w w.heap.size A rs) (k : Nat) (hk : codeM s (rs.map Mw.xs) = k) :
    Calls Tryd.prog 57 #[.int .i64 s, .slice A n c] w fun o w' => o = .returned (errM e k) ∧ Below w.heap.size w w' := by
  have hmf : ∀ (fn : Fn) (first cap : Array Value) (w : World), (Instr.makeFunc fn first cap).run Tryd.prog w = .ok (.func fn first cap) w := fun _ _ _ _ => rfl
  have HK := Lib.hid hk
  have En := Lib.hid en
  have HE := Lib.hid (h.below (show Below B w (w.alloc (.cells #[.nilIface] 65)) from (Below.refl _ _).alloc hB _))
  have hB1 : Below w.heap.size w (w.alloc (.cells #[.nilIface] 65)) := (Below.refl _ _).alloc (Nat.le_refl _) _
  have HG := Lib.hid (hg.below hB1)
  have HB1 := Lib.hid hB1
  clear hk en h hg hB1
  cases hs : inB s 1 12 with
  | false =>
    have HK1 := Lib.hid (codeM_bad (ls := rs.map Mw.xs) hs)
    have HM := Lib.hid (must0_no s hs)
    clear hs
    go_enter_defers Tryd.func57, Tryd.ntmps57
    go_wp2_with (first | (go_at_call 81; refine (HM.out _).mono ?_; rintro o w1 ⟨rfl, rfl⟩) | fail)
    refine leaves_cons (f := 80) (args := #[.pointer (some ⟨w.heap.size, 0, none⟩)]) (by simp) (by simp [go_sem]) ?_
    refine (catch_panicking ⟨w.heap.size, 0, none⟩ .nilIface _ (by simp [go_sem]) (by simp [go_sem])).mono ?_
    rintro o u' w'' ⟨rfl, rfl, rfl⟩
    have e1 : k = 1 := HK.out.symm.trans HK1.out
    subst e1
    simp [Leaves, settle, results, Tryd.results57, go_sem]
    exact ⟨rfl, (Below.refl _ _).alloc (Nat.le_refl _) _⟩
  | true =>
    have HS := Lib.hid hs
    have HM := Lib.hid (must0_yes s hs)
    clear hs
    go_enter_defers Tryd.func57, Tryd.ntmps57
    go_wp2_with (first | (go_at_call 81; refine (HM.out _).mono ?_; rintro o w1 ⟨rfl, rfl⟩) | fail)
    clear HM
    go_loop [6, 8, 16, 20, 21, 22] (fun _ _ vi _ _ _ => ∃ i : Nat, i ≤ n ∧ vi = .int .i64 i ∧ ∀ r ∈ rs.take i, ∀ m ∈ r.xs, okB s m = true) (fun _ _ vi _ _ _ => n - (intOf vi).toNat)
    case atStart => exact ⟨0, by omega, rfl, fun r hr => by simp at hr⟩
    case round =>
      obtain ⟨i, hi, rfl, hok⟩ := hrel
      have HOK := Lib.hid hok
      clear hok
      by_cases hlt : i < n
      · obtain ⟨r, hr⟩ : ∃ r, rs[i]? = some r := ⟨rs[i]'(by have := En.out; omega), List.getElem?_eq_getElem _⟩
        obtain ⟨a, rfl, hab, hcell⟩ := HG.out.head hr
        have hrm := List.mem_of_getElem? hr
        have hsh := HG.out.short r hrm
        have HE2 := Lib.hid (HG.out.each r hrm)
        have HT := Lib.hid (take_snoc hr)
        obtain ⟨rA, rc, xs⟩ := r
        have HR := Lib.hid hrm
        simp only [] at hsh hcell HE2
        unfold maxLen at hsh
        obtain ⟨l, hl⟩ : ∃ l, l = xs.length := ⟨_, rfl⟩
        rw [← hl] at hsh hcell
        have HL := Lib.hid hl
        clear hr hrm hl
        go_wp2_with fail
        go_loop [8, 22] (fun _ vj => ∃ j : Nat, j ≤ l ∧ vj = .int .i64 j ∧ ∀ m ∈ xs.take j, okB s m = true) (fun _ vj => l - (intOf vj).toNat)
        case atStart => exact ⟨0, by omega, rfl, fun m hm => by simp at hm⟩
        case round =>
          obtain ⟨j, hj, rfl, hok⟩ := hrel
          have HOJ := Lib.hid hok
          clear hok
          by_cases hlj : j < l
          · obtain ⟨x, hx⟩ : ∃ x, xs[j]? = some x := ⟨xs[j]'(by have := HL.out; omega), List.getElem?_eq_getElem _⟩
            obtain ⟨b, rfl, hbb, hat⟩ := HE2.out.at_ j x hx
            have q0 := marS.at_ hat
            have HX := Lib.hid hx
            clear hx hat
            cases hb : okB s x with
            | true =>
              have HM := Lib.hid (mustBe_yes s x hb)
              have HB := Lib.hid hb
              clear hb
              go_wp2_with (first | (go_at_call 81; refine (HM.out _).mono ?_; rintro o w1 ⟨rfl, rfl⟩) | fail)
              go_round
              case rel => exact ⟨j + 1, by omega, by go_num, fun m hm => by
                rw [take_snoc HX.out] at hm
                rcases List.mem_append.1 hm with h1 | h1
                · exact HOJ.out m h1
                · rw [List.mem_singleton.1 h1]; exact HB.out⟩
              case measure => simp [intOf]; omega
            | false =>
              have HM := Lib.hid (mustBe_no s x hb)
              have HB := Lib.hid hb
              clear hb
              go_wp2_with (first | (go_at_call 81; refine (HM.out _).mono ?_; rintro o w1 ⟨rfl, rfl⟩) | fail)
              refine leaves_cons (f := 80) (args := #[.pointer (some ⟨w.heap.size, 0, none⟩)]) (by simp) (by simp [go_sem]) ?_
              refine (catch_panicking ⟨w.heap.size, 0, none⟩ .nilIface _ (by simp [go_sem]) (by simp [go_sem])).mono ?_
              rintro o u' w'' ⟨rfl, rfl, rfl⟩
              have e1 : k = 1 := HK.out.symm.trans (codeM_no (List.mem_map.2 ⟨_, HR.out, rfl⟩) (List.mem_of_getElem? HX.out) HB.out)
              subst e1
              simp [Leaves, settle, results, Tryd.results57, go_sem]
              exact ⟨rfl, (Below.refl _ _).alloc (Nat.le_refl _) _⟩
          · obtain rfl : j = l := by omega
            go_wp2_with fail
            go_round
            case rel => exact ⟨i + 1, by omega, by go_num, fun r hr m hm => by
              rw [HT.out] at hr
              rcases List.mem_append.1 hr with h1 | h1
              · exact HOK.out r h1 m hm
              · rw [List.mem_singleton.1 h1] at hm
                refine HOJ.out m ?_
                rw [List.take_of_length_le (by have := HL.out; omega)]
                exact hm⟩
            case measure => simp [intOf]; omega
      · obtain rfl : i = n := by omega
        have hall : ∀ xs ∈ rs.map Mw.xs, ∀ m ∈ xs, okB s m = true := fun xs hx m hm => by
          obtain ⟨r, hr, rfl⟩ := List.mem_map.1 hx
          refine HOK.out r ?_ m hm
          rw [List.take_of_length_le (by have := En.out; omega)]
          exact hr
        have HALL := Lib.hid hall
        clear hall HOK
        obtain ⟨c0, c1, c2, c3, c4, c5, c6, _⟩ := HE.out
        go_wp2_with fail
        go_loop [10, 33, 37, 38, 39] (fun _ vi _ _ _ => ∃ j : Nat, j ≤ i ∧ vi = .int .i64 j ∧ ∀ r ∈ rs.take j, r.xs.length ≤ 40) (fun _ vi _ _ _ => i - (intOf vi).toNat)
        case atStart => exact ⟨0, by omega, rfl, fun r hr => by simp at hr⟩
        case round =>
          obtain ⟨j, hj, rfl, hok⟩ := hrel
          have HOJ := Lib.hid hok
          clear hok
          by_cases hlt : j < i
          · obtain ⟨r, hr⟩ : ∃ r, rs[j]? = some r := ⟨rs[j]'(by have := En.out; omega), List.getElem?_eq_getElem _⟩
            obtain ⟨a, rfl, hab, hcell⟩ := HG.out.head hr
            have hrm := List.mem_of_getElem? hr
            have hsh := HG.out.short r hrm
            have HT := Lib.hid (take_snoc hr)
            obtain ⟨rA, rc, xs⟩ := r
            have HR := Lib.hid hrm
            simp only [] at hsh hcell
            unfold maxLen at hsh
            obtain ⟨l, hl⟩ : ∃ l, l = xs.length := ⟨_, rfl⟩
            rw [← hl] at hsh hcell
            have HL := Lib.hid hl
            clear hr hrm hl
            by_cases h40 : 40 < l
            · go_wp2_with fail
              refine leaves_cons (f := 80) (args := #[.pointer (some ⟨w.heap.size, 0, none⟩)]) (by simp) (by simp [go_sem]) ?_
              refine (catch_idle ⟨w.heap.size, 0, none⟩ _).mono ?_
              rintro o u' w'' ⟨rfl, rfl, rfl⟩
              have e1 : k = 3 := HK.out.symm.trans (codeM_many HS.out HALL.out (List.mem_map.2 ⟨_, HR.out, rfl⟩) (by rw [← HL.out]; exact h40))
              subst e1
              simp [Leaves, settle, results, Tryd.results57, go_sem]
              exact ⟨rfl, (Below.refl _ _).alloc (Nat.le_refl _) _⟩
            · go_wp2_with fail
              go_round
              case rel => exact ⟨j + 1, by omega, by go_num, fun r hr => by
                rw [HT.out] at hr
                rcases List.mem_append.1 hr with h1 | h1
                · exact HOJ.out r h1
                · rw [List.mem_singleton.1 h1]
                  show xs.length ≤ 40
                  have := HL.out
                  omega⟩
              case measure => simp [intOf]; omega
          · obtain rfl : j = i := by omega
            go_wp2_with fail
            refine leaves_cons (f := 80) (args := #[.pointer (some ⟨w.heap.size, 0, none⟩)]) (by simp) (by simp [go_sem]) ?_
            refine (catch_idle ⟨w.heap.size, 0, none⟩ _).mono ?_
            rintro o u' w'' ⟨rfl, rfl, rfl⟩
            have e1 : k = 0 := HK.out.symm.trans (codeM_fine HS.out HALL.out fun xs hx => by
              obtain ⟨r, hr, rfl⟩ := List.mem_map.1 hx
              refine HOJ.out r ?_
              rw [List.take_of_length_le (by have := En.out; omega)]
              exact hr)
            subst e1
            simp [Leaves, settle, results, Tryd.results57, go_sem]
            exact ⟨rfl, (Below.refl _ _).alloc (Nat.le_refl _) _⟩
end Go.Proofs.YtlembainfhnnbaaDoor.mks

/-
  The program's errors of types of their own: what 'errors.Is' says of them, and which code each one has.
-/
namespace Go.Proofs.YtlembainfhnnbaaDoor.mks
open Go Go.RowKit sl stk errs Go.Extern.Stop Go.Stop Go.Extern

abbrev apartV (i k : Int) : Value := .iface 73 (.agg #[.int .i64 i, .int .i64 k])

theorem noIsM (v : Value) (xT : TypeId) (w : World) : (Instr.typeAssert (.iface 119 v) xT 132 true).run Tryd.prog w = .ok (.tuple #[.nilIface, .bool false]) w := run_typeAssert_lacksB Tryd.underlying132 (by kernel_rfl) (by kernel_rfl) v xT w
theorem unwrapsM (v : Value) (xT : TypeId) (w : World) : (Instr.typeAssert (.iface 119 v) xT 128 true).run Tryd.prog w = .ok (.tuple #[.iface 119 v, .bool true]) w := run_typeAssert_hasB Tryd.underlying128 (by kernel_rfl) v xT w
theorem methM (v : Value) (w : World) : (Go.method 269 119 v "Unwrap").run Tryd.prog w = .ok (120, v) w := by kernel_rfl
set_option maxHeartbeats 1000000 in
theorem UnwrapM_any (a : Addr) (w : World) (hc : w.cell? ⟨0, 0, none⟩ = some (errV a)) (hz : 0 < w.heap.size) :
    Calls Tryd.prog 120 #[.agg #[]] w fun e w' => e = .returned (errV a) ∧ Below w.heap.size w w' := by
  have hb : Below w.heap.size w (w.alloc (.cells #[] 119)) := (Below.refl _ _).alloc (Nat.le_refl _) _
  have hc' := (hb.cell (p := ⟨0, 0, none⟩) hz).trans hc
  have HB := Lib.hid hb
  clear hb hc
  go_enter Tryd.func120, Tryd.ntmps120
  go_wp2_with fail
  go_ret
  exact ⟨rfl, HB.out⟩

set_option maxHeartbeats 4000000 in
set_option maxRecDepth 100000 in
/-- it wraps an error: is this the other one -/
theorem IsM_same (a : Addr) (w : World) (hc : w.cell? ⟨0, 0, none⟩ = some (errV a)) (hz : 0 < w.heap.size) :
    Calls Tryd.prog 79 #[noMarkV, errV a] w fun e w' => e = .returned (.bool true) ∧ Below w.heap.size w w' := by
  obtain ⟨x, hx, hcmp⟩ := Option.map_eq_some_iff.1 comp_err
  obtain ⟨y, hy, hys⟩ := Option.map_eq_some_iff.1 size_err
  have hto := @run_callFunc_extern Tryd.prog 90 _ Extern.ReflectliteType.typeOf Tryd.func90 (by kernel_rfl) (by kernel_rfl) (by kernel_rfl) (by kernel_rfl)
  have hco := @run_callFunc_extern Tryd.prog 123 _ comparableM Tryd.func123 (by kernel_rfl) (by kernel_rfl) (by kernel_rfl) (by kernel_rfl)
  have tT := typeOf_err
  have cT := comparable_err
  have mR := method_comparable
  have nI := noIsM
  have nU := unwrapsM
  have nM := methM
  have HU := Lib.hid (UnwrapM_any a w hc hz)
  have hdt := fun w => run_eql_iface_types (P := Tryd.prog) 119 136 (.agg #[]) (.pointer (some a)) Tryd.underlying65 (by decide) w
  clear hc hz
  go_enter Tryd.func79, Tryd.ntmps79
  go_wp2_with (first | (go_at_call 91; go_in) | fail)
  refine wp_loop_rounds 2 ?_
  rw [rounds_succ]
  go_wp2_with (first | (go_at_call 120; refine HU.out.mono ?_; rintro o w1 ⟨rfl, hb1⟩; have HB1 := Lib.hid hb1; clear hb1) | fail)
  have heq := run_eql_iface_ptr_same (P := Tryd.prog) w1 a Tryd.underlying65 Tryd.underlying136 hx hcmp hy
  rw [rounds_succ]
  go_wp2
  go_ret
  exact ⟨rfl, HB1.out⟩

set_option maxHeartbeats 4000000 in
set_option maxRecDepth 100000 in
/-- it wraps an error: is this the other one -/
theorem IsM_other (a b : Addr) (w : World) (hc : w.cell? ⟨0, 0, none⟩ = some (errV a)) (hz : 0 < w.heap.size) (hne : a ≠ b) (ha : ∃ ca ta, w.heap[a.block]? = some (.cells ca ta (0, 0))) (hb : ∃ cb tb, w.heap[b.block]? = some (.cells cb tb (0, 0))) :
    Calls Tryd.prog 79 #[noMarkV, errV b] w fun e w' => e = .returned (.bool false) ∧ Below w.heap.size w w' := by
  obtain ⟨x, hx, hcmp⟩ := Option.map_eq_some_iff.1 comp_err
  obtain ⟨y, hy, hys⟩ := Option.map_eq_some_iff.1 size_err
  have hto := @run_callFunc_extern Tryd.prog 90 _ Extern.ReflectliteType.typeOf Tryd.func90 (by kernel_rfl) (by kernel_rfl) (by kernel_rfl) (by kernel_rfl)
  have hco := @run_callFunc_extern Tryd.prog 123 _ comparableM Tryd.func123 (by kernel_rfl) (by kernel_rfl) (by kernel_rfl) (by kernel_rfl)
  have tT := typeOf_err
  have cT := comparable_err
  have mR := method_comparable
  have nI := noIsM
  have nU := unwrapsM
  have nM := methM
  have HU := Lib.hid (UnwrapM_any a w hc hz)
  have hdt := fun w => run_eql_iface_types (P := Tryd.prog) 119 136 (.agg #[]) (.pointer (some b)) Tryd.underlying65 (by decide) w
  have la : a.block < w.heap.size := by
    obtain ⟨ca, ta, h⟩ := ha
    exact (Array.getElem?_eq_some_iff.1 h).1
  have lb : b.block < w.heap.size := by
    obtain ⟨cb, tb, h⟩ := hb
    exact (Array.getElem?_eq_some_iff.1 h).1
  obtain ⟨ca, ta, ha⟩ := ha
  obtain ⟨cb, tb, hb⟩ := hb
  have HA := Lib.hid ha
  have HB := Lib.hid hb
  have LA := Lib.hid la
  have LB := Lib.hid lb
  have NE := Lib.hid hne
  have nI2 := no_is
  have nU2 := no_unwrap
  have nV2 := no_unwraps
  clear hc hz ha hb la lb hne
  go_enter Tryd.func79, Tryd.ntmps79
  go_wp2_with (first | (go_at_call 91; go_in) | fail)
  refine wp_loop_rounds 2 ?_
  rw [rounds_succ]
  go_wp2_with (first | (go_at_call 120; refine HU.out.mono ?_; rintro o w1 ⟨rfl, hb1⟩; have HB1 := Lib.hid hb1; clear hb1) | fail)
  have heq := run_eql_iface_ptr_other (P := Tryd.prog) w1 Tryd.underlying65 Tryd.underlying136 hx hcmp hy (by rw [hys]; decide) NE.out ((HB1.out.block _ LA.out).trans HA.out) ((HB1.out.block _ LB.out).trans HB.out)
  rw [rounds_succ]
  go_wp2
  go_ret
  exact ⟨rfl, HB1.out⟩

/-- which code the error of a check of marks has -/
theorem errs_lt {w : World} {B : Nat} {e : Nat → Addr} (h : Errs w B e) (hB : B ≤ w.heap.size) : 0 < w.heap.size ∧ 3 < w.heap.size := by
  obtain ⟨c0, c1, c2, c3, c4, c5, c6, hs, _⟩ := h
  omega
set_option maxHeartbeats 2000000 in
set_option maxRecDepth 100000 in
theorem codeOf_noMark {w : World} {B : Nat} {e : Nat → Addr} (h : Errs w B e) (hB : B ≤ w.heap.size) :
    Calls Tryd.prog 53 #[noMarkV] w fun o w' => o = .returned (.int .i64 1) ∧ Below w.heap.size w w' := by
  have HI := Lib.hid (IsM_same (e 0) w h.c0 (errs_lt h hB).1)
  have c0 := h.c0
  have hn : ∀ w : World, (binOp BinOp.eql 65 noMarkV .nilIface).run Tryd.prog w = .ok (.bool false) w := fun _ => by kernel_rfl
  clear h
  go_enter Tryd.func53, Tryd.ntmps53
  go_wp2_with fail
  refine HI.out.mono ?_
  rintro o w' ⟨rfl, hb⟩
  go_wp2_with fail
  go_ret
  exact ⟨rfl, hb⟩
theorem codeOf_m {w : World} {B : Nat} {e : Nat → Addr} (h : Errs w B e) (hB : B ≤ w.heap.size) (k : Nat) (hk : k ≤ 7) :
    Calls Tryd.prog 53 #[errM e k] w fun o w' => o = .returned (.int .i64 k) ∧ Below w.heap.size w w' := by
  unfold errM
  by_cases h1 : k = 1
  · subst h1
    rw [if_pos rfl]
    exact codeOf_noMark h hB
  · rw [if_neg h1]
    refine (codeOf_any h k hk).mono ?_
    rintro o w1 ⟨rfl, rfl⟩
    exact ⟨rfl, Below.refl _ _⟩
end Go.Proofs.YtlembainfhnnbaaDoor.mks

/-
  The program's error of marks that are not told apart: what 'errors.Is' says of it.
-/
namespace Go.Proofs.YtlembainfhnnbaaDoor.mks
open Go Go.RowKit sl stk errs Go.Extern.Stop Go.Stop Go.Extern

theorem noIsA (v : Value) (xT : TypeId) (w : World) : (Instr.typeAssert (.iface 73 v) xT 132 true).run Tryd.prog w = .ok (.tuple #[.nilIface, .bool false]) w := run_typeAssert_lacksB Tryd.underlying132 (by kernel_rfl) (by kernel_rfl) v xT w
theorem unwrapsA (v : Value) (xT : TypeId) (w : World) : (Instr.typeAssert (.iface 73 v) xT 128 true).run Tryd.prog w = .ok (.tuple #[.iface 73 v, .bool true]) w := run_typeAssert_hasB Tryd.underlying128 (by kernel_rfl) v xT w
theorem methA (v : Value) (w : World) : (Go.method 269 73 v "Unwrap").run Tryd.prog w = .ok (115, v) w := by kernel_rfl
set_option maxHeartbeats 1000000 in
theorem UnwrapA_any (i k : Int) (a : Addr) (w : World) (hc : w.cell? ⟨3, 0, none⟩ = some (errV a)) (hz : 3 < w.heap.size) :
    Calls Tryd.prog 115 #[.agg #[.int .i64 i, .int .i64 k]] w fun e w' => e = .returned (errV a) ∧ Below w.heap.size w w' := by
  have hb : Below w.heap.size w (w.alloc (.cells #[.int .i64 i, .int .i64 k] 73)) := (Below.refl _ _).alloc (Nat.le_refl _) _
  have hc' := (hb.cell (p := ⟨3, 0, none⟩) hz).trans hc
  have HB := Lib.hid hb
  clear hb hc
  go_enter Tryd.func115, Tryd.ntmps115
  go_wp2_with fail
  go_ret
  exact ⟨rfl, HB.out⟩

set_option maxHeartbeats 4000000 in
set_option maxRecDepth 100000 in
/-- it wraps an error: is this the other one -/
theorem IsA_same (i k : Int) (a : Addr) (w : World) (hc : w.cell? ⟨3, 0, none⟩ = some (errV a)) (hz : 3 < w.heap.size) :
    Calls Tryd.prog 79 #[(apartV i k), errV a] w fun e w' => e = .returned (.bool true) ∧ Below w.heap.size w w' := by
  obtain ⟨x, hx, hcmp⟩ := Option.map_eq_some_iff.1 comp_err
  obtain ⟨y, hy, hys⟩ := Option.map_eq_some_iff.1 size_err
  have hto := @run_callFunc_extern Tryd.prog 90 _ Extern.ReflectliteType.typeOf Tryd.func90 (by kernel_rfl) (by kernel_rfl) (by kernel_rfl) (by kernel_rfl)
  have hco := @run_callFunc_extern Tryd.prog 123 _ comparableM Tryd.func123 (by kernel_rfl) (by kernel_rfl) (by kernel_rfl) (by kernel_rfl)
  have tT := typeOf_err
  have cT := comparable_err
  have mR := method_comparable
  have nI := noIsA
  have nU := unwrapsA
  have nM := methA
  have HU := Lib.hid (UnwrapA_any i k a w hc hz)
  have hdt := fun w => run_eql_iface_types (P := Tryd.prog) 73 136 (.agg #[.int .i64 i, .int .i64 k]) (.pointer (some a)) Tryd.underlying65 (by decide) w
  clear hc hz
  go_enter Tryd.func79, Tryd.ntmps79
  go_wp2_with (first | (go_at_call 91; go_in) | fail)
  refine wp_loop_rounds 2 ?_
  rw [rounds_succ]
  go_wp2_with (first | (go_at_call 115; refine HU.out.mono ?_; rintro o w1 ⟨rfl, hb1⟩; have HB1 := Lib.hid hb1; clear hb1) | fail)
  have heq := run_eql_iface_ptr_same (P := Tryd.prog) w1 a Tryd.underlying65 Tryd.underlying136 hx hcmp hy
  rw [rounds_succ]
  go_wp2
  go_ret
  exact ⟨rfl, HB1.out⟩

set_option maxHeartbeats 4000000 in
set_option maxRecDepth 100000 in
/-- it wraps an error: is this the other one -/
theorem IsA_other (i k : Int) (a b : Addr) (w : World) (hc : w.cell? ⟨3, 0, none⟩ = some (errV a)) (hz : 3 < w.heap.size) (hne : a ≠ b) (ha : ∃ ca ta, w.heap[a.block]? = some (.cells ca ta (0, 0))) (hb : ∃ cb tb, w.heap[b.block]? = some (.cells cb tb (0, 0))) :
    Calls Tryd.prog 79 #[(apartV i k), errV b] w fun e w' => e = .returned (.bool false) ∧ Below w.heap.size w w' := by
  obtain ⟨x, hx, hcmp⟩ := Option.map_eq_some_iff.1 comp_err
  obtain ⟨y, hy, hys⟩ := Option.map_eq_some_iff.1 size_err
  have hto := @run_callFunc_extern Tryd.prog 90 _ Extern.ReflectliteType.typeOf Tryd.func90 (by kernel_rfl) (by kernel_rfl) (by kernel_rfl) (by kernel_rfl)
  have hco := @run_callFunc_extern Tryd.prog 123 _ comparableM Tryd.func123 (by kernel_rfl) (by kernel_rfl) (by kernel_rfl) (by kernel_rfl)
  have tT := typeOf_err
  have cT := comparable_err
  have mR := method_comparable
  have nI := noIsA
  have nU := unwrapsA
  have nM := methA
  have HU := Lib.hid (UnwrapA_any i k a w hc hz)
  have hdt := fun w => run_eql_iface_types (P := Tryd.prog) 73 136 (.agg #[.int .i64 i, .int .i64 k]) (.pointer (some b)) Tryd.underlying65 (by decide) w
  have la : a.block < w.heap.size := by
    obtain ⟨ca, ta, h⟩ := ha
    exact (Array.getElem?_eq_some_iff.1 h).1
  have lb : b.block < w.heap.size := by
    obtain ⟨cb, tb, h⟩ := hb
    exact (Array.getElem?_eq_some_iff.1 h).1
  obtain ⟨ca, ta, ha⟩ := ha
  obtain ⟨cb, tb, hb⟩ := hb
  have HA := Lib.hid ha
  have HB := Lib.hid hb
  have LA := Lib.hid la
  have LB := Lib.hid lb
  have NE := Lib.hid hne
  have nI2 := no_is
  have nU2 := no_unwrap
  have nV2 := no_unwraps
  clear hc hz ha hb la lb hne
  go_enter Tryd.func79, Tryd.ntmps79
  go_wp2_with (first | (go_at_call 91; go_in) | fail)
  refine wp_loop_rounds 2 ?_
  rw [rounds_succ]
  go_wp2_with (first | (go_at_call 115; refine HU.out.mono ?_; rintro o w1 ⟨rfl, hb1⟩; have HB1 := Lib.hid hb1; clear hb1) | fail)
  have heq := run_eql_iface_ptr_other (P := Tryd.prog) w1 Tryd.underlying65 Tryd.underlying136 hx hcmp hy (by rw [hys]; decide) NE.out ((HB1.out.block _ LA.out).trans HA.out) ((HB1.out.block _ LB.out).trans HB.out)
  rw [rounds_succ]
  go_wp2
  go_ret
  exact ⟨rfl, HB1.out⟩

set_option maxHeartbeats 2000000 in
set_option maxRecDepth 100000 in
theorem codeOf_apart (i k : Int) {w : World} {B : Nat} {e : Nat → Addr} (h : Errs w B e) (hB : B ≤ w.heap.size) :
    Calls Tryd.prog 53 #[apartV i k] w fun o w' => o = .returned (.int .i64 4) ∧ Below w.heap.size w w' := by
  have HH := Lib.hid h
  have hlt := errs_lt h hB
  have hn : ∀ w : World, (binOp BinOp.eql 65 (apartV i k) .nilIface).run Tryd.prog w = .ok (.bool false) w := fun _ => by kernel_rfl
  have HO := Lib.hid (fun (j : Nat) (u : World) (hj : j < 3) (hu : Errs u B e) (hl : B ≤ u.heap.size) => IsA_other i k (e 3) (e j) u hu.c3 (errs_lt hu hl).2 (hu.ne 3 j (by omega) (by omega) (by omega)) (hu.row 3 (by omega)) (hu.row j (by omega)))
  have HI := Lib.hid (fun (u : World) (hu : Errs u B e) (hl : B ≤ u.heap.size) => IsA_same i k (e 3) u hu.c3 (errs_lt hu hl).2)
  obtain ⟨c0, c1, c2, c3, _⟩ := h
  clear hlt
  go_enter Tryd.func53, Tryd.ntmps53
  go_wp2_with fail
  refine (HO.out 0 _ (by omega) HH.out hB).mono ?_
  rintro o w1 ⟨rfl, hb1⟩
  have H1 := Lib.hid (HH.out.below (hb1.mono hB))
  have B1 := Lib.hid hb1
  obtain ⟨c0, c1, c2, c3, _⟩ := H1.out
  clear hb1
  go_wp2_with fail
  refine (HO.out 1 _ (by omega) H1.out (Nat.le_trans hB B1.out.size)).mono ?_
  rintro o w2 ⟨rfl, hb2⟩
  have H2 := Lib.hid (H1.out.below (hb2.mono (Nat.le_trans hB B1.out.size)))
  have B2 := Lib.hid (below_next B1.out hb2 (Nat.le_refl _))
  obtain ⟨c0, c1, c2, c3, _⟩ := H2.out
  clear hb2
  go_wp2_with fail
  refine (HO.out 2 _ (by omega) H2.out (Nat.le_trans hB B2.out.size)).mono ?_
  rintro o w3 ⟨rfl, hb3⟩
  have H3 := Lib.hid (H2.out.below (hb3.mono (Nat.le_trans hB B2.out.size)))
  have B3 := Lib.hid (below_next B2.out hb3 (Nat.le_refl _))
  obtain ⟨c0, c1, c2, c3, _⟩ := H3.out
  clear hb3
  go_wp2_with fail
  refine (HI.out _ H3.out (Nat.le_trans hB B3.out.size)).mono ?_
  rintro o w4 ⟨rfl, hb4⟩
  have B4 := Lib.hid (below_next B3.out hb4 (Nat.le_refl _))
  go_wp2_with fail
  go_ret
  exact ⟨rfl, B4.out⟩
end Go.Proofs.YtlembainfhnnbaaDoor.mks

/-
  The first pair of marks that are not told apart: the program's.
-/
namespace Go.Proofs.YtlembainfhnnbaaDoor.mks
open Go Go.RowKit sl stk errs

def errA : Option (Nat × Nat) → Value
  | none => .nilIface
  | some p => apartV p.1 p.2
theorem Sl.tail {w : World} {B : Nat} {a : Addr} {xs : List Nat} (h : Sl marS.C 1 w B (some a) xs) (k : Nat) : Sl marS.C 1 w B (some (a.add k)) (xs.drop k) := by
  refine ⟨fun j x hj => ?_⟩
  rw [List.getElem?_drop] at hj
  obtain ⟨a', e, hb, hat⟩ := h.at_ _ x hj
  cases e
  refine ⟨_, rfl, by rw [block_add]; exact hb, ?_⟩
  have e1 : (a.add k).add (j * 1) = a.add ((k + j) * 1) := by rw [Addr.add_add]; congr 1; omega
  rw [e1]
  exact hat
theorem behind_tail {xs : List Nat} {i n x : Nat} (en : n = xs.length) (hx : xs[i]? = some x) (r : Option Nat) (hr : firstFrom (fun j => clash x ((xs.drop (i + 1)).getD j 0)) (n - (i + 1)) 0 = r) : behind xs i = r.map (· + (i + 1)) := by
  unfold behind
  rw [← en]
  have h := first_shift (fun k => clash (xs.getD i 0) (xs.getD k 0)) (i + 1) (n - (i + 1)) 0
  rw [Nat.zero_add] at h
  rw [h, ← hr]
  congr 1
  refine first_ext fun j _ _ => ?_
  simp only [at_get hx, List.getD_eq_getElem?_getD, List.getElem?_drop]
  rw [Nat.add_comm]
set_option maxRecDepth 100000 in
set_option maxHeartbeats 2000000 in
theorem checkApart_any (A : Option Addr) (n : Nat) (xs : List Nat) (en : n = xs.length) (hn : n ≤ 1048576) (hf : ∀ x ∈ xs, x < 65536) (r : Option (Nat × Nat)) (hr : clashF xs = r) (w : World) (hg : Sl marS.C 1 w w.heap.size A xs) :
    Calls Tryd.prog 58 #[.slice A n n] w fun o w' => o = .returned (errA r) ∧ Below w.heap.size w w' := by
  have hr' : pairFrom (behind xs) (n - 0) 0 = r := by rw [en]; exact hr
  have hmf : ∀ (fn : Fn) (first cap : Array Value) (w : World), (Instr.makeFunc fn first cap).run Tryd.prog w = .ok (.func fn first cap) w := fun _ _ _ _ => rfl
  have En := Lib.hid en
  have HR := Lib.hid hr'
  have HF := Lib.hid hf
  clear en hr hr' hf
  go_enter Tryd.func58, Tryd.ntmps58
  go_wp2_with fail
  go_loopw [3, 4, 5, 6, 9] (fun _ _ _ _ vi wr => ∃ i : Nat, i ≤ n ∧ vi = .int .i64 i ∧ pairFrom (behind xs) (n - i) i = r ∧ Below w.heap.size w wr) (fun _ _ _ _ vi _ => n - (intOf vi).toNat)
  case atStart => exact ⟨0, by omega, rfl, HR.out, Below.refl _ _⟩
  case round =>
    obtain ⟨i, hi, rfl, hq, hB⟩ := hrel
    have HQ := Lib.hid hq
    have HB := Lib.hid hB
    clear hq
    by_cases hlt : i < n
    · obtain ⟨x, hx⟩ : ∃ x, xs[i]? = some x := ⟨xs[i]'(by have := En.out; omega), List.getElem?_eq_getElem _⟩
      have HX := Lib.hid hx
      obtain ⟨a, rfl, hab, hat⟩ := (hg.below hB).at_ i x hx
      have q0 := marS.at_ hat
      obtain ⟨f, hf⟩ : ∃ f, behind xs i = f := ⟨_, rfl⟩
      have HFF := Lib.hid hf
      obtain ⟨g, hg0⟩ : ∃ g, firstFrom (fun j => clash x ((xs.drop (i + 1)).getD j 0)) (n - (i + 1)) 0 = g := ⟨_, rfl⟩
      have HG0 := Lib.hid hg0
      have hfg : f = g.map (· + (i + 1)) := hf.symm.trans (behind_tail En.out hx g hg0)
      have HFG := Lib.hid hfg
      have hxb := HF.out x (List.mem_of_getElem? hx)
      have HXB := Lib.hid hxb
      have hT := (Sl.tail (hg.below hB) (i + 1)).more hB.size
      rw [Addr.add_succ'] at hT
      have HT := Lib.hid hT
      clear hx hf hat hB hg0 hfg hxb hT
      by_cases hl : i + 1 < n
      · have HI := Lib.hid (IndexFuncClash_any (some { block := a.block, off := a.off + (i + 1) }) (n - (i + 1)) (n - (i + 1)) (xs.drop (i + 1)) (by rw [List.length_drop, ← En.out]) (by omega) (fun y hy => HF.out y (List.mem_of_mem_drop hy)) x HXB.out wr HT.out g HG0.out)
        cases g with
        | none =>
          have hnx := pair_no HQ.out hlt (HFF.out.trans HFG.out)
          have HNX := Lib.hid hnx
          clear hnx
          rw [show optI none = -1 from rfl] at HI
          go_wp2_with fail
          refine HI.out.mono ?_
          rintro o w1 ⟨rfl, hb1⟩
          have HB1 := Lib.hid (below_next HB.out hb1 (Nat.le_refl _))
          clear hb1
          go_wp2_with fail
          go_roundw
          case rel => first | exact ⟨i + 1, by omega, by go_num, HNX.out, HB1.out⟩ | (obtain rfl : n = i + 1 := (by omega); (repeat apply Exists.intro); exact ⟨⟨i + 1, by omega, by go_num, HNX.out, HB1.out⟩, rfl⟩)
          case measure => simp [intOf]; omega
        | some j =>
          obtain rfl := pair_yes HQ.out hlt (HFF.out.trans HFG.out)
          have hj := (first_lt HG0.out).2.1
          rw [show optI (some j) = (j : Int) from rfl] at HI
          have he : errA (some (i, j + (i + 1))) = apartV (i : Int) ((i : Int) + 1 + (j : Int)) := by
            have e1 : ((j + (i + 1) : Nat) : Int) = (i : Int) + 1 + (j : Int) := by omega
            show apartV (i : Int) ((j + (i + 1) : Nat) : Int) = _
            rw [e1]
          have HEQ := Lib.hid he
          clear he
          go_wp2_with fail
          refine HI.out.mono ?_
          rintro o w1 ⟨rfl, hb1⟩
          have HB1 := Lib.hid (below_next HB.out hb1 (Nat.le_refl _))
          clear hb1
          go_wp2_with fail
          go_ret
          rw [HEQ.out]
          exact ⟨rfl, HB1.out⟩

      · have HI := Lib.hid (IndexFuncClash_any (some a) 0 0 (xs.drop (i + 1)) (by rw [List.length_drop, ← En.out]; omega) (by omega) (fun y hy => HF.out y (List.mem_of_mem_drop hy)) x HXB.out wr (by rw [List.drop_of_length_le (by have := En.out; omega)]; exact Sl.nil _ _ _ _ _) g (by have h := HG0.out; rw [show n - (i + 1) = 0 by omega] at h; exact h))
        obtain rfl : g = none := by have h := HG0.out; rw [show n - (i + 1) = 0 by omega] at h; exact h.symm
        · skip
          have hnx := pair_no HQ.out hlt (HFF.out.trans HFG.out)
          have HNX := Lib.hid hnx
          clear hnx
          rw [show optI none = -1 from rfl] at HI
          go_wp2_with fail
          refine HI.out.mono ?_
          rintro o w1 ⟨rfl, hb1⟩
          have HB1 := Lib.hid (below_next HB.out hb1 (Nat.le_refl _))
          clear hb1
          go_wp2_with fail
          go_roundw
          case rel => first | exact ⟨i + 1, by omega, by go_num, HNX.out, HB1.out⟩ | (obtain rfl : n = i + 1 := (by omega); (repeat apply Exists.intro); exact ⟨⟨i + 1, by omega, by go_num, HNX.out, HB1.out⟩, rfl⟩)
          case measure => simp [intOf]; omega
    · obtain rfl : i = n := by omega
      obtain rfl := pair_end HQ.out
      go_wp2_with fail
      go_ret
      exact ⟨rfl, HB.out⟩
end Go.Proofs.YtlembainfhnnbaaDoor.mks

/-
  The program's checks of marks, at their calls.
-/
namespace Go.Proofs.YtlembainfhnnbaaDoor.mks
open Go Go.RowKit sl stk errs fold

/-- one list in a new block -/
theorem MS.one {w : World} {A : Option Addr} {c : Nat} {xs : List Nat} (h : Sl marS.C 1 w w.heap.size A xs) (hl : xs.length ≤ maxLen) (T : TypeId) (n b : Nat) (hn : n = xs.length) (hbk : b = w.heap.size) :
    MS (w.alloc (.cells #[.slice A n c] T)) (w.alloc (.cells #[.slice A n c] T)).heap.size (some ⟨b, 0, none⟩) [⟨A, c, xs⟩] := by
  subst hn hbk
  have hb : Below w.heap.size w (w.alloc (.cells #[.slice A xs.length c] T)) := (Below.refl _ _).alloc (Nat.le_refl _) _
  refine ⟨⟨fun k x hx => ?_⟩, fun r hr => ?_, fun r hr => ?_⟩
  · have hk : k = 0 := by have := (List.getElem?_eq_some_iff.1 hx).1; simp at this; exact this
    subst hk
    simp only [List.getElem?_cons_zero, Option.some.injEq] at hx
    subst hx
    refine ⟨_, rfl, by simp, fun j v hj => ?_⟩
    have h1 := one_newI w (.slice A xs.length c) T j v hj
    rw [add_lit] at h1
    rw [Nat.zero_mul, add_lit, add_at, Nat.zero_add]
    exact h1
  · rw [List.mem_singleton.1 hr]
    exact (h.below hb).more hb.size
  · rw [List.mem_singleton.1 hr]
    exact hl
theorem two_newI (w : World) (u v : Value) (T : TypeId) : ∀ (j : Nat) x, [u, v][j]? = some x → (w.alloc (.cells #[u, v] T)).cell? ((⟨w.heap.size, 0, none⟩ : Addr).add j) = some x := by
  intro j x hj
  rw [add_lit, cell_of_row _ _ _ _ _ _ (heap_alloc_new w _)]
  simpa using hj
/-- two lists in a new block -/
theorem MS.two {w : World} {A A' : Option Addr} {c c' : Nat} {xs ys : List Nat} (h : Sl marS.C 1 w w.heap.size A xs) (h' : Sl marS.C 1 w w.heap.size A' ys) (hl : xs.length ≤ maxLen) (hl' : ys.length ≤ maxLen) (T : TypeId) (n n' b : Nat) (hn : n = xs.length) (hn' : n' = ys.length) (hbk : b = w.heap.size) :
    MS (w.alloc (.cells #[.slice A n c, .slice A' n' c'] T)) (w.alloc (.cells #[.slice A n c, .slice A' n' c'] T)).heap.size (some ⟨b, 0, none⟩) [⟨A, c, xs⟩, ⟨A', c', ys⟩] := by
  subst hn hn' hbk
  have hb : Below w.heap.size w (w.alloc (.cells #[.slice A xs.length c, .slice A' ys.length c'] T)) := (Below.refl _ _).alloc (Nat.le_refl _) _
  refine ⟨⟨fun k x hx => ?_⟩, fun r hr => ?_, fun r hr => ?_⟩
  · have hk : k < 2 := by have := (List.getElem?_eq_some_iff.1 hx).1; simpa using this
    refine ⟨_, rfl, by simp, fun j v hj => ?_⟩
    have hj0 : j = 0 := by have := (List.getElem?_eq_some_iff.1 hj).1; simp at this; exact this
    subst hj0
    simp only [List.getElem?_cons_zero, Option.some.injEq] at hj
    have h1 := two_newI w (.slice A xs.length c) (.slice A' ys.length c') T k v
    have e : ((⟨w.heap.size, 0, none⟩ : Addr).add (k * 1)).add 0 = (⟨w.heap.size, 0, none⟩ : Addr).add k := by rw [Nat.mul_one, add_lit, add_at]; rfl
    rw [e]
    refine h1 ?_
    match k, hk with
    | 0, _ => simp at hx; subst hx; simpa using hj
    | 1, _ => simp at hx; subst hx; simpa using hj
  · simp only [List.mem_cons, List.not_mem_nil, or_false] at hr
    rcases hr with rfl | rfl
    · exact (h.below hb).more hb.size
    · exact (h'.below hb).more hb.size
  · simp only [List.mem_cons, List.not_mem_nil, or_false] at hr
    rcases hr with rfl | rfl
    · exact hl
    · exact hl'
theorem MS.none (w : World) (B : Nat) : MS w B none [] := ⟨Sl.nil _ _ _ _ _, fun r hr => by simp at hr, fun r hr => by simp at hr⟩
/-- marks in a new block -/
theorem new_marks (w : World) (ms : List Nat) (T : TypeId) : Sl marS.C 1 (w.alloc (.cells (ms.map fun m : Nat => Value.int .u16 (m : Int)).toArray T)) (w.alloc (.cells (ms.map fun m : Nat => Value.int .u16 (m : Int)).toArray T)).heap.size (some ⟨w.heap.size, 0, none⟩) ms := by
  refine ⟨fun k x hx => ⟨_, rfl, by simp, fun j v hj => ?_⟩⟩
  have hj0 : j = 0 := by have := (List.getElem?_eq_some_iff.1 hj).1; simp [cInt] at this; exact this
  subst hj0
  have e : ((⟨w.heap.size, 0, Option.none⟩ : Addr).add (k * 1)).add 0 = ⟨w.heap.size, k, Option.none⟩ := by rw [Nat.mul_one, add_lit, add_at]; rfl
  rw [e, cell_of_row _ _ _ _ _ _ (heap_alloc_new w _)]
  simp [cInt] at hj
  simp [hx, hj]

theorem codeM_one (s : Int) (m : Nat) : codeM s [[m]] = if okB s m = true then 0 else 1 := by
  unfold codeM
  cases h : okB s m with
  | true =>
    have : inB s 1 12 = true := by unfold okB at h; simp only [Bool.and_eq_true] at h; exact h.1
    simp [h, this]
  | false => simp [h]

set_option maxRecDepth 100000 in
set_option maxHeartbeats 2000000 in
theorem checkMark_any (s : Int) (m : Nat) {w : World} {B : Nat} {e : Nat → Addr} (h : Errs w B e) (hB : B ≤ w.heap.size) (k : Nat) (hk : k = if okB s m = true then 0 else 1) :
    Calls Tryd.prog 52 #[.int .i64 s, .int .u16 m] w fun o w' => o = .returned (errM e k) ∧ Below w.heap.size w w' := by
  have HK := Lib.hid ((codeM_one s m).trans hk.symm)
  have H := Lib.hid h
  clear hk h
  have hb1 : Below w.heap.size w (w.alloc (.cells #[.int .u16 m] 26)) := (Below.refl _ _).alloc (Nat.le_refl _) _
  have hb2 : Below w.heap.size w ((w.alloc (.cells #[.int .u16 m] 26)).alloc (.cells #[.slice (some ⟨w.heap.size, 0, Option.none⟩) 1 1] 23)) := hb1.alloc (by simp) _
  have HG := Lib.hid (MS.one (w := w.alloc (.cells #[.int .u16 m] 26)) (c := 1) (new_marks w [m] 26) (by simp [maxLen]) 23 1 (w.heap.size + 1) rfl (by simp))
  have HB2 := Lib.hid hb2
  clear hb1 hb2
  go_enter Tryd.func52, Tryd.ntmps52
  go_wp2_with fail
  refine (checkMarks_any s (some ⟨w.heap.size + 1, 0, Option.none⟩) 1 1 [⟨some ⟨w.heap.size, 0, Option.none⟩, 1, [m]⟩] rfl (by decide) (H.out.below (HB2.out.mono hB)) (Nat.le_trans hB HB2.out.size) HG.out k (by simpa using HK.out)).mono ?_
  rintro o w1 ⟨rfl, hb⟩
  have HB3 := Lib.hid (below_next HB2.out hb (Nat.le_refl _))
  clear hb
  go_wp2_with fail
  go_ret
  exact ⟨rfl, HB3.out⟩
theorem ne_noMark (w : World) : (binOp BinOp.neq 65 noMarkV .nilIface).run Tryd.prog w = .ok (.bool true) w := by kernel_rfl
set_option maxHeartbeats 2000000 in
/-- the first error of some checks, which lie in block b -/
theorem firstOfM_any (e : Nat → Addr) (cs : List Nat) (b n c : Nat) (hn : n = cs.length) (hs : n ≤ 8) (w : World) (hcell : ∀ k x, cs[k]? = some x → w.cell? ⟨b, k, Option.none⟩ = some (errM e x)) :
    Calls Tryd.prog 66 #[.slice (some ⟨b, 0, Option.none⟩) n c] w fun o w' => o = .returned (errM e (firstCode cs)) ∧ w = w' := by
  have Hn := Lib.hid hn
  have hne := ne_noMark
  clear hn
  go_enter Tryd.func66, Tryd.ntmps66
  go_wp2_with fail
  go_loop [7, 4] (fun vi _ => ∃ k : Nat, k ≤ n ∧ vi = .int .i64 k ∧ firstCode (cs.drop k) = firstCode cs) (fun vi _ => n - (intOf vi).toNat)
  case atStart => exact ⟨0, by omega, rfl, rfl⟩
  case round =>
    obtain ⟨k, hk, rfl, hf⟩ := hrel
    have HF := Lib.hid hf
    clear hf
    by_cases hlt : k < n
    · obtain ⟨x, hx⟩ : ∃ x, cs[k]? = some x := ⟨cs[k]'(by have := Hn.out; omega), List.getElem?_eq_getElem _⟩
      have hc := hcell k x hx
      have hd : cs.drop k = x :: cs.drop (k + 1) := by
        have hl : k < cs.length := (List.getElem?_eq_some_iff.1 hx).1
        rw [List.drop_eq_getElem_cons hl]
        congr 1
        exact (List.getElem?_eq_some_iff.1 hx).2
      have HD := Lib.hid hd
      clear hd hx hcell
      match x with
      | 0 =>
        have hc' : w.cell? ⟨b, k, Option.none⟩ = some .nilIface := hc
        clear hc
        go_wp2_with fail
        go_round
        case rel => exact ⟨k + 1, by omega, by go_num, by rw [← HF.out, HD.out]; rfl⟩
        case measure => simp [intOf]; omega
      | 1 =>
        have hc' : w.cell? ⟨b, k, Option.none⟩ = some noMarkV := hc
        clear hc
        go_wp2_with fail
        go_ret
        exact ⟨by rw [← HF.out, HD.out]; rfl, rfl⟩
      | i + 2 =>
        have hc' : w.cell? ⟨b, k, Option.none⟩ = some (errV (e (i + 1))) := hc
        clear hc
        go_wp2_with fail
        go_ret
        exact ⟨by rw [← HF.out, HD.out]; rfl, rfl⟩
    · go_wp2_with fail
      go_ret
      have hk2 : k = n := by omega
      refine ⟨?_, rfl⟩
      rw [← HF.out, List.drop_of_length_le (by have := Hn.out; omega)]
      rfl
theorem errM_form (e : Nat → Addr) (k : Nat) : errM e k = .nilIface ∨ ∃ T p, errM e k = .iface T p := by
  match k with
  | 0 => exact .inl rfl
  | 1 => exact .inr ⟨_, _, rfl⟩
  | k + 2 => exact .inr ⟨_, _, rfl⟩
theorem buildSliceM2 (e : Nat → Addr) (k1 k2 : Nat) (w : World) :
    (Instr.buildSlice 114 2 #[(0, errM e k1), (1, errM e k2)]).run Tryd.prog w = .ok (.slice (some ⟨w.heap.size, 0, Option.none⟩) 2 2) (w.alloc (.cells #[errM e k1, errM e k2] 65)) := by
  rcases errM_form e k1 with h | ⟨T, p, h⟩ <;> rcases errM_form e k2 with h' | ⟨T', p', h'⟩ <;> rw [h, h'] <;> kernel_rfl
theorem cells_errsM (e : Nat → Addr) (cs : List Nat) (w : World) (t : TypeId) (A : Array Value) (hA : A = (cs.map (errM e)).toArray) :
    ∀ k x, cs[k]? = some x → (w.alloc (.cells A t)).cell? ⟨w.heap.size, k, Option.none⟩ = some (errM e x) := by
  intro k x hx
  rw [cell_of_row _ _ _ _ _ _ (heap_alloc_new w _), hA]
  simp [hx]
end Go.Proofs.YtlembainfhnnbaaDoor.mks

/-
  Lists of marks: their codes, and which mark has been seen: the program's and the model's.
-/
namespace Go.Proofs.YtlembainfhnnbaaDoor.mks
open Go Go.RowKit sl stk errs

def codeT (s : Int) (xs : List Nat) : Nat := if codeM s [xs] = 0 then (if (clashF xs).isSome = true then 4 else 0) else codeM s [xs]
def readF (xs : List Nat) (m : Nat) : Option Nat := firstFrom (fun j => seenB (xs.getD j 0) m) xs.length 0
theorem codeM_or (s : Int) (ls : List (List Nat)) : codeM s ls = 0 ∨ codeM s ls = 1 ∨ codeM s ls = 3 := by
  unfold codeM
  split
  · split
    · exact .inr (.inr rfl)
    · exact .inl rfl
  · exact .inr (.inl rfl)
theorem codeM_ok {s : Int} {xs : List Nat} (h : codeM s [xs] = 0) : inB s 1 12 = true ∧ (∀ m ∈ xs, okB s m = true) ∧ xs.length ≤ 40 := by
  unfold codeM at h
  split at h
  · rename_i h1
    split at h
    · cases h
    · rename_i h2
      simp only [List.all_cons, List.all_nil, Bool.and_true, Bool.and_eq_true, List.all_eq_true] at h1
      simp only [List.any_cons, List.any_nil, Bool.or_false, decide_eq_true_eq] at h2
      exact ⟨h1.1, h1.2, by omega⟩
  · cases h
theorem codeM_and (s : Int) (xs : List Nat) (m : Nat) : codeM s [xs, [m]] = if okB s m = true then codeM s [xs] else 1 := by
  cases h : okB s m with
  | true =>
    unfold codeM
    simp [h]
  | false =>
    exact codeM_no (xs := [m]) (by simp) (List.mem_singleton.2 rfl) h

set_option maxHeartbeats 2000000 in
theorem l06List_any (s : Int) (A : Option Addr) (n c : Nat) (xs : List Nat) (en : n = xs.length) (hn : n ≤ 1048576) (k : Nat) (hk : codeM s [xs] = k) (B : Nat) (w : World) (hg : Sl marS.C 1 w B A xs) :
    Calls Tryd.prog 55 #[.int .i64 s, .slice A n c] w fun o w' => o = .returned (.int .i64 k) ∧ w = w' := by
  have En := Lib.hid en
  have HK := Lib.hid hk
  have HM := Lib.hid (l06Many_any s)
  clear en hk
  cases hs : inB s 1 12 with
  | false =>
    rw [hs] at HM
    have e1 : k = 1 := HK.out.symm.trans (codeM_bad hs)
    subst e1
    clear hs
    go_enter Tryd.func55, Tryd.ntmps55
    go_wp2_with (first | (go_at_call 63; refine (HM.out _).mono ?_; rintro o w1 ⟨rfl, rfl⟩) | fail)
    go_ret
    exact ⟨rfl, rfl⟩
  | true =>
    rw [hs] at HM
    have HS := Lib.hid hs
    clear hs
    go_enter Tryd.func55, Tryd.ntmps55
    go_wp2_with (first | (go_at_call 63; refine (HM.out _).mono ?_; rintro o w1 ⟨rfl, rfl⟩) | fail)
    go_loop [5] (fun vi => ∃ i : Nat, i ≤ n ∧ vi = .int .i64 i ∧ ∀ m ∈ xs.take i, okB s m = true) (fun vi => n - (intOf vi).toNat)
    case atStart => exact ⟨0, by omega, rfl, fun m hm => by simp at hm⟩
    case round =>
      obtain ⟨i, hi, rfl, hok⟩ := hrel
      have HO := Lib.hid hok
      clear hok
      by_cases hlt : i < n
      · obtain ⟨x, hx⟩ : ∃ x, xs[i]? = some x := ⟨xs[i]'(by have := En.out; omega), List.getElem?_eq_getElem _⟩
        obtain ⟨a, rfl, hab, hat⟩ := hg.at_ i x hx
        have q0 := marS.at_ hat
        have HX := Lib.hid hx
        have HV := Lib.hid (l06Ok_any s x)
        clear hx hat
        cases hb : okB s x with
        | true =>
          rw [hb] at HV
          have HB := Lib.hid hb
          clear hb
          go_wp2_with (first | (go_at_call 50; refine (HV.out _).mono ?_; rintro o w1 ⟨rfl, rfl⟩) | fail)
          go_round
          case rel => exact ⟨i + 1, by omega, by go_num, fun m hm => by
            rw [take_snoc HX.out] at hm
            rcases List.mem_append.1 hm with h1 | h1
            · exact HO.out m h1
            · rw [List.mem_singleton.1 h1]; exact HB.out⟩
          case measure => simp [intOf]; omega
        | false =>
          rw [hb] at HV
          have e1 : k = 1 := HK.out.symm.trans (codeM_no (List.mem_singleton.2 rfl) (List.mem_of_getElem? HX.out) hb)
          subst e1
          clear hb
          go_wp2_with (first | (go_at_call 50; refine (HV.out _).mono ?_; rintro o w1 ⟨rfl, rfl⟩) | fail)
          go_ret
          exact ⟨rfl, rfl⟩
      · obtain rfl : i = n := by omega
        have hall : ∀ ys ∈ [xs], ∀ m ∈ ys, okB s m = true := fun ys hy m hm => by
          rw [List.mem_singleton.1 hy] at hm
          refine HO.out m ?_
          rw [List.take_of_length_le (by have := En.out; omega)]
          exact hm
        by_cases h40 : 40 < i
        · have e1 : k = 3 := HK.out.symm.trans (codeM_many HS.out hall (List.mem_singleton.2 rfl) (by rw [← En.out]; exact h40))
          subst e1
          clear hall
          go_wp2_with fail
          go_ret
          exact ⟨rfl, rfl⟩
        · have e1 : k = 0 := HK.out.symm.trans (codeM_fine HS.out hall fun ys hy => by rw [List.mem_singleton.1 hy, ← En.out]; omega)
          subst e1
          clear hall
          go_wp2_with fail
          go_ret
          exact ⟨rfl, rfl⟩
set_option maxRecDepth 100000 in
set_option maxHeartbeats 4000000 in
theorem l06Told_any (s : Int) (A : Option Addr) (n c : Nat) (xs : List Nat) (en : n = xs.length) (hn : n ≤ 1048576) (hf : ∀ x ∈ xs, x < 65536) (k : Nat) (hk : codeT s xs = k) (w : World) (hg : Sl marS.C 1 w w.heap.size A xs) :
    Calls Tryd.prog 60 #[.int .i64 s, .slice A n c] w fun o w' => o = .returned (.int .i64 k) ∧ Below w.heap.size w w' := by
  obtain ⟨k0, hk0⟩ : ∃ k0, codeM s [xs] = k0 := ⟨_, rfl⟩
  obtain ⟨r, hr⟩ : ∃ r, clashF xs = r := ⟨_, rfl⟩
  have HL := Lib.hid (l06List_any s A n c xs en hn k0 hk0 w.heap.size w hg)
  have HC := Lib.hid (l06Clash_any A n c xs en hn hf r hr w hg)
  have hk' : (if k0 = 0 then (if r.isSome = true then 4 else 0) else k0) = k := by rw [← hk, codeT, hk0, hr]
  clear hk hk0 hr hf en hg
  by_cases h0 : k0 = 0
  · subst h0
    cases r with
    | none =>
      obtain rfl : 0 = k := by simpa using hk'
      rw [show fstI none = -1 from rfl, show sndI none = -1 from rfl] at HC
      clear hk'
      go_enter Tryd.func60, Tryd.ntmps60
      go_wp2_with fail
      refine HL.out.mono ?_
      rintro o w1 ⟨rfl, rfl⟩
      go_wp2_with fail
      refine HC.out.mono ?_
      rintro o w1 ⟨rfl, hb⟩
      go_wp2_with fail
      go_ret
      exact ⟨rfl, hb⟩
    | some p =>
      obtain ⟨i, j⟩ := p
      obtain rfl : 4 = k := by simpa using hk'
      rw [show fstI (some (i, j)) = (i : Int) from rfl, show sndI (some (i, j)) = (j : Int) from rfl] at HC
      clear hk'
      go_enter Tryd.func60, Tryd.ntmps60
      go_wp2_with fail
      refine HL.out.mono ?_
      rintro o w1 ⟨rfl, rfl⟩
      go_wp2_with fail
      refine HC.out.mono ?_
      rintro o w1 ⟨rfl, hb⟩
      go_wp2_with fail
      go_ret
      exact ⟨rfl, hb⟩
  · obtain rfl : k0 = k := by simpa [h0] using hk'
    have hne : ((k0 : Int) != 0) = true := by rw [bne_iff_ne]; omega
    clear hk' HC
    go_enter Tryd.func60, Tryd.ntmps60
    go_wp2_with fail
    refine HL.out.mono ?_
    rintro o w1 ⟨rfl, rfl⟩
    go_wp2_with fail
    go_ret
    exact ⟨rfl, Below.refl _ _⟩
set_option maxRecDepth 100000 in
set_option maxHeartbeats 4000000 in
theorem l06Read_any (A : Option Addr) (n c : Nat) (xs : List Nat) (en : n = xs.length) (hn : n ≤ 1048576) (hf : ∀ x ∈ xs, x < 65536) (m : Nat) (r : Option Nat) (hr : readF xs m = r) (w : World) (hg : Sl marS.C 1 w w.heap.size A xs) :
    Calls Tryd.prog 61 #[.slice A n c, .int .u16 m] w fun o w' => o = .returned (.int .i64 (optI r)) ∧ Below w.heap.size w w' := by
  have hr' : firstFrom (fun j => seenB (xs.getD j 0) m) (n - 0) 0 = r := by rw [en]; exact hr
  have En := Lib.hid en
  have HR := Lib.hid hr'
  have HF := Lib.hid hf
  clear en hr hr' hf
  go_enter Tryd.func61, Tryd.ntmps61
  go_wp2_with fail
  go_loopw [5] (fun vi wr => ∃ k : Nat, k ≤ n ∧ vi = .int .i64 k ∧ firstFrom (fun j => seenB (xs.getD j 0) m) (n - k) k = r ∧ Below w.heap.size w wr) (fun vi _ => n - (intOf vi).toNat)
  case atStart => exact ⟨0, by omega, rfl, HR.out, Below.refl _ _⟩
  case round =>
    obtain ⟨k, hk, rfl, hno, hB⟩ := hrel
    have HN := Lib.hid hno
    have HB := Lib.hid hB
    clear hno
    by_cases hlt : k < n
    · obtain ⟨x, hx⟩ : ∃ x, xs[k]? = some x := ⟨xs[k]'(by have := En.out; omega), List.getElem?_eq_getElem _⟩
      obtain ⟨a, rfl, hab, hat⟩ := (hg.below hB).at_ k x hx
      have q0 := marS.at_ hat
      have HX := Lib.hid hx
      have HSE := Lib.hid (l06Seen_any x (HF.out x (List.mem_of_getElem? hx)))
      have hle := seenL_len x
      clear hx hat hB
      go_wp2_with fail
      refine (HSE.out _).mono ?_
      rintro o w1 ⟨v, n1, rfl, hP, hb1⟩
      obtain ⟨A1, c1, rfl, _⟩ := owns_slice hP
      have hl := owns_len hP (marS.len _) (by decide)
      have HS1 := Lib.hid (Sl.of_owns hP (marS.len _) (by decide))
      have hn17 : n1 ≤ 17 := by rw [hl]; exact hle
      have HL := Lib.hid hl
      have HB1 := Lib.hid (below_next HB.out hb1 (Nat.le_refl _))
      clear hP hb1 hl hle
      cases hc : seenB x m with
      | true =>
        have HH := Lib.hid (l06Has_any A1 n1 c1 (seenL x) HL.out (by omega) m true hc _ _ HS1.out)
        obtain rfl := first_yes HN.out hlt (by simp only [at_get HX.out]; exact hc)
        clear hc
        go_wp2_with fail
        refine HH.out.mono ?_
        rintro o w2 ⟨rfl, rfl⟩
        go_wp2_with fail
        go_ret
        exact ⟨rfl, HB1.out⟩
      | false =>
        have HH := Lib.hid (l06Has_any A1 n1 c1 (seenL x) HL.out (by omega) m false hc _ _ HS1.out)
        have hnx := first_no HN.out hlt (by simp only [at_get HX.out]; exact hc)
        have HNX := Lib.hid hnx
        clear hc hnx
        go_wp2_with fail
        refine HH.out.mono ?_
        rintro o w2 ⟨rfl, rfl⟩
        go_wp2_with fail
        go_roundw
        case rel => exact ⟨k + 1, by omega, by go_num, HNX.out, HB1.out⟩
        case measure => simp [intOf]; omega
    · obtain rfl : k = n := by omega
      obtain rfl := first_end HN.out
      go_wp2_with fail
      go_ret
      exact ⟨rfl, HB.out⟩
set_option maxRecDepth 100000 in
set_option maxHeartbeats 4000000 in
theorem readBy_any (A : Option Addr) (n c : Nat) (xs : List Nat) (en : n = xs.length) (hn : n ≤ 1048576) (hf : ∀ x ∈ xs, x < 65536) (m : Nat) (hm : m < 65536) (r : Option Nat) (hr : readF xs m = r) {w : World} {B : Nat} {e : Nat → Addr} (h : Errs w B e) (hB : B ≤ w.heap.size) (hg : Sl marS.C 1 w w.heap.size A xs) :
    Calls Tryd.prog 62 #[.slice A n c, .int .u16 m] w fun o w' => o = .returned (.tuple #[.int .i64 (r.getD 0 : Nat), errOf e (if r.isSome = true then 0 else 6)]) ∧ Below w.heap.size w w' := by
  have hmf : ∀ (fn : Fn) (first cap : Array Value) (w : World), (Instr.makeFunc fn first cap).run Tryd.prog w = .ok (.func fn first cap) w := fun _ _ _ _ => rfl
  have H := Lib.hid h
  have HI := Lib.hid (IndexFuncSeen_any A n c xs en (by omega) hf m hm w hg r (by rw [en]; exact hr))
  clear h en hf hr hm hg
  cases r with
  | none =>
    rw [show optI none = -1 from rfl] at HI
    go_enter Tryd.func62, Tryd.ntmps62
    go_wp2_with fail
    refine HI.out.mono ?_
    rintro o w1 ⟨rfl, hb⟩
    have HE := Lib.hid (H.out.below (hb.mono hB))
    have HB := Lib.hid hb
    obtain ⟨c0, c1, c2, c3, c4, c5, c6, _⟩ := HE.out
    clear hb
    go_wp2_with fail
    go_quiet (fail)
    go_wp2_with fail
    go_ret2
    exact ⟨rfl, HB.out.trans (below_drewN _ _ _)⟩
  | some i =>
    rw [show optI (some i) = (i : Int) from rfl] at HI
    go_enter Tryd.func62, Tryd.ntmps62
    go_wp2_with fail
    refine HI.out.mono ?_
    rintro o w1 ⟨rfl, hb⟩
    go_wp2_with fail
    go_ret2
    exact ⟨rfl, hb⟩
end Go.Proofs.YtlembainfhnnbaaDoor.mks

/-
  Are marks told apart, and which mark has been seen: the program's and the model's.
-/
namespace Go.Proofs.YtlembainfhnnbaaDoor.mks
open Go Go.RowKit sl stk errs fold

def chkR (s : Int) (xs : List Nat) : Bool × Nat := if codeM s [xs] = 0 then ((clashF xs).isNone, 0) else (false, codeM s [xs])
def rdR (s : Int) (xs : List Nat) (m : Nat) : Nat × Nat := if okB s m = true then (if codeT s xs = 0 then ((readF xs m).getD 0, if (readF xs m).isSome = true then 0 else 6) else (0, codeT s xs)) else (0, 1)

set_option maxRecDepth 100000 in
set_option maxHeartbeats 4000000 in
theorem CheckMarks_spec (s : Int) (A : Option Addr) (n c : Nat) (xs : List Nat) (en : n = xs.length) (hn : n ≤ 1048576) (hf : ∀ x ∈ xs, x < 65536) (b : Bool) (k : Nat) (hr : chkR s xs = (b, k)) (w : World) (hg : Sl marS.C 1 w w.heap.size A xs) :
    Calls Tryd.prog 20 #[.int .i64 s, .slice A n c] w fun o w' => o = .returned (.tuple #[.bool b, .int .i64 k]) ∧ Below w.heap.size w w' := by
  obtain ⟨k0, hk0⟩ : ∃ k0, codeM s [xs] = k0 := ⟨_, rfl⟩
  obtain ⟨r, hcl⟩ : ∃ r, clashF xs = r := ⟨_, rfl⟩
  have HL := Lib.hid (l06List_any s A n c xs en hn k0 hk0 w.heap.size w hg)
  have HC := Lib.hid (l06Clash_any A n c xs en hn hf r hcl w hg)
  have hk' : (if k0 = 0 then (r.isNone, 0) else (false, k0)) = (b, k) := by rw [← hr, chkR, hk0, hcl]
  clear hr hk0 hcl hf en hg
  by_cases h0 : k0 = 0
  · subst h0
    cases r with
    | none =>
      obtain ⟨rfl, rfl⟩ : true = b ∧ 0 = k := by simpa using hk'
      rw [show fstI none = -1 from rfl, show sndI none = -1 from rfl] at HC
      clear hk'
      go_enter Tryd.func20, Tryd.ntmps20
      go_wp2_with fail
      refine HL.out.mono ?_
      rintro o w1 ⟨rfl, rfl⟩
      go_wp2_with fail
      refine HC.out.mono ?_
      rintro o w1 ⟨rfl, hb⟩
      go_wp2_with fail
      go_ret2
      exact ⟨rfl, hb⟩
    | some p =>
      obtain ⟨i, j⟩ := p
      obtain ⟨rfl, rfl⟩ : false = b ∧ 0 = k := by simpa using hk'
      have hlt : decide ((i : Int) < 0) = false := by simp
      rw [show fstI (some (i, j)) = (i : Int) from rfl, show sndI (some (i, j)) = (j : Int) from rfl] at HC
      clear hk'
      go_enter Tryd.func20, Tryd.ntmps20
      go_wp2_with fail
      refine HL.out.mono ?_
      rintro o w1 ⟨rfl, rfl⟩
      go_wp2_with fail
      refine HC.out.mono ?_
      rintro o w1 ⟨rfl, hb⟩
      go_wp2_with fail
      go_ret2
      exact ⟨rfl, hb⟩
  · obtain ⟨rfl, rfl⟩ : false = b ∧ k0 = k := by simpa [h0] using hk'
    have hne : ((k0 : Int) != 0) = true := by rw [bne_iff_ne]; omega
    clear hk' HC
    go_enter Tryd.func20, Tryd.ntmps20
    go_wp2_with fail
    refine HL.out.mono ?_
    rintro o w1 ⟨rfl, rfl⟩
    go_wp2_with fail
    go_ret2
    exact ⟨rfl, Below.refl _ _⟩
theorem nil_apart (i k : Int) (w : World) : (binOp BinOp.eql 65 (apartV i k) .nilIface).run Tryd.prog w = .ok (.bool false) w := by kernel_rfl
theorem ne_apart (i k : Int) (w : World) : (binOp BinOp.neq 65 (apartV i k) .nilIface).run Tryd.prog w = .ok (.bool true) w := by kernel_rfl
set_option maxRecDepth 100000 in
set_option maxHeartbeats 4000000 in
theorem CheckMarks_any (s : Int) (A : Option Addr) (n : Nat) (xs : List Nat) (en : n = xs.length) (hn : n ≤ 1048576) (hf : ∀ x ∈ xs, x < 65536) (b : Bool) (k : Nat) (hr : chkR s xs = (b, k)) {w : World} {B : Nat} {e : Nat → Addr} (h : Errs w B e) (hB : B ≤ w.heap.size) (hg : Sl marS.C 1 w w.heap.size A xs) :
    Calls Tryd.prog 22 #[.int .i64 s, .slice A n n] w fun o w' => o = .returned (.tuple #[.bool b, .int .i64 k]) ∧ Below w.heap.size w w' := by
  have H := Lib.hid h
  have hne := ne_noMark
  obtain ⟨k0, hk0⟩ : ∃ k0, codeM s [xs] = k0 := ⟨_, rfl⟩
  obtain ⟨r, hcl⟩ : ∃ r, clashF xs = r := ⟨_, rfl⟩
  have hk' : (if k0 = 0 then (r.isNone, 0) else (false, k0)) = (b, k) := by rw [← hr, chkR, hk0, hcl]
  have hor := codeM_or s [xs]
  rw [hk0] at hor
  have hb1 : Below w.heap.size w (w.alloc (.cells #[.slice A n n] 23)) := (Below.refl _ _).alloc (Nat.le_refl _) _
  have HG := Lib.hid (MS.one (c := n) hg (by unfold maxLen; omega) 23 n w.heap.size en rfl)
  have HB1 := Lib.hid hb1
  have HE := Lib.hid (H.out.below (HB1.out.mono hB))
  have HK0 := Lib.hid hk0
  have HCA := Lib.hid (fun (u : World) (hu : Below w.heap.size w u) => checkApart_any A n xs en hn hf r hcl u ((hg.below hu).more hu.size))
  clear hb1 h hr hk0 hcl hf en hg
  go_enter Tryd.func22, Tryd.ntmps22
  go_wp2_with fail
  refine (checkMarks_any s (some ⟨w.heap.size, 0, Option.none⟩) 1 1 [⟨A, n, xs⟩] rfl (by decide) HE.out (Nat.le_trans hB HB1.out.size) HG.out k0 (by simpa using HK0.out)).mono ?_
  rintro o w1 ⟨rfl, hb⟩
  have HB2 := Lib.hid (below_next HB1.out hb (Nat.le_refl _))
  have HE2 := Lib.hid (H.out.below (HB2.out.mono hB))
  clear hb
  rcases hor with rfl | rfl | rfl
  · rw [show errM e 0 = .nilIface from rfl]
    cases r with
    | none =>
      obtain ⟨rfl, rfl⟩ : true = b ∧ 0 = k := by simpa using hk'
      rw [show errA none = .nilIface from rfl] at HCA
      clear hk'
      go_wp2_with fail
      refine (HCA.out _ HB2.out).mono ?_
      rintro o w2 ⟨rfl, hb⟩
      go_wp2_with fail
      go_ret2
      exact ⟨rfl, below_next HB2.out hb (Nat.le_refl _)⟩
    | some p =>
      obtain ⟨i, j⟩ := p
      obtain ⟨rfl, rfl⟩ : false = b ∧ 0 = k := by simpa using hk'
      rw [show errA (some (i, j)) = apartV (i : Int) (j : Int) from rfl] at HCA
      have hna := nil_apart (i : Int) (j : Int)
      clear hk'
      go_wp2_with fail
      refine (HCA.out _ HB2.out).mono ?_
      rintro o w2 ⟨rfl, hb⟩
      go_wp2_with fail
      go_ret2
      exact ⟨rfl, below_next HB2.out hb (Nat.le_refl _)⟩
  · rw [show errM e 1 = noMarkV from rfl]
    obtain ⟨rfl, rfl⟩ : false = b ∧ 1 = k := by simpa using hk'
    clear hk' HCA
    go_wp2_with (first | (go_at_call 53; refine (codeOf_noMark HE2.out (Nat.le_trans hB HB2.out.size)).mono ?_; rintro o w4 ⟨rfl, hb4⟩) | fail)
    go_ret2
    exact ⟨rfl, below_next HB2.out hb4 (Nat.le_refl _)⟩
  · rw [show errM e 3 = errV (e 2) from rfl]
    obtain ⟨rfl, rfl⟩ : false = b ∧ 3 = k := by simpa using hk'
    clear hk' HCA
    go_wp2_with fail
    refine (codeOf_any HE2.out 3 (by omega)).mono ?_
    rintro o w4 ⟨rfl, rfl⟩
    go_wp2_with fail
    go_ret2
    exact ⟨rfl, HB2.out⟩
set_option maxRecDepth 100000 in
set_option maxHeartbeats 4000000 in
theorem ReadStitches_spec (s : Int) (A : Option Addr) (n c : Nat) (xs : List Nat) (en : n = xs.length) (hn : n ≤ 1048576) (hf : ∀ x ∈ xs, x < 65536) (m : Nat) (hm : m < 65536) (a k : Nat) (hr : rdR s xs m = (a, k)) (w : World) (hg : Sl marS.C 1 w w.heap.size A xs) :
    Calls Tryd.prog 25 #[.int .i64 s, .slice A n c, .int .u16 m] w fun o w' => o = .returned (.tuple #[.int .i64 a, .int .i64 k]) ∧ Below w.heap.size w w' := by
  have HO := Lib.hid (l06Ok_any s m)
  obtain ⟨k0, hk0⟩ : ∃ k0, codeT s xs = k0 := ⟨_, rfl⟩
  obtain ⟨r, hrd⟩ : ∃ r, readF xs m = r := ⟨_, rfl⟩
  have HT := Lib.hid (l06Told_any s A n c xs en hn hf k0 hk0 w hg)
  have HR := Lib.hid (fun (u : World) (hu : Below w.heap.size w u) => l06Read_any A n c xs en hn hf m r hrd u ((hg.below hu).more hu.size))
  cases hb : okB s m with
  | false =>
    rw [hb] at HO
    obtain ⟨rfl, rfl⟩ : 0 = a ∧ 1 = k := by simpa [rdR, hb] using hr
    clear hb hr HT HR hg hf en hk0 hrd hm
    go_enter Tryd.func25, Tryd.ntmps25
    go_wp2_with (first | (go_at_call 50; refine (HO.out _).mono ?_; rintro o w1 ⟨rfl, rfl⟩) | fail)
    go_ret2
    exact ⟨rfl, Below.refl _ _⟩
  | true =>
    rw [hb] at HO
    have hk' : (if k0 = 0 then (r.getD 0, if r.isSome = true then 0 else 6) else (0, k0)) = (a, k) := by rw [← hr, rdR, hb, hk0, hrd]; rfl
    clear hb hr hg hf en hk0 hrd hm
    by_cases h0 : k0 = 0
    · subst h0
      go_enter Tryd.func25, Tryd.ntmps25
      go_wp2_with (first | (go_at_call 50; refine (HO.out _).mono ?_; rintro o w1 ⟨rfl, rfl⟩) | fail)
      refine HT.out.mono ?_
      rintro o w1 ⟨rfl, hb1⟩
      have HB1 := Lib.hid hb1
      clear hb1
      cases r with
      | none =>
        obtain ⟨rfl, rfl⟩ : 0 = a ∧ 6 = k := by simpa using hk'
        rw [show optI none = -1 from rfl] at HR
        clear hk'
        go_wp2_with fail
        refine (HR.out _ HB1.out).mono ?_
        rintro o w2 ⟨rfl, hb2⟩
        go_wp2_with fail
        go_ret2
        exact ⟨rfl, below_next HB1.out hb2 (Nat.le_refl _)⟩
      | some i =>
        obtain ⟨rfl, rfl⟩ : i = a ∧ 0 = k := by simpa using hk'
        rw [show optI (some i) = (i : Int) from rfl] at HR
        clear hk'
        go_wp2_with fail
        refine (HR.out _ HB1.out).mono ?_
        rintro o w2 ⟨rfl, hb2⟩
        go_wp2_with fail
        go_ret2
        exact ⟨rfl, below_next HB1.out hb2 (Nat.le_refl _)⟩
    · obtain ⟨rfl, rfl⟩ : 0 = a ∧ k0 = k := by simpa [h0] using hk'
      have hne : ((k0 : Int) != 0) = true := by rw [bne_iff_ne]; omega
      clear hk' HR h0
      go_enter Tryd.func25, Tryd.ntmps25
      go_wp2_with (first | (go_at_call 50; refine (HO.out _).mono ?_; rintro o w1 ⟨rfl, rfl⟩) | fail)
      refine HT.out.mono ?_
      rintro o w1 ⟨rfl, hb1⟩
      go_wp2_with fail
      go_ret2
      exact ⟨rfl, hb1⟩
set_option maxRecDepth 100000 in
set_option maxHeartbeats 4000000 in
theorem ReadStitches_any (s : Int) (A : Option Addr) (n : Nat) (xs : List Nat) (en : n = xs.length) (hn : n ≤ 1048576) (hf : ∀ x ∈ xs, x < 65536) (m : Nat) (hm : m < 65536) (a k : Nat) (hr : rdR s xs m = (a, k)) {w : World} {B : Nat} {e : Nat → Addr} (h : Errs w B e) (hB : B ≤ w.heap.size) (hg : Sl marS.C 1 w w.heap.size A xs) :
    Calls Tryd.prog 26 #[.int .i64 s, .slice A n n, .int .u16 m] w fun o w' => o = .returned (.tuple #[.int .i64 a, .int .i64 k]) ∧ Below w.heap.size w w' := by
  have H := Lib.hid h
  have hne := ne_noMark
  obtain ⟨k0, hk0⟩ : ∃ k0, codeM s [xs, [m]] = k0 := ⟨_, rfl⟩
  obtain ⟨q, hcl⟩ : ∃ q, clashF xs = q := ⟨_, rfl⟩
  obtain ⟨r, hrd⟩ : ∃ r, readF xs m = r := ⟨_, rfl⟩
  have hk' : (if k0 = 0 then (if q.isSome = true then (0, 4) else (r.getD 0, if r.isSome = true then 0 else 6)) else (0, k0)) = (a, k) := by
    rw [← hr, rdR, ← hk0, codeM_and, hrd]
    cases okB s m with
    | false => simp
    | true =>
      rcases codeM_or s [xs] with h1 | h1 | h1
      · simp only [codeT, h1, hcl, if_true]
        cases q <;> simp
      · simp [codeT, h1]
      · simp [codeT, h1]
  have hor := codeM_or s [xs, [m]]
  rw [hk0] at hor
  have hb1 : Below w.heap.size w (w.alloc (.cells #[.int .u16 m] 26)) := (Below.refl _ _).alloc (Nat.le_refl _) _
  have hb2 : Below w.heap.size w ((w.alloc (.cells #[.int .u16 m] 26)).alloc (.cells #[.slice A n n, .slice (some ⟨w.heap.size, 0, Option.none⟩) 1 1] 23)) := hb1.alloc (by simp) _
  have HG := Lib.hid (MS.two (w := w.alloc (.cells #[.int .u16 m] 26)) (c := n) (c' := 1) ((hg.below hb1).more hb1.size) (new_marks w [m] 26) (by unfold maxLen; omega) (by simp [maxLen]) 23 n 1 (w.heap.size + 1) en rfl (by simp))
  have HB1 := Lib.hid hb2
  have HE := Lib.hid (H.out.below (HB1.out.mono hB))
  have HK0 := Lib.hid hk0
  have HCA := Lib.hid (fun (u : World) (hu : Below w.heap.size w u) => checkApart_any A n xs en hn hf q hcl u ((hg.below hu).more hu.size))
  have HRB := Lib.hid (fun (u : World) (hu : Below w.heap.size w u) => readBy_any A n n xs en hn hf m hm r hrd (H.out.below (hu.mono hB)) (Nat.le_trans hB hu.size) ((hg.below hu).more hu.size))
  clear hb1 hb2 h hr hk0 hcl hf en hg hrd hm
  go_enter Tryd.func26, Tryd.ntmps26
  go_wp2_with fail
  refine (checkMarks_any s (some ⟨w.heap.size + 1, 0, Option.none⟩) 2 2 [⟨A, n, xs⟩, ⟨some ⟨w.heap.size, 0, Option.none⟩, 1, [m]⟩] rfl (by decide) HE.out (Nat.le_trans hB HB1.out.size) HG.out k0 (by simpa using HK0.out)).mono ?_
  rintro o w1 ⟨rfl, hb⟩
  have HB2 := Lib.hid (below_next HB1.out hb (Nat.le_refl _))
  have HE2 := Lib.hid (H.out.below (HB2.out.mono hB))
  clear hb
  rcases hor with rfl | rfl | rfl
  · rw [show errM e 0 = .nilIface from rfl]
    cases q with
    | none =>
      rw [show errA none = .nilIface from rfl] at HCA
      go_wp2_with fail
      refine (HCA.out _ HB2.out).mono ?_
      rintro o w2 ⟨rfl, hb⟩
      have HB3 := Lib.hid (below_next HB2.out hb (Nat.le_refl _))
      clear hb
      cases r with
      | none =>
        obtain ⟨rfl, rfl⟩ : 0 = a ∧ 6 = k := by simpa using hk'
        have hrb := HRB.out _ HB3.out
        rw [show errOf e (if (none : Option Nat).isSome = true then 0 else 6) = errV (e 5) from rfl] at hrb
        have HRB := Lib.hid hrb
        clear hk' hrb
        go_wp2_with fail
        refine HRB.out.mono ?_
        rintro o w3 ⟨rfl, hb⟩
        have HB4 := Lib.hid (below_next HB3.out hb (Nat.le_refl _))
        clear hb
        go_wp2_with fail
        refine (codeOf_any (H.out.below (HB4.out.mono hB)) 6 (by omega)).mono ?_
        rintro o w4 ⟨rfl, rfl⟩
        go_wp2_with fail
        go_ret2
        exact ⟨rfl, HB4.out⟩
      | some i =>
        obtain ⟨rfl, rfl⟩ : i = a ∧ 0 = k := by simpa using hk'
        have hrb := HRB.out _ HB3.out
        rw [show errOf e (if (some i).isSome = true then 0 else 6) = .nilIface from rfl] at hrb
        have HRB := Lib.hid hrb
        clear hk' hrb
        go_wp2_with fail
        refine HRB.out.mono ?_
        rintro o w3 ⟨rfl, hb⟩
        have HB4 := Lib.hid (below_next HB3.out hb (Nat.le_refl _))
        clear hb
        go_wp2_with fail
        refine (codeOf_any (H.out.below (HB4.out.mono hB)) 0 (by omega)).mono ?_
        rintro o w4 ⟨rfl, rfl⟩
        go_wp2_with fail
        go_ret2
        exact ⟨rfl, HB4.out⟩
    | some p =>
      obtain ⟨i, j⟩ := p
      obtain ⟨rfl, rfl⟩ : 0 = a ∧ 4 = k := by simpa using hk'
      rw [show errA (some (i, j)) = apartV (i : Int) (j : Int) from rfl] at HCA
      have hna := ne_apart (i : Int) (j : Int)
      clear hk' HRB
      go_wp2_with fail
      refine (HCA.out _ HB2.out).mono ?_
      rintro o w2 ⟨rfl, hb⟩
      have HB3 := Lib.hid (below_next HB2.out hb (Nat.le_refl _))
      clear hb
      go_wp2_with fail
      refine (codeOf_apart (i : Int) (j : Int) (H.out.below (HB3.out.mono hB)) (Nat.le_trans hB HB3.out.size)).mono ?_
      rintro o w3 ⟨rfl, hb⟩
      go_wp2_with fail
      go_ret2
      exact ⟨rfl, below_next HB3.out hb (Nat.le_refl _)⟩
  · rw [show errM e 1 = noMarkV from rfl]
    obtain ⟨rfl, rfl⟩ : 0 = a ∧ 1 = k := by simpa using hk'
    clear hk' HCA HRB
    go_wp2_with (first | (go_at_call 53; refine (codeOf_noMark HE2.out (Nat.le_trans hB HB2.out.size)).mono ?_; rintro o w4 ⟨rfl, hb4⟩) | fail)
    go_ret2
    exact ⟨rfl, below_next HB2.out hb4 (Nat.le_refl _)⟩
  · rw [show errM e 3 = errV (e 2) from rfl]
    obtain ⟨rfl, rfl⟩ : 0 = a ∧ 3 = k := by simpa using hk'
    clear hk' HCA HRB
    go_wp2_with fail
    refine (codeOf_any HE2.out 3 (by omega)).mono ?_
    rintro o w4 ⟨rfl, rfl⟩
    go_wp2_with fail
    go_ret2
    exact ⟨rfl, HB2.out⟩
end Go.Proofs.YtlembainfhnnbaaDoor.mks

/-
  'errors.As' at the program's error of marks that are not told apart: the pair of their places.
-/
namespace Go.Proofs.YtlembainfhnnbaaDoor.mks
open Go Go.RowKit sl stk errs Go.Extern.Stop Go.Stop Go.Extern

theorem as_nil (t : Value) (w : World) : Calls Tryd.prog 59 #[.nilIface, t] w fun e w' => e = .returned (.bool false) ∧ w' = w := by
  go_enter Tryd.func59, Tryd.ntmps59
  go_wp2
  go_ret
  exact ⟨rfl, rfl⟩
theorem as_valueP (t : Addr) (w : World) : (ReflectliteValue.unpack (.iface 75 (.pointer (some t)))).run Tryd.prog w
    = .ok (.agg #[.pointer (some ⟨8, 75, none⟩), .pointer (some ⟨w.heap.size, 0, none⟩), .int .u64 150]) (w.alloc (.cells #[.pointer (some t)] 75)) := by kernel_rfl
theorem as_typeP (a : Addr) (w : World) : (ReflectliteValue.methodAny (ReflectliteValue.valueError "reflectlite.Value.Type" 0) (fun t _ _ _ => ReflectliteType.toType t) #[.agg #[.pointer (some ⟨8, 75, none⟩), .pointer (some a), .int .u64 150]]).run Tryd.prog w
    = .ok (.iface 121 (.agg #[.pointer (some ⟨8, 75, none⟩)])) w := by kernel_rfl
theorem as_methodElem (h : Value) (w : World) : (Go.method 269 121 (.agg #[h]) "Elem").run Tryd.prog w = .ok (124, .agg #[h]) w := by kernel_rfl
theorem as_methodImplements (h : Value) (w : World) : (Go.method 269 121 (.agg #[h]) "Implements").run Tryd.prog w = .ok (125, .agg #[h]) w := by kernel_rfl
theorem as_methodAssignable (h : Value) (w : World) : (Go.method 269 121 (.agg #[h]) "AssignableTo").run Tryd.prog w = .ok (122, .agg #[h]) w := by kernel_rfl
theorem as_elemP (w : World) : (ReflectliteType.method ReflectliteType.elem #[.agg #[.pointer (some ⟨8, 75, none⟩)]]).run Tryd.prog w = .ok (.iface 121 (.agg #[.pointer (some ⟨8, 73, none⟩)])) w := by kernel_rfl
theorem as_implements (w : World) : (ReflectliteType.relation "Implements" ReflectliteType.implements_ #[.agg #[.pointer (some ⟨8, 73, none⟩)], .iface 121 (.agg #[.pointer (some ⟨8, 65, none⟩)])]).run Tryd.prog w = .ok (.bool true) w := by kernel_rfl
theorem as_typeOf (v : Value) (w : World) : (ReflectliteType.typeOf #[.iface 73 v]).run Tryd.prog w = .ok (.iface 121 (.agg #[.pointer (some ⟨8, 73, none⟩)])) w := by kernel_rfl
theorem as_assignable (w : World) : (ReflectliteType.relation "AssignableTo" ReflectliteType.assignableTo #[.agg #[.pointer (some ⟨8, 73, none⟩)], .iface 121 (.agg #[.pointer (some ⟨8, 73, none⟩)])]).run Tryd.prog w = .ok (.bool true) w := by kernel_rfl
theorem as_valueT (i k : Int) (w : World) : (ReflectliteValue.unpack (.iface 73 (.agg #[.int .i64 i, .int .i64 k]))).run Tryd.prog w
    = .ok (.agg #[.pointer (some ⟨8, 73, none⟩), .pointer (some ⟨w.heap.size, 0, none⟩), .int .u64 153]) (w.alloc (.cells #[.int .i64 i, .int .i64 k] 73)) := by kernel_rfl
theorem as_rlm (z : Sem Value) (f : TypeId → Addr → Nat → Nat → Sem Value) (v : Value) :
    ReflectliteValue.method z f #[v] = (do match ← ReflectliteValue.parts v with | none => z | some (t, a, fl) => f t a fl (fl % 32)) := rfl
theorem as_partsP (a : Addr) (w : World) : (ReflectliteValue.parts (.agg #[.pointer (some ⟨8, 75, none⟩), .pointer (some a), .int .u64 150])).run Tryd.prog w = .ok (some (75, a, 150)) w := by kernel_rfl
theorem as_elemOfP (w : World) : (Rtype.elem? 75).run Tryd.prog w = .ok (some 73) w := by kernel_rfl
theorem as_mkT (p : Addr) (w : World) : (ReflectliteValue.mk 73 p ReflectliteValue.flagAddr).run Tryd.prog w = .ok (.agg #[.pointer (some ⟨8, 73, none⟩), .pointer (some p), .int .u64 409]) w := by kernel_rfl
theorem as_partsT1 (a : Addr) (w : World) : (ReflectliteValue.parts (.agg #[.pointer (some ⟨8, 73, none⟩), .pointer (some a), .int .u64 409])).run Tryd.prog w = .ok (some (73, a, 409)) w := by kernel_rfl
theorem as_partsT2 (a : Addr) (w : World) : (ReflectliteValue.parts (.agg #[.pointer (some ⟨8, 73, none⟩), .pointer (some a), .int .u64 153])).run Tryd.prog w = .ok (some (73, a, 153)) w := by kernel_rfl
theorem as_direct (w : World) : (Rtype.directlyAssignable 73 73).run Tryd.prog w = .ok true w := by kernel_rfl
/-- (Value).IsNil at the Value of a pointer that is not nil. -/
theorem as_isNil (a p : Addr) (W : World) (ha : W.cell? a = some (.pointer (some p))) :
    (ReflectliteValue.method (ReflectliteValue.valueError "reflectlite.Value.IsNil" 0) ReflectliteValue.isNil #[.agg #[.pointer (some ⟨8, 75, none⟩), .pointer (some a), .int .u64 150]]).run Tryd.prog W = .ok (.bool false) W := by
  rw [as_rlm]
  simp only [Sem.run_bind, as_partsP, Result.andThen]
  simp [ReflectliteValue.isNil, loadVar, isAgg, underlying, Tryd.underlying75, ha, Result.andThen]
/-- (Value).Elem at the Value of a pointer that is not nil: the Value of the variable that it points to, addressable. -/
theorem as_elemV (a p : Addr) (W : World) (ha : W.cell? a = some (.pointer (some p))) :
    (ReflectliteValue.method (ReflectliteValue.valueError "reflectlite.Value.Elem" 0) ReflectliteValue.elem #[.agg #[.pointer (some ⟨8, 75, none⟩), .pointer (some a), .int .u64 150]]).run Tryd.prog W
      = .ok (.agg #[.pointer (some ⟨8, 73, none⟩), .pointer (some p), .int .u64 409]) W := by
  rw [as_rlm]
  simp only [Sem.run_bind, as_partsP, Result.andThen]
  simp [ReflectliteValue.elem, loadVar, isAgg, underlying, Tryd.underlying75, ha, Result.andThen, as_elemOfP, as_mkT]
theorem as_rls (v x : Value) : ReflectliteValue.set #[v, x] = (do
    let (some (dst, a, fl), some (src, b, _)) := (← ReflectliteValue.parts v, ← ReflectliteValue.parts x)
      | unsupported (.noEntry "extern/(internal/reflectlite.Value).Set.zeroValue")
    if fl / ReflectliteValue.flagAddr % 2 == 0 then unsupported (.noEntry "extern/(internal/reflectlite.Value).Set.unaddressable")
    let val ← loadVar src b
    if ← Rtype.directlyAssignable dst src then storeVar dst a val
    else if ← Rtype.implements dst src then
      if (← Rtype.kind src) == 20 then
        match val with
        | .nilIface => unsupported (.noEntry "extern/reflectlite: a nil value of one interface type handed on as a value of another")
        | _ => storeVar dst a val
      else storeVar dst a (.iface src val)
    else panicString ("reflectlite.Set: value of type " ++ (← Rtype.spelt src) ++ " is not assignable to type " ++ (← Rtype.spelt dst))
    pure (.tuple #[])) := rfl
/-- (Value).Set: the variable at 'ta' gets what the Value's own variable 'b' holds. -/
theorem as_set (t b : Nat) (i k : Int) (o1 o2 : Value) (W : World) (hb : W.cell? ⟨b, 0, none⟩ = some (.int .i64 i)) (hb1 : W.cell? ⟨b, 1, none⟩ = some (.int .i64 k)) (ht : W.cell? ⟨t, 0, none⟩ = some o1) (ht1 : W.cell? ⟨t, 1, none⟩ = some o2) (hf : W.frozen? ⟨t, 0, none⟩ = false) (hf1 : W.frozen? ⟨t, 1, none⟩ = false) :
    (ReflectliteValue.set #[.agg #[.pointer (some ⟨8, 73, none⟩), .pointer (some ⟨t, 0, none⟩), .int .u64 409], .agg #[.pointer (some ⟨8, 73, none⟩), .pointer (some ⟨b, 0, none⟩), .int .u64 153]]).run Tryd.prog W
      = .ok (.tuple #[]) ((W.setCell ⟨t, 0, none⟩ (.int .i64 i)).setCell ⟨t, 1, none⟩ (.int .i64 k)) := by
  rw [as_rls]
  simp only [Sem.run_bind, as_partsT1, as_partsT2, Result.andThen]
  have hl : Sem.run Tryd.prog (loadCells ⟨b, 0, none⟩ 2) W = .ok #[.int .i64 i, .int .i64 k] W := by
    simp [loadCells, loadCellsFrom, Addr.add, hb, hb1, Result.andThen]
  have hne : (⟨t, 1, none⟩ : Addr) ≠ ⟨t, 0, none⟩ := by simp
  have h2 : (W.setCell ⟨t, 0, none⟩ (.int .i64 i)).cell? ⟨t, 1, none⟩ = some o2 := by
    first
      | (simp [World.cell?_setCell_ne, hne, ht1]; done)
      | (rw [World.cell?_setCell_other _ _ _ _ (by simp)]; exact ht1)
  have h3 : (W.setCell ⟨t, 0, none⟩ (.int .i64 i)).frozen? ⟨t, 1, none⟩ = false := by simp [hf1]
  simp [ReflectliteValue.flagAddr, loadVar, isAgg, underlying, Tryd.underlying73, Result.andThen, as_direct, storeVar, Value.cells, hl, storeCells, Addr.add]
  rw [run_store Tryd.prog W ⟨t, 0, none⟩ _ _ (by rfl)]
  simp [ht, hf]
  rw [run_store Tryd.prog _ ⟨t, 1, none⟩ _ _ (by rfl)]
  simp [h2, h3]
theorem as_kindP (w : World) : ((ReflectliteType.abiMethod fun t => (fun a : Nat => Value.int IntKind.u8 (a : Int)) <$> Rtype.kind t) #[.pointer (some ⟨8, 75, none⟩)]).run Tryd.prog w = .ok (.int .u8 22) w := by kernel_rfl
theorem as_kindT (w : World) : ((ReflectliteType.abiMethod fun t => (fun a : Nat => Value.int IntKind.u8 (a : Int)) <$> Rtype.kind t) #[.pointer (some ⟨8, 73, none⟩)]).run Tryd.prog w = .ok (.int .u8 25) w := by kernel_rfl
theorem as_methodKind (h : Value) (w : World) : (Go.method 269 121 (.agg #[h]) "Kind").run Tryd.prog w = .ok (111, h) w := by kernel_rfl
/-- a block that was there before -/
theorem as_old {w : World} {o : Obj} {p : Addr} {v : Value} (h : w.cell? p = some v) : (w.alloc o).cell? p = some v := by
  have hl : p.block < w.heap.size := by
    rcases Nat.lt_or_ge p.block w.heap.size with h1 | h1
    · exact h1
    · simp [World.cell?, Array.getElem?_eq_none h1] at h
  rw [World.cell?_alloc_lt _ _ p hl]
  exact h
set_option maxRecDepth 100000 in
set_option maxHeartbeats 4000000 in
theorem as_hit (i k : Int) (t : Nat) (o1 o2 : Value) (w : World) (B : Nat) (hB : B ≤ t) (hBw : B ≤ w.heap.size) (hg : w.cell? ⟨7, 0, none⟩ = some (.iface 121 (.agg #[.pointer (some ⟨8, 65, none⟩)]))) (ht0 : w.cell? ⟨t, 0, none⟩ = some o1) (ht1 : w.cell? ⟨t, 1, none⟩ = some o2) (hf0 : w.frozen? ⟨t, 0, none⟩ = false) (hf1 : w.frozen? ⟨t, 1, none⟩ = false) (htl : t < w.heap.size) :
    Calls Tryd.prog 59 #[apartV i k, .iface 75 (.pointer (some ⟨t, 0, none⟩))] w fun ev w' => ev = .returned (.bool true) ∧ w'.cell? ⟨t, 0, none⟩ = some (.int .i64 i) ∧ w'.cell? ⟨t, 1, none⟩ = some (.int .i64 k) ∧ Below B w w' := by
  have h1 := @run_callFunc_extern Tryd.prog 83 _ (fun args => ReflectliteValue.unpack (args.getD 0 (.tuple #[]))) Tryd.func83 (by kernel_rfl) (by kernel_rfl) (by kernel_rfl) (by kernel_rfl)
  have h2 := @run_callFunc_extern Tryd.prog 84 _ (ReflectliteValue.methodAny (ReflectliteValue.valueError "reflectlite.Value.Type" 0) (fun t _ _ _ => ReflectliteType.toType t)) Tryd.func84 (by kernel_rfl) (by kernel_rfl) (by kernel_rfl) (by kernel_rfl)
  have h3 := @run_callFunc_extern Tryd.prog 85 _ (ReflectliteValue.method (ReflectliteValue.valueError "reflectlite.Value.IsNil" 0) ReflectliteValue.isNil) Tryd.func85 (by kernel_rfl) (by kernel_rfl) (by kernel_rfl) (by kernel_rfl)
  have h4 := @run_callFunc_extern Tryd.prog 111 _ (ReflectliteType.abiMethod fun t => do pure (.int .u8 (← Rtype.kind t))) Tryd.func111 (by kernel_rfl) (by kernel_rfl) (by kernel_rfl) (by kernel_rfl)
  have h5 := @run_callFunc_extern Tryd.prog 124 _ (ReflectliteType.method ReflectliteType.elem) Tryd.func124 (by kernel_rfl) (by kernel_rfl) (by kernel_rfl) (by kernel_rfl)
  have h6 := @run_callFunc_extern Tryd.prog 125 _ (ReflectliteType.relation "Implements" ReflectliteType.implements_) Tryd.func125 (by kernel_rfl) (by kernel_rfl) (by kernel_rfl) (by kernel_rfl)
  have h7 := @run_callFunc_extern Tryd.prog 90 _ ReflectliteType.typeOf Tryd.func90 (by kernel_rfl) (by kernel_rfl) (by kernel_rfl) (by kernel_rfl)
  have h8 := @run_callFunc_extern Tryd.prog 122 _ (ReflectliteType.relation "AssignableTo" ReflectliteType.assignableTo) Tryd.func122 (by kernel_rfl) (by kernel_rfl) (by kernel_rfl) (by kernel_rfl)
  have h9 := @run_callFunc_extern Tryd.prog 93 _ (ReflectliteValue.method (ReflectliteValue.valueError "reflectlite.Value.Elem" 0) ReflectliteValue.elem) Tryd.func93 (by kernel_rfl) (by kernel_rfl) (by kernel_rfl) (by kernel_rfl)
  have h10 := @run_callFunc_extern Tryd.prog 94 _ ReflectliteValue.set Tryd.func94 (by kernel_rfl) (by kernel_rfl) (by kernel_rfl) (by kernel_rfl)
  have tO := as_typeOf
  have mA := as_methodAssignable
  have aT := as_assignable
  have vT := as_valueT
  have f6 := as_valueP
  have f7 := as_typeP
  have mK := as_methodKind
  have mE := as_methodElem
  have mI := as_methodImplements
  have kP := as_kindP
  have kT := as_kindT
  have eP := as_elemP
  have iT := as_implements
  have n8 := as_isNil ⟨w.heap.size, 0, none⟩ ⟨t, 0, none⟩ ((w.alloc (.cells #[.pointer (some ⟨t, 0, none⟩)] 75)).alloc (.cells #[.pointer (some ⟨8, 75, none⟩), .pointer (some ⟨w.heap.size, 0, none⟩), .int .u64 150] 103)) (by simp)
  have hg2 := as_old (o := .cells #[.pointer (some ⟨8, 75, none⟩), .pointer (some ⟨w.heap.size, 0, none⟩), .int .u64 150] 103) (as_old (o := .cells #[.pointer (some ⟨t, 0, none⟩)] 75) hg)
  have el := as_elemV ⟨w.heap.size, 0, none⟩ ⟨t, 0, none⟩ (((w.alloc (.cells #[.pointer (some ⟨t, 0, none⟩)] 75)).alloc (.cells #[.pointer (some ⟨8, 75, none⟩), .pointer (some ⟨w.heap.size, 0, none⟩), .int .u64 150] 103)).alloc (.cells #[.pointer (some ⟨8, 75, none⟩), .pointer (some ⟨w.heap.size, 0, none⟩), .int .u64 150] 103)) (as_old (as_old (by simp)))
  have st := as_set t (w.heap.size + 1 + 1 + 1) i k o1 o2 ((((w.alloc (.cells #[.pointer (some ⟨t, 0, none⟩)] 75)).alloc (.cells #[.pointer (some ⟨8, 75, none⟩), .pointer (some ⟨w.heap.size, 0, none⟩), .int .u64 150] 103)).alloc (.cells #[.pointer (some ⟨8, 75, none⟩), .pointer (some ⟨w.heap.size, 0, none⟩), .int .u64 150] 103)).alloc (.cells #[.int .i64 i, .int .i64 k] 73))
    (by rw [World.cell?_alloc_at _ _ _ _ (by simp)]; rfl)
    (by rw [World.cell?_alloc_at _ _ _ _ (by simp)]; rfl)
    (as_old (as_old (as_old (as_old ht0))))
    (as_old (as_old (as_old (as_old ht1))))
    (by rw [World.frozen?_alloc_old _ _ _ (by simp; omega), World.frozen?_alloc_old _ _ _ (by simp; omega), World.frozen?_alloc_old _ _ _ (by simp; omega), World.frozen?_alloc_old _ _ _ (Nat.ne_of_lt htl)]; exact hf0)
    (by rw [World.frozen?_alloc_old _ _ _ (by simp; omega), World.frozen?_alloc_old _ _ _ (by simp; omega), World.frozen?_alloc_old _ _ _ (by simp; omega), World.frozen?_alloc_old _ _ _ (Nat.ne_of_lt htl)]; exact hf1)
  have hb4 : Below B w ((((w.alloc (.cells #[.pointer (some ⟨t, 0, none⟩)] 75)).alloc (.cells #[.pointer (some ⟨8, 75, none⟩), .pointer (some ⟨w.heap.size, 0, none⟩), .int .u64 150] 103)).alloc (.cells #[.pointer (some ⟨8, 75, none⟩), .pointer (some ⟨w.heap.size, 0, none⟩), .int .u64 150] 103)).alloc (.cells #[.int .i64 i, .int .i64 k] 73)) :=
    ((((Below.refl B w).alloc hBw _).alloc (by simp; omega) _).alloc (by simp; omega) _).alloc (by simp; omega) _
  have c0 := as_old (o := .cells #[.int .i64 i, .int .i64 k] 73) (as_old (o := .cells #[.pointer (some ⟨8, 75, none⟩), .pointer (some ⟨w.heap.size, 0, none⟩), .int .u64 150] 103) (as_old (o := .cells #[.pointer (some ⟨8, 75, none⟩), .pointer (some ⟨w.heap.size, 0, none⟩), .int .u64 150] 103) (as_old (o := .cells #[.pointer (some ⟨t, 0, none⟩)] 75) ht0)))
  have c1 := as_old (o := .cells #[.int .i64 i, .int .i64 k] 73) (as_old (o := .cells #[.pointer (some ⟨8, 75, none⟩), .pointer (some ⟨w.heap.size, 0, none⟩), .int .u64 150] 103) (as_old (o := .cells #[.pointer (some ⟨8, 75, none⟩), .pointer (some ⟨w.heap.size, 0, none⟩), .int .u64 150] 103) (as_old (o := .cells #[.pointer (some ⟨t, 0, none⟩)] 75) ht1)))
  have HB4 := Lib.hid hb4
  have C0 := Lib.hid c0
  have C1 := Lib.hid c1
  clear hb4 c0 c1
  go_enter Tryd.func59, Tryd.ntmps59
  go_wp2
  refine wp_loop_rounds 1 ?_
  rw [rounds_succ]
  go_wp2
  go_ret
  refine ⟨rfl, ?_, ?_, (HB4.out.setCell (p := ⟨t, 0, none⟩) hB _).setCell (p := ⟨t, 1, none⟩) hB _⟩
  · exact (World.cell?_setCell_other _ _ _ _ (by simp)).trans (World.cell?_setCell_same _ _ _ C0.out)
  · exact World.cell?_setCell_same _ _ _ ((World.cell?_setCell_other _ _ _ _ (by simp)).trans C1.out)
end Go.Proofs.YtlembainfhnnbaaDoor.mks

/-
  The first pair of marks that are not told apart: the program's and the model's.
-/
namespace Go.Proofs.YtlembainfhnnbaaDoor.mks
open Go Go.RowKit sl stk errs fold

def fstR (s : Int) (xs : List Nat) : Nat × Nat × Nat := if codeM s [xs] = 0 then (match clashF xs with | none => (0, 0, 6) | some (i, j) => (i, j, 0)) else (0, 0, codeM s [xs])

set_option maxRecDepth 100000 in
set_option maxHeartbeats 4000000 in
theorem FirstClash_spec (s : Int) (A : Option Addr) (n c : Nat) (xs : List Nat) (en : n = xs.length) (hn : n ≤ 1048576) (hf : ∀ x ∈ xs, x < 65536) (a b k : Nat) (hr : fstR s xs = (a, b, k)) (w : World) (hg : Sl marS.C 1 w w.heap.size A xs) :
    Calls Tryd.prog 23 #[.int .i64 s, .slice A n c] w fun o w' => o = .returned (.tuple #[.int .i64 a, .int .i64 b, .int .i64 k]) ∧ Below w.heap.size w w' := by
  obtain ⟨k0, hk0⟩ : ∃ k0, codeM s [xs] = k0 := ⟨_, rfl⟩
  obtain ⟨r, hcl⟩ : ∃ r, clashF xs = r := ⟨_, rfl⟩
  have HL := Lib.hid (l06List_any s A n c xs en hn k0 hk0 w.heap.size w hg)
  have HC := Lib.hid (l06Clash_any A n c xs en hn hf r hcl w hg)
  unfold fstR at hr
  rw [hk0, hcl] at hr
  clear hk0 hcl hf en hg
  by_cases h0 : k0 = 0
  · subst h0
    cases r with
    | none =>
      obtain ⟨rfl, rfl, rfl⟩ : 0 = a ∧ 0 = b ∧ 6 = k := by simpa using hr
      rw [show fstI none = -1 from rfl, show sndI none = -1 from rfl] at HC
      clear hr
      go_enter Tryd.func23, Tryd.ntmps23
      go_wp2_with fail
      refine HL.out.mono ?_
      rintro o w1 ⟨rfl, rfl⟩
      go_wp2_with fail
      refine HC.out.mono ?_
      rintro o w1 ⟨rfl, hb⟩
      go_wp2_with fail
      go_ret3
      exact ⟨rfl, hb⟩
    | some p =>
      obtain ⟨i, j⟩ := p
      obtain ⟨rfl, rfl, rfl⟩ : i = a ∧ j = b ∧ 0 = k := by simpa using hr
      have hlt : decide ((i : Int) < 0) = false := by simp
      rw [show fstI (some (i, j)) = (i : Int) from rfl, show sndI (some (i, j)) = (j : Int) from rfl] at HC
      clear hr
      go_enter Tryd.func23, Tryd.ntmps23
      go_wp2_with fail
      refine HL.out.mono ?_
      rintro o w1 ⟨rfl, rfl⟩
      go_wp2_with fail
      refine HC.out.mono ?_
      rintro o w1 ⟨rfl, hb⟩
      go_wp2_with fail
      go_ret3
      exact ⟨rfl, hb⟩
  · obtain ⟨rfl, rfl, rfl⟩ : 0 = a ∧ 0 = b ∧ k0 = k := by simpa [h0] using hr
    have hne : ((k0 : Int) != 0) = true := by rw [bne_iff_ne]; omega
    clear hr HC
    go_enter Tryd.func23, Tryd.ntmps23
    go_wp2_with fail
    refine HL.out.mono ?_
    rintro o w1 ⟨rfl, rfl⟩
    go_wp2_with fail
    go_ret3
    exact ⟨rfl, Below.refl _ _⟩
set_option maxRecDepth 100000 in
set_option maxHeartbeats 4000000 in
theorem FirstClash_any (s : Int) (A : Option Addr) (n : Nat) (xs : List Nat) (en : n = xs.length) (hn : n ≤ 1048576) (hf : ∀ x ∈ xs, x < 65536) (a b k : Nat) (hr : fstR s xs = (a, b, k)) {w : World} {B : Nat} {e : Nat → Addr} (h : Errs w B e) (hB : B ≤ w.heap.size) (hT : w.cell? ⟨7, 0, none⟩ = some (.iface 121 (.agg #[.pointer (some ⟨8, 65, none⟩)]))) (hTl : 7 < w.heap.size) (hg : Sl marS.C 1 w w.heap.size A xs) :
    Calls Tryd.prog 24 #[.int .i64 s, .slice A n n] w fun o w' => o = .returned (.tuple #[.int .i64 a, .int .i64 b, .int .i64 k]) ∧ Below w.heap.size w w' := by
  have H := Lib.hid h
  have hne := ne_noMark
  obtain ⟨k0, hk0⟩ : ∃ k0, codeM s [xs] = k0 := ⟨_, rfl⟩
  obtain ⟨r, hcl⟩ : ∃ r, clashF xs = r := ⟨_, rfl⟩
  unfold fstR at hr
  rw [hk0, hcl] at hr
  have hor := codeM_or s [xs]
  rw [hk0] at hor
  have hb1 : Below w.heap.size w (w.alloc (.cells #[.slice A n n] 23)) := (Below.refl _ _).alloc (Nat.le_refl _) _
  have HG := Lib.hid (MS.one (c := n) hg (by unfold maxLen; omega) 23 n w.heap.size en rfl)
  have HB1 := Lib.hid hb1
  have HE := Lib.hid (H.out.below (HB1.out.mono hB))
  have HK0 := Lib.hid hk0
  have HTC := Lib.hid (fun (u : World) (hu : Below w.heap.size w u) => (hu.cell (p := ⟨7, 0, none⟩) hTl).trans hT)
  have HCA := Lib.hid (fun (u : World) (hu : Below w.heap.size w u) => checkApart_any A n xs en hn hf r hcl u ((hg.below hu).more hu.size))
  clear hb1 h hk0 hcl hf en hg hT
  go_enter Tryd.func24, Tryd.ntmps24
  go_wp2_with fail
  refine (checkMarks_any s (some ⟨w.heap.size, 0, Option.none⟩) 1 1 [⟨A, n, xs⟩] rfl (by decide) HE.out (Nat.le_trans hB HB1.out.size) HG.out k0 (by simpa using HK0.out)).mono ?_
  rintro o w1 ⟨rfl, hb⟩
  have HB2 := Lib.hid (below_next HB1.out hb (Nat.le_refl _))
  have HE2 := Lib.hid (H.out.below (HB2.out.mono hB))
  clear hb
  rcases hor with rfl | rfl | rfl
  · rw [show errM e 0 = .nilIface from rfl]
    have hbv : Below w.heap.size w (w1.alloc (.cells #[.int .i64 0, .int .i64 0] 73)) := HB2.out.alloc HB2.out.size _
    have HBV := Lib.hid hbv
    clear hbv
    cases r with
    | none =>
      obtain ⟨rfl, rfl, rfl⟩ : 0 = a ∧ 0 = b ∧ 6 = k := by simpa using hr
      rw [show errA none = .nilIface from rfl] at HCA
      clear hr
      go_wp2_with fail
      refine (HCA.out _ HBV.out).mono ?_
      rintro o w2 ⟨rfl, hb⟩
      have HB3 := Lib.hid (below_next HBV.out hb (Nat.le_refl _))
      clear hb
      go_wp2_with fail
      refine (as_nil _ _).mono ?_
      rintro o w3 ⟨rfl, hw3⟩
      obtain rfl := hw3.symm
      go_wp2_with fail
      go_ret3
      exact ⟨rfl, HB3.out⟩
    | some p =>
      obtain ⟨i, j⟩ := p
      obtain ⟨rfl, rfl, rfl⟩ : i = a ∧ j = b ∧ 0 = k := by simpa using hr
      rw [show errA (some (i, j)) = apartV (i : Int) (j : Int) from rfl] at HCA
      have v0 : (w1.alloc (.cells #[.int .i64 0, .int .i64 0] 73)).cell? ⟨w1.heap.size, 0, none⟩ = some (.int .i64 0) := by simp
      have v1 : (w1.alloc (.cells #[.int .i64 0, .int .i64 0] 73)).cell? ⟨w1.heap.size, 1, none⟩ = some (.int .i64 0) := by
        rw [World.cell?_alloc_at _ _ _ _ (by simp)]; rfl
      have v2 : (w1.alloc (.cells #[.int .i64 0, .int .i64 0] 73)).frozen? ⟨w1.heap.size, 0, none⟩ = false := by simp
      have v3 : (w1.alloc (.cells #[.int .i64 0, .int .i64 0] 73)).frozen? ⟨w1.heap.size, 1, none⟩ = false := by simp
      have V0 := Lib.hid v0
      have V1 := Lib.hid v1
      have V2 := Lib.hid v2
      have V3 := Lib.hid v3
      clear hr v0 v1 v2 v3
      go_wp2_with fail
      refine (HCA.out _ HBV.out).mono ?_
      rintro o w2 ⟨rfl, hb⟩
      have HB3 := Lib.hid (below_next HBV.out hb (Nat.le_refl _))
      have hlt : w1.heap.size < (w1.alloc (.cells #[.int .i64 0, .int .i64 0] 73)).heap.size := by simp
      have hlt2 : w1.heap.size < w2.heap.size := Nat.lt_of_lt_of_le hlt hb.size
      have V0' := Lib.hid ((hb.cell (p := ⟨w1.heap.size, 0, none⟩) hlt).trans V0.out)
      have V1' := Lib.hid ((hb.cell (p := ⟨w1.heap.size, 1, none⟩) hlt).trans V1.out)
      have V2' := Lib.hid ((hb.frozen (p := ⟨w1.heap.size, 0, none⟩) hlt).trans V2.out)
      have V3' := Lib.hid ((hb.frozen (p := ⟨w1.heap.size, 1, none⟩) hlt).trans V3.out)
      have HLT := Lib.hid hlt2
      clear hb hlt hlt2
      go_wp2_with fail
      refine (as_hit (i : Int) (j : Int) w1.heap.size _ _ w2 w.heap.size HB2.out.size HB3.out.size (HTC.out _ HB3.out) V0'.out V1'.out V2'.out V3'.out HLT.out).mono ?_
      rintro o w3 ⟨rfl, l0, l1, hb⟩
      have HB4 := Lib.hid (HB3.out.trans hb)
      clear hb V0 V1 V2 V3 V0' V1' V2' V3'
      go_wp2_with (first | go_quiet (fail) | fail)
      go_ret3
      exact ⟨rfl, HB4.out.trans (below_drewN _ _ _)⟩
  · rw [show errM e 1 = noMarkV from rfl]
    obtain ⟨rfl, rfl, rfl⟩ : 0 = a ∧ 0 = b ∧ 1 = k := by simpa using hr
    clear hr HCA
    go_wp2_with (first | (go_at_call 53; refine (codeOf_noMark HE2.out (Nat.le_trans hB HB2.out.size)).mono ?_; rintro o w4 ⟨rfl, hb4⟩) | fail)
    go_ret3
    exact ⟨rfl, below_next HB2.out hb4 (Nat.le_refl _)⟩
  · rw [show errM e 3 = errV (e 2) from rfl]
    obtain ⟨rfl, rfl, rfl⟩ : 0 = a ∧ 0 = b ∧ 3 = k := by simpa using hr
    clear hr HCA
    go_wp2_with fail
    refine (codeOf_any HE2.out 3 (by omega)).mono ?_
    rintro o w4 ⟨rfl, rfl⟩
    go_wp2_with fail
    go_ret3
    exact ⟨rfl, HB2.out⟩
end Go.Proofs.YtlembainfhnnbaaDoor.mks
