/-
  Several texts of this proof, joined.
-/
import Derived.Test.YtlembainfhnnbaaDoorMkMust
import Derived.Test.YtlembainfhnnbaaDoorJoin14
import Derived.Test.YtlembainfhnnbaaDoorJoin13
import Derived.Test.YtlembainfhnnbaaDoorJoin15
/-
  Some lists of marks are looked at: the program's check.
-/
namespace Go.Proofs.YtlembainfhnnbaaDoor
open Go.RowKit sl
/-- a list of marks: where it lies, its capacity, its marks -/
structure Mw where
  A : Option Addr
  c : Nat
  xs : List Nat
abbrev Mw.v (r : Mw) : Value := .slice r.A r.xs.length r.c
abbrev Mw.C (r : Mw) : List Value := [r.v]
theorem Mw.len (rs : List Mw) : ∀ r ∈ rs, (Mw.C r).length = 1 := fun _ _ => rfl
end Go.Proofs.YtlembainfhnnbaaDoor
namespace Go.Proofs.YtlembainfhnnbaaDoor.mks
open Go Go.RowKit sl stk errs

/-- lists of marks in memory, all below block B -/
structure MS (w : World) (B : Nat) (A : Option Addr) (rs : List Mw) : Prop where
  heads : Sl Mw.C 1 w B A rs
  each : ∀ r ∈ rs, Sl marS.C 1 w B r.A r.xs
  short : ∀ r ∈ rs, r.xs.length ≤ maxLen
theorem MS.below {w w' : World} {B : Nat} {A : Option Addr} {rs : List Mw} (h : MS w B A rs) (hb : Below B w w') : MS w' B A rs := ⟨h.heads.below hb, fun r hr => (h.each r hr).below hb, h.short⟩
theorem MS.more {w : World} {B B' : Nat} {A : Option Addr} {rs : List Mw} (h : MS w B A rs) (hB : B ≤ B') : MS w B' A rs := ⟨h.heads.more hB, fun r hr => (h.each r hr).more hB, h.short⟩
theorem MS.head {w : World} {B : Nat} {A : Option Addr} {rs : List Mw} (h : MS w B A rs) {k : Nat} {r : Mw} (hr : rs[k]? = some r) : ∃ a, A = some a ∧ a.block < B ∧ w.cell? (a.add k) = some (.slice r.A r.xs.length r.c) := by
  obtain ⟨a, e, hb, hat⟩ := h.heads.at_ k r hr
  refine ⟨a, e, hb, ?_⟩
  have := hat 0 _ rfl
  rwa [Nat.mul_one] at this

/-- the code of marks -/
def codeM (s : Int) (ls : List (List Nat)) : Nat := if (inB s 1 12 && ls.all (fun xs => xs.all (okB s))) = true then (if ls.any (fun xs => decide (40 < xs.length)) = true then 3 else 0) else 1
/-- the error of a check of marks -/
def errM (e : Nat → Addr) (k : Nat) : Value := if k = 1 then noMarkV else errOf e k

theorem ok_zero (s : Int) : okB s 0 = inB s 1 12 := by
  unfold okB
  rw [show decide (0 < 2 ^ s.toNat) = true by simpa using Nat.two_pow_pos _]
  simp
theorem codeM_bad {s : Int} {ls : List (List Nat)} (h : inB s 1 12 = false) : codeM s ls = 1 := by simp [codeM, h]
theorem codeM_no {s : Int} {ls : List (List Nat)} {xs : List Nat} {m : Nat} (h : xs ∈ ls) (hm : m ∈ xs) (hb : okB s m = false) : codeM s ls = 1 := by
  unfold codeM
  rw [if_neg]
  simp only [Bool.and_eq_true, List.all_eq_true, not_and]
  intro _ h2
  have := h2 xs h m hm
  rw [hb] at this
  cases this
theorem codeM_many {s : Int} {ls : List (List Nat)} (h : inB s 1 12 = true) (ha : ∀ xs ∈ ls, ∀ m ∈ xs, okB s m = true) {xs : List Nat} (hx : xs ∈ ls) (hn : 40 < xs.length) : codeM s ls = 3 := by
  unfold codeM
  rw [if_pos, if_pos]
  · simp only [List.any_eq_true, decide_eq_true_eq]
    exact ⟨xs, hx, hn⟩
  · simp only [Bool.and_eq_true, List.all_eq_true]
    exact ⟨h, ha⟩
theorem codeM_fine {s : Int} {ls : List (List Nat)} (h : inB s 1 12 = true) (ha : ∀ xs ∈ ls, ∀ m ∈ xs, okB s m = true) (hn : ∀ xs ∈ ls, xs.length ≤ 40) : codeM s ls = 0 := by
  unfold codeM
  rw [if_pos, if_neg]
  · simp only [List.any_eq_true, decide_eq_true_eq, not_exists, not_and]
    intro xs hx
    have := hn xs hx
    omega
  · simp only [Bool.and_eq_true, List.all_eq_true]
    exact ⟨h, ha⟩

theorem must0_yes (s : Int) (h : inB s 1 12 = true) (w : World) :
    Calls Tryd.prog 81 #[.int .u16 0, .int .i64 s] w fun e w' => e = .returned (.tuple #[]) ∧ w = w' := mustBe_yes s 0 (by rw [ok_zero]; exact h) w
theorem must0_no (s : Int) (h : inB s 1 12 = false) (w : World) :
    Calls Tryd.prog 81 #[.int .u16 0, .int .i64 s] w fun e w' => e = .panicked [{ v := noMarkV, recovered := false }] ∧ w = w' := mustBe_no s 0 (by rw [ok_zero]; exact h) w

set_option maxRecDepth 100000 in
set_option maxHeartbeats 8000000 in
theorem checkMarks_any (s : Int) (A : Option Addr) (n c : Nat) (rs : List Mw) (en : n = rs.length) (hn : n ≤ 9223372036854775807) {w : World} {B : Nat} {e : Nat → Addr} (h : Errs w B e) (hB : B ≤ w.heap.size) (hg : MS w w.heap.size A rs) (k : Nat) (hk : codeM s (rs.map Mw.xs) = k) :
    Calls Tryd.prog 57 #[.int .i64 s, .slice A n c] w fun o w' => o = .returned (errM e k) ∧ Below w.heap.size w w' := by
  have hmf : ∀ (fn : Fn) (first cap : Array Value) (w : World), (Instr.makeFunc fn first cap).run Tryd.prog w = .ok (.func fn first cap) w := fun _ _ _ _ => rfl
  have HK := Lib.hid hk
  have En := Lib.hid en
  have HE := Lib.hid (h.below (show Below B w (w.alloc (.cells #[.nilIface] 65)) from (Below.refl _ _).alloc hB _))
  have hB1 : Below w.heap.size w (w.alloc (.cells #[.nilIface] 65)) := (Below.refl _ _).alloc (Nat.le_refl _) _
  have HG := Lib.hid (hg.below hB1)
  have HB1 := Lib.hid hB1
  clear hk en h hg hB1
  cases hs : inB s 1 12 with
  | false =>
    have HK1 := Lib.hid (codeM_bad (ls := rs.map Mw.xs) hs)
    have HM := Lib.hid (must0_no s hs)
    clear hs
    go_enter_defers Tryd.func57, Tryd.ntmps57
    go_wp2_with (first | (go_at_call 81; refine (HM.out _).mono ?_; rintro o w1 ⟨rfl, rfl⟩) | fail)
    refine leaves_cons (f := 80) (args := #[.pointer (some ⟨w.heap.size, 0, none⟩)]) (by simp) (by simp [go_sem]) ?_
    refine (catch_panicking ⟨w.heap.size, 0, none⟩ .nilIface _ (by simp [go_sem]) (by simp [go_sem])).mono ?_
    rintro o u' w'' ⟨rfl, rfl, rfl⟩
    have e1 : k = 1 := HK.out.symm.trans HK1.out
    subst e1
    simp [Leaves, settle, results, Tryd.results57, go_sem]
    exact ⟨rfl, (Below.refl _ _).alloc (Nat.le_refl _) _⟩
  | true =>
    have HS := Lib.hid hs
    have HM := Lib.hid (must0_yes s hs)
    clear hs
    go_enter_defers Tryd.func57, Tryd.ntmps57
    go_wp2_with (first | (go_at_call 81; refine (HM.out _).mono ?_; rintro o w1 ⟨rfl, rfl⟩) | fail)
    clear HM
    go_loop [6, 8, 16, 20, 21, 22] (fun _ _ vi _ _ _ => ∃ i : Nat, i ≤ n ∧ vi = .int .i64 i ∧ ∀ r ∈ rs.take i, ∀ m ∈ r.xs, okB s m = true) (fun _ _ vi _ _ _ => n - (intOf vi).toNat)
    case atStart => exact ⟨0, by omega, rfl, fun r hr => by simp at hr⟩
    case round =>
      obtain ⟨i, hi, rfl, hok⟩ := hrel
      have HOK := Lib.hid hok
      clear hok
      by_cases hlt : i < n
      · obtain ⟨r, hr⟩ : ∃ r, rs[i]? = some r := ⟨rs[i]'(by have := En.out; omega), List.getElem?_eq_getElem _⟩
        obtain ⟨a, rfl, hab, hcell⟩ := HG.out.head hr
        have hrm := List.mem_of_getElem? hr
        have hsh := HG.out.short r hrm
        have HE2 := Lib.hid (HG.out.each r hrm)
        have HT := Lib.hid (take_snoc hr)
        obtain ⟨rA, rc, xs⟩ := r
        have HR := Lib.hid hrm
        simp only [] at hsh hcell HE2
        unfold maxLen at hsh
        obtain ⟨l, hl⟩ : ∃ l, l = xs.length := ⟨_, rfl⟩
        rw [← hl] at hsh hcell
        have HL := Lib.hid hl
        clear hr hrm hl
        go_wp2_with fail
        go_loop [8, 22] (fun _ vj => ∃ j : Nat, j ≤ l ∧ vj = .int .i64 j ∧ ∀ m ∈ xs.take j, okB s m = true) (fun _ vj => l - (intOf vj).toNat)
        case atStart => exact ⟨0, by omega, rfl, fun m hm => by simp at hm⟩
        case round =>
          obtain ⟨j, hj, rfl, hok⟩ := hrel
          have HOJ := Lib.hid hok
          clear hok
          by_cases hlj : j < l
          · obtain ⟨x, hx⟩ : ∃ x, xs[j]? = some x := ⟨xs[j]'(by have := HL.out; omega), List.getElem?_eq_getElem _⟩
            obtain ⟨b, rfl, hbb, hat⟩ := HE2.out.at_ j x hx
            have q0 := marS.at_ hat
            have HX := Lib.hid hx
            clear hx hat
            cases hb : okB s x with
            | true =>
              have HM := Lib.hid (mustBe_yes s x hb)
              have HB := Lib.hid hb
              clear hb
              go_wp2_with (first | (go_at_call 81; refine (HM.out _).mono ?_; rintro o w1 ⟨rfl, rfl⟩) | fail)
              go_round
              case rel => exact ⟨j + 1, by omega, by go_num, fun m hm => by
                rw [take_snoc HX.out] at hm
                rcases List.mem_append.1 hm with h1 | h1
                · exact HOJ.out m h1
                · rw [List.mem_singleton.1 h1]; exact HB.out⟩
              case measure => simp [intOf]; omega
            | false =>
              have HM := Lib.hid (mustBe_no s x hb)
              have HB := Lib.hid hb
              clear hb
              go_wp2_with (first | (go_at_call 81; refine (HM.out _).mono ?_; rintro o w1 ⟨rfl, rfl⟩) | fail)
              refine leaves_cons (f := 80) (args := #[.pointer (some ⟨w.heap.size, 0, none⟩)]) (by simp) (by simp [go_sem]) ?_
              refine (catch_panicking ⟨w.heap.size, 0, none⟩ .nilIface _ (by simp [go_sem]) (by simp [go_sem])).mono ?_
              rintro o u' w'' ⟨rfl, rfl, rfl⟩
              have e1 : k = 1 := HK.out.symm.trans (codeM_no (List.mem_map.2 ⟨_, HR.out, rfl⟩) (List.mem_of_getElem? HX.out) HB.out)
              subst e1
              simp [Leaves, settle, results, Tryd.results57, go_sem]
              exact ⟨rfl, (Below.refl _ _).alloc (Nat.le_refl _) _⟩
          · obtain rfl : j = l := by omega
            go_wp2_with fail
            go_round
            case rel => exact ⟨i + 1, by omega, by go_num, fun r hr m hm => by
              rw [HT.out] at hr
              rcases List.mem_append.1 hr with h1 | h1
              · exact HOK.out r h1 m hm
              · rw [List.mem_singleton.1 h1] at hm
                refine HOJ.out m ?_
                rw [List.take_of_length_le (by have := HL.out; omega)]
                exact hm⟩
            case measure => simp [intOf]; omega
      · obtain rfl : i = n := by omega
        have hall : ∀ xs ∈ rs.map Mw.xs, ∀ m ∈ xs, okB s m = true := fun xs hx m hm => by
          obtain ⟨r, hr, rfl⟩ := List.mem_map.1 hx
          refine HOK.out r ?_ m hm
          rw [List.take_of_length_le (by have := En.out; omega)]
          exact hr
        have HALL := Lib.hid hall
        clear hall HOK
        obtain ⟨c0, c1, c2, c3, c4, c5, c6, _⟩ := HE.out
        go_wp2_with fail
        go_loop [10, 33, 37, 38, 39] (fun _ vi _ _ _ => ∃ j : Nat, j ≤ i ∧ vi = .int .i64 j ∧ ∀ r ∈ rs.take j, r.xs.length ≤ 40) (fun _ vi _ _ _ => i - (intOf vi).toNat)
        case atStart => exact ⟨0, by omega, rfl, fun r hr => by simp at hr⟩
        case round =>
          obtain ⟨j, hj, rfl, hok⟩ := hrel
          have HOJ := Lib.hid hok
          clear hok
          by_cases hlt : j < i
          · obtain ⟨r, hr⟩ : ∃ r, rs[j]? = some r := ⟨rs[j]'(by have := En.out; omega), List.getElem?_eq_getElem _⟩
            obtain ⟨a, rfl, hab, hcell⟩ := HG.out.head hr
            have hrm := List.mem_of_getElem? hr
            have hsh := HG.out.short r hrm
            have HT := Lib.hid (take_snoc hr)
            obtain ⟨rA, rc, xs⟩ := r
            have HR := Lib.hid hrm
            simp only [] at hsh hcell
            unfold maxLen at hsh
            obtain ⟨l, hl⟩ : ∃ l, l = xs.length := ⟨_, rfl⟩
            rw [← hl] at hsh hcell
            have HL := Lib.hid hl
            clear hr hrm hl
            by_cases h40 : 40 < l
            · go_wp2_with fail
              refine leaves_cons (f := 80) (args := #[.pointer (some ⟨w.heap.size, 0, none⟩)]) (by simp) (by simp [go_sem]) ?_
              refine (catch_idle ⟨w.heap.size, 0, none⟩ _).mono ?_
              rintro o u' w'' ⟨rfl, rfl, rfl⟩
              have e1 : k = 3 := HK.out.symm.trans (codeM_many HS.out HALL.out (List.mem_map.2 ⟨_, HR.out, rfl⟩) (by rw [← HL.out]; exact h40))
              subst e1
              simp [Leaves, settle, results, Tryd.results57, go_sem]
              exact ⟨rfl, (Below.refl _ _).alloc (Nat.le_refl _) _⟩
            · go_wp2_with fail
              go_round
              case rel => exact ⟨j + 1, by omega, by go_num, fun r hr => by
                rw [HT.out] at hr
                rcases List.mem_append.1 hr with h1 | h1
                · exact HOJ.out r h1
                · rw [List.mem_singleton.1 h1]
                  show xs.length ≤ 40
                  have := HL.out
                  omega⟩
              case measure => simp [intOf]; omega
          · obtain rfl : j = i := by omega
            go_wp2_with fail
            refine leaves_cons (f := 80) (args := #[.pointer (some ⟨w.heap.size, 0, none⟩)]) (by simp) (by simp [go_sem]) ?_
            refine (catch_idle ⟨w.heap.size, 0, none⟩ _).mono ?_
            rintro o u' w'' ⟨rfl, rfl, rfl⟩
            have e1 : k = 0 := HK.out.symm.trans (codeM_fine HS.out HALL.out fun xs hx => by
              obtain ⟨r, hr, rfl⟩ := List.mem_map.1 hx
              refine HOJ.out r ?_
              rw [List.take_of_length_le (by have := En.out; omega)]
              exact hr)
            subst e1
            simp [Leaves, settle, results, Tryd.results57, go_sem]
            exact ⟨rfl, (Below.refl _ _).alloc (Nat.le_refl _) _⟩
end Go.Proofs.YtlembainfhnnbaaDoor.mks

/-
  The program's errors of types of their own: what 'errors.Is' says of them, and which code each one has.
-/
namespace Go.Proofs.YtlembainfhnnbaaDoor.mks
open Go Go.RowKit sl stk errs Go.Extern.Stop Go.Stop Go.Extern

abbrev apartV (i k : Int) : Value := .iface 73 (.agg #[.int .i64 i, .int .i64 k])

theorem noIsM (v : Value) (xT : TypeId) (w : World) : (Instr.typeAssert (.iface 119 v) xT 132 true).run Tryd.prog w = .ok (.tuple #[.nilIface, .bool false]) w := run_typeAssert_lacksB Tryd.underlying132 (by kernel_rfl) (by kernel_rfl) v xT w
theorem unwrapsM (v : Value) (xT : TypeId) (w : World) : (Instr.typeAssert (.iface 119 v) xT 128 true).run Tryd.prog w = .ok (.tuple #[.iface 119 v, .bool true]) w := run_typeAssert_hasB Tryd.underlying128 (by kernel_rfl) v xT w
theorem methM (v : Value) (w : World) : (Go.method 269 119 v "Unwrap").run Tryd.prog w = .ok (120, v) w := by kernel_rfl
set_option maxHeartbeats 1000000 in
theorem UnwrapM_any (a : Addr) (w : World) (hc : w.cell? ⟨0, 0, none⟩ = some (errV a)) (hz : 0 < w.heap.size) :
    Calls Tryd.prog 120 #[.agg #[]] w fun e w' => e = .returned (errV a) ∧ Below w.heap.size w w' := by
  have hb : Below w.heap.size w (w.alloc (.cells #[] 119)) := (Below.refl _ _).alloc (Nat.le_refl _) _
  have hc' := (hb.cell (p := ⟨0, 0, none⟩) hz).trans hc
  have HB := Lib.hid hb
  clear hb hc
  go_enter Tryd.func120, Tryd.ntmps120
  go_wp2_with fail
  go_ret
  exact ⟨rfl, HB.out⟩

set_option maxHeartbeats 4000000 in
set_option maxRecDepth 100000 in
/-- it wraps an error: is this the other one -/
theorem IsM_same (a : Addr) (w : World) (hc : w.cell? ⟨0, 0, none⟩ = some (errV a)) (hz : 0 < w.heap.size) :
    Calls Tryd.prog 79 #[noMarkV, errV a] w fun e w' => e = .returned (.bool true) ∧ Below w.heap.size w w' := by
  obtain ⟨x, hx, hcmp⟩ := Option.map_eq_some_iff.1 comp_err
  obtain ⟨y, hy, hys⟩ := Option.map_eq_some_iff.1 size_err
  have hto := @run_callFunc_extern Tryd.prog 90 _ Extern.ReflectliteType.typeOf Tryd.func90 (by kernel_rfl) (by kernel_rfl) (by kernel_rfl) (by kernel_rfl)
  have hco := @run_callFunc_extern Tryd.prog 123 _ comparableM Tryd.func123 (by kernel_rfl) (by kernel_rfl) (by kernel_rfl) (by kernel_rfl)
  have tT := typeOf_err
  have cT := comparable_err
  have mR := method_comparable
  have nI := noIsM
  have nU := unwrapsM
  have nM := methM
  have HU := Lib.hid (UnwrapM_any a w hc hz)
  have hdt := fun w => run_eql_iface_types (P := Tryd.prog) 119 136 (.agg #[]) (.pointer (some a)) Tryd.underlying65 (by decide) w
  clear hc hz
  go_enter Tryd.func79, Tryd.ntmps79
  go_wp2_with (first | (go_at_call 91; go_in) | fail)
  refine wp_loop_rounds 2 ?_
  rw [rounds_succ]
  go_wp2_with (first | (go_at_call 120; refine HU.out.mono ?_; rintro o w1 ⟨rfl, hb1⟩; have HB1 := Lib.hid hb1; clear hb1) | fail)
  have heq := run_eql_iface_ptr_same (P := Tryd.prog) w1 a Tryd.underlying65 Tryd.underlying136 hx hcmp hy
  rw [rounds_succ]
  go_wp2
  go_ret
  exact ⟨rfl, HB1.out⟩

set_option maxHeartbeats 4000000 in
set_option maxRecDepth 100000 in
/-- it wraps an error: is this the other one -/
theorem IsM_other (a b : Addr) (w : World) (hc : w.cell? ⟨0, 0, none⟩ = some (errV a)) (hz : 0 < w.heap.size) (hne : a ≠ b) (ha : ∃ ca ta, w.heap[a.block]? = some (.cells ca ta (0, 0))) (hb : ∃ cb tb, w.heap[b.block]? = some (.cells cb tb (0, 0))) :
    Calls Tryd.prog 79 #[noMarkV, errV b] w fun e w' => e = .returned (.bool false) ∧ Below w.heap.size w w' := by
  obtain ⟨x, hx, hcmp⟩ := Option.map_eq_some_iff.1 comp_err
  obtain ⟨y, hy, hys⟩ := Option.map_eq_some_iff.1 size_err
  have hto := @run_callFunc_extern Tryd.prog 90 _ Extern.ReflectliteType.typeOf Tryd.func90 (by kernel_rfl) (by kernel_rfl) (by kernel_rfl) (by kernel_rfl)
  have hco := @run_callFunc_extern Tryd.prog 123 _ comparableM Tryd.func123 (by kernel_rfl) (by kernel_rfl) (by kernel_rfl) (by kernel_rfl)
  have tT := typeOf_err
  have cT := comparable_err
  have mR := method_comparable
  have nI := noIsM
  have nU := unwrapsM
  have nM := methM
  have HU := Lib.hid (UnwrapM_any a w hc hz)
  have hdt := fun w => run_eql_iface_types (P := Tryd.prog) 119 136 (.agg #[]) (.pointer (some b)) Tryd.underlying65 (by decide) w
  have la : a.block < w.heap.size := by
    obtain ⟨ca, ta, h⟩ := ha
    exact (Array.getElem?_eq_some_iff.1 h).1
  have lb : b.block < w.heap.size := by
    obtain ⟨cb, tb, h⟩ := hb
    exact (Array.getElem?_eq_some_iff.1 h).1
  obtain ⟨ca, ta, ha⟩ := ha
  obtain ⟨cb, tb, hb⟩ := hb
  have HA := Lib.hid ha
  have HB := Lib.hid hb
  have LA := Lib.hid la
  have LB := Lib.hid lb
  have NE := Lib.hid hne
  have nI2 := no_is
  have nU2 := no_unwrap
  have nV2 := no_unwraps
  clear hc hz ha hb la lb hne
  go_enter Tryd.func79, Tryd.ntmps79
  go_wp2_with (first | (go_at_call 91; go_in) | fail)
  refine wp_loop_rounds 2 ?_
  rw [rounds_succ]
  go_wp2_with (first | (go_at_call 120; refine HU.out.mono ?_; rintro o w1 ⟨rfl, hb1⟩; have HB1 := Lib.hid hb1; clear hb1) | fail)
  have heq := run_eql_iface_ptr_other (P := Tryd.prog) w1 Tryd.underlying65 Tryd.underlying136 hx hcmp hy (by rw [hys]; decide) NE.out ((HB1.out.block _ LA.out).trans HA.out) ((HB1.out.block _ LB.out).trans HB.out)
  rw [rounds_succ]
  go_wp2
  go_ret
  exact ⟨rfl, HB1.out⟩

/-- which code the error of a check of marks has -/
theorem errs_lt {w : World} {B : Nat} {e : Nat → Addr} (h : Errs w B e) (hB : B ≤ w.heap.size) : 0 < w.heap.size ∧ 3 < w.heap.size := by
  obtain ⟨c0, c1, c2, c3, c4, c5, c6, hs, _⟩ := h
  omega
set_option maxHeartbeats 2000000 in
set_option maxRecDepth 100000 in
theorem codeOf_noMark {w : World} {B : Nat} {e : Nat → Addr} (h : Errs w B e) (hB : B ≤ w.heap.size) :
    Calls Tryd.prog 53 #[noMarkV] w fun o w' => o = .returned (.int .i64 1) ∧ Below w.heap.size w w' := by
  have HI := Lib.hid (IsM_same (e 0) w h.c0 (errs_lt h hB).1)
  have c0 := h.c0
  have hn : ∀ w : World, (binOp BinOp.eql 65 noMarkV .nilIface).run Tryd.prog w = .ok (.bool false) w := fun _ => by kernel_rfl
  clear h
  go_enter Tryd.func53, Tryd.ntmps53
  go_wp2_with fail
  refine HI.out.mono ?_
  rintro o w' ⟨rfl, hb⟩
  go_wp2_with fail
  go_ret
  exact ⟨rfl, hb⟩
theorem codeOf_m {w : World} {B : Nat} {e : Nat → Addr} (h : Errs w B e) (hB : B ≤ w.heap.size) (k : Nat) (hk : k ≤ 7) :
    Calls Tryd.prog 53 #[errM e k] w fun o w' => o = .returned (.int .i64 k) ∧ Below w.heap.size w w' := by
  unfold errM
  by_cases h1 : k = 1
  · subst h1
    rw [if_pos rfl]
    exact codeOf_noMark h hB
  · rw [if_neg h1]
    refine (codeOf_any h k hk).mono ?_
    rintro o w1 ⟨rfl, rfl⟩
    exact ⟨rfl, Below.refl _ _⟩
end Go.Proofs.YtlembainfhnnbaaDoor.mks

/-
  The program's error of marks that are not told apart: what 'errors.Is' says of it.
-/
namespace Go.Proofs.YtlembainfhnnbaaDoor.mks
open Go Go.RowKit sl stk errs Go.Extern.Stop Go.Stop Go.Extern

theorem noIsA (v : Value) (xT : TypeId) (w : World) : (Instr.typeAssert (.iface 73 v) xT 132 true).run Tryd.prog w = .ok (.tuple #[.nilIface, .bool false]) w := run_typeAssert_lacksB Tryd.underlying132 (by kernel_rfl) (by kernel_rfl) v xT w
theorem unwrapsA (v : Value) (xT : TypeId) (w : World) : (Instr.typeAssert (.iface 73 v) xT 128 true).run Tryd.prog w = .ok (.tuple #[.iface 73 v, .bool true]) w := run_typeAssert_hasB Tryd.underlying128 (by kernel_rfl) v xT w
theorem methA (v : Value) (w : World) : (Go.method 269 73 v "Unwrap").run Tryd.prog w = .ok (115, v) w := by kernel_rfl
set_option maxHeartbeats 1000000 in
theorem UnwrapA_any (i k : Int) (a : Addr) (w : World) (hc : w.cell? ⟨3, 0, none⟩ = some (errV a)) (hz : 3 < w.heap.size) :
    Calls Tryd.prog 115 #[.agg #[.int .i64 i, .int .i64 k]] w fun e w' => e = .returned (errV a) ∧ Below w.heap.size w w' := by
  have hb : Below w.heap.size w (w.alloc (.cells #[.int .i64 i, .int .i64 k] 73)) := (Below.refl _ _).alloc (Nat.le_refl _) _
  have hc' := (hb.cell (p := ⟨3, 0, none⟩) hz).trans hc
  have HB := Lib.hid hb
  clear hb hc
  go_enter Tryd.func115, Tryd.ntmps115
  go_wp2_with fail
  go_ret
  exact ⟨rfl, HB.out⟩

set_option maxHeartbeats 4000000 in
set_option maxRecDepth 100000 in
/-- it wraps an error: is this the other one -/
theorem IsA_same (i k : Int) (a : Addr) (w : World) (hc : w.cell? ⟨3, 0, none⟩ = some (errV a)) (hz : 3 < w.heap.size) :
    Calls Tryd.prog 79 #[(apartV i k), errV a] w fun e w' => e = .returned (.bool true) ∧ Below w.heap.size w w' := by
  obtain ⟨x, hx, hcmp⟩ := Option.map_eq_some_iff.1 comp_err
  obtain ⟨y, hy, hys⟩ := Option.map_eq_some_iff.1 size_err
  have hto := @run_callFunc_extern Tryd.prog 90 _ Extern.ReflectliteType.typeOf Tryd.func90 (by kernel_rfl) (by kernel_rfl) (by kernel_rfl) (by kernel_rfl)
  have hco := @run_callFunc_extern Tryd.prog 123 _ comparableM Tryd.func123 (by kernel_rfl) (by kernel_rfl) (by kernel_rfl) (by kernel_rfl)
  have tT := typeOf_err
  have cT := comparable_err
  have mR := method_comparable
  have nI := noIsA
  have nU := unwrapsA
  have nM := methA
  have HU := Lib.hid (UnwrapA_any i k a w hc hz)
  have hdt := fun w => run_eql_iface_types (P := Tryd.prog) 73 136 (.agg #[.int .i64 i, .int .i64 k]) (.pointer (some a)) Tryd.underlying65 (by decide) w
  clear hc hz
  go_enter Tryd.func79, Tryd.ntmps79
  go_wp2_with (first | (go_at_call 91; go_in) | fail)
  refine wp_loop_rounds 2 ?_
  rw [rounds_succ]
  go_wp2_with (first | (go_at_call 115; refine HU.out.mono ?_; rintro o w1 ⟨rfl, hb1⟩; have HB1 := Lib.hid hb1; clear hb1) | fail)
  have heq := run_eql_iface_ptr_same (P := Tryd.prog) w1 a Tryd.underlying65 Tryd.underlying136 hx hcmp hy
  rw [rounds_succ]
  go_wp2
  go_ret
  exact ⟨rfl, HB1.out⟩

set_option maxHeartbeats 4000000 in
set_option maxRecDepth 100000 in
/-- it wraps an error: is this the other one -/
theorem IsA_other (i k : Int) (a b : Addr) (w : World) (hc : w.cell? ⟨3, 0, none⟩ = some (errV a)) (hz : 3 < w.heap.size) (hne : a ≠ b) (ha : ∃ ca ta, w.heap[a.block]? = some (.cells ca ta (0, 0))) (hb : ∃ cb tb, w.heap[b.block]? = some (.cells cb tb (0, 0))) :
    Calls Tryd.prog 79 #[(apartV i k), errV b] w fun e w' => e = .returned (.bool false) ∧ Below w.heap.size w w' := by
  obtain ⟨x, hx, hcmp⟩ := Option.map_eq_some_iff.1 comp_err
  obtain ⟨y, hy, hys⟩ := Option.map_eq_some_iff.1 size_err
  have hto := @run_callFunc_extern Tryd.prog 90 _ Extern.ReflectliteType.typeOf Tryd.func90 (by kernel_rfl) (by kernel_rfl) (by kernel_rfl) (by kernel_rfl)
  have hco := @run_callFunc_extern Tryd.prog 123 _ comparableM Tryd.func123 (by kernel_rfl) (by kernel_rfl) (by kernel_rfl) (by kernel_rfl)
  have tT := typeOf_err
  have cT := comparable_err
  have mR := method_comparable
  have nI := noIsA
  have nU := unwrapsA
  have nM := methA
  have HU := Lib.hid (UnwrapA_any i k a w hc hz)
  have hdt := fun w => run_eql_iface_types (P := Tryd.prog) 73 136 (.agg #[.int .i64 i, .int .i64 k]) (.pointer (some b)) Tryd.underlying65 (by decide) w
  have la : a.block < w.heap.size := by
    obtain ⟨ca, ta, h⟩ := ha
    exact (Array.getElem?_eq_some_iff.1 h).1
  have lb : b.block < w.heap.size := by
    obtain ⟨cb, tb, h⟩ := hb
    exact (Array.getElem?_eq_some_iff.1 h).1
  obtain ⟨ca, ta, ha⟩ := ha
  obtain ⟨cb, tb, hb⟩ := hb
  have HA := Lib.hid ha
  have HB := Lib.hid hb
  have LA := Lib.hid la
  have LB := Lib.hid lb
  have NE := Lib.hid hne
  have nI2 := no_is
  have nU2 := no_unwrap
  have nV2 := no_unwraps
  clear hc hz ha hb la lb hne
  go_enter Tryd.func79, Tryd.ntmps79
  go_wp2_with (first | (go_at_call 91; go_in) | fail)
  refine wp_loop_rounds 2 ?_
  rw [rounds_succ]
  go_wp2_with (first | (go_at_call 115; refine HU.out.mono ?_; rintro o w1 ⟨rfl, hb1⟩; have HB1 := Lib.hid hb1; clear hb1) | fail)
  have heq := run_eql_iface_ptr_other (P := Tryd.prog) w1 Tryd.underlying65 Tryd.underlying136 hx hcmp hy (by rw [hys]; decide) NE.out ((HB1.out.block _ LA.out).trans HA.out) ((HB1.out.block _ LB.out).trans HB.out)
  rw [rounds_succ]
  go_wp2
  go_ret
  exact ⟨rfl, HB1.out⟩

set_option maxHeartbeats 2000000 in
set_option maxRecDepth 100000 in
theorem codeOf_apart (i k : Int) {w : World} {B : Nat} {e : Nat → Addr} (h : Errs w B e) (hB : B ≤ w.heap.size) :
    Calls Tryd.prog 53 #[apartV i k] w fun o w' => o = .returned (.int .i64 4) ∧ Below w.heap.size w w' := by
  have HH := Lib.hid h
  have hlt := errs_lt h hB
  have hn : ∀ w : World, (binOp BinOp.eql 65 (apartV i k) .nilIface).run Tryd.prog w = .ok (.bool false) w := fun _ => by kernel_rfl
  have HO := Lib.hid (fun (j : Nat) (u : World) (hj : j < 3) (hu : Errs u B e) (hl : B ≤ u.heap.size) => IsA_other i k (e 3) (e j) u hu.c3 (errs_lt hu hl).2 (hu.ne 3 j (by omega) (by omega) (by omega)) (hu.row 3 (by omega)) (hu.row j (by omega)))
  have HI := Lib.hid (fun (u : World) (hu : Errs u B e) (hl : B ≤ u.heap.size) => IsA_same i k (e 3) u hu.c3 (errs_lt hu hl).2)
  obtain ⟨c0, c1, c2, c3, _⟩ := h
  clear hlt
  go_enter Tryd.func53, Tryd.ntmps53
  go_wp2_with fail
  refine (HO.out 0 _ (by omega) HH.out hB).mono ?_
  rintro o w1 ⟨rfl, hb1⟩
  have H1 := Lib.hid (HH.out.below (hb1.mono hB))
  have B1 := Lib.hid hb1
  obtain ⟨c0, c1, c2, c3, _⟩ := H1.out
  clear hb1
  go_wp2_with fail
  refine (HO.out 1 _ (by omega) H1.out (Nat.le_trans hB B1.out.size)).mono ?_
  rintro o w2 ⟨rfl, hb2⟩
  have H2 := Lib.hid (H1.out.below (hb2.mono (Nat.le_trans hB B1.out.size)))
  have B2 := Lib.hid (below_next B1.out hb2 (Nat.le_refl _))
  obtain ⟨c0, c1, c2, c3, _⟩ := H2.out
  clear hb2
  go_wp2_with fail
  refine (HO.out 2 _ (by omega) H2.out (Nat.le_trans hB B2.out.size)).mono ?_
  rintro o w3 ⟨rfl, hb3⟩
  have H3 := Lib.hid (H2.out.below (hb3.mono (Nat.le_trans hB B2.out.size)))
  have B3 := Lib.hid (below_next B2.out hb3 (Nat.le_refl _))
  obtain ⟨c0, c1, c2, c3, _⟩ := H3.out
  clear hb3
  go_wp2_with fail
  refine (HI.out _ H3.out (Nat.le_trans hB B3.out.size)).mono ?_
  rintro o w4 ⟨rfl, hb4⟩
  have B4 := Lib.hid (below_next B3.out hb4 (Nat.le_refl _))
  go_wp2_with fail
  go_ret
  exact ⟨rfl, B4.out⟩
end Go.Proofs.YtlembainfhnnbaaDoor.mks

/-
  The first pair of marks that are not told apart: the program's.
-/
namespace Go.Proofs.YtlembainfhnnbaaDoor.mks
open Go Go.RowKit sl stk errs

def errA : Option (Nat × Nat) → Value
  | none => .nilIface
  | some p => apartV p.1 p.2
theorem Sl.tail {w : World} {B : Nat} {a : Addr} {xs : List Nat} (h : Sl marS.C 1 w B (some a) xs) (k : Nat) : Sl marS.C 1 w B (some (a.add k)) (xs.drop k) := by
  refine ⟨fun j x hj => ?_⟩
  rw [List.getElem?_drop] at hj
  obtain ⟨a', e, hb, hat⟩ := h.at_ _ x hj
  cases e
  refine ⟨_, rfl, by rw [block_add]; exact hb, ?_⟩
  have e1 : (a.add k).add (j * 1) = a.add ((k + j) * 1) := by rw [Addr.add_add]; congr 1; omega
  rw [e1]
  exact hat
theorem behind_tail {xs : List Nat} {i n x : Nat} (en : n = xs.length) (hx : xs[i]? = some x) (r : Option Nat) (hr : firstFrom (fun j => clash x ((xs.drop (i + 1)).getD j 0)) (n - (i + 1)) 0 = r) : behind xs i = r.map (· + (i + 1)) := by
  unfold behind
  rw [← en]
  have h := first_shift (fun k => clash (xs.getD i 0) (xs.getD k 0)) (i + 1) (n - (i + 1)) 0
  rw [Nat.zero_add] at h
  rw [h, ← hr]
  congr 1
  refine first_ext fun j _ _ => ?_
  simp only [at_get hx, List.getD_eq_getElem?_getD, List.getElem?_drop]
  rw [Nat.add_comm]
set_option maxRecDepth 100000 in
set_option maxHeartbeats 2000000 in
theorem checkApart_any (A : Option Addr) (n : Nat) (xs : List Nat) (en : n = xs.length) (hn : n ≤ 1048576) (hf : ∀ x ∈ xs, x < 65536) (r : Option (Nat × Nat)) (hr : clashF xs = r) (w : World) (hg : Sl marS.C 1 w w.heap.size A xs) :
    Calls Tryd.prog 58 #[.slice A n n] w fun o w' => o = .returned (errA r) ∧ Below w.heap.size w w' := by
  have hr' : pairFrom (behind xs) (n - 0) 0 = r := by rw [en]; exact hr
  have hmf : ∀ (fn : Fn) (first cap : Array Value) (w : World), (Instr.makeFunc fn first cap).run Tryd.prog w = .ok (.func fn first cap) w := fun _ _ _ _ => rfl
  have En := Lib.hid en
  have HR := Lib.hid hr'
  have HF := Lib.hid hf
  clear en hr hr' hf
  go_enter Tryd.func58, Tryd.ntmps58
  go_wp2_with fail
  go_loopw [3, 4, 5, 6, 9] (fun _ _ _ _ vi wr => ∃ i : Nat, i ≤ n ∧ vi = .int .i64 i ∧ pairFrom (behind xs) (n - i) i = r ∧ Below w.heap.size w wr) (fun _ _ _ _ vi _ => n - (intOf vi).toNat)
  case atStart => exact ⟨0, by omega, rfl, HR.out, Below.refl _ _⟩
  case round =>
    obtain ⟨i, hi, rfl, hq, hB⟩ := hrel
    have HQ := Lib.hid hq
    have HB := Lib.hid hB
    clear hq
    by_cases hlt : i < n
    · obtain ⟨x, hx⟩ : ∃ x, xs[i]? = some x := ⟨xs[i]'(by have := En.out; omega), List.getElem?_eq_getElem _⟩
      have HX := Lib.hid hx
      obtain ⟨a, rfl, hab, hat⟩ := (hg.below hB).at_ i x hx
      have q0 := marS.at_ hat
      obtain ⟨f, hf⟩ : ∃ f, behind xs i = f := ⟨_, rfl⟩
      have HFF := Lib.hid hf
      obtain ⟨g, hg0⟩ : ∃ g, firstFrom (fun j => clash x ((xs.drop (i + 1)).getD j 0)) (n - (i + 1)) 0 = g := ⟨_, rfl⟩
      have HG0 := Lib.hid hg0
      have hfg : f = g.map (· + (i + 1)) := hf.symm.trans (behind_tail En.out hx g hg0)
      have HFG := Lib.hid hfg
      have hxb := HF.out x (List.mem_of_getElem? hx)
      have HXB := Lib.hid hxb
      have hT := (Sl.tail (hg.below hB) (i + 1)).more hB.size
      rw [Addr.add_succ'] at hT
      have HT := Lib.hid hT
      clear hx hf hat hB hg0 hfg hxb hT
      by_cases hl : i + 1 < n
      · have HI := Lib.hid (IndexFuncClash_any (some { block := a.block, off := a.off + (i + 1) }) (n - (i + 1)) (n - (i + 1)) (xs.drop (i + 1)) (by rw [List.length_drop, ← En.out]) (by omega) (fun y hy => HF.out y (List.mem_of_mem_drop hy)) x HXB.out wr HT.out g HG0.out)
        cases g with
        | none =>
          have hnx := pair_no HQ.out hlt (HFF.out.trans HFG.out)
          have HNX := Lib.hid hnx
          clear hnx
          rw [show optI none = -1 from rfl] at HI
          go_wp2_with fail
          refine HI.out.mono ?_
          rintro o w1 ⟨rfl, hb1⟩
          have HB1 := Lib.hid (below_next HB.out hb1 (Nat.le_refl _))
          clear hb1
          go_wp2_with fail
          go_roundw
          case rel => first | exact ⟨i + 1, by omega, by go_num, HNX.out, HB1.out⟩ | (obtain rfl : n = i + 1 := (by omega); (repeat apply Exists.intro); exact ⟨⟨i + 1, by omega, by go_num, HNX.out, HB1.out⟩, rfl⟩)
          case measure => simp [intOf]; omega
        | some j =>
          obtain rfl := pair_yes HQ.out hlt (HFF.out.trans HFG.out)
          have hj := (first_lt HG0.out).2.1
          rw [show optI (some j) = (j : Int) from rfl] at HI
          have he : errA (some (i, j + (i + 1))) = apartV (i : Int) ((i : Int) + 1 + (j : Int)) := by
            have e1 : ((j + (i + 1) : Nat) : Int) = (i : Int) + 1 + (j : Int) := by omega
            show apartV (i : Int) ((j + (i + 1) : Nat) : Int) = _
            rw [e1]
          have HEQ := Lib.hid he
          clear he
          go_wp2_with fail
          refine HI.out.mono ?_
          rintro o w1 ⟨rfl, hb1⟩
          have HB1 := Lib.hid (below_next HB.out hb1 (Nat.le_refl _))
          clear hb1
          go_wp2_with fail
          go_ret
          rw [HEQ.out]
          exact ⟨rfl, HB1.out⟩

      · have HI := Lib.hid (IndexFuncClash_any (some a) 0 0 (xs.drop (i + 1)) (by rw [List.length_drop, ← En.out]; omega) (by omega) (fun y hy => HF.out y (List.mem_of_mem_drop hy)) x HXB.out wr (by rw [List.drop_of_length_le (by have := En.out; omega)]; exact Sl.nil _ _ _ _ _) g (by have h := HG0.out; rw [show n - (i + 1) = 0 by omega] at h; exact h))
        obtain rfl : g = none := by have h := HG0.out; rw [show n - (i + 1) = 0 by omega] at h; exact h.symm
        · skip
          have hnx := pair_no HQ.out hlt (HFF.out.trans HFG.out)
          have HNX := Lib.hid hnx
          clear hnx
          rw [show optI none = -1 from rfl] at HI
          go_wp2_with fail
          refine HI.out.mono ?_
          rintro o w1 ⟨rfl, hb1⟩
          have HB1 := Lib.hid (below_next HB.out hb1 (Nat.le_refl _))
          clear hb1
          go_wp2_with fail
          go_roundw
          case rel => first | exact ⟨i + 1, by omega, by go_num, HNX.out, HB1.out⟩ | (obtain rfl : n = i + 1 := (by omega); (repeat apply Exists.intro); exact ⟨⟨i + 1, by omega, by go_num, HNX.out, HB1.out⟩, rfl⟩)
          case measure => simp [intOf]; omega
    · obtain rfl : i = n := by omega
      obtain rfl := pair_end HQ.out
      go_wp2_with fail
      go_ret
      exact ⟨rfl, HB.out⟩
end Go.Proofs.YtlembainfhnnbaaDoor.mks

/-
  The program's checks of marks, at their calls.
-/
namespace Go.Proofs.YtlembainfhnnbaaDoor.mks
open Go Go.RowKit sl stk errs fold

/-- one list in a new block -/
theorem MS.one {w : World} {A : Option Addr} {c : Nat} {xs : List Nat} (h : Sl marS.C 1 w w.heap.size A xs) (hl : xs.length ≤ maxLen) (T : TypeId) (n b : Nat) (hn : n = xs.length) (hbk : b = w.heap.size) :
    MS (w.alloc (.cells #[.slice A n c] T)) (w.alloc (.cells #[.slice A n c] T)).heap.size (some ⟨b, 0, none⟩) [⟨A, c, xs⟩] := by
  subst hn hbk
  have hb : Below w.heap.size w (w.alloc (.cells #[.slice A xs.length c] T)) := (Below.refl _ _).alloc (Nat.le_refl _) _
  refine ⟨⟨fun k x hx => ?_⟩, fun r hr => ?_, fun r hr => ?_⟩
  · have hk : k = 0 := by have := (List.getElem?_eq_some_iff.1 hx).1; simp at this; exact this
    subst hk
    simp only [List.getElem?_cons_zero, Option.some.injEq] at hx
    subst hx
    refine ⟨_, rfl, by simp, fun j v hj => ?_⟩
    have h1 := one_newI w (.slice A xs.length c) T j v hj
    rw [add_lit] at h1
    rw [Nat.zero_mul, add_lit, add_at, Nat.zero_add]
    exact h1
  · rw [List.mem_singleton.1 hr]
    exact (h.below hb).more hb.size
  · rw [List.mem_singleton.1 hr]
    exact hl
theorem two_newI (w : World) (u v : Value) (T : TypeId) : ∀ (j : Nat) x, [u, v][j]? = some x → (w.alloc (.cells #[u, v] T)).cell? ((⟨w.heap.size, 0, none⟩ : Addr).add j) = some x := by
  intro j x hj
  rw [add_lit, cell_of_row _ _ _ _ _ _ (heap_alloc_new w _)]
  simpa using hj
/-- two lists in a new block -/
theorem MS.two {w : World} {A A' : Option Addr} {c c' : Nat} {xs ys : List Nat} (h : Sl marS.C 1 w w.heap.size A xs) (h' : Sl marS.C 1 w w.heap.size A' ys) (hl : xs.length ≤ maxLen) (hl' : ys.length ≤ maxLen) (T : TypeId) (n n' b : Nat) (hn : n = xs.length) (hn' : n' = ys.length) (hbk : b = w.heap.size) :
    MS (w.alloc (.cells #[.slice A n c, .slice A' n' c'] T)) (w.alloc (.cells #[.slice A n c, .slice A' n' c'] T)).heap.size (some ⟨b, 0, none⟩) [⟨A, c, xs⟩, ⟨A', c', ys⟩] := by
  subst hn hn' hbk
  have hb : Below w.heap.size w (w.alloc (.cells #[.slice A xs.length c, .slice A' ys.length c'] T)) := (Below.refl _ _).alloc (Nat.le_refl _) _
  refine ⟨⟨fun k x hx => ?_⟩, fun r hr => ?_, fun r hr => ?_⟩
  · have hk : k < 2 := by have := (List.getElem?_eq_some_iff.1 hx).1; simpa using this
    refine ⟨_, rfl, by simp, fun j v hj => ?_⟩
    have hj0 : j = 0 := by have := (List.getElem?_eq_some_iff.1 hj).1; simp at this; exact this
    subst hj0
    simp only [List.getElem?_cons_zero, Option.some.injEq] at hj
    have h1 := two_newI w (.slice A xs.length c) (.slice A' ys.length c') T k v
    have e : ((⟨w.heap.size, 0, none⟩ : Addr).add (k * 1)).add 0 = (⟨w.heap.size, 0, none⟩ : Addr).add k := by rw [Nat.mul_one, add_lit, add_at]; rfl
    rw [e]
    refine h1 ?_
    match k, hk with
    | 0, _ => simp at hx; subst hx; simpa using hj
    | 1, _ => simp at hx; subst hx; simpa using hj
  · simp only [List.mem_cons, List.not_mem_nil, or_false] at hr
    rcases hr with rfl | rfl
    · exact (h.below hb).more hb.size
    · exact (h'.below hb).more hb.size
  · simp only [List.mem_cons, List.not_mem_nil, or_false] at hr
    rcases hr with rfl | rfl
    · exact hl
    · exact hl'
theorem MS.none (w : World) (B : Nat) : MS w B none [] := ⟨Sl.nil _ _ _ _ _, fun r hr => by simp at hr, fun r hr => by simp at hr⟩
/-- marks in a new block -/
theorem new_marks (w : World) (ms : List Nat) (T : TypeId) : Sl marS.C 1 (w.alloc (.cells (ms.map fun m : Nat => Value.int .u16 (m : Int)).toArray T)) (w.alloc (.cells (ms.map fun m : Nat => Value.int .u16 (m : Int)).toArray T)).heap.size (some ⟨w.heap.size, 0, none⟩) ms := by
  refine ⟨fun k x hx => ⟨_, rfl, by simp, fun j v hj => ?_⟩⟩
  have hj0 : j = 0 := by have := (List.getElem?_eq_some_iff.1 hj).1; simp [cInt] at this; exact this
  subst hj0
  have e : ((⟨w.heap.size, 0, Option.none⟩ : Addr).add (k * 1)).add 0 = ⟨w.heap.size, k, Option.none⟩ := by rw [Nat.mul_one, add_lit, add_at]; rfl
  rw [e, cell_of_row _ _ _ _ _ _ (heap_alloc_new w _)]
  simp [cInt] at hj
  simp [hx, hj]

theorem codeM_one (s : Int) (m : Nat) : codeM s [[m]] = if okB s m = true then 0 else 1 := by
  unfold codeM
  cases h : okB s m with
  | true =>
    have : inB s 1 12 = true := by unfold okB at h; simp only [Bool.and_eq_true] at h; exact h.1
    simp [h, this]
  | false => simp [h]

set_option maxRecDepth 100000 in
set_option maxHeartbeats 2000000 in
theorem checkMark_any (s : Int) (m : Nat) {w : World} {B : Nat} {e : Nat → Addr} (h : Errs w B e) (hB : B ≤ w.heap.size) (k : Nat) (hk : k = if okB s m = true then 0 else 1) :
    Calls Tryd.prog 52 #[.int .i64 s, .int .u16 m] w fun o w' => o = .returned (errM e k) ∧ Below w.heap.size w w' := by
  have HK := Lib.hid ((codeM_one s m).trans hk.symm)
  have H := Lib.hid h
  clear hk h
  have hb1 : Below w.heap.size w (w.alloc (.cells #[.int .u16 m] 26)) := (Below.refl _ _).alloc (Nat.le_refl _) _
  have hb2 : Below w.heap.size w ((w.alloc (.cells #[.int .u16 m] 26)).alloc (.cells #[.slice (some ⟨w.heap.size, 0, Option.none⟩) 1 1] 23)) := hb1.alloc (by simp) _
  have HG := Lib.hid (MS.one (w := w.alloc (.cells #[.int .u16 m] 26)) (c := 1) (new_marks w [m] 26) (by simp [maxLen]) 23 1 (w.heap.size + 1) rfl (by simp))
  have HB2 := Lib.hid hb2
  clear hb1 hb2
  go_enter Tryd.func52, Tryd.ntmps52
  go_wp2_with fail
  refine (checkMarks_any s (some ⟨w.heap.size + 1, 0, Option.none⟩) 1 1 [⟨some ⟨w.heap.size, 0, Option.none⟩, 1, [m]⟩] rfl (by decide) (H.out.below (HB2.out.mono hB)) (Nat.le_trans hB HB2.out.size) HG.out k (by simpa using HK.out)).mono ?_
  rintro o w1 ⟨rfl, hb⟩
  have HB3 := Lib.hid (below_next HB2.out hb (Nat.le_refl _))
  clear hb
  go_wp2_with fail
  go_ret
  exact ⟨rfl, HB3.out⟩
theorem ne_noMark (w : World) : (binOp BinOp.neq 65 noMarkV .nilIface).run Tryd.prog w = .ok (.bool true) w := by kernel_rfl
set_option maxHeartbeats 2000000 in
/-- the first error of some checks, which lie in block b -/
theorem firstOfM_any (e : Nat → Addr) (cs : List Nat) (b n c : Nat) (hn : n = cs.length) (hs : n ≤ 8) (w : World) (hcell : ∀ k x, cs[k]? = some x → w.cell? ⟨b, k, Option.none⟩ = some (errM e x)) :
    Calls Tryd.prog 66 #[.slice (some ⟨b, 0, Option.none⟩) n c] w fun o w' => o = .returned (errM e (firstCode cs)) ∧ w = w' := by
  have Hn := Lib.hid hn
  have hne := ne_noMark
  clear hn
  go_enter Tryd.func66, Tryd.ntmps66
  go_wp2_with fail
  go_loop [7, 4] (fun vi _ => ∃ k : Nat, k ≤ n ∧ vi = .int .i64 k ∧ firstCode (cs.drop k) = firstCode cs) (fun vi _ => n - (intOf vi).toNat)
  case atStart => exact ⟨0, by omega, rfl, rfl⟩
  case round =>
    obtain ⟨k, hk, rfl, hf⟩ := hrel
    have HF := Lib.hid hf
    clear hf
    by_cases hlt : k < n
    · obtain ⟨x, hx⟩ : ∃ x, cs[k]? = some x := ⟨cs[k]'(by have := Hn.out; omega), List.getElem?_eq_getElem _⟩
      have hc := hcell k x hx
      have hd : cs.drop k = x :: cs.drop (k + 1) := by
        have hl : k < cs.length := (List.getElem?_eq_some_iff.1 hx).1
        rw [List.drop_eq_getElem_cons hl]
        congr 1
        exact (List.getElem?_eq_some_iff.1 hx).2
      have HD := Lib.hid hd
      clear hd hx hcell
      match x with
      | 0 =>
        have hc' : w.cell? ⟨b, k, Option.none⟩ = some .nilIface := hc
        clear hc
        go_wp2_with fail
        go_round
        case rel => exact ⟨k + 1, by omega, by go_num, by rw [← HF.out, HD.out]; rfl⟩
        case measure => simp [intOf]; omega
      | 1 =>
        have hc' : w.cell? ⟨b, k, Option.none⟩ = some noMarkV := hc
        clear hc
        go_wp2_with fail
        go_ret
        exact ⟨by rw [← HF.out, HD.out]; rfl, rfl⟩
      | i + 2 =>
        have hc' : w.cell? ⟨b, k, Option.none⟩ = some (errV (e (i + 1))) := hc
        clear hc
        go_wp2_with fail
        go_ret
        exact ⟨by rw [← HF.out, HD.out]; rfl, rfl⟩
    · go_wp2_with fail
      go_ret
      have hk2 : k = n := by omega
      refine ⟨?_, rfl⟩
      rw [← HF.out, List.drop_of_length_le (by have := Hn.out; omega)]
      rfl
theorem errM_form (e : Nat → Addr) (k : Nat) : errM e k = .nilIface ∨ ∃ T p, errM e k = .iface T p := by
  match k with
  | 0 => exact .inl rfl
  | 1 => exact .inr ⟨_, _, rfl⟩
  | k + 2 => exact .inr ⟨_, _, rfl⟩
theorem buildSliceM2 (e : Nat → Addr) (k1 k2 : Nat) (w : World) :
    (Instr.buildSlice 114 2 #[(0, errM e k1), (1, errM e k2)]).run Tryd.prog w = .ok (.slice (some ⟨w.heap.size, 0, Option.none⟩) 2 2) (w.alloc (.cells #[errM e k1, errM e k2] 65)) := by
  rcases errM_form e k1 with h | ⟨T, p, h⟩ <;> rcases errM_form e k2 with h' | ⟨T', p', h'⟩ <;> rw [h, h'] <;> kernel_rfl
theorem cells_errsM (e : Nat → Addr) (cs : List Nat) (w : World) (t : TypeId) (A : Array Value) (hA : A = (cs.map (errM e)).toArray) :
    ∀ k x, cs[k]? = some x → (w.alloc (.cells A t)).cell? ⟨w.heap.size, k, Option.none⟩ = some (errM e x) := by
  intro k x hx
  rw [cell_of_row _ _ _ _ _ _ (heap_alloc_new w _), hA]
  simp [hx]
end Go.Proofs.YtlembainfhnnbaaDoor.mks

/-
  Lists of marks: their codes, and which mark has been seen: the program's and the model's.
-/
namespace Go.Proofs.YtlembainfhnnbaaDoor.mks
open Go Go.RowKit sl stk errs

def codeT (s : Int) (xs : List Nat) : Nat := if codeM s [xs] = 0 then (if (clashF xs).isSome = true then 4 else 0) else codeM s [xs]
def readF (xs : List Nat) (m : Nat) : Option Nat := firstFrom (fun j => seenB (xs.getD j 0) m) xs.length 0
theorem codeM_or (s : Int) (ls : List (List Nat)) : codeM s ls = 0 ∨ codeM s ls = 1 ∨ codeM s ls = 3 := by
  unfold codeM
  split
  · split
    · exact .inr (.inr rfl)
    · exact .inl rfl
  · exact .inr (.inl rfl)
theorem codeM_ok {s : Int} {xs : List Nat} (h : codeM s [xs] = 0) : inB s 1 12 = true ∧ (∀ m ∈ xs, okB s m = true) ∧ xs.length ≤ 40 := by
  unfold codeM at h
  split at h
  · rename_i h1
    split at h
    · cases h
    · rename_i h2
      simp only [List.all_cons, List.all_nil, Bool.and_true, Bool.and_eq_true, List.all_eq_true] at h1
      simp only [List.any_cons, List.any_nil, Bool.or_false, decide_eq_true_eq] at h2
      exact ⟨h1.1, h1.2, by omega⟩
  · cases h
theorem codeM_and (s : Int) (xs : List Nat) (m : Nat) : codeM s [xs, [m]] = if okB s m = true then codeM s [xs] else 1 := by
  cases h : okB s m with
  | true =>
    unfold codeM
    simp [h]
  | false =>
    exact codeM_no (xs := [m]) (by simp) (List.mem_singleton.2 rfl) h

set_option maxHeartbeats 2000000 in
theorem l06List_any (s : Int) (A : Option Addr) (n c : Nat) (xs : List Nat) (en : n = xs.length) (hn : n ≤ 1048576) (k : Nat) (hk : codeM s [xs] = k) (B : Nat) (w : World) (hg : Sl marS.C 1 w B A xs) :
    Calls Tryd.prog 55 #[.int .i64 s, .slice A n c] w fun o w' => o = .returned (.int .i64 k) ∧ w = w' := by
  have En := Lib.hid en
  have HK := Lib.hid hk
  have HM := Lib.hid (l06Many_any s)
  clear en hk
  cases hs : inB s 1 12 with
  | false =>
    rw [hs] at HM
    have e1 : k = 1 := HK.out.symm.trans (codeM_bad hs)
    subst e1
    clear hs
    go_enter Tryd.func55, Tryd.ntmps55
    go_wp2_with (first | (go_at_call 63; refine (HM.out _).mono ?_; rintro o w1 ⟨rfl, rfl⟩) | fail)
    go_ret
    exact ⟨rfl, rfl⟩
  | true =>
    rw [hs] at HM
    have HS := Lib.hid hs
    clear hs
    go_enter Tryd.func55, Tryd.ntmps55
    go_wp2_with (first | (go_at_call 63; refine (HM.out _).mono ?_; rintro o w1 ⟨rfl, rfl⟩) | fail)
    go_loop [5] (fun vi => ∃ i : Nat, i ≤ n ∧ vi = .int .i64 i ∧ ∀ m ∈ xs.take i, okB s m = true) (fun vi => n - (intOf vi).toNat)
    case atStart => exact ⟨0, by omega, rfl, fun m hm => by simp at hm⟩
    case round =>
      obtain ⟨i, hi, rfl, hok⟩ := hrel
      have HO := Lib.hid hok
      clear hok
      by_cases hlt : i < n
      · obtain ⟨x, hx⟩ : ∃ x, xs[i]? = some x := ⟨xs[i]'(by have := En.out; omega), List.getElem?_eq_getElem _⟩
        obtain ⟨a, rfl, hab, hat⟩ := hg.at_ i x hx
        have q0 := marS.at_ hat
        have HX := Lib.hid hx
        have HV := Lib.hid (l06Ok_any s x)
        clear hx hat
        cases hb : okB s x with
        | true =>
          rw [hb] at HV
          have HB := Lib.hid hb
          clear hb
          go_wp2_with (first | (go_at_call 50; refine (HV.out _).mono ?_; rintro o w1 ⟨rfl, rfl⟩) | fail)
          go_round
          case rel => exact ⟨i + 1, by omega, by go_num, fun m hm => by
            rw [take_snoc HX.out] at hm
            rcases List.mem_append.1 hm with h1 | h1
            · exact HO.out m h1
            · rw [List.mem_singleton.1 h1]; exact HB.out⟩
          case measure => simp [intOf]; omega
        | false =>
          rw [hb] at HV
          have e1 : k = 1 := HK.out.symm.trans (codeM_no (List.mem_singleton.2 rfl) (List.mem_of_getElem? HX.out) hb)
          subst e1
          clear hb
          go_wp2_with (first | (go_at_call 50; refine (HV.out _).mono ?_; rintro o w1 ⟨rfl, rfl⟩) | fail)
          go_ret
          exact ⟨rfl, rfl⟩
      · obtain rfl : i = n := by omega
        have hall : ∀ ys ∈ [xs], ∀ m ∈ ys, okB s m = true := fun ys hy m hm => by
          rw [List.mem_singleton.1 hy] at hm
          refine HO.out m ?_
          rw [List.take_of_length_le (by have := En.out; omega)]
          exact hm
        by_cases h40 : 40 < i
        · have e1 : k = 3 := HK.out.symm.trans (codeM_many HS.out hall (List.mem_singleton.2 rfl) (by rw [← En.out]; exact h40))
          subst e1
          clear hall
          go_wp2_with fail
          go_ret
          exact ⟨rfl, rfl⟩
        · have e1 : k = 0 := HK.out.symm.trans (codeM_fine HS.out hall fun ys hy => by rw [List.mem_singleton.1 hy, ← En.out]; omega)
          subst e1
          clear hall
          go_wp2_with fail
          go_ret
          exact ⟨rfl, rfl⟩
set_option maxRecDepth 100000 in
set_option maxHeartbeats 4000000 in
theorem l06Told_any (s : Int) (A : Option Addr) (n c : Nat) (xs : List Nat) (en : n = xs.length) (hn : n ≤ 1048576) (hf : ∀ x ∈ xs, x < 65536) (k : Nat) (hk : codeT s xs = k) (w : World) (hg : Sl marS.C 1 w w.heap.size A xs) :
    Calls Tryd.prog 60 #[.int .i64 s, .slice A n c] w fun o w' => o = .returned (.int .i64 k) ∧ Below w.heap.size w w' := by
  obtain ⟨k0, hk0⟩ : ∃ k0, codeM s [xs] = k0 := ⟨_, rfl⟩
  obtain ⟨r, hr⟩ : ∃ r, clashF xs = r := ⟨_, rfl⟩
  have HL := Lib.hid (l06List_any s A n c xs en hn k0 hk0 w.heap.size w hg)
  have HC := Lib.hid (l06Clash_any A n c xs en hn hf r hr w hg)
  have hk' : (if k0 = 0 then (if r.isSome = true then 4 else 0) else k0) = k := by rw [← hk, codeT, hk0, hr]
  clear hk hk0 hr hf en hg
  by_cases h0 : k0 = 0
  · subst h0
    cases r with
    | none =>
      obtain rfl : 0 = k := by simpa using hk'
      rw [show fstI none = -1 from rfl, show sndI none = -1 from rfl] at HC
      clear hk'
      go_enter Tryd.func60, Tryd.ntmps60
      go_wp2_with fail
      refine HL.out.mono ?_
      rintro o w1 ⟨rfl, rfl⟩
      go_wp2_with fail
      refine HC.out.mono ?_
      rintro o w1 ⟨rfl, hb⟩
      go_wp2_with fail
      go_ret
      exact ⟨rfl, hb⟩
    | some p =>
      obtain ⟨i, j⟩ := p
      obtain rfl : 4 = k := by simpa using hk'
      rw [show fstI (some (i, j)) = (i : Int) from rfl, show sndI (some (i, j)) = (j : Int) from rfl] at HC
      clear hk'
      go_enter Tryd.func60, Tryd.ntmps60
      go_wp2_with fail
      refine HL.out.mono ?_
      rintro o w1 ⟨rfl, rfl⟩
      go_wp2_with fail
      refine HC.out.mono ?_
      rintro o w1 ⟨rfl, hb⟩
      go_wp2_with fail
      go_ret
      exact ⟨rfl, hb⟩
  · obtain rfl : k0 = k := by simpa [h0] using hk'
    have hne : ((k0 : Int) != 0) = true := by rw [bne_iff_ne]; omega
    clear hk' HC
    go_enter Tryd.func60, Tryd.ntmps60
    go_wp2_with fail
    refine HL.out.mono ?_
    rintro o w1 ⟨rfl, rfl⟩
    go_wp2_with fail
    go_ret
    exact ⟨rfl, Below.refl _ _⟩
set_option maxRecDepth 100000 in
set_option maxHeartbeats 4000000 in
theorem l06Read_any (A : Option Addr) (n c : Nat) (xs : List Nat) (en : n = xs.length) (hn : n ≤ 1048576) (hf : ∀ x ∈ xs, x < 65536) (m : Nat) (r : Option Nat) (hr : readF xs m = r) (w : World) (hg : Sl marS.C 1 w w.heap.size A xs) :
    Calls Tryd.prog 61 #[.slice A n c, .int .u16 m] w fun o w' => o = .returned (.int .i64 (optI r)) ∧ Below w.heap.size w w' := by
  have hr' : firstFrom (fun j => seenB (xs.getD j 0) m) (n - 0) 0 = r := by rw [en]; exact hr
  have En := Lib.hid en
  have HR := Lib.hid hr'
  have HF := Lib.hid hf
  clear en hr hr' hf
  go_enter Tryd.func61, Tryd.ntmps61
  go_wp2_with fail
  go_loopw [5] (fun vi wr => ∃ k : Nat, k ≤ n ∧ vi = .int .i64 k ∧ firstFrom (fun j => seenB (xs.getD j 0) m) (n - k) k = r ∧ Below w.heap.size w wr) (fun vi _ => n - (intOf vi).toNat)
  case atStart => exact ⟨0, by omega, rfl, HR.out, Below.refl _ _⟩
  case round =>
    obtain ⟨k, hk, rfl, hno, hB⟩ := hrel
    have HN := Lib.hid hno
    have HB := Lib.hid hB
    clear hno
    by_cases hlt : k < n
    · obtain ⟨x, hx⟩ : ∃ x, xs[k]? = some x := ⟨xs[k]'(by have := En.out; omega), List.getElem?_eq_getElem _⟩
      obtain ⟨a, rfl, hab, hat⟩ := (hg.below hB).at_ k x hx
      have q0 := marS.at_ hat
      have HX := Lib.hid hx
      have HSE := Lib.hid (l06Seen_any x (HF.out x (List.mem_of_getElem? hx)))
      have hle := seenL_len x
      clear hx hat hB
      go_wp2_with fail
      refine (HSE.out _).mono ?_
      rintro o w1 ⟨v, n1, rfl, hP, hb1⟩
      obtain ⟨A1, c1, rfl, _⟩ := owns_slice hP
      have hl := owns_len hP (marS.len _) (by decide)
      have HS1 := Lib.hid (Sl.of_owns hP (marS.len _) (by decide))
      have hn17 : n1 ≤ 17 := by rw [hl]; exact hle
      have HL := Lib.hid hl
      have HB1 := Lib.hid (below_next HB.out hb1 (Nat.le_refl _))
      clear hP hb1 hl hle
      cases hc : seenB x m with
      | true =>
        have HH := Lib.hid (l06Has_any A1 n1 c1 (seenL x) HL.out (by omega) m true hc _ _ HS1.out)
        obtain rfl := first_yes HN.out hlt (by simp only [at_get HX.out]; exact hc)
        clear hc
        go_wp2_with fail
        refine HH.out.mono ?_
        rintro o w2 ⟨rfl, rfl⟩
        go_wp2_with fail
        go_ret
        exact ⟨rfl, HB1.out⟩
      | false =>
        have HH := Lib.hid (l06Has_any A1 n1 c1 (seenL x) HL.out (by omega) m false hc _ _ HS1.out)
        have hnx := first_no HN.out hlt (by simp only [at_get HX.out]; exact hc)
        have HNX := Lib.hid hnx
        clear hc hnx
        go_wp2_with fail
        refine HH.out.mono ?_
        rintro o w2 ⟨rfl, rfl⟩
        go_wp2_with fail
        go_roundw
        case rel => exact ⟨k + 1, by omega, by go_num, HNX.out, HB1.out⟩
        case measure => simp [intOf]; omega
    · obtain rfl : k = n := by omega
      obtain rfl := first_end HN.out
      go_wp2_with fail
      go_ret
      exact ⟨rfl, HB.out⟩
set_option maxRecDepth 100000 in
set_option maxHeartbeats 4000000 in
theorem readBy_any (A : Option Addr) (n c : Nat) (xs : List Nat) (en : n = xs.length) (hn : n ≤ 1048576) (hf : ∀ x ∈ xs, x < 65536) (m : Nat) (hm : m < 65536) (r : Option Nat) (hr : readF xs m = r) {w : World} {B : Nat} {e : Nat → Addr} (h : Errs w B e) (hB : B ≤ w.heap.size) (hg : Sl marS.C 1 w w.heap.size A xs) :
    Calls Tryd.prog 62 #[.slice A n c, .int .u16 m] w fun o w' => o = .returned (.tuple #[.int .i64 (r.getD 0 : Nat), errOf e (if r.isSome = true then 0 else 6)]) ∧ Below w.heap.size w w' := by
  have hmf : ∀ (fn : Fn) (first cap : Array Value) (w : World), (Instr.makeFunc fn first cap).run Tryd.prog w = .ok (.func fn first cap) w := fun _ _ _ _ => rfl
  have H := Lib.hid h
  have HI := Lib.hid (IndexFuncSeen_any A n c xs en (by omega) hf m hm w hg r (by rw [en]; exact hr))
  clear h en hf hr hm hg
  cases r with
  | none =>
    rw [show optI none = -1 from rfl] at HI
    go_enter Tryd.func62, Tryd.ntmps62
    go_wp2_with fail
    refine HI.out.mono ?_
    rintro o w1 ⟨rfl, hb⟩
    have HE := Lib.hid (H.out.below (hb.mono hB))
    have HB := Lib.hid hb
    obtain ⟨c0, c1, c2, c3, c4, c5, c6, _⟩ := HE.out
    clear hb
    go_wp2_with fail
    go_quiet (fail)
    go_wp2_with fail
    go_ret2
    exact ⟨rfl, HB.out.trans (below_drewN _ _ _)⟩
  | some i =>
    rw [show optI (some i) = (i : Int) from rfl] at HI
    go_enter Tryd.func62, Tryd.ntmps62
    go_wp2_with fail
    refine HI.out.mono ?_
    rintro o w1 ⟨rfl, hb⟩
    go_wp2_with fail
    go_ret2
    exact ⟨rfl, hb⟩
end Go.Proofs.YtlembainfhnnbaaDoor.mks

/-
  In how many stitches two marks of a list differ at least: the program's and the model's.
-/
namespace Go.Proofs.YtlembainfhnnbaaDoor.mks
open Go Go.RowKit sl stk errs fold

def lessO (L : Option Nat) (v : Nat) : Option Nat := some (match L with | none => v | some l => min l v)
/-- the least one of L and the first k values -/
def rowL (f : Nat → Nat) (L : Option Nat) : Nat → Option Nat
  | 0 => L
  | k + 1 => lessO (rowL f L k) (f k)
/-- the least one of all pairs below i -/
def lstL (f : Nat → Nat → Nat) : Nat → Option Nat
  | 0 => none
  | i + 1 => rowL (f i) (lstL f i) i
theorem lessO_getD {s v : Nat} (L : Option Nat) (h : v ≤ s) : (lessO L v).getD s = min (L.getD s) v := by
  cases L with
  | none => simp [lessO]; omega
  | some l => rfl
theorem rowL_some {f : Nat → Nat} {L : Option Nat} {l : Nat} (h : L = some l) : ∀ k, ∃ v, rowL f L k = some v
  | 0 => ⟨l, h⟩
  | k + 1 => ⟨_, rfl⟩
theorem lstL_none (f : Nat → Nat → Nat) {n : Nat} (h : n < 2) : lstL f n = none := by
  match n, h with
  | 0, _ => rfl
  | 1, _ => rfl
theorem lstL_some (f : Nat → Nat → Nat) : ∀ n, 2 ≤ n → ∃ v, lstL f n = some v
  | n + 1, h => by
    by_cases h2 : n + 1 = 2
    · obtain rfl : n = 1 := by omega
      exact ⟨_, rfl⟩
    · obtain ⟨v, hv⟩ := lstL_some f n (by omega)
      exact rowL_some hv n
theorem cnt_bound {m s : Nat} (hs : s ≤ 16) (h : m < 2 ^ s) : cnt m ≤ s := by
  have e : ∀ d, s + d ≤ 16 → cntTo m (s + d) = cntTo m s := by
    intro d
    induction d with
    | zero => intro _; rfl
    | succ d ih =>
      intro hd
      rw [show s + (d + 1) = (s + d) + 1 from rfl, cntTo_succ, ih (by omega), if_neg]
      · rfl
      · rw [Nat.testBit_lt_two_pow (Nat.lt_of_lt_of_le h (Nat.pow_le_pow_right (by decide) (by omega)))]
        simp
  have h1 := e (16 - s) (by omega)
  rw [show s + (16 - s) = 16 by omega] at h1
  unfold cnt
  rw [h1]
  exact cntTo_le m s
abbrev difs (xs : List Nat) (i k : Nat) : Nat := cnt (xs.getD i 0 ^^^ xs.getD k 0)
def lstR (s : Int) (xs : List Nat) : Nat × Nat := if codeM s [xs] = 0 then ((lstL (difs xs) xs.length).getD 0, if (lstL (difs xs) xs.length).isSome = true then 0 else 6) else (0, codeM s [xs])

theorem l06Count_q (m : Nat) (hm : m < 65536) (w : World) :
    Calls Tryd.prog 76 #[.int .u16 m] w fun o w' => o = .returned (.int .i64 (cnt m)) ∧ w' = w := (l06Count_any m hm w).mono fun _ _ ⟨a, b⟩ => ⟨a, b.symm⟩
set_option maxRecDepth 100000 in
set_option maxHeartbeats 4000000 in
theorem LeastApart_spec (s : Int) (A : Option Addr) (n c : Nat) (xs : List Nat) (en : n = xs.length) (hn : n ≤ 1048576) (hf : ∀ x ∈ xs, x < 65536) (a k : Nat) (hr : lstR s xs = (a, k)) (w : World) (hg : Sl marS.C 1 w w.heap.size A xs) :
    Calls Tryd.prog 41 #[.int .i64 s, .slice A n c] w fun o w' => o = .returned (.tuple #[.int .i64 a, .int .i64 k]) ∧ Below w.heap.size w w' := by
  obtain ⟨k0, hk0⟩ : ∃ k0, codeM s [xs] = k0 := ⟨_, rfl⟩
  have HL := Lib.hid (l06List_any s A n c xs en hn k0 hk0 w.heap.size w hg)
  obtain ⟨q, hq⟩ : ∃ q, lstL (difs xs) xs.length = q := ⟨_, rfl⟩
  have hk' : (if k0 = 0 then (q.getD 0, if q.isSome = true then 0 else 6) else (0, k0)) = (a, k) := by rw [← hr, lstR, hk0, hq]
  have En := Lib.hid en
  have HQ : Hid (lstL (difs xs) n = q) := Lib.hid (by rw [en]; exact hq)
  have HF := Lib.hid hf
  clear hr hk0 hf en hq
  by_cases h0 : k0 = 0
  · subst h0
    have HK := Lib.hid hk'
    clear hk'
    go_enter Tryd.func41, Tryd.ntmps41
    go_wp2_with fail
    refine HL.out.mono ?_
    rintro o w1 ⟨rfl, rfl⟩
    go_wp2_with fail
    go_loopw [7, 8, 9, 10] (fun vl vi _ _ wr => ∃ i : Nat, i ≤ n ∧ vi = .int .i64 i ∧ vl = .int .i64 (optI (lstL (difs xs) i)) ∧ Below w.heap.size w wr) (fun _ vi _ _ _ => n - (intOf vi).toNat)
    case atStart => exact ⟨0, by omega, rfl, rfl, Below.refl _ _⟩
    case round =>
      obtain ⟨i, hi, rfl, rfl, hB⟩ := hrel
      have HB := Lib.hid hB
      by_cases hlt : i < n
      · obtain ⟨x, hx⟩ : ∃ x, xs[i]? = some x := ⟨xs[i]'(by have := En.out; omega), List.getElem?_eq_getElem _⟩
        have HX := Lib.hid hx
        have HXL := Lib.hid (HF.out x (List.mem_of_getElem? hx))
        obtain ⟨L, hL⟩ : ∃ L, lstL (difs xs) i = L := ⟨_, rfl⟩
        rw [hL]
        have HLL := Lib.hid hL
        obtain ⟨wo, rfl⟩ : ∃ wo, wo = wr := ⟨wr, rfl⟩
        clear hx hL hB
        go_wp2_with fail
        go_loopw [7, 9, 10] (fun vl vk _ wr => ∃ k : Nat, k ≤ i ∧ vk = .int .i64 k ∧ vl = .int .i64 (optI (rowL (difs xs i) L k)) ∧ Below w.heap.size w wr) (fun _ vk _ _ => i - (intOf vk).toNat)
        case atStart => exact ⟨0, by omega, rfl, rfl, HB.out⟩
        case round =>
          obtain ⟨k, hk, rfl, rfl, hB2⟩ := hrel
          have HB2 := Lib.hid hB2
          by_cases hlk : k < i
          · obtain ⟨y, hy⟩ : ∃ y, xs[k]? = some y := ⟨xs[k]'(by have := En.out; omega), List.getElem?_eq_getElem _⟩
            obtain ⟨ad, rfl, hab, hat⟩ := (hg.below hB2).at_ i x HX.out
            have q0 := marS.at_ hat
            obtain ⟨a', e, hab', hat'⟩ := (hg.below hB2).at_ k y hy
            cases e
            have r0 := marS.at_ hat'
            have HYL := Lib.hid (HF.out y (List.mem_of_getElem? hy))
            have hxo := bits_xor HXL.out HYL.out
            obtain ⟨z, hz⟩ : ∃ z, x ^^^ y = z := ⟨_, rfl⟩
            have hzl : z < 65536 := by rw [← hz]; exact xor_lt HXL.out HYL.out
            have hd : difs xs i k = cnt z := by rw [← hz, difs, at_get HX.out, at_get hy]
            rw [hz] at hxo
            have HZL := Lib.hid hzl
            obtain ⟨R, hR⟩ : ∃ R, rowL (difs xs i) L k = R := ⟨_, rfl⟩
            have hnext : rowL (difs xs i) L (k + 1) = lessO R (cnt z) := by rw [rowL, hR, hd]
            rw [hR]
            have HNX := Lib.hid hnext
            have hcz := cnt_le z
            have hkn : k < n := by omega
            have hkn2 : (k : Int) < (n : Int) := by omega
            obtain ⟨v, hv⟩ : ∃ v, cnt z = v := ⟨_, rfl⟩
            have HC := Lib.hid (fun u => l06Count_q z HZL.out u)
            rw [hv] at HC HNX hcz
            clear hy hat hat' hzl hd hz hR hnext hv hB2
            cases R with
            | none =>
              rw [show optI none = -1 from rfl]
              go_wp2_with fail
              go_quiet ((go_at_call 76; exact Calls.quiet_of_same (HC.out _)))
              go_wp2_with fail
              go_roundw
              case rel => exact ⟨k + 1, by omega, by go_num, by rw [HNX.out]; rfl, HB2.out.trans (below_drewN _ _ _)⟩
              case measure => simp [intOf]; omega
            | some l =>
              rw [show optI (some l) = (l : Int) from rfl]
              have hl0 : decide ((l : Int) < 0) = false := by simp
              by_cases hvl : v < l
              · have hvl2 : decide ((v : Int) < (l : Int)) = true := by simpa using hvl
                have HM : Hid (lessO (some l) v = some v) := Lib.hid (by show some (min l v) = some v; congr 1; omega)
                go_wp2_with fail
                go_quiet ((go_at_call 76; exact Calls.quiet_of_same (HC.out _)))
                go_wp2_with fail
                go_roundw
                case rel => exact ⟨k + 1, by omega, by go_num, by rw [HNX.out, HM.out]; rfl, HB2.out.trans (below_drewN _ _ _)⟩
                case measure => simp [intOf]; omega
              · have hvl2 : decide ((v : Int) < (l : Int)) = false := by simpa using hvl
                have HM : Hid (lessO (some l) v = some l) := Lib.hid (by show some (min l v) = some l; congr 1; omega)
                go_wp2_with fail
                go_quiet ((go_at_call 76; exact Calls.quiet_of_same (HC.out _)))
                go_wp2_with fail
                go_roundw
                case rel => exact ⟨k + 1, by omega, by go_num, by rw [HNX.out, HM.out]; rfl, HB2.out.trans (below_drewN _ _ _)⟩
                case measure => simp [intOf]; omega
          · obtain rfl : k = i := by omega
            go_wp2_with fail
            go_roundw
            case rel => exact ⟨k + 1, by omega, by go_num, by rw [lstL, HLL.out], HB2.out⟩
            case measure => simp [intOf]; omega
      · obtain rfl : i = n := by omega
        rw [HQ.out]
        have hk' := HK.out
        clear HK
        cases q with
        | none =>
          obtain ⟨rfl, rfl⟩ : 0 = a ∧ 6 = k := by simpa using hk'
          clear hk'
          rw [show optI none = -1 from rfl]
          go_wp2_with fail
          go_ret2
          exact ⟨rfl, HB.out⟩
        | some v =>
          obtain ⟨rfl, rfl⟩ : v = a ∧ 0 = k := by simpa using hk'
          clear hk'
          rw [show optI (some v) = (v : Int) from rfl]
          go_wp2_with fail
          go_ret2
          exact ⟨rfl, HB.out⟩
  · obtain ⟨rfl, rfl⟩ : 0 = a ∧ k0 = k := by simpa [h0] using hk'
    have hne : ((k0 : Int) != 0) = true := by rw [bne_iff_ne]; omega
    clear hk'
    go_enter Tryd.func41, Tryd.ntmps41
    go_wp2_with fail
    refine HL.out.mono ?_
    rintro o w1 ⟨rfl, rfl⟩
    go_wp2_with fail
    go_ret2
    exact ⟨rfl, Below.refl _ _⟩
theorem ok_lt {s m : Nat} (h : okB (s : Int) m = true) : m < 2 ^ s := by
  unfold okB at h
  simp only [Bool.and_eq_true, decide_eq_true_eq] at h
  simpa using h.2
theorem xor_small {x y s : Nat} (hx : x < 2 ^ s) (hy : y < 2 ^ s) : x ^^^ y < 2 ^ s := Nat.xor_lt_two_pow hx hy
set_option maxRecDepth 100000 in
set_option maxHeartbeats 8000000 in
theorem LeastApart_any (s : Int) (A : Option Addr) (n : Nat) (xs : List Nat) (en : n = xs.length) (hn : n ≤ 1048576) (hf : ∀ x ∈ xs, x < 65536) (a k : Nat) (hr : lstR s xs = (a, k)) {w : World} {B : Nat} {e : Nat → Addr} (h : Errs w B e) (hB : B ≤ w.heap.size) (hg : Sl marS.C 1 w w.heap.size A xs) :
    Calls Tryd.prog 42 #[.int .i64 s, .slice A n n] w fun o w' => o = .returned (.tuple #[.int .i64 a, .int .i64 k]) ∧ Below w.heap.size w w' := by
  have H := Lib.hid h
  have hne := ne_noMark
  obtain ⟨k0, hk0⟩ : ∃ k0, codeM s [xs] = k0 := ⟨_, rfl⟩
  obtain ⟨q, hq⟩ : ∃ q, lstL (difs xs) xs.length = q := ⟨_, rfl⟩
  have hk' : (if k0 = 0 then (q.getD 0, if q.isSome = true then 0 else 6) else (0, k0)) = (a, k) := by rw [← hr, lstR, hk0, hq]
  have hor := codeM_or s [xs]
  rw [hk0] at hor
  have hb1 : Below w.heap.size w (w.alloc (.cells #[.slice A n n] 23)) := (Below.refl _ _).alloc (Nat.le_refl _) _
  have HG := Lib.hid (MS.one (c := n) hg (by unfold maxLen; omega) 23 n w.heap.size en rfl)
  have HB1 := Lib.hid hb1
  have HE := Lib.hid (H.out.below (HB1.out.mono hB))
  have HK0 := Lib.hid hk0
  have HQ : Hid (lstL (difs xs) n = q) := Lib.hid (by rw [en]; exact hq)
  have En := Lib.hid en
  have HF := Lib.hid hf
  clear hb1 h hr hk0 hf en hq
  go_enter Tryd.func42, Tryd.ntmps42
  go_wp2_with fail
  refine (checkMarks_any s (some ⟨w.heap.size, 0, Option.none⟩) 1 1 [⟨A, n, xs⟩] rfl (by decide) HE.out (Nat.le_trans hB HB1.out.size) HG.out k0 (by simpa using HK0.out)).mono ?_
  rintro o w1 ⟨rfl, hb⟩
  have HB2 := Lib.hid (below_next HB1.out hb (Nat.le_refl _))
  have HE2 := Lib.hid (H.out.below (HB2.out.mono hB))
  clear hb
  rcases hor with rfl | rfl | rfl
  · rw [show errM e 0 = .nilIface from rfl]
    obtain ⟨hin, hall, hlen⟩ := codeM_ok HK0.out
    obtain ⟨h1, h12⟩ := (inB_iff _ _ _).1 hin
    obtain ⟨S, rfl⟩ := Int.eq_ofNat_of_zero_le (show 0 ≤ s by omega)
    have HA := Lib.hid (fun x (hx : x ∈ xs) => ok_lt (hall x hx))
    clear hall hin hlen
    by_cases h2 : n < 2
    · have hqn : q = none := by rw [← HQ.out]; exact lstL_none _ h2
      subst hqn
      obtain ⟨rfl, rfl⟩ : 0 = a ∧ 6 = k := by simpa using hk'
      clear hk'
      go_wp2_with fail
      go_ret2
      exact ⟨rfl, HB2.out⟩
    · obtain ⟨v, hv⟩ := lstL_some (difs xs) n (by omega)
      have hqn : q = some v := by rw [← HQ.out]; exact hv
      subst hqn
      obtain ⟨rfl, rfl⟩ : v = a ∧ 0 = k := by simpa using hk'
      have HV := Lib.hid hv
      clear hk' hv
      go_wp2_with fail
      go_loopw [7, 8, 9, 11, 26, 33, 34, 35] (fun vl _ _ _ vi _ _ _ wr => ∃ i : Nat, i ≤ n ∧ vi = .int .i64 i ∧ vl = .int .i64 (((lstL (difs xs) i).getD S : Nat)) ∧ Below w.heap.size w wr) (fun _ _ _ _ vi _ _ _ _ => n - (intOf vi).toNat)
      case atStart => exact ⟨0, by omega, rfl, rfl, HB2.out⟩
      case round =>
        obtain ⟨i, hi, rfl, rfl, hBr⟩ := hrel
        have HB3 := Lib.hid hBr
        by_cases hlt : i < n
        · obtain ⟨x, hx⟩ : ∃ x, xs[i]? = some x := ⟨xs[i]'(by have := En.out; omega), List.getElem?_eq_getElem _⟩
          obtain ⟨ad, rfl, hab, hat⟩ := (hg.below hBr).at_ i x hx
          have q0 := marS.at_ hat
          have HX := Lib.hid hx
          obtain ⟨L, hL⟩ : ∃ L, lstL (difs xs) i = L := ⟨_, rfl⟩
          rw [hL]
          have HLL := Lib.hid hL
          obtain ⟨wo, rfl⟩ : ∃ wo, wo = wr := ⟨wr, rfl⟩
          clear hx hat hL hBr
          go_wp2_with fail
          go_loopw [7, 11, 35] (fun vl _ vk wr => ∃ k : Nat, k ≤ i ∧ vk = .int .i64 k ∧ vl = .int .i64 (((rowL (difs xs i) L k).getD S : Nat)) ∧ Below w.heap.size w wr) (fun _ _ vk _ => i - (intOf vk).toNat)
          case atStart => exact ⟨0, by omega, rfl, rfl, HB3.out⟩
          case round =>
            obtain ⟨k, hk, rfl, rfl, hB2⟩ := hrel
            have HB4 := Lib.hid hB2
            by_cases hlk : k < i
            · obtain ⟨y, hy⟩ : ∃ y, xs[k]? = some y := ⟨xs[k]'(by have := En.out; omega), List.getElem?_eq_getElem _⟩
              obtain ⟨a', e', hab', hat'⟩ := (hg.below hB2).at_ k y hy
              cases e'
              have r0 := marS.at_ hat'
              have hxl := HF.out x (List.mem_of_getElem? HX.out)
              have hyl := HF.out y (List.mem_of_getElem? hy)
              have hxo := bits_xor hxl hyl
              obtain ⟨z, hz⟩ : ∃ z, x ^^^ y = z := ⟨_, rfl⟩
              have hzl : z < 65536 := by rw [← hz]; exact xor_lt hxl hyl
              have hzs : cnt z ≤ S := cnt_bound (by omega) (by rw [← hz]; exact xor_small (HA.out x (List.mem_of_getElem? HX.out)) (HA.out y (List.mem_of_getElem? hy)))
              have hd : difs xs i k = cnt z := by rw [← hz, difs, at_get HX.out, at_get hy]
              rw [hz] at hxo
              have HC := Lib.hid (fun u => StitchesIn_any z hzl u)
              obtain ⟨R, hR⟩ : ∃ R, rowL (difs xs i) L k = R := ⟨_, rfl⟩
              have hnext : (rowL (difs xs i) L (k + 1)).getD S = min (R.getD S) (cnt z) := by rw [rowL, hR, hd]; exact lessO_getD R hzs
              rw [hR]
              obtain ⟨v, hv⟩ : ∃ v, cnt z = v := ⟨_, rfl⟩
              obtain ⟨t, ht⟩ : ∃ t, R.getD S = t := ⟨_, rfl⟩
              rw [ht]
              rw [hv, ht] at hnext
              rw [hv] at HC
              have HNX := Lib.hid hnext
              have hkn : k < n := by omega
              clear hy hat' hzl hd hz hR hnext hv hB2 hxl hyl ht hzs
              go_wp2_with fail
              refine (HC.out _).mono ?_
              rintro o w2 ⟨rfl, nd, rfl⟩
              go_wp2_with fail
              go_roundw
              case rel => exact ⟨k + 1, by omega, by go_num, by rw [HNX.out]; congr 1; split <;> omega, HB4.out.trans (below_drewN _ _ _)⟩
              case measure => simp [intOf]; omega
            · obtain rfl : k = i := by omega
              go_wp2_with fail
              go_roundw
              case rel => exact ⟨k + 1, by omega, by go_num, by rw [lstL, HLL.out], HB4.out⟩
              case measure => simp [intOf]; omega
        · obtain rfl : i = n := by omega
          rw [HV.out]
          go_wp2_with fail
          go_ret2
          exact ⟨rfl, HB3.out⟩
  · rw [show errM e 1 = noMarkV from rfl]
    obtain ⟨rfl, rfl⟩ : 0 = a ∧ 1 = k := by simpa using hk'
    clear hk'
    go_wp2_with (first | (go_at_call 53; refine (codeOf_noMark HE2.out (Nat.le_trans hB HB2.out.size)).mono ?_; rintro o w4 ⟨rfl, hb4⟩) | fail)
    go_ret2
    exact ⟨rfl, below_next HB2.out hb4 (Nat.le_refl _)⟩
  · rw [show errM e 3 = errV (e 2) from rfl]
    obtain ⟨rfl, rfl⟩ : 0 = a ∧ 3 = k := by simpa using hk'
    clear hk'
    go_wp2_with fail
    refine (codeOf_any HE2.out 3 (by omega)).mono ?_
    rintro o w4 ⟨rfl, rfl⟩
    go_wp2_with fail
    go_ret2
    exact ⟨rfl, HB2.out⟩
end Go.Proofs.YtlembainfhnnbaaDoor.mks

/-
  The likely marks: the program's and the model's.
-/
namespace Go.Proofs.YtlembainfhnnbaaDoor.mks
open Go Go.RowKit sl stk errs fold

/-- a list of numbers of the call's own, and a code -/
def OwnN (w : World) (ys : List Int) (k : Nat) (o : Ending) (w' : World) : Prop :=
  ∃ v, o = .returned (.tuple #[v, .int .i64 k]) ∧ w'.ownsRow w.heap.size 2 1 v ys.length (ys.flatMap intS.C) ∧ Below w.heap.size w w'
theorem build_noI (u : World) : (Instr.buildSlice 46 0 #[]).run Tryd.prog u = .ok (.slice (some ⟨u.heap.size, 0, Option.none⟩) 0 0) (u.alloc (.cells #[] 2)) := by kernel_rfl
theorem own_noI (u : World) : (u.alloc (.cells #[] 2)).ownsRow u.heap.size 2 1 (.slice (some ⟨u.heap.size, 0, Option.none⟩) 0 0) 0 [] := World.ownsRow_lit u #[] 0 (Nat.le_refl _) (by unfold maxLen; omega) rfl
theorem own_noB {u : World} {B : Nat} (hB : B ≤ u.heap.size) : (u.alloc (.cells #[] 2)).ownsRow B 2 1 (.slice (some ⟨u.heap.size, 0, Option.none⟩) 0 0) 0 [] := owns_below (own_noI u) hB

theorem cnt_zero {m : Nat} (hm : m < 65536) : cnt m = 0 ↔ m = 0 := by
  constructor
  · intro h
    refine Nat.eq_of_testBit_eq fun i => ?_
    rw [Nat.zero_testBit]
    cases hb : m.testBit i with
    | false => rfl
    | true =>
      have h1 : i ∈ bitsTo m 16 := (mem_bitsTo _ _ _).2 ⟨bit_lt hm hb, hb⟩
      have h2 : bitsTo m 16 = [] := List.length_eq_zero_iff.1 h
      rw [h2] at h1
      cases h1
  · rintro rfl
    decide
theorem cnt_split {x s : Nat} (hs : s < 65536) (h : dif s x = 0) : cnt x = cnt (dif x s) + cnt s := by
  have hsub : ∀ i, s.testBit i = true → x.testBit i = true := fun i hi => by
    have h1 := dif_bit s x i
    rw [h, Nat.zero_testBit, hi] at h1
    simpa using h1
  have e : ∀ k, cntTo x k = cntTo (dif x s) k + cntTo s k := by
    intro k
    induction k with
    | zero => rfl
    | succ k ih =>
      rw [cntTo_succ, cntTo_succ (dif x s), cntTo_succ s, ih, dif_bit]
      cases hk : s.testBit k with
      | true => rw [hsub k hk]; simp; omega
      | false => simp; omega
  exact e 16
/-- one mark more: d is what it has not of what is seen, v how many stitches are lost -/
def lkN (d v : Nat) (i : Int) (st : Option Nat × List Int) : Option Nat × List Int :=
  if d = 0 then
    match st.1 with
    | none => (some v, [i])
    | some l => if v < l then (some v, [i]) else if v = l then (some l, st.2 ++ [i]) else st
  else st
/-- the fewest stitches lost of the first i marks, and the places of those marks -/
def lkS (xs : List Nat) (m : Nat) : Nat → Option Nat × List Int
  | 0 => (none, [])
  | i + 1 => lkN (dif m (xs.getD i 0)) (cnt (dif (xs.getD i 0) m)) (i : Int) (lkS xs m i)
theorem lkN_len (d v : Nat) (i : Int) (st : Option Nat × List Int) : (lkN d v i st).2.length ≤ st.2.length + 1 := by
  unfold lkN
  split
  · split
    · simp
    · split
      · simp
      · split
        · simp
        · omega
  · omega
theorem lkS_len (xs : List Nat) (m : Nat) : ∀ i, (lkS xs m i).2.length ≤ i
  | 0 => by simp [lkS]
  | i + 1 => by
    have ih := lkS_len xs m i
    have := lkN_len (dif m (xs.getD i 0)) (cnt (dif (xs.getD i 0) m)) (i : Int) (lkS xs m i)
    unfold lkS
    omega
theorem lkN_off {d v : Nat} {i : Int} {st : Option Nat × List Int} (h : d ≠ 0) : lkN d v i st = st := by simp [lkN, h]
theorem lkN_new {v : Nat} {i : Int} {P : List Int} : lkN 0 v i (none, P) = (some v, [i]) := by simp [lkN]
theorem lkN_less {v l : Nat} {i : Int} {P : List Int} (h : v < l) : lkN 0 v i (some l, P) = (some v, [i]) := by simp [lkN, h]
theorem lkN_same {l : Nat} {i : Int} {P : List Int} : lkN 0 l i (some l, P) = (some l, P ++ [i]) := by simp [lkN]
theorem lkN_more {v l : Nat} {i : Int} {P : List Int} (h : l < v) : lkN 0 v i (some l, P) = (some l, P) := by
  have h1 : ¬ v < l := by omega
  have h2 : ¬ v = l := by omega
  simp [lkN, h1, h2]
theorem lkS_none (xs : List Nat) (m : Nat) : ∀ i, (lkS xs m i).1 = none → (lkS xs m i).2 = []
  | 0, _ => rfl
  | i + 1, h => by
    have ih := lkS_none xs m i
    unfold lkS at h ⊢
    generalize lkS xs m i = st at h ih ⊢
    obtain ⟨L, P⟩ := st
    by_cases h0 : dif m (xs.getD i 0) = 0
    · rw [h0] at h ⊢
      cases L with
      | none => rw [lkN_new] at h; cases h
      | some l =>
        rcases Nat.lt_trichotomy (cnt (dif (xs.getD i 0) m)) l with h1 | h1 | h1
        · rw [lkN_less h1] at h; cases h
        · rw [h1, lkN_same] at h; cases h
        · rw [lkN_more h1] at h; cases h
    · rw [lkN_off h0] at h ⊢
      exact ih h
def likR (s : Int) (xs : List Nat) (m : Nat) : List Int × Nat :=
  if okB s m = true then (if codeM s [xs] = 0 then ((lkS xs m xs.length).2, 0) else ([], codeM s [xs])) else ([], 1)
theorem likR_le {s : Int} {xs : List Nat} {m : Nat} {ys : List Int} {k : Nat} (h : likR s xs m = (ys, k)) : ys.length ≤ 1048576 := by
  unfold likR at h
  split at h
  · split at h
    · rename_i h2
      have h3 := (codeM_ok h2).2.2
      cases h
      exact Nat.le_trans (lkS_len _ _ _) (by omega)
    · cases h; simp
  · cases h; simp

set_option maxRecDepth 100000 in
set_option maxHeartbeats 4000000 in
theorem LikelyLost_spec (s : Int) (A : Option Addr) (n c : Nat) (xs : List Nat) (en : n = xs.length) (hn : n ≤ 1048576) (hf : ∀ x ∈ xs, x < 65536) (m : Nat) (hm : m < 65536) (ys : List Int) (k : Nat) (hr : likR s xs m = (ys, k)) (w : World) (hg : Sl marS.C 1 w w.heap.size A xs) :
    Calls Tryd.prog 48 #[.int .i64 s, .slice A n c, .int .u16 m] w (OwnN w ys k) := by
  have HO := Lib.hid (l06Ok_any s m)
  have hbn := build_noI
  obtain ⟨k0, hk0⟩ : ∃ k0, codeM s [xs] = k0 := ⟨_, rfl⟩
  have HL := Lib.hid (l06List_any s A n c xs en hn k0 hk0 w.heap.size w hg)
  cases hb : okB s m with
  | false =>
    rw [hb] at HO
    obtain ⟨rfl, rfl⟩ : [] = ys ∧ 1 = k := by simpa [likR, hb] using hr
    clear hb hr HL hk0 hf en hg hm
    go_enter Tryd.func48, Tryd.ntmps48
    go_wp2_with (first | (go_at_call 50; refine (HO.out _).mono ?_; rintro o w1 ⟨rfl, rfl⟩) | fail)
    go_ret2
    exact ⟨_, rfl, own_noI _, (Below.refl _ _).alloc (Nat.le_refl _) _⟩
  | true =>
    rw [hb] at HO
    have hk' : (if k0 = 0 then ((lkS xs m xs.length).2, 0) else ([], k0)) = (ys, k) := by rw [← hr, likR, hb, hk0]; rfl
    have hlen : k0 = 0 → n ≤ 40 := fun h0 => by rw [en]; exact (codeM_ok (hk0.trans h0)).2.2
    by_cases h0 : k0 = 0
    · subst h0
      have hn40 := hlen rfl
      obtain ⟨rfl, rfl⟩ : (lkS xs m xs.length).2 = ys ∧ 0 = k := by simpa using hk'
      have En := Lib.hid en
      have HF := Lib.hid hf
      have Hm := Lib.hid hm
      have HCM := Lib.hid (fun u => l06Count_any m hm u)
      have hcm := cnt_le m
      obtain ⟨cm, hcmm⟩ : ∃ cm, cnt m = cm := ⟨_, rfl⟩
      rw [hcmm] at HCM hcm
      have HCMM := Lib.hid hcmm
      obtain ⟨i0, hI, hz0, hz1, hz2⟩ := info_parts intS.info
      have HP0 := Lib.hid (own_noI w)
      have HB0 : Hid (Below w.heap.size w (w.alloc (.cells #[] 2))) := Lib.hid ((Below.refl _ _).alloc (Nat.le_refl _) _)
      clear hb hr hk0 hf en hm hk' hlen hcmm
      go_enter Tryd.func48, Tryd.ntmps48
      go_wp2_with (first | (go_at_call 50; refine (HO.out _).mono ?_; rintro o w1 ⟨rfl, rfl⟩) | (go_at_call 55; refine HL.out.mono ?_; rintro o w1 ⟨rfl, rfl⟩) | fail)
      go_loopw [9, 10, 11, 12] (fun v9 v10 v11 _ wr => ∃ (i : Nat) (L : Option Nat) (P : List Int), i ≤ n ∧ v11 = .int .i64 i ∧ lkS xs m i = (L, P) ∧ v9 = .int .i64 (optI L) ∧ wr.ownsRow w.heap.size 2 1 v10 P.length (P.flatMap intS.C) ∧ Below w.heap.size w wr) (fun _ _ v11 _ _ => n - (intOf v11).toNat)
      case atStart => exact ⟨0, none, [], by omega, rfl, rfl, rfl, HP0.out, HB0.out⟩
      case round =>
        clear HP0 HB0
        obtain ⟨i, L, P, hi, rfl, hst, rfl, hP, hB⟩ := hrel
        have hpl : P.length ≤ i := by have := lkS_len xs m i; rw [hst] at this; exact this
        obtain ⟨A', c', rfl, _⟩ := owns_slice hP
        obtain ⟨q, hq⟩ : ∃ q, q = P.length := ⟨_, rfl⟩
        rw [← hq] at hP hpl ⊢
        have Hq := Lib.hid hq
        have HST := Lib.hid hst
        have HP := Lib.hid hP
        have HB := Lib.hid hB
        clear hst hP hq
        by_cases hlt : i < n
        · obtain ⟨x, hx⟩ : ∃ x, xs[i]? = some x := ⟨xs[i]'(by have := En.out; omega), List.getElem?_eq_getElem _⟩
          obtain ⟨a, rfl, hab, hat⟩ := (hg.below hB).at_ i x hx
          have q0 := marS.at_ hat
          have hxl := HF.out x (List.mem_of_getElem? hx)
          have hdf := bits_dif Hm.out hxl
          have hstep : lkS xs m (i + 1) = lkN (dif m x) (cnt (dif x m)) (i : Int) (L, P) := by rw [lkS, at_get hx, HST.out]
          have HCX := Lib.hid (fun u => l06Count_any x hxl u)
          obtain ⟨dd, hdd⟩ : ∃ dd, dif m x = dd := ⟨_, rfl⟩
          rw [hdd] at hdf hstep
          by_cases hd0 : dd = 0
          · subst hd0
            have hsp := cnt_split Hm.out hdd
            have hcx := cnt_le x
            obtain ⟨v, hv⟩ : ∃ v, cnt (dif x m) = v := ⟨_, rfl⟩
            obtain ⟨cx, hcxx⟩ : ∃ cx, cnt x = cx := ⟨_, rfl⟩
            rw [hcxx] at HCX hcx hsp
            rw [hv, HCMM.out] at hsp
            rw [hv] at hstep
            have hsub : (cx : Int) - (cm : Int) = (v : Int) := by omega
            have hf0 : (((0 : Nat) : Int) != 0) = false := rfl
            have HSS := Lib.hid hstep
            clear hx hat hB hxl hstep hsp hdd hv hcxx
            go_wp2_with fail
            refine (HCX.out _).mono ?_
            rintro o w2 ⟨rfl, rfl⟩
            go_wp2_with fail
            refine (HCM.out _).mono ?_
            rintro o w2 ⟨rfl, rfl⟩
            cases L with
            | none =>
              have HSN := Lib.hid (HSS.out.trans lkN_new)
              rw [show optI none = -1 from rfl]
              have hvv : ((v : Int) == (v : Int)) = true := by simp
              have HP0 := Lib.hid (own_noB (u := wr) HB.out.size)
              have HB0 := Lib.hid (HB.out.alloc HB.out.size (.cells #[] 2))
              go_wp2_with (first | (at_builtin; refine wpList_append_own _ rfl (.tmp 59) (.tmp 61) 46 rfl w.heap.size 2 i0 (.int .i64 0) 1 8 Tryd.underlying46 hI hz0 hz1 hz2 rfl (by decide) _ _ _ rfl (HP0.out.alloc _) ⟨_, 0, none⟩ 1 1 [.int .i64 (i : Int)] rfl rfl (one_newB _ _ _ _ (by simp)) (one_cellI (by rfl)) (by unfold maxLen; omega) (by omega) (by have := HB.out.size; simp; omega) ?_; intro v3 w5 hP5 hgr _; have B5 := Lib.hid (Below.grown (HB0.out.alloc HB0.out.size _) hgr (by have := HB.out.size; simp; omega) (fun g hg => (HP0.out.lt g hg).1)); have HP5 := Lib.hid hP5; clear hP5 hgr) | fail)
              go_roundw
              case rel => exact ⟨i + 1, some v, [(i : Int)], by omega, by go_num, HSN.out, rfl, by have := HP5.out; simpa [intS.C] using this, B5.out⟩
              case measure => simp [intOf]; omega
            | some l =>
              rw [show optI (some l) = (l : Int) from rfl]
              have hl0 : decide ((l : Int) < 0) = false := by simp
              rcases Nat.lt_trichotomy v l with hvl | hvl | hvl
              · have HSN := Lib.hid (HSS.out.trans (lkN_less hvl))
                have hvl2 : decide ((v : Int) < (l : Int)) = true := by simpa using hvl
                have hvv : ((v : Int) == (v : Int)) = true := by simp
                have HP0 := Lib.hid (own_noB (u := wr) HB.out.size)
                have HB0 := Lib.hid (HB.out.alloc HB.out.size (.cells #[] 2))
                go_wp2_with (first | (at_builtin; refine wpList_append_own _ rfl (.tmp 59) (.tmp 61) 46 rfl w.heap.size 2 i0 (.int .i64 0) 1 8 Tryd.underlying46 hI hz0 hz1 hz2 rfl (by decide) _ _ _ rfl (HP0.out.alloc _) ⟨_, 0, none⟩ 1 1 [.int .i64 (i : Int)] rfl rfl (one_newB _ _ _ _ (by simp)) (one_cellI (by rfl)) (by unfold maxLen; omega) (by omega) (by have := HB.out.size; simp; omega) ?_; intro v3 w5 hP5 hgr _; have B5 := Lib.hid (Below.grown (HB0.out.alloc HB0.out.size _) hgr (by have := HB.out.size; simp; omega) (fun g hg => (HP0.out.lt g hg).1)); have HP5 := Lib.hid hP5; clear hP5 hgr) | fail)
                go_roundw
                case rel => exact ⟨i + 1, some v, [(i : Int)], by omega, by go_num, HSN.out, rfl, by have := HP5.out; simpa [intS.C] using this, B5.out⟩
                case measure => simp [intOf]; omega
              · subst hvl
                have HSN := Lib.hid (HSS.out.trans lkN_same)
                have hvl2 : decide ((v : Int) < (v : Int)) = false := by simp
                have hvv : ((v : Int) == (v : Int)) = true := by simp
                go_wp2_with (first | (at_builtin; refine wpList_append_own _ rfl (.tmp 59) (.tmp 61) 46 rfl w.heap.size 2 i0 (.int .i64 0) 1 8 Tryd.underlying46 hI hz0 hz1 hz2 rfl (by decide) _ _ _ rfl (HP.out.alloc _) ⟨_, 0, none⟩ 1 1 [.int .i64 (i : Int)] rfl rfl (one_newB _ _ _ _ (by simp)) (one_cellI (by rfl)) (by unfold maxLen; omega) (by omega) (by have := HB.out.size; simp; omega) ?_; intro v3 w5 hP5 hgr _; have B5 := Lib.hid (Below.grown (HB.out.alloc HB.out.size _) hgr (by have := HB.out.size; simp; omega) (fun g hg => (HP.out.lt g hg).1)); have HP5 := Lib.hid hP5; clear hP5 hgr) | fail)
                go_roundw
                case rel => exact ⟨i + 1, some v, P ++ [(i : Int)], by omega, by go_num, HSN.out, rfl, by rw [flat_snoc, List.length_append, ← Hq.out]; exact HP5.out, B5.out⟩
                case measure => simp [intOf]; omega
              · have HSN := Lib.hid (HSS.out.trans (lkN_more hvl))
                have hvl2 : decide ((v : Int) < (l : Int)) = false := by simp; omega
                have hvv : ((v : Int) == (l : Int)) = false := by rw [beq_eq_false_iff_ne]; omega
                go_wp2_with fail
                go_roundw
                case rel => exact ⟨i + 1, some l, P, by omega, by go_num, HSN.out, rfl, by rw [← Hq.out]; exact HP.out, HB.out⟩
                case measure => simp [intOf]; omega
          · have hne : ((dd : Int) != 0) = true := by rw [bne_iff_ne]; omega
            have hstep2 : lkS xs m (i + 1) = (L, P) := by rw [hstep, lkN_off hd0]
            have HSS := Lib.hid hstep2
            clear hx hat hB hxl hstep hdd hstep2 hd0
            go_wp2_with fail
            go_roundw
            case rel => exact ⟨i + 1, L, P, by omega, by go_num, HSS.out, rfl, by rw [← Hq.out]; exact HP.out, HB.out⟩
            case measure => simp [intOf]; omega
        · obtain rfl : i = n := by omega
          go_wp2_with fail
          go_ret2
          rw [← En.out, HST.out]
          exact ⟨_, rfl, by rw [← Hq.out]; exact HP.out, HB.out⟩
    · obtain ⟨rfl, rfl⟩ : [] = ys ∧ k0 = k := by simpa [h0] using hk'
      have hne : ((k0 : Int) != 0) = true := by rw [bne_iff_ne]; omega
      clear hb hr hk0 hf en hg hm hk' hlen h0
      go_enter Tryd.func48, Tryd.ntmps48
      go_wp2_with (first | (go_at_call 50; refine (HO.out _).mono ?_; rintro o w1 ⟨rfl, rfl⟩) | (go_at_call 55; refine HL.out.mono ?_; rintro o w1 ⟨rfl, rfl⟩) | fail)
      go_ret2
      exact ⟨_, rfl, own_noI _, (Below.refl _ _).alloc (Nat.le_refl _) _⟩
set_option maxRecDepth 100000 in
set_option maxHeartbeats 8000000 in
theorem LikelyLost_any (s : Int) (A : Option Addr) (n : Nat) (xs : List Nat) (en : n = xs.length) (hn : n ≤ 1048576) (hf : ∀ x ∈ xs, x < 65536) (m : Nat) (hm : m < 65536) (ys : List Int) (k : Nat) (hr : likR s xs m = (ys, k)) {w : World} {B : Nat} {e : Nat → Addr} (h : Errs w B e) (hB : B ≤ w.heap.size) (hg : Sl marS.C 1 w w.heap.size A xs) :
    Calls Tryd.prog 49 #[.int .i64 s, .slice A n n, .int .u16 m] w (OwnN w ys k) := by
  have H := Lib.hid h
  have hne := ne_noMark
  obtain ⟨k0, hk0⟩ : ∃ k0, codeM s [xs, [m]] = k0 := ⟨_, rfl⟩
  have hk' : (if k0 = 0 then ((lkS xs m xs.length).2, 0) else ([], k0)) = (ys, k) := by
    rw [← hr, likR, ← hk0, codeM_and]
    cases okB s m <;> simp
  have hor := codeM_or s [xs, [m]]
  rw [hk0] at hor
  have hb1 : Below w.heap.size w (w.alloc (.cells #[.int .u16 m] 26)) := (Below.refl _ _).alloc (Nat.le_refl _) _
  have hb2 : Below w.heap.size w ((w.alloc (.cells #[.int .u16 m] 26)).alloc (.cells #[.slice A n n, .slice (some ⟨w.heap.size, 0, Option.none⟩) 1 1] 23)) := hb1.alloc (by simp) _
  have HG := Lib.hid (MS.two (w := w.alloc (.cells #[.int .u16 m] 26)) (c := n) (c' := 1) ((hg.below hb1).more hb1.size) (new_marks w [m] 26) (by unfold maxLen; omega) (by simp [maxLen]) 23 n 1 (w.heap.size + 1) en rfl (by simp))
  have HB1 := Lib.hid hb2
  have HE := Lib.hid (H.out.below (HB1.out.mono hB))
  have HK0 := Lib.hid hk0
  have En := Lib.hid en
  have HF := Lib.hid hf
  have Hm := Lib.hid hm
  clear hb1 hb2 h hr hk0 hf en hm
  go_enter Tryd.func49, Tryd.ntmps49
  go_wp2_with fail
  refine (checkMarks_any s (some ⟨w.heap.size + 1, 0, Option.none⟩) 2 2 [⟨A, n, xs⟩, ⟨some ⟨w.heap.size, 0, Option.none⟩, 1, [m]⟩] rfl (by decide) HE.out (Nat.le_trans hB HB1.out.size) HG.out k0 (by simpa using HK0.out)).mono ?_
  rintro o w1 ⟨rfl, hb⟩
  have HB2 := Lib.hid (below_next HB1.out hb (Nat.le_refl _))
  have HE2 := Lib.hid (H.out.below (HB2.out.mono hB))
  clear hb
  rcases hor with rfl | rfl | rfl
  · rw [show errM e 0 = .nilIface from rfl]
    obtain ⟨rfl, rfl⟩ : (lkS xs m xs.length).2 = ys ∧ 0 = k := by simpa using hk'
    have hk1 := HK0.out
    rw [codeM_and] at hk1
    have hk2 : okB s m = true ∧ codeM s [xs] = 0 := by
      cases hb : okB s m with
      | true => rw [hb] at hk1; exact ⟨rfl, by simpa using hk1⟩
      | false => rw [hb] at hk1; simp at hk1
    obtain ⟨hin, hall, hlen⟩ := codeM_ok hk2.2
    obtain ⟨h1, h12⟩ := (inB_iff _ _ _).1 hin
    obtain ⟨S, rfl⟩ := Int.eq_ofNat_of_zero_le (show 0 ≤ s by omega)
    have HA := Lib.hid (fun x (hx : x ∈ xs) => ok_lt (hall x hx))
    have hn40 : n ≤ 40 := by rw [En.out]; exact hlen
    obtain ⟨i0, hI, hz0, hz1, hz2⟩ := info_parts intS.info
    clear hall hin hlen hk' hk1 hk2
    go_wp2_with fail
    go_loopw [9, 10, 11, 12, 13, 27] (fun v9 v10 _ _ _ v27 wr => ∃ (i : Nat) (L : Option Nat) (P : List Int) (f : Nat), i ≤ n ∧ v27 = .int .i64 i ∧ lkS xs m i = (L, P) ∧ L.getD S = f ∧ v10 = .int .i64 f ∧ wr.ownsRow w.heap.size 2 1 v9 P.length (P.flatMap intS.C) ∧ Below w.heap.size w wr) (fun _ _ _ _ _ v27 _ => n - (intOf v27).toNat)
    case atStart => exact ⟨0, none, [], S, by omega, rfl, rfl, rfl, rfl, World.ownsRow_nil _ _ _ _, HB2.out⟩
    case round =>
      obtain ⟨i, L, P, f, hi, rfl, hst, hLf, rfl, hP, hBr⟩ := hrel
      have hpl : P.length ≤ i := by have := lkS_len xs m i; rw [hst] at this; exact this
      have hpn : L = none → P = [] := fun hL => by have := lkS_none xs m i; rw [hst] at this; exact this hL
      obtain ⟨A', c', rfl, _⟩ := owns_slice hP
      obtain ⟨q, hq⟩ : ∃ q, q = P.length := ⟨_, rfl⟩
      rw [← hq] at hP hpl ⊢
      have Hq := Lib.hid hq
      have HST := Lib.hid hst
      have HP := Lib.hid hP
      have HB := Lib.hid hBr
      have HLF := Lib.hid hLf
      have HPN := Lib.hid hpn
      clear hst hP hq hLf hpn
      by_cases hlt : i < n
      · obtain ⟨x, hx⟩ : ∃ x, xs[i]? = some x := ⟨xs[i]'(by have := En.out; omega), List.getElem?_eq_getElem _⟩
        obtain ⟨a, rfl, hab, hat⟩ := (hg.below hBr).at_ i x hx
        have q0 := marS.at_ hat
        have hxl := HF.out x (List.mem_of_getElem? hx)
        have hstep : lkS xs m (i + 1) = lkN (dif m x) (cnt (dif x m)) (i : Int) (L, P) := by rw [lkS, at_get hx, HST.out]
        have HC1 := Lib.hid (fun u => lacks_any m x Hm.out hxl u)
        have HC2 := Lib.hid (fun u => lacks_any x m hxl Hm.out u)
        have hvs : cnt (dif x m) ≤ S := cnt_bound (by omega) (Nat.lt_of_le_of_lt (by
          show x ^^^ (x &&& m) ≤ x
          refine Nat.le_of_testBit fun j hj => ?_
          have h1 := dif_bit x m j
          unfold dif at h1
          rw [hj] at h1
          cases hxj : x.testBit j with
          | true => rfl
          | false => rw [hxj] at h1; simp at h1) (HA.out x (List.mem_of_getElem? hx)))
        have hz := cnt_zero (dif_lt Hm.out x)
        have hd16 := cnt_le (dif m x)
        obtain ⟨v, hv⟩ : ∃ v, cnt (dif x m) = v := ⟨_, rfl⟩
        obtain ⟨dc, hdc⟩ : ∃ dc, cnt (dif m x) = dc := ⟨_, rfl⟩
        obtain ⟨dd, hdd⟩ : ∃ dd, dif m x = dd := ⟨_, rfl⟩
        rw [hv] at HC1 hstep hvs
        rw [hdc] at HC2 hz hd16
        rw [hdd] at hz hstep
        have HSS := Lib.hid hstep
        have HZ := Lib.hid hz
        clear hx hat hBr hxl hstep hdd hv hdc hz
        go_wp2_with fail
        refine (HC1.out _).mono ?_
        rintro o w4 ⟨rfl, n1, rfl⟩
        go_wp2_with fail
        refine (HC2.out _).mono ?_
        rintro o w4 ⟨rfl, n2, rfl⟩
        obtain ⟨wz, hwz⟩ : ∃ wz, wz = (wr.drewN n1).drewN n2 := ⟨_, rfl⟩
        have hbz : Below wr.heap.size wr wz := by rw [hwz]; exact (below_drewN _ _ _).trans (below_drewN _ _ _)
        rw [← hwz]
        have HP2 := Lib.hid (owns_next HP.out hbz)
        have HB3 := Lib.hid (below_next HB.out hbz (Nat.le_refl _))
        clear hwz hbz
        by_cases hd0 : dd = 0
        · have hdc0 : dc = 0 := HZ.out.2 hd0
          have hss := HSS.out
          rw [hd0] at hss
          rw [hdc0]
          clear HC1 HC2 HZ hd16 hdc0 hd0 HSS
          rcases Nat.lt_trichotomy v f with hvf | hvf | hvf
          · have hnew : lkN 0 v (i : Int) (L, P) = (some v, [(i : Int)]) := by
              have hL := HLF.out
              cases L with
              | none => exact lkN_new
              | some l => exact lkN_less (by simpa using (show v < (some l).getD S by rw [hL]; exact hvf))
            have HSN := Lib.hid (hss.trans hnew)
            have hP0 := World.ownsRow_nil wz w.heap.size 2 1
            have HP0 := Lib.hid hP0
            clear hss hnew hP0
            go_wp2_with (first | (at_builtin; refine wpList_append_own _ rfl (.tmp 48) (.tmp 50) 46 rfl w.heap.size 2 i0 (.int .i64 0) 1 8 Tryd.underlying46 hI hz0 hz1 hz2 rfl (by decide) _ _ _ rfl (HP0.out.alloc _) ⟨_, 0, none⟩ 1 1 [.int .i64 (i : Int)] rfl rfl (one_newB _ _ _ _ (by simp)) (one_cellI (by rfl)) (by unfold maxLen; omega) (by omega) (by have := HB3.out.size; simp; omega) ?_; intro v3 w5 hP5 hgr _; have B5 := Lib.hid (Below.grown (HB3.out.alloc HB3.out.size _) hgr (by have := HB3.out.size; simp; omega) (fun g hg => (HP0.out.lt g hg).1)); have HP5 := Lib.hid hP5; clear hP5 hgr) | fail)
            go_roundw
            case rel => exact ⟨i + 1, some v, [(i : Int)], v, by omega, by go_num, HSN.out, rfl, rfl, by have := HP5.out; simpa [intS.C] using this, B5.out⟩
            case measure => simp [intOf]; omega
          · subst hvf
            have hnew : lkN 0 v (i : Int) (L, P) = (some v, P ++ [(i : Int)]) := by
              have hL := HLF.out
              cases L with
              | none => rw [HPN.out rfl]; exact lkN_new
              | some l =>
                obtain rfl : l = v := by simpa using hL
                exact lkN_same
            have HSN := Lib.hid (hss.trans hnew)
            clear hss hnew
            go_wp2_with (first | (at_builtin; refine wpList_append_own _ rfl (.tmp 48) (.tmp 50) 46 rfl w.heap.size 2 i0 (.int .i64 0) 1 8 Tryd.underlying46 hI hz0 hz1 hz2 rfl (by decide) _ _ _ rfl (HP2.out.alloc _) ⟨_, 0, none⟩ 1 1 [.int .i64 (i : Int)] rfl rfl (one_newB _ _ _ _ (by simp)) (one_cellI (by rfl)) (by unfold maxLen; omega) (by omega) (by have := HB3.out.size; simp; omega) ?_; intro v3 w5 hP5 hgr _; have B5 := Lib.hid (Below.grown (HB3.out.alloc HB3.out.size _) hgr (by have := HB3.out.size; simp; omega) (fun g hg => (HP2.out.lt g hg).1)); have HP5 := Lib.hid hP5; clear hP5 hgr) | fail)
            go_roundw
            case rel => exact ⟨i + 1, some v, P ++ [(i : Int)], v, by omega, by go_num, HSN.out, rfl, rfl, by rw [flat_snoc, List.length_append, ← Hq.out]; exact HP5.out, B5.out⟩
            case measure => simp [intOf]; omega
          · have hnew : lkN 0 v (i : Int) (L, P) = (L, P) := by
              have hL := HLF.out
              cases L with
              | none =>
                have : S = f := by simpa using hL
                omega
              | some l => exact lkN_more (by have : l = f := by simpa using hL
                                             omega)
            have HSN := Lib.hid (hss.trans hnew)
            have hvf2 : decide ((f : Int) < (v : Int)) = true := by simpa using hvf
            clear hss hnew
            go_wp2_with fail
            go_roundw
            case rel => exact ⟨i + 1, L, P, f, by omega, by go_num, HSN.out, HLF.out, rfl, by rw [← Hq.out]; exact HP2.out, HB3.out⟩
            case measure => simp [intOf]; omega
        · have hdc0 : dc ≠ 0 := fun hc => hd0 (HZ.out.1 hc)
          have hpos : decide ((0 : Int) < (dc : Int)) = true := by simp; omega
          have HSN := Lib.hid (HSS.out.trans (lkN_off hd0))
          clear HC1 HC2 HZ hd0 HSS
          go_wp2_with fail
          go_roundw
          case rel => exact ⟨i + 1, L, P, f, by omega, by go_num, HSN.out, HLF.out, rfl, by rw [← Hq.out]; exact HP2.out, HB3.out⟩
          case measure => simp [intOf]; omega
      · obtain rfl : i = n := by omega
        go_wp2_with fail
        go_ret2
        rw [← En.out, HST.out]
        exact ⟨_, rfl, by rw [← Hq.out]; exact HP.out, HB.out⟩
  · rw [show errM e 1 = noMarkV from rfl]
    obtain ⟨rfl, rfl⟩ : [] = ys ∧ 1 = k := by simpa using hk'
    clear hk'
    go_wp2_with (first | (go_at_call 53; refine (codeOf_noMark HE2.out (Nat.le_trans hB HB2.out.size)).mono ?_; rintro o w4 ⟨rfl, hb4⟩) | fail)
    go_ret2
    exact ⟨_, rfl, World.ownsRow_nil _ _ _ _, below_next HB2.out hb4 (Nat.le_refl _)⟩
  · rw [show errM e 3 = errV (e 2) from rfl]
    obtain ⟨rfl, rfl⟩ : [] = ys ∧ 3 = k := by simpa using hk'
    clear hk'
    go_wp2_with fail
    refine (codeOf_any HE2.out 3 (by omega)).mono ?_
    rintro o w4 ⟨rfl, rfl⟩
    go_wp2_with fail
    go_ret2
    exact ⟨_, rfl, World.ownsRow_nil _ _ _ _, HB2.out⟩
end Go.Proofs.YtlembainfhnnbaaDoor.mks
