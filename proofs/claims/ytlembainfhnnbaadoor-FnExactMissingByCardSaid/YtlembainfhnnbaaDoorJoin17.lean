/-
  Several texts of this proof, joined.
-/
import Derived.Test.YtlembainfhnnbaaDoorMkMust
import Derived.Test.YtlembainfhnnbaaDoorJoin14
import Derived.Test.YtlembainfhnnbaaDoorJoin13
import Derived.Test.YtlembainfhnnbaaDoorMkSeen
import Derived.Test.YtlembainfhnnbaaDoorJoin8
/-
  Some lists of marks are looked at: the program's check.
-/
namespace Go.Proofs.YtlembainfhnnbaaDoor
open Go.RowKit sl
/-- a list of marks: where it lies, its capacity, its marks -/
structure Mw where
  A : Option Addr
  c : Nat
  xs : List Nat
abbrev Mw.v (r : Mw) : Value := .slice r.A r.xs.length r.c
abbrev Mw.C (r : Mw) : List Value := [r.v]
theorem Mw.len (rs : List Mw) : ∀ r ∈ rs, (Mw.C r).length = 1 := fun _ _ => rfl
end Go.Proofs.YtlembainfhnnbaaDoor
namespace Go.Proofs.YtlembainfhnnbaaDoor.mks
open Go Go.RowKit sl stk errs

/-- lists of marks in memory, all below block B -/
structure MS (w : World) (B : Nat) (A : Option Addr) (rs : List Mw) : Prop where
  heads : Sl Mw.C 1 w B A rs
  each : ∀ r ∈ rs, Sl marS.C 1 w B r.A r.xs
  short : ∀ r ∈ rs, r.xs.length ≤ maxLen
theorem MS.below {w w' : World} {B : Nat} {A : Option Addr} {rs : List Mw} (h : MS w B A rs) (hb : Below B w w') : MS w' B A rs := ⟨h.heads.below hb, fun r hr => (h.each r hr).below hb, h.short⟩
theorem MS.more {w : World} {B B' : Nat} {A : Option Addr} {rs : List Mw} (h : MS w B A rs) (hB : B ≤ B') : MS w B' A rs := ⟨h.heads.more hB, fun r hr => (h.each r hr).more hB, h.short⟩
theorem MS.head {w : World} {B : Nat} {A : Option Addr} {rs : List Mw} (h : MS w B A rs) {k : Nat} {r : Mw} (hr : rs[k]? = some r) : ∃ a, A = some a ∧ a.block < B ∧ w.cell? (a.add k) = some (.slice r.A r.xs.length r.c) := by
  obtain ⟨a, e, hb, hat⟩ := h.heads.at_ k r hr
  refine ⟨a, e, hb, ?_⟩
  have := hat 0 _ rfl
  rwa [Nat.mul_one] at this

/-- the code of marks -/
def codeM (s : Int) (ls : List (List Nat)) : Nat := if (inB s 1 12 && ls.all (fun xs => xs.all (okB s))) = true then (if ls.any (fun xs => decide (40 < xs.length)) = true then 3 else 0) else 1
/-- the error of a check of marks -/
def errM (e : Nat → Addr) (k : Nat) : Value := if k = 1 then noMarkV else errOf e k

theorem ok_zero (s : Int) : okB s 0 = inB s 1 12 := by
  unfold okB
  rw [show decide (0 < 2 ^ s.toNat) = true by simpa using Nat.two_pow_pos _]
  simp
theorem codeM_bad {s : Int} {ls : List (List Nat)} (h : inB s 1 12 = false) : codeM s ls = 1 := by simp [codeM, h]
theorem codeM_no {s : Int} {ls : List (List Nat)} {xs : List Nat} {m : Nat} (h : xs ∈ ls) (hm : m ∈ xs) (hb : okB s m = false) : codeM s ls = 1 := by
  unfold codeM
  rw [if_neg]
  simp only [Bool.and_eq_true, List.all_eq_true, not_and]
  intro _ h2
  have := h2 xs h m hm
  rw [hb] at this
  cases this
theorem codeM_many {s : Int} {ls : List (List Nat)} (h : inB s 1 12 = true) (ha : ∀ xs ∈ ls, ∀ m ∈ xs, okB s m = true) {xs : List Nat} (hx : xs ∈ ls) (hn : 40 < xs.length) : codeM s ls = 3 := by
  unfold codeM
  rw [if_pos, if_pos]
  · simp only [List.any_eq_true, decide_eq_true_eq]
    exact ⟨xs, hx, hn⟩
  · simp only [Bool.and_eq_true, List.all_eq_true]
    exact ⟨h, ha⟩
theorem codeM_fine {s : Int} {ls : List (List Nat)} (h : inB s 1 12 = true) (ha : ∀ xs ∈ ls, ∀ m ∈ xs, okB s m = true) (hn : ∀ xs ∈ ls, xs.length ≤ 40) : codeM s ls = 0 := by
  unfold codeM
  rw [if_pos, if_neg]
  · simp only [List.any_eq_true, decide_eq_true_eq, not_exists, not_and]
    intro xs hx
    have := hn xs hx
    omega
  · simp only [Bool.and_eq_true, List.all_eq_true]
    exact ⟨h, ha⟩

theorem must0_yes (s : Int) (h : inB s 1 12 = true) (w : World) :
    Calls Tryd.prog 81 #[.int .u16 0, .int .i64 s] w fun e w' => e = .returned (.tuple #[]) ∧ w = w' := mustBe_yes s 0 (by rw [ok_zero]; exact h) w
theorem must0_no (s : Int) (h : inB s 1 12 = false) (w : World) :
    Calls Tryd.prog 81 #[.int .u16 0, .int .i64 s] w fun e w' => e = .panicked [{ v := noMarkV, recovered := false }] ∧ w = w' := mustBe_no s 0 (by rw [ok_zero]; exact h) w

set_option maxRecDepth 100000 in
set_option maxHeartbeats 8000000 in
theorem checkMarks_any (s : Int) (A : Option Addr) (n c : Nat) (rs : List Mw) (en : n = rs.length) (hn : n ≤ 9223372036854775807) {w : World} {B : Nat} {e : Nat → Addr} (h : Errs w B e) (hB : B ≤ w.heap.size) (hg : MS w w.heap.size A rs) (k : Nat) (hk : codeM s (rs.map Mw.xs) = k) :
    Calls Tryd.prog 57 #[.int .i64 s, .slice A n c] w fun o w' => o = .returned (errM e k) ∧ Below w.heap.size w w' := by
  have hmf : ∀ (fn : Fn) (first cap : Array Value) (w : World), (Instr.makeFunc fn first cap).run Tryd.prog w = .ok (.func fn first cap) w := fun _ _ _ _ => rfl
  have HK := Lib.hid hk
  have En := Lib.hid en
  have HE := Lib.hid (h.below (show Below B w (w.alloc (.cells #[.nilIface] 65)) from (Below.refl _ _).alloc hB _))
  have hB1 : Below w.heap.size w (w.alloc (.cells #[.nilIface] 65)) := (Below.refl _ _).alloc (Nat.le_refl _) _
  have HG := Lib.hid (hg.below hB1)
  have HB1 := Lib.hid hB1
  clear hk en h hg hB1
  cases hs : inB s 1 12 with
  | false =>
    have HK1 := Lib.hid (codeM_bad (ls := rs.map Mw.xs) hs)
    have HM := Lib.hid (must0_no s hs)
    clear hs
    go_enter_defers Tryd.func57, Tryd.ntmps57
    go_wp2_with (first | (go_at_call 81; refine (HM.out _).mono ?_; rintro o w1 ⟨rfl, rfl⟩) | fail)
    refine leaves_cons (f := 80) (args := #[.pointer (some ⟨w.heap.size, 0, none⟩)]) (by simp) (by simp [go_sem]) ?_
    refine (catch_panicking ⟨w.heap.size, 0, none⟩ .nilIface _ (by simp [go_sem]) (by simp [go_sem])).mono ?_
    rintro o u' w'' ⟨rfl, rfl, rfl⟩
    have e1 : k = 1 := HK.out.symm.trans HK1.out
    subst e1
    simp [Leaves, settle, results, Tryd.results57, go_sem]
    exact ⟨rfl, (Below.refl _ _).alloc (Nat.le_refl _) _⟩
  | true =>
    have HS := Lib.hid hs
    have HM := Lib.hid (must0_yes s hs)
    clear hs
    go_enter_defers Tryd.func57, Tryd.ntmps57
    go_wp2_with (first | (go_at_call 81; refine (HM.out _).mono ?_; rintro o w1 ⟨rfl, rfl⟩) | fail)
    clear HM
    go_loop [6, 8, 16, 20, 21, 22] (fun _ _ vi _ _ _ => ∃ i : Nat, i ≤ n ∧ vi = .int .i64 i ∧ ∀ r ∈ rs.take i, ∀ m ∈ r.xs, okB s m = true) (fun _ _ vi _ _ _ => n - (intOf vi).toNat)
    case atStart => exact ⟨0, by omega, rfl, fun r hr => by simp at hr⟩
    case round =>
      obtain ⟨i, hi, rfl, hok⟩ := hrel
      have HOK := Lib.hid hok
      clear hok
      by_cases hlt : i < n
      · obtain ⟨r, hr⟩ : ∃ r, rs[i]? = some r := ⟨rs[i]'(by have := En.out; omega), List.getElem?_eq_getElem _⟩
        obtain ⟨a, rfl, hab, hcell⟩ := HG.out.head hr
        have hrm := List.mem_of_getElem? hr
        have hsh := HG.out.short r hrm
        have HE2 := Lib.hid (HG.out.each r hrm)
        have HT := Lib.hid (take_snoc hr)
        obtain ⟨rA, rc, xs⟩ := r
        have HR := Lib.hid hrm
        simp only [] at hsh hcell HE2
        unfold maxLen at hsh
        obtain ⟨l, hl⟩ : ∃ l, l = xs.length := ⟨_, rfl⟩
        rw [← hl] at hsh hcell
        have HL := Lib.hid hl
        clear hr hrm hl
        go_wp2_with fail
        go_loop [8, 22] (fun _ vj => ∃ j : Nat, j ≤ l ∧ vj = .int .i64 j ∧ ∀ m ∈ xs.take j, okB s m = true) (fun _ vj => l - (intOf vj).toNat)
        case atStart => exact ⟨0, by omega, rfl, fun m hm => by simp at hm⟩
        case round =>
          obtain ⟨j, hj, rfl, hok⟩ := hrel
          have HOJ := Lib.hid hok
          clear hok
          by_cases hlj : j < l
          · obtain ⟨x, hx⟩ : ∃ x, xs[j]? = some x := ⟨xs[j]'(by have := HL.out; omega), List.getElem?_eq_getElem _⟩
            obtain ⟨b, rfl, hbb, hat⟩ := HE2.out.at_ j x hx
            have q0 := marS.at_ hat
            have HX := Lib.hid hx
            clear hx hat
            cases hb : okB s x with
            | true =>
              have HM := Lib.hid (mustBe_yes s x hb)
              have HB := Lib.hid hb
              clear hb
              go_wp2_with (first | (go_at_call 81; refine (HM.out _).mono ?_; rintro o w1 ⟨rfl, rfl⟩) | fail)
              go_round
              case rel => exact ⟨j + 1, by omega, by go_num, fun m hm => by
                rw [take_snoc HX.out] at hm
                rcases List.mem_append.1 hm with h1 | h1
                · exact HOJ.out m h1
                · rw [List.mem_singleton.1 h1]; exact HB.out⟩
              case measure => simp [intOf]; omega
            | false =>
              have HM := Lib.hid (mustBe_no s x hb)
              have HB := Lib.hid hb
              clear hb
              go_wp2_with (first | (go_at_call 81; refine (HM.out _).mono ?_; rintro o w1 ⟨rfl, rfl⟩) | fail)
              refine leaves_cons (f := 80) (args := #[.pointer (some ⟨w.heap.size, 0, none⟩)]) (by simp) (by simp [go_sem]) ?_
              refine (catch_panicking ⟨w.heap.size, 0, none⟩ .nilIface _ (by simp [go_sem]) (by simp [go_sem])).mono ?_
              rintro o u' w'' ⟨rfl, rfl, rfl⟩
              have e1 : k = 1 := HK.out.symm.trans (codeM_no (List.mem_map.2 ⟨_, HR.out, rfl⟩) (List.mem_of_getElem? HX.out) HB.out)
              subst e1
              simp [Leaves, settle, results, Tryd.results57, go_sem]
              exact ⟨rfl, (Below.refl _ _).alloc (Nat.le_refl _) _⟩
          · obtain rfl : j = l := by omega
            go_wp2_with fail
            go_round
            case rel => exact ⟨i + 1, by omega, by go_num, fun r hr m hm => by
              rw [HT.out] at hr
              rcases List.mem_append.1 hr with h1 | h1
              · exact HOK.out r h1 m hm
              · rw [List.mem_singleton.1 h1] at hm
                refine HOJ.out m ?_
                rw [List.take_of_length_le (by have := HL.out; omega)]
                exact hm⟩
            case measure => simp [intOf]; omega
      · obtain rfl : i = n := by omega
        have hall : ∀ xs ∈ rs.map Mw.xs, ∀ m ∈ xs, okB s m = true := fun xs hx m hm => by
          obtain ⟨r, hr, rfl⟩ := List.mem_map.1 hx
          refine HOK.out r ?_ m hm
          rw [List.take_of_length_le (by have := En.out; omega)]
          exact hr
        have HALL := Lib.hid hall
        clear hall HOK
        obtain ⟨c0, c1, c2, c3, c4, c5, c6, _⟩ := HE.out
        go_wp2_with fail
        go_loop [10, 33, 37, 38, 39] (fun _ vi _ _ _ => ∃ j : Nat, j ≤ i ∧ vi = .int .i64 j ∧ ∀ r ∈ rs.take j, r.xs.length ≤ 40) (fun _ vi _ _ _ => i - (intOf vi).toNat)
        case atStart => exact ⟨0, by omega, rfl, fun r hr => by simp at hr⟩
        case round =>
          obtain ⟨j, hj, rfl, hok⟩ := hrel
          have HOJ := Lib.hid hok
          clear hok
          by_cases hlt : j < i
          · obtain ⟨r, hr⟩ : ∃ r, rs[j]? = some r := ⟨rs[j]'(by have := En.out; omega), List.getElem?_eq_getElem _⟩
            obtain ⟨a, rfl, hab, hcell⟩ := HG.out.head hr
            have hrm := List.mem_of_getElem? hr
            have hsh := HG.out.short r hrm
            have HT := Lib.hid (take_snoc hr)
            obtain ⟨rA, rc, xs⟩ := r
            have HR := Lib.hid hrm
            simp only [] at hsh hcell
            unfold maxLen at hsh
            obtain ⟨l, hl⟩ : ∃ l, l = xs.length := ⟨_, rfl⟩
            rw [← hl] at hsh hcell
            have HL := Lib.hid hl
            clear hr hrm hl
            by_cases h40 : 40 < l
            · go_wp2_with fail
              refine leaves_cons (f := 80) (args := #[.pointer (some ⟨w.heap.size, 0, none⟩)]) (by simp) (by simp [go_sem]) ?_
              refine (catch_idle ⟨w.heap.size, 0, none⟩ _).mono ?_
              rintro o u' w'' ⟨rfl, rfl, rfl⟩
              have e1 : k = 3 := HK.out.symm.trans (codeM_many HS.out HALL.out (List.mem_map.2 ⟨_, HR.out, rfl⟩) (by rw [← HL.out]; exact h40))
              subst e1
              simp [Leaves, settle, results, Tryd.results57, go_sem]
              exact ⟨rfl, (Below.refl _ _).alloc (Nat.le_refl _) _⟩
            · go_wp2_with fail
              go_round
              case rel => exact ⟨j + 1, by omega, by go_num, fun r hr => by
                rw [HT.out] at hr
                rcases List.mem_append.1 hr with h1 | h1
                · exact HOJ.out r h1
                · rw [List.mem_singleton.1 h1]
                  show xs.length ≤ 40
                  have := HL.out
                  omega⟩
              case measure => simp [intOf]; omega
          · obtain rfl : j = i := by omega
            go_wp2_with fail
            refine leaves_cons (f := 80) (args := #[.pointer (some ⟨w.heap.size, 0, none⟩)]) (by simp) (by simp [go_sem]) ?_
            refine (catch_idle ⟨w.heap.size, 0, none⟩ _).mono ?_
            rintro o u' w'' ⟨rfl, rfl, rfl⟩
            have e1 : k = 0 := HK.out.symm.trans (codeM_fine HS.out HALL.out fun xs hx => by
              obtain ⟨r, hr, rfl⟩ := List.mem_map.1 hx
              refine HOJ.out r ?_
              rw [List.take_of_length_le (by have := En.out; omega)]
              exact hr)
            subst e1
            simp [Leaves, settle, results, Tryd.results57, go_sem]
            exact ⟨rfl, (Below.refl _ _).alloc (Nat.le_refl _) _⟩
end Go.Proofs.YtlembainfhnnbaaDoor.mks

/-
  The program's errors of types of their own: what 'errors.Is' says of them, and which code each one has.
-/
namespace Go.Proofs.YtlembainfhnnbaaDoor.mks
open Go Go.RowKit sl stk errs Go.Extern.Stop Go.Stop Go.Extern

abbrev apartV (i k : Int) : Value := .iface 73 (.agg #[.int .i64 i, .int .i64 k])

theorem noIsM (v : Value) (xT : TypeId) (w : World) : (Instr.typeAssert (.iface 119 v) xT 132 true).run Tryd.prog w = .ok (.tuple #[.nilIface, .bool false]) w := run_typeAssert_lacksB Tryd.underlying132 (by kernel_rfl) (by kernel_rfl) v xT w
theorem unwrapsM (v : Value) (xT : TypeId) (w : World) : (Instr.typeAssert (.iface 119 v) xT 128 true).run Tryd.prog w = .ok (.tuple #[.iface 119 v, .bool true]) w := run_typeAssert_hasB Tryd.underlying128 (by kernel_rfl) v xT w
theorem methM (v : Value) (w : World) : (Go.method 269 119 v "Unwrap").run Tryd.prog w = .ok (120, v) w := by kernel_rfl
set_option maxHeartbeats 1000000 in
theorem UnwrapM_any (a : Addr) (w : World) (hc : w.cell? ⟨0, 0, none⟩ = some (errV a)) (hz : 0 < w.heap.size) :
    Calls Tryd.prog 120 #[.agg #[]] w fun e w' => e = .returned (errV a) ∧ Below w.heap.size w w' := by
  have hb : Below w.heap.size w (w.alloc (.cells #[] 119)) := (Below.refl _ _).alloc (Nat.le_refl _) _
  have hc' := (hb.cell (p := ⟨0, 0, none⟩) hz).trans hc
  have HB := Lib.hid hb
  clear hb hc
  go_enter Tryd.func120, Tryd.ntmps120
  go_wp2_with fail
  go_ret
  exact ⟨rfl, HB.out⟩

set_option maxHeartbeats 4000000 in
set_option maxRecDepth 100000 in
/-- it wraps an error: is this the other one -/
theorem IsM_same (a : Addr) (w : World) (hc : w.cell? ⟨0, 0, none⟩ = some (errV a)) (hz : 0 < w.heap.size) :
    Calls Tryd.prog 79 #[noMarkV, errV a] w fun e w' => e = .returned (.bool true) ∧ Below w.heap.size w w' := by
  obtain ⟨x, hx, hcmp⟩ := Option.map_eq_some_iff.1 comp_err
  obtain ⟨y, hy, hys⟩ := Option.map_eq_some_iff.1 size_err
  have hto := @run_callFunc_extern Tryd.prog 90 _ Extern.ReflectliteType.typeOf Tryd.func90 (by kernel_rfl) (by kernel_rfl) (by kernel_rfl) (by kernel_rfl)
  have hco := @run_callFunc_extern Tryd.prog 123 _ comparableM Tryd.func123 (by kernel_rfl) (by kernel_rfl) (by kernel_rfl) (by kernel_rfl)
  have tT := typeOf_err
  have cT := comparable_err
  have mR := method_comparable
  have nI := noIsM
  have nU := unwrapsM
  have nM := methM
  have HU := Lib.hid (UnwrapM_any a w hc hz)
  have hdt := fun w => run_eql_iface_types (P := Tryd.prog) 119 136 (.agg #[]) (.pointer (some a)) Tryd.underlying65 (by decide) w
  clear hc hz
  go_enter Tryd.func79, Tryd.ntmps79
  go_wp2_with (first | (go_at_call 91; go_in) | fail)
  refine wp_loop_rounds 2 ?_
  rw [rounds_succ]
  go_wp2_with (first | (go_at_call 120; refine HU.out.mono ?_; rintro o w1 ⟨rfl, hb1⟩; have HB1 := Lib.hid hb1; clear hb1) | fail)
  have heq := run_eql_iface_ptr_same (P := Tryd.prog) w1 a Tryd.underlying65 Tryd.underlying136 hx hcmp hy
  rw [rounds_succ]
  go_wp2
  go_ret
  exact ⟨rfl, HB1.out⟩

set_option maxHeartbeats 4000000 in
set_option maxRecDepth 100000 in
/-- it wraps an error: is this the other one -/
theorem IsM_other (a b : Addr) (w : World) (hc : w.cell? ⟨0, 0, none⟩ = some (errV a)) (hz : 0 < w.heap.size) (hne : a ≠ b) (ha : ∃ ca ta, w.heap[a.block]? = some (.cells ca ta (0, 0))) (hb : ∃ cb tb, w.heap[b.block]? = some (.cells cb tb (0, 0))) :
    Calls Tryd.prog 79 #[noMarkV, errV b] w fun e w' => e = .returned (.bool false) ∧ Below w.heap.size w w' := by
  obtain ⟨x, hx, hcmp⟩ := Option.map_eq_some_iff.1 comp_err
  obtain ⟨y, hy, hys⟩ := Option.map_eq_some_iff.1 size_err
  have hto := @run_callFunc_extern Tryd.prog 90 _ Extern.ReflectliteType.typeOf Tryd.func90 (by kernel_rfl) (by kernel_rfl) (by kernel_rfl) (by kernel_rfl)
  have hco := @run_callFunc_extern Tryd.prog 123 _ comparableM Tryd.func123 (by kernel_rfl) (by kernel_rfl) (by kernel_rfl) (by kernel_rfl)
  have tT := typeOf_err
  have cT := comparable_err
  have mR := method_comparable
  have nI := noIsM
  have nU := unwrapsM
  have nM := methM
  have HU := Lib.hid (UnwrapM_any a w hc hz)
  have hdt := fun w => run_eql_iface_types (P := Tryd.prog) 119 136 (.agg #[]) (.pointer (some b)) Tryd.underlying65 (by decide) w
  have la : a.block < w.heap.size := by
    obtain ⟨ca, ta, h⟩ := ha
    exact (Array.getElem?_eq_some_iff.1 h).1
  have lb : b.block < w.heap.size := by
    obtain ⟨cb, tb, h⟩ := hb
    exact (Array.getElem?_eq_some_iff.1 h).1
  obtain ⟨ca, ta, ha⟩ := ha
  obtain ⟨cb, tb, hb⟩ := hb
  have HA := Lib.hid ha
  have HB := Lib.hid hb
  have LA := Lib.hid la
  have LB := Lib.hid lb
  have NE := Lib.hid hne
  have nI2 := no_is
  have nU2 := no_unwrap
  have nV2 := no_unwraps
  clear hc hz ha hb la lb hne
  go_enter Tryd.func79, Tryd.ntmps79
  go_wp2_with (first | (go_at_call 91; go_in) | fail)
  refine wp_loop_rounds 2 ?_
  rw [rounds_succ]
  go_wp2_with (first | (go_at_call 120; refine HU.out.mono ?_; rintro o w1 ⟨rfl, hb1⟩; have HB1 := Lib.hid hb1; clear hb1) | fail)
  have heq := run_eql_iface_ptr_other (P := Tryd.prog) w1 Tryd.underlying65 Tryd.underlying136 hx hcmp hy (by rw [hys]; decide) NE.out ((HB1.out.block _ LA.out).trans HA.out) ((HB1.out.block _ LB.out).trans HB.out)
  rw [rounds_succ]
  go_wp2
  go_ret
  exact ⟨rfl, HB1.out⟩

/-- which code the error of a check of marks has -/
theorem errs_lt {w : World} {B : Nat} {e : Nat → Addr} (h : Errs w B e) (hB : B ≤ w.heap.size) : 0 < w.heap.size ∧ 3 < w.heap.size := by
  obtain ⟨c0, c1, c2, c3, c4, c5, c6, hs, _⟩ := h
  omega
set_option maxHeartbeats 2000000 in
set_option maxRecDepth 100000 in
theorem codeOf_noMark {w : World} {B : Nat} {e : Nat → Addr} (h : Errs w B e) (hB : B ≤ w.heap.size) :
    Calls Tryd.prog 53 #[noMarkV] w fun o w' => o = .returned (.int .i64 1) ∧ Below w.heap.size w w' := by
  have HI := Lib.hid (IsM_same (e 0) w h.c0 (errs_lt h hB).1)
  have c0 := h.c0
  have hn : ∀ w : World, (binOp BinOp.eql 65 noMarkV .nilIface).run Tryd.prog w = .ok (.bool false) w := fun _ => by kernel_rfl
  clear h
  go_enter Tryd.func53, Tryd.ntmps53
  go_wp2_with fail
  refine HI.out.mono ?_
  rintro o w' ⟨rfl, hb⟩
  go_wp2_with fail
  go_ret
  exact ⟨rfl, hb⟩
theorem codeOf_m {w : World} {B : Nat} {e : Nat → Addr} (h : Errs w B e) (hB : B ≤ w.heap.size) (k : Nat) (hk : k ≤ 7) :
    Calls Tryd.prog 53 #[errM e k] w fun o w' => o = .returned (.int .i64 k) ∧ Below w.heap.size w w' := by
  unfold errM
  by_cases h1 : k = 1
  · subst h1
    rw [if_pos rfl]
    exact codeOf_noMark h hB
  · rw [if_neg h1]
    refine (codeOf_any h k hk).mono ?_
    rintro o w1 ⟨rfl, rfl⟩
    exact ⟨rfl, Below.refl _ _⟩
end Go.Proofs.YtlembainfhnnbaaDoor.mks

/-
  The program's checks of marks, at their calls.
-/
namespace Go.Proofs.YtlembainfhnnbaaDoor.mks
open Go Go.RowKit sl stk errs fold

/-- one list in a new block -/
theorem MS.one {w : World} {A : Option Addr} {c : Nat} {xs : List Nat} (h : Sl marS.C 1 w w.heap.size A xs) (hl : xs.length ≤ maxLen) (T : TypeId) (n b : Nat) (hn : n = xs.length) (hbk : b = w.heap.size) :
    MS (w.alloc (.cells #[.slice A n c] T)) (w.alloc (.cells #[.slice A n c] T)).heap.size (some ⟨b, 0, none⟩) [⟨A, c, xs⟩] := by
  subst hn hbk
  have hb : Below w.heap.size w (w.alloc (.cells #[.slice A xs.length c] T)) := (Below.refl _ _).alloc (Nat.le_refl _) _
  refine ⟨⟨fun k x hx => ?_⟩, fun r hr => ?_, fun r hr => ?_⟩
  · have hk : k = 0 := by have := (List.getElem?_eq_some_iff.1 hx).1; simp at this; exact this
    subst hk
    simp only [List.getElem?_cons_zero, Option.some.injEq] at hx
    subst hx
    refine ⟨_, rfl, by simp, fun j v hj => ?_⟩
    have h1 := one_newI w (.slice A xs.length c) T j v hj
    rw [add_lit] at h1
    rw [Nat.zero_mul, add_lit, add_at, Nat.zero_add]
    exact h1
  · rw [List.mem_singleton.1 hr]
    exact (h.below hb).more hb.size
  · rw [List.mem_singleton.1 hr]
    exact hl
theorem two_newI (w : World) (u v : Value) (T : TypeId) : ∀ (j : Nat) x, [u, v][j]? = some x → (w.alloc (.cells #[u, v] T)).cell? ((⟨w.heap.size, 0, none⟩ : Addr).add j) = some x := by
  intro j x hj
  rw [add_lit, cell_of_row _ _ _ _ _ _ (heap_alloc_new w _)]
  simpa using hj
/-- two lists in a new block -/
theorem MS.two {w : World} {A A' : Option Addr} {c c' : Nat} {xs ys : List Nat} (h : Sl marS.C 1 w w.heap.size A xs) (h' : Sl marS.C 1 w w.heap.size A' ys) (hl : xs.length ≤ maxLen) (hl' : ys.length ≤ maxLen) (T : TypeId) (n n' b : Nat) (hn : n = xs.length) (hn' : n' = ys.length) (hbk : b = w.heap.size) :
    MS (w.alloc (.cells #[.slice A n c, .slice A' n' c'] T)) (w.alloc (.cells #[.slice A n c, .slice A' n' c'] T)).heap.size (some ⟨b, 0, none⟩) [⟨A, c, xs⟩, ⟨A', c', ys⟩] := by
  subst hn hn' hbk
  have hb : Below w.heap.size w (w.alloc (.cells #[.slice A xs.length c, .slice A' ys.length c'] T)) := (Below.refl _ _).alloc (Nat.le_refl _) _
  refine ⟨⟨fun k x hx => ?_⟩, fun r hr => ?_, fun r hr => ?_⟩
  · have hk : k < 2 := by have := (List.getElem?_eq_some_iff.1 hx).1; simpa using this
    refine ⟨_, rfl, by simp, fun j v hj => ?_⟩
    have hj0 : j = 0 := by have := (List.getElem?_eq_some_iff.1 hj).1; simp at this; exact this
    subst hj0
    simp only [List.getElem?_cons_zero, Option.some.injEq] at hj
    have h1 := two_newI w (.slice A xs.length c) (.slice A' ys.length c') T k v
    have e : ((⟨w.heap.size, 0, none⟩ : Addr).add (k * 1)).add 0 = (⟨w.heap.size, 0, none⟩ : Addr).add k := by rw [Nat.mul_one, add_lit, add_at]; rfl
    rw [e]
    refine h1 ?_
    match k, hk with
    | 0, _ => simp at hx; subst hx; simpa using hj
    | 1, _ => simp at hx; subst hx; simpa using hj
  · simp only [List.mem_cons, List.not_mem_nil, or_false] at hr
    rcases hr with rfl | rfl
    · exact (h.below hb).more hb.size
    · exact (h'.below hb).more hb.size
  · simp only [List.mem_cons, List.not_mem_nil, or_false] at hr
    rcases hr with rfl | rfl
    · exact hl
    · exact hl'
theorem MS.none (w : World) (B : Nat) : MS w B none [] := ⟨Sl.nil _ _ _ _ _, fun r hr => by simp at hr, fun r hr => by simp at hr⟩
/-- marks in a new block -/
theorem new_marks (w : World) (ms : List Nat) (T : TypeId) : Sl marS.C 1 (w.alloc (.cells (ms.map fun m : Nat => Value.int .u16 (m : Int)).toArray T)) (w.alloc (.cells (ms.map fun m : Nat => Value.int .u16 (m : Int)).toArray T)).heap.size (some ⟨w.heap.size, 0, none⟩) ms := by
  refine ⟨fun k x hx => ⟨_, rfl, by simp, fun j v hj => ?_⟩⟩
  have hj0 : j = 0 := by have := (List.getElem?_eq_some_iff.1 hj).1; simp [cInt] at this; exact this
  subst hj0
  have e : ((⟨w.heap.size, 0, Option.none⟩ : Addr).add (k * 1)).add 0 = ⟨w.heap.size, k, Option.none⟩ := by rw [Nat.mul_one, add_lit, add_at]; rfl
  rw [e, cell_of_row _ _ _ _ _ _ (heap_alloc_new w _)]
  simp [cInt] at hj
  simp [hx, hj]

theorem codeM_one (s : Int) (m : Nat) : codeM s [[m]] = if okB s m = true then 0 else 1 := by
  unfold codeM
  cases h : okB s m with
  | true =>
    have : inB s 1 12 = true := by unfold okB at h; simp only [Bool.and_eq_true] at h; exact h.1
    simp [h, this]
  | false => simp [h]

set_option maxRecDepth 100000 in
set_option maxHeartbeats 2000000 in
theorem checkMark_any (s : Int) (m : Nat) {w : World} {B : Nat} {e : Nat → Addr} (h : Errs w B e) (hB : B ≤ w.heap.size) (k : Nat) (hk : k = if okB s m = true then 0 else 1) :
    Calls Tryd.prog 52 #[.int .i64 s, .int .u16 m] w fun o w' => o = .returned (errM e k) ∧ Below w.heap.size w w' := by
  have HK := Lib.hid ((codeM_one s m).trans hk.symm)
  have H := Lib.hid h
  clear hk h
  have hb1 : Below w.heap.size w (w.alloc (.cells #[.int .u16 m] 26)) := (Below.refl _ _).alloc (Nat.le_refl _) _
  have hb2 : Below w.heap.size w ((w.alloc (.cells #[.int .u16 m] 26)).alloc (.cells #[.slice (some ⟨w.heap.size, 0, Option.none⟩) 1 1] 23)) := hb1.alloc (by simp) _
  have HG := Lib.hid (MS.one (w := w.alloc (.cells #[.int .u16 m] 26)) (c := 1) (new_marks w [m] 26) (by simp [maxLen]) 23 1 (w.heap.size + 1) rfl (by simp))
  have HB2 := Lib.hid hb2
  clear hb1 hb2
  go_enter Tryd.func52, Tryd.ntmps52
  go_wp2_with fail
  refine (checkMarks_any s (some ⟨w.heap.size + 1, 0, Option.none⟩) 1 1 [⟨some ⟨w.heap.size, 0, Option.none⟩, 1, [m]⟩] rfl (by decide) (H.out.below (HB2.out.mono hB)) (Nat.le_trans hB HB2.out.size) HG.out k (by simpa using HK.out)).mono ?_
  rintro o w1 ⟨rfl, hb⟩
  have HB3 := Lib.hid (below_next HB2.out hb (Nat.le_refl _))
  clear hb
  go_wp2_with fail
  go_ret
  exact ⟨rfl, HB3.out⟩
theorem ne_noMark (w : World) : (binOp BinOp.neq 65 noMarkV .nilIface).run Tryd.prog w = .ok (.bool true) w := by kernel_rfl
set_option maxHeartbeats 2000000 in
/-- the first error of some checks, which lie in block b -/
theorem firstOfM_any (e : Nat → Addr) (cs : List Nat) (b n c : Nat) (hn : n = cs.length) (hs : n ≤ 8) (w : World) (hcell : ∀ k x, cs[k]? = some x → w.cell? ⟨b, k, Option.none⟩ = some (errM e x)) :
    Calls Tryd.prog 66 #[.slice (some ⟨b, 0, Option.none⟩) n c] w fun o w' => o = .returned (errM e (firstCode cs)) ∧ w = w' := by
  have Hn := Lib.hid hn
  have hne := ne_noMark
  clear hn
  go_enter Tryd.func66, Tryd.ntmps66
  go_wp2_with fail
  go_loop [7, 4] (fun vi _ => ∃ k : Nat, k ≤ n ∧ vi = .int .i64 k ∧ firstCode (cs.drop k) = firstCode cs) (fun vi _ => n - (intOf vi).toNat)
  case atStart => exact ⟨0, by omega, rfl, rfl⟩
  case round =>
    obtain ⟨k, hk, rfl, hf⟩ := hrel
    have HF := Lib.hid hf
    clear hf
    by_cases hlt : k < n
    · obtain ⟨x, hx⟩ : ∃ x, cs[k]? = some x := ⟨cs[k]'(by have := Hn.out; omega), List.getElem?_eq_getElem _⟩
      have hc := hcell k x hx
      have hd : cs.drop k = x :: cs.drop (k + 1) := by
        have hl : k < cs.length := (List.getElem?_eq_some_iff.1 hx).1
        rw [List.drop_eq_getElem_cons hl]
        congr 1
        exact (List.getElem?_eq_some_iff.1 hx).2
      have HD := Lib.hid hd
      clear hd hx hcell
      match x with
      | 0 =>
        have hc' : w.cell? ⟨b, k, Option.none⟩ = some .nilIface := hc
        clear hc
        go_wp2_with fail
        go_round
        case rel => exact ⟨k + 1, by omega, by go_num, by rw [← HF.out, HD.out]; rfl⟩
        case measure => simp [intOf]; omega
      | 1 =>
        have hc' : w.cell? ⟨b, k, Option.none⟩ = some noMarkV := hc
        clear hc
        go_wp2_with fail
        go_ret
        exact ⟨by rw [← HF.out, HD.out]; rfl, rfl⟩
      | i + 2 =>
        have hc' : w.cell? ⟨b, k, Option.none⟩ = some (errV (e (i + 1))) := hc
        clear hc
        go_wp2_with fail
        go_ret
        exact ⟨by rw [← HF.out, HD.out]; rfl, rfl⟩
    · go_wp2_with fail
      go_ret
      have hk2 : k = n := by omega
      refine ⟨?_, rfl⟩
      rw [← HF.out, List.drop_of_length_le (by have := Hn.out; omega)]
      rfl
theorem errM_form (e : Nat → Addr) (k : Nat) : errM e k = .nilIface ∨ ∃ T p, errM e k = .iface T p := by
  match k with
  | 0 => exact .inl rfl
  | 1 => exact .inr ⟨_, _, rfl⟩
  | k + 2 => exact .inr ⟨_, _, rfl⟩
theorem buildSliceM2 (e : Nat → Addr) (k1 k2 : Nat) (w : World) :
    (Instr.buildSlice 114 2 #[(0, errM e k1), (1, errM e k2)]).run Tryd.prog w = .ok (.slice (some ⟨w.heap.size, 0, Option.none⟩) 2 2) (w.alloc (.cells #[errM e k1, errM e k2] 65)) := by
  rcases errM_form e k1 with h | ⟨T, p, h⟩ <;> rcases errM_form e k2 with h' | ⟨T', p', h'⟩ <;> rw [h, h'] <;> kernel_rfl
theorem cells_errsM (e : Nat → Addr) (cs : List Nat) (w : World) (t : TypeId) (A : Array Value) (hA : A = (cs.map (errM e)).toArray) :
    ∀ k x, cs[k]? = some x → (w.alloc (.cells A t)).cell? ⟨w.heap.size, k, Option.none⟩ = some (errM e x) := by
  intro k x hx
  rw [cell_of_row _ _ _ _ _ _ (heap_alloc_new w _), hA]
  simp [hx]
end Go.Proofs.YtlembainfhnnbaaDoor.mks

/-
  Classes of marks, mended marks, and how far two are apart: the program's and the model's.
-/
namespace Go.Proofs.YtlembainfhnnbaaDoor.mks
open Go Go.RowKit sl stk errs fold

/-- the class of a mark, and the code -/
def clsR (s : Int) (m : Nat) : Nat × Nat := if okB s m = true then (classOf s.toNat m, 0) else (0, 1)
set_option maxHeartbeats 2000000 in
theorem ClassOf_spec (s : Int) (m : Nat) (hm : m < 65536) (a k : Nat) (hr : clsR s m = (a, k)) (w : World) :
    Calls Tryd.prog 29 #[.int .i64 s, .int .u16 m] w fun o w' => o = .returned (.tuple #[.int .i64 a, .int .i64 k]) ∧ w = w' := by
  have HO := Lib.hid (l06Ok_any s m)
  cases hb : okB s m with
  | true =>
    rw [hb] at HO
    obtain ⟨n, rfl, h1, h12, _⟩ := ok_in hb
    have hr' : classOf n m = a ∧ 0 = k := by simpa [clsR, hb] using hr
    have HC := Lib.hid (l06Class_any m n hm h12)
    rw [hr'.1] at HC
    obtain rfl := hr'.2
    clear hb hr hr'
    go_enter Tryd.func29, Tryd.ntmps29
    go_wp2_with (first | (go_at_call 50; refine (HO.out _).mono ?_; rintro o w1 ⟨rfl, rfl⟩) | (go_at_call 70; refine (HC.out _).mono ?_; rintro o w1 ⟨rfl, rfl⟩) | fail)
    go_ret2
    exact ⟨rfl, rfl⟩
  | false =>
    rw [hb] at HO
    have hr' : 0 = a ∧ 1 = k := by simpa [clsR, hb] using hr
    obtain ⟨rfl, rfl⟩ := hr'
    clear hb hr
    go_enter Tryd.func29, Tryd.ntmps29
    go_wp2_with (first | (go_at_call 50; refine (HO.out _).mono ?_; rintro o w1 ⟨rfl, rfl⟩) | fail)
    go_ret2
    exact ⟨rfl, rfl⟩
set_option maxRecDepth 100000 in
set_option maxHeartbeats 4000000 in
theorem ClassOf_any (s : Int) (m : Nat) (hm : m < 65536) (a k : Nat) (hr : clsR s m = (a, k)) {w : World} {B : Nat} {e : Nat → Addr} (h : Errs w B e) (hB : B ≤ w.heap.size) :
    Calls Tryd.prog 30 #[.int .i64 s, .int .u16 m] w fun o w' => o = .returned (.tuple #[.int .i64 a, .int .i64 k]) ∧ Below w.heap.size w w' := by
  have H := Lib.hid h
  cases hb : okB s m with
  | true =>
    have HK := Lib.hid (checkMark_any s m h hB 0 (by rw [hb]; rfl))
    obtain ⟨n, rfl, h1, h12, _⟩ := ok_in hb
    have hr' : classOf n m = a ∧ 0 = k := by simpa [clsR, hb] using hr
    have HC := Lib.hid (class_any m n hm h12)
    rw [hr'.1] at HC
    obtain rfl := hr'.2
    clear hb hr hr' h
    go_enter Tryd.func30, Tryd.ntmps30
    go_wp2_with fail
    refine HK.out.mono ?_
    rintro o w1 ⟨rfl, hb1⟩
    rw [show errM e 0 = .nilIface from rfl]
    have HB := Lib.hid hb1
    clear hb1
    go_wp2_with (first | (go_at_call 71; refine (HC.out _).mono ?_; rintro o w2 ⟨rfl, rfl⟩) | fail)
    go_ret2
    exact ⟨rfl, HB.out⟩
  | false =>
    have HK := Lib.hid (checkMark_any s m h hB 1 (by rw [hb]; rfl))
    have hr' : 0 = a ∧ 1 = k := by simpa [clsR, hb] using hr
    obtain ⟨rfl, rfl⟩ := hr'
    have hne := ne_noMark
    clear hb hr h
    go_enter Tryd.func30, Tryd.ntmps30
    go_wp2_with fail
    refine HK.out.mono ?_
    rintro o w1 ⟨rfl, hb1⟩
    rw [show errM e 1 = noMarkV from rfl]
    have HB := Lib.hid hb1
    clear hb1
    go_wp2_with (first | (go_at_call 53; refine (codeOf_noMark (H.out.below (HB.out.mono hB)) (Nat.le_trans hB HB.out.size)).mono ?_; rintro o w2 ⟨rfl, hb2⟩) | fail)
    go_ret2
    exact ⟨rfl, below_next HB.out hb2 (Nat.le_refl _)⟩
/-- in how many stitches two marks differ, and the code -/
def aptR (s : Int) (m o : Nat) : Nat × Nat := if (okB s m && okB s o) = true then (cnt (m ^^^ o), 0) else (0, 1)
theorem codeM_two (s : Int) (m o : Nat) : codeM s [[m, o]] = if (okB s m && okB s o) = true then 0 else 1 := by
  unfold codeM
  cases h : okB s m with
  | true =>
    have : inB s 1 12 = true := by unfold okB at h; simp only [Bool.and_eq_true] at h; exact h.1
    simp [h, this]
  | false => simp [h]
set_option maxHeartbeats 4000000 in
theorem ApartBy_spec (s : Int) (m o : Nat) (hm : m < 65536) (ho : o < 65536) (a k : Nat) (hr : aptR s m o = (a, k)) (w : World) :
    Calls Tryd.prog 39 #[.int .i64 s, .int .u16 m, .int .u16 o] w fun r w' => r = .returned (.tuple #[.int .i64 a, .int .i64 k]) ∧ w = w' := by
  have HO := Lib.hid (l06Ok_any s m)
  have HP := Lib.hid (l06Ok_any s o)
  have HC := Lib.hid (l06Count_any (m ^^^ o) (xor_lt hm ho))
  have hx := bits_xor hm ho
  cases hb : okB s m with
  | false =>
    rw [hb] at HO
    have hr' : 0 = a ∧ 1 = k := by simpa [aptR, hb] using hr
    obtain ⟨rfl, rfl⟩ := hr'
    clear hb hr HP HC hx hm ho
    go_enter Tryd.func39, Tryd.ntmps39
    go_wp2_with (first | (go_at_call 50; refine (HO.out _).mono ?_; rintro r w1 ⟨rfl, rfl⟩) | fail)
    go_ret2
    exact ⟨rfl, rfl⟩
  | true =>
    cases hb2 : okB s o with
    | false =>
      rw [hb] at HO
      rw [hb2] at HP
      have hr' : 0 = a ∧ 1 = k := by simpa [aptR, hb, hb2] using hr
      obtain ⟨rfl, rfl⟩ := hr'
      clear hb hb2 hr HC hx hm ho
      go_enter Tryd.func39, Tryd.ntmps39
      go_wp2_with fail
      refine (HO.out _).mono ?_
      rintro r w1 ⟨rfl, rfl⟩
      go_wp2_with fail
      refine (HP.out _).mono ?_
      rintro r w1 ⟨rfl, rfl⟩
      go_wp2_with fail
      go_ret2
      exact ⟨rfl, rfl⟩
    | true =>
      rw [hb] at HO
      rw [hb2] at HP
      have hr' : cnt (m ^^^ o) = a ∧ 0 = k := by simpa [aptR, hb, hb2] using hr
      rw [hr'.1] at HC
      obtain rfl := hr'.2
      clear hb hb2 hr hr'
      go_enter Tryd.func39, Tryd.ntmps39
      go_wp2_with fail
      refine (HO.out _).mono ?_
      rintro r w1 ⟨rfl, rfl⟩
      go_wp2_with fail
      refine (HP.out _).mono ?_
      rintro r w1 ⟨rfl, rfl⟩
      go_wp2_with (first | (go_at_call 76; refine (HC.out _).mono ?_; rintro r w1 ⟨rfl, rfl⟩) | fail)
      go_ret2
      exact ⟨rfl, rfl⟩
set_option maxRecDepth 100000 in
set_option maxHeartbeats 4000000 in
theorem ApartBy_any (s : Int) (m o : Nat) (hm : m < 65536) (ho : o < 65536) (a k : Nat) (hr : aptR s m o = (a, k)) {w : World} {B : Nat} {e : Nat → Addr} (h : Errs w B e) (hB : B ≤ w.heap.size) :
    Calls Tryd.prog 40 #[.int .i64 s, .int .u16 m, .int .u16 o] w fun r w' => r = .returned (.tuple #[.int .i64 a, .int .i64 k]) ∧ Below w.heap.size w w' := by
  have H := Lib.hid h
  have hb1 : Below w.heap.size w (w.alloc (.cells #[.int .u16 m, .int .u16 o] 26)) := (Below.refl _ _).alloc (Nat.le_refl _) _
  have hb2 : Below w.heap.size w ((w.alloc (.cells #[.int .u16 m, .int .u16 o] 26)).alloc (.cells #[.slice (some ⟨w.heap.size, 0, Option.none⟩) 2 2] 23)) := hb1.alloc (by simp) _
  have HG := Lib.hid (MS.one (w := w.alloc (.cells #[.int .u16 m, .int .u16 o] 26)) (c := 2) (new_marks w [m, o] 26) (by simp [maxLen]) 23 2 (w.heap.size + 1) rfl (by simp))
  have HB2 := Lib.hid hb2
  have HT := Lib.hid (codeM_two s m o)
  have HC := Lib.hid (StitchesIn_any (m ^^^ o) (xor_lt hm ho))
  have hx := bits_xor hm ho
  have HE := Lib.hid (H.out.below (HB2.out.mono hB))
  clear hb1 hb2 h
  cases hb : (okB s m && okB s o) with
  | false =>
    rw [hb] at HT
    have hr' : 0 = a ∧ 1 = k := by
      unfold aptR at hr
      rw [hb] at hr
      simpa using hr
    obtain ⟨rfl, rfl⟩ := hr'
    have hne := ne_noMark
    clear hb hr HC hx hm ho
    go_enter Tryd.func40, Tryd.ntmps40
    go_wp2_with fail
    refine (checkMarks_any s (some ⟨w.heap.size + 1, 0, Option.none⟩) 1 1 [⟨some ⟨w.heap.size, 0, Option.none⟩, 2, [m, o]⟩] rfl (by decide) HE.out (Nat.le_trans hB HB2.out.size) HG.out 1 (by simpa using HT.out)).mono ?_
    rintro r w1 ⟨rfl, hb⟩
    rw [show errM e 1 = noMarkV from rfl]
    have HB3 := Lib.hid (below_next HB2.out hb (Nat.le_refl _))
    clear hb
    go_wp2_with (first | (go_at_call 53; refine (codeOf_noMark (H.out.below (HB3.out.mono hB)) (Nat.le_trans hB HB3.out.size)).mono ?_; rintro o w2 ⟨rfl, hb2⟩) | fail)
    go_ret2
    exact ⟨rfl, below_next HB3.out hb2 (Nat.le_refl _)⟩
  | true =>
    rw [hb] at HT
    have hr' : cnt (m ^^^ o) = a ∧ 0 = k := by
      unfold aptR at hr
      rw [hb] at hr
      simpa using hr
    rw [hr'.1] at HC
    obtain rfl := hr'.2
    clear hb hr hr'
    go_enter Tryd.func40, Tryd.ntmps40
    go_wp2_with fail
    refine (checkMarks_any s (some ⟨w.heap.size + 1, 0, Option.none⟩) 1 1 [⟨some ⟨w.heap.size, 0, Option.none⟩, 2, [m, o]⟩] rfl (by decide) HE.out (Nat.le_trans hB HB2.out.size) HG.out 0 (by simpa using HT.out)).mono ?_
    rintro r w1 ⟨rfl, hb⟩
    rw [show errM e 0 = .nilIface from rfl]
    have HB3 := Lib.hid (below_next HB2.out hb (Nat.le_refl _))
    clear hb
    go_wp2_with (first | (go_at_call 77; refine (HC.out _).mono ?_; rintro r w2 ⟨rfl, n, rfl⟩) | fail)
    go_ret2
    exact ⟨rfl, HB3.out.trans (below_drewN _ _ _)⟩
end Go.Proofs.YtlembainfhnnbaaDoor.mks

/-
  A mark of a class is mended: the program's and the model's.
-/
namespace Go.Proofs.YtlembainfhnnbaaDoor.mks
open Go Go.RowKit sl stk errs fold

/-- the number of the stitch that a mark lacks -/
def lackN (s c m : Nat) : Nat := (c + (s + 1) - classOf s m) % (s + 1)
theorem class_lt (s m : Nat) : classOf s m < s + 1 := Nat.mod_lt _ (by omega)
def mndR (s c : Int) (m : Nat) : Nat × Nat :=
  if okB s m = true then
    if inB c 0 s = true then
      if lackN s.toNat c.toNat m = 0 then (m, 0)
      else if m.testBit (lackN s.toNat c.toNat m - 1) = true then (0, 6)
      else (m ||| 2 ^ (lackN s.toNat c.toNat m - 1), 0)
    else (0, 2)
  else (0, 1)
/-- the number of the stitch, as both reckon it -/
theorem lack_int {s c m : Nat} (hc : c ≤ s) : ((c : Int) - (classOf s m : Int) + ((s : Int) + 1)) % ((s : Int) + 1) = (lackN s c m : Int) := by
  have := class_lt s m
  unfold lackN
  have e : (c : Int) - (classOf s m : Int) + ((s : Int) + 1) = ((c + (s + 1) - classOf s m : Nat) : Int) := by omega
  rw [e]
  simp
theorem codeI_eq (c s : Int) : (if 0 ≤ c ∧ c ≤ s then 0 else 2) = if inB c 0 s = true then 0 else 2 := by simp [inB_iff]

set_option maxRecDepth 100000 in
set_option maxHeartbeats 4000000 in
theorem MendStitch_spec (s c : Int) (m : Nat) (hm : m < 65536) (a k : Nat) (hr : mndR s c m = (a, k)) (w : World) :
    Calls Tryd.prog 31 #[.int .i64 s, .int .i64 c, .int .u16 m] w fun r w' => r = .returned (.tuple #[.int .u16 a, .int .i64 k]) ∧ w = w' := by
  have HO := Lib.hid (l06Ok_any s m)
  have HI := Lib.hid (l00In_any c 0 s)
  cases hb : okB s m with
  | false =>
    rw [hb] at HO
    have hr' : 0 = a ∧ 1 = k := by simpa [mndR, hb] using hr
    obtain ⟨rfl, rfl⟩ := hr'
    clear hb hr HI hm
    go_enter Tryd.func31, Tryd.ntmps31
    go_wp2_with (first | (go_at_call 50; refine (HO.out _).mono ?_; rintro r w1 ⟨rfl, rfl⟩) | fail)
    go_ret2
    exact ⟨rfl, rfl⟩
  | true =>
    rw [hb] at HO
    cases hc : inB c 0 s with
    | false =>
      rw [hc] at HI
      have hr' : 0 = a ∧ 2 = k := by simpa [mndR, hb, hc] using hr
      obtain ⟨rfl, rfl⟩ := hr'
      clear hb hc hr hm
      go_enter Tryd.func31, Tryd.ntmps31
      go_wp2_with (first | (go_at_call 50; refine (HO.out _).mono ?_; rintro r w1 ⟨rfl, rfl⟩) | (go_at_call 64; refine (HI.out _).mono ?_; rintro r w1 ⟨rfl, rfl⟩) | fail)
      go_ret2
      exact ⟨rfl, rfl⟩
    | true =>
      rw [hc] at HI
      obtain ⟨n, rfl, h1, h12, _⟩ := ok_in hb
      obtain ⟨c0, c1⟩ := (inB_iff _ _ _).1 hc
      obtain ⟨q, rfl⟩ := Int.eq_ofNat_of_zero_le c0
      have HC := Lib.hid (l06Class_any m n hm h12)
      have hcl := class_lt n m
      have hli := lack_int (m := m) (show q ≤ n by omega)
      obtain ⟨l, hl⟩ : ∃ l, lackN n q m = l := ⟨_, rfl⟩
      obtain ⟨d, hd⟩ : ∃ d, classOf n m = d := ⟨_, rfl⟩
      have hll : l < n + 1 := by rw [← hl]; exact Nat.mod_lt _ (by omega)
      have hr' : (if l = 0 then (m, 0) else if m.testBit (l - 1) = true then (0, 6) else (m ||| 2 ^ (l - 1), 0)) = (a, k) := by
        simpa [mndR, hb, hc, hl] using hr
      rw [hl, hd] at hli
      rw [hd] at HC hcl
      have hli2 : ((q : Int) - (d : Int) + (n : Int) + 1) % ((n : Int) + 1) = (l : Int) := by rw [← hli, Int.add_assoc]
      clear hb hc hr hl hd c0 hli
      cases l with
      | zero =>
        have hr2 : m = a ∧ 0 = k := by simpa using hr'
        obtain ⟨rfl, rfl⟩ := hr2
        clear hr' hll
        go_enter Tryd.func31, Tryd.ntmps31
        go_wp2_with (first | (go_at_call 50; refine (HO.out _).mono ?_; rintro r w1 ⟨rfl, rfl⟩) | (go_at_call 64; refine (HI.out _).mono ?_; rintro r w1 ⟨rfl, rfl⟩) | (go_at_call 70; refine (HC.out _).mono ?_; rintro r w1 ⟨rfl, rfl⟩) | fail)
        go_ret2
        exact ⟨rfl, rfl⟩
      | succ j =>
        have e2 : (j : Int) + 1 - 1 = j := by omega
        have hli3 : ((q : Int) - (d : Int) + (n : Int) + 1) % ((n : Int) + 1) = (j : Int) + 1 := by rw [hli2]; simp
        have hone := shr_mod_one m j
        obtain ⟨q0, q1⟩ := shr_in hm j
        have hov := or_val hm (show j < 16 by omega)
        cases ht : m.testBit j with
        | true =>
          rw [ht] at hone
          have hr2 : 0 = a ∧ 6 = k := by simpa [ht] using hr'
          obtain ⟨rfl, rfl⟩ := hr2
          clear hr' ht hov hli2 hm
          go_enter Tryd.func31, Tryd.ntmps31
          go_wp2_with (first | (go_at_call 50; refine (HO.out _).mono ?_; rintro r w1 ⟨rfl, rfl⟩) | (go_at_call 64; refine (HI.out _).mono ?_; rintro r w1 ⟨rfl, rfl⟩) | (go_at_call 70; refine (HC.out _).mono ?_; rintro r w1 ⟨rfl, rfl⟩) | fail)
          go_ret2
          exact ⟨rfl, rfl⟩
        | false =>
          rw [ht] at hone
          have hr2 : m ||| 2 ^ j = a ∧ 0 = k := by simpa [ht] using hr'
          rw [hr2.1] at hov
          obtain rfl := hr2.2
          clear hr' hr2 ht hli2 hm
          go_enter Tryd.func31, Tryd.ntmps31
          go_wp2_with (first | (go_at_call 50; refine (HO.out _).mono ?_; rintro r w1 ⟨rfl, rfl⟩) | (go_at_call 64; refine (HI.out _).mono ?_; rintro r w1 ⟨rfl, rfl⟩) | (go_at_call 70; refine (HC.out _).mono ?_; rintro r w1 ⟨rfl, rfl⟩) | fail)
          go_ret2
          exact ⟨rfl, rfl⟩
theorem checkClass_any (s c : Int) {w : World} {B : Nat} {e : Nat → Addr} (h : Errs w B e) :
    Calls Tryd.prog 72 #[.int .i64 s, .int .i64 c] w fun o w' => o = .returned (errOf e (if inB c 0 s = true then 0 else 2)) ∧ w = w' := by
  rw [← codeI_eq]
  have H := Lib.hid (checkWithin_any c 0 s h)
  obtain ⟨k, hk⟩ : ∃ k : Nat, (if 0 ≤ c ∧ c ≤ s then 0 else 2) = k := ⟨_, rfl⟩
  rw [hk] at H ⊢
  clear h hk
  go_enter Tryd.func72, Tryd.ntmps72
  go_wp2_with fail
  refine H.out.mono ?_
  rintro o w1 ⟨rfl, rfl⟩
  go_wp2_with fail
  go_ret
  exact ⟨rfl, rfl⟩
theorem errOf_M (e : Nat → Addr) {k : Nat} (h : k ≠ 1) : errOf e k = errM e k := by unfold errM; rw [if_neg h]
set_option maxRecDepth 100000 in
set_option maxHeartbeats 8000000 in
theorem MendStitch_any (s c : Int) (m : Nat) (hm : m < 65536) (a k : Nat) (hr : mndR s c m = (a, k)) {w : World} {B : Nat} {e : Nat → Addr} (h : Errs w B e) (hB : B ≤ w.heap.size) :
    Calls Tryd.prog 32 #[.int .i64 s, .int .i64 c, .int .u16 m] w fun r w' => r = .returned (.tuple #[.int .u16 a, .int .i64 k]) ∧ Below w.heap.size w w' := by
  have H := Lib.hid h
  have hne := ne_noMark
  obtain ⟨k0, hk0⟩ : ∃ k : Nat, k = if okB s m = true then 0 else 1 := ⟨_, rfl⟩
  obtain ⟨k1, hk1⟩ : ∃ k : Nat, k = if inB c 0 s = true then 0 else 2 := ⟨_, rfl⟩
  have HK := Lib.hid (checkMark_any s m h hB k0 hk0)
  have HQ := Lib.hid (fun (u : World) (hu : Errs u B e) => checkClass_any s c (w := u) hu)
  rw [← hk1, errOf_M e (show k1 ≠ 1 by rw [hk1]; split <;> omega)] at HQ
  obtain ⟨f, hf⟩ : ∃ f, firstCode [k0, k1] = f := ⟨_, rfl⟩
  have HF := Lib.hid hf
  have HK0 := Lib.hid hk0
  have HK1 := Lib.hid hk1
  clear hk0 hk1 hf h
  go_enter Tryd.func32, Tryd.ntmps32
  go_wp2_with fail
  refine HK.out.mono ?_
  rintro r w1 ⟨rfl, hb1⟩
  have HB := Lib.hid hb1
  clear hb1
  go_wp2_with fail
  refine (HQ.out _ (H.out.below (HB.out.mono hB))).mono ?_
  rintro r w2 ⟨rfl, rfl⟩
  go_wp2_with (refine wpList_listed rfl 114 2 _ rfl #[(0, errM e k0), (1, errM e k1)] ?hp (buildSliceM2 e k0 k1 _) ?_; case hp => simp [Act.eval])
  refine (firstOfM_any e [k0, k1] _ 2 2 rfl (by decide) _ (cells_errsM e [k0, k1] w1 65 #[errM e k0, errM e k1] rfl)).mono ?_
  rintro r u ⟨rfl, rfl⟩
  rw [HF.out]
  have HB2 := Lib.hid (HB.out.trans ((Below.refl w1.heap.size w1).alloc (Nat.le_refl _) (.cells #[errM e k0, errM e k1] 65) |>.mono HB.out.size))
  obtain ⟨w3, hw3⟩ : ∃ w3, w3 = w1.alloc (.cells #[errM e k0, errM e k1] 65) := ⟨_, rfl⟩
  rw [← hw3] at HB2 ⊢
  have HE := Lib.hid (H.out.below (HB2.out.mono hB))
  clear hw3 HK HQ
  cases hb : okB s m with
  | false =>
    have e0 : k0 = 1 := by rw [HK0.out, hb]; rfl
    have hf1 : f = 1 := by rw [← HF.out, e0]; rfl
    subst hf1
    have hr' : 0 = a ∧ 1 = k := by simpa [mndR, hb] using hr
    obtain ⟨rfl, rfl⟩ := hr'
    clear hb hr hm e0
    rw [show errM e 1 = noMarkV from rfl]
    go_wp2_with (first | (go_at_call 53; refine (codeOf_noMark HE.out (Nat.le_trans hB HB2.out.size)).mono ?_; rintro o w4 ⟨rfl, hb4⟩) | fail)
    go_ret2
    exact ⟨rfl, below_next HB2.out hb4 (Nat.le_refl _)⟩
  | true =>
    have e0 : k0 = 0 := by rw [HK0.out, hb]; rfl
    cases hc : inB c 0 s with
    | false =>
      have e1 : k1 = 2 := by rw [HK1.out, hc]; rfl
      have hf1 : f = 2 := by rw [← HF.out, e0, e1]; rfl
      subst hf1
      have hr' : 0 = a ∧ 2 = k := by simpa [mndR, hb, hc] using hr
      obtain ⟨rfl, rfl⟩ := hr'
      clear hb hr hm e0 e1 hc
      rw [show errM e 2 = errV (e 1) from rfl]
      go_wp2_with fail
      refine (codeOf_any HE.out 2 (by omega)).mono ?_
      rintro o w4 ⟨rfl, rfl⟩
      go_wp2_with fail
      go_ret2
      exact ⟨rfl, HB2.out⟩
    | true =>
      have e1 : k1 = 0 := by rw [HK1.out, hc]; rfl
      have hf1 : f = 0 := by rw [← HF.out, e0, e1]; rfl
      subst hf1
      clear e0 e1
      rw [show errM e 0 = .nilIface from rfl]
      obtain ⟨n, rfl, h1, h12, _⟩ := ok_in hb
      obtain ⟨c0, c1⟩ := (inB_iff _ _ _).1 hc
      obtain ⟨q, rfl⟩ := Int.eq_ofNat_of_zero_le c0
      have HC := Lib.hid (class_any m n hm h12)
      have hcl := class_lt n m
      have hli := lack_int (m := m) (show q ≤ n by omega)
      obtain ⟨l, hl⟩ : ∃ l, lackN n q m = l := ⟨_, rfl⟩
      obtain ⟨d, hd⟩ : ∃ d, classOf n m = d := ⟨_, rfl⟩
      have hll : l < n + 1 := by rw [← hl]; exact Nat.mod_lt _ (by omega)
      have hr' : (if l = 0 then (m, 0) else if m.testBit (l - 1) = true then (0, 6) else (m ||| 2 ^ (l - 1), 0)) = (a, k) := by
        simpa [mndR, hb, hc, hl] using hr
      rw [hl, hd] at hli
      rw [hd] at HC hcl
      clear hb hc hr hl hd c0
      cases l with
      | zero =>
        have hr2 : m = a ∧ 0 = k := by simpa using hr'
        obtain ⟨rfl, rfl⟩ := hr2
        clear hr' hll
        go_wp2_with (first | (go_at_call 71; refine (HC.out _).mono ?_; rintro r w4 ⟨rfl, rfl⟩) | fail)
        go_ret2
        exact ⟨rfl, HB2.out⟩
      | succ j =>
        have e2 : (j : Int) + 1 - 1 = j := by omega
        have hli3 : ((q : Int) - (d : Int) + ((n : Int) + 1)) % ((n : Int) + 1) = (j : Int) + 1 := by rw [hli]; simp
        have HH := Lib.hid (has_any m j hm (by omega))
        have hov := or_val hm (show j < 16 by omega)
        cases ht : m.testBit j with
        | true =>
          rw [ht] at HH
          have hr2 : 0 = a ∧ 6 = k := by simpa [ht] using hr'
          obtain ⟨rfl, rfl⟩ := hr2
          clear hr' ht hov hli hm
          go_wp2_with (first | (go_at_call 71; refine (HC.out _).mono ?_; rintro r w4 ⟨rfl, rfl⟩) | (go_at_call 73; refine (HH.out _).mono ?_; rintro r w4 ⟨rfl, rfl⟩) | fail)
          go_ret2
          exact ⟨rfl, HB2.out⟩
        | false =>
          rw [ht] at HH
          have hr2 : m ||| 2 ^ j = a ∧ 0 = k := by simpa [ht] using hr'
          rw [hr2.1] at hov
          obtain rfl := hr2.2
          clear hr' hr2 ht hli hm
          go_wp2_with (first | (go_at_call 71; refine (HC.out _).mono ?_; rintro r w4 ⟨rfl, rfl⟩) | (go_at_call 73; refine (HH.out _).mono ?_; rintro r w4 ⟨rfl, rfl⟩) | fail)
          go_ret2
          exact ⟨rfl, HB2.out⟩
end Go.Proofs.YtlembainfhnnbaaDoor.mks
