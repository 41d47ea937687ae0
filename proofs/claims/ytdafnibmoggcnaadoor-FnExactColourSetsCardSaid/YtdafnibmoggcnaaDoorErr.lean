/-
  The package's errors: what 'errors.Is' says of them, and which code each one has.
-/
import Derived.Test.YtdafnibmoggcnaaDoorRows
import Derived.Test.YtdafnibmoggcnaaDoorWords
import Derived.WalkKit
import Derived.WalkSpells
import Derived.WalkLawsBesides
import Derived.LaidEql
import Derived.Stop.Asserts
import Derived.RowKitTokens
namespace Go.Proofs.YtdafnibmoggcnaaDoor.errs
open Go.RowKit Go.Extern.Stop Go.Stop Go.Extern

abbrev errV (a : Addr) : Value := .iface 120 (.pointer (some a))

/-- the package-level variables of the errors hold so many different errors; all lies below block B -/
structure Errs (w : World) (B : Nat) (e : Nat → Addr) : Prop where
  c0 : w.cell? ⟨0, 0, none⟩ = some (errV (e 0))
  c1 : w.cell? ⟨2, 0, none⟩ = some (errV (e 1))
  c2 : w.cell? ⟨1, 0, none⟩ = some (errV (e 2))
  c3 : w.cell? ⟨3, 0, none⟩ = some (errV (e 3))
  c4 : w.cell? ⟨4, 0, none⟩ = some (errV (e 4))
  c5 : w.cell? ⟨5, 0, none⟩ = some (errV (e 5))
  c6 : w.cell? ⟨6, 0, none⟩ = some (errV (e 6))
  size : 0 < B ∧ 2 < B ∧ 1 < B ∧ 3 < B ∧ 4 < B ∧ 5 < B ∧ 6 < B
  row : ∀ i, i < 7 → ∃ c t, w.heap[(e i).block]? = some (.cells c t (0, 0))
  lt : ∀ i, i < 7 → (e i).block < B
  ne : ∀ i j, i < 7 → j < 7 → i ≠ j → e i ≠ e j

theorem Errs.below {w w' : World} {B : Nat} {e : Nat → Addr} (h : Errs w B e) (hb : Below B w w') : Errs w' B e :=
  ⟨(hb.cell (p := ⟨_, 0, none⟩) h.size.1).trans h.c0, (hb.cell (p := ⟨_, 0, none⟩) h.size.2.1).trans h.c1, (hb.cell (p := ⟨_, 0, none⟩) h.size.2.2.1).trans h.c2, (hb.cell (p := ⟨_, 0, none⟩) h.size.2.2.2.1).trans h.c3, (hb.cell (p := ⟨_, 0, none⟩) h.size.2.2.2.2.1).trans h.c4, (hb.cell (p := ⟨_, 0, none⟩) h.size.2.2.2.2.2.1).trans h.c5, (hb.cell (p := ⟨_, 0, none⟩) h.size.2.2.2.2.2.2).trans h.c6, h.size,
   fun i hi => by
    obtain ⟨c, t, hc⟩ := h.row i hi
    exact ⟨c, t, (hb.block _ (h.lt i hi)).trans hc⟩, h.lt, h.ne⟩

/-- no error, or one of them -/
def errOf (e : Nat → Addr) : Nat → Value
  | 0 => .nilIface
  | i + 1 => errV (e i)

theorem typeOf_err (v : Value) (w : World) : (Extern.ReflectliteType.typeOf #[.iface 120 v]).run Tryd.prog w = .ok (.iface 111 (.agg #[.pointer (some ⟨7, 120, none⟩)])) w := by kernel_rfl
/-- the model's entry for 'Comparable' -/
def comparableM : Array Value → Sem Value := Extern.ReflectliteType.method fun t => do Extern.Rtype.noPackHeld "Comparable" t; pure (.bool (← typeInfo t).comparable)
theorem comparable_err (w : World) : (comparableM #[.agg #[.pointer (some ⟨7, 120, none⟩)]]).run Tryd.prog w = .ok (.bool true) w := by kernel_rfl
theorem method_comparable (v : Value) (w : World) : (Go.method 258 111 v "Comparable").run Tryd.prog w = .ok (98, v) w := by kernel_rfl
theorem comp_err : (Tryd.prog.info? 120).map (·.comparable) = some true := by kernel_rfl
theorem size_err : (Tryd.prog.info? 146).map (·.size) = some 1 := by kernel_rfl
theorem no_is (v : Value) (xT : TypeId) (w : World) : (Instr.typeAssert (.iface 120 v) xT 113 true).run Tryd.prog w = .ok (.tuple #[.nilIface, .bool false]) w := run_typeAssert_lacksB Tryd.underlying113 (by kernel_rfl) (by kernel_rfl) v xT w
theorem no_unwrap (v : Value) (xT : TypeId) (w : World) : (Instr.typeAssert (.iface 120 v) xT 116 true).run Tryd.prog w = .ok (.tuple #[.nilIface, .bool false]) w := run_typeAssert_lacksB Tryd.underlying116 (by kernel_rfl) (by kernel_rfl) v xT w
theorem no_unwraps (v : Value) (xT : TypeId) (w : World) : (Instr.typeAssert (.iface 120 v) xT 118 true).run Tryd.prog w = .ok (.tuple #[.nilIface, .bool false]) w := run_typeAssert_lacksB Tryd.underlying118 (by kernel_rfl) (by kernel_rfl) v xT w

set_option maxHeartbeats 2000000 in
set_option maxRecDepth 100000 in
/-- an error is itself -/
theorem Is_same (a : Addr) (w : World) :
    Calls Tryd.prog 65 #[errV a, errV a] w fun e w' => e = .returned (.bool true) ∧ w = w' := by
  obtain ⟨i, hi, hcmp⟩ := Option.map_eq_some_iff.1 comp_err
  obtain ⟨j, hj, _⟩ := Option.map_eq_some_iff.1 size_err
  have hto := @run_callFunc_extern Tryd.prog 76 _ Extern.ReflectliteType.typeOf Tryd.func76 (by kernel_rfl) (by kernel_rfl) (by kernel_rfl) (by kernel_rfl)
  have hco := @run_callFunc_extern Tryd.prog 98 _ comparableM Tryd.func98 (by kernel_rfl) (by kernel_rfl) (by kernel_rfl) (by kernel_rfl)
  have tT := typeOf_err
  have cT := comparable_err
  have mR := method_comparable
  have heq := run_eql_iface_ptr_same (P := Tryd.prog) w a Tryd.underlying60 Tryd.underlying120 hi hcmp hj
  go_enter Tryd.func65, Tryd.ntmps65
  go_wp2
  refine wp_loop_rounds 1 ?_
  rw [rounds_succ]
  go_wp2
  go_ret
  exact ⟨rfl, rfl⟩

set_option maxHeartbeats 2000000 in
set_option maxRecDepth 100000 in
/-- an error is no other one -/
theorem Is_other (a b : Addr) (ca cb : Array Value) (ta tb : TypeId) (w : World) (hne : a ≠ b) (ha : w.heap[a.block]? = some (.cells ca ta (0, 0))) (hb : w.heap[b.block]? = some (.cells cb tb (0, 0))) :
    Calls Tryd.prog 65 #[errV a, errV b] w fun e w' => e = .returned (.bool false) ∧ w = w' := by
  obtain ⟨i, hi, hcmp⟩ := Option.map_eq_some_iff.1 comp_err
  obtain ⟨j, hj, hjs⟩ := Option.map_eq_some_iff.1 size_err
  have hto := @run_callFunc_extern Tryd.prog 76 _ Extern.ReflectliteType.typeOf Tryd.func76 (by kernel_rfl) (by kernel_rfl) (by kernel_rfl) (by kernel_rfl)
  have hco := @run_callFunc_extern Tryd.prog 98 _ comparableM Tryd.func98 (by kernel_rfl) (by kernel_rfl) (by kernel_rfl) (by kernel_rfl)
  have tT := typeOf_err
  have cT := comparable_err
  have mR := method_comparable
  have nI := no_is
  have nU := no_unwrap
  have nV := no_unwraps
  have heq := run_eql_iface_ptr_other (P := Tryd.prog) w Tryd.underlying60 Tryd.underlying120 hi hcmp hj (by rw [hjs]; decide) hne ha hb
  go_enter Tryd.func65, Tryd.ntmps65
  go_wp2
  refine wp_loop_rounds 1 ?_
  rw [rounds_succ]
  go_wp2
  go_ret
  exact ⟨rfl, rfl⟩

theorem Is_calls {w : World} {B : Nat} {e : Nat → Addr} (h : Errs w B e) (i j : Nat) (hi : i < 7) (hj : j < 7) (b : Bool) (hb : b = decide (i = j)) :
    Calls Tryd.prog 65 #[errV (e i), errV (e j)] w fun o w' => o = .returned (.bool b) ∧ w = w' := by
  subst hb
  by_cases hij : i = j
  · subst hij
    simpa using Is_same (e i) w
  · obtain ⟨ca, ta, ha⟩ := h.row i hi
    obtain ⟨cb, tb, hb⟩ := h.row j hj
    have := Is_other (e i) (e j) ca cb ta tb w (h.ne i j hi hj hij) ha hb
    simpa [hij] using this
end Go.Proofs.YtdafnibmoggcnaaDoor.errs
