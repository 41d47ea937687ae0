/-
  A function's one result that is a struct or an array, read out of its block.
-/
import Derived.Test.YtjfimmfnhlimkaaDoorRows
import Derived.Test.YtjfimmfnhlimkaaDoorSl
import Derived.Test.YtjfimmfnhlimkaaDoorJoin3
import Derived.WalkKit
import Derived.Deep.MidRow
namespace Go.Proofs.YtjfimmfnhlimkaaDoor
open Go Go.RowKit sl

theorem results_row {fn : Func} {s : Nat} {T : TypeId} (hf : fn.results = #[.cell s T]) {tmps : Array Value} {u : World} {b : Nat} {cs : List Value} {d : TypeDesc} (hs : tmps.getD s undef = .pointer (some ⟨b, 0, none⟩)) (h : u.rangeAt b 0 cs)
    (hu : Tryd.prog.underlying T = some d) (hd : d.isRow = true) (hi : (Tryd.prog.info? T).map (·.size) = some cs.length) :
    (results fn tmps).run Tryd.prog u = .ok (.agg cs.toArray) u := by
  have hr := run_loadVar_mid (P := Tryd.prog) u b 0 T cs d h hu hd hi
  have hs' : tmps[s]?.getD undef = .pointer (some ⟨b, 0, none⟩) := by rw [← hs]; simp
  generalize hdv : Value.agg cs.toArray = dv at hr
  simp [results, hf, hs', hr, asAddr]
/-- .. that has just been stored -/
theorem results_stored {fn : Func} {s : Nat} {T : TypeId} (hf : fn.results = #[.cell s T]) {tmps : Array Value} {u : World} {b : Nat} {cs : List Value} {d : TypeDesc} (hs : tmps.getD s undef = .pointer (some ⟨b, 0, none⟩)) (h : u.there b 0 cs.length)
    (hu : Tryd.prog.underlying T = some d) (hd : d.isRow = true) (hi : (Tryd.prog.info? T).map (·.size) = some cs.length) :
    (results fn tmps).run Tryd.prog (u.setCells b 0 cs) = .ok (.agg cs.toArray) (u.setCells b 0 cs) :=
  results_row hf hs (World.rangeAt_setCells_same u b 0 cs h) hu hd hi
/-- .. and a number behind it -/
theorem results_row_tmp {fn : Func} {s t : Nat} {T : TypeId} (hf : fn.results = #[.cell s T, .tmp t]) {tmps : Array Value} {u : World} {b : Nat} {cs : List Value} {d : TypeDesc} (hs : tmps.getD s undef = .pointer (some ⟨b, 0, none⟩)) (h : u.rangeAt b 0 cs)
    (hu : Tryd.prog.underlying T = some d) (hd : d.isRow = true) (hi : (Tryd.prog.info? T).map (·.size) = some cs.length) :
    (results fn tmps).run Tryd.prog u = .ok (.tuple #[.agg cs.toArray, tmps.getD t undef]) u := by
  have hr := run_loadVar_mid (P := Tryd.prog) u b 0 T cs d h hu hd hi
  have hs' : tmps[s]?.getD undef = .pointer (some ⟨b, 0, none⟩) := by rw [← hs]; simp
  generalize hdv : Value.agg cs.toArray = dv at hr
  simp [results, hf, hs', hr, asAddr]
/-- what a place holds -/
def valAt (u : World) (p : Addr) : Value := (u.cell? p).getD undef
theorem valAt_some {u : World} {p : Addr} (h : (u.cell? p).isSome = true) : u.cell? p = some (valAt u p) := by
  unfold valAt
  cases e : u.cell? p with
  | none => rw [e] at h; cases h
  | some v => rfl
end Go.Proofs.YtjfimmfnhlimkaaDoor
