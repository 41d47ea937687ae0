/-
  Several texts of this proof, joined.
-/
import Derived.Test.YtfnlgpnocodonaaRows
import Derived.Test.YtfnlgpnocodonaaSl
import Derived.Test.YtfnlgpnocodonaaWords
import Derived.WalkKit
import Derived.WalkSpells
import Derived.WalkLawsBesides
import Derived.Lib.Hide
import Derived.Deep.QuietTactic
import Derived.BigQuiet
import Derived.Deep.RegionHeld3
import Derived.Deep.MidRow
/-
  Lists of numbers (int64): copied, held against each other, marked.
-/
namespace Go.Proofs.Ytfnlgpnocodonaa.intS
open Go.RowKit sl

abbrev C (x : Int) : List Value := cInt .i64 x
theorem len (xs : List Int) : ∀ x ∈ xs, (C x).length = 1 := fun _ _ => rfl
theorem at_ {w : World} {a : Addr} {k : Nat} {x : Int} (h : At w (a.add (k * 1)) (C x)) : w.cell? (a.add k) = some (.int .i64 x) := by
  have h0 := h 0 _ rfl
  rw [Nat.mul_one] at h0
  exact h0
theorem info : (Try.prog.info? 2).map (fun i => (i.zero, i.size, i.bytes)) = some (some (.int .i64 0), 1, 8) := by kernel_rfl




end Go.Proofs.Ytfnlgpnocodonaa.intS

/-
  A block of one value that has just been made.
-/
namespace Go.Proofs.Ytfnlgpnocodonaa.fold
open Go Go.RowKit sl

theorem one_newI (w : World) (v : Value) (T : TypeId) : ∀ (j : Nat) u, [v][j]? = some u → (w.alloc (.cells #[v] T)).cell? ((⟨w.heap.size, 0, none⟩ : Addr).add j) = some u := by
  intro j x hj
  rw [add_lit, cell_of_row _ _ _ _ _ _ (heap_alloc_new w _)]
  simpa using hj
theorem one_newB (w : World) (g : Nat) (v : Value) (T : TypeId) (hg : g = w.heap.size) : ∀ (j : Nat) u, [v][j]? = some u → (w.alloc (.cells #[v] T)).cell? ((⟨g, 0, none⟩ : Addr).add j) = some u := by
  subst hg
  exact one_newI w v T
theorem one_cellI {v : Value} (h : v.oneCell' = true) : ∀ u ∈ [v], u.oneCell' = true := by
  intro u hu
  rw [List.mem_singleton.1 hu]
  exact h
theorem flat_snoc (xs : List Int) (n : Int) : (xs ++ [n]).flatMap intS.C = xs.flatMap intS.C ++ [.int .i64 n] := by simp [intS.C]
end Go.Proofs.Ytfnlgpnocodonaa.fold
