/-
  The members of a set of bits, ascending: the program's iterator membersOf.
-/
import Derived.RangeFuncNested
import Derived.RangeFuncBound
import Derived.RangeFuncCalls
import Derived.RangeFuncLeaves
import Derived.Shelf.Abstract
import Derived.Shelf.RegionOpen
import Derived.WalkKit
import Derived.OwnWalkIn
import Derived.TacticsInMore
import Derived.LoopNIn
import Derived.LoopIn
import Derived.Lib.BitFns
import Derived.Lib.Strings
import Derived.Lib.Slices
import Derived.Lib.Small
import Derived.Lib.Walk
import Derived.Laws.BitsLemmas
import Derived.Test.YtdafnibmoggcnaaDoorProg
namespace Go.Proofs.YtdafnibmoggcnaaDoor.mem
open Go Go.RowKit Go.Shelf
attribute [local go_sem] Oper.semAt_some

/-- the members of a set, ascending -/
def memb (n : Nat) : List Nat := (List.range 8).filter n.testBit
theorem memb_step : ∀ n : Fin 256, n.val ≠ 0 → memb n.val = Lib.trailingZeros8 n.val :: memb (n.val &&& (n.val - 1)) := by decide +kernel
theorem memb_zero : memb 0 = [] := by decide +kernel
theorem memb_len (n : Nat) : (memb n).length ≤ 8 := by
  have h := List.length_filter_le n.testBit (List.range 8)
  rw [List.length_range] at h
  exact h
theorem memb_mem {n i : Nat} : i ∈ memb n ↔ i < 8 ∧ n.testBit i = true := by simp [memb]
/-- a member -/
abbrev Mem (n : Nat) := { i : Nat // i < 8 ∧ n.testBit i = true }
/-- their numbers -/
def ids {n : Nat} (l : List (Mem n)) : List Nat := l.map (·.1)
theorem ids_snoc {n : Nat} (l : List (Mem n)) (x : Mem n) : ids (l ++ [x]) = ids l ++ [x.1] := by simp [ids]
theorem ids_len {n : Nat} (l : List (Mem n)) : (ids l).length = l.length := by simp [ids]
abbrev encM {n : Nat} (x : Mem n) : Array Value := #[.int .i64 (x.1 : Int)]

theorem ntz8_wrap (x : Int) (h0 : 0 ≤ x) (h1 : x ≤ 255) : wrap64 (Lib.ntz8 x) = (Lib.trailingZeros8 x.toNat : Int) := by
  have h := Lib.ntz8_int x h0 h1
  have e := Lib.ntz8_eq ⟨x.toNat, by omega⟩
  have l := Lib.trailingZeros8_le8 ⟨x.toNat, by omega⟩
  simp only [Int.toNat_of_nonneg h0] at e l
  rw [e]
  unfold wrap64
  omega
theorem tz_any (x : Int) (h0 : 0 ≤ x) (h1 : x ≤ 255) (w : World) :
    Calls Tryd.prog 79 #[.int .u8 x] w fun e w' => e = .returned (.int .i64 (Lib.trailingZeros8 x.toNat)) ∧ w' = w := by
  have hw := ntz8_wrap x h0 h1
  go_enter Tryd.func79, Tryd.ntmps79
  go_wp2
  go_ret
  rw [hw]
  exact ⟨rfl, rfl⟩

theorem members_any (set : Int) (w : World) :
    Calls Tryd.prog 67 #[.int .u8 set] w fun e w' => e = .returned (.func (.func 78) #[] #[.pointer (some ⟨w.heap.size, 0, none⟩)]) ∧ w' = w.alloc (.cells #[.int .u8 set] 5) := by
  go_enter Tryd.func67, Tryd.ntmps67
  go_wp2
  go_ret
  exact ⟨rfl, rfl⟩

set_option maxRecDepth 100000 in
set_option maxHeartbeats 2000000 in
theorem members1_in (n : Nat) (hn : 1 ≤ n) (l Bs n₀ : Nat) (set : Nat) (hset : set < 256) (J Jx : List (Mem set) → World → Prop)
    (hY : ∀ pre x W, J pre W → pre.length < 8 → YieldAt Fence.wide (n - 1) Tryd.prog l #[.int .i64 (x.1 : Int)] W fun e W' =>
      (e = .returned (.bool true) ∧ J (pre ++ [x]) W' ∧ Below n₀ W W') ∨ (e = .returned (.bool false) ∧ Jx (pre ++ [x]) W'))
    (W : World) (hBs : W.cell? ⟨Bs, 0, none⟩ = some (.int .u8 set)) (h0 : J [] W) :
    CallsIn Fence.wide n Tryd.prog 78 #[.func (.yield l) #[] #[], .pointer (some ⟨Bs, 0, none⟩)] W fun e W' => (∃ v, e = .returned v) ∧
      ((∃ ys : List (Mem set), ids ys = memb set ∧ J ys W') ∨ (∃ pre : List (Mem set), ids pre <+: memb set ∧ Jx pre W')) := by
  refine callsIn_of_wp Tryd.func78 rfl trivial ?_ rfl
  simp only [Tryd.ntmps78, List.size_toArray, List.length_cons, List.length_nil, Nat.reduceAdd, Nat.reduceSub, Array.replicate_succ, Array.replicate_zero, List.push_toArray, List.append_toArray, List.nil_append, List.cons_append]
  gi_wp2
  gi_loopw [3] (fun v wr => ∃ (r : Nat) (pre : List (Mem set)), r < 256 ∧ v = .int .u8 r ∧ memb set = ids pre ++ memb r ∧ J pre wr) (fun v _ => (intOf v).toNat)
  case atStart => exact ⟨set, [], hset, rfl, rfl, h0⟩
  case round =>
    obtain ⟨r, pre, hr, rfl, hm, hJs⟩ := hrel
    by_cases hz : r = 0
    · subst hz
      gi_wp2
      go_end0
      exact ⟨⟨_, rfl⟩, .inl ⟨pre, by rw [hm, memb_zero, List.append_nil], hJs⟩⟩
    · have hs := memb_step ⟨r, hr⟩ hz
      simp only at hs
      have hx := memb_mem.1 (show Lib.trailingZeros8 r ∈ memb set by rw [hm, hs]; simp)
      have hlen : pre.length < 8 := by
        have h1 := memb_len set
        rw [hm, hs, List.length_append, ids_len, List.length_cons] at h1
        omega
      have hand : bits BinOp.and IntKind.u8 (r : Int) ((r : Int) - 1) = ((r &&& (r - 1) : Nat) : Int) := by
        have e : (r : Int) - 1 = ((r - 1 : Nat) : Int) := by omega
        rw [e]
        exact (bits_nat .u8 8 (by decide) (fun n h0 h1 => by rw [IntKind.wrap_u8]; omega) r (r - 1) (by omega) (by omega)).1
      have hrz : ((r : Int) != 0) = true := by rw [bne_iff_ne]; omega
      have hrn : ¬ (r : Int) = 0 := by omega
      obtain ⟨fn, tmps, assign, body, hy, hR⟩ := hY pre ⟨_, hx⟩ wr hJs hlen
      dsimp only at hy
      gi_wp2_with (refine ⟨trivial, ?_⟩; gi_at_call 79; refine (callsIn_wide.2 (tz_any (r : Int) (by omega) (by omega) _)).mono ?_; rintro e w2 ⟨rfl, rfl⟩)
      refine hR.mono ?_
      rintro e W3 (⟨rfl, hJ3, hk3⟩ | ⟨rfl, hJx3⟩)
      · gi_wp2
        go_roundw
        case rel => exact ⟨r &&& (r - 1), pre ++ [⟨_, hx⟩], Nat.lt_of_le_of_lt Nat.and_le_left hr, rfl, by rw [hm, hs, ids_snoc]; simp, hJ3⟩
        case measure =>
          have h1 := Nat.and_le_right (n := r) (m := r - 1)
          simp [intOf]
          omega
      · gi_wp2
        refine bodyPost_ret (results_none rfl _ _ _) rfl ?_
        exact ⟨⟨_, rfl⟩, .inr ⟨pre ++ [⟨_, hx⟩], by rw [hm, hs, ids_snoc]; simp, hJx3⟩⟩
/-- membersOf's value, at a loop body that keeps what lay below n₀ -/
theorem members_stops (n : Nat) (hn : 1 ≤ n) (Bs n₀ set : Nat) (hset : set < 256) (w : World) (hB : Bs < w.heap.size) (hc : w.cell? ⟨Bs, 0, none⟩ = some (.int .u8 set)) :
    SeqStopsK Fence.wide n Tryd.prog 78 #[.pointer (some ⟨Bs, 0, none⟩)] (fun x : Mem set => #[Value.int .i64 (x.1 : Int)]) (Below n₀) (fun ys => ids ys = memb set) (fun pre => ids pre <+: memb set) 8 w := fun l J Jx W hW _ _ hY h0 =>
  members1_in n hn l Bs n₀ set hset J Jx hY W ((hW.cell (p := ⟨Bs, 0, none⟩) hB).trans hc) h0
end Go.Proofs.YtdafnibmoggcnaaDoor.mem
