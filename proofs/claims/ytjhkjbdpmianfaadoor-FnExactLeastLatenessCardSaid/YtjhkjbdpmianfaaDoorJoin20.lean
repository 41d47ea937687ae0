/-
  Several texts of this proof, joined.
-/
import Derived.Test.YtjhkjbdpmianfaaDoorJoin19
import Derived.Test.YtjhkjbdpmianfaaDoorJoin16
import Derived.Deep.LoopGhost
import Derived.Test.YtjhkjbdpmianfaaDoorJoin18
import Derived.Test.YtjhkjbdpmianfaaDoorJoin15
/-
  NearestOrder, the program's.
-/
namespace Go.Proofs.YtjhkjbdpmianfaaDoor.iron
open Go Go.RowKit sl stk errs row ins

end Go.Proofs.YtjhkjbdpmianfaaDoor.iron

/-
  NearestOrder, the model's.
-/
namespace Go.Proofs.YtjhkjbdpmianfaaDoor.iron
open Go Go.RowKit sl stk errs row fold ins

/-- how long a piece takes that is taken next -/
def byP (x : Iro) (ps : List Pie) (s : Sta) (k : Nat) : Int := chg x s.lev (ptv ps k).lev + (ptv ps k).mins
theorem nxt_by (x : Iro) (ps : List Pie) (s : Sta) (k : Nat) : nxt x ps s k = s.at_ + byP x ps s k := by
  unfold nxt byP Sta.step
  simp only
  omega
def bstI : Option Nat → Int
  | none => -1
  | some j => j
def lstI (x : Iro) (ps : List Pie) (s : Sta) : Option Nat → Int
  | none => 0
  | some j => byP x ps s j
theorem pick_in {x : Iro} {ps : List Pie} {os : List Int} {s : Sta} {k : Nat} (h : (k : Int) ∈ os) : pickK x ps os s (k + 1) = pickK x ps os s k := by rw [pickK, if_pos h]
theorem pick_none {x : Iro} {ps : List Pie} {os : List Int} {s : Sta} {k : Nat} (h : (k : Int) ∉ os) (hn : pickK x ps os s k = none) : pickK x ps os s (k + 1) = some k := by rw [pickK, if_neg h, hn]
theorem pick_less {x : Iro} {ps : List Pie} {os : List Int} {s : Sta} {k j : Nat} (h : (k : Int) ∉ os) (hn : pickK x ps os s k = some j) (hl : byP x ps s k < byP x ps s j) : pickK x ps os s (k + 1) = some k := by
  rw [pickK, if_neg h, hn]
  simp only
  rw [if_pos (by rw [nxt_by, nxt_by]; omega)]
theorem pick_more {x : Iro} {ps : List Pie} {os : List Int} {s : Sta} {k j : Nat} (h : (k : Int) ∉ os) (hn : pickK x ps os s k = some j) (hl : ¬ byP x ps s k < byP x ps s j) : pickK x ps os s (k + 1) = some j := by
  rw [pickK, if_neg h, hn]
  simp only
  rw [if_neg (by rw [nxt_by, nxt_by]; omega)]
abbrev TN (x : Iro) (y : Pie) (p : Addr) (w u : World) : Prop := u.cell? ⟨w.heap.size, 0, none⟩ = some (.int .i8 x.up) ∧ u.cell? ⟨w.heap.size, 1, none⟩ = some (.int .i8 x.down) ∧ u.cell? p = some (.int .i8 y.lev) ∧ u.cell? ⟨p.block, p.off + 1, none⟩ = some (.int .i8 y.mins)
theorem TN.next {x : Iro} {y : Pie} {p : Addr} {w u v : World} (h : TN x y p w u) (hz : w.heap.size < u.heap.size) (hp : p.block < u.heap.size) (hb : Below u.heap.size u v) : TN x y p w v :=
  ⟨(hb.cell (p := ⟨_, 0, none⟩) hz).trans h.1, (hb.cell (p := ⟨_, 1, none⟩) hz).trans h.2.1, (hb.cell (p := p) hp).trans h.2.2.1, (hb.cell (p := ⟨p.block, p.off + 1, none⟩) hp).trans h.2.2.2⟩
end Go.Proofs.YtjhkjbdpmianfaaDoor.iron
