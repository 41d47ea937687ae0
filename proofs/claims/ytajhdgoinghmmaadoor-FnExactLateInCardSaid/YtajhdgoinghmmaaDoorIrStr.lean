/-
  The program's start of an order in plain words: eight places, how many are used, level, minute and sum; its cells, and such a one in a block.
-/
import Derived.Test.YtajhdgoinghmmaaDoorJoin14
import Derived.Test.YtajhdgoinghmmaaDoorRowAt
import Derived.Test.YtajhdgoinghmmaaDoorStill
import Derived.Test.YtajhdgoinghmmaaDoorResRow
import Derived.Deep.MidRow
namespace Go.Proofs.YtajhdgoinghmmaaDoor.iron
open Go Go.RowKit sl row

abbrev Str := Nat → Int
def cellR (f : Str) (j : Nat) : Value := if j < 8 then .int .i8 (f j) else if j = 9 then .int .i8 (f j) else .int .i64 (f j)
def strCs (f : Str) : Array Value := (lst 12 (cellR f)).toArray
abbrev strV (f : Str) : Value := .agg (strCs f)
theorem cellR_low (f : Str) {j : Nat} (h : j < 8) : cellR f j = .int .i8 (f j) := by unfold cellR; rw [if_pos h]
theorem cellR_8 (f : Str) : cellR f 8 = .int .i64 (f 8) := rfl
theorem cellR_9 (f : Str) : cellR f 9 = .int .i8 (f 9) := rfl
theorem cellR_10 (f : Str) : cellR f 10 = .int .i64 (f 10) := rfl
theorem cellR_11 (f : Str) : cellR f 11 = .int .i64 (f 11) := rfl
theorem cellR_one (f : Str) (j : Nat) : (cellR f j).oneCell' = true := by unfold cellR; split; rfl; split <;> rfl
theorem cellR_congr {f g : Str} {j : Nat} (h : f j = g j) : cellR f j = cellR g j := by unfold cellR; rw [h]
theorem strCs_size (f : Str) : (strCs f).size = 12 := by simp [strCs, lst_len]
theorem strCs_one (f : Str) : (strCs f).all (·.oneCell') = true := lst_one fun j _ => cellR_one f j
theorem strV_congr {f g : Str} (h : ∀ j, j < 12 → f j = g j) : strV f = strV g := by
  unfold strV strCs
  rw [lst_congr (d := cellR g) fun j hj => cellR_congr (h j hj)]
abbrev zeroR : Str := fun _ => 0
theorem infoR : (Tryd.prog.info? 76).map (·.size) = some 12 := by kernel_rfl
theorem zeroRi : (Tryd.prog.info? 76).map (fun i => (i.zero, i.size)) = some (some (.agg (strCs zeroR)), 12) := by kernel_rfl

abbrev StrAt (u : World) (b p : Nat) (f : Str) : Prop := RowAt u b p 12 (cellR f)
abbrev StrOwn (u : World) (b p : Nat) (f : Str) : Prop := RowOwn u b p 12 (cellR f)
section
variable {ops : Array Oper} {rest : List Oper} {op : Oper} {a : Act} {u : World} {Q : Exit → Act → World → Prop}
/-- a start, read and written, as a walk meets it -/
theorem wpl_load_str (hgd : op.guard = none) (x : Operand) (ho : op.op = .load 76 x) (b p : Nat) (hx : a.eval x = .pointer (some ⟨b, p, none⟩))
    {f : Str} (h : StrAt u b p f) (hK : wpList Tryd.prog ops Q rest (a.put op.dst (strV f)) u) : wpList Tryd.prog ops Q (op :: rest) a u :=
  wpList_load_mid hgd 76 x ho b p hx (lst 12 (cellR f)) _ h.range Tryd.underlying76 rfl (by rw [infoR, lst_len]) hK
theorem wpl_store_str (hgd : op.guard = none) (x y : Operand) (ho : op.op = .store 76 x y) (b p : Nat) (hx : a.eval x = .pointer (some ⟨b, p, none⟩))
    {f g : Str} (hy : a.eval y = strV f) (ht : StrOwn u b p g) (hK : wpList Tryd.prog ops Q rest (a.put op.dst undef) (u.setCells b p (lst 12 (cellR f)))) : wpList Tryd.prog ops Q (op :: rest) a u :=
  wpList_store_mid hgd 76 x y ho b p (strCs f) hx hy (by rw [strCs_size]; exact ht.there) (by rw [infoR, strCs_size]) (strCs_one f) hK
end
theorem StrOwn.new (w : World) (f : Str) (T : TypeId) : StrOwn (w.alloc (.cells (strCs f) T)) w.heap.size 0 f := RowOwn.new w 12 (cellR f) T
theorem StrOwn.stored {u : World} {b p : Nat} {g : Str} (h : StrOwn u b p g) (f : Str) : StrOwn (u.setCells b p (lst 12 (cellR f))) b p f :=
  (RowOwn.sets (o := 0) (m := 12) h (by omega) (cellR f)).to fun j hj => by rw [if_pos (by omega), Nat.sub_zero]

/-- an order's start: its pieces, and what has come of them -/
def strOf (os : List Int) (s : Sta) : Str := fun j => if j < 8 then (match os[j]? with | some i => i + 1 | none => 0) else if j = 8 then (os.length : Int) else if j = 9 then s.lev else if j = 10 then s.at_ else s.sum
theorem strOf_8 (os : List Int) (s : Sta) : strOf os s 8 = (os.length : Int) := rfl
theorem strOf_9 (os : List Int) (s : Sta) : strOf os s 9 = s.lev := rfl
theorem strOf_10 (os : List Int) (s : Sta) : strOf os s 10 = s.at_ := rfl
theorem strOf_11 (os : List Int) (s : Sta) : strOf os s 11 = s.sum := rfl
theorem strOf_low (os : List Int) (s : Sta) {j : Nat} (h : j < 8) {i : Int} (hi : os[j]? = some i) : strOf os s j = i + 1 := by unfold strOf; rw [if_pos h, hi]
theorem strOf_none (os : List Int) (s : Sta) {j : Nat} (h : j < 8) (hi : os.length ≤ j) : strOf os s j = 0 := by unfold strOf; rw [if_pos h, List.getElem?_eq_none hi]
theorem strOf_zero : strOf [] sta0 = zeroR := by
  funext j
  unfold strOf sta0
  split
  · simp
  · split
    · rfl
    · split
      · rfl
      · split <;> rfl
/-- the five stores that add a piece -/
theorem strOf_snoc (os : List Int) (h8 : os.length < 8) (s t : Sta) (i : Int) : ∀ j, j < 12 →
    (if j = 8 then (.int .i64 (((os.length : Nat) : Int) + 1)) else if j = os.length then .int .i8 (i + 1) else if j = 9 then .int .i8 t.lev else if j = 11 then .int .i64 t.sum else if j = 10 then .int .i64 t.at_ else cellR (strOf os s) j) = cellR (strOf (os ++ [i]) t) j := by
  intro j hj
  by_cases e8 : j = 8
  · subst e8
    rw [if_pos rfl, cellR_8, strOf_8]
    simp
  · rw [if_neg e8]
    by_cases el : j = os.length
    · subst el
      rw [if_pos rfl, cellR_low _ h8, strOf_low _ _ h8 (by simp : (os ++ [i])[os.length]? = some i)]
    · rw [if_neg el]
      by_cases e9 : j = 9
      · subst e9; rfl
      · rw [if_neg e9]
        by_cases e11 : j = 11
        · subst e11; rfl
        · rw [if_neg e11]
          by_cases e10 : j = 10
          · subst e10; rfl
          · rw [if_neg e10]
            have hj8 : j < 8 := by omega
            refine cellR_congr ?_
            unfold strOf
            rw [if_pos hj8, if_pos hj8]
            rcases Nat.lt_or_ge j os.length with h | h
            · rw [List.getElem?_append_left h]
            · rw [List.getElem?_eq_none h, List.getElem?_eq_none (by simp; omega)]
end Go.Proofs.YtajhdgoinghmmaaDoor.iron
