/-
  Several texts of this proof, joined.
-/
import Derived.Test.YtjfimmfnhlimkaaDoorJoin13
import Derived.Test.YtjfimmfnhlimkaaDoorCupF
import Derived.Laws.AppendOwnNone
import Derived.Lib.SliceRun
import Derived.Test.YtjfimmfnhlimkaaDoorJoin14
/-
  Rows that are copied, the program's way and the model's.
-/
namespace Go.Proofs.YtjfimmfnhlimkaaDoor.rows
open Go Go.RowKit sl fold

theorem i64cell (xs : List Int) : ∀ u ∈ xs.flatMap intS.C, u.oneCell' = true := by
  intro u hu
  obtain ⟨x, _, hx⟩ := List.mem_flatMap.1 hu
  rw [List.mem_singleton.1 hx]
  rfl
theorem Sl.cells {w : World} {B : Nat} {a : Addr} {xs : List Int} (h : Sl intS.C 1 w B (some a) xs) : ∀ (j : Nat) u, (xs.flatMap intS.C)[j]? = some u → w.cell? (a.add j) = some u := by
  intro j u hu
  have hl := (List.getElem?_eq_some_iff.1 hu).1
  rw [flat_len (sz := 1) (fun y _ => rfl), Nat.mul_one] at hl
  obtain ⟨a', e, _, hat⟩ := h.at_ j xs[j] (List.getElem?_eq_getElem hl)
  obtain rfl := Option.some.inj e
  have h1 := intS.at_ hat
  have h2 := flat_get (fun y _ => rfl : ∀ y ∈ xs, (intS.C y).length = 1) (List.getElem?_eq_getElem hl) (j := 0) (v := .int .i64 xs[j]) rfl
  rw [Nat.mul_one, Nat.add_zero] at h2
  rw [h2] at hu
  rw [← Option.some.inj hu]
  exact h1
theorem Sl.none_nil {w : World} {B : Nat} {xs : List Int} (h : Sl intS.C 1 w B none xs) : xs = [] := by
  cases xs with
  | nil => rfl
  | cons x t =>
    obtain ⟨a, e, _⟩ := h.at_ 0 x rfl
    cases e
end Go.Proofs.YtjfimmfnhlimkaaDoor.rows

/-
  Cupboards copied, the model's.
-/
namespace Go.Proofs.YtjfimmfnhlimkaaDoor.rows
open Go Go.RowKit sl fold

theorem infoRow : (Tryd.prog.info? 101).map (fun i => (i.zero, i.size, i.bytes)) = some (some (.slice none 0 0), 1, 24) := by kernel_rfl
/-- a block of rows is no block of numbers -/
theorem rows_ne {w : World} {base base' : Nat} {r : Rw} {v : Value} {n : Nat} {L : List Value} (h : Own1 w base r) (h' : w.ownsRow base' 101 1 v n L) : ∀ k, r.v.ownBlock = some k → v.ownBlock ≠ some k := by
  intro k hk hv
  rcases h with ⟨hA, _, _⟩ | ⟨g, o, cur, hA, hb, hg, _⟩
  · rw [Rw.v, hA] at hk
    simp [Value.ownBlock] at hk
  · rw [Rw.v, hA] at hk
    simp only [Value.ownBlock, Option.some.injEq] at hk
    subst hk
    rcases h'.2 with ⟨rfl, _⟩ | ⟨g', cap, cu, rfl, _, hg', _⟩
    · simp [Value.ownBlock] at hv
    · simp only [Value.ownBlock, Option.some.injEq] at hv
      subst hv
      rw [hg] at hg'
      simp at hg'
/-- rows of the call's own, behind a value -/
structure OV (w : World) (base : Nat) (v : Value) (rs : List Rw) : Prop where
  outer : w.ownsRow base 101 1 v rs.length (rs.map Rw.v)
  each : ∀ r ∈ rs, Own1 w base r
  dist : (rs.map Rw.v).Pairwise fun a b => ∀ k, a.ownBlock = some k → b.ownBlock ≠ some k
theorem OV.next {w w' : World} {base : Nat} {v : Value} {rs : List Rw} (h : OV w base v rs) (hb : Below w.heap.size w w') : OV w' base v rs :=
  ⟨owns_next h.outer hb, fun r hr => (h.each r hr).next hb, h.dist⟩
theorem OV.ot {w : World} {base : Nat} {A : Option Addr} {c : Nat} {rs : List Rw} (h : OV w base (.slice A rs.length c) rs) : OT w base A c rs :=
  ⟨h.outer, h.each, h.dist, fun v hv k hk => by
    obtain ⟨r, hr, rfl⟩ := List.mem_map.1 hv
    exact rows_ne (h.each r hr) h.outer k hk⟩
/-- one more row -/
theorem OV.snoc {w w1 w' : World} {base : Nat} {v v' : Value} {rs : List Rw} {r : Rw} (h : OV w base v rs) (hb : Below w.heap.size w w1) (hr : Own1 w1 base r) (hnew : ∀ k, r.v.ownBlock = some k → w.heap.size ≤ k) (hg : w1.grownBy w' v.ownBlock)
    (ho : w'.ownsRow base 101 1 v' (rs.length + 1) (rs.map Rw.v ++ [r.v])) : OV w' base v' (rs ++ [r]) := by
  have h1 := h.next hb
  have keep : ∀ x, Own1 w1 base x → Own1 w' base x := fun x hx => hx.keep fun g hg' => hg.block g (hx.at_lt g hg').2 (fun e => rows_ne hx h1.outer g hg' e.symm)
  refine ⟨by simpa using ho, fun x hx => ?_, ?_⟩
  · rcases List.mem_append.1 hx with h2 | h2
    · exact keep x (h1.each x h2)
    · obtain rfl := List.mem_singleton.1 h2
      exact keep x hr
  · rw [List.map_append, List.map_cons, List.map_nil]
    refine List.pairwise_append.2 ⟨h.dist, List.pairwise_singleton _ _, fun a ha b hb' k hk e => ?_⟩
    obtain rfl := List.mem_singleton.1 hb'
    obtain ⟨x, hx, rfl⟩ := List.mem_map.1 ha
    have h2 := ((h.each x hx).at_lt k hk).2
    have h3 := hnew k e
    omega
end Go.Proofs.YtjfimmfnhlimkaaDoor.rows

/-
  Cupboards copied, the program's.
-/
namespace Go.Proofs.YtjfimmfnhlimkaaDoor.rows
open Go Go.RowKit sl fold cup

end Go.Proofs.YtjfimmfnhlimkaaDoor.rows

/-
  Cupboards copied, the program's: each row at the start of its block.
-/
namespace Go.Proofs.YtjfimmfnhlimkaaDoor.rows
open Go Go.RowKit sl fold cup

end Go.Proofs.YtjfimmfnhlimkaaDoor.rows

/-
  Cupboards copied, the model's: each row at the start of its block.
-/
namespace Go.Proofs.YtjfimmfnhlimkaaDoor.rows
open Go Go.RowKit sl fold cup

/-- rows of the call's own, behind a value -/
structure OW (w : World) (base : Nat) (v : Value) (rs : List Rw) : Prop where
  outer : w.ownsRow base 101 1 v rs.length (rs.map Rw.v)
  each : ∀ r ∈ rs, w.ownsRow base 2 1 r.v r.xs.length (r.xs.flatMap intS.C)
  dist : (rs.map Rw.v).Pairwise fun a b => ∀ k, a.ownBlock = some k → b.ownBlock ≠ some k
theorem OW.next {w w' : World} {base : Nat} {v : Value} {rs : List Rw} (h : OW w base v rs) (hb : Below w.heap.size w w') : OW w' base v rs :=
  ⟨owns_next h.outer hb, fun r hr => owns_next (h.each r hr) hb, h.dist⟩
theorem OW.os {w : World} {base : Nat} {A : Option Addr} {c : Nat} {rs : List Rw} (h : OW w base (.slice A rs.length c) rs) : OS w base A c rs :=
  ⟨by rw [flat_v]; exact h.outer, h.each, List.pairwise_map.1 h.dist, fun r hr => rows_ne (Own1.of_owns (h.each r hr)) h.outer, fun r hr => (Own1.of_owns (h.each r hr)).short⟩
/-- one more row -/
theorem OW.snoc {w w1 w' : World} {base : Nat} {v v' : Value} {rs : List Rw} {r : Rw} (h : OW w base v rs) (hb : Below w.heap.size w w1) (hr : w1.ownsRow base 2 1 r.v r.xs.length (r.xs.flatMap intS.C)) (hnew : ∀ k, r.v.ownBlock = some k → w.heap.size ≤ k) (hg : w1.grownBy w' v.ownBlock)
    (ho : w'.ownsRow base 101 1 v' (rs.length + 1) (rs.map Rw.v ++ [r.v])) : OW w' base v' (rs ++ [r]) := by
  have h1 := h.next hb
  have keep : ∀ x : Rw, w1.ownsRow base 2 1 x.v x.xs.length (x.xs.flatMap intS.C) → w'.ownsRow base 2 1 x.v x.xs.length (x.xs.flatMap intS.C) := fun x hx => owns_but hx ⟨hg.os, hg.tape, hg.output, hg.size, fun k hk hS => hg.block k hk hS⟩ (fun g hg' e => rows_ne (Own1.of_owns hx) h1.outer g hg' e.symm)
  refine ⟨by simpa using ho, fun x hx => ?_, ?_⟩
  · rcases List.mem_append.1 hx with h2 | h2
    · exact keep x (h1.each x h2)
    · obtain rfl := List.mem_singleton.1 h2
      exact keep _ hr
  · rw [List.map_append, List.map_cons, List.map_nil]
    refine List.pairwise_append.2 ⟨h.dist, List.pairwise_singleton _ _, fun a ha b hb' k hk e => ?_⟩
    obtain rfl := List.mem_singleton.1 hb'
    obtain ⟨x, hx, rfl⟩ := List.mem_map.1 ha
    have h2 := ((h.each x hx).lt k hk).2
    have h3 := hnew k e
    omega
end Go.Proofs.YtjfimmfnhlimkaaDoor.rows

/-
  The lowest sheet of a pile is taken.
-/
namespace Go.Proofs.YtjfimmfnhlimkaaDoor.rows
open Go Go.RowKit sl fold cup

/-- one row lies elsewhere now -/
theorem OT.put {w : World} {base g : Nat} {c : Nat} {pre post : List Rw} {r r' : Rw} (h : OT w base (some ⟨g, 0, none⟩) c (pre ++ r :: post)) (h' : Own1 w base r') (hv : ∀ k, r'.v.ownBlock = some k → r.v.ownBlock = some k) :
    OT (w.setCell ⟨g, pre.length, none⟩ r'.v) base (some ⟨g, 0, none⟩) c (pre ++ r' :: post) ∧ w.grownBy (w.setCell ⟨g, pre.length, none⟩ r'.v) (some g) := by
  have hl : (pre ++ r' :: post).length = (pre ++ r :: post).length := by simp
  have hst := h.outer.stored pre.length r'.v
  have hset : ((pre ++ r :: post).map Rw.v).set pre.length r'.v = (pre ++ r' :: post).map Rw.v := by
    rw [List.map_append, List.map_cons, List.set_append_right _ _ (by simp)]
    simp
  rw [hset] at hst
  have keep : ∀ x, Own1 w base x → (∀ k, x.v.ownBlock = some k → k ≠ g) → Own1 (w.setCell ⟨g, pre.length, none⟩ r'.v) base x := fun x hx hne => hx.keep fun k hk => hst.2.block k (hx.at_lt k hk).2 (fun e => hne k hk (Option.some.inj e))
  have hoff : ∀ x ∈ pre ++ r :: post, ∀ k, x.v.ownBlock = some k → k ≠ g := fun x hx k hk e => h.off x.v (List.mem_map_of_mem hx) k hk (by subst e; rfl)
  have hd := h.dist
  rw [List.map_append, List.map_cons, List.pairwise_append, List.pairwise_cons] at hd
  obtain ⟨d0, ⟨d1, d2⟩, d3⟩ := hd
  refine ⟨⟨by rw [hl]; exact hst.1, fun x hx => ?_, ?_, fun v hx k hk => ?_⟩, hst.2⟩
  · rcases List.mem_append.1 hx with h1 | h1
    · exact keep x (h.each x (List.mem_append_left _ h1)) (hoff x (List.mem_append_left _ h1))
    · rcases List.mem_cons.1 h1 with rfl | h1
      · exact keep _ h' fun k hk => hoff r (by simp) k (hv k hk)
      · exact keep x (h.each x (List.mem_append_right _ (List.mem_cons_of_mem _ h1))) (hoff x (List.mem_append_right _ (List.mem_cons_of_mem _ h1)))
  · rw [List.map_append, List.map_cons, List.pairwise_append, List.pairwise_cons]
    refine ⟨d0, ⟨fun b hb k hk => d1 b hb k (hv k hk), d2⟩, fun a ha b hb k hk e => ?_⟩
    rcases List.mem_cons.1 hb with rfl | hb
    · exact d3 a ha r.v (List.mem_cons_self ..) k hk (hv k e)
    · exact d3 a ha b (List.mem_cons_of_mem _ hb) k hk e
  · rw [hl]
    obtain ⟨x, hxm, rfl⟩ := List.mem_map.1 hx
    rcases List.mem_append.1 hxm with h1 | h1
    · exact h.off x.v (List.mem_map_of_mem (List.mem_append_left _ h1)) k hk
    · rcases List.mem_cons.1 h1 with rfl | h1
      · exact h.off r.v (by simp) k (hv k hk)
      · exact h.off x.v (List.mem_map_of_mem (List.mem_append_right _ (List.mem_cons_of_mem _ h1))) k hk
/-- the rows, the k-th of them parted off -/
theorem rows_at {rs : List Rw} {k : Nat} {xs : List Int} (h : (nums rs)[k]? = some xs) : ∃ pre r post, rs = pre ++ r :: post ∧ pre.length = k ∧ r.xs = xs := by
  simp only [nums, List.getElem?_map, Option.map_eq_some_iff] at h
  obtain ⟨r, hr, e⟩ := h
  have hk := (List.getElem?_eq_some_iff.1 hr).1
  refine ⟨rs.take k, r, rs.drop (k + 1), ?_, by simp; omega, e⟩
  have h1 : rs.drop k = r :: rs.drop (k + 1) := by
    rw [List.drop_eq_getElem_cons hk]
    congr 1
    exact Option.some.inj ((List.getElem?_eq_getElem hk).symm.trans hr)
  rw [← h1, List.take_append_drop]
/-- where a row of the call's own starts -/
theorem Own1.start {w : World} {base : Nat} {r : Rw} {x : Int} {t : List Int} (h : Own1 w base r) (hx : r.xs = x :: t) : ∃ g o, r.A = some ⟨g, o, none⟩ ∧ w.cell? ⟨g, o, none⟩ = some (.int .i64 x) := by
  rcases h with ⟨_, _, e⟩ | ⟨g, o, cur, hA, hb, hg, h1, h2, h3, h4⟩
  · rw [e] at hx
    cases hx
  · refine ⟨g, o, hA, ?_⟩
    rw [cell_of_row _ _ _ _ _ _ hg]
    have := h4 0 x (by rw [hx]; rfl)
    rwa [Nat.add_zero] at this
theorem Own1.tail2 {w : World} {base : Nat} {g o c : Nat} {x : Int} {xs : List Int} (h : Own1 w base ⟨some ⟨g, o, none⟩, c, x :: xs⟩) {o2 : Nat} (ho : o2 = if c = 1 then o else o + 1) : Own1 w base ⟨some ⟨g, o2, none⟩, c - 1, xs⟩ := by
  by_cases h1 : c = 1
  · rw [if_pos h1] at ho
    subst ho h1
    rcases h with ⟨h, _⟩ | ⟨g', o', cur, hA, hb, hg, k1, k2, k3, k4⟩
    · cases h
    · simp only [Option.some.injEq, Addr.mk.injEq, and_true] at hA
      obtain ⟨rfl, rfl⟩ := hA
      simp only [List.length_cons] at k1 k2 k3
      have : xs = [] := List.length_eq_zero_iff.1 (by omega)
      subst this
      exact .inr ⟨g, o2, cur, rfl, hb, hg, by simp, by simp, by simp only; omega, fun j y hy => by simp at hy⟩
  · rw [if_neg h1] at ho
    subst ho
    exact h.tail
end Go.Proofs.YtjfimmfnhlimkaaDoor.rows

/-
  TakeSheet, the model's.
-/
namespace Go.Proofs.YtjfimmfnhlimkaaDoor.rows
open Go Go.RowKit sl fold cup

theorem OT.nil0 (w : World) (base : Nat) : OT w base none 0 [] := ⟨World.ownsRow_nil w base 101 1, (fun r hr => by cases hr), List.Pairwise.nil, (fun v hv => by cases hv)⟩
theorem OT.empty (w : World) {base : Nat} (hb : base ≤ w.heap.size) : OT (w.alloc (.cells #[] 101)) base (some ⟨w.heap.size, 0, none⟩) 0 [] :=
  ⟨World.ownsRow_made w #[] 0 hb (Nat.zero_le _) rfl, (fun r hr => by cases hr), List.Pairwise.nil, (fun v hv => by cases hv)⟩
/-- what is there when the lowest number of a row is taken -/
theorem take_facts {u : World} {base : Nat} {A : Option Addr} {n c p : Nat} {x : Int} {t : List Int} {rs : List Rw} (hO : OT u base A c rs) (hl : rs.length = n) (hp : (nums rs)[p]? = some (x :: t)) :
    ∃ g g1 o1 rc m, A = some ⟨g, 0, none⟩ ∧ u.cell? ⟨g, p, none⟩ = some (.slice (some ⟨g1, o1, none⟩) (m + 1) rc) ∧ u.frozen? ⟨g, p, none⟩ = false ∧ u.cell? ⟨g1, o1, none⟩ = some (.int .i64 x) ∧ m + 1 ≤ rc ∧ base ≤ g ∧ g < u.heap.size ∧
      ∀ o2 : Nat, (o2 = if rc = 1 then o1 else o1 + 1) → ∃ rs2 : List Rw, rs2.length = n ∧ nums rs2 = (nums rs).set p t ∧ OT (u.setCell ⟨g, p, none⟩ (.slice (some ⟨g1, o2, none⟩) m (rc - 1))) base A c rs2 := by
  obtain ⟨pre, r, post, rfl, hpre, hrx⟩ := rows_at hp
  have hr : (pre ++ r :: post)[p]? = some r := by rw [List.getElem?_append_right (by omega), hpre, Nat.sub_self]; rfl
  obtain ⟨g, hg⟩ : ∃ g, A = some ⟨g, 0, Option.none⟩ := by
    rcases hO.outer.2 with ⟨h, h0⟩ | ⟨g, cap, cur, h, _⟩
    · simp at h0
    · simp only [Value.slice.injEq] at h
      exact ⟨g, h.1⟩
  subst hg
  obtain ⟨a, ea, hab, q0⟩ := hO.ss.head hr
  obtain rfl := Option.some.inj ea
  rw [add_lit] at q0
  have hr1 := hO.each r (List.mem_of_getElem? hr)
  obtain ⟨g1, o1, hA1, q1⟩ := hr1.start hrx
  obtain ⟨rA, rc, rxs⟩ := r
  simp only at hA1 hrx q0
  subst hA1 hrx
  have hcap : t.length + 1 ≤ rc := by
    rcases hr1 with ⟨h, _⟩ | ⟨_, _, _, _, _, _, h, _⟩
    · cases h
    · simpa using h
  have hput := fun (o2 : Nat) (ho : o2 = if rc = 1 then o1 else o1 + 1) => hO.put (r' := ⟨some ⟨g1, o2, Option.none⟩, rc - 1, t⟩) (hr1.tail2 ho) (fun k hk => hk)
  have f0 := hO.outer.frozenAt p
  have hb := hO.outer.lt g rfl
  rw [hpre] at hput
  rw [List.length_cons] at q0
  refine ⟨g, g1, o1, rc, t.length, rfl, q0, f0, q1, hcap, hb.1, hb.2, fun o2 ho => ⟨_, ?_, ?_, (hput o2 ho).1⟩⟩
  · rw [← hl]
    simp
  · rw [nums, nums, List.map_append, List.map_append, List.map_cons, List.map_cons, List.set_append_right _ _ (by simp [hpre])]
    simp [hpre]
/-- what TakeSheet returns -/
structure TR (xss : List (List Int)) (p : Int) (out : List (List Int)) (x : Int) (k : Nat) : Prop where
  bad : ¬ CupOk xss → out = [] ∧ x = 0 ∧ k = 1
  far : CupOk xss → ¬ (0 ≤ p ∧ p ≤ (xss.length : Int) - 1) → out = [] ∧ x = 0 ∧ k = 2
  bare : CupOk xss → ∀ m : Nat, p = m → xss[m]? = some [] → out = [] ∧ x = 0 ∧ k = 6
  ok : CupOk xss → ∀ (m : Nat) (y : Int) (t : List Int), p = m → xss[m]? = some (y :: t) → out = xss.set m t ∧ x = y ∧ k = 0
theorem range_row {xss : List (List Int)} {p : Int} (h : 0 ≤ p ∧ p ≤ (xss.length : Int) - 1) : ∃ m : Nat, p = m ∧ (xss[m]? = some [] ∨ ∃ y t, xss[m]? = some (y :: t)) := by
  refine ⟨p.toNat, by omega, ?_⟩
  have hl : p.toNat < xss.length := by omega
  rw [List.getElem?_eq_getElem hl]
  cases xss[p.toNat] with
  | nil => exact .inl rfl
  | cons y t => exact .inr ⟨y, t, rfl⟩
theorem TR.exists (xss : List (List Int)) (p : Int) : ∃ out x k, TR xss p out x k := by
  by_cases hc : CupOk xss
  · by_cases hr : 0 ≤ p ∧ p ≤ (xss.length : Int) - 1
    · obtain ⟨m, rfl, h | ⟨y, t, h⟩⟩ := range_row hr
      · refine ⟨[], 0, 6, ⟨fun h' => absurd hc h', fun _ h' => absurd hr h', fun _ _ _ _ => ⟨rfl, rfl, rfl⟩, fun _ m' y t e h' => ?_⟩⟩
        obtain rfl : m = m' := by omega
        rw [h] at h'
        simp at h'
      · refine ⟨xss.set m t, y, 0, ⟨fun h' => absurd hc h', fun _ h' => absurd hr h', fun _ m' e h' => ?_, fun _ m' y' t' e h' => ?_⟩⟩
        · obtain rfl : m = m' := by omega
          rw [h] at h'
          simp at h'
        · obtain rfl : m = m' := by omega
          rw [h] at h'
          simp only [Option.some.injEq, List.cons.injEq] at h'
          obtain ⟨rfl, rfl⟩ := h'
          exact ⟨rfl, rfl, rfl⟩
    · refine ⟨[], 0, 2, ⟨fun h' => absurd hc h', fun _ _ => ⟨rfl, rfl, rfl⟩, fun _ m e h' => ?_, fun _ m _ _ e h' => ?_⟩⟩
      · have := (List.getElem?_eq_some_iff.1 h').1
        omega
      · have := (List.getElem?_eq_some_iff.1 h').1
        omega
  · exact ⟨[], 0, 1, ⟨fun _ => ⟨rfl, rfl, rfl⟩, fun h' => absurd h' hc, fun h' => absurd h' hc, fun h' => absurd h' hc⟩⟩
abbrev takenV (A : Option Addr) (n c : Nat) (x : Int) (k : Nat) : Value := .tuple #[.slice A n c, .int .i64 x, .int .i64 k]
end Go.Proofs.YtjfimmfnhlimkaaDoor.rows

/-
  TakeSheet, the program's.
-/
namespace Go.Proofs.YtjfimmfnhlimkaaDoor.rows
open Go Go.RowKit sl fold cup errs

theorem first_zero {a b : Nat} (h : firstCode [a, b] = 0) : a = 0 ∧ b = 0 := by
  cases a with
  | zero =>
    cases b with
    | zero => exact ⟨rfl, rfl⟩
    | succ j => cases h
  | succ i => cases h
end Go.Proofs.YtjfimmfnhlimkaaDoor.rows

/-
  What TakeSheet returns is no longer than what it is given; where rows lie.
-/
namespace Go.Proofs.YtjfimmfnhlimkaaDoor.rows
open Go Go.RowKit sl fold cup

theorem OS.noneC {w : World} {base : Nat} {A : Option Addr} {c : Nat} {rs : List Rw} (h : OS w base A c rs) : ∀ r ∈ rs, r.A = none → r.c = 0 := fun r hr hA => by
  rcases (h.each r hr).2 with ⟨hv, _⟩ | ⟨g, cap, cur, hv, _⟩
  · simp only [Rw.v, Value.slice.injEq] at hv
    exact hv.2.2
  · simp only [Rw.v, Value.slice.injEq] at hv
    rw [hA] at hv
    cases hv.1
theorem tot_le {rs : List Rw} {n : Nat} (h : n + tot rs ≤ 1048576) : ∀ r ∈ rs, r.xs.length ≤ 1048576 := fun r hr => by
  have := tot_mem hr
  omega
theorem TR.small {rs : List Rw} {p : Int} {out : List (List Int)} {x : Int} {k : Nat} (h : TR (nums rs) p out x k) : ∀ rs2 : List Rw, nums rs2 = out → rs2.length ≤ rs.length ∧ tot rs2 ≤ tot rs := by
  intro rs2 h2
  have hnil : out = [] → rs2.length ≤ rs.length ∧ tot rs2 ≤ tot rs := fun e => by
    subst e
    have : rs2 = [] := List.map_eq_nil_iff.1 h2
    subst this
    exact ⟨Nat.zero_le _, Nat.zero_le _⟩
  by_cases hc : CupOk (nums rs)
  · by_cases hr : 0 ≤ p ∧ p ≤ ((nums rs).length : Int) - 1
    · obtain ⟨m, rfl, hrow | ⟨y, t, hrow⟩⟩ := range_row hr
      · exact hnil (h.bare hc m rfl hrow).1
      · obtain ⟨e, _, _⟩ := h.ok hc m y t rfl hrow
        obtain ⟨pre, r, post, rfl, hpre, hrx⟩ := rows_at hrow
        have hn : nums rs2 = nums (pre ++ (⟨r.A, r.c, t⟩ : Rw) :: post) := by
          rw [h2, e, nums, nums, List.map_append, List.map_append, List.map_cons, List.map_cons, List.set_append_right _ _ (by simp [hpre])]
          simp [hpre]
        have hl := congrArg List.length hn
        simp only [nums, List.length_map, List.length_append, List.length_cons] at hl
        refine ⟨by simp only [List.length_append, List.length_cons]; omega, ?_⟩
        rw [tot_nums hn, tot_append, tot_append, tot, tot, hrx, List.length_cons]
        simp only
        omega
    · exact hnil (h.far hc hr).1
  · exact hnil (h.bad hc).1
theorem OT.blocks {w : World} {base : Nat} {A : Option Addr} {c : Nat} {rs : List Rw} (h : OT w base A c rs) : ∀ k, Blocks A rs k → base ≤ k ∧ k < w.heap.size := by
  rintro k (⟨a, rfl, rfl⟩ | ⟨r, hr, hk⟩)
  · exact h.outer.lt _ rfl
  · exact (h.each r hr).at_lt k hk
theorem OT.apart {w w' : World} {base : Nat} {A : Option Addr} {c : Nat} {rs : List Rw} {S : Nat → Prop} (h : OT w base A c rs) (hb : But S w w') (hS : ∀ k, Blocks A rs k → ¬ S k) : OT w' base A c rs := by
  refine ⟨owns_but h.outer hb (fun g hg => hS g (.inl ?_)), fun r hr => (h.each r hr).but hb (fun g hg => hS g (.inr ⟨r, hr, hg⟩)), h.dist, h.off⟩
  cases A with
  | none => cases hg
  | some a => exact ⟨a, rfl, Option.some.inj hg⟩
end Go.Proofs.YtjfimmfnhlimkaaDoor.rows
