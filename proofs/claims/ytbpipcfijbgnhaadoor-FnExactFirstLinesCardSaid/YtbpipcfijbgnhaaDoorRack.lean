/-
  Several lines of one kind, and on each one a row of cloths: how they lie in memory, and the contracts of the program's functions on them.
-/
import Derived.Test.YtbpipcfijbgnhaaDoorCSagOf
import Derived.Test.YtbpipcfijbgnhaaDoorCInOrder
import Derived.Deep.MidRow
import Derived.Deep.RegionLaw
import Derived.Laws.IdiomCopy
namespace Go.Proofs.YtbpipcfijbgnhaaDoor.hang
open Go Go.RowKit sl errs

theorem keeps_cells {S : Nat → Prop} {a w : World} (h : Keeps S a w) {g : Nat} (hg : S g ∨ a.heap.size ≤ g) : ∀ (vs : List Value) (o : Nat), Keeps S a (w.setCells g o vs) := by
  intro vs
  induction vs generalizing w with
  | nil => intro o; exact h
  | cons v r ih => intro o; exact ih (h.setCell (p := ⟨g, o, none⟩) hg v) (o + 1)
theorem size_setCells (w : World) (g : Nat) : ∀ (vs : List Value) (o : Nat), (w.setCells g o vs).heap.size = w.heap.size := by
  intro vs
  induction vs generalizing w with
  | nil => intro o; rfl
  | cons v r ih =>
    intro o
    have := ih (w.setCell ⟨g, o, none⟩ v) (o + 1)
    exact this.trans (by simp [World.setCell])

/-- a rack's block R and its room Q -/
structure Rack (u : World) (R Q : Nat) (l : Lin) (rows : Nat → List Clo) : Prop where
  l0 : u.cell? ⟨R, 0, none⟩ = some (.int .i16 l.long)
  l1 : u.cell? ⟨R, 1, none⟩ = some (.int .i16 l.most)
  row : ∀ n, n < 7 → u.cell? ⟨R, 2 + n, none⟩ = some (.slice (some ⟨Q, 14 * n, none⟩) (rows n).length 7)
  fr : ∀ i, u.frozen? ⟨R, i, none⟩ = false
  room : ∀ i, i < 98 → (u.cell? ⟨Q, i, none⟩).isSome = true
  fq : ∀ i, u.frozen? ⟨Q, i, none⟩ = false
  on : ∀ n j x, n < 7 → (rows n)[j]? = some x → u.cell? ⟨Q, 14 * n + 2 * j, none⟩ = some (.int .i16 x.wide) ∧ u.cell? ⟨Q, 14 * n + 2 * j + 1, none⟩ = some (.int .i16 x.heavy)
  len : ∀ n, n < 7 → (rows n).length ≤ 7
  lt : R < u.heap.size ∧ Q < u.heap.size ∧ R ≠ Q

section
variable {u v : World} {R Q : Nat} {l : Lin} {rows : Nat → List Clo}

theorem Rack.keep (h : Rack u R Q l rows) (hc : ∀ p : Addr, p.block = R ∨ p.block = Q → v.cell? p = u.cell? p) (hf : ∀ p : Addr, p.block = R ∨ p.block = Q → v.frozen? p = u.frozen? p) (hs : u.heap.size ≤ v.heap.size) : Rack v R Q l rows :=
  ⟨(hc ⟨R, 0, none⟩ (.inl rfl)).trans h.l0, (hc ⟨R, 1, none⟩ (.inl rfl)).trans h.l1, fun n hn => (hc ⟨R, 2 + n, none⟩ (.inl rfl)).trans (h.row n hn), fun i => (hf ⟨R, i, none⟩ (.inl rfl)).trans (h.fr i),
    fun i hi => by rw [hc ⟨Q, i, none⟩ (.inr rfl)]; exact h.room i hi, fun i => (hf ⟨Q, i, none⟩ (.inr rfl)).trans (h.fq i),
    fun n j x hn hx => ⟨(hc ⟨Q, 14 * n + 2 * j, none⟩ (.inr rfl)).trans (h.on n j x hn hx).1, (hc ⟨Q, 14 * n + 2 * j + 1, none⟩ (.inr rfl)).trans (h.on n j x hn hx).2⟩, h.len,
    ⟨by have := h.lt.1; omega, by have := h.lt.2.1; omega, h.lt.2.2⟩⟩
theorem Rack.below (h : Rack u R Q l rows) {B : Nat} (hb : Below B u v) (hR : R < B) (hQ : Q < B) : Rack v R Q l rows :=
  h.keep (fun p hp => hb.cell (by rcases hp with e | e <;> omega)) (fun p hp => hb.frozen (by rcases hp with e | e <;> omega)) hb.size
theorem Rack.next (h : Rack u R Q l rows) (hb : Below u.heap.size u v) : Rack v R Q l rows := h.below hb h.lt.1 h.lt.2.1
theorem Rack.alloc (h : Rack u R Q l rows) (o : Obj) : Rack (u.alloc o) R Q l rows := h.next ((Below.refl _ _).alloc (Nat.le_refl _) _)
theorem Rack.drewN (h : Rack u R Q l rows) (m : Nat) : Rack (u.drewN m) R Q l rows := h.next (below_drewN _ _ _)
/-- another block is written -/
theorem Rack.other (h : Rack u R Q l rows) {g : Nat} (hg : u.grownBy v (some g)) (hR : g ≠ R) (hQ : g ≠ Q) : Rack v R Q l rows := by
  have hb : ∀ k, k = R ∨ k = Q → v.heap[k]? = u.heap[k]? := fun k hk => hg.block k (by have := h.lt; rcases hk with rfl | rfl <;> omega) (fun e => by have := Option.some.inj e; rcases hk with rfl | rfl <;> omega)
  refine h.keep (fun p hp => ?_) (fun p hp => ?_) hg.size
  · unfold World.cell?
    rw [hb _ hp]
  · unfold World.frozen?
    rw [hb _ hp]
/-- what lies on a line, with one more cloth behind it -/
def more (rows : Nat → List Clo) (n : Nat) (c : Clo) : Nat → List Clo := fun i => if i = n then rows n ++ [c] else rows i
theorem more_at (rows : Nat → List Clo) (n : Nat) (c : Clo) : more rows n c n = rows n ++ [c] := by simp [more]
theorem more_ne (rows : Nat → List Clo) {n i : Nat} (c : Clo) (h : i ≠ n) : more rows n c i = rows i := by simp [more, h]

/-- the room behind a row is written -/
theorem Rack.set (h : Rack u R Q l rows) {n : Nat} (hn : n < 7) (hl : (rows n).length < 7) (c : Clo) : Rack (u.setCells Q (14 * n + (rows n).length * 2) c.cells) R Q l rows := by
  have hne := h.lt.2.2
  have out : ∀ p : Addr, p.block = R → (u.setCells Q (14 * n + (rows n).length * 2) c.cells).cell? p = u.cell? p := fun p hp =>
    World.cell?_setCells_out Q _ _ _ p (fun e => absurd (hp.symm.trans e) hne)
  refine ⟨(out _ rfl).trans h.l0, (out _ rfl).trans h.l1, fun i hi => (out _ rfl).trans (h.row i hi), fun i => (World.frozen?_setCells Q _ _ _ _).trans (h.fr i), fun i hi => World.isSome_setCells Q _ _ _ _ (h.room i hi),
    fun i => (World.frozen?_setCells Q _ _ _ _).trans (h.fq i), fun i j x hi hx => ?_, h.len, ⟨by rw [size_setCells]; exact h.lt.1, by rw [size_setCells]; exact h.lt.2.1, hne⟩⟩
  have hj := (List.getElem?_eq_some_iff.1 hx).1
  have hli := h.len i hi
  obtain ⟨h0, h1⟩ := h.on i j x hi hx
  have far : 14 * i + 2 * j + 1 < 14 * n + (rows n).length * 2 ∨ 14 * n + (rows n).length * 2 + 2 ≤ 14 * i + 2 * j := by
    rcases Nat.lt_trichotomy i n with h3 | h3 | h3
    · left; omega
    · subst h3; left; omega
    · right; omega
  refine ⟨(World.cell?_setCells_out Q _ _ _ _ (fun _ _ => ?_)).trans h0, (World.cell?_setCells_out Q _ _ _ _ (fun _ _ => ?_)).trans h1⟩
  · show 14 * i + 2 * j < _ ∨ 14 * n + (rows n).length * 2 + 2 ≤ 14 * i + 2 * j
    omega
  · show 14 * i + 2 * j + 1 < _ ∨ 14 * n + (rows n).length * 2 + 2 ≤ 14 * i + 2 * j + 1
    omega
/-- .. then the row and what has been written read as one list -/
theorem Rack.sl (h : Rack u R Q l rows) {n : Nat} (hn : n < 7) (hl : (rows n).length < 7) (c : Clo) {B : Nat} (hB : Q < B) : Sl Clo.cells 2 (u.setCells Q (14 * n + (rows n).length * 2) c.cells) B (some ⟨Q, 14 * n, none⟩) (rows n ++ [c]) := by
  have hs := h.set hn hl c
  refine ⟨fun k x hx => ⟨_, rfl, hB, fun j v hv => ?_⟩⟩
  rw [add_at, add_at]
  have hj : j < 2 := (List.getElem?_eq_some_iff.1 hv).1
  have hk : k < (rows n).length + 1 := by have := (List.getElem?_eq_some_iff.1 hx).1; simpa using this
  rcases Nat.lt_or_ge k (rows n).length with h1 | h1
  · rw [List.getElem?_append_left h1] at hx
    obtain ⟨g0, g1⟩ := hs.on n k x hn hx
    match j, hj, hv with
    | 0, _, hv =>
      obtain rfl : Value.int .i16 x.wide = v := by simpa using hv
      have e : 14 * n + k * 2 + 0 = 14 * n + 2 * k := by omega
      rw [e]; exact g0
    | 1, _, hv =>
      obtain rfl : Value.int .i16 x.heavy = v := by simpa using hv
      have e : 14 * n + k * 2 + 1 = 14 * n + 2 * k + 1 := by omega
      rw [e]; exact g1
  · obtain rfl : k = (rows n).length := by omega
    have hcx : c = x := by simpa using hx
    subst hcx
    have := World.cell?_setCells_in Q c.cells (14 * n + (rows n).length * 2) u (fun j hj => h.room _ (by have : j < 2 := hj; omega)) j hj
    rw [this, ← hv]
    exact (List.getElem?_eq_getElem hj).symm
end

/-- the cells that a call on the rack loads -/
abbrev TS (a b s x y : Value) (R Q n b0 : Nat) (u : World) : Prop :=
  u.cell? ⟨R, 0, none⟩ = some a ∧ u.cell? ⟨R, 1, none⟩ = some b ∧ u.cell? ⟨R, 2 + n, none⟩ = some s ∧ u.cell? ⟨b0, 0, none⟩ = some x ∧ u.cell? ⟨b0, 1, none⟩ = some y ∧ (R < u.heap.size ∧ b0 < u.heap.size ∧ R ≠ Q ∧ b0 ≠ Q)
theorem TS.keep {a b s x y : Value} {R Q n b0 : Nat} {u v : World} (h : TS a b s x y R Q n b0 u) (hc : ∀ p : Addr, p.block = R ∨ p.block = b0 → v.cell? p = u.cell? p) (hs : u.heap.size ≤ v.heap.size) : TS a b s x y R Q n b0 v := by
  obtain ⟨h0, h1, h2, h3, h4, h5, h6, h7, h8⟩ := h
  exact ⟨(hc ⟨R, 0, none⟩ (.inl rfl)).trans h0, (hc ⟨R, 1, none⟩ (.inl rfl)).trans h1, (hc ⟨R, 2 + n, none⟩ (.inl rfl)).trans h2, (hc ⟨b0, 0, none⟩ (.inr rfl)).trans h3, (hc ⟨b0, 1, none⟩ (.inr rfl)).trans h4, by omega, by omega, h7, h8⟩
theorem TS.next {a b s x y : Value} {R Q n b0 : Nat} {u v : World} (h : TS a b s x y R Q n b0 u) (hb : Below u.heap.size u v) : TS a b s x y R Q n b0 v :=
  h.keep (fun p hp => hb.cell (by have := h.2.2.2.2.2; rcases hp with e | e <;> omega)) hb.size
theorem TS.alloc {a b s x y : Value} {R Q n b0 : Nat} {u : World} (h : TS a b s x y R Q n b0 u) (o : Obj) : TS a b s x y R Q n b0 (u.alloc o) := h.next ((Below.refl _ _).alloc (Nat.le_refl _) _)
theorem TS.set {a b s x y : Value} {R Q n b0 : Nat} {u : World} (h : TS a b s x y R Q n b0 u) (vs : List Value) (o : Nat) : TS a b s x y R Q n b0 (u.setCells Q o vs) :=
  h.keep (fun p hp => World.cell?_setCells_out Q _ _ _ p (fun e => by have := h.2.2.2.2.2; rcases hp with e' | e' <;> omega)) (by rw [size_setCells]; exact Nat.le_refl _)
set_option maxRecDepth 100000 in
set_option maxHeartbeats 4000000 in
theorem takes_any (l : Lin) (hl : l.Fits) (rows : Nat → List Clo) (R Q : Nat) (n : Nat) (hn : n < 7) (hln : (rows n).length < 7) (c : Clo) (hc : c.Fits) (ho : Ok (rows n ++ [c])) (w : World) (h : Rack w R Q l rows) :
    Calls Tryd.prog 75 #[.pointer (some ⟨R, 0, none⟩), .int .i64 n, c.v] w fun o w' => o = .returned (.bool (fitsB l (rows n ++ [c]))) ∧ Rack w' R Q l rows ∧ Keeps (fun k => k = Q) w w' := by
  obtain ⟨i0, hi, hz0, hz1, hz2⟩ := info_parts cloS.info
  have H := Lib.hid h
  have hRw := h.lt.1
  have hQw := h.lt.2.1
  have hne := h.lt.2.2
  have eb : (w.alloc (.cells #[.int .i16 c.wide, .int .i16 c.heavy] 27)).heap.size = w.heap.size + 1 := by simp
  have h1 := H.out.alloc (.cells #[.int .i16 c.wide, .int .i16 c.heavy] 27)
  have T0 : Hid (TS (.int .i16 l.long) (.int .i16 l.most) (.slice (some ⟨Q, 14 * n, none⟩) (rows n).length 7) (.int .i16 c.wide) (.int .i16 c.heavy) R Q n w.heap.size (w.alloc (.cells #[.int .i16 c.wide, .int .i16 c.heavy] 27))) :=
    Lib.hid ⟨h1.l0, h1.l1, h1.row n hn, cell_of_row _ _ _ _ _ _ (heap_alloc_new w _), cell_of_row _ _ _ _ _ _ (heap_alloc_new w _), by omega, by omega, hne, by omega⟩
  have H2 := Lib.hid ((h1.alloc (.cells #[.int .i16 c.wide, .int .i16 c.heavy] 27)).drewN 1)
  have HN : Hid (∀ j u, [Value.int .i16 c.wide, .int .i16 c.heavy][j]? = some u → (((w.alloc (.cells #[.int .i16 c.wide, .int .i16 c.heavy] 27)).alloc (.cells #[.int .i16 c.wide, .int .i16 c.heavy] 27)).drew).cell? ((⟨w.heap.size + 1, 0, none⟩ : Addr).add j) = some u) := Lib.hid (by
    have t := two_new (w.alloc (.cells #[.int .i16 c.wide, .int .i16 c.heavy] 27)) (.int .i16 c.wide) (.int .i16 c.heavy) 27
    rw [eb] at t
    exact t)
  have wn0 : (0 : Int) ≤ (n : Int) := by omega
  have wn1 : (n : Int) < 7 := by omega
  have wn2 : ((n : Int)).toNat = n := by omega
  obtain ⟨m, hm⟩ : ∃ m, m = (rows n).length := ⟨_, rfl⟩
  have HM := Lib.hid hm
  rw [← hm] at T0
  obtain ⟨W, hW⟩ : ∃ W, W = (((w.alloc (.cells #[.int .i16 c.wide, .int .i16 c.heavy] 27)).alloc (.cells #[.int .i16 c.wide, .int .i16 c.heavy] 27)).drew).setCells Q (14 * n + m * 2) [.int .i16 c.wide, .int .i16 c.heavy] := ⟨_, rfl⟩
  have HSET : Hid (Rack W R Q l rows) := Lib.hid (by rw [hW, hm]; exact H2.out.set hn hln c)
  have HSL : Hid (Sl Clo.cells 2 W W.heap.size (some ⟨Q, 14 * n, none⟩) (rows n ++ [c])) := Lib.hid (by
    have t := H2.out.sl hn hln c (B := W.heap.size) (by have := HSET.out.lt.2.1; omega)
    rw [hW, hm]
    rw [hW, hm] at t
    exact t)
  have HKW : Hid (Keeps (fun k => k = Q) w W) := Lib.hid (by rw [hW]; exact keeps_cells (S := fun k => k = Q) ((((Keeps.refl _ w).alloc _).alloc _).drewN 1) (.inl rfl) _ _)
  rw [hW] at HSET HSL HKW
  clear h h1 eb hm hW
  go_enter Tryd.func75, Tryd.ntmps75
  go_wp2_with fail
  go_region_held3 (fun u => TS (.int .i16 l.long) (.int .i16 l.most) (.slice (some ⟨Q, 14 * n, none⟩) m 7) (.int .i16 c.wide) (.int .i16 c.heavy) R Q n w.heap.size u)
    (first | assumption | exact T0.out | exact T0.out.next (below_drewN _ _ 1) | exact TS.alloc (by assumption) _ | exact TS.set (by assumption) _ _ | exact TS.next (by assumption) hb3)
    (first
      | (go_at_call 64; refine (fits_any l hl (some ⟨Q, 14 * n, none⟩) (m + 1) 7 (rows n ++ [c]) (by rw [HM.out]; simp) (by have := HM.out; omega) ho _ HSL.out).mono ?_; rintro o w2 ⟨rfl, hb3⟩)
      | (refine step_append_room rfl (.tmp 16) (.tmp 18) 34 rfl 27 i0 2 Tryd.underlying34 hi hz1 Q (14 * n) m 7 (by rfl) ⟨w.heap.size + 1, 0, none⟩ 1 1 [.int .i16 c.wide, .int .i16 c.heavy] (by rfl) (by rfl) HN.out (two_cell rfl rfl) (by have := HM.out; omega) (fun j hj => ⟨H2.out.room _ (by have := HM.out; have : j < 2 := hj; omega), H2.out.fq _⟩) ?_)
      | fail)
  go_wp2_with fail
  go_ret
  exact ⟨rfl, HSET.out.next hb3, HKW.out.trans (Keeps.of_below hb3)⟩
end Go.Proofs.YtbpipcfijbgnhaaDoor.hang
