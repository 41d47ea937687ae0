/-
  Several texts of this proof, joined.
-/
import Derived.Test.YtajhdgoinghmmaaRows
import Derived.Test.YtajhdgoinghmmaaSl
import Derived.Test.YtajhdgoinghmmaaWords
import Derived.WalkKit
import Derived.WalkSpells
import Derived.WalkLawsBesides
import Derived.Lib.Hide
import Derived.Deep.QuietTactic
import Derived.BigQuiet
import Derived.Deep.RegionHeld3
import Derived.Deep.MidRow
import Derived.Test.YtajhdgoinghmmaaInB
/-
  Piece: its contracts: copied, held against another one, counted.
-/
namespace Go.Proofs.Ytajhdgoinghmmaa
open Go.RowKit

/-- the numbers of a Piece -/
structure Pie where
  lev : Int
  mins : Int
  due : Int

/-- they are in the range of their kinds -/
structure Pie.Fits (x : Pie) : Prop where
  lev0 : -128 ≤ x.lev
  lev1 : x.lev ≤ 127
  mins0 : -128 ≤ x.mins
  mins1 : x.mins ≤ 127
  due0 : -32768 ≤ x.due
  due1 : x.due ≤ 32767
abbrev Pie.cells (x : Pie) : List Value := [.int .i8 x.lev, .int .i8 x.mins, .int .i16 x.due]
abbrev Pie.v (x : Pie) : Value := .agg #[.int .i8 x.lev, .int .i8 x.mins, .int .i16 x.due]
theorem Pie.len (xs : List Pie) : ∀ x ∈ xs, (Pie.cells x).length = 3 := fun _ _ => rfl
/-- are two equal -/
def Pie.eq (x y : Pie) : Bool := x.lev == y.lev && (x.mins == y.mins && (x.due == y.due))
theorem Pie.eq_iff (x y : Pie) : Pie.eq x y = true ↔ x = y := by
  cases x
  cases y
  simp [Pie.eq]
end Go.Proofs.Ytajhdgoinghmmaa
namespace Go.Proofs.Ytajhdgoinghmmaa.pieS
open Go.RowKit sl

theorem at_ {w : World} {p : Addr} {x : Pie} (h : At w p x.cells) :
    w.cell? p = some (.int .i8 x.lev) ∧ w.cell? ⟨p.block, p.off + 1, none⟩ = some (.int .i8 x.mins) ∧ w.cell? ⟨p.block, p.off + 2, none⟩ = some (.int .i16 x.due) :=
  ⟨h 0 _ rfl, h 1 _ rfl, h 2 _ rfl⟩

set_option maxHeartbeats 1000000 in
theorem to_any (x : Pie) (w : World) :
    Calls Try.prog 6 #[x.v] w fun e w' => e = .returned x.v ∧ Below w.heap.size w w' := by
  go_enter Try.func6, Try.ntmps6
  go_wp2
  refine bodyPost_ret (v := x.v) (by simp [results, Try.results6, go_sem]) rfl ⟨rfl, ?_⟩
  repeat (first | exact Below.refl _ _ | assumption | apply Below.drew | (refine Below.alloc ?_ (by first | (simp; done) | (simp; omega) | omega) _) | (refine Below.setCell ?_ (by first | (simp; done) | (simp; omega) | omega) _))
theorem to_parts (lev mins due : Int) (w : World) :
    Calls Try.prog 6 #[.agg #[.int .i8 lev, .int .i8 mins, .int .i16 due]] w fun e w' => e = .returned (.agg #[.int .i8 lev, .int .i8 mins, .int .i16 due]) ∧ Below w.heap.size w w' := to_any ⟨lev, mins, due⟩ w



end Go.Proofs.Ytajhdgoinghmmaa.pieS

/-
  Iron: its contracts: copied, held against another one, counted.
-/
namespace Go.Proofs.Ytajhdgoinghmmaa
open Go.RowKit

/-- the numbers of a Iron -/
structure Iro where
  up : Int
  down : Int

/-- they are in the range of their kinds -/
structure Iro.Fits (x : Iro) : Prop where
  up0 : -128 ≤ x.up
  up1 : x.up ≤ 127
  down0 : -128 ≤ x.down
  down1 : x.down ≤ 127
abbrev Iro.cells (x : Iro) : List Value := [.int .i8 x.up, .int .i8 x.down]
abbrev Iro.v (x : Iro) : Value := .agg #[.int .i8 x.up, .int .i8 x.down]
theorem Iro.len (xs : List Iro) : ∀ x ∈ xs, (Iro.cells x).length = 2 := fun _ _ => rfl
/-- are two equal -/
def Iro.eq (x y : Iro) : Bool := x.up == y.up && (x.down == y.down)
theorem Iro.eq_iff (x y : Iro) : Iro.eq x y = true ↔ x = y := by
  cases x
  cases y
  simp [Iro.eq]
end Go.Proofs.Ytajhdgoinghmmaa
namespace Go.Proofs.Ytajhdgoinghmmaa.iroS
open Go.RowKit sl

theorem at_ {w : World} {p : Addr} {x : Iro} (h : At w p x.cells) :
    w.cell? p = some (.int .i8 x.up) ∧ w.cell? ⟨p.block, p.off + 1, none⟩ = some (.int .i8 x.down) :=
  ⟨h 0 _ rfl, h 1 _ rfl⟩

set_option maxHeartbeats 1000000 in
theorem to_any (x : Iro) (w : World) :
    Calls Try.prog 9 #[x.v] w fun e w' => e = .returned x.v ∧ Below w.heap.size w w' := by
  go_enter Try.func9, Try.ntmps9
  go_wp2
  refine bodyPost_ret (v := x.v) (by simp [results, Try.results9, go_sem]) rfl ⟨rfl, ?_⟩
  repeat (first | exact Below.refl _ _ | assumption | apply Below.drew | (refine Below.alloc ?_ (by first | (simp; done) | (simp; omega) | omega) _) | (refine Below.setCell ?_ (by first | (simp; done) | (simp; omega) | omega) _))
theorem to_parts (up down : Int) (w : World) :
    Calls Try.prog 9 #[.agg #[.int .i8 up, .int .i8 down]] w fun e w' => e = .returned (.agg #[.int .i8 up, .int .i8 down]) ∧ Below w.heap.size w w' := to_any ⟨up, down⟩ w



end Go.Proofs.Ytajhdgoinghmmaa.iroS

/-
  Pieces to be ironed and an iron in plain numbers: what is valid, how long an iron takes to another level, when pieces are finished in an order, and what is measured of it.
-/
namespace Go.Proofs.Ytajhdgoinghmmaa.iron
open Go.RowKit sl stk

def pieB (p : Pie) : Bool := inB p.lev 1 3 && (inB p.mins 1 60 && inB p.due 0 1000)
def iroB (x : Iro) : Bool := inB x.up 0 60 && inB x.down 0 60
theorem pieB_iff {p : Pie} : pieB p = true ↔ (1 ≤ p.lev ∧ p.lev ≤ 3) ∧ (1 ≤ p.mins ∧ p.mins ≤ 60) ∧ (0 ≤ p.due ∧ p.due ≤ 1000) := by
  unfold pieB
  rw [Bool.and_eq_true, Bool.and_eq_true, inB_iff, inB_iff, inB_iff]
theorem iroB_iff {x : Iro} : iroB x = true ↔ (0 ≤ x.up ∧ x.up ≤ 60) ∧ (0 ≤ x.down ∧ x.down ≤ 60) := by
  unfold iroB
  rw [Bool.and_eq_true, inB_iff, inB_iff]
/-- how long an iron takes from a level to another one -/
def chg (x : Iro) (a b : Int) : Int := if a < b then x.up * (b - a) else x.down * (a - b)
theorem chg_bd {x : Iro} {a b : Int} (hx : iroB x = true) (ha : 0 ≤ a) (ha' : a ≤ 3) (hb : 0 ≤ b) (hb' : b ≤ 3) : 0 ≤ chg x a b ∧ chg x a b ≤ 180 := by
  obtain ⟨⟨h0, h1⟩, h2, h3⟩ := iroB_iff.1 hx
  unfold chg
  split
  · exact ⟨Int.mul_nonneg h0 (by omega), Int.le_trans (Int.mul_le_mul h1 (show b - a ≤ 3 by omega) (by omega) (by omega)) (by omega)⟩
  · exact ⟨Int.mul_nonneg h2 (by omega), Int.le_trans (Int.mul_le_mul h3 (show a - b ≤ 3 by omega) (by omega) (by omega)) (by omega)⟩
/-- by how much a piece is late -/
def late (p : Pie) (t : Int) : Int := if t - p.due < 0 then 0 else t - p.due
/-- what a sum becomes by a piece that is finished at t -/
def mea (a : Nat) (sum : Int) (p : Pie) (t : Int) : Int :=
  match a with
  | 0 => t
  | 1 => sum + (if late p t < 1 then late p t else 1)
  | 2 => sum + late p t
  | _ => sum + t
structure Sta where
  lev : Int
  at_ : Int
  sum : Int
def Sta.step (x : Iro) (a : Nat) (s : Sta) (p : Pie) : Sta :=
  ⟨p.lev, s.at_ + chg x s.lev p.lev + p.mins, mea a s.sum p (s.at_ + chg x s.lev p.lev + p.mins)⟩
def ptv (ps : List Pie) (i : Int) : Pie := ps.getD i.toNat ⟨1, 1, 0⟩
def sta0 : Sta := ⟨0, 0, 0⟩
def runs (x : Iro) (a : Nat) (ps : List Pie) (os : List Int) : Sta := os.foldl (fun s i => s.step x a (ptv ps i)) sta0
theorem runs_snoc (x : Iro) (a : Nat) (ps : List Pie) (os : List Int) (i : Int) : runs x a ps (os ++ [i]) = (runs x a ps os).step x a (ptv ps i) := by simp [runs]
theorem runs_take {x : Iro} {a : Nat} {ps : List Pie} {os : List Int} {k : Nat} {i : Int} (h : os[k]? = some i) : runs x a ps (os.take (k + 1)) = (runs x a ps (os.take k)).step x a (ptv ps i) := by rw [take_snoc h, runs_snoc]
theorem ptv_valid {ps : List Pie} (h : ps.all pieB = true) (i : Int) : pieB (ptv ps i) = true := by
  unfold ptv
  rw [List.getD_eq_getElem?_getD]
  cases hx : ps[i.toNat]? with
  | none => rfl
  | some p => exact List.all_eq_true.1 h p (List.mem_of_getElem? hx)
theorem late_bd {p : Pie} {t : Int} (hp : pieB p = true) (h : 0 ≤ t) : 0 ≤ late p t ∧ late p t ≤ t := by
  obtain ⟨_, _, h0, h1⟩ := pieB_iff.1 hp
  unfold late
  split <;> omega
structure Sta.Ok (s : Sta) (n : Nat) : Prop where
  l0 : 0 ≤ s.lev
  l3 : s.lev ≤ 3
  a0 : 0 ≤ s.at_
  a1 : s.at_ ≤ 240 * n
  s0 : 0 ≤ s.sum
  s1 : s.sum ≤ 1920 * n
theorem Sta.Ok.step {s : Sta} {n : Nat} (h : s.Ok n) (hn : n < 8) {x : Iro} {p : Pie} (a : Nat) (hx : iroB x = true) (hp : pieB p = true) : (s.step x a p).Ok (n + 1) := by
  obtain ⟨⟨p0, p1⟩, ⟨p2, p3⟩, p4, p5⟩ := pieB_iff.1 hp
  obtain ⟨h0, h1, h2, h3, h4, h5⟩ := h
  have hc := chg_bd (x := x) (a := s.lev) (b := p.lev) hx h0 h1 (by omega) p1
  obtain ⟨t, ht⟩ : ∃ t, t = s.at_ + chg x s.lev p.lev + p.mins := ⟨_, rfl⟩
  have hl := late_bd (p := p) (t := t) hp (by omega)
  have hs : 0 ≤ mea a s.sum p t ∧ mea a s.sum p t ≤ 1920 * (n + 1 : Nat) := by
    unfold mea
    split
    · omega
    · split <;> omega
    · omega
    · omega
  unfold Sta.step
  rw [← ht]
  exact ⟨by show 0 ≤ p.lev; omega, p1, by show 0 ≤ t; omega, by show t ≤ _; omega, hs.1, hs.2⟩
theorem runs_ok {x : Iro} (a : Nat) {ps : List Pie} (hx : iroB x = true) (hp : ps.all pieB = true) {os : List Int} : ∀ (k : Nat), k ≤ os.length → k ≤ 8 → (runs x a ps (os.take k)).Ok k
  | 0, _, _ => by simp [runs, sta0]; exact ⟨by decide, by decide, by decide, by simp, by decide, by simp⟩
  | k + 1, hk, h8 => by
    rw [runs_take (List.getElem?_eq_getElem (show k < os.length by omega))]
    exact (runs_ok a hx hp k (by omega) (by omega)).step (by omega) a hx (ptv_valid hp _)
/-- level and minute do not hang on what is measured -/
theorem runs_same (x : Iro) (a b : Nat) (ps : List Pie) (os : List Int) : (runs x a ps os).lev = (runs x b ps os).lev ∧ (runs x a ps os).at_ = (runs x b ps os).at_ := by
  have key : ∀ (os : List Int) (s t : Sta), s.lev = t.lev → s.at_ = t.at_ → (os.foldl (fun s i => s.step x a (ptv ps i)) s).lev = (os.foldl (fun s i => s.step x b (ptv ps i)) t).lev ∧ (os.foldl (fun s i => s.step x a (ptv ps i)) s).at_ = (os.foldl (fun s i => s.step x b (ptv ps i)) t).at_ := by
    intro os
    induction os with
    | nil => intro s t h1 h2; exact ⟨h1, h2⟩
    | cons i r ih =>
      intro s t h1 h2
      exact ih _ _ (by simp [Sta.step]) (by simp [Sta.step, h1, h2])
  exact key os _ _ rfl rfl

/-- the code of an iron and pieces -/
def codeIr (x : Iro) (ps : List Pie) : Nat := if iroB x = true then (if ps.all pieB = true then (if 8 < ps.length then 3 else 0) else 1) else 1
/-- .. of pieces alone -/
def codePs (ps : List Pie) : Nat := if ps.all pieB = true then (if 8 < ps.length then 3 else 0) else 1
theorem codeIr_le (x : Iro) (ps : List Pie) : codeIr x ps ≤ 3 := by
  unfold codeIr
  split
  · split
    · split <;> omega
    · omega
  · omega
theorem codePs_le (ps : List Pie) : codePs ps ≤ 3 := by
  unfold codePs
  split
  · split <;> omega
  · omega
theorem codeIr_zero {x : Iro} {ps : List Pie} (h : codeIr x ps = 0) : iroB x = true ∧ ps.all pieB = true ∧ ps.length ≤ 8 := by
  unfold codeIr at h
  split at h
  · split at h
    · split at h
      · omega
      · exact ⟨by assumption, by assumption, by omega⟩
    · omega
  · omega
theorem codePs_zero {ps : List Pie} (h : codePs ps = 0) : ps.all pieB = true ∧ ps.length ≤ 8 := by
  unfold codePs at h
  split at h
  · split at h
    · omega
    · exact ⟨by assumption, by omega⟩
  · omega
theorem codeIr_eq (x : Iro) (ps : List Pie) : codeIr x ps = if iroB x = true then codePs ps else 1 := rfl
end Go.Proofs.Ytajhdgoinghmmaa.iron

/-
  A piece, an iron: are they valid; the program's and the model's.
-/
namespace Go.Proofs.Ytajhdgoinghmmaa.iron
open Go Go.RowKit sl stk

set_option maxHeartbeats 1000000 in
theorem ValidPiece_any (p : Pie) (hp : p.Fits) (w : World) :
    Calls Try.prog 7 #[p.v] w fun e w' => e = .returned (.bool (pieB p)) ∧ Below w.heap.size w w' := by
  obtain ⟨a, b, c⟩ := p
  obtain ⟨a0, a1, b0, b1, c0, c1⟩ := hp
  simp only at a0 a1 b0 b1 c0 c1
  go_enter Try.func7, Try.ntmps7
  go_wp2
  all_goals go_ret
  all_goals refine ⟨ret_bool (by first | (simp [pieB, inB, *]; done) | (simp [pieB, inB]; omega) | (rw [Bool.eq_iff_iff]; simp [pieB, inB]; omega) | (simp [pieB, inB, *]; omega)), ?_⟩
  all_goals repeat (first | exact Below.refl _ _ | assumption | apply Below.drew | (refine Below.alloc ?_ (by first | (simp; done) | (simp; omega) | omega) _) | (refine Below.setCell ?_ (by first | (simp; done) | (simp; omega) | omega) _))
set_option maxHeartbeats 1000000 in
theorem ValidIron_any (x : Iro) (hx : x.Fits) (w : World) :
    Calls Try.prog 10 #[x.v] w fun e w' => e = .returned (.bool (iroB x)) ∧ Below w.heap.size w w' := by
  obtain ⟨a, b⟩ := x
  obtain ⟨a0, a1, b0, b1⟩ := hx
  simp only at a0 a1 b0 b1
  go_enter Try.func10, Try.ntmps10
  go_wp2
  all_goals go_ret
  all_goals refine ⟨ret_bool (by first | (simp [iroB, inB, *]; done) | (simp [iroB, inB]; omega)), ?_⟩
  all_goals repeat (first | exact Below.refl _ _ | assumption | apply Below.drew | (refine Below.alloc ?_ (by first | (simp; done) | (simp; omega) | omega) _) | (refine Below.setCell ?_ (by first | (simp; done) | (simp; omega) | omega) _))
set_option maxHeartbeats 2000000 in
theorem l07Piece_any (p : Pie) (hp : p.Fits) (b : Bool) (hb : pieB p = b) (w : World) :
    Calls Try.prog 11 #[p.v] w fun o w' => o = .returned (.bool b) ∧ Below w.heap.size w w' := by
  subst hb
  unfold pieB
  obtain ⟨p, q, r⟩ := p
  obtain ⟨a0, a1, a2, a3, a4, a5⟩ := hp
  simp only at a0 a1 a2 a3 a4 a5
  have HB := Lib.hid ((Below.refl w.heap.size w).alloc (Nat.le_refl _) (.cells #[.int .i8 p, .int .i8 q, .int .i16 r] 27))
  cases h0 : inB p 1 3 with
  | true =>
    have H0 := Lib.hid h0
    clear h0
    cases h1 : inB q 1 60 with
    | true =>
      have H1 := Lib.hid h1
      clear h1
      cases h2 : inB r 0 1000 with
      | true =>
        have H2 := Lib.hid h2
        clear h2
        go_enter Try.func11, Try.ntmps11
        go_wp2_with fail
        refine (l00In_b _ _ _ true H0.out _).mono ?_
        rintro o w1 ⟨rfl, rfl⟩
        go_wp2_with fail
        refine (l00In_b _ _ _ true H1.out _).mono ?_
        rintro o w1 ⟨rfl, rfl⟩
        go_wp2_with fail
        refine (l00In_b _ _ _ true H2.out _).mono ?_
        rintro o w1 ⟨rfl, rfl⟩
        go_wp2_with fail
        go_ret
        exact ⟨rfl, HB.out⟩
      | false =>
        have H2 := Lib.hid h2
        clear h2
        go_enter Try.func11, Try.ntmps11
        go_wp2_with fail
        refine (l00In_b _ _ _ true H0.out _).mono ?_
        rintro o w1 ⟨rfl, rfl⟩
        go_wp2_with fail
        refine (l00In_b _ _ _ true H1.out _).mono ?_
        rintro o w1 ⟨rfl, rfl⟩
        go_wp2_with fail
        refine (l00In_b _ _ _ false H2.out _).mono ?_
        rintro o w1 ⟨rfl, rfl⟩
        go_wp2_with fail
        go_ret
        exact ⟨rfl, HB.out⟩
    | false =>
      have H1 := Lib.hid h1
      clear h1
      go_enter Try.func11, Try.ntmps11
      go_wp2_with fail
      refine (l00In_b _ _ _ true H0.out _).mono ?_
      rintro o w1 ⟨rfl, rfl⟩
      go_wp2_with fail
      refine (l00In_b _ _ _ false H1.out _).mono ?_
      rintro o w1 ⟨rfl, rfl⟩
      go_wp2_with fail
      go_ret
      exact ⟨rfl, HB.out⟩
  | false =>
    have H0 := Lib.hid h0
    clear h0
    go_enter Try.func11, Try.ntmps11
    go_wp2_with fail
    refine (l00In_b _ _ _ false H0.out _).mono ?_
    rintro o w1 ⟨rfl, rfl⟩
    go_wp2_with fail
    go_ret
    exact ⟨rfl, HB.out⟩
set_option maxHeartbeats 2000000 in
theorem l07Iron_any (x : Iro) (hx : x.Fits) (b : Bool) (hb : iroB x = b) (w : World) :
    Calls Try.prog 12 #[x.v] w fun o w' => o = .returned (.bool b) ∧ Below w.heap.size w w' := by
  subst hb
  unfold iroB
  obtain ⟨p, q⟩ := x
  obtain ⟨a0, a1, a2, a3⟩ := hx
  simp only at a0 a1 a2 a3
  have HB := Lib.hid ((Below.refl w.heap.size w).alloc (Nat.le_refl _) (.cells #[.int .i8 p, .int .i8 q] 33))
  cases h0 : inB p 0 60 with
  | true =>
    have H0 := Lib.hid h0
    clear h0
    cases h1 : inB q 0 60 with
    | true =>
      have H1 := Lib.hid h1
      clear h1
      go_enter Try.func12, Try.ntmps12
      go_wp2_with fail
      refine (l00In_b _ _ _ true H0.out _).mono ?_
      rintro o w1 ⟨rfl, rfl⟩
      go_wp2_with fail
      refine (l00In_b _ _ _ true H1.out _).mono ?_
      rintro o w1 ⟨rfl, rfl⟩
      go_wp2_with fail
      go_ret
      exact ⟨rfl, HB.out⟩
    | false =>
      have H1 := Lib.hid h1
      clear h1
      go_enter Try.func12, Try.ntmps12
      go_wp2_with fail
      refine (l00In_b _ _ _ true H0.out _).mono ?_
      rintro o w1 ⟨rfl, rfl⟩
      go_wp2_with fail
      refine (l00In_b _ _ _ false H1.out _).mono ?_
      rintro o w1 ⟨rfl, rfl⟩
      go_wp2_with fail
      go_ret
      exact ⟨rfl, HB.out⟩
  | false =>
    have H0 := Lib.hid h0
    clear h0
    go_enter Try.func12, Try.ntmps12
    go_wp2_with fail
    refine (l00In_b _ _ _ false H0.out _).mono ?_
    rintro o w1 ⟨rfl, rfl⟩
    go_wp2_with fail
    go_ret
    exact ⟨rfl, HB.out⟩
end Go.Proofs.Ytajhdgoinghmmaa.iron
