/-
  Several texts of this proof, joined.
-/
import Derived.Test.YtjfimmfnhlimkaaDoorJoin22
import Derived.Test.YtjfimmfnhlimkaaDoorGarEm
import Derived.OrdersHeld
import Derived.Deep.RegionHeld
/-
  Texts of garments: pure, and the model's.
-/
namespace Go.Proofs.YtjfimmfnhlimkaaDoor.gart
open Go Go.RowKit sl dec txt errs garS

def garT (x : Gar) : List UInt8 := ((((Lib.decDigits x.c.toNat ++ [47]) ++ Lib.decDigits x.n.toNat ++ [45]) ++ Lib.decDigits x.m.toNat ++ [32]) ++ Lib.decDigits x.g.toNat) ++ [10]
def garsT (xs : List Gar) : List UInt8 := (xs.map garT).flatten
theorem garsT_snoc {xs : List Gar} {i : Nat} {x : Gar} (h : xs[i]? = some x) : garsT (xs.take (i + 1)) = garsT (xs.take i) ++ garT x := by
  rw [garsT, garsT, List.take_add_one, h, Option.toList_some, List.map_append, List.flatten_append]
  simp
theorem garT_byte {x : Gar} {p q r s : Nat} (hp : x.c = (p : Int)) (hq : x.n = (q : Int)) (hr : x.m = (r : Int)) (hs : x.g = (s : Int)) : bsJ (garT x) = ((((((decB p ++ ⟨#[47]⟩) ++ decB q) ++ ⟨#[45]⟩) ++ decB r) ++ ⟨#[32]⟩) ++ decB s) ++ ⟨#[10]⟩ := by
  rw [garT, bsJ_append, bsJ_append, bsJ_append, bsJ_append, bsJ_append, bsJ_append, bsJ_append, hp, hq, hr, hs, Int.toNat_natCast, Int.toNat_natCast, Int.toNat_natCast, Int.toNat_natCast]
  rfl
theorem decJ (n : Nat) : decB n = bsJ (Lib.decDigits n) := rfl
theorem garT_two {x : Gar} {p q r s : Nat} (hp : x.c = (p : Int)) (hq : x.n = (q : Int)) (hr : x.m = (r : Int)) (hs : x.g = (s : Int)) : garT x = ((((Lib.decDigits p ++ [47]) ++ Lib.decDigits q) ++ [45]) ++ Lib.decDigits r) ++ (([32] ++ Lib.decDigits s) ++ [10]) := by
  rw [garT, hp, hq, hr, hs, Int.toNat_natCast, Int.toNat_natCast, Int.toNat_natCast, Int.toNat_natCast]
  simp only [List.append_assoc]
/-- a garment's block of the call's own, kept over calls -/
structure KG (b : Nat) (p q r s : Int) (w u : World) : Prop where
  h : u.heap[b]? = some (.cells #[.int .u8 p, .int .i8 q, .int .i8 r, .int .i16 s] 118 (0, 0))
  bl : Below w.heap.size w u
  lt : b < u.heap.size
theorem KG.next {b : Nat} {p q r s : Int} {w u v : World} (h : KG b p q r s w u) (hb : Below u.heap.size u v) : KG b p q r s w v :=
  ⟨(hb.block b h.lt).trans h.h, below_next h.bl hb (Nat.le_refl _), Nat.lt_of_lt_of_le h.lt hb.size⟩
theorem KG.c0 {b : Nat} {p q r s : Int} {w u : World} (h : KG b p q r s w u) : u.cell? ⟨b, 0, none⟩ = some (.int .u8 p) := cell_of_row _ _ _ _ _ _ h.h
theorem KG.c1 {b : Nat} {p q r s : Int} {w u : World} (h : KG b p q r s w u) : u.cell? ⟨b, 1, none⟩ = some (.int .i8 q) := cell_of_row _ _ _ _ _ _ h.h
theorem KG.c2 {b : Nat} {p q r s : Int} {w u : World} (h : KG b p q r s w u) : u.cell? ⟨b, 2, none⟩ = some (.int .i8 r) := cell_of_row _ _ _ _ _ _ h.h
theorem KG.c3 {b : Nat} {p q r s : Int} {w u : World} (h : KG b p q r s w u) : u.cell? ⟨b, 3, none⟩ = some (.int .i16 s) := cell_of_row _ _ _ _ _ _ h.h
set_option maxRecDepth 100000 in
set_option maxHeartbeats 4000000 in
theorem l01Text_any (A : Option Addr) (n c : Nat) (xs : List Gar) (en : n = xs.length) (hn : n ≤ 8) (hv : ∀ x ∈ xs, Gar.valid x = true) (w : World) (hg : GS w w.heap.size A xs) :
    Calls Tryd.prog 80 #[.slice A n c] w fun o w' => o = .returned (.string (bsJ (garsT xs))) ∧ Below w.heap.size w w' := by
  have En := Lib.hid en
  have HV := Lib.hid hv
  clear en hv
  go_enter Tryd.func80, Tryd.ntmps80
  go_wp2_with fail
  go_loopw [3, 4, 5] (fun vt vi _ wr => ∃ (i : Nat) (T : ByteArray), i ≤ n ∧ vi = .int .i64 i ∧ vt = .string T ∧ T = bsJ (garsT (xs.take i)) ∧ T.size ≤ 100 * i ∧ Below w.heap.size w wr) (fun _ vi _ _ => n - (intOf vi).toNat)
  case atStart => exact ⟨0, ⟨#[]⟩, by omega, rfl, rfl, by simp [garsT], by simp [ByteArray.size], Below.refl _ _⟩
  case round =>
    obtain ⟨i, T, hi, rfl, rfl, hT, hsz, hB⟩ := hrel
    have HT := Lib.hid hT
    have HB := Lib.hid hB
    clear hT hB
    by_cases hlt : i < n
    · obtain ⟨x, hx⟩ : ∃ x, xs[i]? = some x := ⟨xs[i]'(by have := En.out; omega), List.getElem?_eq_getElem _⟩
      obtain ⟨a, rfl, hab, hat⟩ := (hg.below HB.out).at_ i x hx
      obtain ⟨g0, g1, g2, g3⟩ := hat
      obtain ⟨⟨x0, y0⟩, ⟨x1, y1⟩, ⟨x2, y2⟩, x3, y3⟩ := gar_parts (HV.out x (List.mem_of_getElem? hx)) (hg.fits x (List.mem_of_getElem? hx))
      obtain ⟨p, hp⟩ : ∃ p : Nat, x.c = p := ⟨x.c.toNat, by omega⟩
      obtain ⟨q, hq⟩ : ∃ q : Nat, x.n = q := ⟨x.n.toNat, by omega⟩
      obtain ⟨r, hr⟩ : ∃ r : Nat, x.m = r := ⟨x.m.toNat, by omega⟩
      obtain ⟨s, hs⟩ : ∃ s : Nat, x.g = s := ⟨x.g.toNat, by omega⟩
      have hd1 := digJ_len (n := p) (by omega)
      have hd2 := digJ_len (n := q) (by omega)
      have hd3 := digJ_len (n := r) (by omega)
      have hd4 := digJ_len (n := s) (by omega)
      obtain ⟨D1, hD1⟩ : ∃ D, decB p = D := ⟨_, rfl⟩
      obtain ⟨D2, hD2⟩ : ∃ D, decB q = D := ⟨_, rfl⟩
      obtain ⟨D3, hD3⟩ : ∃ D, decB r = D := ⟨_, rfl⟩
      obtain ⟨D4, hD4⟩ : ∃ D, decB s = D := ⟨_, rfl⟩
      have hs1 : D1.size ≤ 22 := by rw [← hD1]; simpa [decB, ByteArray.size] using hd1
      have hs2 : D2.size ≤ 22 := by rw [← hD2]; simpa [decB, ByteArray.size] using hd2
      have hs3 : D3.size ≤ 22 := by rw [← hD3]; simpa [decB, ByteArray.size] using hd3
      have hs4 : D4.size ≤ 22 := by rw [← hD4]; simpa [decB, ByteArray.size] using hd4
      have HDD1 := Lib.hid (fun u : World => Decimal_any p (by omega) u)
      rw [hD1] at HDD1
      have HDD2 := Lib.hid (fun u : World => Decimal_any q (by omega) u)
      rw [hD2] at HDD2
      have HDD3 := Lib.hid (fun u : World => Decimal_any r (by omega) u)
      rw [hD3] at HDD3
      have HDD4 := Lib.hid (fun u : World => Decimal_any s (by omega) u)
      rw [hD4] at HDD4
      have hcb := garT_byte hp hq hr hs
      rw [hD1, hD2, hD3, hD4] at hcb
      have HNX : Hid (T ++ (((((((D1 ++ ⟨#[47]⟩) ++ D2) ++ ⟨#[45]⟩) ++ D3) ++ ⟨#[32]⟩) ++ D4) ++ ⟨#[10]⟩) = bsJ (garsT (xs.take (i + 1)))) := Lib.hid (by rw [HT.out, ← hcb, ← bsJ_append, garsT_snoc hx])
      rw [hp] at g0
      rw [hq] at g1
      rw [hr] at g2
      rw [hs] at g3
      obtain ⟨bk, hbk⟩ : ∃ bk, bk = wr.heap.size := ⟨_, rfl⟩
      obtain ⟨w4, hw4⟩ : ∃ u, u = wr.alloc (.cells #[.int .u8 (p : Int), .int .i8 (q : Int), .int .i8 (r : Int), .int .i16 (s : Int)] 118) := ⟨_, rfl⟩
      have hb4 : Below wr.heap.size wr w4 := by rw [hw4]; exact (Below.refl _ _).alloc (Nat.le_refl _) _
      have H8 : Hid (KG bk p q r s w w4) := Lib.hid ⟨by rw [hw4, hbk]; exact heap_alloc_new wr _, below_next HB.out hb4 (Nat.le_refl _), by rw [hw4, hbk]; simp⟩
      have HW4 := Lib.hid hw4
      have HBK := Lib.hid hbk
      have ww0 : IntKind.i64.wrap (p : Int) = p := IntWalk.i64_in _ (by omega)
      have ww1 : IntKind.i64.wrap (q : Int) = q := IntWalk.i64_in _ (by omega)
      have ww2 : IntKind.i64.wrap (r : Int) = r := IntWalk.i64_in _ (by omega)
      have ww3 : IntKind.i64.wrap (s : Int) = s := IntWalk.i64_in _ (by omega)
      have hz1 : ¬ 9223372036854775807 < D1.size + 1 := by omega
      have hz2 : ¬ 9223372036854775807 < D1.size + 1 + D2.size := by omega
      have hz3 : ¬ 9223372036854775807 < D1.size + 1 + D2.size + 1 := by omega
      have hz4 : ¬ 9223372036854775807 < D1.size + 1 + D2.size + 1 + D3.size := by omega
      have hz5 : ¬ 9223372036854775807 < D1.size + 1 + D2.size + 1 + D3.size + 1 := by omega
      have hz6 : ¬ 9223372036854775807 < D1.size + 1 + D2.size + 1 + D3.size + 1 + D4.size := by omega
      have hz7 : ¬ 9223372036854775807 < D1.size + 1 + D2.size + 1 + D3.size + 1 + D4.size + 1 := by omega
      have hb1 : ∀ b : UInt8, (⟨#[b]⟩ : ByteArray).size = 1 := fun _ => rfl
      have hz8 : ¬ 9223372036854775807 < T.size + (D1.size + 1 + D2.size + 1 + D3.size + 1 + D4.size + 1) := by omega
      have hz9 : (T ++ (((((((D1 ++ ⟨#[47]⟩) ++ D2) ++ ⟨#[45]⟩) ++ D3) ++ ⟨#[32]⟩) ++ D4) ++ ⟨#[10]⟩)).size ≤ 100 * (i + 1) := by simp only [ByteArray.size_append, hb1]; omega
      clear hx hD1 hD2 hD3 hD4 hd1 hd2 hd3 hd4 hs1 hs2 hs3 hs4 hcb hb1 x0 y0 x1 y1 x2 y2 x3 y3 hw4 hbk hb4
      go_wp2_with (first | (rw [← HW4.out, ← HBK.out]) | fail)
      refine wp_region_held_drew (S := fun u => KG bk p q r s w u) (by kernel_rfl) (H8.out.next (Below.refl _ _).drew) (fun hHeld => ?_)
      generalize w4.drew = w5 at hHeld ⊢
      clear H8 HW4
      refine wpAnyH_take (i := 0) (v := ?_) rfl (by kernel_rfl) (by kernel_rfl) (by kernel_rfl) (fun _ _ _ h => h) (Or.inl ⟨by rfl, ?_⟩) (by assumption) ?_
      rotate_left
      · intro u hSu
        (try dsimp only at hSu)
        first | (go_simp; done) | (go_simp; with_reducible rfl)
      try simp only [Act.put, List.getElem_toArray, List.getElem_cons_zero, List.getElem_cons_succ, List.setIfInBounds_toArray, List.set_cons_zero, List.set_cons_succ]
      refine wpAnyH_take (i := 1) (v := ?_) rfl (by kernel_rfl) (by kernel_rfl) (by kernel_rfl) (fun _ _ _ h => h) (Or.inl ⟨by rfl, ?_⟩) (by assumption) ?_
      rotate_left
      · intro u hSu
        (try dsimp only at hSu)
        first | (go_simp; done) | (go_simp; with_reducible rfl)
      try simp only [Act.put, List.getElem_toArray, List.getElem_cons_zero, List.getElem_cons_succ, List.setIfInBounds_toArray, List.set_cons_zero, List.set_cons_succ]
      refine wpAnyH_take (i := 2) (v := ?_) rfl (by kernel_rfl) (by kernel_rfl) (by kernel_rfl) (fun _ _ _ h => h) (Or.inl ⟨by rfl, ?_⟩) (by assumption) ?_
      rotate_left
      · intro u hSu
        have qa := hSu.c0; have qb := hSu.c1; have qc := hSu.c2; have qd := hSu.c3; clear hSu
        first | (go_simp; done) | (go_simp; with_reducible rfl)
      try simp only [Act.put, List.getElem_toArray, List.getElem_cons_zero, List.getElem_cons_succ, List.setIfInBounds_toArray, List.set_cons_zero, List.set_cons_succ]
      refine wpAnyH_take (i := 3) (v := ?_) rfl (by kernel_rfl) (by kernel_rfl) (by kernel_rfl) (fun _ _ _ h => h) (Or.inl ⟨by rfl, ?_⟩) (by assumption) ?_
      rotate_left
      · intro u hSu
        (try dsimp only at hSu)
        first | (go_simp; done) | (go_simp; with_reducible rfl)
      try simp only [Act.put, List.getElem_toArray, List.getElem_cons_zero, List.getElem_cons_succ, List.setIfInBounds_toArray, List.set_cons_zero, List.set_cons_succ]
      refine wpAnyH_take (i := 6) (v := ?_) rfl (by kernel_rfl) (by kernel_rfl) (by kernel_rfl) (fun _ _ _ h => h) (Or.inl ⟨by rfl, ?_⟩) (by assumption) ?_
      rotate_left
      · intro u hSu
        (try dsimp only at hSu)
        first | (go_simp; done) | (go_simp; with_reducible rfl)
      try simp only [Act.put, List.getElem_toArray, List.getElem_cons_zero, List.getElem_cons_succ, List.setIfInBounds_toArray, List.set_cons_zero, List.set_cons_succ]
      refine wpAnyH_take (i := 7) (v := ?_) rfl (by kernel_rfl) (by kernel_rfl) (by kernel_rfl) (fun _ _ _ h => h) (Or.inl ⟨by rfl, ?_⟩) (by assumption) ?_
      rotate_left
      · intro u hSu
        have qa := hSu.c0; have qb := hSu.c1; have qc := hSu.c2; have qd := hSu.c3; clear hSu
        first | (go_simp; done) | (go_simp; with_reducible rfl)
      try simp only [Act.put, List.getElem_toArray, List.getElem_cons_zero, List.getElem_cons_succ, List.setIfInBounds_toArray, List.set_cons_zero, List.set_cons_succ]
      refine wpAnyH_take (i := 8) (v := ?_) rfl (by kernel_rfl) (by kernel_rfl) (by kernel_rfl) (fun _ _ _ h => h) (Or.inl ⟨by rfl, ?_⟩) (by assumption) ?_
      rotate_left
      · intro u hSu
        (try dsimp only at hSu)
        first | (go_simp; done) | (go_simp; with_reducible rfl)
      try simp only [Act.put, List.getElem_toArray, List.getElem_cons_zero, List.getElem_cons_succ, List.setIfInBounds_toArray, List.set_cons_zero, List.set_cons_succ]
      refine wpAnyH_take (i := 12) (v := ?_) rfl (by kernel_rfl) (by kernel_rfl) (by kernel_rfl) (fun _ _ _ h => h) (Or.inl ⟨by rfl, ?_⟩) (by assumption) ?_
      rotate_left
      · intro u hSu
        (try dsimp only at hSu)
        first | (go_simp; done) | (go_simp; with_reducible rfl)
      try simp only [Act.put, List.getElem_toArray, List.getElem_cons_zero, List.getElem_cons_succ, List.setIfInBounds_toArray, List.set_cons_zero, List.set_cons_succ]
      refine wpAnyH_take (i := 13) (v := ?_) rfl (by kernel_rfl) (by kernel_rfl) (by kernel_rfl) (fun _ _ _ h => h) (Or.inl ⟨by rfl, ?_⟩) (by assumption) ?_
      rotate_left
      · intro u hSu
        have qa := hSu.c0; have qb := hSu.c1; have qc := hSu.c2; have qd := hSu.c3; clear hSu
        first | (go_simp; done) | (go_simp; with_reducible rfl)
      try simp only [Act.put, List.getElem_toArray, List.getElem_cons_zero, List.getElem_cons_succ, List.setIfInBounds_toArray, List.set_cons_zero, List.set_cons_succ]
      refine wpAnyH_take (i := 14) (v := ?_) rfl (by kernel_rfl) (by kernel_rfl) (by kernel_rfl) (fun _ _ _ h => h) (Or.inl ⟨by rfl, ?_⟩) (by assumption) ?_
      rotate_left
      · intro u hSu
        (try dsimp only at hSu)
        first | (go_simp; done) | (go_simp; with_reducible rfl)
      try simp only [Act.put, List.getElem_toArray, List.getElem_cons_zero, List.getElem_cons_succ, List.setIfInBounds_toArray, List.set_cons_zero, List.set_cons_succ]
      refine wpAnyH_take (i := 18) (v := ?_) rfl (by kernel_rfl) (by kernel_rfl) (by kernel_rfl) (fun _ _ _ h => h) (Or.inl ⟨by rfl, ?_⟩) (by assumption) ?_
      rotate_left
      · intro u hSu
        (try dsimp only at hSu)
        first | (go_simp; done) | (go_simp; with_reducible rfl)
      try simp only [Act.put, List.getElem_toArray, List.getElem_cons_zero, List.getElem_cons_succ, List.setIfInBounds_toArray, List.set_cons_zero, List.set_cons_succ]
      refine wpAnyH_take (i := 19) (v := ?_) rfl (by kernel_rfl) (by kernel_rfl) (by kernel_rfl) (fun _ _ _ h => h) (Or.inl ⟨by rfl, ?_⟩) (by assumption) ?_
      rotate_left
      · intro u hSu
        have qa := hSu.c0; have qb := hSu.c1; have qc := hSu.c2; have qd := hSu.c3; clear hSu
        first | (go_simp; done) | (go_simp; with_reducible rfl)
      try simp only [Act.put, List.getElem_toArray, List.getElem_cons_zero, List.getElem_cons_succ, List.setIfInBounds_toArray, List.set_cons_zero, List.set_cons_succ]
      refine wpAnyH_take (i := 20) (v := ?_) rfl (by kernel_rfl) (by kernel_rfl) (by kernel_rfl) (fun _ _ _ h => h) (Or.inl ⟨by rfl, ?_⟩) (by assumption) ?_
      rotate_left
      · intro u hSu
        (try dsimp only at hSu)
        first | (go_simp; done) | (go_simp; with_reducible rfl)
      try simp only [Act.put, List.getElem_toArray, List.getElem_cons_zero, List.getElem_cons_succ, List.setIfInBounds_toArray, List.set_cons_zero, List.set_cons_succ]
      refine wpAnyH_ready (rs := [4]) (by kernel_rfl) (by simp) ?_
      refine AllReadyH.cons rfl (fun K hK => ?_) AllReadyH.nil
      go_simp
      refine (HDD1.out _).mono ?_
      rintro o w6 ⟨rfl, hb⟩
      refine hK.out _ _ (hHeld.next hb) (fun hHeld2 => ?_)
      clear hK K hHeld
      have hHeld := hHeld2
      clear hHeld2
      try simp only [Act.put, List.getElem_toArray, List.getElem_cons_zero, List.getElem_cons_succ, List.setIfInBounds_toArray, List.set_cons_zero, List.set_cons_succ]
      clear hb
      refine wpAnyH_take (i := 5) (v := ?_) rfl (by kernel_rfl) (by kernel_rfl) (by kernel_rfl) (fun _ _ _ h => h) (Or.inl ⟨by rfl, ?_⟩) (by assumption) ?_
      rotate_left
      · intro u hSu
        (try dsimp only at hSu)
        first | (go_simp; done) | (go_simp; with_reducible rfl)
      try simp only [Act.put, List.getElem_toArray, List.getElem_cons_zero, List.getElem_cons_succ, List.setIfInBounds_toArray, List.set_cons_zero, List.set_cons_succ]
      refine wpAnyH_ready (rs := [9]) (by kernel_rfl) (by simp) ?_
      refine AllReadyH.cons rfl (fun K hK => ?_) AllReadyH.nil
      go_simp
      refine (HDD2.out _).mono ?_
      rintro o w7 ⟨rfl, hb⟩
      refine hK.out _ _ (hHeld.next hb) (fun hHeld2 => ?_)
      clear hK K hHeld
      have hHeld := hHeld2
      clear hHeld2
      try simp only [Act.put, List.getElem_toArray, List.getElem_cons_zero, List.getElem_cons_succ, List.setIfInBounds_toArray, List.set_cons_zero, List.set_cons_succ]
      clear hb
      refine wpAnyH_take (i := 10) (v := ?_) rfl (by kernel_rfl) (by kernel_rfl) (by kernel_rfl) (fun _ _ _ h => h) (Or.inl ⟨by rfl, ?_⟩) (by assumption) ?_
      rotate_left
      · intro u hSu
        (try dsimp only at hSu)
        first | (go_simp; done) | (go_simp; with_reducible rfl)
      try simp only [Act.put, List.getElem_toArray, List.getElem_cons_zero, List.getElem_cons_succ, List.setIfInBounds_toArray, List.set_cons_zero, List.set_cons_succ]
      refine wpAnyH_take (i := 11) (v := ?_) rfl (by kernel_rfl) (by kernel_rfl) (by kernel_rfl) (fun _ _ _ h => h) (Or.inl ⟨by rfl, ?_⟩) (by assumption) ?_
      rotate_left
      · intro u hSu
        (try dsimp only at hSu)
        first | (go_simp; done) | (go_simp; with_reducible rfl)
      try simp only [Act.put, List.getElem_toArray, List.getElem_cons_zero, List.getElem_cons_succ, List.setIfInBounds_toArray, List.set_cons_zero, List.set_cons_succ]
      refine wpAnyH_ready (rs := [15]) (by kernel_rfl) (by simp) ?_
      refine AllReadyH.cons rfl (fun K hK => ?_) AllReadyH.nil
      go_simp
      refine (HDD3.out _).mono ?_
      rintro o w8 ⟨rfl, hb⟩
      refine hK.out _ _ (hHeld.next hb) (fun hHeld2 => ?_)
      clear hK K hHeld
      have hHeld := hHeld2
      clear hHeld2
      try simp only [Act.put, List.getElem_toArray, List.getElem_cons_zero, List.getElem_cons_succ, List.setIfInBounds_toArray, List.set_cons_zero, List.set_cons_succ]
      clear hb
      refine wpAnyH_take (i := 16) (v := ?_) rfl (by kernel_rfl) (by kernel_rfl) (by kernel_rfl) (fun _ _ _ h => h) (Or.inl ⟨by rfl, ?_⟩) (by assumption) ?_
      rotate_left
      · intro u hSu
        (try dsimp only at hSu)
        first | (go_simp; done) | (go_simp; with_reducible rfl)
      try simp only [Act.put, List.getElem_toArray, List.getElem_cons_zero, List.getElem_cons_succ, List.setIfInBounds_toArray, List.set_cons_zero, List.set_cons_succ]
      refine wpAnyH_take (i := 17) (v := ?_) rfl (by kernel_rfl) (by kernel_rfl) (by kernel_rfl) (fun _ _ _ h => h) (Or.inl ⟨by rfl, ?_⟩) (by assumption) ?_
      rotate_left
      · intro u hSu
        (try dsimp only at hSu)
        first | (go_simp; done) | (go_simp; with_reducible rfl)
      try simp only [Act.put, List.getElem_toArray, List.getElem_cons_zero, List.getElem_cons_succ, List.setIfInBounds_toArray, List.set_cons_zero, List.set_cons_succ]
      refine wpAnyH_ready (rs := [21]) (by kernel_rfl) (by simp) ?_
      refine AllReadyH.cons rfl (fun K hK => ?_) AllReadyH.nil
      go_simp
      refine (HDD4.out _).mono ?_
      rintro o w9 ⟨rfl, hb⟩
      refine hK.out _ _ (hHeld.next hb) (fun hHeld2 => ?_)
      clear hK K hHeld
      have hHeld := hHeld2
      clear hHeld2
      try simp only [Act.put, List.getElem_toArray, List.getElem_cons_zero, List.getElem_cons_succ, List.setIfInBounds_toArray, List.set_cons_zero, List.set_cons_succ]
      clear hb
      refine wpAnyH_take (i := 22) (v := ?_) rfl (by kernel_rfl) (by kernel_rfl) (by kernel_rfl) (fun _ _ _ h => h) (Or.inl ⟨by rfl, ?_⟩) (by assumption) ?_
      rotate_left
      · intro u hSu
        (try dsimp only at hSu)
        first | (go_simp; done) | (go_simp; with_reducible rfl)
      try simp only [Act.put, List.getElem_toArray, List.getElem_cons_zero, List.getElem_cons_succ, List.setIfInBounds_toArray, List.set_cons_zero, List.set_cons_succ]
      refine wpAnyH_take (i := 23) (v := ?_) rfl (by kernel_rfl) (by kernel_rfl) (by kernel_rfl) (fun _ _ _ h => h) (Or.inl ⟨by rfl, ?_⟩) (by assumption) ?_
      rotate_left
      · intro u hSu
        (try dsimp only at hSu)
        first | (go_simp; done) | (go_simp; with_reducible rfl)
      try simp only [Act.put, List.getElem_toArray, List.getElem_cons_zero, List.getElem_cons_succ, List.setIfInBounds_toArray, List.set_cons_zero, List.set_cons_succ]
      refine wpAnyH_take (i := 24) (v := ?_) rfl (by kernel_rfl) (by kernel_rfl) (by kernel_rfl) (fun _ _ _ h => h) (Or.inl ⟨by rfl, ?_⟩) (by assumption) ?_
      rotate_left
      · intro u hSu
        (try dsimp only at hSu)
        first | (go_simp; done) | (go_simp; with_reducible rfl)
      try simp only [Act.put, List.getElem_toArray, List.getElem_cons_zero, List.getElem_cons_succ, List.setIfInBounds_toArray, List.set_cons_zero, List.set_cons_succ]
      refine wpAnyH_ready (rs := [25]) (by kernel_rfl) (by simp) ?_
      refine AllReadyH.cons rfl (fun K hK => ?_) AllReadyH.nil
      go_simp
      refine hK.out _ _ (hHeld) (fun hHeld2 => ?_)
      clear hK K hHeld
      have hHeld := hHeld2
      clear hHeld2
      try simp only [Act.put, List.getElem_toArray, List.getElem_cons_zero, List.getElem_cons_succ, List.setIfInBounds_toArray, List.set_cons_zero, List.set_cons_succ]
      refine wpAnyH_done (by kernel_rfl) ?_ _
      go_wp2_with fail
      go_roundw
      case rel => exact ⟨i + 1, _, by omega, by go_num, rfl, HNX.out, hz9, hHeld.bl⟩
      case measure => simp [intOf]; omega
    · obtain rfl : i = n := by omega
      have HK : Hid (T = bsJ (garsT xs)) := Lib.hid (by rw [HT.out, List.take_of_length_le (by rw [← En.out]; exact Nat.le_refl _)])
      go_wp2_with fail
      go_ret
      exact ⟨by rw [HK.out]; rfl, HB.out⟩
end Go.Proofs.YtjfimmfnhlimkaaDoor.gart

/-
  Texts of garments: the program's GarmentsText, and the model's.
-/
namespace Go.Proofs.YtjfimmfnhlimkaaDoor.gart
open Go Go.RowKit sl dec txt errs garS

def garText (xs : List Gar) : ByteArray := if codeAll xs true = 0 then bsJ (garsT xs) else ⟨#[]⟩
set_option maxRecDepth 100000 in
set_option maxHeartbeats 8000000 in
theorem GarmentsText_any (A : Option Addr) (n c : Nat) (xs : List Gar) (en : n = xs.length) (hn : n ≤ 1048576) {w : World} {B : Nat} {e : Nat → Addr} (h : EM w B e) (hB : B ≤ w.heap.size) (ht : TabJ w) (hg : GS w w.heap.size A xs) :
    Calls Tryd.prog 32 #[.slice A n c] w fun o w' => o = .returned (.string (garText xs)) ∧ Below w.heap.size w w' := by
  obtain ⟨T, hT⟩ : ∃ T, garText xs = T := ⟨_, rfl⟩
  rw [hT]
  have HT := Lib.hid hT
  have En := Lib.hid en
  have HTB := Lib.hid ht
  have HE := Lib.hid (fun (u : World) (hu : Below w.heap.size w u) => h.below (hu.mono hB))
  obtain ⟨k1, hk1⟩ : ∃ k : Nat, k = if xs.all Gar.valid = true then 0 else 1 := ⟨_, rfl⟩
  obtain ⟨k2, hk2⟩ : ∃ k : Nat, k = if 8 < n then 3 else 0 := ⟨_, rfl⟩
  obtain ⟨k0, hk0⟩ : ∃ k : Nat, k = codeAll xs true := ⟨_, rfl⟩
  have HK := Lib.hid ((code2g xs n k1 k2 en hk1 hk2).trans hk0.symm)
  have HK1 := Lib.hid hk1
  have HK2 := Lib.hid hk2
  have HK0 := Lib.hid hk0
  clear hT en ht hk1 hk2 hk0 h
  go_enter Tryd.func32, Tryd.ntmps32
  go_wp2_with fail
  refine (checkGarments_em A n c xs En.out hn (HE.out _ (Below.refl _ _)) hB hg k1 HK1.out).mono ?_
  rintro o w1 ⟨rfl, hb⟩
  have HB1 := Lib.hid hb
  clear hb
  go_wp2_with fail
  refine (checkCount_em A n c hn (HE.out _ HB1.out) k2 HK2.out).mono ?_
  rintro o u ⟨rfl, hw⟩
  obtain rfl := hw
  obtain ⟨w2, hw2⟩ : ∃ u, u = w1.alloc (.cells #[errOf e k1, errOf e k2] 94) := ⟨_, rfl⟩
  have HB2 : Hid (Below _ _ w2) := Lib.hid (below_next HB1.out (by rw [hw2]; exact (Below.refl _ _).alloc (Nat.le_refl _) _) (Nat.le_refl _))
  have HCE := Lib.hid (cells_errs e [k1, k2] w1 94 #[errOf e k1, errOf e k2] rfl)
  rw [← hw2] at HCE
  have HW2 := Lib.hid hw2
  clear hw2
  go_wp2_with (first | (refine wpList_listed rfl 178 2 _ rfl #[(0, errOf e k1), (1, errOf e k2)] ?hp (buildSlice2 e k1 k2 _) ?_; case hp => simp [Act.eval]) | (rw [← HW2.out]) | fail)
  refine (firstOf_any e [k1, k2] _ 2 2 rfl (by decide) _ HCE.out).mono ?_
  rintro o u ⟨rfl, hw⟩
  obtain rfl := hw
  rw [HK.out]
  cases k0 with
  | succ k =>
    obtain rfl : T = ⟨#[]⟩ := by rw [← HT.out, garText, ← HK0.out, if_neg (by omega)]
    rw [show errOf e (k + 1) = errV (e k) from rfl]
    go_wp2_with fail
    go_ret
    exact ⟨rfl, HB2.out⟩
  | zero =>
    obtain ⟨hval, h8⟩ := codeAll_zero HK0.out.symm
    rw [← En.out] at h8
    have HVL := Lib.hid hval
    have HT2 : Hid (T = bsJ (garsT xs)) := Lib.hid (by rw [← HT.out, garText, ← HK0.out, if_pos rfl])
    obtain ⟨bb, hbb⟩ : ∃ bb, bb = w2.heap.size := ⟨_, rfl⟩
    obtain ⟨w3, hw3⟩ : ∃ u, u = w2.alloc (.cells #[.pointer none, .slice none 0 0] 126) := ⟨_, rfl⟩
    have HG0 : Hid (Bld bb bb [] w3) := Lib.hid (by rw [hw3, hbb]; exact Bld.new w2)
    have HB3 : Hid (Below w.heap.size w w3) := Lib.hid (by rw [hw3]; exact HB2.out.alloc HB2.out.size _)
    have HBW : Hid (w.heap.size ≤ bb) := Lib.hid (by rw [hbb]; exact HB2.out.size)
    have HW3 := Lib.hid hw3
    have HBB := Lib.hid hbb
    rw [show errOf e 0 = .nilIface from rfl]
    clear hval hbb hw3
    go_wp2_with (first | (rw [← HW3.out, ← HBB.out]) | fail)
    go_loopw [5, 15] (fun _ vi wr => ∃ i : Nat, i ≤ n ∧ vi = .int .i64 (i : Nat) ∧ Bld bb bb (garsT (xs.take i)) wr ∧ Below w.heap.size w wr) (fun _ vi _ => n - (intOf vi).toNat)
    case atStart => exact ⟨0, by omega, rfl, HG0.out, HB3.out⟩
    case round =>
      clear HG0 HB3 HW3
      obtain ⟨i, hil, rfl, hG, hB3⟩ := hrel
      have HG := Lib.hid hG
      have HB := Lib.hid hB3
      clear hG hB3
      by_cases hlt : i < n
      · obtain ⟨x, hx⟩ : ∃ x, xs[i]? = some x := ⟨xs[i]'(by have := En.out; omega), List.getElem?_eq_getElem _⟩
        obtain ⟨a, rfl, hab, hat⟩ := (hg.below HB.out).at_ i x hx
        obtain ⟨g0, g1, g2, g3⟩ := hat
        have hlen : ∀ j, j ≤ n → (garsT (xs.take j)).length ≤ 100 * j := by
          intro j hj
          induction j with
          | zero => simp [garsT]
          | succ j ih =>
            obtain ⟨y, hy⟩ : ∃ y, xs[j]? = some y := ⟨xs[j]'(by have := En.out; omega), List.getElem?_eq_getElem _⟩
            rw [garsT_snoc hy, List.length_append]
            have h1 := ih (by omega)
            obtain ⟨⟨x0, y0⟩, ⟨x1, y1⟩, ⟨x2, y2⟩, x3, y3⟩ := gar_parts (HVL.out y (List.mem_of_getElem? hy)) (hg.fits y (List.mem_of_getElem? hy))
            have e0 := digJ_len (n := y.c.toNat) (by omega)
            have e1 := digJ_len (n := y.n.toNat) (by omega)
            have e2 := digJ_len (n := y.m.toNat) (by omega)
            have e3 := digJ_len (n := y.g.toNat) (by omega)
            simp only [garT, List.length_append, List.length_singleton]
            omega
        have hlen1 := hlen i (by omega)
        obtain ⟨⟨x0, y0⟩, ⟨x1, y1⟩, ⟨x2, y2⟩, x3, y3⟩ := gar_parts (HVL.out x (List.mem_of_getElem? hx)) (hg.fits x (List.mem_of_getElem? hx))
        obtain ⟨p, hp⟩ : ∃ p : Nat, x.c = p := ⟨x.c.toNat, by omega⟩
        obtain ⟨q, hq⟩ : ∃ q : Nat, x.n = q := ⟨x.n.toNat, by omega⟩
        obtain ⟨r, hr⟩ : ∃ r : Nat, x.m = r := ⟨x.m.toNat, by omega⟩
        obtain ⟨s, hs⟩ : ∃ s : Nat, x.g = s := ⟨x.g.toNat, by omega⟩
        have hd1 := digJ_len (n := p) (by omega)
        have hd2 := digJ_len (n := q) (by omega)
        have hd3 := digJ_len (n := r) (by omega)
        have hd4 := digJ_len (n := s) (by omega)
        obtain ⟨D1, hD1⟩ : ∃ D, decB p = D := ⟨_, rfl⟩
        obtain ⟨D2, hD2⟩ : ∃ D, decB q = D := ⟨_, rfl⟩
        obtain ⟨D3, hD3⟩ : ∃ D, decB r = D := ⟨_, rfl⟩
        obtain ⟨D4, hD4⟩ : ∃ D, decB s = D := ⟨_, rfl⟩
        have hs1 : D1.size ≤ 22 := by rw [← hD1]; simpa [decB, ByteArray.size] using hd1
        have hs2 : D2.size ≤ 22 := by rw [← hD2]; simpa [decB, ByteArray.size] using hd2
        have hs3 : D3.size ≤ 22 := by rw [← hD3]; simpa [decB, ByteArray.size] using hd3
        have hs4 : D4.size ≤ 22 := by rw [← hD4]; simpa [decB, ByteArray.size] using hd4
        have HDD1 := Lib.hid (fun (u : World) ht => ItoaJ p (by omega) u ht)
        rw [hD1] at HDD1
        have HDD2 := Lib.hid (fun (u : World) ht => ItoaJ q (by omega) u ht)
        rw [hD2] at HDD2
        have HDD3 := Lib.hid (fun (u : World) ht => ItoaJ r (by omega) u ht)
        rw [hD3] at HDD3
        have HDD4 := Lib.hid (fun (u : World) ht => ItoaJ s (by omega) u ht)
        rw [hD4] at HDD4
        obtain ⟨ma, hma⟩ : ∃ ma : List UInt8, ma = ((((Lib.decDigits p ++ [47]) ++ Lib.decDigits q) ++ [45]) ++ Lib.decDigits r) := ⟨_, rfl⟩
        obtain ⟨mb, hmb⟩ : ∃ mb : List UInt8, mb = (([32] ++ Lib.decDigits s) ++ [10]) := ⟨_, rfl⟩
        have HSA : Hid ((((D1 ++ ⟨#[47]⟩) ++ D2) ++ ⟨#[45]⟩) ++ D3 = bsJ ma) := Lib.hid (by rw [hma, ← hD1, ← hD2, ← hD3, bsJ_append, bsJ_append, bsJ_append, bsJ_append]; rfl)
        have HSB : Hid (((⟨#[32]⟩ : ByteArray) ++ D4) ++ ⟨#[10]⟩ = bsJ mb) := Lib.hid (by rw [hmb, ← hD4, bsJ_append, bsJ_append]; rfl)
        have hla : ma.length ≤ 100 := by rw [hma]; simp only [List.length_append, List.length_singleton]; omega
        have hlb : mb.length ≤ 100 := by rw [hmb]; simp only [List.length_append, List.length_singleton]; omega
        have HLA : Hid ((garsT (xs.take i)).length ≤ 1000000) := Lib.hid (by omega)
        have HLB : Hid (ma.length ≤ 1000000) := Lib.hid (by omega)
        have HLC : Hid ((garsT (xs.take i) ++ ma).length ≤ 1000000) := Lib.hid (by simp only [List.length_append]; omega)
        have HLD : Hid (mb.length ≤ 1000000) := Lib.hid (by omega)
        have HNX : Hid (garsT (xs.take i) ++ ma ++ mb = garsT (xs.take (i + 1))) := Lib.hid (by rw [garsT_snoc hx, garT_two hp hq hr hs, hma, hmb, List.append_assoc])
        rw [hp] at g0
        rw [hq] at g1
        rw [hr] at g2
        rw [hs] at g3
        obtain ⟨bk, hbk⟩ : ∃ bk, bk = wr.heap.size := ⟨_, rfl⟩
        obtain ⟨w4, hw4⟩ : ∃ u, u = wr.alloc (.cells #[.int .u8 (p : Int), .int .i8 (q : Int), .int .i8 (r : Int), .int .i16 (s : Int)] 118) := ⟨_, rfl⟩
        have hb4 : Below wr.heap.size wr w4 := by rw [hw4]; exact (Below.refl _ _).alloc (Nat.le_refl _) _
        have H8 : Hid (KG bk p q r s w w4) := Lib.hid ⟨by rw [hw4, hbk]; exact heap_alloc_new wr _, below_next HB.out hb4 (Nat.le_refl _), by rw [hw4, hbk]; simp⟩
        have HW4 := Lib.hid hw4
        have HBK := Lib.hid hbk
        have HG4 := Lib.hid (HG.out.next hb4)
        have ww0 : IntKind.i64.wrap (p : Int) = p := IntWalk.i64_in _ (by omega)
        have ww1 : IntKind.i64.wrap (q : Int) = q := IntWalk.i64_in _ (by omega)
        have ww2 : IntKind.i64.wrap (r : Int) = r := IntWalk.i64_in _ (by omega)
        have ww3 : IntKind.i64.wrap (s : Int) = s := IntWalk.i64_in _ (by omega)
        have hz1 : ¬ 9223372036854775807 < D1.size + 1 := by omega
        have hz2 : ¬ 9223372036854775807 < D1.size + 1 + D2.size := by omega
        have hz3 : ¬ 9223372036854775807 < D1.size + 1 + D2.size + 1 := by omega
        have hz4 : ¬ 9223372036854775807 < D1.size + 1 + D2.size + 1 + D3.size := by omega
        have hz5 : ¬ 9223372036854775807 < D1.size + 1 + D2.size + 1 + D3.size + 1 := by omega
        have hz8 : ¬ 9223372036854775807 < 1 + D4.size := by omega
        have hz9 : ¬ 9223372036854775807 < 1 + D4.size + 1 := by omega
        clear hx hD1 hD2 hD3 hD4 hd1 hd2 hd3 hd4 hs1 hs2 hs3 hs4 x0 y0 x1 y1 x2 y2 x3 y3 hw4 hbk hb4 hlen hlen1 HG hma hmb hla hlb
        go_wp2_with (first | (rw [← HW4.out, ← HBK.out]) | fail)
        refine wp_region_held_drew (S := fun u => KG bk p q r s w u) (by kernel_rfl) (H8.out.next (Below.refl _ _).drew) (fun hHeld => ?_)
        have HG5 := Lib.hid (HG4.out.next (Below.refl _ _).drew)
        generalize w4.drew = w5 at hHeld HG5 ⊢
        clear H8 HW4 HG4
        refine wpAnyH_take (i := 0) (v := ?_) rfl (by kernel_rfl) (by kernel_rfl) (by kernel_rfl) (fun _ _ _ h => h) (Or.inl ⟨by rfl, ?_⟩) (by assumption) ?_
        rotate_left
        · intro u hSu
          (try dsimp only at hSu)
          first | (go_simp; done) | (go_simp; with_reducible rfl)
        try simp only [Act.put, List.getElem_toArray, List.getElem_cons_zero, List.getElem_cons_succ, List.setIfInBounds_toArray, List.set_cons_zero, List.set_cons_succ]
        refine wpAnyH_take (i := 1) (v := ?_) rfl (by kernel_rfl) (by kernel_rfl) (by kernel_rfl) (fun _ _ _ h => h) (Or.inl ⟨by rfl, ?_⟩) (by assumption) ?_
        rotate_left
        · intro u hSu
          have qa := hSu.c0; have qb := hSu.c1; have qc := hSu.c2; have qd := hSu.c3; clear hSu
          first | (go_simp; done) | (go_simp; with_reducible rfl)
        try simp only [Act.put, List.getElem_toArray, List.getElem_cons_zero, List.getElem_cons_succ, List.setIfInBounds_toArray, List.set_cons_zero, List.set_cons_succ]
        refine wpAnyH_take (i := 2) (v := ?_) rfl (by kernel_rfl) (by kernel_rfl) (by kernel_rfl) (fun _ _ _ h => h) (Or.inl ⟨by rfl, ?_⟩) (by assumption) ?_
        rotate_left
        · intro u hSu
          (try dsimp only at hSu)
          first | (go_simp; done) | (go_simp; with_reducible rfl)
        try simp only [Act.put, List.getElem_toArray, List.getElem_cons_zero, List.getElem_cons_succ, List.setIfInBounds_toArray, List.set_cons_zero, List.set_cons_succ]
        refine wpAnyH_take (i := 5) (v := ?_) rfl (by kernel_rfl) (by kernel_rfl) (by kernel_rfl) (fun _ _ _ h => h) (Or.inl ⟨by rfl, ?_⟩) (by assumption) ?_
        rotate_left
        · intro u hSu
          (try dsimp only at hSu)
          first | (go_simp; done) | (go_simp; with_reducible rfl)
        try simp only [Act.put, List.getElem_toArray, List.getElem_cons_zero, List.getElem_cons_succ, List.setIfInBounds_toArray, List.set_cons_zero, List.set_cons_succ]
        refine wpAnyH_take (i := 6) (v := ?_) rfl (by kernel_rfl) (by kernel_rfl) (by kernel_rfl) (fun _ _ _ h => h) (Or.inl ⟨by rfl, ?_⟩) (by assumption) ?_
        rotate_left
        · intro u hSu
          have qa := hSu.c0; have qb := hSu.c1; have qc := hSu.c2; have qd := hSu.c3; clear hSu
          first | (go_simp; done) | (go_simp; with_reducible rfl)
        try simp only [Act.put, List.getElem_toArray, List.getElem_cons_zero, List.getElem_cons_succ, List.setIfInBounds_toArray, List.set_cons_zero, List.set_cons_succ]
        refine wpAnyH_take (i := 7) (v := ?_) rfl (by kernel_rfl) (by kernel_rfl) (by kernel_rfl) (fun _ _ _ h => h) (Or.inl ⟨by rfl, ?_⟩) (by assumption) ?_
        rotate_left
        · intro u hSu
          (try dsimp only at hSu)
          first | (go_simp; done) | (go_simp; with_reducible rfl)
        try simp only [Act.put, List.getElem_toArray, List.getElem_cons_zero, List.getElem_cons_succ, List.setIfInBounds_toArray, List.set_cons_zero, List.set_cons_succ]
        refine wpAnyH_take (i := 11) (v := ?_) rfl (by kernel_rfl) (by kernel_rfl) (by kernel_rfl) (fun _ _ _ h => h) (Or.inl ⟨by rfl, ?_⟩) (by assumption) ?_
        rotate_left
        · intro u hSu
          (try dsimp only at hSu)
          first | (go_simp; done) | (go_simp; with_reducible rfl)
        try simp only [Act.put, List.getElem_toArray, List.getElem_cons_zero, List.getElem_cons_succ, List.setIfInBounds_toArray, List.set_cons_zero, List.set_cons_succ]
        refine wpAnyH_take (i := 12) (v := ?_) rfl (by kernel_rfl) (by kernel_rfl) (by kernel_rfl) (fun _ _ _ h => h) (Or.inl ⟨by rfl, ?_⟩) (by assumption) ?_
        rotate_left
        · intro u hSu
          have qa := hSu.c0; have qb := hSu.c1; have qc := hSu.c2; have qd := hSu.c3; clear hSu
          first | (go_simp; done) | (go_simp; with_reducible rfl)
        try simp only [Act.put, List.getElem_toArray, List.getElem_cons_zero, List.getElem_cons_succ, List.setIfInBounds_toArray, List.set_cons_zero, List.set_cons_succ]
        refine wpAnyH_take (i := 13) (v := ?_) rfl (by kernel_rfl) (by kernel_rfl) (by kernel_rfl) (fun _ _ _ h => h) (Or.inl ⟨by rfl, ?_⟩) (by assumption) ?_
        rotate_left
        · intro u hSu
          (try dsimp only at hSu)
          first | (go_simp; done) | (go_simp; with_reducible rfl)
        try simp only [Act.put, List.getElem_toArray, List.getElem_cons_zero, List.getElem_cons_succ, List.setIfInBounds_toArray, List.set_cons_zero, List.set_cons_succ]
        refine wpAnyH_ready (rs := [3]) (by kernel_rfl) (by simp) ?_
        refine AllReadyH.cons rfl (fun K hK => ?_) AllReadyH.nil
        go_simp
        refine (HDD1.out _ (HTB.out _ hHeld.bl)).mono ?_
        rintro o w6 ⟨rfl, hb⟩
        have HG6 := Lib.hid (HG5.out.next hb)
        refine hK.out _ _ (hHeld.next hb) (fun hHeld2 => ?_)
        clear hK K hHeld
        have hHeld := hHeld2
        clear hHeld2
        try simp only [Act.put, List.getElem_toArray, List.getElem_cons_zero, List.getElem_cons_succ, List.setIfInBounds_toArray, List.set_cons_zero, List.set_cons_succ]
        clear hb HG5
        refine wpAnyH_take (i := 4) (v := ?_) rfl (by kernel_rfl) (by kernel_rfl) (by kernel_rfl) (fun _ _ _ h => h) (Or.inl ⟨by rfl, ?_⟩) (by assumption) ?_
        rotate_left
        · intro u hSu
          (try dsimp only at hSu)
          first | (go_simp; done) | (go_simp; with_reducible rfl)
        try simp only [Act.put, List.getElem_toArray, List.getElem_cons_zero, List.getElem_cons_succ, List.setIfInBounds_toArray, List.set_cons_zero, List.set_cons_succ]
        refine wpAnyH_ready (rs := [8]) (by kernel_rfl) (by simp) ?_
        refine AllReadyH.cons rfl (fun K hK => ?_) AllReadyH.nil
        go_simp
        refine (HDD2.out _ (HTB.out _ hHeld.bl)).mono ?_
        rintro o w7 ⟨rfl, hb⟩
        have HG7 := Lib.hid (HG6.out.next hb)
        refine hK.out _ _ (hHeld.next hb) (fun hHeld2 => ?_)
        clear hK K hHeld
        have hHeld := hHeld2
        clear hHeld2
        try simp only [Act.put, List.getElem_toArray, List.getElem_cons_zero, List.getElem_cons_succ, List.setIfInBounds_toArray, List.set_cons_zero, List.set_cons_succ]
        clear hb HG6
        refine wpAnyH_take (i := 9) (v := ?_) rfl (by kernel_rfl) (by kernel_rfl) (by kernel_rfl) (fun _ _ _ h => h) (Or.inl ⟨by rfl, ?_⟩) (by assumption) ?_
        rotate_left
        · intro u hSu
          (try dsimp only at hSu)
          first | (go_simp; done) | (go_simp; with_reducible rfl)
        try simp only [Act.put, List.getElem_toArray, List.getElem_cons_zero, List.getElem_cons_succ, List.setIfInBounds_toArray, List.set_cons_zero, List.set_cons_succ]
        refine wpAnyH_take (i := 10) (v := ?_) rfl (by kernel_rfl) (by kernel_rfl) (by kernel_rfl) (fun _ _ _ h => h) (Or.inl ⟨by rfl, ?_⟩) (by assumption) ?_
        rotate_left
        · intro u hSu
          (try dsimp only at hSu)
          first | (go_simp; done) | (go_simp; with_reducible rfl)
        try simp only [Act.put, List.getElem_toArray, List.getElem_cons_zero, List.getElem_cons_succ, List.setIfInBounds_toArray, List.set_cons_zero, List.set_cons_succ]
        refine wpAnyH_ready (rs := [14]) (by kernel_rfl) (by simp) ?_
        refine AllReadyH.cons rfl (fun K hK => ?_) AllReadyH.nil
        go_simp
        refine (HDD3.out _ (HTB.out _ hHeld.bl)).mono ?_
        rintro o w8 ⟨rfl, hb⟩
        have HG8 := Lib.hid (HG7.out.next hb)
        refine hK.out _ _ (hHeld.next hb) (fun hHeld2 => ?_)
        clear hK K hHeld
        have hHeld := hHeld2
        clear hHeld2
        try simp only [Act.put, List.getElem_toArray, List.getElem_cons_zero, List.getElem_cons_succ, List.setIfInBounds_toArray, List.set_cons_zero, List.set_cons_succ]
        clear hb HG7
        refine wpAnyH_take (i := 15) (v := ?_) rfl (by kernel_rfl) (by kernel_rfl) (by kernel_rfl) (fun _ _ _ h => h) (Or.inl ⟨by rfl, ?_⟩) (by assumption) ?_
        rotate_left
        · intro u hSu
          (try dsimp only at hSu)
          first | (go_simp; done) | (go_simp; with_reducible rfl)
        try simp only [Act.put, List.getElem_toArray, List.getElem_cons_zero, List.getElem_cons_succ, List.setIfInBounds_toArray, List.set_cons_zero, List.set_cons_succ]
        rw [HSA.out]
        refine wpAnyH_ready (rs := [16]) (by kernel_rfl) (by simp) ?_
        refine AllReadyH.cons rfl (fun K hK => ?_) AllReadyH.nil
        go_simp
        refine (WriteJ bb bb _ _ _ HG8.out HLA.out HLB.out).mono ?_
        rintro o w9 ⟨rfl, hG9, hb, ho⟩
        have HG9 := Lib.hid hG9
        have HK9 : Hid (KG bk p q r s w w9) := Lib.hid ⟨(ho bk _ _ _ hHeld.h (by decide) (by decide)).trans hHeld.h, hHeld.bl.trans (hb.mono HBW.out), Nat.lt_of_lt_of_le hHeld.lt (by have := hb.size; exact this)⟩
        refine hK.out _ _ (HK9.out) (fun hHeld2 => ?_)
        clear hK K hHeld
        have hHeld := hHeld2
        clear hHeld2
        try simp only [Act.put, List.getElem_toArray, List.getElem_cons_zero, List.getElem_cons_succ, List.setIfInBounds_toArray, List.set_cons_zero, List.set_cons_succ]
        clear hb ho hG9 HG8
        refine wpAnyH_done (by kernel_rfl) ?_ _
        have c3 := HK9.out.c3
        go_wp2_with fail
        refine (HDD4.out _ (HTB.out _ HK9.out.bl)).mono ?_
        rintro o w10 ⟨rfl, hb⟩
        have HG10 := Lib.hid (HG9.out.next hb)
        have HK10 := Lib.hid (HK9.out.next hb)
        clear hb HG9 HK9 c3
        go_wp2_with (first | (rw [HSB.out]) | fail)
        refine (WriteJ bb bb _ _ _ HG10.out HLC.out HLD.out).mono ?_
        rintro o w11 ⟨rfl, hG11, hb, _⟩
        have HG11 := Lib.hid hG11
        have HB11 := Lib.hid (HK10.out.bl.trans (hb.mono HBW.out))
        clear hb hG11 HG10 HK10
        go_wp2_with fail
        go_roundw
        case rel => exact ⟨i + 1, by omega, by go_num, HNX.out ▸ HG11.out, HB11.out⟩
        case measure => simp [intOf]; omega
      · obtain rfl : i = n := by omega
        have HGA : Hid (Bld bb bb (garsT xs) wr) := Lib.hid (by
          have h1 := HG.out
          rw [List.take_of_length_le (by rw [← En.out]; exact Nat.le_refl _)] at h1
          exact h1)
        go_wp2_with fail
        refine (StringJ bb bb _ _ HGA.out).mono ?_
        rintro o u3 ⟨rfl, hb3⟩
        have HB5 := Lib.hid (HB.out.trans (hb3.mono HBW.out))
        clear hb3
        go_wp2_with fail
        go_ret
        exact ⟨by rw [HT2.out]; rfl, HB5.out⟩
set_option maxRecDepth 100000 in
set_option maxHeartbeats 4000000 in
theorem GarmentsText_spec (A : Option Addr) (n c : Nat) (xs : List Gar) (en : n = xs.length) (hn : n ≤ 1048576) (w : World) (hg : GS w w.heap.size A xs) :
    Calls Tryd.prog 30 #[.slice A n c] w fun o w' => o = .returned (.string (garText xs)) ∧ Below w.heap.size w w' := by
  obtain ⟨T, hT⟩ : ∃ T, garText xs = T := ⟨_, rfl⟩
  rw [hT]
  have HT := Lib.hid hT
  have En := Lib.hid en
  obtain ⟨k0, hk0⟩ : ∃ k : Nat, codeAll xs true = k := ⟨_, rfl⟩
  have HK0 := Lib.hid hk0.symm
  have HM := Lib.hid (l01All_em A n c xs en hn true w hg)
  rw [hk0] at HM
  clear hT en hk0
  go_enter Tryd.func30, Tryd.ntmps30
  go_wp2_with fail
  refine HM.out.mono ?_
  rintro o u ⟨rfl, hb⟩
  have HB := Lib.hid hb
  clear hb
  cases k0 with
  | succ k =>
    obtain rfl : T = ⟨#[]⟩ := by rw [← HT.out, garText, ← HK0.out, if_neg (by omega)]
    have hne : (((k + 1 : Nat) : Int) != 0) = true := by rw [bne_iff_ne]; omega
    have hne2 : (((k : Int) + 1) != 0) = true := by rw [bne_iff_ne]; omega
    go_wp2_with fail
    go_ret
    exact ⟨rfl, HB.out⟩
  | zero =>
    obtain ⟨hval, h8⟩ := codeAll_zero HK0.out.symm
    have HV := Lib.hid hval
    obtain rfl : T = bsJ (garsT xs) := by rw [← HT.out, garText, ← HK0.out, if_pos rfl]
    rw [← En.out] at h8
    clear hval
    go_wp2_with fail
    refine (l01Text_any A n c xs En.out h8 HV.out _ ((hg.below HB.out).more HB.out.size)).mono ?_
    rintro o u2 ⟨rfl, hb⟩
    have HB2 := Lib.hid (below_next HB.out hb (Nat.le_refl _))
    clear hb
    go_wp2_with fail
    go_ret
    exact ⟨rfl, HB2.out⟩
end Go.Proofs.YtjfimmfnhlimkaaDoor.gart
