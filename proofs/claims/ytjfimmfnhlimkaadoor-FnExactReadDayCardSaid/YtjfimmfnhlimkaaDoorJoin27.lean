/-
  Several texts of this proof, joined.
-/
import Derived.Test.YtjfimmfnhlimkaaDoorTxt
import Derived.Test.YtjfimmfnhlimkaaDoorDayTamed
import Derived.OrdersHeld
import Derived.Deep.RegionHeld
/-
  Texts of days: pure, and the model's.
-/
namespace Go.Proofs.YtjfimmfnhlimkaaDoor.day
open Go Go.RowKit sl dec txt

def weaT (x : Wea) : List UInt8 := ((Lib.decDigits x.sun.toNat ++ [47]) ++ Lib.decDigits x.wind.toNat ++ [47]) ++ Lib.decDigits x.rain.toNat
def daysT (xs : List Wea) : List UInt8 := Lib.join (xs.map weaT) [32]
theorem weaT_len {x : Wea} (h : Wea.valid x = true) : (weaT x).length ≤ 75 := by
  obtain ⟨⟨x0, y0⟩, ⟨x1, y1⟩, ⟨x2, y2⟩⟩ := (Wea.valid_iff x).1 h
  have h0 := digJ_len (n := x.sun.toNat) (by omega)
  have h1 := digJ_len (n := x.wind.toNat) (by omega)
  have h2 := digJ_len (n := x.rain.toNat) (by omega)
  simp only [weaT, List.length_append, List.length_singleton]
  omega
theorem wea_byte {x : Wea} {p q r : Nat} (hp : x.sun = (p : Int)) (hq : x.wind = (q : Int)) (hr : x.rain = (r : Int)) : bsJ (weaT x) = ((decB p ++ ⟨#[47]⟩) ++ decB q ++ ⟨#[47]⟩) ++ decB r := by
  rw [weaT, bsJ_append, bsJ_append, bsJ_append, bsJ_append, hp, hq, hr, Int.toNat_natCast, Int.toNat_natCast, Int.toNat_natCast]
  rfl
theorem daysT_len {xs : List Wea} (h : ∀ x ∈ xs, Wea.valid x = true) (n : Nat) (hn : xs.length ≤ n) : (daysT xs).length ≤ 76 * n := by
  have h1 := joinJ_len 32 75 (ls := xs.map weaT) (fun l hl => by
    obtain ⟨x, hx, rfl⟩ := List.mem_map.1 hl
    exact weaT_len (h x hx))
  rw [List.length_map] at h1
  exact Nat.le_trans h1 (Nat.mul_le_mul_left _ hn)
/-- the cells of an hour, kept over calls -/
def KeptP (a : Addr) (p q r : Int) (w u : World) : Prop := u.cell? a = some (.int .i8 p) ∧ u.cell? ⟨a.block, a.off + 1, none⟩ = some (.int .i8 q) ∧ u.cell? ⟨a.block, a.off + 2, none⟩ = some (.int .i8 r) ∧ Below w.heap.size w u
theorem KeptP.next {a : Addr} {p q r : Int} {w u v : World} (h : KeptP a p q r w u) (ha : a.block < w.heap.size) (hb : Below u.heap.size u v) : KeptP a p q r w v := by
  obtain ⟨c0, c1, c2, hw⟩ := h
  have k := hb.mono hw.size
  exact ⟨(k.cell (p := a) ha).trans c0, (k.cell (p := ⟨a.block, a.off + 1, none⟩) ha).trans c1, (k.cell (p := ⟨a.block, a.off + 2, none⟩) ha).trans c2, hw.trans k⟩
set_option maxRecDepth 100000 in
set_option maxHeartbeats 4000000 in
theorem l03Text_any (xs : List Wea) (hd : xs.length = 24) (hv : ∀ x ∈ xs, Wea.valid x = true) (b : Nat) (w : World) (hA : DayAt w b xs) :
    Calls Tryd.prog 74 #[.pointer (some ⟨b, 0, none⟩)] w fun o w' => o = .returned (.string (bsJ (daysT xs))) ∧ Below w.heap.size w w' := by
  obtain ⟨n, hn24⟩ : ∃ n, n = 24 := ⟨_, rfl⟩
  have En : Hid (n = xs.length) := Lib.hid (by rw [hd, hn24])
  have HN := Lib.hid hn24
  have hlb := hA.lt
  have HA := Lib.hid (fun (u : World) (hu : Below w.heap.size w u) => hA.next hu)
  have HV := Lib.hid hv
  obtain ⟨ls, hls⟩ : ∃ ls, ls = xs.map weaT := ⟨_, rfl⟩
  have HLS := Lib.hid hls
  clear hd hv hls hA hn24
  go_enter Tryd.func74, Tryd.ntmps74
  go_wp2_with fail
  go_loopw [3, 4] (fun vt vi wr => ∃ (i : Nat) (T : ByteArray), i ≤ 24 ∧ vi = .int .i64 i ∧ vt = .string T ∧ T = bsJ (Lib.join (ls.take i) [32]) ∧ T.size ≤ 80 * i ∧ Below w.heap.size w wr) (fun _ vi _ => 24 - (intOf vi).toNat)
  case atStart => exact ⟨0, ⟨#[]⟩, by omega, rfl, rfl, by simp [Lib.join_nil], by simp [ByteArray.size], Below.refl _ _⟩
  case round =>
    obtain ⟨i, T, hi, rfl, rfl, hT, hsz, hB⟩ := hrel
    have HT := Lib.hid hT
    have HB := Lib.hid hB
    clear hT hB
    by_cases hlt : i < 24
    · obtain ⟨x, hx⟩ : ∃ x, xs[i]? = some x := ⟨xs[i]'(by have := En.out; have := HN.out; omega), List.getElem?_eq_getElem _⟩
      obtain ⟨g0, g1, g2⟩ := (HA.out _ HB.out).get hx
      obtain ⟨⟨x0, y0⟩, ⟨x1, y1⟩, ⟨x2, y2⟩⟩ := (Wea.valid_iff x).1 (HV.out x (List.mem_of_getElem? hx))
      obtain ⟨p, hp⟩ : ∃ p : Nat, x.sun = p := ⟨x.sun.toNat, by omega⟩
      obtain ⟨q, hq⟩ : ∃ q : Nat, x.wind = q := ⟨x.wind.toNat, by omega⟩
      obtain ⟨r, hr⟩ : ∃ r : Nat, x.rain = r := ⟨x.rain.toNat, by omega⟩
      have hl : ls[i]? = some (weaT x) := by rw [HLS.out, List.getElem?_map, hx]; rfl
      have hpart := preJ_part (sep := 32) hl
      obtain ⟨P, hP⟩ : ∃ P, P = bsJ (preJ 32 ls i) := ⟨_, rfl⟩
      have hP1 : i = 0 → P = T := fun e => by subst e; rw [hP, HT.out]; simp [preJ, Lib.join_nil]
      have hP2 : i ≠ 0 → P = T ++ ⟨#[32]⟩ := fun e => by rw [hP, preJ, if_neg e, bsJ_append, ← HT.out]
      have hps : P.size ≤ 80 * i + 1 := by
        by_cases e : i = 0
        · rw [hP1 e]; omega
        · rw [hP2 e]; simp only [ByteArray.size_append]; show T.size + 1 ≤ _; omega
      obtain ⟨D1, hD1⟩ : ∃ D, decB p = D := ⟨_, rfl⟩
      obtain ⟨D2, hD2⟩ : ∃ D, decB q = D := ⟨_, rfl⟩
      obtain ⟨D3, hD3⟩ : ∃ D, decB r = D := ⟨_, rfl⟩
      have hcl := weaT_len (HV.out x (List.mem_of_getElem? hx))
      have hcb := wea_byte hp hq hr
      rw [hD1, hD2, hD3] at hcb
      have hcs : (((D1 ++ ⟨#[47]⟩) ++ D2 ++ ⟨#[47]⟩) ++ D3).size ≤ 75 := by rw [← hcb, bsJ_size]; exact hcl
      have HNX : Hid (P ++ (((D1 ++ ⟨#[47]⟩) ++ D2 ++ ⟨#[47]⟩) ++ D3) = bsJ (Lib.join (ls.take (i + 1)) [32])) := Lib.hid (by rw [hP, ← hcb, ← bsJ_append, hpart])
      have HDD1 := Lib.hid (fun u : World => Decimal_any p (by omega) u)
      have HDD2 := Lib.hid (fun u : World => Decimal_any q (by omega) u)
      have HDD3 := Lib.hid (fun u : World => Decimal_any r (by omega) u)
      rw [hD1] at HDD1
      rw [hD2] at HDD2
      rw [hD3] at HDD3
      have hpw : (⟨b, i * 3, none⟩ : Addr).block < w.heap.size := hlb
      rw [hp] at g0
      rw [hq] at g1
      rw [hr] at g2
      have H8 := Lib.hid (show KeptP ⟨b, i * 3, none⟩ p q r w wr from ⟨g0, g1, g2, HB.out⟩)
      have ww0 : IntKind.i64.wrap (p : Int) = p := IntWalk.i64_in _ (by omega)
      have ww1 : IntKind.i64.wrap (q : Int) = q := IntWalk.i64_in _ (by omega)
      have ww2 : IntKind.i64.wrap (r : Int) = r := IntWalk.i64_in _ (by omega)
      simp only [ByteArray.size_append] at hcs
      have hs0 : ∀ b : UInt8, (⟨#[b]⟩ : ByteArray).size = 1 := fun _ => rfl
      simp only [hs0] at hcs
      have hz0 : ¬ 9223372036854775807 < T.size + 1 := by omega
      have hz1 : ¬ 9223372036854775807 < D1.size + 1 := by omega
      have hz2 : ¬ 9223372036854775807 < D1.size + 1 + D2.size := by omega
      have hz3 : ¬ 9223372036854775807 < D1.size + 1 + D2.size + 1 := by omega
      have hz4 : ¬ 9223372036854775807 < D1.size + 1 + D2.size + 1 + D3.size := by omega
      have hz4 : (P ++ (((D1 ++ ⟨#[47]⟩) ++ D2 ++ ⟨#[47]⟩) ++ D3)).size ≤ 80 * (i + 1) := by simp only [ByteArray.size_append, hs0]; omega
      have hz9 : ¬ 9223372036854775807 < P.size + (D1.size + 1 + D2.size + 1 + D3.size) := by omega
      clear hx hl hpart hP hD1 hD2 hD3 hcl hcb hs0 x0 y0 x1 y1 x2 y2
      by_cases e0 : i = 0
      · obtain rfl := hP1 e0
        have hd0 : ¬ 0 < i := by omega
        clear hP1 hP2 e0
        go_wp2_with fail
        refine wp_region_held_drew (S := fun u => KeptP ⟨b, i * 3, none⟩ p q r w u) (by kernel_rfl) (H8.out.next hpw (Below.refl _ _).drew) (fun hHeld => ?_)
        generalize wr.drew = w0 at hHeld ⊢
        refine wpAnyH_take (i := 0) (v := ?_) rfl (by kernel_rfl) (by kernel_rfl) (by kernel_rfl) (fun _ _ _ h => h) (Or.inl ⟨by rfl, ?_⟩) (by assumption) ?_
        rotate_left
        · intro u hSu
          (try dsimp only at hSu)
          first | (go_simp; done) | (go_simp; with_reducible rfl)
        try simp only [Act.put, List.getElem_toArray, List.getElem_cons_zero, List.setIfInBounds_toArray, List.set_cons_zero, List.set_cons_succ]
        refine wpAnyH_take (i := 1) (v := ?_) rfl (by kernel_rfl) (by kernel_rfl) (by kernel_rfl) (fun _ _ _ h => h) (Or.inl ⟨by rfl, ?_⟩) (by assumption) ?_
        rotate_left
        · intro u hSu
          (try dsimp only at hSu)
          first | (go_simp; done) | (go_simp; with_reducible rfl)
        try simp only [Act.put, List.getElem_toArray, List.getElem_cons_zero, List.getElem_cons_succ, List.setIfInBounds_toArray, List.set_cons_zero, List.set_cons_succ]
        refine wpAnyH_take (i := 2) (v := ?_) rfl (by kernel_rfl) (by kernel_rfl) (by kernel_rfl) (fun _ _ _ h => h) (Or.inl ⟨by rfl, ?_⟩) (by assumption) ?_
        rotate_left
        · intro u hSu
          (try dsimp only at hSu)
          first | (go_simp; done) | (go_simp; with_reducible rfl)
        try simp only [Act.put, List.getElem_toArray, List.getElem_cons_zero, List.getElem_cons_succ, List.setIfInBounds_toArray, List.set_cons_zero, List.set_cons_succ]
        refine wpAnyH_take (i := 3) (v := ?_) rfl (by kernel_rfl) (by kernel_rfl) (by kernel_rfl) (fun _ _ _ h => h) (Or.inl ⟨by rfl, ?_⟩) (by assumption) ?_
        rotate_left
        · intro u hSu
          (try dsimp only at hSu)
          first | (go_simp; done) | (go_simp; with_reducible rfl)
        try simp only [Act.put, List.getElem_toArray, List.getElem_cons_zero, List.getElem_cons_succ, List.setIfInBounds_toArray, List.set_cons_zero, List.set_cons_succ]
        refine wpAnyH_take (i := 4) (v := ?_) rfl (by kernel_rfl) (by kernel_rfl) (by kernel_rfl) (fun _ _ _ h => h) (Or.inl ⟨by rfl, ?_⟩) (by assumption) ?_
        rotate_left
        · intro u hSu
          (try dsimp only at hSu)
          first | (go_simp; done) | (go_simp; with_reducible rfl)
        try simp only [Act.put, List.getElem_toArray, List.getElem_cons_zero, List.getElem_cons_succ, List.setIfInBounds_toArray, List.set_cons_zero, List.set_cons_succ]
        refine wpAnyH_take (i := 5) (v := ?_) rfl (by kernel_rfl) (by kernel_rfl) (by kernel_rfl) (fun _ _ _ h => h) (Or.inl ⟨by rfl, ?_⟩) (by assumption) ?_
        rotate_left
        · intro u hSu
          (try dsimp only at hSu)
          first | (go_simp; done) | (go_simp; with_reducible rfl)
        try simp only [Act.put, List.getElem_toArray, List.getElem_cons_zero, List.getElem_cons_succ, List.setIfInBounds_toArray, List.set_cons_zero, List.set_cons_succ]
        refine wpAnyH_take (i := 6) (v := ?_) rfl (by kernel_rfl) (by kernel_rfl) (by kernel_rfl) (fun _ _ _ h => h) (Or.inl ⟨by rfl, ?_⟩) (by assumption) ?_
        rotate_left
        · intro u hSu
          obtain ⟨qa, qb, qc, _⟩ := hSu
          first | (go_simp; done) | (go_simp; with_reducible rfl)
        try simp only [Act.put, List.getElem_toArray, List.getElem_cons_zero, List.getElem_cons_succ, List.setIfInBounds_toArray, List.set_cons_zero, List.set_cons_succ]
        refine wpAnyH_take (i := 7) (v := ?_) rfl (by kernel_rfl) (by kernel_rfl) (by kernel_rfl) (fun _ _ _ h => h) (Or.inl ⟨by rfl, ?_⟩) (by assumption) ?_
        rotate_left
        · intro u hSu
          (try dsimp only at hSu)
          first | (go_simp; done) | (go_simp; with_reducible rfl)
        try simp only [Act.put, List.getElem_toArray, List.getElem_cons_zero, List.getElem_cons_succ, List.setIfInBounds_toArray, List.set_cons_zero, List.set_cons_succ]
        refine wpAnyH_take (i := 10) (v := ?_) rfl (by kernel_rfl) (by kernel_rfl) (by kernel_rfl) (fun _ _ _ h => h) (Or.inl ⟨by rfl, ?_⟩) (by assumption) ?_
        rotate_left
        · intro u hSu
          (try dsimp only at hSu)
          first | (go_simp; done) | (go_simp; with_reducible rfl)
        try simp only [Act.put, List.getElem_toArray, List.getElem_cons_zero, List.getElem_cons_succ, List.setIfInBounds_toArray, List.set_cons_zero, List.set_cons_succ]
        refine wpAnyH_take (i := 11) (v := ?_) rfl (by kernel_rfl) (by kernel_rfl) (by kernel_rfl) (fun _ _ _ h => h) (Or.inl ⟨by rfl, ?_⟩) (by assumption) ?_
        rotate_left
        · intro u hSu
          (try dsimp only at hSu)
          first | (go_simp; done) | (go_simp; with_reducible rfl)
        try simp only [Act.put, List.getElem_toArray, List.getElem_cons_zero, List.getElem_cons_succ, List.setIfInBounds_toArray, List.set_cons_zero, List.set_cons_succ]
        refine wpAnyH_take (i := 12) (v := ?_) rfl (by kernel_rfl) (by kernel_rfl) (by kernel_rfl) (fun _ _ _ h => h) (Or.inl ⟨by rfl, ?_⟩) (by assumption) ?_
        rotate_left
        · intro u hSu
          (try dsimp only at hSu)
          first | (go_simp; done) | (go_simp; with_reducible rfl)
        try simp only [Act.put, List.getElem_toArray, List.getElem_cons_zero, List.getElem_cons_succ, List.setIfInBounds_toArray, List.set_cons_zero, List.set_cons_succ]
        refine wpAnyH_take (i := 13) (v := ?_) rfl (by kernel_rfl) (by kernel_rfl) (by kernel_rfl) (fun _ _ _ h => h) (Or.inl ⟨by rfl, ?_⟩) (by assumption) ?_
        rotate_left
        · intro u hSu
          (try dsimp only at hSu)
          first | (go_simp; done) | (go_simp; with_reducible rfl)
        try simp only [Act.put, List.getElem_toArray, List.getElem_cons_zero, List.getElem_cons_succ, List.setIfInBounds_toArray, List.set_cons_zero, List.set_cons_succ]
        refine wpAnyH_take (i := 14) (v := ?_) rfl (by kernel_rfl) (by kernel_rfl) (by kernel_rfl) (fun _ _ _ h => h) (Or.inl ⟨by rfl, ?_⟩) (by assumption) ?_
        rotate_left
        · intro u hSu
          (try dsimp only at hSu)
          first | (go_simp; done) | (go_simp; with_reducible rfl)
        try simp only [Act.put, List.getElem_toArray, List.getElem_cons_zero, List.getElem_cons_succ, List.setIfInBounds_toArray, List.set_cons_zero, List.set_cons_succ]
        refine wpAnyH_take (i := 15) (v := ?_) rfl (by kernel_rfl) (by kernel_rfl) (by kernel_rfl) (fun _ _ _ h => h) (Or.inl ⟨by rfl, ?_⟩) (by assumption) ?_
        rotate_left
        · intro u hSu
          obtain ⟨qa, qb, qc, _⟩ := hSu
          first | (go_simp; done) | (go_simp; with_reducible rfl)
        try simp only [Act.put, List.getElem_toArray, List.getElem_cons_zero, List.getElem_cons_succ, List.setIfInBounds_toArray, List.set_cons_zero, List.set_cons_succ]
        refine wpAnyH_take (i := 16) (v := ?_) rfl (by kernel_rfl) (by kernel_rfl) (by kernel_rfl) (fun _ _ _ h => h) (Or.inl ⟨by rfl, ?_⟩) (by assumption) ?_
        rotate_left
        · intro u hSu
          (try dsimp only at hSu)
          first | (go_simp; done) | (go_simp; with_reducible rfl)
        try simp only [Act.put, List.getElem_toArray, List.getElem_cons_zero, List.getElem_cons_succ, List.setIfInBounds_toArray, List.set_cons_zero, List.set_cons_succ]
        refine wpAnyH_take (i := 20) (v := ?_) rfl (by kernel_rfl) (by kernel_rfl) (by kernel_rfl) (fun _ _ _ h => h) (Or.inl ⟨by rfl, ?_⟩) (by assumption) ?_
        rotate_left
        · intro u hSu
          (try dsimp only at hSu)
          first | (go_simp; done) | (go_simp; with_reducible rfl)
        try simp only [Act.put, List.getElem_toArray, List.getElem_cons_zero, List.getElem_cons_succ, List.setIfInBounds_toArray, List.set_cons_zero, List.set_cons_succ]
        refine wpAnyH_take (i := 21) (v := ?_) rfl (by kernel_rfl) (by kernel_rfl) (by kernel_rfl) (fun _ _ _ h => h) (Or.inl ⟨by rfl, ?_⟩) (by assumption) ?_
        rotate_left
        · intro u hSu
          (try dsimp only at hSu)
          first | (go_simp; done) | (go_simp; with_reducible rfl)
        try simp only [Act.put, List.getElem_toArray, List.getElem_cons_zero, List.getElem_cons_succ, List.setIfInBounds_toArray, List.set_cons_zero, List.set_cons_succ]
        refine wpAnyH_take (i := 22) (v := ?_) rfl (by kernel_rfl) (by kernel_rfl) (by kernel_rfl) (fun _ _ _ h => h) (Or.inl ⟨by rfl, ?_⟩) (by assumption) ?_
        rotate_left
        · intro u hSu
          (try dsimp only at hSu)
          first | (go_simp; done) | (go_simp; with_reducible rfl)
        try simp only [Act.put, List.getElem_toArray, List.getElem_cons_zero, List.getElem_cons_succ, List.setIfInBounds_toArray, List.set_cons_zero, List.set_cons_succ]
        refine wpAnyH_take (i := 23) (v := ?_) rfl (by kernel_rfl) (by kernel_rfl) (by kernel_rfl) (fun _ _ _ h => h) (Or.inl ⟨by rfl, ?_⟩) (by assumption) ?_
        rotate_left
        · intro u hSu
          (try dsimp only at hSu)
          first | (go_simp; done) | (go_simp; with_reducible rfl)
        try simp only [Act.put, List.getElem_toArray, List.getElem_cons_zero, List.getElem_cons_succ, List.setIfInBounds_toArray, List.set_cons_zero, List.set_cons_succ]
        refine wpAnyH_take (i := 24) (v := ?_) rfl (by kernel_rfl) (by kernel_rfl) (by kernel_rfl) (fun _ _ _ h => h) (Or.inl ⟨by rfl, ?_⟩) (by assumption) ?_
        rotate_left
        · intro u hSu
          (try dsimp only at hSu)
          first | (go_simp; done) | (go_simp; with_reducible rfl)
        try simp only [Act.put, List.getElem_toArray, List.getElem_cons_zero, List.getElem_cons_succ, List.setIfInBounds_toArray, List.set_cons_zero, List.set_cons_succ]
        refine wpAnyH_take (i := 25) (v := ?_) rfl (by kernel_rfl) (by kernel_rfl) (by kernel_rfl) (fun _ _ _ h => h) (Or.inl ⟨by rfl, ?_⟩) (by assumption) ?_
        rotate_left
        · intro u hSu
          obtain ⟨qa, qb, qc, _⟩ := hSu
          first | (go_simp; done) | (go_simp; with_reducible rfl)
        try simp only [Act.put, List.getElem_toArray, List.getElem_cons_zero, List.getElem_cons_succ, List.setIfInBounds_toArray, List.set_cons_zero, List.set_cons_succ]
        refine wpAnyH_take (i := 26) (v := ?_) rfl (by kernel_rfl) (by kernel_rfl) (by kernel_rfl) (fun _ _ _ h => h) (Or.inl ⟨by rfl, ?_⟩) (by assumption) ?_
        rotate_left
        · intro u hSu
          (try dsimp only at hSu)
          first | (go_simp; done) | (go_simp; with_reducible rfl)
        try simp only [Act.put, List.getElem_toArray, List.getElem_cons_zero, List.getElem_cons_succ, List.setIfInBounds_toArray, List.set_cons_zero, List.set_cons_succ]
        refine wpAnyH_ready (rs := [8]) (by kernel_rfl) (by simp) ?_
        refine AllReadyH.cons rfl (fun K hK => ?_) AllReadyH.nil
        go_simp
        refine (HDD1.out _).mono ?_
        rintro o w1 ⟨rfl, hb⟩
        refine hK.out _ _ (hHeld.next hpw hb) (fun hHeld2 => ?_)
        clear hK K hHeld
        have hHeld := hHeld2
        clear hHeld2
        try simp only [Act.put, List.getElem_toArray, List.getElem_cons_zero, List.getElem_cons_succ, List.setIfInBounds_toArray, List.set_cons_zero, List.set_cons_succ]
        clear hb
        refine wpAnyH_take (i := 9) (v := ?_) rfl (by kernel_rfl) (by kernel_rfl) (by kernel_rfl) (fun _ _ _ h => h) (Or.inl ⟨by rfl, ?_⟩) (by assumption) ?_
        rotate_left
        · intro u hSu
          (try dsimp only at hSu)
          first | (go_simp; done) | (go_simp; with_reducible rfl)
        try simp only [Act.put, List.getElem_toArray, List.getElem_cons_zero, List.getElem_cons_succ, List.setIfInBounds_toArray, List.set_cons_zero, List.set_cons_succ]
        refine wpAnyH_ready (rs := [17]) (by kernel_rfl) (by simp) ?_
        refine AllReadyH.cons rfl (fun K hK => ?_) AllReadyH.nil
        go_simp
        refine (HDD2.out _).mono ?_
        rintro o w2 ⟨rfl, hb⟩
        refine hK.out _ _ (hHeld.next hpw hb) (fun hHeld2 => ?_)
        clear hK K hHeld
        have hHeld := hHeld2
        clear hHeld2
        try simp only [Act.put, List.getElem_toArray, List.getElem_cons_zero, List.getElem_cons_succ, List.setIfInBounds_toArray, List.set_cons_zero, List.set_cons_succ]
        clear hb
        refine wpAnyH_take (i := 18) (v := ?_) rfl (by kernel_rfl) (by kernel_rfl) (by kernel_rfl) (fun _ _ _ h => h) (Or.inl ⟨by rfl, ?_⟩) (by assumption) ?_
        rotate_left
        · intro u hSu
          (try dsimp only at hSu)
          first | (go_simp; done) | (go_simp; with_reducible rfl)
        try simp only [Act.put, List.getElem_toArray, List.getElem_cons_zero, List.getElem_cons_succ, List.setIfInBounds_toArray, List.set_cons_zero, List.set_cons_succ]
        refine wpAnyH_take (i := 19) (v := ?_) rfl (by kernel_rfl) (by kernel_rfl) (by kernel_rfl) (fun _ _ _ h => h) (Or.inl ⟨by rfl, ?_⟩) (by assumption) ?_
        rotate_left
        · intro u hSu
          (try dsimp only at hSu)
          first | (go_simp; done) | (go_simp; with_reducible rfl)
        try simp only [Act.put, List.getElem_toArray, List.getElem_cons_zero, List.getElem_cons_succ, List.setIfInBounds_toArray, List.set_cons_zero, List.set_cons_succ]
        refine wpAnyH_ready (rs := [27]) (by kernel_rfl) (by simp) ?_
        refine AllReadyH.cons rfl (fun K hK => ?_) AllReadyH.nil
        go_simp
        refine (HDD3.out _).mono ?_
        rintro o w3 ⟨rfl, hb⟩
        refine hK.out _ _ (hHeld.next hpw hb) (fun hHeld2 => ?_)
        clear hK K hHeld
        have hHeld := hHeld2
        clear hHeld2
        try simp only [Act.put, List.getElem_toArray, List.getElem_cons_zero, List.getElem_cons_succ, List.setIfInBounds_toArray, List.set_cons_zero, List.set_cons_succ]
        clear hb
        refine wpAnyH_take (i := 28) (v := ?_) rfl (by kernel_rfl) (by kernel_rfl) (by kernel_rfl) (fun _ _ _ h => h) (Or.inl ⟨by rfl, ?_⟩) (by assumption) ?_
        rotate_left
        · intro u hSu
          (try dsimp only at hSu)
          first | (go_simp; done) | (go_simp; with_reducible rfl)
        try simp only [Act.put, List.getElem_toArray, List.getElem_cons_zero, List.getElem_cons_succ, List.setIfInBounds_toArray, List.set_cons_zero, List.set_cons_succ]
        refine wpAnyH_take (i := 29) (v := ?_) rfl (by kernel_rfl) (by kernel_rfl) (by kernel_rfl) (fun _ _ _ h => h) (Or.inl ⟨by rfl, ?_⟩) (by assumption) ?_
        rotate_left
        · intro u hSu
          (try dsimp only at hSu)
          first | (go_simp; done) | (go_simp; with_reducible rfl)
        try simp only [Act.put, List.getElem_toArray, List.getElem_cons_zero, List.getElem_cons_succ, List.setIfInBounds_toArray, List.set_cons_zero, List.set_cons_succ]
        refine wpAnyH_ready (rs := [30]) (by kernel_rfl) (by simp) ?_
        refine AllReadyH.cons rfl (fun K hK => ?_) AllReadyH.nil
        go_simp
        refine hK.out _ _ (hHeld) (fun hHeld2 => ?_)
        clear hK K hHeld
        have hHeld := hHeld2
        clear hHeld2
        try simp only [Act.put, List.getElem_toArray, List.getElem_cons_zero, List.getElem_cons_succ, List.setIfInBounds_toArray, List.set_cons_zero, List.set_cons_succ]
        refine wpAnyH_done (by kernel_rfl) ?_ _
        go_wp2_with fail
        go_roundw
        case rel => exact ⟨i + 1, _, by omega, by go_num, rfl, HNX.out, hz4, hHeld.2.2.2⟩
        case measure => simp [intOf]; omega
      · have hPT := hP2 e0
        have hd0 : 0 < i := by omega
        clear hP1 hP2 e0
        go_wp2_with fail
        rw [← hPT]
        clear hPT
        refine wp_region_held_drew (S := fun u => KeptP ⟨b, i * 3, none⟩ p q r w u) (by kernel_rfl) (H8.out.next hpw (Below.refl _ _).drew) (fun hHeld => ?_)
        generalize wr.drew = w0 at hHeld ⊢
        refine wpAnyH_take (i := 0) (v := ?_) rfl (by kernel_rfl) (by kernel_rfl) (by kernel_rfl) (fun _ _ _ h => h) (Or.inl ⟨by rfl, ?_⟩) (by assumption) ?_
        rotate_left
        · intro u hSu
          (try dsimp only at hSu)
          first | (go_simp; done) | (go_simp; with_reducible rfl)
        try simp only [Act.put, List.getElem_toArray, List.getElem_cons_zero, List.setIfInBounds_toArray, List.set_cons_zero, List.set_cons_succ]
        refine wpAnyH_take (i := 1) (v := ?_) rfl (by kernel_rfl) (by kernel_rfl) (by kernel_rfl) (fun _ _ _ h => h) (Or.inl ⟨by rfl, ?_⟩) (by assumption) ?_
        rotate_left
        · intro u hSu
          (try dsimp only at hSu)
          first | (go_simp; done) | (go_simp; with_reducible rfl)
        try simp only [Act.put, List.getElem_toArray, List.getElem_cons_zero, List.getElem_cons_succ, List.setIfInBounds_toArray, List.set_cons_zero, List.set_cons_succ]
        refine wpAnyH_take (i := 2) (v := ?_) rfl (by kernel_rfl) (by kernel_rfl) (by kernel_rfl) (fun _ _ _ h => h) (Or.inl ⟨by rfl, ?_⟩) (by assumption) ?_
        rotate_left
        · intro u hSu
          (try dsimp only at hSu)
          first | (go_simp; done) | (go_simp; with_reducible rfl)
        try simp only [Act.put, List.getElem_toArray, List.getElem_cons_zero, List.getElem_cons_succ, List.setIfInBounds_toArray, List.set_cons_zero, List.set_cons_succ]
        refine wpAnyH_take (i := 3) (v := ?_) rfl (by kernel_rfl) (by kernel_rfl) (by kernel_rfl) (fun _ _ _ h => h) (Or.inl ⟨by rfl, ?_⟩) (by assumption) ?_
        rotate_left
        · intro u hSu
          (try dsimp only at hSu)
          first | (go_simp; done) | (go_simp; with_reducible rfl)
        try simp only [Act.put, List.getElem_toArray, List.getElem_cons_zero, List.getElem_cons_succ, List.setIfInBounds_toArray, List.set_cons_zero, List.set_cons_succ]
        refine wpAnyH_take (i := 4) (v := ?_) rfl (by kernel_rfl) (by kernel_rfl) (by kernel_rfl) (fun _ _ _ h => h) (Or.inl ⟨by rfl, ?_⟩) (by assumption) ?_
        rotate_left
        · intro u hSu
          (try dsimp only at hSu)
          first | (go_simp; done) | (go_simp; with_reducible rfl)
        try simp only [Act.put, List.getElem_toArray, List.getElem_cons_zero, List.getElem_cons_succ, List.setIfInBounds_toArray, List.set_cons_zero, List.set_cons_succ]
        refine wpAnyH_take (i := 5) (v := ?_) rfl (by kernel_rfl) (by kernel_rfl) (by kernel_rfl) (fun _ _ _ h => h) (Or.inl ⟨by rfl, ?_⟩) (by assumption) ?_
        rotate_left
        · intro u hSu
          (try dsimp only at hSu)
          first | (go_simp; done) | (go_simp; with_reducible rfl)
        try simp only [Act.put, List.getElem_toArray, List.getElem_cons_zero, List.getElem_cons_succ, List.setIfInBounds_toArray, List.set_cons_zero, List.set_cons_succ]
        refine wpAnyH_take (i := 6) (v := ?_) rfl (by kernel_rfl) (by kernel_rfl) (by kernel_rfl) (fun _ _ _ h => h) (Or.inl ⟨by rfl, ?_⟩) (by assumption) ?_
        rotate_left
        · intro u hSu
          obtain ⟨qa, qb, qc, _⟩ := hSu
          first | (go_simp; done) | (go_simp; with_reducible rfl)
        try simp only [Act.put, List.getElem_toArray, List.getElem_cons_zero, List.getElem_cons_succ, List.setIfInBounds_toArray, List.set_cons_zero, List.set_cons_succ]
        refine wpAnyH_take (i := 7) (v := ?_) rfl (by kernel_rfl) (by kernel_rfl) (by kernel_rfl) (fun _ _ _ h => h) (Or.inl ⟨by rfl, ?_⟩) (by assumption) ?_
        rotate_left
        · intro u hSu
          (try dsimp only at hSu)
          first | (go_simp; done) | (go_simp; with_reducible rfl)
        try simp only [Act.put, List.getElem_toArray, List.getElem_cons_zero, List.getElem_cons_succ, List.setIfInBounds_toArray, List.set_cons_zero, List.set_cons_succ]
        refine wpAnyH_take (i := 10) (v := ?_) rfl (by kernel_rfl) (by kernel_rfl) (by kernel_rfl) (fun _ _ _ h => h) (Or.inl ⟨by rfl, ?_⟩) (by assumption) ?_
        rotate_left
        · intro u hSu
          (try dsimp only at hSu)
          first | (go_simp; done) | (go_simp; with_reducible rfl)
        try simp only [Act.put, List.getElem_toArray, List.getElem_cons_zero, List.getElem_cons_succ, List.setIfInBounds_toArray, List.set_cons_zero, List.set_cons_succ]
        refine wpAnyH_take (i := 11) (v := ?_) rfl (by kernel_rfl) (by kernel_rfl) (by kernel_rfl) (fun _ _ _ h => h) (Or.inl ⟨by rfl, ?_⟩) (by assumption) ?_
        rotate_left
        · intro u hSu
          (try dsimp only at hSu)
          first | (go_simp; done) | (go_simp; with_reducible rfl)
        try simp only [Act.put, List.getElem_toArray, List.getElem_cons_zero, List.getElem_cons_succ, List.setIfInBounds_toArray, List.set_cons_zero, List.set_cons_succ]
        refine wpAnyH_take (i := 12) (v := ?_) rfl (by kernel_rfl) (by kernel_rfl) (by kernel_rfl) (fun _ _ _ h => h) (Or.inl ⟨by rfl, ?_⟩) (by assumption) ?_
        rotate_left
        · intro u hSu
          (try dsimp only at hSu)
          first | (go_simp; done) | (go_simp; with_reducible rfl)
        try simp only [Act.put, List.getElem_toArray, List.getElem_cons_zero, List.getElem_cons_succ, List.setIfInBounds_toArray, List.set_cons_zero, List.set_cons_succ]
        refine wpAnyH_take (i := 13) (v := ?_) rfl (by kernel_rfl) (by kernel_rfl) (by kernel_rfl) (fun _ _ _ h => h) (Or.inl ⟨by rfl, ?_⟩) (by assumption) ?_
        rotate_left
        · intro u hSu
          (try dsimp only at hSu)
          first | (go_simp; done) | (go_simp; with_reducible rfl)
        try simp only [Act.put, List.getElem_toArray, List.getElem_cons_zero, List.getElem_cons_succ, List.setIfInBounds_toArray, List.set_cons_zero, List.set_cons_succ]
        refine wpAnyH_take (i := 14) (v := ?_) rfl (by kernel_rfl) (by kernel_rfl) (by kernel_rfl) (fun _ _ _ h => h) (Or.inl ⟨by rfl, ?_⟩) (by assumption) ?_
        rotate_left
        · intro u hSu
          (try dsimp only at hSu)
          first | (go_simp; done) | (go_simp; with_reducible rfl)
        try simp only [Act.put, List.getElem_toArray, List.getElem_cons_zero, List.getElem_cons_succ, List.setIfInBounds_toArray, List.set_cons_zero, List.set_cons_succ]
        refine wpAnyH_take (i := 15) (v := ?_) rfl (by kernel_rfl) (by kernel_rfl) (by kernel_rfl) (fun _ _ _ h => h) (Or.inl ⟨by rfl, ?_⟩) (by assumption) ?_
        rotate_left
        · intro u hSu
          obtain ⟨qa, qb, qc, _⟩ := hSu
          first | (go_simp; done) | (go_simp; with_reducible rfl)
        try simp only [Act.put, List.getElem_toArray, List.getElem_cons_zero, List.getElem_cons_succ, List.setIfInBounds_toArray, List.set_cons_zero, List.set_cons_succ]
        refine wpAnyH_take (i := 16) (v := ?_) rfl (by kernel_rfl) (by kernel_rfl) (by kernel_rfl) (fun _ _ _ h => h) (Or.inl ⟨by rfl, ?_⟩) (by assumption) ?_
        rotate_left
        · intro u hSu
          (try dsimp only at hSu)
          first | (go_simp; done) | (go_simp; with_reducible rfl)
        try simp only [Act.put, List.getElem_toArray, List.getElem_cons_zero, List.getElem_cons_succ, List.setIfInBounds_toArray, List.set_cons_zero, List.set_cons_succ]
        refine wpAnyH_take (i := 20) (v := ?_) rfl (by kernel_rfl) (by kernel_rfl) (by kernel_rfl) (fun _ _ _ h => h) (Or.inl ⟨by rfl, ?_⟩) (by assumption) ?_
        rotate_left
        · intro u hSu
          (try dsimp only at hSu)
          first | (go_simp; done) | (go_simp; with_reducible rfl)
        try simp only [Act.put, List.getElem_toArray, List.getElem_cons_zero, List.getElem_cons_succ, List.setIfInBounds_toArray, List.set_cons_zero, List.set_cons_succ]
        refine wpAnyH_take (i := 21) (v := ?_) rfl (by kernel_rfl) (by kernel_rfl) (by kernel_rfl) (fun _ _ _ h => h) (Or.inl ⟨by rfl, ?_⟩) (by assumption) ?_
        rotate_left
        · intro u hSu
          (try dsimp only at hSu)
          first | (go_simp; done) | (go_simp; with_reducible rfl)
        try simp only [Act.put, List.getElem_toArray, List.getElem_cons_zero, List.getElem_cons_succ, List.setIfInBounds_toArray, List.set_cons_zero, List.set_cons_succ]
        refine wpAnyH_take (i := 22) (v := ?_) rfl (by kernel_rfl) (by kernel_rfl) (by kernel_rfl) (fun _ _ _ h => h) (Or.inl ⟨by rfl, ?_⟩) (by assumption) ?_
        rotate_left
        · intro u hSu
          (try dsimp only at hSu)
          first | (go_simp; done) | (go_simp; with_reducible rfl)
        try simp only [Act.put, List.getElem_toArray, List.getElem_cons_zero, List.getElem_cons_succ, List.setIfInBounds_toArray, List.set_cons_zero, List.set_cons_succ]
        refine wpAnyH_take (i := 23) (v := ?_) rfl (by kernel_rfl) (by kernel_rfl) (by kernel_rfl) (fun _ _ _ h => h) (Or.inl ⟨by rfl, ?_⟩) (by assumption) ?_
        rotate_left
        · intro u hSu
          (try dsimp only at hSu)
          first | (go_simp; done) | (go_simp; with_reducible rfl)
        try simp only [Act.put, List.getElem_toArray, List.getElem_cons_zero, List.getElem_cons_succ, List.setIfInBounds_toArray, List.set_cons_zero, List.set_cons_succ]
        refine wpAnyH_take (i := 24) (v := ?_) rfl (by kernel_rfl) (by kernel_rfl) (by kernel_rfl) (fun _ _ _ h => h) (Or.inl ⟨by rfl, ?_⟩) (by assumption) ?_
        rotate_left
        · intro u hSu
          (try dsimp only at hSu)
          first | (go_simp; done) | (go_simp; with_reducible rfl)
        try simp only [Act.put, List.getElem_toArray, List.getElem_cons_zero, List.getElem_cons_succ, List.setIfInBounds_toArray, List.set_cons_zero, List.set_cons_succ]
        refine wpAnyH_take (i := 25) (v := ?_) rfl (by kernel_rfl) (by kernel_rfl) (by kernel_rfl) (fun _ _ _ h => h) (Or.inl ⟨by rfl, ?_⟩) (by assumption) ?_
        rotate_left
        · intro u hSu
          obtain ⟨qa, qb, qc, _⟩ := hSu
          first | (go_simp; done) | (go_simp; with_reducible rfl)
        try simp only [Act.put, List.getElem_toArray, List.getElem_cons_zero, List.getElem_cons_succ, List.setIfInBounds_toArray, List.set_cons_zero, List.set_cons_succ]
        refine wpAnyH_take (i := 26) (v := ?_) rfl (by kernel_rfl) (by kernel_rfl) (by kernel_rfl) (fun _ _ _ h => h) (Or.inl ⟨by rfl, ?_⟩) (by assumption) ?_
        rotate_left
        · intro u hSu
          (try dsimp only at hSu)
          first | (go_simp; done) | (go_simp; with_reducible rfl)
        try simp only [Act.put, List.getElem_toArray, List.getElem_cons_zero, List.getElem_cons_succ, List.setIfInBounds_toArray, List.set_cons_zero, List.set_cons_succ]
        refine wpAnyH_ready (rs := [8]) (by kernel_rfl) (by simp) ?_
        refine AllReadyH.cons rfl (fun K hK => ?_) AllReadyH.nil
        go_simp
        refine (HDD1.out _).mono ?_
        rintro o w1 ⟨rfl, hb⟩
        refine hK.out _ _ (hHeld.next hpw hb) (fun hHeld2 => ?_)
        clear hK K hHeld
        have hHeld := hHeld2
        clear hHeld2
        try simp only [Act.put, List.getElem_toArray, List.getElem_cons_zero, List.getElem_cons_succ, List.setIfInBounds_toArray, List.set_cons_zero, List.set_cons_succ]
        clear hb
        refine wpAnyH_take (i := 9) (v := ?_) rfl (by kernel_rfl) (by kernel_rfl) (by kernel_rfl) (fun _ _ _ h => h) (Or.inl ⟨by rfl, ?_⟩) (by assumption) ?_
        rotate_left
        · intro u hSu
          (try dsimp only at hSu)
          first | (go_simp; done) | (go_simp; with_reducible rfl)
        try simp only [Act.put, List.getElem_toArray, List.getElem_cons_zero, List.getElem_cons_succ, List.setIfInBounds_toArray, List.set_cons_zero, List.set_cons_succ]
        refine wpAnyH_ready (rs := [17]) (by kernel_rfl) (by simp) ?_
        refine AllReadyH.cons rfl (fun K hK => ?_) AllReadyH.nil
        go_simp
        refine (HDD2.out _).mono ?_
        rintro o w2 ⟨rfl, hb⟩
        refine hK.out _ _ (hHeld.next hpw hb) (fun hHeld2 => ?_)
        clear hK K hHeld
        have hHeld := hHeld2
        clear hHeld2
        try simp only [Act.put, List.getElem_toArray, List.getElem_cons_zero, List.getElem_cons_succ, List.setIfInBounds_toArray, List.set_cons_zero, List.set_cons_succ]
        clear hb
        refine wpAnyH_take (i := 18) (v := ?_) rfl (by kernel_rfl) (by kernel_rfl) (by kernel_rfl) (fun _ _ _ h => h) (Or.inl ⟨by rfl, ?_⟩) (by assumption) ?_
        rotate_left
        · intro u hSu
          (try dsimp only at hSu)
          first | (go_simp; done) | (go_simp; with_reducible rfl)
        try simp only [Act.put, List.getElem_toArray, List.getElem_cons_zero, List.getElem_cons_succ, List.setIfInBounds_toArray, List.set_cons_zero, List.set_cons_succ]
        refine wpAnyH_take (i := 19) (v := ?_) rfl (by kernel_rfl) (by kernel_rfl) (by kernel_rfl) (fun _ _ _ h => h) (Or.inl ⟨by rfl, ?_⟩) (by assumption) ?_
        rotate_left
        · intro u hSu
          (try dsimp only at hSu)
          first | (go_simp; done) | (go_simp; with_reducible rfl)
        try simp only [Act.put, List.getElem_toArray, List.getElem_cons_zero, List.getElem_cons_succ, List.setIfInBounds_toArray, List.set_cons_zero, List.set_cons_succ]
        refine wpAnyH_ready (rs := [27]) (by kernel_rfl) (by simp) ?_
        refine AllReadyH.cons rfl (fun K hK => ?_) AllReadyH.nil
        go_simp
        refine (HDD3.out _).mono ?_
        rintro o w3 ⟨rfl, hb⟩
        refine hK.out _ _ (hHeld.next hpw hb) (fun hHeld2 => ?_)
        clear hK K hHeld
        have hHeld := hHeld2
        clear hHeld2
        try simp only [Act.put, List.getElem_toArray, List.getElem_cons_zero, List.getElem_cons_succ, List.setIfInBounds_toArray, List.set_cons_zero, List.set_cons_succ]
        clear hb
        refine wpAnyH_take (i := 28) (v := ?_) rfl (by kernel_rfl) (by kernel_rfl) (by kernel_rfl) (fun _ _ _ h => h) (Or.inl ⟨by rfl, ?_⟩) (by assumption) ?_
        rotate_left
        · intro u hSu
          (try dsimp only at hSu)
          first | (go_simp; done) | (go_simp; with_reducible rfl)
        try simp only [Act.put, List.getElem_toArray, List.getElem_cons_zero, List.getElem_cons_succ, List.setIfInBounds_toArray, List.set_cons_zero, List.set_cons_succ]
        refine wpAnyH_take (i := 29) (v := ?_) rfl (by kernel_rfl) (by kernel_rfl) (by kernel_rfl) (fun _ _ _ h => h) (Or.inl ⟨by rfl, ?_⟩) (by assumption) ?_
        rotate_left
        · intro u hSu
          (try dsimp only at hSu)
          first | (go_simp; done) | (go_simp; with_reducible rfl)
        try simp only [Act.put, List.getElem_toArray, List.getElem_cons_zero, List.getElem_cons_succ, List.setIfInBounds_toArray, List.set_cons_zero, List.set_cons_succ]
        refine wpAnyH_ready (rs := [30]) (by kernel_rfl) (by simp) ?_
        refine AllReadyH.cons rfl (fun K hK => ?_) AllReadyH.nil
        go_simp
        refine hK.out _ _ (hHeld) (fun hHeld2 => ?_)
        clear hK K hHeld
        have hHeld := hHeld2
        clear hHeld2
        try simp only [Act.put, List.getElem_toArray, List.getElem_cons_zero, List.getElem_cons_succ, List.setIfInBounds_toArray, List.set_cons_zero, List.set_cons_succ]
        refine wpAnyH_done (by kernel_rfl) ?_ _
        go_wp2_with fail
        go_roundw
        case rel => exact ⟨i + 1, _, by omega, by go_num, rfl, HNX.out, hz4, hHeld.2.2.2⟩
        case measure => simp [intOf]; omega
    · obtain rfl : i = 24 := by omega
      have HK : Hid (T = bsJ (daysT xs)) := Lib.hid (by
        rw [HT.out, List.take_of_length_le (by rw [HLS.out, List.length_map, ← En.out, HN.out]; exact Nat.le_refl _), HLS.out]
        rfl)
      go_wp2_with fail
      go_ret
      exact ⟨by rw [HK.out]; rfl, HB.out⟩
end Go.Proofs.YtjfimmfnhlimkaaDoor.day

/-
  Texts of days: the program's DayText, and the model's.
-/
namespace Go.Proofs.YtjfimmfnhlimkaaDoor.day
open Go Go.RowKit sl dec txt

/-- the cells of a block of the call's own, kept over calls -/
def KeptQ (b : Nat) (p q r : Int) (w u : World) : Prop := u.cell? ⟨b, 0, none⟩ = some (.int .i8 p) ∧ u.cell? ⟨b, 1, none⟩ = some (.int .i8 q) ∧ u.cell? ⟨b, 2, none⟩ = some (.int .i8 r) ∧ Below w.heap.size w u ∧ b < u.heap.size
theorem KeptQ.next {b : Nat} {p q r : Int} {w u v : World} (h : KeptQ b p q r w u) (hb : Below u.heap.size u v) : KeptQ b p q r w v := by
  obtain ⟨c0, c1, c2, hw, hl⟩ := h
  exact ⟨(hb.cell (p := ⟨b, 0, none⟩) hl).trans c0, (hb.cell (p := ⟨b, 1, none⟩) hl).trans c1, (hb.cell (p := ⟨b, 2, none⟩) hl).trans c2, below_next hw hb (Nat.le_refl _), Nat.lt_of_lt_of_le hl hb.size⟩
theorem KeptQ.set {b g j : Nat} {p q r : Int} {w u : World} (h : KeptQ b p q r w u) (hne : g ≠ b) (hg : w.heap.size ≤ g) (v : Value) : KeptQ b p q r w (u.setCell ⟨g, j, none⟩ v) := by
  obtain ⟨c0, c1, c2, hw, hl⟩ := h
  exact ⟨(World.cell?_setCell_other _ _ _ _ (by simp [])).trans c0, (World.cell?_setCell_other _ _ _ _ (by simp [])).trans c1, (World.cell?_setCell_other _ _ _ _ (by simp [])).trans c2, hw.setCell (p := ⟨g, j, none⟩) hg _, by simpa [World.setCell] using hl⟩
def dayText (xs : List Wea) : ByteArray := if xs.all Wea.valid = true then bsJ (daysT xs) else ⟨#[]⟩
set_option maxRecDepth 100000 in
set_option maxHeartbeats 8000000 in
theorem DayText_any (xs : List Wea) (hd : xs.length = 24) (hf : ∀ x ∈ xs, x.Fits) (w : World) (ht : TabJ w) :
    Calls Tryd.prog 25 #[dayV xs] w fun o w' => o = .returned (.string (dayText xs)) ∧ Below w.heap.size w w' := by
  obtain ⟨i0, hi, hz0, hz1, hz2⟩ := info_parts infoJ
  obtain ⟨T, hT⟩ : ∃ T, dayText xs = T := ⟨_, rfl⟩
  rw [hT]
  have HT := Lib.hid hT
  have HL24 := Lib.hid hd
  have HTB := Lib.hid ht
  have HF := Lib.hid hf
  obtain ⟨v, hv⟩ : ∃ v, v = xs.all Wea.valid := ⟨_, rfl⟩
  have HV := Lib.hid hv
  obtain ⟨w0, hw0⟩ : ∃ u, u = w.alloc (.cells (dayCs xs) 40) := ⟨_, rfl⟩
  have A0 : Hid (DayAt w0 w.heap.size xs) := Lib.hid (by rw [hw0]; exact DayAt.new xs _ w)
  have HB0 : Hid (Below w.heap.size w w0) := Lib.hid (by rw [hw0]; exact (Below.refl _ _).alloc (Nat.le_refl _) _)
  have HW0 := Lib.hid hw0
  clear hT hd hf ht hv hw0
  go_enter Tryd.func25, Tryd.ntmps25
  go_wp2_with (first | (rw [← HW0.out]; refine wpl_load_day rfl (.tmp 1) rfl w.heap.size rfl HL24.out A0.out ?_) | fail)
  refine (ValidDay_any xs HL24.out HF.out _).mono ?_
  rintro o w2 ⟨rfl, hb⟩
  have A2 := Lib.hid (A0.out.next hb)
  have HB2 := Lib.hid (below_next HB0.out hb (Nat.le_refl _))
  rw [← HV.out]
  clear hb A0 HB0 HW0
  cases v with
  | false =>
    obtain rfl : T = ⟨#[]⟩ := by rw [← HT.out, dayText, ← HV.out, if_neg (by decide)]
    go_wp2_with fail
    go_ret
    exact ⟨rfl, HB2.out⟩
  | true =>
    have HVL : Hid (∀ x ∈ xs, Wea.valid x = true) := Lib.hid (List.all_eq_true.1 HV.out.symm)
    have HT2 : Hid (T = bsJ (daysT xs)) := Lib.hid (by rw [← HT.out, dayText, ← HV.out, if_pos rfl])
    have hmk : ∀ (u : World), (Instr.makeSlice 96 (.int .i64 24) (.int .i64 24)).run Tryd.prog u =
        .ok (.slice (some ⟨u.heap.size, 0, none⟩) 24 24) (u.alloc (.cells (madeCells #[.string ⟨#[]⟩] 24) 9)) := fun u => by
      have h := run_make (P := Tryd.prog) u 96 9 i0 _ Tryd.underlying96 hi hz0 .i64 .i64 24 24 (by omega) (Int.le_refl _) (by rw [hz2]; omega) (by omega)
      simpa [hz1, Value.cells] using h
    have hP0 : (w2.alloc (.cells (madeCells #[.string ⟨#[]⟩] 24) 9)).ownsRow w2.heap.size 9 1 (.slice (some ⟨w2.heap.size, 0, none⟩) 24 24) 24 _ :=
      World.ownsRow_lit w2 (madeCells #[.string ⟨#[]⟩] 24) 24 (Nat.le_refl _) (by unfold maxLen; omega) (by rw [size_madeCells, Nat.mul_one])
    have HO0 := Lib.hid hP0
    have B1 := Lib.hid (HB2.out.alloc HB2.out.size (.cells (madeCells #[.string ⟨#[]⟩] 24) 9))
    have A3 := Lib.hid (A2.out.next ((Below.refl _ _).alloc (Nat.le_refl _) (.cells (madeCells #[.string ⟨#[]⟩] 24) 9)))
    have HBU := Lib.hid HB2.out.size
    obtain ⟨g, hgg⟩ : ∃ g, g = w2.heap.size := ⟨_, rfl⟩
    have HGG := Lib.hid hgg
    clear hP0 hgg
    go_wp2_with (first | (refine wpl_load_day rfl (.tmp 1) rfl w.heap.size rfl HL24.out A3.out ?_) | fail)
    rw [← HGG.out] at HO0 HBU ⊢
    go_loopw [4, 5, 11] (fun _ _ vi wr => ∃ (i : Nat) (L : List Value), i ≤ 24 ∧ vi = .int .i64 (i : Nat) ∧ wr.ownsRow g 9 1 (.slice (some ⟨g, 0, none⟩) 24 24) 24 L ∧ Done sJ 1 (xs.map weaT) i L ∧ Below w.heap.size w wr) (fun _ _ vi _ => 24 - (intOf vi).toNat)
    case atStart => exact ⟨0, _, by omega, rfl, HO0.out, Done.zero _ _ _ _, B1.out⟩
    case round =>
      clear HO0 B1
      obtain ⟨i, L, hil, rfl, hP, hD, hB3⟩ := hrel
      have HP := Lib.hid hP
      have HD := Lib.hid hD
      have HB3 := Lib.hid hB3
      clear hP hD hB3
      by_cases hlt : i < 24
      · obtain ⟨x, hx⟩ : ∃ x, xs[i]? = some x := ⟨xs[i]'(by have := HL24.out; omega), List.getElem?_eq_getElem _⟩
        have hix := fun u => run_index_day hlt hx u
        have hxv : x.v = .agg #[.int .i8 x.sun, .int .i8 x.wind, .int .i8 x.rain] := rfl
        rw [hxv] at hix
        obtain ⟨⟨x0, y0⟩, ⟨x1, y1⟩, ⟨x2, y2⟩⟩ := (Wea.valid_iff x).1 (HVL.out x (List.mem_of_getElem? hx))
        obtain ⟨p, hp⟩ : ∃ p : Nat, x.sun = p := ⟨x.sun.toNat, by omega⟩
        obtain ⟨q, hq⟩ : ∃ q : Nat, x.wind = q := ⟨x.wind.toNat, by omega⟩
        obtain ⟨r, hr⟩ : ∃ r : Nat, x.rain = r := ⟨x.rain.toNat, by omega⟩
        have HX : Hid ((xs.map weaT)[i]? = some (weaT x)) := Lib.hid (by rw [List.getElem?_map, hx]; rfl)
        have hcl := weaT_len (HVL.out x (List.mem_of_getElem? hx))
        have hcb := wea_byte hp hq hr
        obtain ⟨D1, hD1⟩ : ∃ D, decB p = D := ⟨_, rfl⟩
        obtain ⟨D2, hD2⟩ : ∃ D, decB q = D := ⟨_, rfl⟩
        obtain ⟨D3, hD3⟩ : ∃ D, decB r = D := ⟨_, rfl⟩
        rw [hD1, hD2, hD3] at hcb
        have hcs : (((D1 ++ ⟨#[47]⟩) ++ D2 ++ ⟨#[47]⟩) ++ D3).size ≤ 75 := by rw [← hcb, bsJ_size]; exact hcl
        have HCB := Lib.hid hcb
        have HDD1 := Lib.hid (fun (u : World) ht => ItoaJ p (by omega) u ht)
        have HDD2 := Lib.hid (fun (u : World) ht => ItoaJ q (by omega) u ht)
        have HDD3 := Lib.hid (fun (u : World) ht => ItoaJ r (by omega) u ht)
        rw [hD1] at HDD1
        rw [hD2] at HDD2
        rw [hD3] at HDD3
        rw [hp, hq, hr] at hix
        obtain ⟨bk, hbk⟩ : ∃ bk, bk = wr.heap.size := ⟨_, rfl⟩
        obtain ⟨w4, hw4⟩ : ∃ u, u = wr.alloc (.cells #[.int .i8 (p : Int), .int .i8 (q : Int), .int .i8 (r : Int)] 38) := ⟨_, rfl⟩
        have hb4 : Below wr.heap.size wr w4 := by rw [hw4]; exact (Below.refl _ _).alloc (Nat.le_refl _) _
        have H8 : Hid (KeptQ bk p q r w w4) := Lib.hid ⟨by rw [hw4, hbk]; exact cell_of_row _ _ _ _ _ _ (heap_alloc_new wr _), by rw [hw4, hbk]; exact cell_of_row _ _ _ _ _ _ (heap_alloc_new wr _), by rw [hw4, hbk]; exact cell_of_row _ _ _ _ _ _ (heap_alloc_new wr _), below_next HB3.out hb4 (Nat.le_refl _), by rw [hw4, hbk]; simp⟩
        have HP4 := Lib.hid (owns_next HP.out hb4)
        have HGB : Hid (g ≠ bk) := Lib.hid (by have := (HP.out.lt g rfl).2; omega)
        have HW4 := Lib.hid hw4
        have HBK := Lib.hid hbk
        have ww0 : IntKind.i64.wrap (p : Int) = p := IntWalk.i64_in _ (by omega)
        have ww1 : IntKind.i64.wrap (q : Int) = q := IntWalk.i64_in _ (by omega)
        have ww2 : IntKind.i64.wrap (r : Int) = r := IntWalk.i64_in _ (by omega)
        simp only [ByteArray.size_append] at hcs
        have hs0 : ∀ b : UInt8, (⟨#[b]⟩ : ByteArray).size = 1 := fun _ => rfl
        simp only [hs0] at hcs
        have hz1 : ¬ 9223372036854775807 < D1.size + 1 := by omega
        have hz2 : ¬ 9223372036854775807 < D1.size + 1 + D2.size := by omega
        have hz3 : ¬ 9223372036854775807 < D1.size + 1 + D2.size + 1 := by omega
        have hz4 : ¬ 9223372036854775807 < D1.size + 1 + D2.size + 1 + D3.size := by omega
        clear hx hxv hD1 hD2 hD3 hcl hcb hs0 x0 y0 x1 y1 x2 y2 hw4 hbk hb4
        go_wp2_with (first | (rw [← HW4.out, ← HBK.out]) | fail)
        refine wp_region_held_drew (S := fun u => KeptQ bk p q r w u) (by kernel_rfl) (H8.out.next (Below.refl _ _).drew) (fun hHeld => ?_)
        have HP5 := Lib.hid (owns_next HP4.out (Below.refl _ _).drew)
        generalize w4.drew = w5 at hHeld HP5 ⊢
        clear H8 HP4 HW4
        refine wpAnyH_take (i := 0) (v := ?_) rfl (by kernel_rfl) (by kernel_rfl) (by kernel_rfl) (fun _ _ _ h => h) (Or.inl ⟨by rfl, ?_⟩) (by assumption) ?_
        rotate_left
        · intro u hSu
          (try dsimp only at hSu)
          first | (go_simp; done) | (go_simp; with_reducible rfl)
        try simp only [Act.put, List.getElem_toArray, List.getElem_cons_zero, List.setIfInBounds_toArray, List.set_cons_zero, List.set_cons_succ]
        refine wpAnyH_take (i := 1) (v := ?_) rfl (by kernel_rfl) (by kernel_rfl) (by kernel_rfl) (fun _ _ _ h => h) (Or.inl ⟨by rfl, ?_⟩) (by assumption) ?_
        rotate_left
        · intro u hSu
          (try dsimp only at hSu)
          first | (go_simp; done) | (go_simp; with_reducible rfl)
        try simp only [Act.put, List.getElem_toArray, List.getElem_cons_zero, List.getElem_cons_succ, List.setIfInBounds_toArray, List.set_cons_zero, List.set_cons_succ]
        refine wpAnyH_take (i := 2) (v := ?_) rfl (by kernel_rfl) (by kernel_rfl) (by kernel_rfl) (fun _ _ _ h => h) (Or.inl ⟨by rfl, ?_⟩) (by assumption) ?_
        rotate_left
        · intro u hSu
          (try dsimp only at hSu)
          first | (go_simp; done) | (go_simp; with_reducible rfl)
        try simp only [Act.put, List.getElem_toArray, List.getElem_cons_zero, List.getElem_cons_succ, List.setIfInBounds_toArray, List.set_cons_zero, List.set_cons_succ]
        refine wpAnyH_take (i := 3) (v := ?_) rfl (by kernel_rfl) (by kernel_rfl) (by kernel_rfl) (fun _ _ _ h => h) (Or.inl ⟨by rfl, ?_⟩) (by assumption) ?_
        rotate_left
        · intro u hSu
          obtain ⟨qa, qb, qc, _⟩ := hSu
          first | (go_simp; done) | (go_simp; with_reducible rfl)
        try simp only [Act.put, List.getElem_toArray, List.getElem_cons_zero, List.getElem_cons_succ, List.setIfInBounds_toArray, List.set_cons_zero, List.set_cons_succ]
        refine wpAnyH_take (i := 4) (v := ?_) rfl (by kernel_rfl) (by kernel_rfl) (by kernel_rfl) (fun _ _ _ h => h) (Or.inl ⟨by rfl, ?_⟩) (by assumption) ?_
        rotate_left
        · intro u hSu
          (try dsimp only at hSu)
          first | (go_simp; done) | (go_simp; with_reducible rfl)
        try simp only [Act.put, List.getElem_toArray, List.getElem_cons_zero, List.getElem_cons_succ, List.setIfInBounds_toArray, List.set_cons_zero, List.set_cons_succ]
        refine wpAnyH_take (i := 7) (v := ?_) rfl (by kernel_rfl) (by kernel_rfl) (by kernel_rfl) (fun _ _ _ h => h) (Or.inl ⟨by rfl, ?_⟩) (by assumption) ?_
        rotate_left
        · intro u hSu
          (try dsimp only at hSu)
          first | (go_simp; done) | (go_simp; with_reducible rfl)
        try simp only [Act.put, List.getElem_toArray, List.getElem_cons_zero, List.getElem_cons_succ, List.setIfInBounds_toArray, List.set_cons_zero, List.set_cons_succ]
        refine wpAnyH_take (i := 8) (v := ?_) rfl (by kernel_rfl) (by kernel_rfl) (by kernel_rfl) (fun _ _ _ h => h) (Or.inl ⟨by rfl, ?_⟩) (by assumption) ?_
        rotate_left
        · intro u hSu
          obtain ⟨qa, qb, qc, _⟩ := hSu
          first | (go_simp; done) | (go_simp; with_reducible rfl)
        try simp only [Act.put, List.getElem_toArray, List.getElem_cons_zero, List.getElem_cons_succ, List.setIfInBounds_toArray, List.set_cons_zero, List.set_cons_succ]
        refine wpAnyH_take (i := 9) (v := ?_) rfl (by kernel_rfl) (by kernel_rfl) (by kernel_rfl) (fun _ _ _ h => h) (Or.inl ⟨by rfl, ?_⟩) (by assumption) ?_
        rotate_left
        · intro u hSu
          (try dsimp only at hSu)
          first | (go_simp; done) | (go_simp; with_reducible rfl)
        try simp only [Act.put, List.getElem_toArray, List.getElem_cons_zero, List.getElem_cons_succ, List.setIfInBounds_toArray, List.set_cons_zero, List.set_cons_succ]
        refine wpAnyH_take (i := 13) (v := ?_) rfl (by kernel_rfl) (by kernel_rfl) (by kernel_rfl) (fun _ _ _ h => h) (Or.inl ⟨by rfl, ?_⟩) (by assumption) ?_
        rotate_left
        · intro u hSu
          (try dsimp only at hSu)
          first | (go_simp; done) | (go_simp; with_reducible rfl)
        try simp only [Act.put, List.getElem_toArray, List.getElem_cons_zero, List.getElem_cons_succ, List.setIfInBounds_toArray, List.set_cons_zero, List.set_cons_succ]
        refine wpAnyH_take (i := 14) (v := ?_) rfl (by kernel_rfl) (by kernel_rfl) (by kernel_rfl) (fun _ _ _ h => h) (Or.inl ⟨by rfl, ?_⟩) (by assumption) ?_
        rotate_left
        · intro u hSu
          obtain ⟨qa, qb, qc, _⟩ := hSu
          first | (go_simp; done) | (go_simp; with_reducible rfl)
        try simp only [Act.put, List.getElem_toArray, List.getElem_cons_zero, List.getElem_cons_succ, List.setIfInBounds_toArray, List.set_cons_zero, List.set_cons_succ]
        refine wpAnyH_take (i := 15) (v := ?_) rfl (by kernel_rfl) (by kernel_rfl) (by kernel_rfl) (fun _ _ _ h => h) (Or.inl ⟨by rfl, ?_⟩) (by assumption) ?_
        rotate_left
        · intro u hSu
          (try dsimp only at hSu)
          first | (go_simp; done) | (go_simp; with_reducible rfl)
        try simp only [Act.put, List.getElem_toArray, List.getElem_cons_zero, List.getElem_cons_succ, List.setIfInBounds_toArray, List.set_cons_zero, List.set_cons_succ]
        refine wpAnyH_ready (rs := [5]) (by kernel_rfl) (by simp) ?_
        refine AllReadyH.cons rfl (fun K hK => ?_) AllReadyH.nil
        go_simp
        refine (HDD1.out _ (HTB.out _ hHeld.2.2.2.1)).mono ?_
        rintro o w6 ⟨rfl, hb⟩
        have HP6 := Lib.hid (owns_next HP5.out hb)
        refine hK.out _ _ (hHeld.next hb) (fun hHeld2 => ?_)
        clear hK K hHeld
        have hHeld := hHeld2
        clear hHeld2
        try simp only [Act.put, List.getElem_toArray, List.getElem_cons_zero, List.getElem_cons_succ, List.setIfInBounds_toArray, List.set_cons_zero, List.set_cons_succ]
        clear hb HP5
        refine wpAnyH_take (i := 6) (v := ?_) rfl (by kernel_rfl) (by kernel_rfl) (by kernel_rfl) (fun _ _ _ h => h) (Or.inl ⟨by rfl, ?_⟩) (by assumption) ?_
        rotate_left
        · intro u hSu
          (try dsimp only at hSu)
          first | (go_simp; done) | (go_simp; with_reducible rfl)
        try simp only [Act.put, List.getElem_toArray, List.getElem_cons_zero, List.getElem_cons_succ, List.setIfInBounds_toArray, List.set_cons_zero, List.set_cons_succ]
        refine wpAnyH_ready (rs := [10]) (by kernel_rfl) (by simp) ?_
        refine AllReadyH.cons rfl (fun K hK => ?_) AllReadyH.nil
        go_simp
        refine (HDD2.out _ (HTB.out _ hHeld.2.2.2.1)).mono ?_
        rintro o w7 ⟨rfl, hb⟩
        have HP7 := Lib.hid (owns_next HP6.out hb)
        refine hK.out _ _ (hHeld.next hb) (fun hHeld2 => ?_)
        clear hK K hHeld
        have hHeld := hHeld2
        clear hHeld2
        try simp only [Act.put, List.getElem_toArray, List.getElem_cons_zero, List.getElem_cons_succ, List.setIfInBounds_toArray, List.set_cons_zero, List.set_cons_succ]
        clear hb HP6
        refine wpAnyH_take (i := 11) (v := ?_) rfl (by kernel_rfl) (by kernel_rfl) (by kernel_rfl) (fun _ _ _ h => h) (Or.inl ⟨by rfl, ?_⟩) (by assumption) ?_
        rotate_left
        · intro u hSu
          (try dsimp only at hSu)
          first | (go_simp; done) | (go_simp; with_reducible rfl)
        try simp only [Act.put, List.getElem_toArray, List.getElem_cons_zero, List.getElem_cons_succ, List.setIfInBounds_toArray, List.set_cons_zero, List.set_cons_succ]
        refine wpAnyH_take (i := 12) (v := ?_) rfl (by kernel_rfl) (by kernel_rfl) (by kernel_rfl) (fun _ _ _ h => h) (Or.inl ⟨by rfl, ?_⟩) (by assumption) ?_
        rotate_left
        · intro u hSu
          (try dsimp only at hSu)
          first | (go_simp; done) | (go_simp; with_reducible rfl)
        try simp only [Act.put, List.getElem_toArray, List.getElem_cons_zero, List.getElem_cons_succ, List.setIfInBounds_toArray, List.set_cons_zero, List.set_cons_succ]
        refine wpAnyH_ready (rs := [16]) (by kernel_rfl) (by simp) ?_
        refine AllReadyH.cons rfl (fun K hK => ?_) AllReadyH.nil
        go_simp
        refine (HDD3.out _ (HTB.out _ hHeld.2.2.2.1)).mono ?_
        rintro o w8 ⟨rfl, hb⟩
        have HP8 := Lib.hid (owns_next HP7.out hb)
        refine hK.out _ _ (hHeld.next hb) (fun hHeld2 => ?_)
        clear hK K hHeld
        have hHeld := hHeld2
        clear hHeld2
        try simp only [Act.put, List.getElem_toArray, List.getElem_cons_zero, List.getElem_cons_succ, List.setIfInBounds_toArray, List.set_cons_zero, List.set_cons_succ]
        clear hb HP7
        refine wpAnyH_take (i := 17) (v := ?_) rfl (by kernel_rfl) (by kernel_rfl) (by kernel_rfl) (fun _ _ _ h => h) (Or.inl ⟨by rfl, ?_⟩) (by assumption) ?_
        rotate_left
        · intro u hSu
          (try dsimp only at hSu)
          first | (go_simp; done) | (go_simp; with_reducible rfl)
        try simp only [Act.put, List.getElem_toArray, List.getElem_cons_zero, List.getElem_cons_succ, List.setIfInBounds_toArray, List.set_cons_zero, List.set_cons_succ]
        refine wpAnyH_take (i := 18) (v := ?_) rfl (by kernel_rfl) (by kernel_rfl) (by kernel_rfl) (fun _ _ _ h => h) (Or.inl ⟨by rfl, ?_⟩) (by assumption) ?_
        rotate_left
        · intro u hSu
          (try dsimp only at hSu)
          first | (go_simp; done) | (go_simp; with_reducible rfl)
        try simp only [Act.put, List.getElem_toArray, List.getElem_cons_zero, List.getElem_cons_succ, List.setIfInBounds_toArray, List.set_cons_zero, List.set_cons_succ]
        have hLL := HP8.out.1
        obtain ⟨v0, s0⟩ : ∃ v, w8.cell? ⟨g, i, none⟩ = some v := ⟨L[i]'(by omega), (HP8.out.cellAt i (by omega)).trans (List.getElem?_eq_getElem _)⟩
        have f0 := HP8.out.frozenAt i
        have HLL := Lib.hid hLL
        clear hLL
        refine wpAnyH_ready (rs := [19]) (by kernel_rfl) (by simp) ?_
        refine AllReadyH.cons rfl (fun K hK => ?_) AllReadyH.nil
        go_simp
        rw [← HCB.out]
        refine hK.out _ _ (hHeld.set HGB.out HBU.out _) (fun hHeld2 => ?_)
        clear hK K hHeld
        have hHeld := hHeld2
        clear hHeld2
        try simp only [Act.put, List.getElem_toArray, List.getElem_cons_zero, List.getElem_cons_succ, List.setIfInBounds_toArray, List.set_cons_zero, List.set_cons_succ]
        refine wpAnyH_done (by kernel_rfl) ?_ _
        go_wp2_with fail
        go_roundw
        case rel =>
          have hP8 := (HP8.out.stored i (.string (bsJ (weaT x)))).1
          have hd := HD.out.step (C := sJ) (fun _ _ => rfl) HX.out (by rw [HLL.out, List.length_map, HL24.out])
          rw [Nat.mul_one] at hd
          exact ⟨i + 1, _, by omega, by go_num, hP8, hd, hHeld.2.2.2.1⟩
        case measure => simp [intOf]; omega
      · obtain rfl : i = 24 := by omega
        have hll : (xs.map weaT).length = 24 := by rw [List.length_map]; exact HL24.out
        have hL : L = (xs.map weaT).flatMap sJ := Done.full (C := sJ) (sz := 1) (by rw [hll]; exact HD.out) (fun _ _ => rfl) (by decide) (by rw [HP.out.1, hll])
        have hP2 := HP.out
        rw [hL] at hP2
        have hjl := daysT_len HVL.out 24 (by rw [HL24.out]; exact Nat.le_refl _)
        have HJ : Hid (Calls Tryd.prog 66 #[.slice (some ⟨g, 0, none⟩) 24 24, .string ⟨#[32]⟩] wr fun o w' => o = .returned (.string (bsJ (daysT xs))) ∧ Below wr.heap.size wr w') := Lib.hid (JoinJ g 24 _ 32 hll (by unfold daysT at hjl; omega) (by omega) wr hP2 (Nat.le_refl _))
        clear hP2 hL hll hjl
        go_wp2_with fail
        refine HJ.out.mono ?_
        rintro o u3 ⟨rfl, hb3⟩
        have HB5 := Lib.hid (below_next HB3.out hb3 (Nat.le_refl _))
        clear hb3
        go_wp2_with fail
        go_ret
        exact ⟨by rw [HT2.out]; rfl, HB5.out⟩
set_option maxRecDepth 100000 in
set_option maxHeartbeats 4000000 in
theorem DayText_spec (xs : List Wea) (hd : xs.length = 24) (hf : ∀ x ∈ xs, x.Fits) (w : World) :
    Calls Tryd.prog 23 #[dayV xs] w fun o w' => o = .returned (.string (dayText xs)) ∧ Below w.heap.size w w' := by
  obtain ⟨T, hT⟩ : ∃ T, dayText xs = T := ⟨_, rfl⟩
  rw [hT]
  have HT := Lib.hid hT
  have HD := Lib.hid hd
  have HF := Lib.hid hf
  obtain ⟨v, hv⟩ : ∃ v, v = xs.all Wea.valid := ⟨_, rfl⟩
  have HV := Lib.hid hv
  obtain ⟨w0, hw0⟩ : ∃ u, u = w.alloc (.cells (dayCs xs) 40) := ⟨_, rfl⟩
  have A0 : Hid (DayAt w0 w.heap.size xs) := Lib.hid (by rw [hw0]; exact DayAt.new xs _ w)
  have HB0 : Hid (Below w.heap.size w w0) := Lib.hid (by rw [hw0]; exact (Below.refl _ _).alloc (Nat.le_refl _) _)
  have HW0 := Lib.hid hw0
  clear hT hd hf hv hw0
  go_enter Tryd.func23, Tryd.ntmps23
  go_wp2_with (first | (rw [← HW0.out]) | fail)
  refine (l03Ok_any xs HD.out HF.out w.heap.size _ A0.out).mono ?_
  rintro o w2 ⟨rfl, hb⟩
  have A2 := Lib.hid (A0.out.next hb)
  have HB2 := Lib.hid (below_next HB0.out hb (Nat.le_refl _))
  rw [← HV.out]
  clear hb A0 HB0 HW0
  cases v with
  | false =>
    obtain rfl : T = ⟨#[]⟩ := by rw [← HT.out, dayText, ← HV.out, if_neg (by decide)]
    go_wp2_with fail
    go_ret
    exact ⟨rfl, HB2.out⟩
  | true =>
    obtain rfl : T = bsJ (daysT xs) := by rw [← HT.out, dayText, ← HV.out, if_pos rfl]
    go_wp2_with fail
    refine (l03Text_any xs HD.out (List.all_eq_true.1 HV.out.symm) w.heap.size _ A2.out).mono ?_
    rintro o u2 ⟨rfl, hb⟩
    have HB3 := Lib.hid (below_next HB2.out hb (Nat.le_refl _))
    clear hb
    go_wp2_with fail
    go_ret
    exact ⟨rfl, HB3.out⟩
end Go.Proofs.YtjfimmfnhlimkaaDoor.day
