/-
  Texts of cloths: pure, and the model's.
-/
import Derived.Test.YtjfimmfnhlimkaaDoorTxt
import Derived.Test.YtjfimmfnhlimkaaDoorJoin14
import Derived.OrdersHeld
import Derived.Deep.RegionHeld
namespace Go.Proofs.YtjfimmfnhlimkaaDoor.hang
open Go Go.RowKit sl dec txt

def cloT (x : Clo) : List UInt8 := (Lib.decDigits x.wide.toNat ++ [47]) ++ Lib.decDigits x.heavy.toNat
def closT (xs : List Clo) : List UInt8 := Lib.join (xs.map cloT) [32]
theorem cloT_len {x : Clo} (h : Clo.valid x = true) : (cloT x).length ≤ 45 := by
  obtain ⟨a, b, c, d⟩ := clo_parts h
  have h1 := digJ_len (n := x.wide.toNat) (by omega)
  have h2 := digJ_len (n := x.heavy.toNat) (by omega)
  simp only [cloT, List.length_append, List.length_singleton]
  omega
theorem clo_byte {x : Clo} {a b : Nat} (ha : x.wide = (a : Int)) (hb : x.heavy = (b : Int)) : bsJ (cloT x) = decB a ++ ⟨#[47]⟩ ++ decB b := by
  rw [cloT, bsJ_append, bsJ_append, ha, hb, Int.toNat_natCast, Int.toNat_natCast]
  rfl
theorem closT_len {xs : List Clo} (h : ∀ x ∈ xs, Clo.valid x = true) (n : Nat) (hn : xs.length ≤ n) : (closT xs).length ≤ 46 * n := by
  have h1 := joinJ_len 32 45 (ls := xs.map cloT) (fun l hl => by
    obtain ⟨x, hx, rfl⟩ := List.mem_map.1 hl
    exact cloT_len (h x hx))
  rw [List.length_map] at h1
  exact Nat.le_trans h1 (Nat.mul_le_mul_left _ hn)
/-- the cells of a cloth, kept over calls -/
def KeptC (a : Addr) (p q : Int) (w u : World) : Prop := u.cell? a = some (.int .i16 p) ∧ u.cell? ⟨a.block, a.off + 1, none⟩ = some (.int .i16 q) ∧ Below w.heap.size w u
theorem KeptC.next {a : Addr} {p q : Int} {w u v : World} (h : KeptC a p q w u) (ha : a.block < w.heap.size) (hb : Below u.heap.size u v) : KeptC a p q w v := by
  have k := hb.mono h.2.2.size
  exact ⟨(k.cell (p := a) ha).trans h.1, (k.cell (p := ⟨a.block, a.off + 1, none⟩) ha).trans h.2.1, h.2.2.trans k⟩
set_option maxRecDepth 100000 in
set_option maxHeartbeats 4000000 in
theorem l02Text_any (A : Option Addr) (n c : Nat) (xs : List Clo) (en : n = xs.length) (hn : n ≤ 100) (hv : ∀ x ∈ xs, Clo.valid x = true) (w : World) (hg : Sl Clo.cells 2 w w.heap.size A xs) :
    Calls Tryd.prog 91 #[.slice A n c] w fun o w' => o = .returned (.string (bsJ (closT xs))) ∧ Below w.heap.size w w' := by
  have En := Lib.hid en
  have HV := Lib.hid hv
  obtain ⟨ls, hls⟩ : ∃ ls, ls = xs.map cloT := ⟨_, rfl⟩
  have HLS := Lib.hid hls
  clear en hv hls
  go_enter Tryd.func91, Tryd.ntmps91
  go_wp2_with fail
  go_loopw [3, 4] (fun vt vi wr => ∃ (i : Nat) (T : ByteArray), i ≤ n ∧ vi = .int .i64 i ∧ vt = .string T ∧ T = bsJ (Lib.join (ls.take i) [32]) ∧ T.size ≤ 50 * i ∧ Below w.heap.size w wr) (fun _ vi _ => n - (intOf vi).toNat)
  case atStart => exact ⟨0, ⟨#[]⟩, by omega, rfl, rfl, by simp [Lib.join_nil], by simp [ByteArray.size], Below.refl _ _⟩
  case round =>
    obtain ⟨i, T, hi, rfl, rfl, hT, hsz, hB⟩ := hrel
    have HT := Lib.hid hT
    have HB := Lib.hid hB
    clear hT hB
    by_cases hlt : i < n
    · obtain ⟨x, hx⟩ : ∃ x, xs[i]? = some x := ⟨xs[i]'(by have := En.out; omega), List.getElem?_eq_getElem _⟩
      obtain ⟨a, rfl, hab, hat⟩ := (hg.below HB.out).at_ i x hx
      obtain ⟨g0, g1⟩ := cloS.at_ hat
      obtain ⟨x0, x1, x2, x3⟩ := clo_parts (HV.out x (List.mem_of_getElem? hx))
      obtain ⟨p, hp⟩ : ∃ p : Nat, x.wide = p := ⟨x.wide.toNat, by omega⟩
      obtain ⟨q, hq⟩ : ∃ q : Nat, x.heavy = q := ⟨x.heavy.toNat, by omega⟩
      have hl : ls[i]? = some (cloT x) := by rw [HLS.out, List.getElem?_map, hx]; rfl
      have hpart := preJ_part (sep := 32) hl
      obtain ⟨P, hP⟩ : ∃ P, P = bsJ (preJ 32 ls i) := ⟨_, rfl⟩
      have hP1 : i = 0 → P = T := fun e => by subst e; rw [hP, HT.out]; simp [preJ, Lib.join_nil]
      have hP2 : i ≠ 0 → P = T ++ ⟨#[32]⟩ := fun e => by rw [hP, preJ, if_neg e, bsJ_append, ← HT.out]
      have hps : P.size ≤ 50 * i + 1 := by
        by_cases e : i = 0
        · rw [hP1 e]; omega
        · rw [hP2 e]; simp only [ByteArray.size_append]; show T.size + 1 ≤ _; omega
      obtain ⟨D1, hD1⟩ : ∃ D, decB p = D := ⟨_, rfl⟩
      obtain ⟨D2, hD2⟩ : ∃ D, decB q = D := ⟨_, rfl⟩
      have hcl := cloT_len (HV.out x (List.mem_of_getElem? hx))
      have hcb := clo_byte hp hq
      rw [hD1, hD2] at hcb
      have hcs : (D1 ++ ⟨#[47]⟩ ++ D2).size ≤ 45 := by rw [← hcb, bsJ_size]; exact hcl
      have HNX : Hid (P ++ (D1 ++ ⟨#[47]⟩ ++ D2) = bsJ (Lib.join (ls.take (i + 1)) [32])) := Lib.hid (by rw [hP, ← hcb, ← bsJ_append, hpart])
      have HDD1 := Lib.hid (fun u : World => Decimal_any p (by omega) u)
      have HDD2 := Lib.hid (fun u : World => Decimal_any q (by omega) u)
      rw [hD1] at HDD1
      rw [hD2] at HDD2
      have hpw : (a.add (i * 2)).block < w.heap.size := by rw [block_add]; exact hab
      rw [hp] at g0
      rw [hq] at g1
      have H8 := Lib.hid (show KeptC (a.add (i * 2)) p q w wr from ⟨g0, g1, HB.out⟩)
      have w1 : IntKind.i64.wrap (p : Int) = p := IntWalk.i64_in _ (by omega)
      have w2 : IntKind.i64.wrap (q : Int) = q := IntWalk.i64_in _ (by omega)
      simp only [ByteArray.size_append] at hcs
      have hs0 : (⟨#[47]⟩ : ByteArray).size = 1 := rfl
      have hz0 : ¬ 9223372036854775807 < T.size + 1 := by omega
      have hz1 : ¬ 9223372036854775807 < D1.size + 1 := by omega
      have hz2 : ¬ 9223372036854775807 < D1.size + 1 + D2.size := by omega
      have hz4 : (P ++ (D1 ++ ⟨#[47]⟩ ++ D2)).size ≤ 50 * (i + 1) := by rw [ByteArray.size_append, ByteArray.size_append, ByteArray.size_append]; omega
      have hz3 : ¬ 9223372036854775807 < P.size + (D1.size + 1 + D2.size) := by omega
      clear hx hat hl hpart hP hD1 hD2 hcl hcb x0 x1 x2 x3
      by_cases e0 : i = 0
      · obtain rfl := hP1 e0
        have hd0 : ¬ 0 < i := by omega
        clear hP1 hP2 e0
        go_wp2_with fail
        refine wp_region_held_drew (S := fun u => KeptC (a.add (i * 2)) p q w u) (by kernel_rfl) (H8.out.next hpw (Below.refl _ _).drew) (fun hHeld => ?_)
        generalize wr.drew = w0 at hHeld ⊢
        refine wpAnyH_take (i := 0) (v := ?_) rfl (by kernel_rfl) (by kernel_rfl) (by kernel_rfl) (fun _ _ _ h => h) (Or.inl ⟨by rfl, ?_⟩) (by assumption) ?_
        rotate_left
        · intro u hSu
          (try dsimp only at hSu)
          first | (go_simp; done) | (go_simp; with_reducible rfl)
        try simp only [Act.put, List.getElem_toArray, List.getElem_cons_zero, List.setIfInBounds_toArray, List.set_cons_zero, List.set_cons_succ]
        refine wpAnyH_take (i := 1) (v := ?_) rfl (by kernel_rfl) (by kernel_rfl) (by kernel_rfl) (fun _ _ _ h => h) (Or.inl ⟨by rfl, ?_⟩) (by assumption) ?_
        rotate_left
        · intro u hSu
          (try dsimp only at hSu)
          first | (go_simp; done) | (go_simp; with_reducible rfl)
        try simp only [Act.put, List.getElem_toArray, List.getElem_cons_zero, List.getElem_cons_succ, List.setIfInBounds_toArray, List.set_cons_zero, List.set_cons_succ]
        refine wpAnyH_take (i := 2) (v := ?_) rfl (by kernel_rfl) (by kernel_rfl) (by kernel_rfl) (fun _ _ _ h => h) (Or.inl ⟨by rfl, ?_⟩) (by assumption) ?_
        rotate_left
        · intro u hSu
          (try dsimp only at hSu)
          first | (go_simp; done) | (go_simp; with_reducible rfl)
        try simp only [Act.put, List.getElem_toArray, List.getElem_cons_zero, List.getElem_cons_succ, List.setIfInBounds_toArray, List.set_cons_zero, List.set_cons_succ]
        refine wpAnyH_take (i := 3) (v := ?_) rfl (by kernel_rfl) (by kernel_rfl) (by kernel_rfl) (fun _ _ _ h => h) (Or.inl ⟨by rfl, ?_⟩) (by assumption) ?_
        rotate_left
        · intro u hSu
          (try dsimp only at hSu)
          first | (go_simp; done) | (go_simp; with_reducible rfl)
        try simp only [Act.put, List.getElem_toArray, List.getElem_cons_zero, List.getElem_cons_succ, List.setIfInBounds_toArray, List.set_cons_zero, List.set_cons_succ]
        refine wpAnyH_take (i := 4) (v := ?_) rfl (by kernel_rfl) (by kernel_rfl) (by kernel_rfl) (fun _ _ _ h => h) (Or.inl ⟨by rfl, ?_⟩) (by assumption) ?_
        rotate_left
        · intro u hSu
          (try dsimp only at hSu)
          first | (go_simp; done) | (go_simp; with_reducible rfl)
        try simp only [Act.put, List.getElem_toArray, List.getElem_cons_zero, List.getElem_cons_succ, List.setIfInBounds_toArray, List.set_cons_zero, List.set_cons_succ]
        refine wpAnyH_take (i := 5) (v := ?_) rfl (by kernel_rfl) (by kernel_rfl) (by kernel_rfl) (fun _ _ _ h => h) (Or.inl ⟨by rfl, ?_⟩) (by assumption) ?_
        rotate_left
        · intro u hSu
          obtain ⟨qa, qb, _⟩ := hSu
          first | (go_simp; done) | (go_simp; with_reducible rfl)
        try simp only [Act.put, List.getElem_toArray, List.getElem_cons_zero, List.getElem_cons_succ, List.setIfInBounds_toArray, List.set_cons_zero, List.set_cons_succ]
        refine wpAnyH_take (i := 6) (v := ?_) rfl (by kernel_rfl) (by kernel_rfl) (by kernel_rfl) (fun _ _ _ h => h) (Or.inl ⟨by rfl, ?_⟩) (by assumption) ?_
        rotate_left
        · intro u hSu
          (try dsimp only at hSu)
          first | (go_simp; done) | (go_simp; with_reducible rfl)
        try simp only [Act.put, List.getElem_toArray, List.getElem_cons_zero, List.getElem_cons_succ, List.setIfInBounds_toArray, List.set_cons_zero, List.set_cons_succ]
        refine wpAnyH_take (i := 9) (v := ?_) rfl (by kernel_rfl) (by kernel_rfl) (by kernel_rfl) (fun _ _ _ h => h) (Or.inl ⟨by rfl, ?_⟩) (by assumption) ?_
        rotate_left
        · intro u hSu
          (try dsimp only at hSu)
          first | (go_simp; done) | (go_simp; with_reducible rfl)
        try simp only [Act.put, List.getElem_toArray, List.getElem_cons_zero, List.getElem_cons_succ, List.setIfInBounds_toArray, List.set_cons_zero, List.set_cons_succ]
        refine wpAnyH_take (i := 10) (v := ?_) rfl (by kernel_rfl) (by kernel_rfl) (by kernel_rfl) (fun _ _ _ h => h) (Or.inl ⟨by rfl, ?_⟩) (by assumption) ?_
        rotate_left
        · intro u hSu
          (try dsimp only at hSu)
          first | (go_simp; done) | (go_simp; with_reducible rfl)
        try simp only [Act.put, List.getElem_toArray, List.getElem_cons_zero, List.getElem_cons_succ, List.setIfInBounds_toArray, List.set_cons_zero, List.set_cons_succ]
        refine wpAnyH_take (i := 11) (v := ?_) rfl (by kernel_rfl) (by kernel_rfl) (by kernel_rfl) (fun _ _ _ h => h) (Or.inl ⟨by rfl, ?_⟩) (by assumption) ?_
        rotate_left
        · intro u hSu
          (try dsimp only at hSu)
          first | (go_simp; done) | (go_simp; with_reducible rfl)
        try simp only [Act.put, List.getElem_toArray, List.getElem_cons_zero, List.getElem_cons_succ, List.setIfInBounds_toArray, List.set_cons_zero, List.set_cons_succ]
        refine wpAnyH_take (i := 12) (v := ?_) rfl (by kernel_rfl) (by kernel_rfl) (by kernel_rfl) (fun _ _ _ h => h) (Or.inl ⟨by rfl, ?_⟩) (by assumption) ?_
        rotate_left
        · intro u hSu
          (try dsimp only at hSu)
          first | (go_simp; done) | (go_simp; with_reducible rfl)
        try simp only [Act.put, List.getElem_toArray, List.getElem_cons_zero, List.getElem_cons_succ, List.setIfInBounds_toArray, List.set_cons_zero, List.set_cons_succ]
        refine wpAnyH_take (i := 13) (v := ?_) rfl (by kernel_rfl) (by kernel_rfl) (by kernel_rfl) (fun _ _ _ h => h) (Or.inl ⟨by rfl, ?_⟩) (by assumption) ?_
        rotate_left
        · intro u hSu
          obtain ⟨qa, qb, _⟩ := hSu
          first | (go_simp; done) | (go_simp; with_reducible rfl)
        try simp only [Act.put, List.getElem_toArray, List.getElem_cons_zero, List.getElem_cons_succ, List.setIfInBounds_toArray, List.set_cons_zero, List.set_cons_succ]
        refine wpAnyH_take (i := 14) (v := ?_) rfl (by kernel_rfl) (by kernel_rfl) (by kernel_rfl) (fun _ _ _ h => h) (Or.inl ⟨by rfl, ?_⟩) (by assumption) ?_
        rotate_left
        · intro u hSu
          (try dsimp only at hSu)
          first | (go_simp; done) | (go_simp; with_reducible rfl)
        try simp only [Act.put, List.getElem_toArray, List.getElem_cons_zero, List.getElem_cons_succ, List.setIfInBounds_toArray, List.set_cons_zero, List.set_cons_succ]
        refine wpAnyH_ready (rs := [7]) (by kernel_rfl) (by simp) ?_
        refine AllReadyH.cons rfl (fun K hK => ?_) AllReadyH.nil
        go_simp
        refine (HDD1.out _).mono ?_
        rintro o w1 ⟨rfl, hb⟩
        refine hK.out _ _ (hHeld.next hpw hb) (fun hHeld2 => ?_)
        clear hK K hHeld
        have hHeld := hHeld2
        clear hHeld2
        try simp only [Act.put, List.getElem_toArray, List.getElem_cons_zero, List.getElem_cons_succ, List.setIfInBounds_toArray, List.set_cons_zero, List.set_cons_succ]
        clear hb
        refine wpAnyH_take (i := 8) (v := ?_) rfl (by kernel_rfl) (by kernel_rfl) (by kernel_rfl) (fun _ _ _ h => h) (Or.inl ⟨by rfl, ?_⟩) (by assumption) ?_
        rotate_left
        · intro u hSu
          (try dsimp only at hSu)
          first | (go_simp; done) | (go_simp; with_reducible rfl)
        try simp only [Act.put, List.getElem_toArray, List.getElem_cons_zero, List.getElem_cons_succ, List.setIfInBounds_toArray, List.set_cons_zero, List.set_cons_succ]
        refine wpAnyH_ready (rs := [15]) (by kernel_rfl) (by simp) ?_
        refine AllReadyH.cons rfl (fun K hK => ?_) AllReadyH.nil
        go_simp
        refine (HDD2.out _).mono ?_
        rintro o w2 ⟨rfl, hb⟩
        refine hK.out _ _ (hHeld.next hpw hb) (fun hHeld2 => ?_)
        clear hK K hHeld
        have hHeld := hHeld2
        clear hHeld2
        try simp only [Act.put, List.getElem_toArray, List.getElem_cons_zero, List.getElem_cons_succ, List.setIfInBounds_toArray, List.set_cons_zero, List.set_cons_succ]
        clear hb
        refine wpAnyH_take (i := 16) (v := ?_) rfl (by kernel_rfl) (by kernel_rfl) (by kernel_rfl) (fun _ _ _ h => h) (Or.inl ⟨by rfl, ?_⟩) (by assumption) ?_
        rotate_left
        · intro u hSu
          (try dsimp only at hSu)
          first | (go_simp; done) | (go_simp; with_reducible rfl)
        try simp only [Act.put, List.getElem_toArray, List.getElem_cons_zero, List.getElem_cons_succ, List.setIfInBounds_toArray, List.set_cons_zero, List.set_cons_succ]
        refine wpAnyH_take (i := 17) (v := ?_) rfl (by kernel_rfl) (by kernel_rfl) (by kernel_rfl) (fun _ _ _ h => h) (Or.inl ⟨by rfl, ?_⟩) (by assumption) ?_
        rotate_left
        · intro u hSu
          (try dsimp only at hSu)
          first | (go_simp; done) | (go_simp; with_reducible rfl)
        try simp only [Act.put, List.getElem_toArray, List.getElem_cons_zero, List.getElem_cons_succ, List.setIfInBounds_toArray, List.set_cons_zero, List.set_cons_succ]
        refine wpAnyH_ready (rs := [18]) (by kernel_rfl) (by simp) ?_
        refine AllReadyH.cons rfl (fun K hK => ?_) AllReadyH.nil
        go_simp
        refine hK.out _ _ (hHeld) (fun hHeld2 => ?_)
        clear hK K hHeld
        have hHeld := hHeld2
        clear hHeld2
        try simp only [Act.put, List.getElem_toArray, List.getElem_cons_zero, List.getElem_cons_succ, List.setIfInBounds_toArray, List.set_cons_zero, List.set_cons_succ]
        refine wpAnyH_done (by kernel_rfl) ?_ _
        go_wp2_with fail
        go_roundw
        case rel => exact ⟨i + 1, _, by omega, by go_num, rfl, HNX.out, hz4, hHeld.2.2⟩
        case measure => simp [intOf]; omega
      · have hPT := hP2 e0
        have hd0 : 0 < i := by omega
        clear hP1 hP2 e0
        go_wp2_with fail
        rw [← hPT]
        clear hPT
        refine wp_region_held_drew (S := fun u => KeptC (a.add (i * 2)) p q w u) (by kernel_rfl) (H8.out.next hpw (Below.refl _ _).drew) (fun hHeld => ?_)
        generalize wr.drew = w0 at hHeld ⊢
        refine wpAnyH_take (i := 0) (v := ?_) rfl (by kernel_rfl) (by kernel_rfl) (by kernel_rfl) (fun _ _ _ h => h) (Or.inl ⟨by rfl, ?_⟩) (by assumption) ?_
        rotate_left
        · intro u hSu
          (try dsimp only at hSu)
          first | (go_simp; done) | (go_simp; with_reducible rfl)
        try simp only [Act.put, List.getElem_toArray, List.getElem_cons_zero, List.setIfInBounds_toArray, List.set_cons_zero, List.set_cons_succ]
        refine wpAnyH_take (i := 1) (v := ?_) rfl (by kernel_rfl) (by kernel_rfl) (by kernel_rfl) (fun _ _ _ h => h) (Or.inl ⟨by rfl, ?_⟩) (by assumption) ?_
        rotate_left
        · intro u hSu
          (try dsimp only at hSu)
          first | (go_simp; done) | (go_simp; with_reducible rfl)
        try simp only [Act.put, List.getElem_toArray, List.getElem_cons_zero, List.getElem_cons_succ, List.setIfInBounds_toArray, List.set_cons_zero, List.set_cons_succ]
        refine wpAnyH_take (i := 2) (v := ?_) rfl (by kernel_rfl) (by kernel_rfl) (by kernel_rfl) (fun _ _ _ h => h) (Or.inl ⟨by rfl, ?_⟩) (by assumption) ?_
        rotate_left
        · intro u hSu
          (try dsimp only at hSu)
          first | (go_simp; done) | (go_simp; with_reducible rfl)
        try simp only [Act.put, List.getElem_toArray, List.getElem_cons_zero, List.getElem_cons_succ, List.setIfInBounds_toArray, List.set_cons_zero, List.set_cons_succ]
        refine wpAnyH_take (i := 3) (v := ?_) rfl (by kernel_rfl) (by kernel_rfl) (by kernel_rfl) (fun _ _ _ h => h) (Or.inl ⟨by rfl, ?_⟩) (by assumption) ?_
        rotate_left
        · intro u hSu
          (try dsimp only at hSu)
          first | (go_simp; done) | (go_simp; with_reducible rfl)
        try simp only [Act.put, List.getElem_toArray, List.getElem_cons_zero, List.getElem_cons_succ, List.setIfInBounds_toArray, List.set_cons_zero, List.set_cons_succ]
        refine wpAnyH_take (i := 4) (v := ?_) rfl (by kernel_rfl) (by kernel_rfl) (by kernel_rfl) (fun _ _ _ h => h) (Or.inl ⟨by rfl, ?_⟩) (by assumption) ?_
        rotate_left
        · intro u hSu
          (try dsimp only at hSu)
          first | (go_simp; done) | (go_simp; with_reducible rfl)
        try simp only [Act.put, List.getElem_toArray, List.getElem_cons_zero, List.getElem_cons_succ, List.setIfInBounds_toArray, List.set_cons_zero, List.set_cons_succ]
        refine wpAnyH_take (i := 5) (v := ?_) rfl (by kernel_rfl) (by kernel_rfl) (by kernel_rfl) (fun _ _ _ h => h) (Or.inl ⟨by rfl, ?_⟩) (by assumption) ?_
        rotate_left
        · intro u hSu
          obtain ⟨qa, qb, _⟩ := hSu
          first | (go_simp; done) | (go_simp; with_reducible rfl)
        try simp only [Act.put, List.getElem_toArray, List.getElem_cons_zero, List.getElem_cons_succ, List.setIfInBounds_toArray, List.set_cons_zero, List.set_cons_succ]
        refine wpAnyH_take (i := 6) (v := ?_) rfl (by kernel_rfl) (by kernel_rfl) (by kernel_rfl) (fun _ _ _ h => h) (Or.inl ⟨by rfl, ?_⟩) (by assumption) ?_
        rotate_left
        · intro u hSu
          (try dsimp only at hSu)
          first | (go_simp; done) | (go_simp; with_reducible rfl)
        try simp only [Act.put, List.getElem_toArray, List.getElem_cons_zero, List.getElem_cons_succ, List.setIfInBounds_toArray, List.set_cons_zero, List.set_cons_succ]
        refine wpAnyH_take (i := 9) (v := ?_) rfl (by kernel_rfl) (by kernel_rfl) (by kernel_rfl) (fun _ _ _ h => h) (Or.inl ⟨by rfl, ?_⟩) (by assumption) ?_
        rotate_left
        · intro u hSu
          (try dsimp only at hSu)
          first | (go_simp; done) | (go_simp; with_reducible rfl)
        try simp only [Act.put, List.getElem_toArray, List.getElem_cons_zero, List.getElem_cons_succ, List.setIfInBounds_toArray, List.set_cons_zero, List.set_cons_succ]
        refine wpAnyH_take (i := 10) (v := ?_) rfl (by kernel_rfl) (by kernel_rfl) (by kernel_rfl) (fun _ _ _ h => h) (Or.inl ⟨by rfl, ?_⟩) (by assumption) ?_
        rotate_left
        · intro u hSu
          (try dsimp only at hSu)
          first | (go_simp; done) | (go_simp; with_reducible rfl)
        try simp only [Act.put, List.getElem_toArray, List.getElem_cons_zero, List.getElem_cons_succ, List.setIfInBounds_toArray, List.set_cons_zero, List.set_cons_succ]
        refine wpAnyH_take (i := 11) (v := ?_) rfl (by kernel_rfl) (by kernel_rfl) (by kernel_rfl) (fun _ _ _ h => h) (Or.inl ⟨by rfl, ?_⟩) (by assumption) ?_
        rotate_left
        · intro u hSu
          (try dsimp only at hSu)
          first | (go_simp; done) | (go_simp; with_reducible rfl)
        try simp only [Act.put, List.getElem_toArray, List.getElem_cons_zero, List.getElem_cons_succ, List.setIfInBounds_toArray, List.set_cons_zero, List.set_cons_succ]
        refine wpAnyH_take (i := 12) (v := ?_) rfl (by kernel_rfl) (by kernel_rfl) (by kernel_rfl) (fun _ _ _ h => h) (Or.inl ⟨by rfl, ?_⟩) (by assumption) ?_
        rotate_left
        · intro u hSu
          (try dsimp only at hSu)
          first | (go_simp; done) | (go_simp; with_reducible rfl)
        try simp only [Act.put, List.getElem_toArray, List.getElem_cons_zero, List.getElem_cons_succ, List.setIfInBounds_toArray, List.set_cons_zero, List.set_cons_succ]
        refine wpAnyH_take (i := 13) (v := ?_) rfl (by kernel_rfl) (by kernel_rfl) (by kernel_rfl) (fun _ _ _ h => h) (Or.inl ⟨by rfl, ?_⟩) (by assumption) ?_
        rotate_left
        · intro u hSu
          obtain ⟨qa, qb, _⟩ := hSu
          first | (go_simp; done) | (go_simp; with_reducible rfl)
        try simp only [Act.put, List.getElem_toArray, List.getElem_cons_zero, List.getElem_cons_succ, List.setIfInBounds_toArray, List.set_cons_zero, List.set_cons_succ]
        refine wpAnyH_take (i := 14) (v := ?_) rfl (by kernel_rfl) (by kernel_rfl) (by kernel_rfl) (fun _ _ _ h => h) (Or.inl ⟨by rfl, ?_⟩) (by assumption) ?_
        rotate_left
        · intro u hSu
          (try dsimp only at hSu)
          first | (go_simp; done) | (go_simp; with_reducible rfl)
        try simp only [Act.put, List.getElem_toArray, List.getElem_cons_zero, List.getElem_cons_succ, List.setIfInBounds_toArray, List.set_cons_zero, List.set_cons_succ]
        refine wpAnyH_ready (rs := [7]) (by kernel_rfl) (by simp) ?_
        refine AllReadyH.cons rfl (fun K hK => ?_) AllReadyH.nil
        go_simp
        refine (HDD1.out _).mono ?_
        rintro o w1 ⟨rfl, hb⟩
        refine hK.out _ _ (hHeld.next hpw hb) (fun hHeld2 => ?_)
        clear hK K hHeld
        have hHeld := hHeld2
        clear hHeld2
        try simp only [Act.put, List.getElem_toArray, List.getElem_cons_zero, List.getElem_cons_succ, List.setIfInBounds_toArray, List.set_cons_zero, List.set_cons_succ]
        clear hb
        refine wpAnyH_take (i := 8) (v := ?_) rfl (by kernel_rfl) (by kernel_rfl) (by kernel_rfl) (fun _ _ _ h => h) (Or.inl ⟨by rfl, ?_⟩) (by assumption) ?_
        rotate_left
        · intro u hSu
          (try dsimp only at hSu)
          first | (go_simp; done) | (go_simp; with_reducible rfl)
        try simp only [Act.put, List.getElem_toArray, List.getElem_cons_zero, List.getElem_cons_succ, List.setIfInBounds_toArray, List.set_cons_zero, List.set_cons_succ]
        refine wpAnyH_ready (rs := [15]) (by kernel_rfl) (by simp) ?_
        refine AllReadyH.cons rfl (fun K hK => ?_) AllReadyH.nil
        go_simp
        refine (HDD2.out _).mono ?_
        rintro o w2 ⟨rfl, hb⟩
        refine hK.out _ _ (hHeld.next hpw hb) (fun hHeld2 => ?_)
        clear hK K hHeld
        have hHeld := hHeld2
        clear hHeld2
        try simp only [Act.put, List.getElem_toArray, List.getElem_cons_zero, List.getElem_cons_succ, List.setIfInBounds_toArray, List.set_cons_zero, List.set_cons_succ]
        clear hb
        refine wpAnyH_take (i := 16) (v := ?_) rfl (by kernel_rfl) (by kernel_rfl) (by kernel_rfl) (fun _ _ _ h => h) (Or.inl ⟨by rfl, ?_⟩) (by assumption) ?_
        rotate_left
        · intro u hSu
          (try dsimp only at hSu)
          first | (go_simp; done) | (go_simp; with_reducible rfl)
        try simp only [Act.put, List.getElem_toArray, List.getElem_cons_zero, List.getElem_cons_succ, List.setIfInBounds_toArray, List.set_cons_zero, List.set_cons_succ]
        refine wpAnyH_take (i := 17) (v := ?_) rfl (by kernel_rfl) (by kernel_rfl) (by kernel_rfl) (fun _ _ _ h => h) (Or.inl ⟨by rfl, ?_⟩) (by assumption) ?_
        rotate_left
        · intro u hSu
          (try dsimp only at hSu)
          first | (go_simp; done) | (go_simp; with_reducible rfl)
        try simp only [Act.put, List.getElem_toArray, List.getElem_cons_zero, List.getElem_cons_succ, List.setIfInBounds_toArray, List.set_cons_zero, List.set_cons_succ]
        refine wpAnyH_ready (rs := [18]) (by kernel_rfl) (by simp) ?_
        refine AllReadyH.cons rfl (fun K hK => ?_) AllReadyH.nil
        go_simp
        refine hK.out _ _ (hHeld) (fun hHeld2 => ?_)
        clear hK K hHeld
        have hHeld := hHeld2
        clear hHeld2
        try simp only [Act.put, List.getElem_toArray, List.getElem_cons_zero, List.getElem_cons_succ, List.setIfInBounds_toArray, List.set_cons_zero, List.set_cons_succ]
        refine wpAnyH_done (by kernel_rfl) ?_ _
        go_wp2_with fail
        go_roundw
        case rel => exact ⟨i + 1, _, by omega, by go_num, rfl, HNX.out, hz4, hHeld.2.2⟩
        case measure => simp [intOf]; omega
    · obtain rfl : i = n := by omega
      have HK : Hid (T = bsJ (closT xs)) := Lib.hid (by
        rw [HT.out, List.take_of_length_le (by rw [HLS.out, List.length_map, ← En.out]; exact Nat.le_refl _), HLS.out]
        rfl)
      go_wp2_with fail
      go_ret
      exact ⟨by rw [HK.out]; rfl, HB.out⟩
end Go.Proofs.YtjfimmfnhlimkaaDoor.hang
