/-
  Texts of cloths: the program's ClothsText, and the model's.
-/
import Derived.Test.YtjfimmfnhlimkaaDoorCloTx
import Derived.Test.YtjfimmfnhlimkaaDoorCloEm
namespace Go.Proofs.YtjfimmfnhlimkaaDoor.hang
open Go Go.RowKit sl dec txt errs

/-- two cells of a block of the call's own, kept over calls -/
def KeptD (b : Nat) (p q : Int) (w u : World) : Prop := u.cell? ⟨b, 0, none⟩ = some (.int .i16 p) ∧ u.cell? ⟨b, 1, none⟩ = some (.int .i16 q) ∧ Below w.heap.size w u ∧ b < u.heap.size
theorem KeptD.next {b : Nat} {p q : Int} {w u v : World} (h : KeptD b p q w u) (hb : Below u.heap.size u v) : KeptD b p q w v :=
  ⟨(hb.cell (p := ⟨b, 0, none⟩) h.2.2.2).trans h.1, (hb.cell (p := ⟨b, 1, none⟩) h.2.2.2).trans h.2.1, below_next h.2.2.1 hb (Nat.le_refl _), Nat.lt_of_lt_of_le h.2.2.2 hb.size⟩
theorem KeptD.set {b g j : Nat} {p q : Int} {w u : World} (h : KeptD b p q w u) (hne : g ≠ b) (hg : w.heap.size ≤ g) (v : Value) : KeptD b p q w (u.setCell ⟨g, j, none⟩ v) :=
  ⟨(World.cell?_setCell_other _ _ _ _ (by simp [])).trans h.1, (World.cell?_setCell_other _ _ _ _ (by simp [])).trans h.2.1, h.2.2.1.setCell (p := ⟨g, j, none⟩) hg _, by simpa [World.setCell] using h.2.2.2⟩
def cloText (xs : List Clo) : ByteArray := if codeMany xs 100 = 0 then bsJ (closT xs) else ⟨#[]⟩
set_option maxRecDepth 100000 in
set_option maxHeartbeats 8000000 in
theorem ClothsText_any (A : Option Addr) (n c : Nat) (xs : List Clo) (en : n = xs.length) (hn : n ≤ 1048576) (hf : ∀ x ∈ xs, x.Fits) {w : World} {B : Nat} {e : Nat → Addr} (h : EM w B e) (hB : B ≤ w.heap.size) (ht : TabJ w) (hg : Sl Clo.cells 2 w w.heap.size A xs) :
    Calls Tryd.prog 41 #[.slice A n c] w fun o w' => o = .returned (.string (cloText xs)) ∧ Below w.heap.size w w' := by
  obtain ⟨i0, hi, hz0, hz1, hz2⟩ := info_parts infoJ
  obtain ⟨T, hT⟩ : ∃ T, cloText xs = T := ⟨_, rfl⟩
  rw [hT]
  have HT := Lib.hid hT
  have En := Lib.hid en
  have HTB := Lib.hid ht
  have HF := Lib.hid hf
  have HE := Lib.hid (fun (u : World) (hu : Below w.heap.size w u) => h.below (hu.mono hB))
  obtain ⟨k1, hk1⟩ : ∃ k : Nat, k = if xs.all Clo.valid = true then 0 else 1 := ⟨_, rfl⟩
  obtain ⟨k2, hk2⟩ : ∃ k : Nat, k = if 100 < n then 3 else 0 := ⟨_, rfl⟩
  obtain ⟨k0, hk0⟩ : ∃ k : Nat, k = codeMany xs 100 := ⟨_, rfl⟩
  have HK := Lib.hid ((code2 xs n 100 k1 k2 en hk1 hk2).trans hk0.symm)
  have HK1 := Lib.hid hk1
  have HK2 := Lib.hid hk2
  have HK0 := Lib.hid hk0
  clear hT en hf ht hk1 hk2 hk0 h
  go_enter Tryd.func41, Tryd.ntmps41
  go_wp2_with fail
  refine (checkCloths_em A n c xs En.out (by omega) HF.out (HE.out _ (Below.refl _ _)) hB hg k1 HK1.out).mono ?_
  rintro o w1 ⟨rfl, hb⟩
  have HB1 := Lib.hid hb
  clear hb
  go_wp2_with fail
  refine (checkClothCount_em A n c 100 (by omega) (by omega) (HE.out _ HB1.out) k2 HK2.out).mono ?_
  rintro o u ⟨rfl, hw⟩
  obtain rfl := hw
  obtain ⟨w2, hw2⟩ : ∃ u, u = w1.alloc (.cells #[errOf e k1, errOf e k2] 94) := ⟨_, rfl⟩
  have HB2 : Hid (Below _ _ w2) := Lib.hid (below_next HB1.out (by rw [hw2]; exact (Below.refl _ _).alloc (Nat.le_refl _) _) (Nat.le_refl _))
  have HCE := Lib.hid (cells_errs e [k1, k2] w1 94 #[errOf e k1, errOf e k2] rfl)
  rw [← hw2] at HCE
  have HW2 := Lib.hid hw2
  clear hw2
  go_wp2_with (first | (refine wpList_listed rfl 178 2 _ rfl #[(0, errOf e k1), (1, errOf e k2)] ?hp (buildSlice2 e k1 k2 _) ?_; case hp => simp [Act.eval]) | (rw [← HW2.out]) | fail)
  refine (firstOf_any e [k1, k2] _ 2 2 rfl (by decide) _ HCE.out).mono ?_
  rintro o u ⟨rfl, hw⟩
  obtain rfl := hw
  rw [HK.out]
  cases k0 with
  | succ k =>
    obtain rfl : T = ⟨#[]⟩ := by rw [← HT.out, cloText, ← HK0.out, if_neg (by omega)]
    rw [show errOf e (k + 1) = errV (e k) from rfl]
    go_wp2_with fail
    go_ret
    exact ⟨rfl, HB2.out⟩
  | zero =>
    obtain ⟨hval, h100⟩ := codeMany_zero HK0.out.symm
    rw [← En.out] at h100
    have HVL := Lib.hid hval
    have HT2 : Hid (T = bsJ (closT xs)) := Lib.hid (by rw [← HT.out, cloText, ← HK0.out, if_pos rfl])
    have hmk : ∀ (u : World), (Instr.makeSlice 96 (.int .i64 (n : Int)) (.int .i64 (n : Int))).run Tryd.prog u =
        .ok (.slice (some ⟨u.heap.size, 0, none⟩) n n) (u.alloc (.cells (madeCells #[.string ⟨#[]⟩] n) 9)) := fun u => by
      have h := run_make (P := Tryd.prog) u 96 9 i0 _ Tryd.underlying96 hi hz0 .i64 .i64 (n : Int) (n : Int) (by omega) (Int.le_refl _) (by rw [hz2]; omega) (by omega)
      have e : ((n : Int)).toNat = n := by omega
      rw [e] at h
      simpa [hz1, Value.cells] using h
    have hP0 : (w2.alloc (.cells (madeCells #[.string ⟨#[]⟩] n) 9)).ownsRow w2.heap.size 9 1 (.slice (some ⟨w2.heap.size, 0, none⟩) n n) n _ :=
      World.ownsRow_lit w2 (madeCells #[.string ⟨#[]⟩] n) n (Nat.le_refl _) (by unfold maxLen; omega) (by rw [size_madeCells, Nat.mul_one])
    have HO0 := Lib.hid hP0
    have B1 := Lib.hid (HB2.out.alloc HB2.out.size (.cells (madeCells #[.string ⟨#[]⟩] n) 9))
    have HBU := Lib.hid HB2.out.size
    obtain ⟨g, hgg⟩ : ∃ g, g = w2.heap.size := ⟨_, rfl⟩
    have HGG := Lib.hid hgg
    rw [show errOf e 0 = .nilIface from rfl]
    clear hval hP0 hgg
    go_wp2_with fail
    rw [← HGG.out] at HO0 HBU ⊢
    go_loopw [4, 5, 18] (fun _ _ vi wr => ∃ (i : Nat) (L : List Value), i ≤ n ∧ vi = .int .i64 (i : Nat) ∧ wr.ownsRow g 9 1 (.slice (some ⟨g, 0, none⟩) n n) n L ∧ Done sJ 1 (xs.map cloT) i L ∧ Below w.heap.size w wr) (fun _ _ vi _ => n - (intOf vi).toNat)
    case atStart => exact ⟨0, _, by omega, rfl, HO0.out, Done.zero _ _ _ _, B1.out⟩
    case round =>
      clear HO0 B1
      obtain ⟨i, L, hil, rfl, hP, hD, hB3⟩ := hrel
      have HP := Lib.hid hP
      have HD := Lib.hid hD
      have HB3 := Lib.hid hB3
      clear hP hD hB3
      by_cases hlt : i < n
      · obtain ⟨x, hx⟩ : ∃ x, xs[i]? = some x := ⟨xs[i]'(by have := En.out; omega), List.getElem?_eq_getElem _⟩
        obtain ⟨a, rfl, hab, hat⟩ := (hg.below HB3.out).at_ i x hx
        obtain ⟨g0, g1⟩ := cloS.at_ hat
        obtain ⟨x0, x1, x2, x3⟩ := clo_parts (HVL.out x (List.mem_of_getElem? hx))
        obtain ⟨p, hp⟩ : ∃ p : Nat, x.wide = p := ⟨x.wide.toNat, by omega⟩
        obtain ⟨q, hq⟩ : ∃ q : Nat, x.heavy = q := ⟨x.heavy.toNat, by omega⟩
        have HX : Hid ((xs.map cloT)[i]? = some (cloT x)) := Lib.hid (by rw [List.getElem?_map, hx]; rfl)
        have hcl := cloT_len (HVL.out x (List.mem_of_getElem? hx))
        have hcb := clo_byte hp hq
        obtain ⟨D1, hD1⟩ : ∃ D, decB p = D := ⟨_, rfl⟩
        obtain ⟨D2, hD2⟩ : ∃ D, decB q = D := ⟨_, rfl⟩
        rw [hD1, hD2] at hcb
        have hcs : (D1 ++ ⟨#[47]⟩ ++ D2).size ≤ 45 := by rw [← hcb, bsJ_size]; exact hcl
        have HCB := Lib.hid hcb
        have HDD1 := Lib.hid (fun (u : World) ht => ItoaJ p (by omega) u ht)
        have HDD2 := Lib.hid (fun (u : World) ht => ItoaJ q (by omega) u ht)
        rw [hD1] at HDD1
        rw [hD2] at HDD2
        rw [hp] at g0
        rw [hq] at g1
        obtain ⟨bk, hbk⟩ : ∃ bk, bk = wr.heap.size := ⟨_, rfl⟩
        obtain ⟨w4, hw4⟩ : ∃ u, u = wr.alloc (.cells #[.int .i16 (p : Int), .int .i16 (q : Int)] 136) := ⟨_, rfl⟩
        have hb4 : Below wr.heap.size wr w4 := by rw [hw4]; exact (Below.refl _ _).alloc (Nat.le_refl _) _
        have H8 : Hid (KeptD bk p q w w4) := Lib.hid ⟨by rw [hw4, hbk]; exact cell_of_row _ _ _ _ _ _ (heap_alloc_new wr _), by rw [hw4, hbk]; exact cell_of_row _ _ _ _ _ _ (heap_alloc_new wr _), below_next HB3.out hb4 (Nat.le_refl _), by rw [hw4, hbk]; simp⟩
        have HP4 := Lib.hid (owns_next HP.out hb4)
        have HGB : Hid (g ≠ bk) := Lib.hid (by have := (HP.out.lt g rfl).2; omega)
        have HW4 := Lib.hid hw4
        have HBK := Lib.hid hbk
        have w1' : IntKind.i64.wrap (p : Int) = p := IntWalk.i64_in _ (by omega)
        have w2' : IntKind.i64.wrap (q : Int) = q := IntWalk.i64_in _ (by omega)
        simp only [ByteArray.size_append] at hcs
        have hs0 : (⟨#[47]⟩ : ByteArray).size = 1 := rfl
        have hz1 : ¬ 9223372036854775807 < D1.size + 1 := by omega
        have hz2 : ¬ 9223372036854775807 < D1.size + 1 + D2.size := by omega
        clear hx hat hD1 hD2 hcl hcb x0 x1 x2 x3 hw4 hbk hb4
        go_wp2_with (first | (rw [← HW4.out, ← HBK.out]) | fail)
        refine wp_region_held_drew (S := fun u => KeptD bk p q w u) (by kernel_rfl) (H8.out.next (Below.refl _ _).drew) (fun hHeld => ?_)
        have HP5 := Lib.hid (owns_next HP4.out (Below.refl _ _).drew)
        generalize w4.drew = w5 at hHeld HP5 ⊢
        clear H8 HP4 HW4
        refine wpAnyH_take (i := 0) (v := ?_) rfl (by kernel_rfl) (by kernel_rfl) (by kernel_rfl) (fun _ _ _ h => h) (Or.inl ⟨by rfl, ?_⟩) (by assumption) ?_
        rotate_left
        · intro u hSu
          (try dsimp only at hSu)
          first | (go_simp; done) | (go_simp; with_reducible rfl)
        try simp only [Act.put, List.getElem_toArray, List.getElem_cons_zero, List.setIfInBounds_toArray, List.set_cons_zero, List.set_cons_succ]
        refine wpAnyH_take (i := 1) (v := ?_) rfl (by kernel_rfl) (by kernel_rfl) (by kernel_rfl) (fun _ _ _ h => h) (Or.inl ⟨by rfl, ?_⟩) (by assumption) ?_
        rotate_left
        · intro u hSu
          (try dsimp only at hSu)
          first | (go_simp; done) | (go_simp; with_reducible rfl)
        try simp only [Act.put, List.getElem_toArray, List.getElem_cons_zero, List.getElem_cons_succ, List.setIfInBounds_toArray, List.set_cons_zero, List.set_cons_succ]
        refine wpAnyH_take (i := 2) (v := ?_) rfl (by kernel_rfl) (by kernel_rfl) (by kernel_rfl) (fun _ _ _ h => h) (Or.inl ⟨by rfl, ?_⟩) (by assumption) ?_
        rotate_left
        · intro u hSu
          (try dsimp only at hSu)
          first | (go_simp; done) | (go_simp; with_reducible rfl)
        try simp only [Act.put, List.getElem_toArray, List.getElem_cons_zero, List.getElem_cons_succ, List.setIfInBounds_toArray, List.set_cons_zero, List.set_cons_succ]
        refine wpAnyH_take (i := 3) (v := ?_) rfl (by kernel_rfl) (by kernel_rfl) (by kernel_rfl) (fun _ _ _ h => h) (Or.inl ⟨by rfl, ?_⟩) (by assumption) ?_
        rotate_left
        · intro u hSu
          obtain ⟨qa, qb, _⟩ := hSu
          first | (go_simp; done) | (go_simp; with_reducible rfl)
        try simp only [Act.put, List.getElem_toArray, List.getElem_cons_zero, List.getElem_cons_succ, List.setIfInBounds_toArray, List.set_cons_zero, List.set_cons_succ]
        refine wpAnyH_take (i := 4) (v := ?_) rfl (by kernel_rfl) (by kernel_rfl) (by kernel_rfl) (fun _ _ _ h => h) (Or.inl ⟨by rfl, ?_⟩) (by assumption) ?_
        rotate_left
        · intro u hSu
          (try dsimp only at hSu)
          first | (go_simp; done) | (go_simp; with_reducible rfl)
        try simp only [Act.put, List.getElem_toArray, List.getElem_cons_zero, List.getElem_cons_succ, List.setIfInBounds_toArray, List.set_cons_zero, List.set_cons_succ]
        refine wpAnyH_take (i := 7) (v := ?_) rfl (by kernel_rfl) (by kernel_rfl) (by kernel_rfl) (fun _ _ _ h => h) (Or.inl ⟨by rfl, ?_⟩) (by assumption) ?_
        rotate_left
        · intro u hSu
          (try dsimp only at hSu)
          first | (go_simp; done) | (go_simp; with_reducible rfl)
        try simp only [Act.put, List.getElem_toArray, List.getElem_cons_zero, List.getElem_cons_succ, List.setIfInBounds_toArray, List.set_cons_zero, List.set_cons_succ]
        refine wpAnyH_take (i := 8) (v := ?_) rfl (by kernel_rfl) (by kernel_rfl) (by kernel_rfl) (fun _ _ _ h => h) (Or.inl ⟨by rfl, ?_⟩) (by assumption) ?_
        rotate_left
        · intro u hSu
          obtain ⟨qa, qb, _⟩ := hSu
          first | (go_simp; done) | (go_simp; with_reducible rfl)
        try simp only [Act.put, List.getElem_toArray, List.getElem_cons_zero, List.getElem_cons_succ, List.setIfInBounds_toArray, List.set_cons_zero, List.set_cons_succ]
        refine wpAnyH_take (i := 9) (v := ?_) rfl (by kernel_rfl) (by kernel_rfl) (by kernel_rfl) (fun _ _ _ h => h) (Or.inl ⟨by rfl, ?_⟩) (by assumption) ?_
        rotate_left
        · intro u hSu
          (try dsimp only at hSu)
          first | (go_simp; done) | (go_simp; with_reducible rfl)
        try simp only [Act.put, List.getElem_toArray, List.getElem_cons_zero, List.getElem_cons_succ, List.setIfInBounds_toArray, List.set_cons_zero, List.set_cons_succ]
        refine wpAnyH_ready (rs := [5]) (by kernel_rfl) (by simp) ?_
        refine AllReadyH.cons rfl (fun K hK => ?_) AllReadyH.nil
        go_simp
        refine (HDD1.out _ (HTB.out _ hHeld.2.2.1)).mono ?_
        rintro o w6 ⟨rfl, hb⟩
        have HP6 := Lib.hid (owns_next HP5.out hb)
        refine hK.out _ _ (hHeld.next hb) (fun hHeld2 => ?_)
        clear hK K hHeld
        have hHeld := hHeld2
        clear hHeld2
        try simp only [Act.put, List.getElem_toArray, List.getElem_cons_zero, List.getElem_cons_succ, List.setIfInBounds_toArray, List.set_cons_zero, List.set_cons_succ]
        clear hb HP5
        refine wpAnyH_take (i := 6) (v := ?_) rfl (by kernel_rfl) (by kernel_rfl) (by kernel_rfl) (fun _ _ _ h => h) (Or.inl ⟨by rfl, ?_⟩) (by assumption) ?_
        rotate_left
        · intro u hSu
          (try dsimp only at hSu)
          first | (go_simp; done) | (go_simp; with_reducible rfl)
        try simp only [Act.put, List.getElem_toArray, List.getElem_cons_zero, List.getElem_cons_succ, List.setIfInBounds_toArray, List.set_cons_zero, List.set_cons_succ]
        refine wpAnyH_ready (rs := [10]) (by kernel_rfl) (by simp) ?_
        refine AllReadyH.cons rfl (fun K hK => ?_) AllReadyH.nil
        go_simp
        refine (HDD2.out _ (HTB.out _ hHeld.2.2.1)).mono ?_
        rintro o w7 ⟨rfl, hb⟩
        have HP7 := Lib.hid (owns_next HP6.out hb)
        refine hK.out _ _ (hHeld.next hb) (fun hHeld2 => ?_)
        clear hK K hHeld
        have hHeld := hHeld2
        clear hHeld2
        try simp only [Act.put, List.getElem_toArray, List.getElem_cons_zero, List.getElem_cons_succ, List.setIfInBounds_toArray, List.set_cons_zero, List.set_cons_succ]
        clear hb HP6
        refine wpAnyH_take (i := 11) (v := ?_) rfl (by kernel_rfl) (by kernel_rfl) (by kernel_rfl) (fun _ _ _ h => h) (Or.inl ⟨by rfl, ?_⟩) (by assumption) ?_
        rotate_left
        · intro u hSu
          (try dsimp only at hSu)
          first | (go_simp; done) | (go_simp; with_reducible rfl)
        try simp only [Act.put, List.getElem_toArray, List.getElem_cons_zero, List.getElem_cons_succ, List.setIfInBounds_toArray, List.set_cons_zero, List.set_cons_succ]
        refine wpAnyH_take (i := 12) (v := ?_) rfl (by kernel_rfl) (by kernel_rfl) (by kernel_rfl) (fun _ _ _ h => h) (Or.inl ⟨by rfl, ?_⟩) (by assumption) ?_
        rotate_left
        · intro u hSu
          (try dsimp only at hSu)
          first | (go_simp; done) | (go_simp; with_reducible rfl)
        try simp only [Act.put, List.getElem_toArray, List.getElem_cons_zero, List.getElem_cons_succ, List.setIfInBounds_toArray, List.set_cons_zero, List.set_cons_succ]
        have hLL := HP7.out.1
        obtain ⟨v0, s0⟩ : ∃ v, w7.cell? ⟨g, i, none⟩ = some v := ⟨L[i]'(by omega), (HP7.out.cellAt i (by omega)).trans (List.getElem?_eq_getElem _)⟩
        have f0 := HP7.out.frozenAt i
        have HLL := Lib.hid hLL
        clear hLL
        refine wpAnyH_ready (rs := [13]) (by kernel_rfl) (by simp) ?_
        refine AllReadyH.cons rfl (fun K hK => ?_) AllReadyH.nil
        go_simp
        rw [← HCB.out]
        refine hK.out _ _ (hHeld.set HGB.out HBU.out _) (fun hHeld2 => ?_)
        clear hK K hHeld
        have hHeld := hHeld2
        clear hHeld2
        try simp only [Act.put, List.getElem_toArray, List.getElem_cons_zero, List.getElem_cons_succ, List.setIfInBounds_toArray, List.set_cons_zero, List.set_cons_succ]
        refine wpAnyH_done (by kernel_rfl) ?_ _
        go_wp2_with fail
        go_roundw
        case rel =>
          have hP8 := (HP7.out.stored i (.string (bsJ (cloT x)))).1
          have hd := HD.out.step (C := sJ) (fun _ _ => rfl) HX.out (by rw [HLL.out, List.length_map, ← En.out])
          rw [Nat.mul_one] at hd
          exact ⟨i + 1, _, by omega, by go_num, hP8, hd, hHeld.2.2.1⟩
        case measure => simp [intOf]; omega
      · obtain rfl : i = n := by omega
        have hll : (xs.map cloT).length = i := by rw [List.length_map]; exact En.out.symm
        have hL : L = (xs.map cloT).flatMap sJ := Done.full (C := sJ) (sz := 1) (by rw [hll]; exact HD.out) (fun _ _ => rfl) (by decide) (by rw [HP.out.1, hll])
        have hP2 := HP.out
        rw [hL] at hP2
        have hjl := closT_len HVL.out i (by rw [En.out]; exact Nat.le_refl _)
        have HJ : Hid (Calls Tryd.prog 66 #[.slice (some ⟨g, 0, none⟩) i i, .string ⟨#[32]⟩] wr fun o w' => o = .returned (.string (bsJ (closT xs))) ∧ Below wr.heap.size wr w') := Lib.hid (JoinJ g i _ 32 hll (by unfold closT at hjl; omega) (by omega) wr hP2 (Nat.le_refl _))
        clear hP2 hL hll hjl
        go_wp2_with fail
        refine HJ.out.mono ?_
        rintro o u3 ⟨rfl, hb3⟩
        have HB5 := Lib.hid (below_next HB3.out hb3 (Nat.le_refl _))
        clear hb3
        go_wp2_with fail
        go_ret
        exact ⟨by rw [HT2.out]; rfl, HB5.out⟩
set_option maxRecDepth 100000 in
set_option maxHeartbeats 4000000 in
theorem ClothsText_spec (A : Option Addr) (n c : Nat) (xs : List Clo) (en : n = xs.length) (hn : n ≤ 1048576) (hf : ∀ x ∈ xs, x.Fits) (w : World) (hg : Sl Clo.cells 2 w w.heap.size A xs) :
    Calls Tryd.prog 39 #[.slice A n c] w fun o w' => o = .returned (.string (cloText xs)) ∧ Below w.heap.size w w' := by
  obtain ⟨T, hT⟩ : ∃ T, cloText xs = T := ⟨_, rfl⟩
  rw [hT]
  have HT := Lib.hid hT
  have En := Lib.hid en
  obtain ⟨k0, hk0⟩ : ∃ k : Nat, k = codeMany xs 100 := ⟨_, rfl⟩
  have HK0 := Lib.hid hk0
  have HM := Lib.hid (l02Many_any A n c 100 xs en (by omega) (by omega) hf w w.heap.size hg k0 hk0)
  clear hT en hf hk0
  go_enter Tryd.func39, Tryd.ntmps39
  go_wp2_with fail
  refine HM.out.mono ?_
  rintro o u ⟨rfl, hw⟩
  obtain rfl := hw
  cases k0 with
  | succ k =>
    obtain rfl : T = ⟨#[]⟩ := by rw [← HT.out, cloText, ← HK0.out, if_neg (by omega)]
    have hne : (((k + 1 : Nat) : Int) != 0) = true := by rw [bne_iff_ne]; omega
    have hne2 : (((k : Int) + 1) != 0) = true := by rw [bne_iff_ne]; omega
    go_wp2_with fail
    go_ret
    exact ⟨rfl, Below.refl _ _⟩
  | zero =>
    obtain ⟨hval, h100⟩ := codeMany_zero HK0.out.symm
    have HV := Lib.hid hval
    obtain rfl : T = bsJ (closT xs) := by rw [← HT.out, cloText, ← HK0.out, if_pos rfl]
    rw [← En.out] at h100
    clear hval
    go_wp2_with fail
    refine (l02Text_any A n c xs En.out h100 HV.out _ hg).mono ?_
    rintro o u2 ⟨rfl, hb⟩
    go_wp2_with fail
    go_ret
    exact ⟨rfl, hb⟩
end Go.Proofs.YtjfimmfnhlimkaaDoor.hang
