/-
  Several texts of this proof, joined.
-/
import Derived.Test.YtjfimmfnhlimkaaDoorRdWea
import Derived.Test.YtjfimmfnhlimkaaDoorJoin33
import Derived.Test.YtjfimmfnhlimkaaDoorJoin25
import Derived.Test.YtjfimmfnhlimkaaDoorRdBox
import Derived.Test.YtjfimmfnhlimkaaDoorResRow
import Derived.Test.YtjfimmfnhlimkaaDoorJoin14
import Derived.OrdersHeld
import Derived.Deep.RegionHeld
import Derived.Test.YtjfimmfnhlimkaaDoorJoin27
import Derived.Test.YtjfimmfnhlimkaaDoorJoin13
/-
  A day read from a text: the model's.
-/
namespace Go.Proofs.YtjfimmfnhlimkaaDoor.rd
open Go Go.RowKit sl dec txt hang day fold rng

/-- a day that is not told -/
def noDay : List Wea := List.replicate 24 ⟨0, 0, 0⟩
theorem noDay_len : noDay.length = 24 := by simp [noDay]
theorem noDay_cells : noDay.flatMap Wea.cells = zeroCs.toList := by simp [noDay, zeroCs, List.replicate]
theorem noDay_V : (.agg zeroCs : Value) = dayV noDay := by
  rw [dayV, dayCs, noDay_cells]
/-- what is read, and its code -/
def rdW (t : List UInt8) : List Wea × Nat := match progW t with | some D => (D, 0) | none => (noDay, 5)
theorem numW_cases (p : List UInt8) : (numsF [47, 47] p = none ∧ numW p = none) ∨ ∃ a b c : Nat, numsF [47, 47] p = some [a, b, c] ∧ numW p = if a ≤ 9 ∧ b ≤ 9 ∧ c ≤ 9 then some ⟨(a : Int), (b : Int), (c : Int)⟩ else none := by
  cases hn : numsF [47, 47] p with
  | none => exact .inl ⟨rfl, by rw [numW, hn]⟩
  | some ys =>
    obtain ⟨h1, h2, h3⟩ := (numsF_iff marksW).1 hn
    match ys, h1 with
    | [a, b, c], _ => exact .inr ⟨a, b, c, rfl, by rw [numW, hn]⟩
/-- three numbers of a row -/
def N3w (g : Nat) (a b c : Int) (u : World) : Prop := u.cell? ⟨g, 0, none⟩ = some (.int .i64 a) ∧ u.cell? ⟨g, 1, none⟩ = some (.int .i64 b) ∧ u.cell? ⟨g, 2, none⟩ = some (.int .i64 c) ∧ True
theorem store_zero {u : World} {b : Nat} (h : u.there b 0 72) : (storeCells ⟨b, 0, none⟩ zeroCs.toList).run Tryd.prog u = .ok () (u.setCells b 0 zeroCs.toList) := by
  have hl : zeroCs.toList.length = 72 := by simp [zeroCs]
  exact run_storeCells_cells (P := Tryd.prog) b 0 zeroCs.toList 0 u (fun j hj => by simpa using (h j (by omega)).1) (fun j hj => by simpa using (h j (by omega)).2) (fun v hv => by simp [zeroCs] at hv; rw [hv]; rfl)
theorem stored_zero {u : World} {b : Nat} (hb : b < u.heap.size) (h : u.there b 0 72) : DayAt (u.setCells b 0 zeroCs.toList) b noDay := by
  rw [← noDay_cells]
  exact stored_day noDay_len hb h
/-- a day and a number, for results -/
theorem results_dayT {fn : Func} {s t : Nat} (hf : fn.results = #[.cell s 40, .tmp t]) {tmps : Array Value} {u : World} {b : Nat} {d : List Wea} (hd : d.length = 24) (hs : tmps.getD s undef = .pointer (some ⟨b, 0, none⟩)) (h : DayAt u b d) :
    (results fn tmps).run Tryd.prog u = .ok (.tuple #[dayV d, tmps.getD t undef]) u :=
  results_row_tmp hf hs h.row Tryd.underlying40 rfl (by rw [infoD, flat_len (Wea.len d), hd])
/-- the day that the words of a text tell, where they do -/
def wordsW (ls : List (List UInt8)) : List Wea := ls.map fun p => (numW p).getD ⟨0, 0, 0⟩
theorem wordsW_len (ls : List (List UInt8)) : (wordsW ls).length = ls.length := by simp [wordsW]
theorem wordsW_at {ls : List (List UInt8)} {i : Nat} {p : List UInt8} {y : Wea} (hp : ls[i]? = some p) (hy : numW p = some y) : (wordsW ls)[i]? = some y := by simp [wordsW, hp, hy]
theorem N3w.next {g : Nat} {a b c : Int} {u u' : World} (h : N3w g a b c u) (hb : u'.heap[g]? = u.heap[g]?) : N3w g a b c u' :=
  ⟨(World.cell?_of_block hb).trans h.1, (World.cell?_of_block hb).trans h.2.1, (World.cell?_of_block hb).trans h.2.2.1, True.intro⟩
set_option maxRecDepth 100000 in
set_option maxHeartbeats 8000000 in
theorem ReadDay_spec (s : ByteArray) (hs : s.size ≤ 1048576) (L : List Wea) (k : Nat) (hr : rdW s.data.toList = (L, k)) (w : World) :
    Calls Tryd.prog 26 #[.string s] w fun o w' => o = .returned (.tuple #[dayV L, .int .i64 k]) ∧ Below w.heap.size w w' := by
  rw [rdW, progW_eq, specW] at hr
  have hzz : ∀ u : World, (zeroValue 40).run Tryd.prog u = .ok (.agg zeroCs) u := (zero_of_info zeroD).1
  obtain ⟨ls, hls⟩ : ∃ ls, splitB 32 s.data.toList = ls := ⟨_, rfl⟩
  rw [hls] at hr
  have hsp : ∀ u : World, Calls Tryd.prog 68 #[.string s, .int .u8 32] u fun o w' => ∃ v, o = .returned v ∧ w'.ownsRow u.heap.size 9 1 v ls.length (ls.flatMap sJ) ∧ Below u.heap.size u w' := fun u => by
    have h := l01Split_any s hs 32 u
    rw [hls] at h
    exact h
  have HSP := Lib.hid hsp
  have HLL : Hid (ls.length ≤ 1048577) := Lib.hid (by
    have h := splitB_len 32 s.data.toList
    rw [hls, len_list] at h
    omega)
  have HPL : Hid (∀ p ∈ ls, p.length ≤ 1048576) := Lib.hid (fun p hp => by
    rw [← hls] at hp
    have h := piece_len 32 hp
    rw [len_list] at h
    omega)
  clear hsp hls
  obtain ⟨n, hn⟩ : ∃ n, ls.length = n := ⟨_, rfl⟩
  rw [hn] at hr
  have O0 := Lib.hid (OwnD.new zeroCs zeroCs_size (B := w.heap.size) w (Nat.le_refl _))
  have HB0 : Hid (Below w.heap.size w (w.alloc (.cells zeroCs 40))) := Lib.hid ((Below.refl _ _).alloc (Nat.le_refl _) _)
  go_enter Tryd.func26, Tryd.ntmps26
  go_wp2_with fail
  refine (HSP.out _).mono ?_
  rintro o w1 ⟨wv, rfl, hP, hb1⟩
  obtain ⟨Aw, cw, rfl, _⟩ := owns_slice hP
  rw [hn] at hP ⊢
  have HW1 := Lib.hid (owns_low hP (b0 := w.heap.size) (by simp))
  have O1 := Lib.hid (owns_next O0.out hb1)
  have HB1 := Lib.hid (below_next HB0.out hb1 (by simp))
  clear hP hb1 O0 HB0
  by_cases h24 : n = 24
  · rw [if_pos h24] at hr
    subst h24
    have HR := Lib.hid hr
    clear hr
    go_wp2_with fail
    have hfail : True := True.intro
    have O5 := Lib.hid (OwnD.new zeroCs zeroCs_size (B := w.heap.size) w1 HB1.out.size)
    have O1b := Lib.hid (owns_next O1.out ((Below.refl w1.heap.size w1).alloc (Nat.le_refl _) (.cells zeroCs 40)))
    have HW1b := Lib.hid (owns_next HW1.out ((Below.refl w1.heap.size w1).alloc (Nat.le_refl _) (.cells zeroCs 40)))
    have HB1b := Lib.hid (HB1.out.alloc HB1.out.size (.cells zeroCs 40))
    have hlt5 : w.heap.size < w1.heap.size := by have := HB1.out.size; have h2 := (O1.out.lt _ rfl).2; exact h2
    clear hfail O1 HW1 HB1
    generalize w1.heap.size = g5 at O5 O1b HW1b HB1b hlt5 ⊢
    go_wp2_with (first | (rw [store_zero (OwnD.there O5.out)]) | fail)
    have OS := owns_cells (o := 0) (vs := zeroCs.toList) O5.out
    have O5s := Lib.hid OS.1
    have hg5 := OS.2
    have O1s := Lib.hid (owns_other O1b.out hg5 (fun k hk => by have : w.heap.size = k := Option.some.inj hk; omega))
    have HWs := Lib.hid (owns_other HW1b.out hg5 (fun k hk e => owns_apart HW1b.out O5.out (by decide) k hk (by rw [e]; rfl)))
    have HBs := Lib.hid (below_cells HB1b.out (g := g5) (by omega) zeroCs.toList 0)
    clear OS hg5 O5 O1b HW1b HB1b
    generalize (w1.alloc (.cells zeroCs 40)).setCells g5 0 zeroCs.toList = W5 at O5s O1s HWs HBs ⊢
    go_wp2_with fail
    go_loopw [6, 7, 8] (fun vi vn vk wr => ∃ (i : Nat) (L5 : List Value), i ≤ 24 ∧ vi = .int .i64 (i : Nat) ∧ readL numW (ls.take i) = some ((wordsW ls).take i) ∧ OwnD wr w.heap.size w.heap.size zeroCs.toList ∧ OwnD wr w.heap.size g5 L5 ∧ Done Wea.cells 3 (wordsW ls) i L5 ∧ wr.ownsRow w.heap.size 9 1 (.slice Aw 24 cw) 24 (ls.flatMap sJ) ∧ Below w.heap.size w wr) (fun vi _ _ _ => 24 - (intOf vi).toNat)
    case atStart => exact ⟨0, _, by omega, rfl, rfl, O1s.out, O5s.out, Done.zero _ _ _ _, HWs.out, HBs.out⟩
    case round =>
      clear O1s O5s HWs HBs
      obtain ⟨i, L5, hi, rfl, hD, hO1, hO5, hDn, hW, hB⟩ := hrel
      have HD := Lib.hid hD
      have HO1 := Lib.hid hO1
      have HO5 := Lib.hid hO5
      have HDN := Lib.hid hDn
      have HW := Lib.hid hW
      have HB := Lib.hid hB
      clear hD hO1 hO5 hDn hW hB
      by_cases hlt : i < 24
      · obtain ⟨p, hp⟩ : ∃ p, ls[i]? = some p := ⟨ls[i]'(by omega), List.getElem?_eq_getElem _⟩
        obtain ⟨gw, rfl, hgw, hcw⟩ := owns_str HW.out hp
        have hplen := HPL.out p (List.mem_of_getElem? hp)
        have hpd : (bsJ p).data.toList = p := by simp
        have HNU := Lib.hid (l01Numbers_any (bsJ p) ⟨#[47, 47]⟩ (by rw [bsJ_size]; exact hplen) (by decide) wr)
        have hmk : (⟨#[47, 47]⟩ : ByteArray).data.toList = [47, 47] := rfl
        rw [hpd, hmk] at HNU
        have htk : ls.take (i + 1) = ls.take i ++ [p] := by rw [List.take_add_one, hp]; rfl
        have HTK := Lib.hid htk
        have HPP := Lib.hid hp
        have hnone : numW p = none → L = noDay ∧ k = 5 := fun hn2 => by
          have h1 : readL numW ls = none := readL_prefix (pre := ls.take (i + 1)) (by rw [htk, readL_snoc, HD.out, hn2]) (List.take_prefix _ _)
          have h2 := HR.out
          rw [h1] at h2
          obtain ⟨rfl, rfl⟩ := Prod.mk.inj h2
          exact ⟨rfl, rfl⟩
        have HNONE := Lib.hid hnone
        clear hp hpd hmk htk hplen hnone
        go_wp2_with fail
        refine HNU.out.mono ?_
        rintro o w2 ⟨nv, ys, rfl, hys, hPn, hb2⟩
        have HB2 := Lib.hid (below_next HB.out hb2 (Nat.le_refl _))
        have HO12 := Lib.hid (owns_next HO1.out hb2)
        have HO52 := Lib.hid (owns_next HO5.out hb2)
        have HW2 := Lib.hid (owns_next HW.out hb2)
        have HG5L := Lib.hid ((HO5.out.lt _ rfl).2)
        clear HNU hb2 HB HO1 HO5 HW
        rcases numW_cases p with ⟨hn1, hn2⟩ | ⟨a, b, c, hn1, hn2⟩
        · rw [hn1]
          obtain ⟨rfl, rfl⟩ := HNONE.out hn2
          clear hn1 hn2 hys hPn HR HNONE
          go_wp2_with (first | (rw [store_zero (OwnD.there HO12.out)]) | fail)
          refine bodyPost_ret (v := .tuple #[dayV noDay, .int .i64 5]) (results_dayT (b := w.heap.size) Tryd.results26 noDay_len rfl (stored_zero (HO12.out.lt _ rfl).2 (OwnD.there HO12.out))) rfl ⟨rfl, below_cells HB2.out (Nat.le_refl _) _ _⟩
        · rw [hn1]
          obtain rfl := hys _ hn1
          obtain ⟨g, cap, rfl⟩ := ownsRow_succ (k := 2) hPn
          obtain ⟨_, e0, hgn, q0⟩ := owns_int (i := 0) hPn rfl
          obtain rfl : g = _ := by injection e0 with e0; injection e0
          obtain ⟨_, e1, _, q1⟩ := owns_int (i := 1) hPn rfl
          obtain rfl : g = _ := by injection e1 with e1; injection e1
          obtain ⟨_, e2, _, q2⟩ := owns_int (i := 2) hPn rfl
          obtain rfl : g = _ := by injection e2 with e2; injection e2
          clear e0 e1 e2 hys hPn
          by_cases hok : a ≤ 9 ∧ b ≤ 9 ∧ c ≤ 9
          · rw [if_pos hok] at hn2
            have HX : Hid ((wordsW ls)[i]? = some ⟨(a : Int), (b : Int), (c : Int)⟩) := Lib.hid (wordsW_at HPP.out hn2)
            have HNX : Hid (readL numW (ls.take (i + 1)) = some ((wordsW ls).take (i + 1))) := Lib.hid (by
              rw [HTK.out, readL_snoc, HD.out, hn2, List.take_add_one, HX.out]
              rfl)
            have d1 : decide ((a : Int) > 9) = false := decide_eq_false (by omega)
            have d2 : decide ((b : Int) > 9) = false := decide_eq_false (by omega)
            have d3 : decide ((c : Int) > 9) = false := decide_eq_false (by omega)
            have hwa : IntKind.wrap .i8 (a : Int) = (a : Int) := wrap_fits8 (by omega) (by omega)
            have hwb : IntKind.wrap .i8 (b : Int) = (b : Int) := wrap_fits8 (by omega) (by omega)
            have hwc : IntKind.wrap .i8 (c : Int) = (c : Int) := wrap_fits8 (by omega) (by omega)
            have HNB := Lib.hid (show N3w g (a : Int) (b : Int) (c : Int) w2 from ⟨q0, q1, q2, True.intro⟩)
            have HGN : Hid (g ≠ g5) := Lib.hid (by have h9 : g5 < wr.heap.size := HG5L.out; omega)
            clear hn1 hn2 hok
            go_wp2_with fail
            refine wp_region_held_drew (S := N3w g (a : Int) (b : Int) (c : Int)) (by kernel_rfl) HNB.out (fun hHeld => ?_)
            have hO1 := owns_next HO12.out (Below.refl _ _).drew
            have hO5 := owns_next HO52.out (Below.refl _ _).drew
            have hW8 := owns_next HW2.out (Below.refl _ _).drew
            have hB8 := HB2.out.drew
            generalize w2.drew = w8 at hHeld hO1 hO5 hW8 hB8 ⊢
            clear HNB HO12 HO52 HW2 HB2 q0 q1 q2
            have HO1 := Lib.hid hO1
            have HO5 := Lib.hid hO5
            have HW8 := Lib.hid hW8
            have HB8 := Lib.hid hB8
            clear hO1 hO5 hW8 hB8
            refine wpAnyH_take (i := 0) (v := ?_) rfl (by kernel_rfl) (by kernel_rfl) (by kernel_rfl) (fun _ _ _ h => h) (Or.inl ⟨by rfl, ?_⟩) (by assumption) ?_
            rotate_left
            · intro u hSu
              (try dsimp only at hSu)
              first | (go_simp; done) | (go_simp; with_reducible rfl)
            try simp only [Act.put, List.getElem_toArray, List.getElem_cons_zero, List.setIfInBounds_toArray, List.set_cons_zero, List.set_cons_succ]
            refine wpAnyH_take (i := 1) (v := ?_) rfl (by kernel_rfl) (by kernel_rfl) (by kernel_rfl) (fun _ _ _ h => h) (Or.inl ⟨by rfl, ?_⟩) (by assumption) ?_
            rotate_left
            · intro u hSu
              (try dsimp only at hSu)
              first | (go_simp; done) | (go_simp; with_reducible rfl)
            try simp only [Act.put, List.getElem_toArray, List.getElem_cons_zero, List.getElem_cons_succ, List.setIfInBounds_toArray, List.set_cons_zero, List.set_cons_succ]
            refine wpAnyH_take (i := 2) (v := ?_) rfl (by kernel_rfl) (by kernel_rfl) (by kernel_rfl) (fun _ _ _ h => h) (Or.inl ⟨by rfl, ?_⟩) (by assumption) ?_
            rotate_left
            · intro u hSu
              (try dsimp only at hSu)
              first | (go_simp; done) | (go_simp; with_reducible rfl)
            try simp only [Act.put, List.getElem_toArray, List.getElem_cons_zero, List.getElem_cons_succ, List.setIfInBounds_toArray, List.set_cons_zero, List.set_cons_succ]
            refine wpAnyH_take (i := 3) (v := ?_) rfl (by kernel_rfl) (by kernel_rfl) (by kernel_rfl) (fun _ _ _ h => h) (Or.inl ⟨by rfl, ?_⟩) (by assumption) ?_
            rotate_left
            · intro u hSu
              obtain ⟨qa, qb, qc, _⟩ := hSu
              first | (go_simp; done) | (go_simp; with_reducible rfl)
            try simp only [Act.put, List.getElem_toArray, List.getElem_cons_zero, List.getElem_cons_succ, List.setIfInBounds_toArray, List.set_cons_zero, List.set_cons_succ]
            refine wpAnyH_take (i := 4) (v := ?_) rfl (by kernel_rfl) (by kernel_rfl) (by kernel_rfl) (fun _ _ _ h => h) (Or.inl ⟨by rfl, ?_⟩) (by assumption) ?_
            rotate_left
            · intro u hSu
              (try dsimp only at hSu)
              first | (go_simp; done) | (go_simp; with_reducible rfl)
            try simp only [Act.put, List.getElem_toArray, List.getElem_cons_zero, List.getElem_cons_succ, List.setIfInBounds_toArray, List.set_cons_zero, List.set_cons_succ]
            refine wpAnyH_take (i := 5) (v := ?_) rfl (by kernel_rfl) (by kernel_rfl) (by kernel_rfl) (fun _ _ _ h => h) (Or.inl ⟨by rfl, ?_⟩) (by assumption) ?_
            rotate_left
            · intro u hSu
              (try dsimp only at hSu)
              first | (go_simp; done) | (go_simp; with_reducible rfl)
            try simp only [Act.put, List.getElem_toArray, List.getElem_cons_zero, List.getElem_cons_succ, List.setIfInBounds_toArray, List.set_cons_zero, List.set_cons_succ]
            refine wpAnyH_take (i := 6) (v := ?_) rfl (by kernel_rfl) (by kernel_rfl) (by kernel_rfl) (fun _ _ _ h => h) (Or.inl ⟨by rfl, ?_⟩) (by assumption) ?_
            rotate_left
            · intro u hSu
              (try dsimp only at hSu)
              first | (go_simp; done) | (go_simp; with_reducible rfl)
            try simp only [Act.put, List.getElem_toArray, List.getElem_cons_zero, List.getElem_cons_succ, List.setIfInBounds_toArray, List.set_cons_zero, List.set_cons_succ]
            refine wpAnyH_take (i := 7) (v := ?_) rfl (by kernel_rfl) (by kernel_rfl) (by kernel_rfl) (fun _ _ _ h => h) (Or.inl ⟨by rfl, ?_⟩) (by assumption) ?_
            rotate_left
            · intro u hSu
              obtain ⟨qa, qb, qc, _⟩ := hSu
              first | (go_simp; done) | (go_simp; with_reducible rfl)
            try simp only [Act.put, List.getElem_toArray, List.getElem_cons_zero, List.getElem_cons_succ, List.setIfInBounds_toArray, List.set_cons_zero, List.set_cons_succ]
            refine wpAnyH_take (i := 8) (v := ?_) rfl (by kernel_rfl) (by kernel_rfl) (by kernel_rfl) (fun _ _ _ h => h) (Or.inl ⟨by rfl, ?_⟩) (by assumption) ?_
            rotate_left
            · intro u hSu
              (try dsimp only at hSu)
              first | (go_simp; done) | (go_simp; with_reducible rfl)
            try simp only [Act.put, List.getElem_toArray, List.getElem_cons_zero, List.getElem_cons_succ, List.setIfInBounds_toArray, List.set_cons_zero, List.set_cons_succ]
            refine wpAnyH_take (i := 9) (v := ?_) rfl (by kernel_rfl) (by kernel_rfl) (by kernel_rfl) (fun _ _ _ h => h) (Or.inl ⟨by rfl, ?_⟩) (by assumption) ?_
            rotate_left
            · intro u hSu
              (try dsimp only at hSu)
              first | (go_simp; done) | (go_simp; with_reducible rfl)
            try simp only [Act.put, List.getElem_toArray, List.getElem_cons_zero, List.getElem_cons_succ, List.setIfInBounds_toArray, List.set_cons_zero, List.set_cons_succ]
            refine wpAnyH_take (i := 10) (v := ?_) rfl (by kernel_rfl) (by kernel_rfl) (by kernel_rfl) (fun _ _ _ h => h) (Or.inl ⟨by rfl, ?_⟩) (by assumption) ?_
            rotate_left
            · intro u hSu
              (try dsimp only at hSu)
              first | (go_simp; done) | (go_simp; with_reducible rfl)
            try simp only [Act.put, List.getElem_toArray, List.getElem_cons_zero, List.getElem_cons_succ, List.setIfInBounds_toArray, List.set_cons_zero, List.set_cons_succ]
            refine wpAnyH_take (i := 11) (v := ?_) rfl (by kernel_rfl) (by kernel_rfl) (by kernel_rfl) (fun _ _ _ h => h) (Or.inl ⟨by rfl, ?_⟩) (by assumption) ?_
            rotate_left
            · intro u hSu
              obtain ⟨qa, qb, qc, _⟩ := hSu
              first | (go_simp; done) | (go_simp; with_reducible rfl)
            try simp only [Act.put, List.getElem_toArray, List.getElem_cons_zero, List.getElem_cons_succ, List.setIfInBounds_toArray, List.set_cons_zero, List.set_cons_succ]
            refine wpAnyH_take (i := 12) (v := ?_) rfl (by kernel_rfl) (by kernel_rfl) (by kernel_rfl) (fun _ _ _ h => h) (Or.inl ⟨by rfl, ?_⟩) (by assumption) ?_
            rotate_left
            · intro u hSu
              (try dsimp only at hSu)
              first | (go_simp; done) | (go_simp; with_reducible rfl)
            try simp only [Act.put, List.getElem_toArray, List.getElem_cons_zero, List.getElem_cons_succ, List.setIfInBounds_toArray, List.set_cons_zero, List.set_cons_succ]
            refine wpAnyH_take (i := 13) (v := ?_) rfl (by kernel_rfl) (by kernel_rfl) (by kernel_rfl) (fun _ _ _ h => h) (Or.inl ⟨by rfl, ?_⟩) (by assumption) ?_
            rotate_left
            · intro u hSu
              (try dsimp only at hSu)
              first | (go_simp; done) | (go_simp; with_reducible rfl)
            try simp only [Act.put, List.getElem_toArray, List.getElem_cons_zero, List.getElem_cons_succ, List.setIfInBounds_toArray, List.set_cons_zero, List.set_cons_succ]
            refine wpAnyH_take (i := 14) (v := ?_) rfl (by kernel_rfl) (by kernel_rfl) (by kernel_rfl) (fun _ _ _ h => h) (Or.inl ⟨by rfl, ?_⟩) (by assumption) ?_
            rotate_left
            · intro u hSu
              (try dsimp only at hSu)
              first | (go_simp; done) | (go_simp; with_reducible rfl)
            try simp only [Act.put, List.getElem_toArray, List.getElem_cons_zero, List.getElem_cons_succ, List.setIfInBounds_toArray, List.set_cons_zero, List.set_cons_succ]
            have hLL := HO5.out.1
            obtain ⟨v0, s0⟩ : ∃ v, w8.cell? ⟨g5, i * 3, none⟩ = some v := ⟨L5[i * 3]'(by omega), (HO5.out.cellAt (i * 3) (by omega)).trans (List.getElem?_eq_getElem _)⟩
            have f0 := HO5.out.frozenAt (i * 3)
            obtain ⟨v1, s1⟩ : ∃ v, w8.cell? ⟨g5, i * 3 + 1, none⟩ = some v := ⟨L5[i * 3 + 1]'(by omega), (HO5.out.cellAt (i * 3 + 1) (by omega)).trans (List.getElem?_eq_getElem _)⟩
            have f1 := HO5.out.frozenAt (i * 3 + 1)
            obtain ⟨v2, s2⟩ : ∃ v, w8.cell? ⟨g5, i * 3 + 2, none⟩ = some v := ⟨L5[i * 3 + 2]'(by omega), (HO5.out.cellAt (i * 3 + 2) (by omega)).trans (List.getElem?_eq_getElem _)⟩
            have f2 := HO5.out.frozenAt (i * 3 + 2)
            have HLL := Lib.hid hLL
            have HS0 := Lib.hid hHeld
            clear hLL
            have hbl : (((w8.setCell ⟨g5, i * 3, none⟩ (.int .i8 (a : Int))).setCell ⟨g5, i * 3 + 1, none⟩ (.int .i8 (b : Int))).setCell ⟨g5, i * 3 + 2, none⟩ (.int .i8 (c : Int))).heap[g]? = w8.heap[g]? := (Below.heap_setCell _ _ _ g HGN.out).trans ((Below.heap_setCell _ _ _ g HGN.out).trans (Below.heap_setCell _ _ _ g HGN.out))
            refine wpAnyH_ready (rs := [15]) (by kernel_rfl) (by simp) ?_
            refine AllReadyH.cons rfl (fun K hK => ?_) AllReadyH.nil
            go_simp
            refine hK.out _ _ (HS0.out.next hbl) (fun hHeld2 => ?_)
            clear hK K hHeld
            have hHeld := hHeld2
            clear hHeld2
            try simp only [Act.put, List.getElem_toArray, List.getElem_cons_zero, List.getElem_cons_succ, List.setIfInBounds_toArray, List.set_cons_zero, List.set_cons_succ]
            refine wpAnyH_done (by kernel_rfl) ?_ _
            clear hHeld hbl s0 s1 s2 f0 f1 f2
            go_wp2_with fail
            go_roundw
            case rel =>
              obtain ⟨hO3, hg3⟩ := owns_cells (o := i * 3) (vs := (⟨(a : Int), (b : Int), (c : Int)⟩ : Wea).cells) HO5.out
              exact ⟨i + 1, _, by omega, by go_num, HNX.out, owns_other HO1.out hg3 (fun k hk => by have : w.heap.size = k := Option.some.inj hk; omega), hO3, HDN.out.step (Wea.len _) HX.out (by rw [HLL.out, wordsW_len, hn]), owns_other HW8.out hg3 (fun k hk e => owns_apart HW8.out HO5.out (by decide) k hk (by rw [e]; rfl)), below_cells HB8.out (by omega) (⟨(a : Int), (b : Int), (c : Int)⟩ : Wea).cells (i * 3)⟩
            case measure => simp [intOf]; omega
          · rw [if_neg hok] at hn2
            obtain ⟨rfl, rfl⟩ := HNONE.out hn2
            clear hn1 hn2 HR HNONE
            by_cases ha : a ≤ 9
            · have d1 : decide ((a : Int) > 9) = false := decide_eq_false (by omega)
              by_cases hb : b ≤ 9
              · have d2 : decide ((b : Int) > 9) = false := decide_eq_false (by omega)
                have d3 : decide ((c : Int) > 9) = true := decide_eq_true (by omega)
                clear hok ha hb
                go_wp2_with (first | (rw [store_zero (OwnD.there HO12.out)]) | fail)
                refine bodyPost_ret (v := .tuple #[dayV noDay, .int .i64 5]) (results_dayT (b := w.heap.size) Tryd.results26 noDay_len rfl (stored_zero (HO12.out.lt _ rfl).2 (OwnD.there HO12.out))) rfl ⟨rfl, below_cells HB2.out (Nat.le_refl _) _ _⟩
              · have d2 : decide ((b : Int) > 9) = true := decide_eq_true (by omega)
                clear hok ha hb
                go_wp2_with (first | (rw [store_zero (OwnD.there HO12.out)]) | fail)
                refine bodyPost_ret (v := .tuple #[dayV noDay, .int .i64 5]) (results_dayT (b := w.heap.size) Tryd.results26 noDay_len rfl (stored_zero (HO12.out.lt _ rfl).2 (OwnD.there HO12.out))) rfl ⟨rfl, below_cells HB2.out (Nat.le_refl _) _ _⟩
            · have d1 : decide ((a : Int) > 9) = true := decide_eq_true (by omega)
              clear hok ha
              go_wp2_with (first | (rw [store_zero (OwnD.there HO12.out)]) | fail)
              refine bodyPost_ret (v := .tuple #[dayV noDay, .int .i64 5]) (results_dayT (b := w.heap.size) Tryd.results26 noDay_len rfl (stored_zero (HO12.out.lt _ rfl).2 (OwnD.there HO12.out))) rfl ⟨rfl, below_cells HB2.out (Nat.le_refl _) _ _⟩
      · obtain rfl : i = 24 := by omega
        have hlen : (wordsW ls).length = 24 := by rw [wordsW_len, hn]
        have htk : ls.take 24 = ls := List.take_of_length_le (by omega)
        have htk2 : (wordsW ls).take 24 = wordsW ls := List.take_of_length_le (by omega)
        have hres := HD.out
        rw [htk, htk2] at hres
        have hr := HR.out
        rw [hres] at hr
        obtain ⟨rfl, rfl⟩ := Prod.mk.inj hr
        have hfull : L5 = (wordsW ls).flatMap Wea.cells := Done.full (by rw [hlen]; exact HDN.out) (Wea.len _) (by omega) (by rw [HO5.out.1, hlen])
        subst hfull
        have hA := Lib.hid (OwnD.of _ HO5.out)
        have hT := Lib.hid (OwnD.there HO1.out)
        have hSt := Lib.hid (stored_day hlen (HO1.out.lt _ rfl).2 (OwnD.there HO1.out))
        have HLEN := Lib.hid hlen
        clear htk htk2 hres hr hlen HR
        go_wp2_with (first | (refine wpl_load_day rfl (.tmp 5) rfl g5 rfl HLEN.out hA.out ?_) | (refine wpl_store_day rfl (.tmp 2) (.tmp 64) rfl w.heap.size rfl HLEN.out rfl hT.out ?_))
        refine bodyPost_ret (v := .tuple #[dayV (wordsW ls), .int .i64 0]) (results_dayT (b := w.heap.size) Tryd.results26 HLEN.out rfl hSt.out) rfl ⟨rfl, below_cells HB.out (Nat.le_refl _) _ _⟩
  · rw [if_neg h24] at hr
    obtain ⟨rfl, rfl⟩ := Prod.mk.inj hr
    have hne : ((n : Int) != 24) = true := by rw [bne_iff_ne]; omega
    clear hr h24
    go_wp2_with fail
    go_wp2_with (first | (rw [store_zero (OwnD.there O1.out)]) | fail)
    refine bodyPost_ret (v := .tuple #[dayV noDay, .int .i64 5]) (results_dayT (b := w.heap.size) Tryd.results26 noDay_len rfl (stored_zero (O1.out.lt _ rfl).2 (OwnD.there O1.out))) rfl ⟨rfl, below_cells HB1.out (Nat.le_refl _) _ _⟩
end Go.Proofs.YtjfimmfnhlimkaaDoor.rd

/-
  One weather read from a text: the program's readWeather.
-/
namespace Go.Proofs.YtjfimmfnhlimkaaDoor.rd
open Go Go.RowKit Go.Shelf sl dec txt errs rng hang day

/-- a block of three cells that a call has laid -/
theorem there_three {u : World} {b : Nat} {v0 v1 v2 : Value} {T : TypeId} (h : u.heap[b]? = some (.cells #[v0, v1, v2] T (0, 0))) : u.there b 0 3 := fun j hj => by
  have hf : ∀ k, u.frozen? ⟨b, k, none⟩ = false := fun k => by unfold World.frozen?; rw [h]; simp
  refine ⟨?_, hf _⟩
  match j, hj with
  | 0, _ => rw [cell_of_row _ _ _ _ _ _ h]; rfl
  | 1, _ => rw [cell_of_row _ _ _ _ _ _ h]; rfl
  | 2, _ => rw [cell_of_row _ _ _ _ _ _ h]; rfl
/-- a cell that a region does not touch -/
def G1 (p : Addr) (v : Value) (u : World) : Prop := u.cell? p = some v ∧ True ∧ True
set_option maxRecDepth 100000 in
set_option maxHeartbeats 8000000 in
theorem readWeather_any (p : List UInt8) (hp : p.length ≤ 1048576) {w : World} {B : Nat} {e : Nat → Addr} (h : Errs w B e) (hn : NE w B) (hB : B ≤ w.heap.size) (R : Option Wea) (hR : readW p = R) :
    Calls Tryd.prog 127 #[.string (bsJ p)] w fun o w' => ((R = none ∧ o = .returned (.tuple #[Wea.v ⟨0, 0, 0⟩, errV (e 4)])) ∨ ∃ y, R = some y ∧ o = .returned (.tuple #[Wea.v y, .nilIface])) ∧ Below w.heap.size w w' := by
  have HR := Lib.hid hR
  have HE := Lib.hid (fun (u : World) (hu : Below w.heap.size w u) => h.below (hu.mono hB))
  have HNE := Lib.hid (fun (u : World) (hu : Below w.heap.size w u) => hn.below (hu.mono hB))
  have hpd : (bsJ p).data.toList = p := by simp
  have hcut := cut_any (bsJ p) 47 (by rw [bsJ_size]; exact hp)
  rw [hpd] at hcut
  have l1 := Nat.le_trans (cutA_len 47 p) hp
  have l2 := Nat.le_trans (cutZ_len 47 p) hp
  have hqd : (bsJ (cutZ 47 p)).data.toList = cutZ 47 p := by simp
  have hcut2 := cut_any (bsJ (cutZ 47 p)) 47 (by rw [bsJ_size]; exact l2)
  rw [hqd] at hcut2
  have l3 := Nat.le_trans (cutA_len 47 (cutZ 47 p)) l2
  have l4 := Nat.le_trans (cutZ_len 47 (cutZ 47 p)) l2
  have hg0 : ¬ 0 = w.heap.size := by have h1 := (HE.out _ (Below.refl _ _)).size; omega
  have HRR := Lib.hid (show readW p = match intK 8 (cutA 47 p), intK 8 (cutA 47 (cutZ 47 p)), intK 8 (cutZ 47 (cutZ 47 p)) with | some a, some b, some c => some ⟨a, b, c⟩ | _, _, _ => none from rfl)
  generalize cutA 47 p = pa at hcut l1 HRR
  generalize cutA 47 (cutZ 47 p) = pb at hcut2 l3 HRR
  generalize cutZ 47 (cutZ 47 p) = pc at hcut2 l4 HRR
  generalize cutZ 47 p = pz at hcut hcut2 l2 
  clear hR h hn hpd hqd
  go_enter Tryd.func127, Tryd.ntmps127
  go_wp2_with fail
  obtain ⟨W0, hW0⟩ : ∃ W0, W0 = w.alloc (.cells #[.int .i8 0, .int .i8 0, .int .i8 0] 38) := ⟨_, rfl⟩
  rw [← hW0]
  have hb0 : Hid (W0.heap[w.heap.size]? = some (.cells #[.int .i8 0, .int .i8 0, .int .i8 0] 38 (0, 0))) := Lib.hid (by rw [hW0]; exact World.alloc_heap_new w _)
  have H0 : Hid (Below w.heap.size w W0) := Lib.hid (by rw [hW0]; exact (Below.refl _ _).alloc (Nat.le_refl _) _)
  have hsz0 : w.heap.size < W0.heap.size := by rw [hW0]; simp
  clear hW0
  refine (hcut _).mono ?_
  rintro o w1 ⟨⟨f1, rfl⟩, hb1⟩
  have B1 := Lib.hid hb1
  clear hb1 hcut
  go_wp2_with fail
  refine (hcut2 _).mono ?_
  rintro o w2 ⟨⟨f2, rfl⟩, hb2⟩
  have B2 := Lib.hid (B1.out.trans (hb2.mono B1.out.size))
  clear hb2 hcut2 B1
  go_wp2_with fail
  refine (parseI_8 (bsJ pa) (by rw [bsJ_size]; exact l1) _ (HNE.out _ (below_next H0.out B2.out (Nat.le_refl _)))).mono ?_
  rintro o w3 ⟨⟨v1, er1, rfl, hv1⟩, hb3⟩
  have B3 := Lib.hid (B2.out.trans (hb3.mono B2.out.size))
  clear hb3 B2
  go_wp2_with fail
  refine (parseI_8 (bsJ pb) (by rw [bsJ_size]; exact l3) _ (HNE.out _ (below_next H0.out B3.out (Nat.le_refl _)))).mono ?_
  rintro o w4 ⟨⟨v2, er2, rfl, hv2⟩, hb4⟩
  have B4 := Lib.hid (B3.out.trans (hb4.mono B3.out.size))
  clear hb4 B3
  go_wp2_with fail
  refine (parseI_8 (bsJ pc) (by rw [bsJ_size]; exact l4) _ (HNE.out _ (below_next H0.out B4.out (Nat.le_refl _)))).mono ?_
  rintro o w5 ⟨⟨v3, er3, rfl, hv3⟩, hb5⟩
  have B5 := Lib.hid (B4.out.trans (hb5.mono B4.out.size))
  clear hb5 B4
  simp only [] at hv1 hv2 hv3
  have HV1 := Lib.hid hv1
  have HV2 := Lib.hid hv2
  have HV3 := Lib.hid hv3
  clear hv1 hv2 hv3
  go_wp2_with (first | (refine wpList_listed rfl 178 3 _ rfl #[(0, errO er1), (1, errO er2), (2, errO er3)] ?hp (errO_slice3 er1 er2 er3 _) ?_; case hp => simp [Act.eval]) | fail)
  refine (firstOf_three er1 er2 er3 w5).mono ?_
  rintro o w6 ⟨rfl, hw6⟩
  have B6 := Lib.hid (show Below W0.heap.size W0 w6 by rw [← hw6]; exact B5.out.alloc B5.out.size _)
  have HB6 := Lib.hid (below_next H0.out B6.out (Nat.le_refl _))
  have hrow : Hid (w6.heap[w.heap.size]? = some (.cells #[.int .i8 0, .int .i8 0, .int .i8 0] 38 (0, 0))) := Lib.hid ((B6.out.block _ hsz0).trans hb0.out)
  clear hw6 B5 B6 hb0 H0
  cases hf : firstO [er1, er2, er3] with
  | none =>
    have hall := firstO_none.1 hf
    obtain rfl := hall er1 (by simp)
    obtain rfl := hall er2 (by simp)
    obtain rfl := hall er3 (by simp)
    have e1 : intK 8 pa = some v1 := by rcases HV1.out with h | h; exact h.1; exact absurd rfl h.2
    have e2 : intK 8 pb = some v2 := by rcases HV2.out with h | h; exact h.1; exact absurd rfl h.2
    have e3 : intK 8 pc = some v3 := by rcases HV3.out with h | h; exact h.1; exact absurd rfl h.2
    have HY : Hid (R = some ⟨v1, v2, v3⟩) := Lib.hid (by rw [← HR.out, HRR.out, e1, e2, e3])
    have k1 : -128 ≤ v1 ∧ v1 < 128 := intK_fits e1
    have k2 : -128 ≤ v2 ∧ v2 < 128 := intK_fits e2
    have k3 : -128 ≤ v3 ∧ v3 < 128 := intK_fits e3
    have x1 : IntKind.wrap .i8 v1 = v1 := wrap_fits8 (by omega) (by omega)
    have x2 : IntKind.wrap .i8 v2 = v2 := wrap_fits8 (by omega) (by omega)
    have x3 : IntKind.wrap .i8 v3 = v3 := wrap_fits8 (by omega) (by omega)
    have c0 : w6.cell? ⟨w.heap.size, 0, none⟩ = some (.int .i8 0) := cell_of_row _ _ _ _ _ _ hrow.out
    have c1 : w6.cell? ⟨w.heap.size, 1, none⟩ = some (.int .i8 0) := cell_of_row _ _ _ _ _ _ hrow.out
    have c2 : w6.cell? ⟨w.heap.size, 2, none⟩ = some (.int .i8 0) := cell_of_row _ _ _ _ _ _ hrow.out
    have f0 : w6.frozen? ⟨w.heap.size, 0, none⟩ = false := by unfold World.frozen?; rw [hrow.out]; rfl
    have f1 : w6.frozen? ⟨w.heap.size, 1, none⟩ = false := by unfold World.frozen?; rw [hrow.out]; rfl
    have f2 : w6.frozen? ⟨w.heap.size, 2, none⟩ = false := by unfold World.frozen?; rw [hrow.out]; rfl
    clear HV1 HV2 HV3 HRR HR hf hall e1 e2 e3 k1 k2 k3
    have HTH := Lib.hid (there_three hrow.out)
    have hb7 := Lib.hid (below_cells HB6.out (Nat.le_refl _) [.int .i8 v1, .int .i8 v2, .int .i8 v3] 0)
    simp only [errO]
    go_wp2_with fail
    refine bodyPost_ret (v := .tuple #[Wea.v ⟨v1, v2, v3⟩, .nilIface]) (results_row_tmp (u := w6.setCells w.heap.size 0 [.int .i8 v1, .int .i8 v2, .int .i8 v3]) (b := w.heap.size) (cs := [.int .i8 v1, .int .i8 v2, .int .i8 v3]) Tryd.results127 rfl (World.rangeAt_setCells_same _ _ _ _ HTH.out) Tryd.underlying38 rfl (by kernel_rfl)) rfl ⟨.inr ⟨_, HY.out, rfl⟩, hb7.out⟩
  | some x =>
    obtain ⟨t, q⟩ := x
    have HY : Hid (R = none) := Lib.hid (by
      rw [← HR.out, HRR.out]
      rcases HV1.out with ⟨a1, rfl⟩ | ⟨a1, _⟩
      · rcases HV2.out with ⟨a2, rfl⟩ | ⟨a2, _⟩
        · rcases HV3.out with ⟨a3, rfl⟩ | ⟨a3, _⟩
          · simp [firstO] at hf
          · rw [a1, a2, a3]
        · rw [a1, a2]
      · rw [a1])
    clear HV1 HV2 HV3 HRR HR
    rw [show errO (some (t, q)) = .iface t q from rfl]
    have HCE : Hid (G1 ⟨0, 0, none⟩ (.iface 284 (.pointer (some (e 4)))) w6) := Lib.hid ⟨(HE.out _ HB6.out).c4, True.intro, True.intro⟩
    clear hf
    go_wp2_with fail
    refine wp_region_held_drew (S := G1 ⟨0, 0, none⟩ (.iface 284 (.pointer (some (e 4))))) (by kernel_rfl) HCE.out (fun hHeld => ?_)
    have hrow8 : Hid (w6.drew.heap[w.heap.size]? = some (.cells #[.int .i8 0, .int .i8 0, .int .i8 0] 38 (0, 0))) := hrow
    have HB8 := Lib.hid (HB6.out.drew)
    generalize w6.drew = w8 at hHeld hrow8 HB8 ⊢
    clear hrow HB6 HCE
    refine wpAnyH_take (i := 0) (v := ?_) rfl (by kernel_rfl) (by kernel_rfl) (by kernel_rfl) (fun _ _ _ h => h) (Or.inl ⟨by rfl, ?_⟩) (by assumption) ?_
    rotate_left
    · intro u hSu
      (try dsimp only at hSu)
      first | (go_simp; done) | (go_simp; with_reducible rfl)
    try simp only [Act.put, List.getElem_toArray, List.getElem_cons_zero, List.setIfInBounds_toArray, List.set_cons_zero, List.set_cons_succ]
    refine wpAnyH_take (i := 1) (v := ?_) rfl (by kernel_rfl) (by kernel_rfl) (by kernel_rfl) (fun _ _ _ h => h) (Or.inl ⟨by rfl, ?_⟩) (by assumption) ?_
    rotate_left
    · intro u hSu
      obtain ⟨qa, qb, _⟩ := hSu
      first | (go_simp; done) | (go_simp; with_reducible rfl)
    try simp only [Act.put, List.getElem_toArray, List.getElem_cons_zero, List.getElem_cons_succ, List.setIfInBounds_toArray, List.set_cons_zero, List.set_cons_succ]
    have c0 : w8.cell? ⟨w.heap.size, 0, none⟩ = some (.int .i8 0) := cell_of_row _ _ _ _ _ _ hrow8.out
    have c1 : w8.cell? ⟨w.heap.size, 1, none⟩ = some (.int .i8 0) := cell_of_row _ _ _ _ _ _ hrow8.out
    have c2 : w8.cell? ⟨w.heap.size, 2, none⟩ = some (.int .i8 0) := cell_of_row _ _ _ _ _ _ hrow8.out
    have f0 : w8.frozen? ⟨w.heap.size, 0, none⟩ = false := by unfold World.frozen?; rw [hrow8.out]; rfl
    have f1 : w8.frozen? ⟨w.heap.size, 1, none⟩ = false := by unfold World.frozen?; rw [hrow8.out]; rfl
    have f2 : w8.frozen? ⟨w.heap.size, 2, none⟩ = false := by unfold World.frozen?; rw [hrow8.out]; rfl
    have HTH := Lib.hid (there_three hrow8.out)
    have hb9 := Lib.hid (below_cells HB8.out (Nat.le_refl _) [.int .i8 0, .int .i8 0, .int .i8 0] 0)
    refine wpAnyH_ready (rs := [2]) (by kernel_rfl) (by simp) ?_
    refine AllReadyH.cons rfl (fun K hK => ?_) AllReadyH.nil
    go_simp
    refine hK.out _ _ (show G1 _ _ _ from ⟨(World.cell?_setCell_other _ _ _ _ (by simp [])).trans ((World.cell?_setCell_other _ _ _ _ (by simp [])).trans ((World.cell?_setCell_other _ _ _ _ (by simp [])).trans hHeld.1)), True.intro, True.intro⟩) (fun hHeld2 => ?_)
    clear hK K hHeld
    have hHeld := hHeld2
    clear hHeld2
    refine wpAnyH_take (i := 3) (v := ?_) rfl (by kernel_rfl) (by kernel_rfl) (by kernel_rfl) (fun _ _ _ h => h) (Or.inl ⟨by rfl, ?_⟩) (by assumption) ?_
    rotate_left
    · intro u hSu
      (try dsimp only at hSu)
      first | (go_simp; done) | (go_simp; with_reducible rfl)
    try simp only [Act.put, List.getElem_toArray, List.getElem_cons_zero, List.getElem_cons_succ, List.setIfInBounds_toArray, List.set_cons_zero, List.set_cons_succ]
    refine wpAnyH_done (by kernel_rfl) ?_ _
    go_wp2_with fail
    refine bodyPost_ret (v := .tuple #[Wea.v ⟨0, 0, 0⟩, errV (e 4)]) (results_row_tmp (u := w8.setCells w.heap.size 0 [.int .i8 0, .int .i8 0, .int .i8 0]) (b := w.heap.size) (cs := [.int .i8 0, .int .i8 0, .int .i8 0]) Tryd.results127 rfl (World.rangeAt_setCells_same _ _ _ _ HTH.out) Tryd.underlying38 rfl (by kernel_rfl)) rfl ⟨.inl ⟨HY.out, rfl⟩, hb9.out⟩
end Go.Proofs.YtjfimmfnhlimkaaDoor.rd

/-
  Days read from a text: the program's reader.
-/
namespace Go.Proofs.YtjfimmfnhlimkaaDoor.rd
open Go Go.RowKit Go.Shelf sl dec txt errs rng hang day
attribute [local go_sem] Oper.semAt_some

/-- what is read kindly -/
def kindW (t : List UInt8) : Option (List Wea) := match readL readW (splitB 32 t) with
  | some D => if D.length ≤ 24 then some (padW D) else none
  | none => none
/-- what the reader keeps over the parts: b the heap's size at the start; the results' variables at b and b + 1, the day's at b + 2, the hour's at b + 3, the iterator's at b + 4 -/
structure DB (b : Nat) (D : List Wea) (W : World) : Prop where
  r : OwnD W b b zeroCs.toList
  e : Boxed W (b + 1) 94 .nilIface
  d : OwnD W b (b + 1 + 1) ((padW D).flatMap Wea.cells)
  h : Boxed W (b + 1 + 1 + 1) 3 (.int .i64 (D.length : Nat))
  s : ∃ t, Boxed W (b + 1 + 1 + 1 + 1) 9 (.string t)
  n : b + 7 ≤ W.heap.size
variable {b : Nat} {D : List Wea} {W W' : World}
theorem DB.grown {row : Option Nat} (h : DB b D W) (hg : W.grownBy W' row) (hr : ∀ r, row = some r → ∃ o : Obj, W.heap[r]? = some o ∧ o.isCells = false) : DB b D W' := by
  obtain ⟨h1, h2, h3, h4, ⟨t, h5⟩, h6⟩ := h
  exact ⟨owns_not h1 hg hr, boxed_not h2 hg hr, owns_not h3 hg hr, boxed_not h4 hg hr, ⟨t, boxed_not h5 hg hr⟩, Nat.le_trans h6 hg.size⟩
theorem DB.below (h : DB b D W) (hb : Below W.heap.size W W') : DB b D W' := by
  obtain ⟨h1, h2, h3, h4, ⟨t, h5⟩, h6⟩ := h
  exact ⟨owns_next h1 hb, boxed_below h2 hb, owns_next h3 hb, boxed_below h4 hb, ⟨t, boxed_below h5 hb⟩, Nat.le_trans h6 hb.size⟩
theorem own_ne {g j : Nat} (h : g ≠ j) : ∀ k, (Value.slice (some ⟨g, 0, none⟩) 24 24).ownBlock = some k → k ≠ j := fun k hk e => by
  have h1 : g = k := Option.some.inj hk
  omega
theorem DB.store (h : DB b D W) (u : ByteArray) : DB b D (W.setCell ⟨b + 1 + 1 + 1 + 1, 0, none⟩ (.string u)) := by
  obtain ⟨h1, h2, h3, h4, ⟨t, h5⟩, h6⟩ := h
  have hg := grownBy_setCell' W (b + 1 + 1 + 1 + 1) (.string u)
  exact ⟨owns_other h1 hg (own_ne (by omega)), h2.kept hg (by simp <;> omega), owns_other h3 hg (own_ne (by omega)), h4.kept hg (by simp <;> omega), ⟨u, h5.set _⟩, Nat.le_trans h6 hg.size⟩
theorem set_tail0 (A : List Value) (x y : Value) (B : List Value) : (A ++ x :: B).set A.length y = A ++ y :: B := by simp
theorem set_tail1 (A : List Value) (z x y : Value) (B : List Value) : (A ++ z :: x :: B).set (A.length + 1) y = A ++ z :: y :: B := by
  simp
theorem set_tail2 (A : List Value) (q z x y : Value) (B : List Value) : (A ++ q :: z :: x :: B).set (A.length + 1 + 1) y = A ++ q :: z :: y :: B := by
  have h := set_tail1 (A ++ [q]) z x y B
  simpa using h
theorem pad_step {D : List Wea} (h : D.length < 24) (y : Wea) : setList ((padW D).flatMap Wea.cells) (D.length * 3) y.cells = (padW (D ++ [y])).flatMap Wea.cells := by
  obtain ⟨m, hm⟩ : ∃ m, 24 - D.length = m + 1 := ⟨24 - D.length - 1, by omega⟩
  have e1 : padW D = D ++ ⟨0, 0, 0⟩ :: List.replicate m ⟨0, 0, 0⟩ := by rw [padW, hm, List.replicate_succ]
  have e2 : padW (D ++ [y]) = D ++ y :: List.replicate m ⟨0, 0, 0⟩ := by
    rw [padW, List.length_append, List.length_singleton, show 24 - (D.length + 1) = m by omega, List.append_assoc]
    rfl
  have hl : (D.flatMap Wea.cells).length = D.length * 3 := flat_len (Wea.len D)
  rw [e1, e2, List.flatMap_append, List.flatMap_append, List.flatMap_cons, List.flatMap_cons, ← hl]
  generalize D.flatMap Wea.cells = A
  simp only [setList, Wea.cells, List.cons_append, List.nil_append]
  rw [set_tail0, set_tail1, set_tail2]
/-- a weather is stored, and the hour counted -/
theorem DB.step (h : DB b D W) (hD : D.length < 24) (y : Wea) :
    let V := (((W.setCell ⟨b + 1 + 1, D.length * 3, none⟩ (.int .i8 y.sun)).setCell ⟨b + 1 + 1, D.length * 3 + 1, none⟩ (.int .i8 y.wind)).setCell ⟨b + 1 + 1, D.length * 3 + 2, none⟩ (.int .i8 y.rain)).setCell ⟨b + 1 + 1 + 1, 0, none⟩ (.int .i64 ((D.length : Nat) + 1))
    DB b (D ++ [y]) V ∧ KeepsOthers W V ∧ Below b W V ∧ KeepB (b + 1 + 1 + 1 + 1) (b + 7) W V := by
  obtain ⟨h1, h2, h3, h4, ⟨t, h5⟩, h6⟩ := h
  obtain ⟨hO, hg⟩ := owns_cells (o := D.length * 3) (vs := y.cells) h3
  have hg2 := grownBy_setCell' (W.setCells (b + 1 + 1) (D.length * 3) y.cells) (b + 1 + 1 + 1) (.int .i64 ((D.length : Nat) + 1))
  rw [pad_step hD y] at hO
  refine ⟨⟨owns_other (owns_other h1 hg (own_ne (by omega))) hg2 (own_ne (by omega)), (h2.kept hg (by simp <;> omega)).kept hg2 (by simp <;> omega), owns_other hO hg2 (own_ne (by omega)), ?_, ⟨t, (h5.kept hg (by simp <;> omega)).kept hg2 (by simp <;> omega)⟩, Nat.le_trans h6 (Nat.le_trans hg.size hg2.size)⟩, ?_, ?_, ?_⟩
  · have := (h4.kept hg (by simp <;> omega)).set (.int .i64 ((D.length : Nat) + 1))
    rw [List.length_append, List.length_singleton, Int.natCast_add]
    exact this
  · exact (((KeepsOthers.setCell _ _ _).trans (KeepsOthers.setCell _ _ _)).trans (KeepsOthers.setCell _ _ _)).trans (KeepsOthers.setCell _ _ _)
  · exact ((((Below.refl b W).setCell (p := ⟨b + 1 + 1, D.length * 3, none⟩) (by show b ≤ b + 1 + 1; omega) _).setCell (p := ⟨b + 1 + 1, D.length * 3 + 1, none⟩) (by show b ≤ b + 1 + 1; omega) _).setCell (p := ⟨b + 1 + 1, D.length * 3 + 2, none⟩) (by show b ≤ b + 1 + 1; omega) _).setCell (p := ⟨b + 1 + 1 + 1, 0, none⟩) (by show b ≤ b + 1 + 1 + 1; omega) _
  · intro j h1 h2
    exact (Below.heap_setCell _ ⟨b + 1 + 1 + 1, 0, none⟩ _ j (by show j ≠ b + 1 + 1 + 1; omega)).trans ((Below.heap_setCell _ ⟨b + 1 + 1, D.length * 3 + 2, none⟩ _ j (by show j ≠ b + 1 + 1; omega)).trans ((Below.heap_setCell _ ⟨b + 1 + 1, D.length * 3 + 1, none⟩ _ j (by show j ≠ b + 1 + 1; omega)).trans (Below.heap_setCell _ ⟨b + 1 + 1, D.length * 3, none⟩ _ j (by show j ≠ b + 1 + 1; omega))))
/-- between two parts -/
def ICw (w : World) (b : Nat) (pre : List Part) (W : World) : Prop := (∃ D, (readL readW (parts pre) = some D ∧ D.length ≤ 24) ∧ DB b D W) ∧ Below w.heap.size w W
/-- where the reader has left -/
def XCw (w : World) (b : Nat) (ev : Value) (cc : Code) (pre : List Part) (W : World) : Prop := cc = .ret ∧ ((readL readW (parts pre) = none ∨ 24 < pre.length) ∧ OwnD W b b zeroCs.toList ∧ Boxed W (b + 1) 94 ev) ∧ Below w.heap.size w W
theorem post_stopW {B lo hi b : Nat} {w W Y : World} {ev : Value} {pre : List Part} {a : Act} (h1 : KeepsFrom B W Y) (h2 : (readL readW (parts pre) = none ∨ 24 < pre.length) ∧ OwnD Y b b zeroCs.toList ∧ Boxed Y (b + 1) 94 ev) (h3 : Below w.heap.size w Y) :
    ownPostG B (KeepB lo hi) (ICw w b) (XCw w b ev) pre W .ret a Y := And.intro h1 (And.intro rfl (And.intro h2 h3))
theorem post_nextW {B lo hi b : Nat} {w W Y : World} {ev : Value} {pre : List Part} {a : Act} {D : List Wea} (h1 : KeepsFrom B W Y) (h2 : KeepB lo hi W Y) (h3 : readL readW (parts pre) = some D) (h4 : D.length ≤ 24) (h5 : DB b D Y) (h6 : Below w.heap.size w Y) :
    ownPostG B (KeepB lo hi) (ICw w b) (XCw w b ev) pre W .normal a Y := And.intro h1 (And.intro h2 (And.intro ⟨D, ⟨h3, h4⟩, h5⟩ h6))
end Go.Proofs.YtjfimmfnhlimkaaDoor.rd

/-
  Days read from a text: the program's reader walks.
-/
namespace Go.Proofs.YtjfimmfnhlimkaaDoor.rd
open Go Go.RowKit Go.Shelf sl dec txt errs rng hang day
attribute [local go_sem] Oper.semAt_some

theorem heap7 (w : World) (a b c d f g h : Obj) : let V := (((((((w.alloc a).alloc b).alloc c).alloc d).alloc f).alloc g).alloc h)
    (V.heap[w.heap.size]? = some a ∧ V.heap[w.heap.size + 1]? = some b ∧ V.heap[w.heap.size + 1 + 1]? = some c ∧ V.heap[w.heap.size + 1 + 1 + 1]? = some d ∧
    V.heap[w.heap.size + 1 + 1 + 1 + 1]? = some f ∧ V.heap[w.heap.size + 1 + 1 + 1 + 1 + 1]? = some g ∧ V.heap[w.heap.size + 1 + 1 + 1 + 1 + 1 + 1]? = some h) ∧
    V.heap.size = w.heap.size + 7 ∧ Below w.heap.size w V := by
  have e1 : (w.alloc a).heap.size = w.heap.size + 1 := by simp
  obtain ⟨⟨g1, g2, g3, g4, g5, g6⟩, hs, hB⟩ := heap6 (w.alloc a) b c d f g h
  rw [e1] at g1 g2 g3 g4 g5 g6 hs hB
  refine ⟨⟨?_, g1, g2, g3, g4, g5, g6⟩, by omega, ((Below.refl _ w).alloc (Nat.le_refl _) a).trans (hB.mono (by omega))⟩
  exact (hB.block w.heap.size (by omega)).trans (World.alloc_heap_new w a)
theorem keeps_cells (W : World) (g : Nat) (vs : List Value) (o : Nat) : KeepsOthers W (W.setCells g o vs) := by
  induction vs generalizing W o with
  | nil => exact KeepsOthers.refl W
  | cons v r ih => exact (KeepsOthers.setCell W ⟨g, o, none⟩ v).trans (ih _ _)
theorem fail_day {b : Nat} {D : List Wea} {W : World} (h : DB b D W) (ev : Value) : OwnD (W.setCells b 0 zeroCs.toList) b b zeroCs.toList ∧ Boxed (W.setCells b 0 zeroCs.toList) (b + 1) 94 .nilIface ∧ OwnD ((W.setCells b 0 zeroCs.toList).setCell ⟨b + 1, 0, none⟩ ev) b b zeroCs.toList ∧ Boxed ((W.setCells b 0 zeroCs.toList).setCell ⟨b + 1, 0, none⟩ ev) (b + 1) 94 ev := by
  obtain ⟨hO, hg⟩ := owns_cells (o := 0) (vs := zeroCs.toList) h.r
  have e1 : setList zeroCs.toList 0 zeroCs.toList = zeroCs.toList := rfl
  rw [e1] at hO
  have h2 := h.e.kept hg (by simp <;> omega)
  exact ⟨hO, h2, owns_other hO (grownBy_setCell' _ (b + 1) ev) (own_ne (by omega)), h2.set ev⟩
theorem setCells_drew (W : World) (g : Nat) (vs : List Value) (o : Nat) : W.drew.setCells g o vs = (W.setCells g o vs).drew := by
  induction vs generalizing W o with
  | nil => rfl
  | cons v r ih => exact ih (W.setCell ⟨g, o, none⟩ v) (o + 1)
theorem store_zero_drew {u : World} {b : Nat} (h : u.there b 0 72) : (storeCells ⟨b, 0, none⟩ zeroCs.toList).run Tryd.prog u.drew = .ok () (u.setCells b 0 zeroCs.toList).drew := by
  rw [← setCells_drew]
  exact store_zero (u := u.drew) h
section
variable {F : Fence} {n : Nat} {op : Oper} {a : Act} {w : World} {K : Act → World → Prop} {Q : Exit → Act → World → Prop} {ops : Array Oper} {rest : List Oper}
theorem semAt_any (r : Option Nat) (ρ : Operand → Value) (o : Oper) (h : ∀ c, o.op ≠ .defer c) : Oper.semAt r ρ o = execOp ρ o := by
  cases r with
  | none =>
    unfold Oper.semAt
    cases ho : o.op <;> first | rfl | exact absurd ho (h _)
  | some l => exact Oper.semAt_some l ρ o h
/-- a row is stored, within a round or without -/
theorem wpIn_store_row (ty : TypeId) (x y : Operand) (ho : op.op = .store ty x y) (b o : Nat) (cells : Array Value) (hx : a.eval x = .pointer (some ⟨b, o, none⟩)) (hy : a.eval y = .agg cells)
    (ht : w.there b o cells.size) (hi : (Tryd.prog.info? ty).map (·.size) = some cells.size) (h1 : cells.all (·.oneCell') = true) (h : K (a.put op.dst undef) (w.setCells b o cells.toList)) : op.wpIn F n Tryd.prog a w K Q := by
  refine ⟨fun f hf => ?_, ?_⟩
  · simp [Oper.about, ho] at hf
  · rw [semAt_any _ _ _ (by intro c; rw [ho]; simp)]
    unfold execOp
    simp only [ho, hx, hy, Instr.storeAt, Instr.sureAddr, Sem.run_bind, Sem.run_pure, Result.andThen_ok, run_storeVar_mid w b o ty cells ht hi h1]
    exact h
theorem wpIn_load_row (ty : TypeId) (x : Operand) (ho : op.op = .load ty x) (b o : Nat) (hx : a.eval x = .pointer (some ⟨b, o, none⟩)) (cs : List Value) (d : TypeDesc) (hc : w.rangeAt b o cs)
    (hu : Tryd.prog.underlying ty = some d) (hd : d.isRow = true) (hi : (Tryd.prog.info? ty).map (·.size) = some cs.length) (h : K (a.put op.dst (.agg cs.toArray)) w) : op.wpIn F n Tryd.prog a w K Q := by
  refine ⟨fun f hf => ?_, ?_⟩
  · simp [Oper.about, ho] at hf
  · rw [semAt_any _ _ _ (by intro c; rw [ho]; simp)]
    unfold execOp
    simp only [ho, hx, Instr.loadAt, Instr.sureAddr, Sem.run_bind, Sem.run_pure, Result.andThen_ok, run_loadVar_mid w b o ty cs d hc hu hd hi]
    exact h
theorem wplIn_load_day (hgd : op.guard = none) (x : Operand) (ho : op.op = .load 40 x) (b : Nat) (hx : a.eval x = .pointer (some ⟨b, 0, none⟩))
    {d : List Wea} (hd : d.length = 24) (h : DayAt w b d) (hK : wpListIn F n Tryd.prog ops Q rest (a.put op.dst (dayV d)) w) : wpListIn F n Tryd.prog ops Q (op :: rest) a w :=
  wpListIn_plain hgd fun _ hK' => wpIn_load_row 40 x ho b 0 hx (d.flatMap Wea.cells) _ h.row Tryd.underlying40 rfl (by rw [infoD, flat_len (Wea.len d), hd]) (hK' _ _ hK)
theorem wplIn_store_day (hgd : op.guard = none) (x y : Operand) (ho : op.op = .store 40 x y) (b : Nat) (hx : a.eval x = .pointer (some ⟨b, 0, none⟩))
    {d : List Wea} (hd : d.length = 24) (hy : a.eval y = dayV d) (ht : w.there b 0 72) (hK : wpListIn F n Tryd.prog ops Q rest (a.put op.dst undef) (w.setCells b 0 (d.flatMap Wea.cells))) : wpListIn F n Tryd.prog ops Q (op :: rest) a w :=
  wpListIn_plain hgd fun _ hK' => wpIn_store_row 40 x y ho b 0 (dayCs d) hx hy (by rw [dayCs_size hd]; exact ht) (by rw [infoD, dayCs_size hd]) (day_one d) (hK' _ _ hK)
/-- the cells of no day are stored -/
theorem wpIn_store_none (x y : Operand) (ho : op.op = .store 40 x y) (b : Nat) (hx : a.eval x = .pointer (some ⟨b, 0, none⟩)) (hy : a.eval y = .agg zeroCs) (u : World) (hw : w = u.drew) (ht : u.there b 0 72)
    (h : K (a.put op.dst undef) (u.setCells b 0 zeroCs.toList).drew) : op.wpIn F n Tryd.prog a w K Q := by
  subst hw
  refine wpIn_store_row 40 x y ho b 0 zeroCs hx hy (by rw [zeroCs_size]; exact ht) (by rw [infoD, zeroCs_size]) ?_ ?_
  · refine Array.all_eq_true_iff_forall_mem.2 fun v hv => ?_
    have h2 : v ∈ zeroCs.toList := by simpa using hv
    simp [zeroCs] at h2
    rw [h2]
    rfl
  · rw [setCells_drew]
    exact h
end
theorem own_drew {W : World} {B b : Nat} {L : List Value} (h : OwnD W B b L) : OwnD W.drew B b L := h
theorem box_drew {W : World} {b : Nat} {T : TypeId} {v : Value} (h : Boxed W b T v) : Boxed W.drew b T v := h
theorem setList_tail (vs : List Value) : ∀ (A L : List Value), L.length = vs.length → setList (A ++ L) A.length vs = A ++ vs := by
  induction vs with
  | nil => intro A L h; rw [List.length_eq_zero_iff.1 h]; rfl
  | cons v r ih =>
    intro A L h
    match L, h with
    | x :: M, h =>
      show setList ((A ++ x :: M).set A.length v) (A.length + 1) r = A ++ v :: r
      rw [set_tail0]
      have h2 := ih (A ++ [v]) M (by simpa using h)
      rw [List.length_append, List.length_singleton, List.append_assoc, List.append_assoc] at h2
      exact h2
theorem setList_all {L vs : List Value} (h : L.length = vs.length) : setList L 0 vs = vs := setList_tail vs [] L h
/-- a day and an error's variable, for results -/
theorem results_dayE {fn : Func} {s t : Nat} (hf : fn.results = #[.cell s 40, .cell t 94]) {tmps : Array Value} {u : World} {b b' : Nat} {d : List Wea} {v : Value} (hd : d.length = 24) (hs : tmps.getD s undef = .pointer (some ⟨b, 0, none⟩)) (ht : tmps.getD t undef = .pointer (some ⟨b', 0, none⟩)) (h : DayAt u b d) (he : Boxed u b' 94 v) :
    (results fn tmps).run Tryd.prog u = .ok (.tuple #[dayV d, v]) u := by
  have hr := loadVar_day hd h
  have hc := he.cell
  have hre : (loadVar 94 ⟨b', 0, none⟩).run Tryd.prog u = .ok v u := by simp [go_sem, hc]
  have hs' : tmps[s]?.getD undef = .pointer (some ⟨b, 0, none⟩) := by rw [← hs]; simp
  have ht' : tmps[t]?.getD undef = .pointer (some ⟨b', 0, none⟩) := by rw [← ht]; simp
  generalize hdv : dayV d = dv at hr
  simp [results, hf, hs', ht', Sem.run_bind, hr, hre, asAddr]
/-- a day is stored into the result's variable, and no error behind it -/
theorem DB.fin {b : Nat} {D d : List Wea} {W : World} (h : DB b D W) (hd : d.length = 24) (ev : Value) : Boxed (W.setCells b 0 (d.flatMap Wea.cells)) (b + 1) 94 .nilIface ∧ OwnD ((W.setCells b 0 (d.flatMap Wea.cells)).setCell ⟨b + 1, 0, none⟩ ev) b b (d.flatMap Wea.cells) ∧ Boxed ((W.setCells b 0 (d.flatMap Wea.cells)).setCell ⟨b + 1, 0, none⟩ ev) (b + 1) 94 ev := by
  obtain ⟨hO, hg⟩ := owns_cells (o := 0) (vs := d.flatMap Wea.cells) h.r
  rw [setList_all (by rw [flat_len (Wea.len d), hd]; simp [zeroCs])] at hO
  have h2 := h.e.kept hg (by simp <;> omega)
  exact ⟨h2, owns_other hO (grownBy_setCell' _ (b + 1) ev) (own_ne (by omega)), h2.set ev⟩
end Go.Proofs.YtjfimmfnhlimkaaDoor.rd

/-
  Days read from a text: the program's reader walks.
-/
namespace Go.Proofs.YtjfimmfnhlimkaaDoor.rd
open Go Go.RowKit Go.Shelf sl dec txt errs rng hang day
attribute [local go_sem] Oper.semAt_some
set_option maxRecDepth 100000 in
set_option maxHeartbeats 8000000 in
theorem readDay_any (s : ByteArray) (hs : s.size ≤ 1048576) {w : World} {B : Nat} {e : Nat → Addr} (h : Errs w B e) (hn : NE w B) (hB : B ≤ w.heap.size) (R : Option (List Wea)) (hR : kindW s.data.toList = R) :
    Calls Tryd.prog 77 #[.string s] w fun o w' => ((R = none ∧ o = .returned (.tuple #[dayV noDay, errV (e 4)])) ∨ ∃ D, R = some D ∧ o = .returned (.tuple #[dayV D, .nilIface])) ∧ Below w.heap.size w w' := by
  have HR := Lib.hid hR
  have HE := Lib.hid (fun (u : World) (hu : Below w.heap.size w u) => h.below (hu.mono hB))
  have HNE := Lib.hid (fun (u : World) (hu : Below w.heap.size w u) => hn.below (hu.mono hB))
  clear hR h hn
  have hs0 : s.data.toList.length ≤ 1048576 := by rw [len_list]; exact hs
  have hzz : ∀ u : World, (zeroValue 40).run Tryd.prog u = .ok (.agg zeroCs) u := (zero_of_info zeroD).1
  have HS := Lib.hid (show kindW s.data.toList = match readL readW (splitB 32 s.data.toList) with | some D => if D.length ≤ 24 then some (padW D) else none | none => none from rfl)
  refine (callsIn_wide (n := 3)).1 ?_
  refine callsIn_of_wp_marks Tryd.func77 rfl trivial ?_ rfl
  simp only [Tryd.ntmps77, List.size_toArray, List.length_cons, List.length_nil, Nat.reduceAdd, Nat.reduceSub, Array.replicate_succ, Array.replicate_zero, List.push_toArray, List.append_toArray, List.nil_append, List.cons_append]
  gi_wp2_with (refine ⟨trivial, ?_⟩; gi_at_call 122; refine (callsIn_wide.2 (splitSeq_any s 32 _)).mono ?_; rintro e w1 ⟨rfl, rfl⟩)
  have h7 := heap7 w (.cells zeroCs 40) (.cells #[.nilIface] 94) (.cells zeroCs 40) (.cells #[.int .i64 0] 3) (.cells #[.string s] 9) (.cells #[.string ⟨#[32]⟩] 9) (.cells #[.int .i64 0] 3)
  have hO0 : OwnD (w.alloc (.cells zeroCs 40)) w.heap.size w.heap.size zeroCs.toList := OwnD.new zeroCs zeroCs_size (B := w.heap.size) w (Nat.le_refl _)
  have hO2 : OwnD (((w.alloc (.cells zeroCs 40)).alloc (.cells #[.nilIface] 94)).alloc (.cells zeroCs 40)) w.heap.size (w.heap.size + 1 + 1) zeroCs.toList := by
    have h := OwnD.new zeroCs zeroCs_size (B := w.heap.size) ((w.alloc (.cells zeroCs 40)).alloc (.cells #[.nilIface] 94)) (by simp; omega)
    rwa [World.size_alloc, World.size_alloc] at h
  obtain ⟨W0, hW0⟩ : ∃ W0, W0 = (((((((w.alloc (.cells zeroCs 40)).alloc (.cells #[.nilIface] 94)).alloc (.cells zeroCs 40)).alloc (.cells #[.int .i64 0] 3)).alloc (.cells #[.string s] 9)).alloc (.cells #[.string ⟨#[32]⟩] 9)).alloc (.cells #[.int .i64 0] 3)) := ⟨_, rfl⟩
  have hO0' : OwnD W0 w.heap.size w.heap.size zeroCs.toList := by rw [hW0]; exact (((((hO0.alloc _).alloc _).alloc _).alloc _).alloc _).alloc _
  have hO2' : OwnD W0 w.heap.size (w.heap.size + 1 + 1) zeroCs.toList := by rw [hW0]; exact (((hO2.alloc _).alloc _).alloc _).alloc _
  simp only [← hW0] at h7
  rw [← hW0]
  obtain ⟨⟨_, g1, _, g3, g4, g5, g6⟩, hsz, hB0⟩ := h7
  have k3 : Boxed W0 (w.heap.size + 1 + 1 + 1 + 1) 9 (.string s) := g4
  have k4 : Boxed W0 (w.heap.size + 1 + 1 + 1 + 1 + 1) 9 (.string ⟨#[32]⟩) := g5
  have k5 : Boxed W0 (w.heap.size + 1 + 1 + 1 + 1 + 1 + 1) 3 (.int .i64 0) := g6
  have hRB : DB w.heap.size [] W0 := ⟨hO0', g1, by have e1 : (padW []).flatMap Wea.cells = zeroCs.toList := noDay_cells; rw [e1]; exact hO2', g3, ⟨s, k3⟩, by omega⟩
  clear g1 g3 g4 g5 g6 hW0 hO0 hO2 hO0' hO2'
  refine range_box (Bs := w.heap.size + 1 + 1 + 1 + 1) (by omega) (Nat.le_of_eq hsz.symm) rfl (by decide) (gf := 179) (lb := #[.pointer (some ⟨w.heap.size + 1 + 1 + 1 + 1 + 1, 0, none⟩), .pointer (some ⟨w.heap.size + 1 + 1 + 1 + 1, 0, none⟩), .pointer (some ⟨w.heap.size + 1 + 1 + 1 + 1 + 1 + 1, 0, none⟩)]) rfl trivial (enters_of Tryd.func179 (by kernel_rfl) rfl)
    (split_seq (3 - 1) (by decide) (w.heap.size + 1 + 1 + 1 + 1) (w.heap.size + 1 + 1 + 1 + 1 + 1) (w.heap.size + 1 + 1 + 1 + 1 + 1 + 1) (w.heap.size + 1 + 1 + 1 + 1) (w.heap.size + 7) 32 s.data.toList hs0 ⟨⟨by omega, by omega⟩, ⟨by omega, by omega⟩, ⟨by omega, by omega⟩, by omega, by omega⟩ W0 (by omega) (by rw [bsJ_of]; exact k3.cell) k3.frozen k4.cell k5.cell) (fun _ => rfl)
    (ICw w w.heap.size) (XCw w w.heap.size (errV (e 4)))
    (OwnFrom.and (fun s A B row hs hg hr => by obtain ⟨D, hD, h⟩ := hs; exact ⟨D, hD, h.grown hg fun r e => (hr r e).2⟩) (ownFrom_below (Nat.le_refl _) (by omega)))
    (fun cc => OwnFrom.and (fun s A B row hs _ _ => hs) (OwnFrom.and (fun s A B row hs hg hr => ⟨hs.1, owns_not hs.2.1 hg fun r e => (hr r e).2, boxed_not hs.2.2 hg fun r e => (hr r e).2⟩) (ownFrom_below (Nat.le_refl _) (by omega))))
    (fun pre A t hs => ⟨by obtain ⟨D, hD, h⟩ := hs.1; exact ⟨D, hD, h.store t⟩, hs.2.setCell (p := ⟨w.heap.size + 1 + 1 + 1 + 1, 0, none⟩) (by show w.heap.size ≤ w.heap.size + 1 + 1 + 1 + 1; omega) _⟩)
    ⟨⟨[], ⟨rfl, by simp⟩, hRB⟩, hB0⟩
    (fun x => { tmps := #[.string s, undef, .pointer (some ⟨w.heap.size, 0, none⟩), .pointer (some ⟨w.heap.size + 1, 0, none⟩), .pointer (some ⟨w.heap.size + 1 + 1, 0, none⟩), .pointer (some ⟨w.heap.size + 1 + 1 + 1, 0, none⟩), .string (bsJ x.1), undef, undef, .string s, .func (.func 179) #[] #[.pointer (some ⟨w.heap.size + 1 + 1 + 1 + 1 + 1, 0, none⟩), .pointer (some ⟨w.heap.size + 1 + 1 + 1 + 1, 0, none⟩), .pointer (some ⟨w.heap.size + 1 + 1 + 1 + 1 + 1 + 1, 0, none⟩)], .string (bsJ x.1), undef, undef, undef, undef, undef, undef, undef, undef, undef, undef, undef, undef, undef, undef, undef, undef, undef, undef, undef], defers := [] }) ?assign ?body ?done ?stop
  case assign =>
    intro l x W K hK
    gi_wp2
    exact hK
  case body =>
    rintro l pre x W ⟨⟨D, ⟨hD, hDl⟩, hrb⟩, hbw⟩ hlen
    have hmx : Tryd.prog.follows .mixedOrders = true := by kernel_rfl
    have hsz := hrb.n
    have HRB := Lib.hid hrb
    have hg0 : ¬ 0 = w.heap.size := by have h1 := (HE.out _ (Below.refl _ _)).size; omega
    have HD := Lib.hid hD
    have HBW := Lib.hid hbw
    have n1 : ∀ {X : World}, Below W.heap.size W X → Below w.heap.size w X := fun h => HBW.out.trans (h.mono HBW.out.size)
    have hBs : B ≤ W.heap.size := Nat.le_trans hB hbw.size
    have hrw := readWeather_any x.1 x.2 (HE.out _ hbw) (HNE.out _ hbw) hBs (readW x.1) rfl
    have HRW := Lib.hid hrw
    have hbad : ∀ (B0 : Nat) (X : World) (a : Act), Below W.heap.size W X → (readL readW (parts (pre ++ [x])) = none ∨ 24 < (pre ++ [x]).length) →
        ownPostG B0 (KeepB (w.heap.size + 1 + 1 + 1 + 1) (w.heap.size + 7)) (ICw w w.heap.size) (XCw w w.heap.size (errV (e 4))) (pre ++ [x]) W .ret a ((X.setCells w.heap.size 0 zeroCs.toList).setCell ⟨w.heap.size + 1, 0, none⟩ (errV (e 4))).drew := fun B0 X a hX hno =>
      post_stopW ((keeps_below _ hX).trans ((((keeps_cells X _ _ _).trans (KeepsOthers.setCell _ _ _)).trans (KeepsOthers.drew _)).from _)) ⟨hno, own_drew (fail_day (HRB.out.below hX) (errV (e 4))).2.2.1, box_drew (fail_day (HRB.out.below hX) (errV (e 4))).2.2.2⟩ (((below_cells (n1 hX) (Nat.le_refl _) _ _).setCell (p := ⟨w.heap.size + 1, 0, none⟩) (Nat.le_succ _) _).drew)
    have HBAD := Lib.hid hbad
    clear hrw hrb hD hbw hbad
    gi_wp2
    refine ⟨trivial, (CallsIn.inRound l (callsIn_wide.2 HRW.out)).mono ?_⟩
    clear HRW
    rintro o W1 ⟨hcs, hb1⟩
    have B1 := Lib.hid hb1
    clear hb1
    rcases hcs with ⟨hno, rfl⟩ | ⟨y, hy, rfl⟩
    · have HNO : Hid (readL readW (parts (pre ++ [x])) = none ∨ 24 < (pre ++ [x]).length) := Lib.hid (.inl (by rw [parts_snoc, readL_snoc, HD.out, hno]))
      clear hno
      gi_wp2
      have hX : Below W.heap.size W (W1.alloc (.cells #[.int .i8 0, .int .i8 0, .int .i8 0] 38)) := B1.out.alloc B1.out.size _
      generalize W1.alloc (.cells #[.int .i8 0, .int .i8 0, .int .i8 0] 38) = X at hX ⊢
      have hrx := HRB.out.below hX
      have HX := Lib.hid hX
      have HTZ := Lib.hid (OwnD.there hrx.r)
      have hce : X.cell? ⟨0, 0, none⟩ = some (.iface 284 (.pointer (some (e 4)))) := (HE.out _ (n1 hX)).c4
      obtain ⟨_, r2, _, _⟩ := fail_day hrx (errV (e 4))
      have hce2 : (X.setCells w.heap.size 0 zeroCs.toList).cell? ⟨0, 0, none⟩ = some (.iface 284 (.pointer (some (e 4)))) := (HE.out _ (below_cells (n1 HX.out) (Nat.le_refl _) _ _)).c4
      have f2 := r2.frozen
      have q2 := r2.cell
      clear hrx hX r2
      refine wpIn_region_any hmx ?_
      refine wpAnyIn_all (rs := [0, 1]) (by kernel_rfl) (by simp) ?_
      intro iIn hIn
      rcases List.mem_cons.1 hIn with rfl | hIn
      · skip
        refine wpOpIn_step rfl (fun K' hK' => ?_)
        refine wanted_none rfl ?_
        gi_wp2
        refine wpAnyIn_all (rs := [1, 2]) (by kernel_rfl) (by simp) ?_
        intro iIn hIn
        rcases List.mem_cons.1 hIn with rfl | hIn
        · skip
          refine wpOpIn_step rfl (fun K' hK' => ?_)
          refine wanted_none rfl ?_
          gi_wp2
          refine wpAnyIn_all (rs := [2]) (by kernel_rfl) (by simp) ?_
          intro iIn hIn
          obtain rfl := List.mem_singleton.1 hIn
          clear hIn
          refine wpOpIn_step rfl (fun K' hK' => ?_)
          refine wanted_none rfl ?_
          refine wpIn_store_none (.tmp 2) (.tmp 23) rfl w.heap.size rfl rfl X rfl HTZ.out ?_
          gi_wp2
          refine wpAnyIn_all (rs := [3]) (by kernel_rfl) (by simp) ?_
          intro iIn hIn
          obtain rfl := List.mem_singleton.1 hIn
          clear hIn
          refine wpOpIn_step rfl (fun K' hK' => ?_)
          refine wanted_none rfl ?_
          gi_wp2
          refine wpAnyIn_done (by kernel_rfl) ?_ _
          gi_wp2
          exact HBAD.out _ X _ HX.out HNO.out
        · obtain rfl := List.mem_singleton.1 hIn
          clear hIn
          refine wpOpIn_step rfl (fun K' hK' => ?_)
          refine wanted_none rfl ?_
          refine wpIn_store_none (.tmp 2) (.tmp 23) rfl w.heap.size rfl rfl X rfl HTZ.out ?_
          gi_wp2
          refine wpAnyIn_all (rs := [1]) (by kernel_rfl) (by simp) ?_
          intro iIn hIn
          obtain rfl := List.mem_singleton.1 hIn
          clear hIn
          refine wpOpIn_step rfl (fun K' hK' => ?_)
          refine wanted_none rfl ?_
          gi_wp2
          refine wpAnyIn_all (rs := [3]) (by kernel_rfl) (by simp) ?_
          intro iIn hIn
          obtain rfl := List.mem_singleton.1 hIn
          clear hIn
          refine wpOpIn_step rfl (fun K' hK' => ?_)
          refine wanted_none rfl ?_
          gi_wp2
          refine wpAnyIn_done (by kernel_rfl) ?_ _
          gi_wp2
          exact HBAD.out _ X _ HX.out HNO.out
      · obtain rfl := List.mem_singleton.1 hIn
        clear hIn
        refine wpOpIn_step rfl (fun K' hK' => ?_)
        refine wanted_none rfl ?_
        gi_wp2
        refine wpAnyIn_all (rs := [0]) (by kernel_rfl) (by simp) ?_
        intro iIn hIn
        obtain rfl := List.mem_singleton.1 hIn
        clear hIn
        refine wpOpIn_step rfl (fun K' hK' => ?_)
        refine wanted_none rfl ?_
        gi_wp2
        refine wpAnyIn_all (rs := [2]) (by kernel_rfl) (by simp) ?_
        intro iIn hIn
        obtain rfl := List.mem_singleton.1 hIn
        clear hIn
        refine wpOpIn_step rfl (fun K' hK' => ?_)
        refine wanted_none rfl ?_
        refine wpIn_store_none (.tmp 2) (.tmp 23) rfl w.heap.size rfl rfl X rfl HTZ.out ?_
        gi_wp2
        refine wpAnyIn_all (rs := [3]) (by kernel_rfl) (by simp) ?_
        intro iIn hIn
        obtain rfl := List.mem_singleton.1 hIn
        clear hIn
        refine wpOpIn_step rfl (fun K' hK' => ?_)
        refine wanted_none rfl ?_
        gi_wp2
        refine wpAnyIn_done (by kernel_rfl) ?_ _
        gi_wp2
        exact HBAD.out _ X _ HX.out HNO.out
    · have HY := Lib.hid hy
      clear hy
      have hX0 : Below W.heap.size W (W1.alloc (.cells #[.int .i8 y.sun, .int .i8 y.wind, .int .i8 y.rain] 38)) := B1.out.alloc B1.out.size _
      have hd0 := HRB.out.below hX0
      have q3 := hd0.h.cell
      have f3 := hd0.h.frozen
      by_cases hfull : D.length = 24
      · have hdec : ((D.length : Int) == 24) = true := by rw [hfull]; rfl
        have HNO : Hid (readL readW (parts (pre ++ [x])) = none ∨ 24 < (pre ++ [x]).length) := Lib.hid (.inr (by
          have h1 := readL_len HD.out
          rw [parts_len] at h1
          rw [List.length_append, List.length_singleton]
          omega))
        clear hd0 hX0
        gi_wp2
        clear q3 f3
        have hX : Below W.heap.size W (W1.alloc (.cells #[.int .i8 y.sun, .int .i8 y.wind, .int .i8 y.rain] 38)) := B1.out.alloc B1.out.size _
        generalize W1.alloc (.cells #[.int .i8 y.sun, .int .i8 y.wind, .int .i8 y.rain] 38) = X at hX ⊢
        have hrx := HRB.out.below hX
        have HX := Lib.hid hX
        have HTZ := Lib.hid (OwnD.there hrx.r)
        have hce : X.cell? ⟨0, 0, none⟩ = some (.iface 284 (.pointer (some (e 4)))) := (HE.out _ (n1 hX)).c4
        obtain ⟨_, r2, _, _⟩ := fail_day hrx (errV (e 4))
        have hce2 : (X.setCells w.heap.size 0 zeroCs.toList).cell? ⟨0, 0, none⟩ = some (.iface 284 (.pointer (some (e 4)))) := (HE.out _ (below_cells (n1 HX.out) (Nat.le_refl _) _ _)).c4
        have f2 := r2.frozen
        have q2 := r2.cell
        clear hrx hX r2
        refine wpIn_region_any hmx ?_
        refine wpAnyIn_all (rs := [0, 1]) (by kernel_rfl) (by simp) ?_
        intro iIn hIn
        rcases List.mem_cons.1 hIn with rfl | hIn
        · skip
          refine wpOpIn_step rfl (fun K' hK' => ?_)
          refine wanted_none rfl ?_
          gi_wp2
          refine wpAnyIn_all (rs := [1, 2]) (by kernel_rfl) (by simp) ?_
          intro iIn hIn
          rcases List.mem_cons.1 hIn with rfl | hIn
          · skip
            refine wpOpIn_step rfl (fun K' hK' => ?_)
            refine wanted_none rfl ?_
            gi_wp2
            refine wpAnyIn_all (rs := [2]) (by kernel_rfl) (by simp) ?_
            intro iIn hIn
            obtain rfl := List.mem_singleton.1 hIn
            clear hIn
            refine wpOpIn_step rfl (fun K' hK' => ?_)
            refine wanted_none rfl ?_
            refine wpIn_store_none (.tmp 2) (.tmp 23) rfl w.heap.size rfl rfl X rfl HTZ.out ?_
            gi_wp2
            refine wpAnyIn_all (rs := [3]) (by kernel_rfl) (by simp) ?_
            intro iIn hIn
            obtain rfl := List.mem_singleton.1 hIn
            clear hIn
            refine wpOpIn_step rfl (fun K' hK' => ?_)
            refine wanted_none rfl ?_
            gi_wp2
            refine wpAnyIn_done (by kernel_rfl) ?_ _
            gi_wp2
            exact HBAD.out _ X _ HX.out HNO.out
          · obtain rfl := List.mem_singleton.1 hIn
            clear hIn
            refine wpOpIn_step rfl (fun K' hK' => ?_)
            refine wanted_none rfl ?_
            refine wpIn_store_none (.tmp 2) (.tmp 23) rfl w.heap.size rfl rfl X rfl HTZ.out ?_
            gi_wp2
            refine wpAnyIn_all (rs := [1]) (by kernel_rfl) (by simp) ?_
            intro iIn hIn
            obtain rfl := List.mem_singleton.1 hIn
            clear hIn
            refine wpOpIn_step rfl (fun K' hK' => ?_)
            refine wanted_none rfl ?_
            gi_wp2
            refine wpAnyIn_all (rs := [3]) (by kernel_rfl) (by simp) ?_
            intro iIn hIn
            obtain rfl := List.mem_singleton.1 hIn
            clear hIn
            refine wpOpIn_step rfl (fun K' hK' => ?_)
            refine wanted_none rfl ?_
            gi_wp2
            refine wpAnyIn_done (by kernel_rfl) ?_ _
            gi_wp2
            exact HBAD.out _ X _ HX.out HNO.out
        · obtain rfl := List.mem_singleton.1 hIn
          clear hIn
          refine wpOpIn_step rfl (fun K' hK' => ?_)
          refine wanted_none rfl ?_
          gi_wp2
          refine wpAnyIn_all (rs := [0]) (by kernel_rfl) (by simp) ?_
          intro iIn hIn
          obtain rfl := List.mem_singleton.1 hIn
          clear hIn
          refine wpOpIn_step rfl (fun K' hK' => ?_)
          refine wanted_none rfl ?_
          gi_wp2
          refine wpAnyIn_all (rs := [2]) (by kernel_rfl) (by simp) ?_
          intro iIn hIn
          obtain rfl := List.mem_singleton.1 hIn
          clear hIn
          refine wpOpIn_step rfl (fun K' hK' => ?_)
          refine wanted_none rfl ?_
          refine wpIn_store_none (.tmp 2) (.tmp 23) rfl w.heap.size rfl rfl X rfl HTZ.out ?_
          gi_wp2
          refine wpAnyIn_all (rs := [3]) (by kernel_rfl) (by simp) ?_
          intro iIn hIn
          obtain rfl := List.mem_singleton.1 hIn
          clear hIn
          refine wpOpIn_step rfl (fun K' hK' => ?_)
          refine wanted_none rfl ?_
          gi_wp2
          refine wpAnyIn_done (by kernel_rfl) ?_ _
          gi_wp2
          exact HBAD.out _ X _ HX.out HNO.out
      · have hdec : ((D.length : Int) == 24) = false := by simp; omega
        have hlt : D.length < 24 := by omega
        have hth := OwnD.there hd0.d
        obtain ⟨c0, f0⟩ := hth (D.length * 3) (by omega)
        obtain ⟨c1, f1⟩ := hth (D.length * 3 + 1) (by omega)
        obtain ⟨c2, f2⟩ := hth (D.length * 3 + 2) (by omega)
        rw [Nat.zero_add] at c0 c1 c2 f0 f1 f2
        obtain ⟨v0, c0⟩ := Option.isSome_iff_exists.1 c0
        obtain ⟨v1, c1⟩ := Option.isSome_iff_exists.1 c1
        obtain ⟨v2, c2⟩ := Option.isSome_iff_exists.1 c2
        have hSTEP := Lib.hid (hd0.step hlt y)
        have HX0 := Lib.hid hX0
        clear hd0 hX0 hth
        gi_wp2
        exact post_nextW ((keeps_below _ HX0.out).trans (hSTEP.out.2.1.from _)) ((KeepB.below HX0.out hsz).trans hSTEP.out.2.2.2) (by rw [parts_snoc, readL_snoc, HD.out, HY.out]) (by rw [List.length_append, List.length_singleton]; omega) hSTEP.out.1 ((n1 HX0.out).trans hSTEP.out.2.2.1)
  case done =>
    rintro Dd ys W hDd hys ⟨⟨D, ⟨hD, hDl⟩, hrb⟩, hbw⟩ hK
    have hfin : R = some (padW D) := by rw [← HR.out, HS.out, ← hys, hD]; simp only; rw [if_pos hDl]
    have hn7 := hrb.n
    have HLEN := Lib.hid (padW_len hDl)
    have HA := Lib.hid (OwnD.of _ hrb.d)
    have HT := Lib.hid (OwnD.there hrb.r)
    obtain ⟨r2, r3, r4⟩ := hrb.fin (padW_len hDl) .nilIface
    have f2 := r2.frozen
    have q2 := r2.cell
    have R3 := Lib.hid r3
    have R4 := Lib.hid r4
    clear r2 r3 r4 hrb
    gi_wp2_with (first | (refine wplIn_load_day rfl (.tmp 4) rfl (w.heap.size + 1 + 1) rfl HLEN.out HA.out ?_) | (refine wplIn_store_day rfl (.tmp 2) (.tmp 30) rfl w.heap.size rfl HLEN.out rfl HT.out ?_))
    have kv := ((keeps_cells W w.heap.size ((padW D).flatMap Wea.cells) 0).trans (KeepsOthers.setCell _ ⟨w.heap.size + 1, 0, none⟩ .nilIface)).same Dd _ hK rfl
    have hbv := (below_cells hbw (Nat.le_refl _) ((padW D).flatMap Wea.cells) 0).setCell (p := ⟨w.heap.size + 1, 0, none⟩) (Nat.le_succ _) .nilIface
    have r3 := R3.out
    have r4 := R4.out
    clear R3 R4
    generalize (W.setCells w.heap.size 0 ((padW D).flatMap Wea.cells)).setCell ⟨w.heap.size + 1, 0, none⟩ .nilIface = V at kv hbv r3 r4 ⊢
    refine ⟨by simp, .inl ⟨_, _, rfl, run_takeDeferred kv, ?_⟩⟩
    have c1 := OwnD.of _ (owns_not r3 (grownBy_putObj' V Dd (.deferred none)) (fun r e => by cases e; exact ⟨_, kv, rfl⟩))
    have c2 := boxed_not r4 (grownBy_putObj' V Dd (.deferred none)) (fun r e => by cases e; exact ⟨_, kv, rfl⟩)
    exact ⟨.tuple #[dayV (padW D), .nilIface], results_dayE Tryd.results77 HLEN.out rfl rfl c1 c2, .inr ⟨padW D, hfin, rfl⟩, hbv.trans (belowK_b (w := w) (Nat.le_refl _) V Dd _ _ (by omega) kv rfl rfl)⟩
  case stop =>
    rintro Dd cc pre W hDd hpre ⟨rfl, ⟨hwhy, hc1, hc2⟩, hbw⟩ hK
    have hno : R = none := by
      rw [← HR.out, HS.out]
      rcases hwhy with hw | hw
      · rw [readL_prefix hw hpre]
      · cases hrl : readL readW (splitB 32 s.data.toList) with
        | none => rfl
        | some E =>
          have h1 := readL_len hrl
          have h2 := hpre.length_le
          rw [parts_len] at h2
          simp only
          rw [if_neg (by omega)]
    clear hwhy
    gi_wp2
    refine ⟨by simp, .inl ⟨_, _, rfl, run_takeDeferred hK, ?_⟩⟩
    have c1 := OwnD.of (d := noDay) _ (by rw [noDay_cells]; exact owns_not hc1 (grownBy_putObj' W Dd (.deferred none)) (fun r e => by cases e; exact ⟨_, hK, rfl⟩))
    have c2 := boxed_not hc2 (grownBy_putObj' W Dd (.deferred none)) (fun r e => by cases e; exact ⟨_, hK, rfl⟩)
    exact ⟨.tuple #[dayV noDay, errV (e 4)], results_dayE Tryd.results77 noDay_len rfl rfl c1 c2, .inl ⟨hno, rfl⟩, hbw.trans (belowK_b (w := w) (Nat.le_refl _) W Dd _ _ (by omega) hK rfl rfl)⟩
end Go.Proofs.YtjfimmfnhlimkaaDoor.rd

/-
  Days read from a text: ReadDay of the program.
-/
namespace Go.Proofs.YtjfimmfnhlimkaaDoor.rd
open Go Go.RowKit sl dec txt errs hang day
attribute [local go_sem] Oper.semAt_some

theorem kindW_fits {t : List UInt8} {D : List Wea} (h : kindW t = some D) : (∀ x ∈ D, x.Fits) ∧ D.length = 24 := by
  rw [kindW] at h
  cases hr : readL readW (splitB 32 t) with
  | none => rw [hr] at h; cases h
  | some E =>
    rw [hr] at h
    simp only at h
    by_cases hl : E.length ≤ 24
    · rw [if_pos hl] at h
      obtain rfl := Option.some.inj h
      refine ⟨fun x hx => ?_, padW_len hl⟩
      rw [padW, List.mem_append] at hx
      rcases hx with hx | hx
      · exact readL_all (fun p x hp => readW_fits hp) hr x hx
      · rw [List.eq_of_mem_replicate hx]
        constructor <;> decide
    · rw [if_neg hl] at h; cases h
theorem progW_kind (s : ByteArray) : progW s.data.toList = match kindW s.data.toList with | some D => if dayText D = s then some D else none | none => none := by
  rw [progW, kindW]
  cases hr : readL readW (splitB 32 s.data.toList) with
  | none => rfl
  | some E =>
    simp only
    by_cases hl : E.length ≤ 24
    · rw [if_pos hl]
      simp only
      rw [bsJ_of]
      by_cases hc : dayText (padW E) = s
      · rw [if_pos hc, if_pos ⟨hl, hc⟩]
      · rw [if_neg hc, if_neg fun h => hc h.2]
    · rw [if_neg hl, if_neg fun h => hl h.1]
theorem wpl_load_dayG {ops : Array Oper} {rest : List Oper} {op : Oper} {a : Act} {u : World} {Q : Exit → Act → World → Prop} (hw : Region.wanted op (yielded ops a.tmps) = true) (x : Operand) (ho : op.op = .load 40 x) (b : Nat) (hx : a.eval x = .pointer (some ⟨b, 0, none⟩))
    {d : List Wea} (hd : d.length = 24) (h : DayAt u b d) (hK : wpList Tryd.prog ops Q rest (a.put op.dst (dayV d)) u) : wpList Tryd.prog ops Q (op :: rest) a u :=
  wpList_step fun K hK' => by
    rw [if_pos hw]
    exact wp_load_mid 40 x ho b 0 hx (d.flatMap Wea.cells) _ h.row Tryd.underlying40 rfl (by rw [infoD, flat_len (Wea.len d), hd]) (hK' _ _ hK)
set_option maxRecDepth 100000 in
set_option maxHeartbeats 4000000 in
theorem ReadDay_any (s : ByteArray) (hs : s.size ≤ 1048576) (L : List Wea) (k : Nat) (hr : rdW s.data.toList = (L, k)) {w : World} {B : Nat} {e : Nat → Addr} (h : Errs w B e) (hn : NE w B) (hB : B ≤ w.heap.size) (ht : TabJ w) :
    Calls Tryd.prog 27 #[.string s] w fun o w' => o = .returned (.tuple #[dayV L, .int .i64 k]) ∧ Below w.heap.size w w' := by
  obtain ⟨R, hR⟩ : ∃ R, kindW s.data.toList = R := ⟨_, rfl⟩
  have hzz : ∀ u : World, (zeroValue 40).run Tryd.prog u = .ok (.agg zeroCs) u := (zero_of_info zeroD).1
  have O0 := Lib.hid (OwnD.new zeroCs zeroCs_size (B := w.heap.size) w (Nat.le_refl _))
  have B0 : Hid (Below w.heap.size w (w.alloc (.cells zeroCs 40))) := Lib.hid ((Below.refl _ _).alloc (Nat.le_refl _) _)
  have hBz : B ≤ (w.alloc (.cells zeroCs 40)).heap.size := by simp; omega
  have HRC := Lib.hid (readDay_any s hs (h.below (B0.out.mono hB)) (hn.below (B0.out.mono hB)) hBz R hR)
  have HE := Lib.hid (fun (u : World) (hu : Below w.heap.size w u) => h.below (hu.mono hB))
  have HTB := Lib.hid ht
  have hp := progW_kind s
  rw [hR] at hp
  rw [rdW, hp] at hr
  have HK := Lib.hid hR
  have HR2 := Lib.hid hr
  clear hR hr hp h hn ht
  go_enter Tryd.func27, Tryd.ntmps27
  go_wp2_with fail
  refine HRC.out.mono ?_
  rintro o w1 ⟨⟨rfl, rfl⟩ | ⟨D, rfl, rfl⟩, hb⟩
  · have hr := HR2.out
    try simp only at hr
    obtain ⟨hL, rfl⟩ := Prod.mk.inj hr
    have hLl : L.length = 24 := by rw [← hL]; exact noDay_len
    have HLL := Lib.hid hLl
    have HL := Lib.hid hL
    rw [hL]
    have B1 := below_next B0.out hb (by simp)
    have o1 : OwnD (w1.alloc (.cells zeroCs 40)) w.heap.size w1.heap.size zeroCs.toList := OwnD.new zeroCs zeroCs_size w1 B1.size
    have HT1 := Lib.hid (OwnD.there o1)
    have o0 := owns_next O0.out hb
    have hlt : w.heap.size < w1.heap.size := (o0.lt _ rfl).2
    have hBV : Below w.heap.size w ((w1.alloc (.cells zeroCs 40)).setCells w1.heap.size 0 (L.flatMap Wea.cells)) := below_cells (B1.alloc B1.size _) B1.size _ _
    have oV : OwnD ((w1.alloc (.cells zeroCs 40)).setCells w1.heap.size 0 (L.flatMap Wea.cells)) w.heap.size w.heap.size zeroCs.toList :=
      owns_other (owns_next o0 ((Below.refl w1.heap.size w1).alloc (Nat.le_refl _) (.cells zeroCs 40))) (owns_cells (o := 0) (vs := L.flatMap Wea.cells) o1).2 (own_ne (by omega))
    have HBV := Lib.hid hBV
    have HOV := Lib.hid oV
    clear hb hr hL hLl HR2 HRC B1 o1 o0 hBV oV O0 B0 HK
    go_wp2_with (first | (refine wpl_store_day rfl (.tmp 4) (.tmp 9) rfl w1.heap.size rfl HLL.out rfl HT1.out ?_) | fail)
    generalize (w1.alloc (.cells zeroCs 40)).setCells w1.heap.size 0 (L.flatMap Wea.cells) = V at HBV HOV ⊢
    refine (codeOf_any (HE.out _ HBV.out) 5 (by decide)).mono ?_
    rintro o u ⟨rfl, rfl⟩
    go_wp2_with (first | (rw [store_zero (OwnD.there HOV.out)]) | fail)
    exact bodyPost_ret (v := .tuple #[dayV L, .int .i64 5]) (results_dayT (d := L) (b := w.heap.size) Tryd.results27 HLL.out rfl (by rw [← HL.out]; exact stored_zero (HOV.out.lt _ rfl).2 (OwnD.there HOV.out))) rfl ⟨rfl, below_cells HBV.out (Nat.le_refl _) _ _⟩
  · obtain ⟨hf, hlen⟩ := kindW_fits HK.out
    have HF := Lib.hid hf
    have HLD := Lib.hid hlen
    have B1 := below_next B0.out hb (by simp)
    have o1 : OwnD (w1.alloc (.cells zeroCs 40)) w.heap.size w1.heap.size zeroCs.toList := OwnD.new zeroCs zeroCs_size w1 B1.size
    have HT1 := Lib.hid (OwnD.there o1)
    have o0 := owns_next O0.out hb
    have hlt : w.heap.size < w1.heap.size := (o0.lt _ rfl).2
    have hBV : Below w.heap.size w ((w1.alloc (.cells zeroCs 40)).setCells w1.heap.size 0 (D.flatMap Wea.cells)) := below_cells (B1.alloc B1.size _) B1.size _ _
    have o2 := owns_cells (o := 0) (vs := D.flatMap Wea.cells) o1
    have oV : OwnD ((w1.alloc (.cells zeroCs 40)).setCells w1.heap.size 0 (D.flatMap Wea.cells)) w.heap.size w.heap.size zeroCs.toList :=
      owns_other (owns_next o0 ((Below.refl w1.heap.size w1).alloc (Nat.le_refl _) (.cells zeroCs 40))) o2.2 (own_ne (by omega))
    have o3 := o2.1
    rw [setList_all (by rw [flat_len (Wea.len D), hlen]; simp [zeroCs])] at o3
    have HBV := Lib.hid hBV
    have HOV := Lib.hid oV
    have HDV := Lib.hid (OwnD.of _ o3)
    clear hb HRC B1 o1 o0 hBV oV O0 B0 HK o2 o3 hf hlen
    go_wp2_with (first | (refine wpl_store_day rfl (.tmp 4) (.tmp 9) rfl w1.heap.size rfl HLD.out rfl HT1.out ?_) | (refine wpl_load_dayG (by rfl) (.tmp 4) rfl w1.heap.size rfl HLD.out HDV.out ?_) | fail)
    have hg1 : w.heap.size < w1.heap.size := hlt
    clear hlt
    generalize (w1.alloc (.cells zeroCs 40)).setCells w1.heap.size 0 (D.flatMap Wea.cells) = V at HBV HOV HDV ⊢
    refine (DayText_any D HLD.out HF.out _ (fun w' hw' => HTB.out w' (HBV.out.trans (hw'.mono HBV.out.size)))).mono ?_
    rintro o w2 ⟨rfl, hb2⟩
    have HB2 := Lib.hid (below_next HBV.out hb2 (Nat.le_refl _))
    have HOV2 := Lib.hid (owns_next HOV.out hb2)
    have HDV2 := Lib.hid (HDV.out.next hb2)
    clear hb2 HBV HOV HDV
    have hr := HR2.out
    try simp only at hr
    clear HR2
    obtain ⟨T, hT⟩ : ∃ T, dayText D = T := ⟨_, rfl⟩
    rw [hT] at hr ⊢
    by_cases hc : T = s
    · rw [if_pos hc] at hr
      try simp only at hr
      obtain ⟨rfl, rfl⟩ := Prod.mk.inj hr
      have hbe : (T.toList == s.toList) = true := by rw [hc]; simp
      clear hr hT hc
      have HT0 := Lib.hid (OwnD.there HOV2.out)
      go_wp2_with (first | (refine wpl_load_day rfl (.tmp 4) rfl w1.heap.size rfl HLD.out HDV2.out ?_) | (refine wpl_store_day rfl (.tmp 2) (.tmp 25) rfl w.heap.size rfl HLD.out rfl HT0.out ?_) | fail)
      exact bodyPost_ret (v := .tuple #[dayV D, .int .i64 0]) (results_dayT (d := D) (b := w.heap.size) Tryd.results27 HLD.out rfl (stored_day HLD.out (HOV2.out.lt _ rfl).2 HT0.out)) rfl ⟨rfl, below_cells HB2.out (Nat.le_refl _) _ _⟩
    · rw [if_neg hc] at hr
      try simp only at hr
      obtain ⟨hL, rfl⟩ := Prod.mk.inj hr
      have hLl : L.length = 24 := by rw [← hL]; exact noDay_len
      have HLL := Lib.hid hLl
      have HL := Lib.hid hL
      have hbe : (T.toList == s.toList) = false := bytes_ne hc
      have hce : w2.cell? ⟨0, 0, none⟩ = some (errV (e 4)) := (HE.out _ HB2.out).c4
      clear hr hT hc hL hLl
      go_wp2_with fail
      refine (codeOf_any (HE.out _ HB2.out) 5 (by decide)).mono ?_
      rintro o u ⟨rfl, rfl⟩
      go_wp2_with (first | (rw [store_zero (OwnD.there HOV2.out)]) | fail)
      exact bodyPost_ret (v := .tuple #[dayV L, .int .i64 5]) (results_dayT (d := L) (b := w.heap.size) Tryd.results27 HLL.out rfl (by rw [← HL.out]; exact stored_zero (HOV2.out.lt _ rfl).2 (OwnD.there HOV2.out))) rfl ⟨rfl, below_cells HB2.out (Nat.le_refl _) _ _⟩
end Go.Proofs.YtjfimmfnhlimkaaDoor.rd

/-
  A day is equal to itself: eqDay of the laws.
-/
namespace Go.Proofs.YtjfimmfnhlimkaaDoor.rd
open Go Go.RowKit sl dec txt errs hang day

abbrev Six (b b' o : Nat) (x : Wea) (W u : World) : Prop :=
  u.cell? ⟨b, o, none⟩ = some (.int .i8 x.sun) ∧ u.cell? ⟨b, o + 1, none⟩ = some (.int .i8 x.wind) ∧ u.cell? ⟨b, o + 2, none⟩ = some (.int .i8 x.rain) ∧ u.cell? ⟨b', o, none⟩ = some (.int .i8 x.sun) ∧ u.cell? ⟨b', o + 1, none⟩ = some (.int .i8 x.wind) ∧ u.cell? ⟨b', o + 2, none⟩ = some (.int .i8 x.rain) ∧ Below W.heap.size W u
theorem Six.next {b b' o : Nat} {x : Wea} {W u v : World} (h : Six b b' o x W u) (hp : b < W.heap.size) (hp' : b' < W.heap.size) (hb : Below u.heap.size u v) : Six b b' o x W v := by
  obtain ⟨h0, h1, h2, h3, h4, h5, hB⟩ := h
  have k := hb.mono hB.size
  exact ⟨(k.cell (p := ⟨b, o, none⟩) hp).trans h0, (k.cell (p := ⟨b, o + 1, none⟩) hp).trans h1, (k.cell (p := ⟨b, o + 2, none⟩) hp).trans h2, (k.cell (p := ⟨b', o, none⟩) hp').trans h3, (k.cell (p := ⟨b', o + 1, none⟩) hp').trans h4, (k.cell (p := ⟨b', o + 2, none⟩) hp').trans h5, hB.trans k⟩
theorem Six.below {b b' o : Nat} {x : Wea} {W u : World} (h : Six b b' o x W u) : Below W.heap.size W u := h.2.2.2.2.2.2
set_option maxRecDepth 100000 in
set_option maxHeartbeats 4000000 in
theorem eqDay_same (d : List Wea) (hd : d.length = 24) (w : World) :
    Calls Tryd.prog 28 #[dayV d, dayV d] w fun o w' => o = .returned (.bool true) ∧ Below w.heap.size w w' := by
  have HD := Lib.hid hd
  clear hd
  have A0 := Lib.hid (DayAt.new d 40 w)
  go_enter Tryd.func28, Tryd.ntmps28
  go_wp2_with fail
  obtain ⟨u, hu⟩ : ∃ u, u = (w.alloc (.cells (dayCs d) 40)).alloc (.cells (dayCs d) 40) := ⟨_, rfl⟩
  have A1 : DayAt u w.heap.size d := by rw [hu]; exact A0.out.next ((Below.refl _ _).alloc (Nat.le_refl _) _)
  have A2 : DayAt u (w.heap.size + 1) d := by
    have h := DayAt.new d 40 (w.alloc (.cells (dayCs d) 40))
    rw [World.size_alloc] at h
    rw [hu]
    exact h
  have B0 : Below w.heap.size w u := by rw [hu]; exact ((Below.refl _ _).alloc (Nat.le_refl _) _).alloc (by simp) _
  rw [← hu]
  have HA1 := Lib.hid A1
  have HA2 := Lib.hid A2
  have HB0 := Lib.hid B0
  clear hu A1 A2 B0 A0
  go_loopw [5] (fun vi wr => ∃ k : Nat, k ≤ 24 ∧ vi = .int .i64 (k : Nat) ∧ DayAt wr w.heap.size d ∧ DayAt wr (w.heap.size + 1) d ∧ Below w.heap.size w wr) (fun vi _ => 24 - (intOf vi).toNat)
  case atStart => exact ⟨0, by omega, rfl, HA1.out, HA2.out, HB0.out⟩
  case round =>
    clear HA1 HA2 HB0
    obtain ⟨k, hk, rfl, hA, hA2, hB⟩ := hrel
    by_cases hlt : k < 24
    · obtain ⟨x, hx⟩ : ∃ x, d[k]? = some x := ⟨d[k]'(by have := HD.out; omega), List.getElem?_eq_getElem _⟩
      obtain ⟨c0, c1, c2⟩ := hA.get hx
      obtain ⟨e0, e1, e2⟩ := hA2.get hx
      have hp := hA.lt
      have hp' := hA2.lt
      have H8 : Hid (Six w.heap.size (w.heap.size + 1) (k * 3) x wr wr) := Lib.hid ⟨c0, c1, c2, e0, e1, e2, Below.refl _ _⟩
      have HA := Lib.hid hA
      have HA2 := Lib.hid hA2
      have HB := Lib.hid hB
      have hee : Wea.eq x x = true := (Wea.eq_iff x x).2 rfl
      clear hx hA hA2 hB
      go_wp2_with fail
      go_region_held3 (fun u => u.cell? ⟨w.heap.size, k * 3, none⟩ = some (.int .i8 x.sun) ∧ u.cell? ⟨w.heap.size, k * 3 + 1, none⟩ = some (.int .i8 x.wind) ∧ u.cell? ⟨w.heap.size, k * 3 + 2, none⟩ = some (.int .i8 x.rain) ∧ u.cell? ⟨w.heap.size + 1, k * 3, none⟩ = some (.int .i8 x.sun) ∧ u.cell? ⟨w.heap.size + 1, k * 3 + 1, none⟩ = some (.int .i8 x.wind) ∧ u.cell? ⟨w.heap.size + 1, k * 3 + 2, none⟩ = some (.int .i8 x.rain) ∧ Below wr.heap.size wr u)
        (first | exact H8.out.next hp hp' (below_drewN _ wr 1) | exact Six.next (by assumption) hp hp' hb2)
        (first | (go_at_call 78; refine (weaS.eq_any x x _).mono ?_; rintro e w2 ⟨rfl, hb2⟩) | fail)
      go_wp2_with fail
      all_goals first
        | (exfalso; simp_all; done)
        | skip
      have hbb := Six.below (b := w.heap.size) (b' := w.heap.size + 1) (o := k * 3) (x := x) (by assumption)
      go_roundw
      case rel => exact ⟨k + 1, by omega, by go_num, HA.out.next hbb, HA2.out.next hbb, below_next HB.out hbb (Nat.le_refl _)⟩
      case measure => simp [intOf]; omega
    · go_wp2_with fail
      go_ret
      exact ⟨rfl, hB⟩
end Go.Proofs.YtjfimmfnhlimkaaDoor.rd
