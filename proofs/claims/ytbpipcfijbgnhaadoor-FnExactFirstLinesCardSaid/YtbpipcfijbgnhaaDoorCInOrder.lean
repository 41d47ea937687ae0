/-
  Contracts of InOrder, the program's and the model's.
-/
import Derived.Test.YtbpipcfijbgnhaaDoorOrderI
import Derived.Test.YtbpipcfijbgnhaaDoorOwn
import Derived.Test.YtbpipcfijbgnhaaDoorPlaces
namespace Go.Proofs.YtbpipcfijbgnhaaDoor.hang
open Go.RowKit sl errs

/-- cloths in an order -/
def turn (xs : List Clo) (os : List Int) : List Clo := os.map fun k => xs.getD k.toNat ⟨0, 0⟩
theorem turn_len (xs : List Clo) (os : List Int) : (turn xs os).length = os.length := by simp [turn]
theorem turn_at {xs : List Clo} {os : List Int} {k j : Nat} {x : Clo} (hk : os[k]? = some (j : Int)) (hx : xs[j]? = some x) : (turn xs os)[k]? = some x := by
  simp [turn, hk, List.getD, hx]
theorem turn_take {xs : List Clo} {os : List Int} {k j : Nat} {x : Clo} (hk : os[k]? = some (j : Int)) (hx : xs[j]? = some x) : turn xs (os.take (k + 1)) = turn xs (os.take k) ++ [x] := by
  rw [take_snoc hk]
  simp [turn, List.getD, hx]
/-- a list of cloths of the call's own, and a number -/
def OwnC (w : World) (ys : List Clo) (z : Int) (o : Ending) (w' : World) : Prop :=
  ∃ v, o = .returned (.tuple #[v, .int .i64 z]) ∧ w'.ownsRow w.heap.size 27 2 v ys.length (ys.flatMap Clo.cells) ∧ Below w.heap.size w w'
def OwnC1 (w : World) (ys : List Clo) (o : Ending) (w' : World) : Prop :=
  ∃ v, o = .returned v ∧ w'.ownsRow w.heap.size 27 2 v ys.length (ys.flatMap Clo.cells) ∧ Below w.heap.size w w'
theorem ownsC_none (w : World) (b : Nat) : w.ownsRow b 27 2 (.slice none 0 0) ([] : List Clo).length (([] : List Clo).flatMap Clo.cells) := World.ownsRow_nil w b 27 2
theorem ownsC_void (w : World) {b : Nat} (hb : b ≤ w.heap.size) : (w.alloc (.cells #[] 27)).ownsRow b 27 2 (.slice (some ⟨w.heap.size, 0, none⟩) 0 0) ([] : List Clo).length (([] : List Clo).flatMap Clo.cells) :=
  World.ownsRow_lit w #[] 0 hb (by unfold maxLen; simp) rfl
def codeOrd (xs : List Clo) (ok : Bool) : Nat := if codeMany xs 100 = 0 then (if ok = true then 0 else 4) else codeMany xs 100
theorem codeOrd_le (xs : List Clo) (ok : Bool) : codeOrd xs ok ≤ 4 := by
  have := codeMany_le xs 100
  unfold codeOrd
  split
  · split <;> omega
  · omega
theorem codeOrd_zero {xs : List Clo} {ok : Bool} (h : codeOrd xs ok = 0) : codeMany xs 100 = 0 ∧ ok = true := by
  unfold codeOrd at h
  split at h
  · rename_i h0
    split at h
    · rename_i h1
      exact ⟨h0, h1⟩
    · omega
  · omega
theorem first1 (c : Nat) : firstCode [c] = c := by cases c <;> rfl
theorem first3 (a b c : Nat) : firstCode [a, b, c] = if firstCode [a, b] = 0 then c else firstCode [a, b] := by
  cases a with
  | zero =>
    cases b with
    | zero => exact first1 c
    | succ b => rfl
  | succ a => rfl
theorem codeO3 (xs : List Clo) (n k1 k2 k3 : Nat) (ok : Bool) (en : n = xs.length) (h1 : k1 = if xs.all Clo.valid = true then 0 else 1) (h2 : k2 = if 100 < n then 3 else 0) (h3 : k3 = if ok = true then 0 else 4) :
    firstCode [k1, k2, k3] = codeOrd xs ok := by
  rw [first3, code2 xs n 100 k1 k2 en h1 h2, h3]
  rfl
def inRes (xs : List Clo) (os : List Int) (code : Nat) : List Clo := if code = 0 then turn xs os else []
theorem inRes_fine {xs : List Clo} {os : List Int} {code : Nat} (h : code = 0) : inRes xs os code = turn xs os := by rw [inRes, if_pos h]
theorem inRes_fails {xs : List Clo} {os : List Int} {code : Nat} (h : code ≠ 0) : inRes xs os code = [] := by rw [inRes, if_neg h]
/-- the index at a place -/
theorem index_at {n : Nat} {os : List Int} {k : Nat} {xs : List Clo} (hg : goodP n os os.length) (hn : n = xs.length) (hk : k < os.length) : ∃ (j : Nat) (x : Clo), os[k]? = some (j : Int) ∧ j < n ∧ xs[j]? = some x := by
  have hx : os[k]? = some os[k] := List.getElem?_eq_getElem hk
  obtain ⟨h0, h1, _⟩ := hg k _ hk hx
  refine ⟨(os[k]).toNat, xs[(os[k]).toNat]'(by omega), ?_, by omega, List.getElem?_eq_getElem _⟩
  rw [hx]
  congr 1
  omega
theorem two_new (w : World) (u v : Value) (T : TypeId) : ∀ (j : Nat) x, [u, v][j]? = some x → (w.alloc (.cells #[u, v] T)).cell? ((⟨w.heap.size, 0, none⟩ : Addr).add j) = some x := by
  intro j x hj
  rw [add_lit, cell_of_row _ _ _ _ _ _ (heap_alloc_new w _)]
  simpa using hj
theorem two_cell {u v : Value} (hu : u.oneCell' = true) (hv : v.oneCell' = true) : ∀ x ∈ [u, v], x.oneCell' = true := by
  intro x hx
  rcases List.mem_cons.1 hx with rfl | hx
  · exact hu
  · rw [List.mem_singleton.1 hx]; exact hv
set_option maxRecDepth 100000 in
set_option maxHeartbeats 4000000 in
theorem l02In_any (A : Option Addr) (n c : Nat) (xs : List Clo) (en : n = xs.length) (hn : n ≤ 1048576) (A' : Option Addr) (m c' : Nat) (os : List Int) (em : m = os.length) (hm : m ≤ 1048576) (hg : goodP n os os.length) (w : World) (hx : Sl Clo.cells 2 w w.heap.size A xs) (ho : Sl intS.C 1 w w.heap.size A' os) :
    Calls Tryd.prog 66 #[.slice A n c, .slice A' m c'] w (OwnC1 w (turn xs os)) := by
  obtain ⟨i0, hi, hz0, hz1, hz2⟩ := info_parts cloS.info
  have En := Lib.hid en
  have Em := Lib.hid em
  have HG := Lib.hid hg
  clear en em hg
  go_enter Tryd.func66, Tryd.ntmps66
  have HB0 := Lib.hid ((Below.refl w.heap.size w).alloc (Nat.le_refl _) (.cells #[] 27))
  have HP0 := Lib.hid (ownsC_void w (Nat.le_refl _))
  go_wp2_with fail
  go_loopw [5, 6] (fun vo vi wr => ∃ k : Nat, k ≤ m ∧ vi = .int .i64 k ∧ wr.ownsRow w.heap.size 27 2 vo k ((turn xs (os.take k)).flatMap Clo.cells) ∧ Below w.heap.size w wr) (fun _ vi _ => m - (intOf vi).toNat)
  case atStart => exact ⟨0, by omega, rfl, HP0.out, HB0.out⟩
  case round =>
    clear HB0 HP0
    obtain ⟨k, hk, rfl, hP, hB⟩ := hrel
    have HP := Lib.hid hP
    have HB := Lib.hid hB
    by_cases hlt : k < m
    · obtain ⟨j, x, hk1, hj, hx1⟩ := index_at (k := k) HG.out En.out (by have := Em.out; omega)
      obtain ⟨a, rfl, hab, hat⟩ := (ho.below hB).at_ k _ hk1
      have q0 := intS.at_ hat
      obtain ⟨a', rfl, hab', hat'⟩ := (hx.below hB).at_ j x hx1
      obtain ⟨r0, r1⟩ := cloS.at_ hat'
      have HT := Lib.hid (turn_take hk1 hx1)
      have hBs := hB.size
      clear hk1 hx1 hat hat' hP hB
      go_wp2_with (first | (at_builtin; refine wpList_append_own _ rfl (.tmp 14) (.tmp 22) 34 rfl w.heap.size 27 i0 (.agg #[.int .i16 0, .int .i16 0]) 2 4 Tryd.underlying34 hi hz0 hz1 hz2 rfl (by decide) _ _ _ rfl (HP.out.alloc _) ⟨_, 0, none⟩ 1 1 [.int .i16 x.wide, .int .i16 x.heavy] rfl rfl (two_new _ _ _ _) (two_cell rfl rfl) (by unfold maxLen; omega) (by omega) (by simp; omega) ?_; intro v3 w3 hP3 hgr _; have HB3 := Lib.hid (Below.grown (HB.out.alloc HB.out.size _) hgr (by have := HB.out.size; simp; omega) (fun g hg => (HP.out.lt g hg).1)); have HP3 := Lib.hid hP3; clear hP3 hgr) | fail)
      go_roundw
      case rel =>
        have hp3 := HP3.out
        have e : (turn xs (os.take (k + 1))).flatMap Clo.cells = (turn xs (os.take k)).flatMap Clo.cells ++ [.int .i16 x.wide, .int .i16 x.heavy] := by rw [HT.out]; simp
        rw [← e] at hp3
        exact ⟨k + 1, by omega, by go_num, hp3, HB3.out⟩
      case measure => simp [intOf]; omega
    · obtain rfl : k = m := by omega
      have e : os.take k = os := List.take_of_length_le (by have := Em.out; omega)
      have e2 : (turn xs os).length = k := by rw [turn_len]; exact Em.out.symm
      rw [e] at hP
      have HR : Hid (∀ v, wr.ownsRow w.heap.size 27 2 v k ((turn xs os).flatMap Clo.cells) → OwnC1 w (turn xs os) (.returned v) wr) := Lib.hid fun v h => ⟨v, rfl, by rw [e2]; exact h, HB.out⟩
      have HP2 := Lib.hid hP
      clear e e2 hP hB
      go_wp2_with fail
      go_ret
      exact HR.out _ HP2.out
set_option maxRecDepth 100000 in
set_option maxHeartbeats 8000000 in
theorem InOrder_any (A : Option Addr) (n c : Nat) (xs : List Clo) (en : n = xs.length) (hn : n ≤ 1048576) (hf : ∀ x ∈ xs, x.Fits) (A' : Option Addr) (m c' : Nat) (os : List Int) (em : m = os.length) (hm : m ≤ 1048576) {w : World} {B : Nat} {e : Nat → Addr} (h : Errs w B e) (hB : B ≤ w.heap.size) (hx : Sl Clo.cells 2 w w.heap.size A xs) (ho : Sl intS.C 1 w w.heap.size A' os) (code : Nat) (hcode : code = codeOrd xs (ordB n os)) :
    Calls Tryd.prog 34 #[.slice A n c, .slice A' m c'] w (OwnC w (inRes xs os code) code) := by
  obtain ⟨ok, hok⟩ : ∃ b, ordB n os = b := ⟨_, rfl⟩
  obtain ⟨k1, hk1⟩ : ∃ k : Nat, k = if xs.all Clo.valid = true then 0 else 1 := ⟨_, rfl⟩
  obtain ⟨k2, hk2⟩ : ∃ k : Nat, k = if 100 < n then 3 else 0 := ⟨_, rfl⟩
  obtain ⟨k3, hk3⟩ : ∃ k : Nat, k = if ordB n os = true then 0 else 4 := ⟨_, rfl⟩
  have HF : Hid (firstCode [k1, k2, k3] = code) := Lib.hid ((codeO3 xs n k1 k2 k3 _ en hk1 hk2 hk3).trans hcode.symm)
  have HC0 := Lib.hid hcode
  have HK1 := Lib.hid hk1
  have HK2 := Lib.hid hk2
  have HK3 := Lib.hid hk3
  have En := Lib.hid en
  have Em := Lib.hid em
  have hle : code ≤ 4 := by rw [hcode]; exact codeOrd_le _ _
  obtain ⟨i0, hi, hz0, hz1, hz2⟩ := info_parts cloS.info
  have hmk : ∀ u : World, (Instr.makeSlice 34 (.int .i64 (n : Int)) (.int .i64 (n : Int))).run Tryd.prog u =
      .ok (.slice (some ⟨u.heap.size, 0, none⟩) n n) (u.alloc (.cells (madeCells #[.int .i16 0, .int .i16 0] (n * 2)) 27)) := fun u => by
    have h := run_make (P := Tryd.prog) u 34 27 i0 _ Tryd.underlying34 hi hz0 .i64 .i64 (n : Int) (n : Int) (by omega) (Int.le_refl _) (by rw [hz2]; omega) (by omega)
    have e : ((n : Int)).toNat = n := by omega
    rw [e] at h
    simpa [hz1, Value.cells] using h
  clear hk1 hk2 hk3 en em hok hcode
  go_enter Tryd.func34, Tryd.ntmps34
  go_wp2_with fail
  refine (checkCloths_any A n c xs En.out (by omega) hf h hB hx k1 HK1.out).mono ?_
  rintro o w1 ⟨rfl, hb1⟩
  have S1 := Lib.hid hb1
  clear hb1
  go_wp2_with fail
  refine (checkClothCount_any A n c 100 (by omega) (by omega) (h.below (S1.out.mono hB)) k2 HK2.out).mono ?_
  rintro o w2 ⟨rfl, rfl⟩
  go_wp2_with fail
  refine (checkOrder_any n hn A' m c' os Em.out hm (h.below (S1.out.mono hB)) (Nat.le_trans hB S1.out.size) (ho.next S1.out) k3 HK3.out).mono ?_
  rintro o w2 ⟨rfl, hb2⟩
  have S2 := Lib.hid (below_next S1.out hb2 (Nat.le_refl _))
  clear hb2 S1
  go_wp2_with (refine wpList_listed rfl 95 3 _ rfl #[(0, errOf e k1), (1, errOf e k2), (2, errOf e k3)] ?hp (buildSlice3 e k1 k2 k3 _) ?_; case hp => simp [Act.eval])
  refine (firstOf_any e [k1, k2, k3] _ 3 3 rfl (by decide) _ (cells_errs e [k1, k2, k3] w2 69 #[errOf e k1, errOf e k2, errOf e k3] rfl)).mono ?_
  rintro o w3 ⟨rfl, rfl⟩
  rw [HF.out]
  have S4 := Lib.hid (S2.out.alloc S2.out.size (.cells #[errOf e k1, errOf e k2, errOf e k3] 69))
  obtain ⟨w9, hw9⟩ : ∃ w9, w9 = w2.alloc (.cells #[errOf e k1, errOf e k2, errOf e k3] 69) := ⟨_, rfl⟩
  rw [← hw9] at S4 ⊢
  have H2 := Lib.hid (h.below (S4.out.mono hB))
  clear hw9 S2
  cases hc : code with
  | zero =>
    rw [hc] at HF HC0
    have e0 : errOf e 0 = .nilIface := rfl
    rw [e0]
    have HZ := Lib.hid hc
    clear hc e0
    have hz := codeOrd_zero HC0.out.symm
    have HG := Lib.hid (ordB_parts hz.2)
    have hmn : m = n := by have := HG.out.1; have := Em.out; omega
    subst hmn
    have hP0 := World.ownsRow_lit (base := w.heap.size) (e := 27) (size := 2) w9 (madeCells #[.int .i16 0, .int .i16 0] (m * 2)) m S4.out.size (by unfold maxLen; omega) (size_madeCells _ _)
    have HP0 := Lib.hid hP0
    have HB0 := Lib.hid (S4.out.alloc S4.out.size (.cells (madeCells #[.int .i16 0, .int .i16 0] (m * 2)) 27))
    obtain ⟨g, hg⟩ : ∃ g, g = w9.heap.size := ⟨_, rfl⟩
    have hgw : w.heap.size ≤ g := by rw [hg]; exact S4.out.size
    rw [← hg] at HP0
    have HGG := Lib.hid hg
    clear hP0 hz
    go_wp2_with fail
    rw [← HGG.out]
    clear hg
    go_loopw [29, 8, 9] (fun vi _ _ wr => ∃ k L, k ≤ m ∧ vi = .int .i64 (k : Nat) ∧ wr.ownsRow w.heap.size 27 2 (.slice (some ⟨g, 0, none⟩) m m) m L ∧ Done Clo.cells 2 (turn xs os) k L ∧ Below w.heap.size w wr) (fun vi _ _ _ => m - (intOf vi).toNat)
    case atStart => exact ⟨0, _, by omega, rfl, HP0.out, Done.zero _ _ _ _, HB0.out⟩
    case round =>
      clear HP0 HB0
      obtain ⟨k, L, hk, rfl, hP, hD, hB2⟩ := hrel
      have HD := Lib.hid hD
      by_cases hlt : k < m
      · obtain ⟨j, x, hk1, hj, hx1⟩ := index_at (k := k) HG.out.2 En.out (by have := Em.out; omega)
        obtain ⟨a, rfl, hab, hat⟩ := (ho.below hB2).at_ k _ hk1
        have q0 := intS.at_ hat
        obtain ⟨a', rfl, hab', hat'⟩ := (hx.below hB2).at_ j x hx1
        obtain ⟨r0, r1⟩ := cloS.at_ hat'
        have HT := Lib.hid (turn_at hk1 hx1)
        have hLL := hP.1
        obtain ⟨v0, s0⟩ : ∃ v, wr.cell? ⟨g, k * 2, none⟩ = some v := ⟨L[k * 2]'(by omega), (hP.cellAt (k * 2) (by omega)).trans (List.getElem?_eq_getElem _)⟩
        have f0 := hP.frozenAt (k * 2)
        obtain ⟨v1, s1⟩ : ∃ v, wr.cell? ⟨g, k * 2 + 1, none⟩ = some v := ⟨L[k * 2 + 1]'(by omega), (hP.cellAt (k * 2 + 1) (by omega)).trans (List.getElem?_eq_getElem _)⟩
        have f1 := hP.frozenAt (k * 2 + 1)
        have HLL := Lib.hid hLL
        have HP := Lib.hid hP
        have HB := Lib.hid hB2
        clear hk1 hx1 hat hat' hP hD hLL hB2
        go_wp2_with fail
        go_roundw
        case rel =>
          have hP3 := (owns_cells (o := k * 2) (vs := x.cells) HP.out).1
          exact ⟨k + 1, _, by omega, by go_num, hP3, HD.out.step (Clo.len _) HT.out (by rw [HLL.out, turn_len, ← Em.out]), below_cells HB.out hgw x.cells (k * 2)⟩
        case measure => simp [intOf]; omega
      · obtain rfl : k = m := by omega
        have hl := Em.out
        have e1 : L = (turn xs os).flatMap Clo.cells := Done.full (by rw [turn_len, ← hl]; exact hD) (Clo.len _) (by omega) (by rw [hP.1, turn_len, hl])
        have e2 : (turn xs os).length = k := by rw [turn_len]; exact hl.symm
        have HR : Hid (OwnC w (turn xs os) 0 (.returned (.tuple #[.slice (some ⟨g, 0, none⟩) k k, .int .i64 0])) wr) := Lib.hid ⟨_, rfl, by rw [e2, ← e1]; exact hP, hB2⟩
        clear hP hB2 hD e1 e2 hl
        go_wp2_with fail
        go_ret2
        rw [inRes_fine HZ.out, HZ.out]
        exact HR.out
  | succ i =>
    rw [hc] at HF HC0 hle
    have e0 : errOf e (i + 1) = errV (e i) := rfl
    rw [e0]
    have HZ := Lib.hid hc
    clear hc e0
    go_wp2_with fail
    refine (codeOf_any H2.out (i + 1) (by omega)).mono ?_
    rintro o w3 ⟨rfl, rfl⟩
    go_wp2_with fail
    go_ret2
    rw [inRes_fails (by rw [HZ.out]; omega), HZ.out]
    exact ⟨_, rfl, ownsC_none _ _, S4.out⟩
theorem l02Order_v (n : Nat) (hn : n ≤ 1048576) (A : Option Addr) (m : Nat) (os : List Int) (em : m = os.length) (hm : m ≤ 1048576) (w : World) (hg : Sl intS.C 1 w w.heap.size A os) (b : Bool) (hb : ordB n os = b) :
    Calls Tryd.prog 65 #[.int .i64 n, .slice A m m] w fun o w' => o = .returned (.bool b) ∧ Below w.heap.size w w' := by
  subst hb
  exact l02Order_any n hn A m os em hm w hg
set_option maxRecDepth 100000 in
set_option maxHeartbeats 8000000 in
theorem InOrder_spec (A : Option Addr) (n c : Nat) (xs : List Clo) (en : n = xs.length) (hn : n ≤ 1048576) (hf : ∀ x ∈ xs, x.Fits) (A' : Option Addr) (m : Nat) (os : List Int) (em : m = os.length) (hm : m ≤ 1048576) (w : World) (hx : Sl Clo.cells 2 w w.heap.size A xs) (ho : Sl intS.C 1 w w.heap.size A' os) (code : Nat) (hcode : code = codeOrd xs (ordB n os)) :
    Calls Tryd.prog 32 #[.slice A n c, .slice A' m m] w (OwnC w (inRes xs os code) code) := by
  obtain ⟨k0, hk0⟩ : ∃ k, k = codeMany xs 100 := ⟨_, rfl⟩
  have HK := Lib.hid hk0
  have En := Lib.hid en
  have Em := Lib.hid em
  cases k0 with
  | zero =>
    cases hok : ordB n os with
    | true =>
      have hz : code = 0 := by rw [hcode, codeOrd, if_pos hk0.symm, hok]; rfl
      subst hz
      have HG := Lib.hid (ordB_parts hok).2
      have HO := Lib.hid hok
      clear hk0 en em hok hcode
      rw [inRes_fine rfl]
      go_enter Tryd.func32, Tryd.ntmps32
      go_wp2_with fail
      refine (l02Many_any A n c 100 xs En.out (by omega) (by omega) hf _ _ hx 0 HK.out).mono ?_
      rintro o w1 ⟨rfl, rfl⟩
      go_wp2_with fail
      refine (l02Order_v n hn A' m os Em.out hm _ ho true HO.out).mono ?_
      rintro o w1 ⟨rfl, hb1⟩
      have S1 := Lib.hid hb1
      clear hb1
      go_wp2_with fail
      refine (l02In_any A n c xs En.out hn A' m m os Em.out hm HG.out _ (hx.next S1.out) (ho.next S1.out)).mono ?_
      rintro o w2 ⟨v, rfl, hP, hb2⟩
      have HP := Lib.hid (owns_below hP S1.out.size)
      have S2 := Lib.hid (below_next S1.out hb2 (Nat.le_refl _))
      clear hP hb2
      go_wp2_with fail
      go_ret2
      exact ⟨v, rfl, HP.out, S2.out⟩
    | false =>
      have hz : code = 4 := by rw [hcode, codeOrd, if_pos hk0.symm, hok]; rfl
      subst hz
      have HO := Lib.hid hok
      clear hk0 en em hok hcode
      rw [inRes_fails (by decide)]
      go_enter Tryd.func32, Tryd.ntmps32
      go_wp2_with fail
      refine (l02Many_any A n c 100 xs En.out (by omega) (by omega) hf _ _ hx 0 HK.out).mono ?_
      rintro o w1 ⟨rfl, rfl⟩
      go_wp2_with fail
      refine (l02Order_v n hn A' m os Em.out hm _ ho false HO.out).mono ?_
      rintro o w1 ⟨rfl, hb1⟩
      have S1 := Lib.hid hb1
      clear hb1
      go_wp2_with fail
      go_ret2
      exact ⟨_, rfl, ownsC_void _ S1.out.size, S1.out.alloc S1.out.size _⟩
  | succ i =>
    have hz : code = i + 1 := by rw [hcode, codeOrd, if_neg (by omega), ← hk0]
    subst hz
    clear hk0 en em hcode
    rw [inRes_fails (by omega)]
    have hne : (((i + 1 : Nat) : Int) != 0) = true := by rw [bne_iff_ne]; omega
    have hne2 : (((i : Int) + 1) != 0) = true := by rw [bne_iff_ne]; omega
    have hne3 : (((i : Int) + 1) == 0) = false := by rw [beq_eq_false_iff_ne]; omega
    have hne4 : (((i + 1 : Nat) : Int) == 0) = false := by rw [beq_eq_false_iff_ne]; omega
    go_enter Tryd.func32, Tryd.ntmps32
    go_wp2_with fail
    refine (l02Many_any A n c 100 xs En.out (by omega) (by omega) hf _ _ hx (i + 1) HK.out).mono ?_
    rintro o w1 ⟨rfl, rfl⟩
    go_wp2_with fail
    go_ret2
    exact ⟨_, by simp, ownsC_void _ (Nat.le_refl _), (Below.refl _ _).alloc (Nat.le_refl _) _⟩
end Go.Proofs.YtbpipcfijbgnhaaDoor.hang
