/-
  Several texts of this proof, joined.
-/
import Derived.Test.YtjfimmfnhlimkaaDoorRdNum
import Derived.Test.YtjfimmfnhlimkaaDoorJoin13
import Derived.Maps.AppendAt
import Derived.OrdersHeld
import Derived.Deep.RegionHeld
import Derived.BigQuiet
/-
  Texts split at a byte: pure, and the model's l01Split.
-/
namespace Go.Proofs.YtjfimmfnhlimkaaDoor.rd
open Go Go.RowKit sl dec txt fold

/-- a text split at each such byte -/
def splitB (b : UInt8) : List UInt8 → List (List UInt8)
  | [] => [[]]
  | c :: r => if c = b then [] :: splitB b r else match splitB b r with | [] => [[c]] | p :: ps => (c :: p) :: ps
/-- .. with a piece begun -/
def glueB (q : List UInt8) : List (List UInt8) → List (List UInt8)
  | [] => [q]
  | p :: ps => (q ++ p) :: ps
theorem splitB_ne (b : UInt8) (l : List UInt8) : splitB b l ≠ [] := by
  cases l with
  | nil => simp [splitB]
  | cons c r =>
    unfold splitB
    split
    · simp
    · split <;> simp
theorem glueB_nil {L : List (List UInt8)} (h : L ≠ []) : glueB [] L = L := by
  cases L with
  | nil => exact absurd rfl h
  | cons p ps => rfl
theorem splitB_at {b : UInt8} {l : List UInt8} {i : Nat} {c : UInt8} (h : l[i]? = some c) (q : List UInt8) :
    glueB q (splitB b (l.drop i)) = if c = b then q :: splitB b (l.drop (i + 1)) else glueB (q ++ [c]) (splitB b (l.drop (i + 1))) := by
  obtain ⟨hi, rfl⟩ := List.getElem?_eq_some_iff.1 h
  rw [List.drop_eq_getElem_cons hi]
  by_cases e : l[i] = b
  · rw [if_pos e, splitB, if_pos e, glueB, List.append_nil]
  · rw [if_neg e, splitB, if_neg e]
    cases hs : splitB b (l.drop (i + 1)) with
    | nil => exact absurd hs (splitB_ne _ _)
    | cons p ps => simp [glueB]
theorem extract_bs (s : ByteArray) (k i : Nat) : s.extract k i = bsJ ((s.data.toList.take i).drop k) := by
  apply ByteArray.ext
  apply Array.toList_inj.1
  simp [List.drop_take]
theorem flat_snocJ (D : List (List UInt8)) (p : List UInt8) : D.flatMap sJ ++ sJ p = (D ++ [p]).flatMap sJ := by simp
set_option maxRecDepth 100000 in
set_option maxHeartbeats 4000000 in
theorem l01Split_any (s : ByteArray) (hs : s.size ≤ 1048576) (b : UInt8) (w : World) :
    Calls Tryd.prog 68 #[.string s, .int .u8 (b.toNat : Nat)] w fun o w' => ∃ v, o = .returned v ∧ w'.ownsRow w.heap.size 9 1 v (splitB b s.data.toList).length ((splitB b s.data.toList).flatMap sJ) ∧ Below w.heap.size w w' := by
  obtain ⟨i0, hI, hz0, hz1, hz2⟩ := info_parts infoJ
  obtain ⟨RES, hRES⟩ : ∃ q, splitB b s.data.toList = q := ⟨_, rfl⟩
  rw [hRES]
  have HRES := Lib.hid hRES
  have HN0 : Hid ((w.alloc (.cells #[] 9)).ownsRow w.heap.size 9 1 (.slice (some ⟨w.heap.size, 0, none⟩) 0 0) 0 (([] : List (List UInt8)).flatMap sJ)) := Lib.hid (World.ownsRow_made w #[] 0 (Nat.le_refl _) (Nat.zero_le _) rfl)
  have HB0 : Hid (Below w.heap.size w (w.alloc (.cells #[] 9))) := Lib.hid ((Below.refl _ _).alloc (Nat.le_refl _) _)
  clear hRES
  go_enter Tryd.func68, Tryd.ntmps68
  go_wp2_with fail
  go_loopw [5, 6, 7] (fun vo vb vi wr => ∃ (i k : Nat) (D : List (List UInt8)), k ≤ i ∧ i ≤ s.size ∧ vb = .int .i64 (k : Nat) ∧ vi = .int .i64 (i : Nat) ∧ wr.ownsRow w.heap.size 9 1 vo D.length (D.flatMap sJ) ∧ D.length ≤ i ∧
    D ++ glueB ((s.data.toList.take i).drop k) (splitB b (s.data.toList.drop i)) = RES ∧ Below w.heap.size w wr) (fun _ _ vi _ => s.size - (intOf vi).toNat)
  case atStart => exact ⟨0, 0, [], by omega, by omega, rfl, rfl, HN0.out, by simp, by simp only [List.nil_append, List.take_zero, List.drop_nil, List.drop_zero]; rw [glueB_nil (splitB_ne _ _)]; exact HRES.out, HB0.out⟩
  case round =>
    clear HN0 HB0
    obtain ⟨i, k, D, hk, hi, rfl, rfl, hP, hdl, hres, hB⟩ := hrel
    obtain ⟨Ao, co, rfl, _⟩ := owns_slice hP
    have HP := Lib.hid hP
    have HR := Lib.hid hres
    have HB := Lib.hid hB
    clear hP hres hB
    by_cases hlt : i < s.size
    · have hat := at_byteR s i hlt
      have hg := splitB_at (b := b) hat ((s.data.toList.take i).drop k)
      by_cases hc : s[i] = b
      · rw [if_pos hc] at hg
        obtain ⟨p, hp⟩ : ∃ p : List UInt8, p = (s.data.toList.take i).drop k := ⟨_, rfl⟩
        have hex : s.extract k i = bsJ p := by rw [hp]; exact extract_bs s k i
        obtain ⟨w9, hw9⟩ : ∃ u, u = wr.alloc (.cells #[.string (bsJ p)] 9) := ⟨_, rfl⟩
        have hb9 : Below wr.heap.size wr w9 := by rw [hw9]; exact (Below.refl _ _).alloc (Nat.le_refl _) _
        have HP9 := Lib.hid (owns_next HP.out hb9)
        have HB9 := Lib.hid (below_next HB.out hb9 (Nat.le_refl _))
        have HZ9 : Hid (w9.heap.size = wr.heap.size + 1 ∧ w.heap.size ≤ wr.heap.size) := Lib.hid ⟨by rw [hw9]; simp, HB.out.size⟩
        have HW9 := Lib.hid hw9
        have HPP := Lib.hid hp
        have HNX : Hid ((D ++ [p]) ++ glueB ((s.data.toList.take (i + 1)).drop (i + 1)) (splitB b (s.data.toList.drop (i + 1))) = RES) := Lib.hid (by
          have h1 := HR.out
          rw [hg] at h1
          have e : (s.data.toList.take (i + 1)).drop (i + 1) = [] := List.drop_eq_nil_of_le (by simp; omega)
          rw [e, glueB_nil (splitB_ne _ _), hp, List.append_assoc]
          exact h1)
        have hcc : s[i].toNat = b.toNat := by rw [hc]
        have k0 : (0 : Int) ≤ (k : Int) := by omega
        have k1 : (k : Int) ≤ (i : Int) := by omega
        have k2 : (i : Int) ≤ (s.size : Int) := by omega
        clear hat hg hp hw9 hb9
        go_wp2_with (first | (at_builtin; rw [← HW9.out]; go_must (refine wpList_append_own_at _ rfl (.tmp 20) (.tmp 25) 96 rfl w.heap.size 9 i0 (.string ⟨#[]⟩) 1 16 Tryd.underlying96 hI hz0 hz1 hz2 rfl (by decide) _ _ _ rfl HP9.out ⟨_, 0, none⟩ 1 1 [.string (bsJ p)] rfl rfl (fun j u hj => by rw [HW9.out]; exact one_newB _ _ _ _ rfl j u hj) (one_cellI (by rfl)) (by unfold maxLen; omega) (by omega) (by have := HZ9.out; omega) ?_); intro v3 w10 hP10 hgr _ _; have HG10 := Lib.hid hgr; have HP10 := Lib.hid hP10; have B10 := Lib.hid (Below.grown (Below.refl w.heap.size w9) hgr (by have := HZ9.out; omega) (fun k hk => (HP9.out.lt k hk).1)); clear hP10 hgr) | fail)
        go_roundw
        case rel => exact ⟨i + 1, i + 1, D ++ [p], by omega, by omega, by first | rfl | go_num, by first | rfl | go_num, by rw [← flat_snocJ, List.length_append]; exact HP10.out, by simp; omega, HNX.out, HB9.out.trans B10.out⟩
        case measure => simp [intOf]; omega
      · rw [if_neg hc] at hg
        have HNX : Hid (D ++ glueB ((s.data.toList.take (i + 1)).drop k) (splitB b (s.data.toList.drop (i + 1))) = RES) := Lib.hid (by
          have h1 := HR.out
          rw [hg] at h1
          have e : (s.data.toList.take (i + 1)).drop k = (s.data.toList.take i).drop k ++ [s[i]] := by
            rw [all_take hat, List.drop_append_of_le_length (by simp; omega)]
          rw [e]
          exact h1)
        have hcc : ¬ s[i].toNat = b.toNat := fun e => hc (UInt8.toNat_inj.1 e)
        clear hat hg hc
        go_wp2_with fail
        go_roundw
        case rel => exact ⟨i + 1, k, D, by omega, by omega, rfl, by first | rfl | go_num, HP.out, by omega, HNX.out, HB.out⟩
        case measure => simp [intOf]; omega
    · have hie : i = s.size := by omega
      obtain ⟨p, hp⟩ : ∃ p : List UInt8, p = (s.data.toList.take i).drop k := ⟨_, rfl⟩
      have hex : s.extract k i = bsJ p := by rw [hp]; exact extract_bs s k i
      obtain ⟨w9, hw9⟩ : ∃ u, u = wr.alloc (.cells #[.string (bsJ p)] 9) := ⟨_, rfl⟩
      have hb9 : Below wr.heap.size wr w9 := by rw [hw9]; exact (Below.refl _ _).alloc (Nat.le_refl _) _
      have HP9 := Lib.hid (owns_next HP.out hb9)
      have HB9 := Lib.hid (below_next HB.out hb9 (Nat.le_refl _))
      have HZ9 : Hid (w9.heap.size = wr.heap.size + 1 ∧ w.heap.size ≤ wr.heap.size) := Lib.hid ⟨by rw [hw9]; simp, HB.out.size⟩
      have HW9 := Lib.hid hw9
      have HPP := Lib.hid hp
      have HNX : Hid (D ++ [p] = RES) := Lib.hid (by
        have h1 := HR.out
        have e : s.data.toList.drop i = [] := List.drop_eq_nil_of_le (by simp [hie])
        rw [e, splitB, glueB, List.append_nil, ← hp] at h1
        exact h1)
      have k0 : (0 : Int) ≤ (k : Int) := by omega
      have k1 : (k : Int) ≤ (s.size : Int) := by omega
      have hex2 : s.extract k s.size = bsJ p := by rw [← hie]; exact hex
      have hdl2 : D.length ≤ 1048576 := by omega
      clear hp hw9 hb9 hex hie
      go_wp2_with (first | (at_builtin; rw [← HW9.out]; go_must (refine wpList_append_own_at _ rfl (.tmp 29) (.tmp 33) 96 rfl w.heap.size 9 i0 (.string ⟨#[]⟩) 1 16 Tryd.underlying96 hI hz0 hz1 hz2 rfl (by decide) _ _ _ rfl HP9.out ⟨_, 0, none⟩ 1 1 [.string (bsJ p)] rfl rfl (fun j u hj => by rw [HW9.out]; exact one_newB _ _ _ _ rfl j u hj) (one_cellI (by rfl)) (by unfold maxLen; omega) (by omega) (by have := HZ9.out; omega) ?_); intro v3 w10 hP10 hgr _ _; have HG10 := Lib.hid hgr; have HP10 := Lib.hid hP10; have B10 := Lib.hid (Below.grown (Below.refl w.heap.size w9) hgr (by have := HZ9.out; omega) (fun k hk => (HP9.out.lt k hk).1)); clear hP10 hgr) | fail)
      go_ret
      exact ⟨v3, rfl, by rw [← HNX.out, ← flat_snocJ, List.length_append]; exact HP10.out, HB9.out.trans B10.out⟩
end Go.Proofs.YtjfimmfnhlimkaaDoor.rd

/-
  Several numbers read from a text, with bytes between them: pure.
-/
namespace Go.Proofs.YtjfimmfnhlimkaaDoor.rd
open Go Go.RowKit sl dec txt

/-- the numbers of a text with these marks between them -/
def numsF : List UInt8 → List UInt8 → Option (List Nat)
  | [], l => (numO l).map fun n => [n]
  | m :: ms, l => match l.dropWhile isDig with
    | [] => none
    | c :: r => if c = m then (match numO (l.takeWhile isDig) with | some n => (numsF ms r).map fun ys => n :: ys | none => none) else none
/-- the text of numbers with marks between them -/
def joinM : List Nat → List UInt8 → List UInt8
  | [], _ => []
  | n :: _, [] => Lib.decDigits n
  | n :: r, m :: ms => Lib.decDigits n ++ m :: joinM r ms
theorem numsF_cons {m : UInt8} {ms l : List UInt8} {ys : List Nat} (h : numsF (m :: ms) l = some ys) : ∃ n r zs, l.dropWhile isDig = m :: r ∧ numO (l.takeWhile isDig) = some n ∧ numsF ms r = some zs ∧ ys = n :: zs := by
  rw [numsF] at h
  cases hd : l.dropWhile isDig with
  | nil => rw [hd] at h; cases h
  | cons c r =>
    rw [hd] at h
    simp only at h
    by_cases hc : c = m
    · rw [if_pos hc] at h
      cases hn : numO (l.takeWhile isDig) with
      | none => rw [hn] at h; cases h
      | some n =>
        rw [hn] at h
        simp only at h
        cases hz : numsF ms r with
        | none => rw [hz] at h; cases h
        | some zs =>
          rw [hz] at h
          exact ⟨n, r, zs, by rw [hc], rfl, hz, (Option.some.inj h).symm⟩
    · rw [if_neg hc] at h; cases h
theorem numsF_iff : ∀ {marks l : List UInt8} {ys : List Nat}, (∀ m ∈ marks, isDig m = false) → (numsF marks l = some ys ↔ ys.length = marks.length + 1 ∧ (∀ y ∈ ys, y < 1000000000) ∧ l = joinM ys marks)
  | [], l, ys, _ => by
    rw [numsF]
    constructor
    · intro h
      cases hn : numO l with
      | none => rw [hn] at h; cases h
      | some n =>
        rw [hn] at h
        obtain rfl : [n] = ys := Option.some.inj h
        obtain ⟨h1, h2⟩ := numO_iff.1 hn
        exact ⟨rfl, fun y hy => by rw [List.mem_singleton.1 hy]; exact h2, h1⟩
    · rintro ⟨h1, h2, h3⟩
      obtain ⟨n, rfl⟩ := List.length_eq_one_iff.1 h1
      have h4 : numO l = some n := numO_iff.2 ⟨h3, h2 n (List.mem_singleton.2 rfl)⟩
      rw [h4]
      rfl
  | m :: ms, l, ys, hm => by
    have ih := fun (r : List UInt8) (zs : List Nat) => numsF_iff (marks := ms) (l := r) (ys := zs) fun x hx => hm x (List.mem_cons_of_mem _ hx)
    constructor
    · intro h
      obtain ⟨n, r, zs, hd, hn, hz, rfl⟩ := numsF_cons h
      obtain ⟨i1, i2, i3⟩ := (ih r zs).1 hz
      obtain ⟨h1, h2⟩ := numO_iff.1 hn
      refine ⟨by rw [List.length_cons, List.length_cons, i1], fun y hy => ?_, ?_⟩
      · rcases List.mem_cons.1 hy with rfl | hy
        · exact h2
        · exact i2 y hy
      · rw [joinM, ← h1, ← i3, ← hd]
        exact (List.takeWhile_append_dropWhile).symm
    · rintro ⟨h1, h2, h3⟩
      cases ys with
      | nil => simp at h1
      | cons n zs =>
        rw [joinM] at h3
        have hmd : isDig m = false := hm m (List.mem_cons_self ..)
        have hall := (dec_props n).1
        have ht : l.takeWhile isDig = Lib.decDigits n := by
          rw [h3, List.takeWhile_append_of_pos hall, List.takeWhile_cons_of_neg (by rw [hmd]; decide), List.append_nil]
        have hd : l.dropWhile isDig = m :: joinM zs ms := by
          rw [h3, List.dropWhile_append_of_pos hall, List.dropWhile_cons_of_neg (by rw [hmd]; decide)]
        have hz : numsF ms (joinM zs ms) = some zs := (ih _ zs).2 ⟨by simpa using h1, fun y hy => h2 y (List.mem_cons_of_mem _ hy), rfl⟩
        rw [numsF, hd]
        simp only
        rw [if_pos trivial, ht, numO_iff.2 ⟨rfl, h2 n (List.mem_cons_self ..)⟩]
        simp only
        rw [hz]
        rfl
/-- numbers read are told by their text -/
theorem joinM_inj {marks : List UInt8} (hm : ∀ m ∈ marks, isDig m = false) {ys zs : List Nat} (hy : ys.length = marks.length + 1) (hz : zs.length = marks.length + 1) (h1 : ∀ y ∈ ys, y < 1000000000) (h2 : ∀ y ∈ zs, y < 1000000000) (h : joinM ys marks = joinM zs marks) : ys = zs := by
  have a := (numsF_iff (l := joinM ys marks) hm).2 ⟨hy, h1, rfl⟩
  have b := (numsF_iff (l := joinM zs marks) hm).2 ⟨hz, h2, rfl⟩
  rw [h, b] at a
  exact (Option.some.inj a).symm
/-- pieces joined by a byte that they do not have are split into themselves -/
theorem splitB_piece (b : UInt8) : ∀ (p : List UInt8), b ∉ p → ∀ r, splitB b (p ++ r) = glueB p (splitB b r)
  | [], _, r => (glueB_nil (splitB_ne b r)).symm
  | c :: p, h, r => by
    have hc : ¬ c = b := fun e => h (by rw [e]; exact List.mem_cons_self ..)
    have ih := splitB_piece b p (fun hx => h (List.mem_cons_of_mem _ hx)) r
    rw [List.cons_append, splitB, if_neg hc, ih]
    cases hs : splitB b r with
    | nil => exact absurd hs (splitB_ne b r)
    | cons q qs => simp [glueB]
theorem splitB_join (b : UInt8) : ∀ {ls : List (List UInt8)}, ls ≠ [] → (∀ l ∈ ls, b ∉ l) → splitB b (Lib.join ls [b]) = ls
  | [], h, _ => absurd rfl h
  | [p], _, h => by
    have h1 := splitB_piece b p (h p (List.mem_cons_self ..)) []
    rw [List.append_nil] at h1
    rw [Lib.join_one, h1]
    simp [splitB, glueB]
  | p :: q :: r, _, h => by
    have ih := splitB_join b (ls := q :: r) (by simp) fun l hl => h l (List.mem_cons_of_mem _ hl)
    have e : Lib.join (p :: q :: r) [b] = p ++ (b :: Lib.join (q :: r) [b]) := by
      simp [Lib.join_cons, Lib.joinTail]
    rw [e, splitB_piece b p (h p (List.mem_cons_self ..)), splitB, if_pos rfl, ih, glueB, List.append_nil]
theorem join_splitB (b : UInt8) : ∀ (l : List UInt8), Lib.join (splitB b l) [b] = l
  | [] => by simp [splitB, Lib.join_one]
  | c :: r => by
    have ih := join_splitB b r
    unfold splitB
    by_cases hc : c = b
    · rw [if_pos hc]
      cases hs : splitB b r with
      | nil => exact absurd hs (splitB_ne b r)
      | cons p ps =>
        rw [hs] at ih
        have e : Lib.join ([] :: p :: ps) [b] = b :: Lib.join (p :: ps) [b] := by simp [Lib.join_cons, Lib.joinTail]
        rw [e, ih, hc]
    · rw [if_neg hc]
      cases hs : splitB b r with
      | nil => exact absurd hs (splitB_ne b r)
      | cons p ps =>
        rw [hs] at ih
        simp only
        rw [Lib.join_cons] at ih ⊢
        rw [List.cons_append, ih]
end Go.Proofs.YtjfimmfnhlimkaaDoor.rd

/-
  Several numbers read from a text: the model's l01Numbers.
-/
namespace Go.Proofs.YtjfimmfnhlimkaaDoor.rd
open Go Go.RowKit sl dec txt fold

theorem seg_rest {l : List UInt8} {k i : Nat} (hk : k ≤ i) (hi : i ≤ l.length) (hd : ∀ c ∈ (l.take i).drop k, isDig c = true) (hc : ∀ c, l[i]? = some c → isDig c = false) :
    (l.drop k).takeWhile isDig = (l.take i).drop k ∧ (l.drop k).dropWhile isDig = l.drop i := by
  have e : l.drop k = (l.take i).drop k ++ l.drop i := by
    conv => lhs; rw [← List.take_append_drop i l]
    rw [List.drop_append_of_le_length (by rw [List.length_take]; omega)]
  rw [e, List.takeWhile_append_of_pos hd, List.dropWhile_append_of_pos hd]
  cases hr : l.drop i with
  | nil => simp
  | cons c r =>
    have h1 : l[i]? = some c := by rw [← List.head?_drop, hr]; rfl
    have h2 := hc c h1
    rw [List.takeWhile_cons_of_neg (by rw [h2]; decide), List.dropWhile_cons_of_neg (by rw [h2]; decide), List.append_nil]
    exact ⟨rfl, rfl⟩
/-- the step of the loop where a piece ends -/
theorem numsF_stop {M l : List UInt8} {k i : Nat} (hk : k ≤ i) (hi : i ≤ l.length) (hd : ∀ c ∈ (l.take i).drop k, isDig c = true) (hc : ∀ c, l[i]? = some c → isDig c = false) :
    numsF M (l.drop k) = match M, l.drop i with
      | [], [] => (numO ((l.take i).drop k)).map fun n => [n]
      | m :: ms, c :: r => if c = m then (match numO ((l.take i).drop k) with | some n => (numsF ms r).map fun ys => n :: ys | none => none) else none
      | _, _ => none := by
  obtain ⟨h1, h2⟩ := seg_rest hk hi hd hc
  cases M with
  | nil =>
    rw [numsF]
    cases hr : l.drop i with
    | nil =>
      have e : l.drop k = (l.take i).drop k := by
        have := List.takeWhile_append_dropWhile (p := isDig) (l := l.drop k)
        rw [h1, h2, hr, List.append_nil] at this
        exact this.symm
      rw [e]
    | cons c r =>
      have h3 : l[i]? = some c := by rw [← List.head?_drop, hr]; rfl
      have h4 := hc c h3
      have hmem : c ∈ l.drop k := by
        have := List.takeWhile_append_dropWhile (p := isDig) (l := l.drop k)
        rw [← this, h2, hr]
        simp
      have hno : numO (l.drop k) = none := by
        by_cases hb : badN (l.drop k)
        · exact numO_bad hb
        · exact numO_no hb fun e => by
            have := List.all_eq_true.1 e c hmem
            rw [h4] at this
            cases this
      rw [hno]
      rfl
  | cons m ms =>
    rw [numsF, h1, h2]
    cases l.drop i with
    | nil => rfl
    | cons c r => rfl
abbrev natI (ys : List Nat) : List Int := ys.map fun (n : Nat) => (n : Int)
theorem flat_snocN (D : List Nat) (n : Nat) : (natI D).flatMap intS.C ++ [.int .i64 (n : Int)] = (natI (D ++ [n])).flatMap intS.C := by simp
theorem number_bs (p : List UInt8) (hp : p.length ≤ 1048576) (w : World) :
    Calls Tryd.prog 112 #[.string (bsJ p)] w fun o w' => o = .returned (.tuple #[.int .i64 (numV (numO p)), .bool (numO p).isSome]) ∧ w' = w :=
  l01Number_any (bsJ p) (by simp [ByteArray.size]; omega) w
set_option maxRecDepth 100000 in
set_option maxHeartbeats 8000000 in
theorem l01Numbers_any (s mk : ByteArray) (hs : s.size ≤ 1048576) (hm : mk.size ≤ 100) (w : World) :
    Calls Tryd.prog 69 #[.string s, .string mk] w fun o w' => ∃ v ys, o = .returned (.tuple #[v, .bool (numsF mk.data.toList s.data.toList).isSome]) ∧ (∀ zs, numsF mk.data.toList s.data.toList = some zs → ys = zs) ∧ w'.ownsRow w.heap.size 2 1 v ys.length ((natI ys).flatMap intS.C) ∧ Below w.heap.size w w' := by
  obtain ⟨i0, hI, hz0, hz1, hz2⟩ := info_parts intS.info
  obtain ⟨RES, hRES⟩ : ∃ q, numsF mk.data.toList s.data.toList = q := ⟨_, rfl⟩
  rw [hRES]
  have HRES := Lib.hid hRES
  have hml : mk.data.toList.length = mk.size := by simp
  have hsl : s.data.toList.length = s.size := by simp
  have HML := Lib.hid (And.intro hml hsl)
  have HN0 : Hid ((w.alloc (.cells #[] 2)).ownsRow w.heap.size 2 1 (.slice (some ⟨w.heap.size, 0, none⟩) 0 0) 0 ((natI []).flatMap intS.C)) := Lib.hid (World.ownsRow_made w #[] 0 (Nat.le_refl _) (Nat.zero_le _) rfl)
  have HB0 : Hid (Below w.heap.size w (w.alloc (.cells #[] 2))) := Lib.hid ((Below.refl _ _).alloc (Nat.le_refl _) _)
  clear hRES hml hsl
  go_enter Tryd.func69, Tryd.ntmps69
  go_wp2_with fail
  go_loopw [6, 7, 8, 9, 10, 11] (fun vo vb vi _ _ _ wr => ∃ (i k : Nat) (D : List Nat), k ≤ i ∧ i ≤ s.size + 1 ∧ vb = .int .i64 (k : Nat) ∧ vi = .int .i64 (i : Nat) ∧ wr.ownsRow w.heap.size 2 1 vo D.length ((natI D).flatMap intS.C) ∧
    ((i ≤ s.size ∧ D.length ≤ mk.size ∧ (∀ c ∈ (s.data.toList.take i).drop k, isDig c = true) ∧ (numsF (mk.data.toList.drop D.length) (s.data.toList.drop k)).map (fun ys => D ++ ys) = RES) ∨ (i = s.size + 1 ∧ RES = some D ∧ D.length = mk.size + 1)) ∧ Below w.heap.size w wr) (fun _ _ vi _ _ _ _ => s.size + 1 - (intOf vi).toNat)
  case atStart => exact ⟨0, 0, [], by omega, by omega, rfl, rfl, HN0.out, .inl ⟨by omega, by simp, (fun c hc => by simp at hc), by simp [HRES.out]⟩, HB0.out⟩
  case round =>
    clear HN0 HB0
    obtain ⟨i, k, D, hk, hi, rfl, rfl, hP, hor, hB⟩ := hrel
    obtain ⟨Ao, co, rfl, _⟩ := owns_slice hP
    have HP := Lib.hid hP
    have HB := Lib.hid hB
    clear hP hB
    rcases hor with ⟨his, hDm, hdig, hres⟩ | ⟨hie, hres, hDl⟩
    · have HDG := Lib.hid hdig
      have HR := Lib.hid hres
      clear hdig hres
      by_cases hlt : i < s.size
      · have hat := at_byteR s i hlt
        by_cases hd : isDig s[i] = true
        · obtain ⟨d0, d1⟩ := of_decide_eq_true hd
          have HNX : Hid (∀ c ∈ (s.data.toList.take (i + 1)).drop k, isDig c = true) := Lib.hid (fun c hc => by
            rw [all_take hat, List.drop_append_of_le_length (by simp; omega)] at hc
            rcases List.mem_append.1 hc with h | h
            · exact HDG.out c h
            · rw [List.mem_singleton.1 h]; exact hd)
          have n48 : (48 : Int) ≤ (s[i].toNat : Int) := by omega
          have n57 : (s[i].toNat : Int) ≤ 57 := by omega
          clear hd hat d0 d1
          go_wp2_with fail
          go_roundw
          case rel => exact ⟨i + 1, k, D, by omega, by omega, rfl, by first | rfl | go_num, HP.out, .inl ⟨by omega, hDm, HNX.out, HR.out⟩, HB.out⟩
          case measure => simp [intOf]; omega
        · have hdf : isDig s[i] = false := by simpa using hd
          have hstop := numsF_stop (M := mk.data.toList.drop D.length) hk (by have := HML.out.2; omega) HDG.out (fun c hc => by rw [hat] at hc; injection hc with hc; rw [← hc]; exact hdf)
          rw [List.drop_eq_getElem_cons (l := s.data.toList) (i := i) (by have := HML.out.2; omega)] at hstop
          have hdd : (s[i].toNat : Int) < 48 ∨ (57 : Int) < (s[i].toNat : Int) := by
            rcases Nat.lt_or_ge s[i].toNat 48 with h | h
            · exact .inl (by omega)
            · rcases Nat.lt_or_ge 57 s[i].toNat with h2 | h2
              · exact .inr (by omega)
              · exact absurd (decide_eq_true ⟨h, h2⟩) hd
          obtain ⟨p, hp⟩ : ∃ p : List UInt8, p = (s.data.toList.take i).drop k := ⟨_, rfl⟩
          have hex : s.extract k i = bsJ p := by rw [hp]; exact extract_bs s k i
          rw [← hp] at hstop
          have hpl : p.length ≤ 1048576 := by have := HML.out.2; rw [hp, List.length_drop, List.length_take]; omega
          have HCALL : Hid (∀ w1, Calls Tryd.prog 112 #[.string (bsJ p)] w1 fun o w' => o = .returned (.tuple #[.int .i64 (numV (numO p)), .bool (numO p).isSome]) ∧ w' = w1) := Lib.hid fun w1 => number_bs p hpl w1
          have HST := Lib.hid hstop
          have k0 : (0 : Int) ≤ (k : Int) := by omega
          have k1 : (k : Int) ≤ (i : Int) := by omega
          have k2 : (i : Int) ≤ (s.size : Int) := by omega
          cases hno : numO p with
          | none =>
            obtain ⟨q, hq⟩ : ∃ q : Int, numV none = q := ⟨_, rfl⟩
            rw [hno] at HCALL
            have hR : RES = none := by
              rw [← HR.out, HST.out, hno]
              cases mk.data.toList.drop D.length with
              | nil => rfl
              | cons m ms => simp
            subst hR
            clear hd hat hdf hstop hp hpl hno HST HDG
            rcases hdd with hdd | hdd
            · go_wp2_with (first | (go_at_call 112; refine (HCALL.out _).mono ?_; rintro o w2 ⟨rfl, rfl⟩) | fail)
              go_quiet (fail)
              go_wp2_with fail
              go_ret2
              exact ⟨_, D, by first | rfl | simp, (fun zs h => by cases h), owns_next HP.out (below_drewN _ _ _), HB.out.trans (below_drewN _ _ _)⟩
            · go_wp2_with (first | (go_at_call 112; refine (HCALL.out _).mono ?_; rintro o w2 ⟨rfl, rfl⟩) | fail)
              go_quiet (fail)
              go_wp2_with fail
              go_ret2
              exact ⟨_, D, by first | rfl | simp, (fun zs h => by cases h), owns_next HP.out (below_drewN _ _ _), HB.out.trans (below_drewN _ _ _)⟩
          | some n =>
            rw [hno] at HCALL
            have hqn : numV (some n) = (n : Int) := rfl
            rw [hqn] at HCALL
            by_cases hat1 : D.length < mk.size
            · have hmat := at_byteR mk D.length hat1
              have hdm := List.drop_eq_getElem_cons (l := mk.data.toList) (i := D.length) (by have := HML.out.1; omega)
              have hme : mk.data.toList[D.length]'(by have := HML.out.1; omega) = mk[D.length] := by
                have := (List.getElem?_eq_some_iff.1 hmat).2; exact this
              have hse : s.data.toList[i]'(by have := HML.out.2; omega) = s[i] := by
                have := (List.getElem?_eq_some_iff.1 hat).2; exact this
              rw [hme] at hdm
              by_cases hce : s[i] = mk[D.length]
              · have HNX : Hid ((numsF (mk.data.toList.drop (D ++ [n]).length) (s.data.toList.drop (i + 1))).map (fun ys => (D ++ [n]) ++ ys) = RES) := Lib.hid (by
                  rw [← HR.out, HST.out, hdm, List.length_append]
                  simp only [hse]
                  rw [if_pos hce, hno]
                  simp only [List.length_cons, List.length_nil, Nat.zero_add]
                  cases numsF (mk.data.toList.drop (D.length + 1)) (s.data.toList.drop (i + 1)) <;> simp)
                have hcd : (s[i].toNat : Int) = (mk[D.length].toNat : Int) := by rw [hce]
                have hcy : ((s[i].toNat : Int) == (mk[D.length].toNat : Int)) = true := beq_iff_eq.2 hcd
                have hcz : ((s[i].toNat : Int) != (mk[D.length].toNat : Int)) = false := by rw [bne, hcy]; rfl
                have hml1 : ¬ mk.size < D.length := by omega
                have hml2 : decide (mk.size < D.length) = false := decide_eq_false hml1
                clear hd hat hdf hstop hp hpl hno HST HDG hce hmat hdm hme hse HR
                rcases hdd with hdd | hdd
                · go_wp2_with (first | (go_at_call 112; refine (HCALL.out _).mono ?_; rintro o w2 ⟨rfl, rfl⟩) | fail)
                  go_quiet (fail)
                  obtain ⟨w9, hw9⟩ : ∃ u, u = (w2.drewN nq).alloc (.cells #[.int .i64 (n : Int)] 2) := ⟨_, rfl⟩
                  have hb9 : Below w2.heap.size w2 w9 := by rw [hw9]; exact (below_drewN w2.heap.size w2 nq).alloc (Nat.le_refl _) _
                  have HP9 := Lib.hid (owns_next HP.out hb9)
                  have HB9 := Lib.hid (below_next HB.out hb9 (Nat.le_refl _))
                  have HZ9 : Hid (w9.heap.size = w2.heap.size + 1 ∧ w.heap.size ≤ w2.heap.size) := Lib.hid ⟨by rw [hw9]; rw [World.size_alloc]; rfl, HB.out.size⟩
                  have HW9 := Lib.hid hw9
                  clear hw9 hb9
                  go_wp2_with (first | (at_builtin; rw [← HW9.out]; go_must (refine wpList_append_own_at _ rfl (.tmp 80) (.tmp 82) 101 rfl w.heap.size 2 i0 (.int .i64 0) 1 8 Tryd.underlying101 hI hz0 hz1 hz2 rfl (by decide) _ _ _ rfl HP9.out ⟨_, 0, none⟩ 1 1 [.int .i64 (n : Int)] rfl rfl (fun j u hj => by rw [HW9.out]; exact one_newB _ _ _ _ rfl j u hj) (one_cellI (by rfl)) (by unfold maxLen; omega) (by omega) (by have := HZ9.out; omega) ?_); intro v3 w10 hP10 hgr _ _; have HG10 := Lib.hid hgr; have HP10 := Lib.hid hP10; have B10 := Lib.hid (Below.grown (Below.refl w.heap.size w9) hgr (by have := HZ9.out; omega) (fun k hk => (HP9.out.lt k hk).1)); clear hP10 hgr) | fail)
                  go_roundw
                  case rel => exact ⟨i + 1, i + 1, D ++ [n], by omega, by omega, by first | rfl | go_num, by first | rfl | go_num, by rw [← flat_snocN, List.length_append]; exact HP10.out, .inl ⟨by omega, by simp; omega, (fun c hc => by rw [List.drop_eq_nil_of_le (by simp; omega)] at hc; cases hc), HNX.out⟩, HB9.out.trans B10.out⟩
                  case measure => simp [intOf]; omega
                · go_wp2_with (first | (go_at_call 112; refine (HCALL.out _).mono ?_; rintro o w2 ⟨rfl, rfl⟩) | fail)
                  go_quiet (fail)
                  obtain ⟨w9, hw9⟩ : ∃ u, u = (w2.drewN nq).alloc (.cells #[.int .i64 (n : Int)] 2) := ⟨_, rfl⟩
                  have hb9 : Below w2.heap.size w2 w9 := by rw [hw9]; exact (below_drewN w2.heap.size w2 nq).alloc (Nat.le_refl _) _
                  have HP9 := Lib.hid (owns_next HP.out hb9)
                  have HB9 := Lib.hid (below_next HB.out hb9 (Nat.le_refl _))
                  have HZ9 : Hid (w9.heap.size = w2.heap.size + 1 ∧ w.heap.size ≤ w2.heap.size) := Lib.hid ⟨by rw [hw9]; rw [World.size_alloc]; rfl, HB.out.size⟩
                  have HW9 := Lib.hid hw9
                  clear hw9 hb9
                  go_wp2_with (first | (at_builtin; rw [← HW9.out]; go_must (refine wpList_append_own_at _ rfl (.tmp 80) (.tmp 82) 101 rfl w.heap.size 2 i0 (.int .i64 0) 1 8 Tryd.underlying101 hI hz0 hz1 hz2 rfl (by decide) _ _ _ rfl HP9.out ⟨_, 0, none⟩ 1 1 [.int .i64 (n : Int)] rfl rfl (fun j u hj => by rw [HW9.out]; exact one_newB _ _ _ _ rfl j u hj) (one_cellI (by rfl)) (by unfold maxLen; omega) (by omega) (by have := HZ9.out; omega) ?_); intro v3 w10 hP10 hgr _ _; have HG10 := Lib.hid hgr; have HP10 := Lib.hid hP10; have B10 := Lib.hid (Below.grown (Below.refl w.heap.size w9) hgr (by have := HZ9.out; omega) (fun k hk => (HP9.out.lt k hk).1)); clear hP10 hgr) | fail)
                  go_roundw
                  case rel => exact ⟨i + 1, i + 1, D ++ [n], by omega, by omega, by first | rfl | go_num, by first | rfl | go_num, by rw [← flat_snocN, List.length_append]; exact HP10.out, .inl ⟨by omega, by simp; omega, (fun c hc => by rw [List.drop_eq_nil_of_le (by simp; omega)] at hc; cases hc), HNX.out⟩, HB9.out.trans B10.out⟩
                  case measure => simp [intOf]; omega
              · have hR : RES = none := by
                  rw [← HR.out, HST.out, hdm]
                  simp only [hse]
                  rw [if_neg hce]; rfl
                subst hR
                have hcn : ¬ s[i].toNat = mk[D.length].toNat := fun e => hce (UInt8.toNat_inj.1 e)
                have hcd : ¬ ((s[i].toNat : Int) = (mk[D.length].toNat : Int)) := by omega
                have hcx : decide ((s[i].toNat : Int) = (mk[D.length].toNat : Int)) = false := decide_eq_false hcd
                have hcy : ((s[i].toNat : Int) == (mk[D.length].toNat : Int)) = false := beq_eq_false_iff_ne.2 hcd
                have hcz : ((s[i].toNat : Int) != (mk[D.length].toNat : Int)) = true := by rw [bne, hcy]; rfl
                have hml1 : ¬ mk.size < D.length := by omega
                have hml2 : decide (mk.size < D.length) = false := decide_eq_false hml1
                clear hd hat hdf hstop hp hpl hno HST HDG hce hmat hdm hme hse
                rcases hdd with hdd | hdd
                · go_wp2_with (first | (go_at_call 112; refine (HCALL.out _).mono ?_; rintro o w2 ⟨rfl, rfl⟩) | fail)
                  go_quiet (fail)
                  go_wp2_with fail
                  go_ret2
                  exact ⟨_, D, by first | rfl | simp, (fun zs h => by cases h), owns_next HP.out (below_drewN _ _ _), HB.out.trans (below_drewN _ _ _)⟩
                · go_wp2_with (first | (go_at_call 112; refine (HCALL.out _).mono ?_; rintro o w2 ⟨rfl, rfl⟩) | fail)
                  go_quiet (fail)
                  go_wp2_with fail
                  go_ret2
                  exact ⟨_, D, by first | rfl | simp, (fun zs h => by cases h), owns_next HP.out (below_drewN _ _ _), HB.out.trans (below_drewN _ _ _)⟩
            · have hDe : D.length = mk.size := by omega
              have hR : RES = none := by
                rw [← HR.out, HST.out, List.drop_eq_nil_of_le (by have := HML.out.1; omega)]; rfl
              subst hR
              have hml1 : ¬ mk.size < D.length := by omega
              have hml2 : decide (mk.size < D.length) = false := decide_eq_false hml1
              have hat2 : decide (D.length < mk.size) = false := decide_eq_false hat1
              have hl2 : decide (i < s.size) = true := decide_eq_true hlt
              clear hd hat hdf hstop hp hpl hno HST HDG hDe
              rcases hdd with hdd | hdd
              · go_wp2_with (first | (go_at_call 112; refine (HCALL.out _).mono ?_; rintro o w2 ⟨rfl, rfl⟩) | fail)
                go_quiet (fail)
                go_wp2_with fail
                go_ret2
                exact ⟨_, D, by first | rfl | simp, (fun zs h => by cases h), owns_next HP.out (below_drewN _ _ _), HB.out.trans (below_drewN _ _ _)⟩
              · go_wp2_with (first | (go_at_call 112; refine (HCALL.out _).mono ?_; rintro o w2 ⟨rfl, rfl⟩) | fail)
                go_quiet (fail)
                go_wp2_with fail
                go_ret2
                exact ⟨_, D, by first | rfl | simp, (fun zs h => by cases h), owns_next HP.out (below_drewN _ _ _), HB.out.trans (below_drewN _ _ _)⟩
      · have hie : i = s.size := by omega
        have hstop := numsF_stop (M := mk.data.toList.drop D.length) hk (by have := HML.out.2; omega) HDG.out (fun c hc => by rw [List.getElem?_eq_none (by have := HML.out.2; omega)] at hc; cases hc)
        have hdn : s.data.toList.drop i = [] := List.drop_eq_nil_of_le (by have := HML.out.2; omega)
        rw [hdn] at hstop
        obtain ⟨p, hp⟩ : ∃ p : List UInt8, p = (s.data.toList.take i).drop k := ⟨_, rfl⟩
        have hex : s.extract k i = bsJ p := by rw [hp]; exact extract_bs s k i
        rw [← hp] at hstop
        have hpl : p.length ≤ 1048576 := by have := HML.out.2; rw [hp, List.length_drop, List.length_take]; omega
        have HCALL : Hid (∀ w1, Calls Tryd.prog 112 #[.string (bsJ p)] w1 fun o w' => o = .returned (.tuple #[.int .i64 (numV (numO p)), .bool (numO p).isSome]) ∧ w' = w1) := Lib.hid fun w1 => number_bs p hpl w1
        have HST := Lib.hid hstop
        have HIE := Lib.hid hie
        have k0 : (0 : Int) ≤ (k : Int) := by omega
        have k1 : (k : Int) ≤ (i : Int) := by omega
        have k2 : (i : Int) ≤ (s.size : Int) := by omega
        have hl2 : decide (i < s.size) = false := decide_eq_false hlt
        have hml1 : ¬ mk.size < D.length := by omega
        have hml2 : decide (mk.size < D.length) = false := decide_eq_false hml1
        cases hno : numO p with
        | none =>
          obtain ⟨q, hq⟩ : ∃ q : Int, numV none = q := ⟨_, rfl⟩
          rw [hno] at HCALL
          have hR : RES = none := by
            rw [← HR.out, HST.out, hno]
            cases mk.data.toList.drop D.length <;> rfl
          subst hR
          clear hstop hp hpl hno HST HDG hie
          go_wp2_with (first | (go_at_call 112; refine (HCALL.out _).mono ?_; rintro o w2 ⟨rfl, rfl⟩) | fail)
          go_quiet (fail)
          go_wp2_with fail
          go_ret2
          exact ⟨_, D, by first | rfl | simp, (fun zs h => by cases h), owns_next HP.out (below_drewN _ _ _), HB.out.trans (below_drewN _ _ _)⟩
        | some n =>
          rw [hno] at HCALL
          have hqn : numV (some n) = (n : Int) := rfl
          rw [hqn] at HCALL
          by_cases hat1 : D.length < mk.size
          · have hdm := List.drop_eq_getElem_cons (l := mk.data.toList) (i := D.length) (by have := HML.out.1; omega)
            have hR : RES = none := by
              rw [← HR.out, HST.out, hdm]; rfl
            subst hR
            clear hstop hp hpl hno HST HDG hie hdm
            go_wp2_with (first | (go_at_call 112; refine (HCALL.out _).mono ?_; rintro o w2 ⟨rfl, rfl⟩) | fail)
            go_quiet (fail)
            go_wp2_with fail
            go_ret2
            exact ⟨_, D, by first | rfl | simp, (fun zs h => by cases h), owns_next HP.out (below_drewN _ _ _), HB.out.trans (below_drewN _ _ _)⟩
          · have HNX : Hid (RES = some (D ++ [n])) := Lib.hid (by
              rw [← HR.out, HST.out, List.drop_eq_nil_of_le (by have := HML.out.1; omega), hno]; rfl)
            have hat2 : decide (D.length < mk.size) = false := decide_eq_false hat1
            clear hstop hp hpl hno HST HDG hie HR
            go_wp2_with (first | (go_at_call 112; refine (HCALL.out _).mono ?_; rintro o w2 ⟨rfl, rfl⟩) | fail)
            go_quiet (fail)
            obtain ⟨w9, hw9⟩ : ∃ u, u = (w2.drewN nq).alloc (.cells #[.int .i64 (n : Int)] 2) := ⟨_, rfl⟩
            have hb9 : Below w2.heap.size w2 w9 := by rw [hw9]; exact (below_drewN w2.heap.size w2 nq).alloc (Nat.le_refl _) _
            have HP9 := Lib.hid (owns_next HP.out hb9)
            have HB9 := Lib.hid (below_next HB.out hb9 (Nat.le_refl _))
            have HZ9 : Hid (w9.heap.size = w2.heap.size + 1 ∧ w.heap.size ≤ w2.heap.size) := Lib.hid ⟨by rw [hw9]; rw [World.size_alloc]; rfl, HB.out.size⟩
            have HW9 := Lib.hid hw9
            clear hw9 hb9
            go_wp2_with (first | (at_builtin; rw [← HW9.out]; go_must (refine wpList_append_own_at _ rfl (.tmp 80) (.tmp 82) 101 rfl w.heap.size 2 i0 (.int .i64 0) 1 8 Tryd.underlying101 hI hz0 hz1 hz2 rfl (by decide) _ _ _ rfl HP9.out ⟨_, 0, none⟩ 1 1 [.int .i64 (n : Int)] rfl rfl (fun j u hj => by rw [HW9.out]; exact one_newB _ _ _ _ rfl j u hj) (one_cellI (by rfl)) (by unfold maxLen; omega) (by omega) (by have := HZ9.out; omega) ?_); intro v3 w10 hP10 hgr _ _; have HG10 := Lib.hid hgr; have HP10 := Lib.hid hP10; have B10 := Lib.hid (Below.grown (Below.refl w.heap.size w9) hgr (by have := HZ9.out; omega) (fun k hk => (HP9.out.lt k hk).1)); clear hP10 hgr) | fail)
            go_roundw
            case rel => exact ⟨i + 1, i + 1, D ++ [n], by omega, by omega, by first | rfl | go_num, by first | rfl | go_num, by rw [← flat_snocN, List.length_append]; exact HP10.out, .inr ⟨by have := HIE.out; omega, HNX.out, by simp; omega⟩, HB9.out.trans B10.out⟩
            case measure => simp [intOf]; omega
    · subst hie
      obtain rfl : RES = some D := hres
      have hb1 : wrap64 ((mk.size : Int) + 1) = (mk.size : Int) + 1 := by unfold wrap64; omega
      have hdl : ((D.length : Nat) : Int) = (mk.size : Int) + 1 := by omega
      go_wp2_with fail
      go_ret2
      exact ⟨_, D, by first | rfl | simp, (fun zs h => Option.some.inj h), HP.out, HB.out⟩
end Go.Proofs.YtjfimmfnhlimkaaDoor.rd

/-
  Helpers for the model's readers: a slice that is built, an append in a region that draws, rows of different types.
-/
namespace Go.Proofs.YtjfimmfnhlimkaaDoor.rd
open Go Go.RowKit sl dec txt fold

theorem wp_listedR {P : Program} {o : Oper} {a : Act} {w w' : World} {v : Value} {K : Act → World → Prop} {Q : Exit → Act → World → Prop} (t : TypeId) (len : Nat) (parts : Array (Nat × Operand)) (ho : o.op = .buildSlice t len parts)
    (vals : Array (Nat × Value)) (hp : (parts.map fun (i, x) => (i, a.eval x)) = vals) (hrun : (Instr.buildSlice t len vals).run P w = .ok v w') (h : K (a.put o.dst v) w') : o.wp P a w K Q := by
  unfold Oper.wp execOp
  simp only [ho, hp, hrun, Sem.run_bind, Sem.run_pure, Result.andThen_ok]
  exact h
theorem wp_append_ownR {P : Program} {o : Oper} {a : Act} {w : World} {K : Act → World → Prop} {Q : Exit → Act → World → Prop} (s x : Operand) (t : TypeId)
    (ho : o.op = .call { callee := .builtin .append, args := #[s, x], argTypes := #[t, t] })
    (base : Nat) (e : TypeId) (i : TypeInfo) (z : Value) (size bytes : Nat) (ht : P.underlying t = some (.slice e)) (hi : P.info? e = some i) (hz : i.zero = some z)
    (hsize : i.size = size) (hby : i.bytes = bytes) (hzs : z.cells.size = size) (hsz : 0 < size)
    (v : Value) (n : Nat) (xs : List Value) (hs : a.eval s = v) (hown : w.ownsRow base e size v n xs)
    (ad : Addr) (m c : Nat) (news : List Value) (hx : a.eval x = .slice (some ad) m c) (hl : news.length = m * size) (hnews : ∀ j u, news[j]? = some u → w.cell? (ad.add j) = some u) (h1 : ∀ u ∈ news, u.oneCell' = true)
    (h63 : n + m ≤ maxLen) (hbytes : (n + m) * bytes ≤ 140737488355328) (hbase : base ≤ w.heap.size)
    (h : ∀ v' w', w'.ownsRow base e size v' (n + m) (xs ++ news) → w.grownBy w' v.ownBlock → (v'.ownBlock = v.ownBlock ∨ v'.ownBlock = some w.heap.size) → K (a.put o.dst v') w') : o.wp P a w K Q := by
  obtain ⟨v', w', hr, h2, h3, _, h5⟩ := run_append_own_at (P := P) w base t o.type e i z size bytes ht hi hz hsize hby hzs hsz v n xs hown ad m c news hl hnews h1 h63 hbytes hbase
  unfold Oper.wp execOp
  simp only [ho, resolve, invoke, builtin, Sem.run_bind, Sem.run_pure, Result.andThen_ok, List.map_toArray, List.map_cons, List.map_nil, hs, hx, hr]
  exact h v' w' h2 h3 h5
/-- rows of two types do not share a block -/
theorem owns_apart {W : World} {b1 b2 : Nat} {E1 E2 : TypeId} {s1 s2 n1 n2 : Nat} {v1 v2 : Value} {L1 L2 : List Value} (h1 : W.ownsRow b1 E1 s1 v1 n1 L1) (h2 : W.ownsRow b2 E2 s2 v2 n2 L2) (hne : E1 ≠ E2) : ∀ k, v1.ownBlock = some k → v2.ownBlock ≠ some k := by
  intro k hk hk2
  rcases h1.2 with ⟨rfl, _⟩ | ⟨g, cap, cur, rfl, _, hg, _⟩
  · simp [Value.ownBlock] at hk
  · rcases h2.2 with ⟨rfl, _⟩ | ⟨g', cap', cur', rfl, _, hg', _⟩
    · simp [Value.ownBlock] at hk2
    · simp only [Value.ownBlock, Option.some.injEq] at hk hk2
      subst hk
      subst hk2
      rw [hg] at hg'
      cases hg'
      exact hne rfl
theorem piece_len (b : UInt8) : ∀ {l p : List UInt8}, p ∈ splitB b l → p.length ≤ l.length
  | [], p, h => by
    rw [splitB] at h
    rw [List.mem_singleton.1 h]
    simp
  | c :: r, p, h => by
    unfold splitB at h
    by_cases hc : c = b
    · rw [if_pos hc] at h
      rcases List.mem_cons.1 h with rfl | h
      · simp
      · have := piece_len b h
        simp only [List.length_cons]; omega
    · rw [if_neg hc] at h
      cases hs : splitB b r with
      | nil => exact absurd hs (splitB_ne b r)
      | cons q qs =>
        rw [hs] at h
        simp only at h
        rcases List.mem_cons.1 h with rfl | h
        · have := piece_len b (show q ∈ splitB b r by rw [hs]; exact List.mem_cons_self ..)
          simp only [List.length_cons]; omega
        · have := piece_len b (show p ∈ splitB b r by rw [hs]; exact List.mem_cons_of_mem _ h)
          simp only [List.length_cons]; omega
theorem owns_str {W : World} {base n c i : Nat} {A : Option Addr} {ls : List (List UInt8)} {p : List UInt8} (h : W.ownsRow base 9 1 (.slice A n c) n (ls.flatMap sJ)) (hp : ls[i]? = some p) : ∃ g, A = some ⟨g, 0, none⟩ ∧ base ≤ g ∧ W.cell? ⟨g, i, none⟩ = some (.string (bsJ p)) := by
  have hs := Sl.of_owns (C := sJ) h (fun _ _ => rfl) (by decide)
  obtain ⟨a, rfl, _, hat⟩ := hs.at_ i p hp
  rcases h.2 with ⟨hv, _⟩ | ⟨g, cap, cur, hv, hb, _⟩
  · cases hv
  · injection hv with h1 _ _
    obtain rfl := Option.some.inj h1
    have := hat 0 (.string (bsJ p)) rfl
    rw [Nat.mul_one, add_lit, add_at] at this
    exact ⟨g, rfl, hb, this⟩
theorem owns_int {W : World} {base n c i : Nat} {A : Option Addr} {xs : List Int} {x : Int} (h : W.ownsRow base 2 1 (.slice A n c) n (xs.flatMap intS.C)) (hp : xs[i]? = some x) : ∃ g, A = some ⟨g, 0, none⟩ ∧ base ≤ g ∧ W.cell? ⟨g, i, none⟩ = some (.int .i64 x) := by
  have hs := Sl.of_owns (C := intS.C) h (intS.len _) (by decide)
  obtain ⟨a, rfl, _, hat⟩ := hs.at_ i x hp
  rcases h.2 with ⟨hv, _⟩ | ⟨g, cap, cur, hv, hb, _⟩
  · cases hv
  · injection hv with h1 _ _
    obtain rfl := Option.some.inj h1
    have := hat 0 (.int .i64 x) rfl
    rw [Nat.mul_one, add_lit, add_at] at this
    exact ⟨g, rfl, hb, this⟩
end Go.Proofs.YtjfimmfnhlimkaaDoor.rd
