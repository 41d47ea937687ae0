/-
  Several texts of this proof, joined.
-/
import Derived.Test.YtjfimmfnhlimkaaDoorRdKind
import Derived.Test.YtjfimmfnhlimkaaDoorRdRange
import Derived.Test.YtjfimmfnhlimkaaDoorRdLaid
import Derived.Test.YtjfimmfnhlimkaaDoorJoin12
import Derived.Test.YtjfimmfnhlimkaaDoorShR
import Derived.Lib.SmallJoins
import Derived.BigQuiet
import Derived.Test.YtjfimmfnhlimkaaDoorJoin35
import Derived.Test.YtjfimmfnhlimkaaDoorRdBox
import Derived.Test.YtjfimmfnhlimkaaDoorJoin13
/-
  The library's functions that the readers call: ParseInt, Cut at one byte, and SplitSeq's iterator.
-/
namespace Go.Proofs.YtjfimmfnhlimkaaDoor.rd
open Go Go.RowKit Go.Shelf sl dec txt errs rng
attribute [local go_sem] Oper.semAt_some

theorem parseI_8 (s : ByteArray) (hs : s.size ≤ 1048576) (w : World) {B0 : Nat} (h : NE w B0) :
    Calls Tryd.prog 135 #[.string s, .int .i64 10, .int .i64 8] w fun o w' => (∃ v er, o = .returned (.tuple #[.int .i64 v, errO er]) ∧ ((intK 8 s.data.toList = some v ∧ er = none) ∨ (intK 8 s.data.toList = none ∧ er ≠ none))) ∧ Below w.heap.size w w' := by
  obtain ⟨⟨t1, p1, h1⟩, ⟨t2, p2, h2⟩, l1, l2⟩ := h
  cases hp : Lib.parseIntB 8 s.data.toList with
  | ok v =>
    refine (Tryd.strconv_ParseInt_10_at8_ok s (by omega) v hp w).mono ?_
    rintro o u ⟨rfl, hu⟩
    refine ⟨⟨v, none, rfl, .inl ⟨by rw [intK, hp], rfl⟩⟩, ?_⟩
    rcases hu with rfl | ⟨t, rfl⟩
    · exact Below.refl _ _
    · exact Go.Joins.below_bytesWorld _ _ _ _ (Nat.le_refl _)
  | range =>
    refine (Tryd.strconv_ParseInt_10_at8_range s (by omega) hp _ w h2 (.inr ⟨t2, p2, rfl⟩)).mono ?_
    rintro o u ⟨N, rfl, _, _, hb⟩
    exact ⟨⟨_, some (_, _), rfl, .inr ⟨by rw [intK, hp], by simp⟩⟩, hb⟩
  | _ =>
    refine (Tryd.strconv_ParseInt_10_at8_syntax s (by omega) (by rw [hp]; rfl) _ w h1 (.inr ⟨t1, p1, rfl⟩)).mono ?_
    rintro o u ⟨N, rfl, _, _, hb⟩
    exact ⟨⟨_, some (_, _), rfl, .inr ⟨by rw [intK, hp], by simp⟩⟩, hb⟩
theorem parseI_16 (s : ByteArray) (hs : s.size ≤ 1048576) (w : World) {B0 : Nat} (h : NE w B0) :
    Calls Tryd.prog 135 #[.string s, .int .i64 10, .int .i64 16] w fun o w' => (∃ v er, o = .returned (.tuple #[.int .i64 v, errO er]) ∧ ((intK 16 s.data.toList = some v ∧ er = none) ∨ (intK 16 s.data.toList = none ∧ er ≠ none))) ∧ Below w.heap.size w w' := by
  obtain ⟨⟨t1, p1, h1⟩, ⟨t2, p2, h2⟩, l1, l2⟩ := h
  cases hp : Lib.parseIntB 16 s.data.toList with
  | ok v =>
    refine (Tryd.strconv_ParseInt_10_at16_ok s (by omega) v hp w).mono ?_
    rintro o u ⟨rfl, hu⟩
    refine ⟨⟨v, none, rfl, .inl ⟨by rw [intK, hp], rfl⟩⟩, ?_⟩
    rcases hu with rfl | ⟨t, rfl⟩
    · exact Below.refl _ _
    · exact Go.Joins.below_bytesWorld _ _ _ _ (Nat.le_refl _)
  | range =>
    refine (Tryd.strconv_ParseInt_10_at16_range s (by omega) hp _ w h2 (.inr ⟨t2, p2, rfl⟩)).mono ?_
    rintro o u ⟨N, rfl, _, _, hb⟩
    exact ⟨⟨_, some (_, _), rfl, .inr ⟨by rw [intK, hp], by simp⟩⟩, hb⟩
  | _ =>
    refine (Tryd.strconv_ParseInt_10_at16_syntax s (by omega) (by rw [hp]; rfl) _ w h1 (.inr ⟨t1, p1, rfl⟩)).mono ?_
    rintro o u ⟨N, rfl, _, _, hb⟩
    exact ⟨⟨_, some (_, _), rfl, .inr ⟨by rw [intK, hp], by simp⟩⟩, hb⟩
theorem parseI_64 (s : ByteArray) (hs : s.size ≤ 1048576) (w : World) {B0 : Nat} (h : NE w B0) :
    Calls Tryd.prog 135 #[.string s, .int .i64 10, .int .i64 64] w fun o w' => (∃ v er, o = .returned (.tuple #[.int .i64 v, errO er]) ∧ ((intK 64 s.data.toList = some v ∧ er = none) ∨ (intK 64 s.data.toList = none ∧ er ≠ none))) ∧ Below w.heap.size w w' := by
  obtain ⟨⟨t1, p1, h1⟩, ⟨t2, p2, h2⟩, l1, l2⟩ := h
  cases hp : Lib.parseIntB 64 s.data.toList with
  | ok v =>
    refine (Tryd.strconv_ParseInt_10_at64_ok s (by omega) v hp w).mono ?_
    rintro o u ⟨rfl, hu⟩
    refine ⟨⟨v, none, rfl, .inl ⟨by rw [intK, hp], rfl⟩⟩, ?_⟩
    rcases hu with rfl | ⟨t, rfl⟩
    · exact Below.refl _ _
    · exact Go.Joins.below_bytesWorld _ _ _ _ (Nat.le_refl _)
  | range =>
    refine (Tryd.strconv_ParseInt_10_at64_range s (by omega) hp _ w h2 (.inr ⟨t2, p2, rfl⟩)).mono ?_
    rintro o u ⟨N, rfl, _, _, hb⟩
    exact ⟨⟨_, some (_, _), rfl, .inr ⟨by rw [intK, hp], by simp⟩⟩, hb⟩
  | _ =>
    refine (Tryd.strconv_ParseInt_10_at64_syntax s (by omega) (by rw [hp]; rfl) _ w h1 (.inr ⟨t1, p1, rfl⟩)).mono ?_
    rintro o u ⟨N, rfl, _, _, hb⟩
    exact ⟨⟨_, some (_, _), rfl, .inr ⟨by rw [intK, hp], by simp⟩⟩, hb⟩
theorem parseOk {B : Nat} (hB : B = 8 ∨ B = 16 ∨ B = 64) (s : List UInt8) (hs : s.length ≤ 1048576) {v : Int} (hv : intK B s = some v) (w : World) {B0 : Nat} (h : NE w B0) :
    Calls Tryd.prog 135 #[.string (bsJ s), .int .i64 10, .int .i64 (B : Nat)] w fun o w' => o = .returned (.tuple #[.int .i64 v, .nilIface]) ∧ Below w.heap.size w w' := by
  have hs2 : (bsJ s).size ≤ 1048576 := by rw [bsJ_size]; exact hs
  have he : (bsJ s).data.toList = s := by simp
  rcases hB with rfl | rfl | rfl
  · refine (parseI_8 (bsJ s) hs2 w h).mono ?_
    rintro o u ⟨⟨v2, er, rfl, h2⟩, hb⟩
    rw [he, hv] at h2
    rcases h2 with ⟨h3, rfl⟩ | ⟨h3, _⟩
    · obtain rfl := Option.some.inj h3
      exact ⟨rfl, hb⟩
    · cases h3
  · refine (parseI_16 (bsJ s) hs2 w h).mono ?_
    rintro o u ⟨⟨v2, er, rfl, h2⟩, hb⟩
    rw [he, hv] at h2
    rcases h2 with ⟨h3, rfl⟩ | ⟨h3, _⟩
    · obtain rfl := Option.some.inj h3
      exact ⟨rfl, hb⟩
    · cases h3
  · refine (parseI_64 (bsJ s) hs2 w h).mono ?_
    rintro o u ⟨⟨v2, er, rfl, h2⟩, hb⟩
    rw [he, hv] at h2
    rcases h2 with ⟨h3, rfl⟩ | ⟨h3, _⟩
    · obtain rfl := Option.some.inj h3
      exact ⟨rfl, hb⟩
    · cases h3
theorem parseNo {B : Nat} (hB : B = 8 ∨ B = 16 ∨ B = 64) (s : List UInt8) (hs : s.length ≤ 1048576) (hv : intK B s = none) (w : World) {B0 : Nat} (h : NE w B0) :
    Calls Tryd.prog 135 #[.string (bsJ s), .int .i64 10, .int .i64 (B : Nat)] w fun o w' => (∃ v t p, o = .returned (.tuple #[.int .i64 v, .iface t p])) ∧ Below w.heap.size w w' := by
  have hs2 : (bsJ s).size ≤ 1048576 := by rw [bsJ_size]; exact hs
  have he : (bsJ s).data.toList = s := by simp
  rcases hB with rfl | rfl | rfl
  · refine (parseI_8 (bsJ s) hs2 w h).mono ?_
    rintro o u ⟨⟨v2, er, rfl, h2⟩, hb⟩
    rw [he, hv] at h2
    rcases h2 with ⟨h3, _⟩ | ⟨_, h3⟩
    · cases h3
    · cases er with
      | none => exact absurd rfl h3
      | some x => exact ⟨⟨v2, x.1, x.2, rfl⟩, hb⟩
  · refine (parseI_16 (bsJ s) hs2 w h).mono ?_
    rintro o u ⟨⟨v2, er, rfl, h2⟩, hb⟩
    rw [he, hv] at h2
    rcases h2 with ⟨h3, _⟩ | ⟨_, h3⟩
    · cases h3
    · cases er with
      | none => exact absurd rfl h3
      | some x => exact ⟨⟨v2, x.1, x.2, rfl⟩, hb⟩
  · refine (parseI_64 (bsJ s) hs2 w h).mono ?_
    rintro o u ⟨⟨v2, er, rfl, h2⟩, hb⟩
    rw [he, hv] at h2
    rcases h2 with ⟨h3, _⟩ | ⟨_, h3⟩
    · cases h3
    · cases er with
      | none => exact absurd rfl h3
      | some x => exact ⟨⟨v2, x.1, x.2, rfl⟩, hb⟩
theorem cut_bs (b : UInt8) (s : ByteArray) {i : Nat} (h : cutA b s.data.toList = s.data.toList.take i) (h2 : cutZ b s.data.toList = s.data.toList.drop (i + 1)) : s.extract 0 i = bsJ (cutA b s.data.toList) ∧ s.extract (i + 1) s.size = bsJ (cutZ b s.data.toList) := by
  rw [h, h2, extract_bs, extract_bs]
  refine ⟨by simp, ?_⟩
  have e : s.data.toList.take s.size = s.data.toList := List.take_of_length_le (Nat.le_of_eq (len_list s))
  rw [e]
set_option maxRecDepth 100000 in
theorem cut1_any (s : ByteArray) (b : UInt8) (hs : s.size ≤ 1048576) (w : World) :
    Calls Tryd.prog 161 #[.string s, .string ⟨#[b]⟩] w fun o w' => (∃ f, o = .returned (.tuple #[.string (bsJ (cutA b s.data.toList)), .string (bsJ (cutZ b s.data.toList)), .bool f])) ∧ Below w.heap.size w w' := by
  have hI := Tryd.stringslite_Index_one s b
  have hlen := len_list s
  rcases index_cases b s.data.toList with ⟨h1, h2⟩ | ⟨i, h1, h2, h3, h4, h5⟩
  · obtain ⟨e1, e2⟩ := cut_none h2
    rw [e1, e2, bsJ_of]
    rw [h1] at hI
    clear h1 h2 e1 e2 hlen
    go_enter Tryd.func161, Tryd.ntmps161
    go_wp2_with fail
    refine (hI w).mono ?_
    rintro o u ⟨rfl, rfl⟩
    go_wp2_with fail
    go_ret3
    exact ⟨⟨false, rfl⟩, Below.refl _ _⟩
  · obtain ⟨e1, e2⟩ := cut_bs b s h3 h4
    rw [h1] at hI
    have k0 : (0 : Int) ≤ (i : Int) := by omega
    have k1 : (i : Int) ≤ (s.size : Int) := by omega
    have k2 : (0 : Int) ≤ (i : Int) + 1 := by omega
    have k3 : (i : Int) + 1 ≤ (s.size : Int) := by omega
    have k4 : decide ((i : Int) ≥ 0) = true := decide_eq_true k0
    have k5 : i < s.size := by omega
    clear h1 h2 h3 h4 h5 hlen
    go_enter Tryd.func161, Tryd.ntmps161
    go_wp2_with fail
    refine (hI w).mono ?_
    rintro o u ⟨rfl, rfl⟩
    go_wp2_with fail
    go_region_o
    go_wp2
    go_ret3
    rw [← e1, ← e2]
    exact ⟨⟨true, rfl⟩, (Below.refl _ _).drew⟩
theorem cutA_len (b : UInt8) (l : List UInt8) : (cutA b l).length ≤ l.length := (List.takeWhile_sublist _).length_le
theorem cutZ_len (b : UInt8) (l : List UInt8) : (cutZ b l).length ≤ l.length := by
  rw [cutZ, List.length_drop]
  have := (List.dropWhile_sublist (l := l) (notB b)).length_le
  omega
theorem cut_any (s : ByteArray) (b : UInt8) (hs : s.size ≤ 1048576) (w : World) :
    Calls Tryd.prog 134 #[.string s, .string ⟨#[b]⟩] w fun o w' => (∃ f, o = .returned (.tuple #[.string (bsJ (cutA b s.data.toList)), .string (bsJ (cutZ b s.data.toList)), .bool f])) ∧ Below w.heap.size w w' := by
  have h := cut1_any s b hs w
  clear hs
  go_enter Tryd.func134, Tryd.ntmps134
  go_wp2_with fail
  refine h.mono ?_
  rintro o u ⟨⟨f, rfl⟩, hb⟩
  go_wp2_with fail
  go_ret3
  exact ⟨⟨f, rfl⟩, hb⟩
/-- a part of a text -/
abbrev Part := { p : List UInt8 // p.length ≤ 1048576 }
def parts (l : List Part) : List (List UInt8) := l.map (·.1)
theorem parts_snoc (l : List Part) (x : Part) : parts (l ++ [x]) = parts l ++ [x.1] := by simp [parts]
theorem parts_len (l : List Part) : (parts l).length = l.length := by simp [parts]
abbrev encP (x : Part) : Array Value := #[.string (bsJ x.1)]
theorem splitB_len (b : UInt8) : ∀ l : List UInt8, (splitB b l).length ≤ l.length + 1
  | [] => by simp [splitB]
  | c :: r => by
    have ih := splitB_len b r
    unfold splitB
    split
    · simp only [List.length_cons]; omega
    · split
      · simp
      · rename_i h
        rw [h] at ih
        simp only [List.length_cons] at ih ⊢
        omega
/-- how much is left -/
def leftS (B : Nat) (W : World) : Nat := match W.cell? ⟨B, 0, none⟩ with
  | some (.string t) => t.size
  | _ => 0
theorem leftS_eq {B : Nat} {W : World} {t : ByteArray} (h : W.cell? ⟨B, 0, none⟩ = some (.string t)) : leftS B W = t.size := by rw [leftS, h]
theorem splitSeq_any (s : ByteArray) (b : UInt8) (w : World) :
    Calls Tryd.prog 122 #[.string s, .string ⟨#[b]⟩] w fun o w' => o = .returned (.func (.func 179) #[] #[.pointer (some ⟨w.heap.size + 1, 0, none⟩), .pointer (some ⟨w.heap.size, 0, none⟩), .pointer (some ⟨w.heap.size + 1 + 1, 0, none⟩)]) ∧
      w' = ((w.alloc (.cells #[.string s] 9)).alloc (.cells #[.string ⟨#[b]⟩] 9)).alloc (.cells #[.int .i64 0] 3) := by
  have h1 : Calls Tryd.prog 152 #[.string s, .string ⟨#[b]⟩, .int .i64 0] w fun o w' => o = .returned (.func (.func 179) #[] #[.pointer (some ⟨w.heap.size + 1, 0, none⟩), .pointer (some ⟨w.heap.size, 0, none⟩), .pointer (some ⟨w.heap.size + 1 + 1, 0, none⟩)]) ∧
      w' = ((w.alloc (.cells #[.string s] 9)).alloc (.cells #[.string ⟨#[b]⟩] 9)).alloc (.cells #[.int .i64 0] 3) := by
    go_enter Tryd.func152, Tryd.ntmps152
    go_wp2
    go_ret
    exact ⟨rfl, rfl⟩
  go_enter Tryd.func122, Tryd.ntmps122
  go_wp2_with fail
  refine h1.mono ?_
  rintro o u ⟨rfl, rfl⟩
  go_wp2_with fail
  go_ret
  exact ⟨rfl, rfl⟩
set_option maxRecDepth 100000 in
set_option maxHeartbeats 2000000 in
theorem split1_in (n : Nat) (hn : 1 ≤ n) (l Bs Bp Bv lo n₀ : Nat) (b : UInt8) (s0 : List UInt8) (hs0 : s0.length ≤ 1048576) (h9 : (lo ≤ Bs ∧ Bs < n₀) ∧ (lo ≤ Bp ∧ Bp < n₀) ∧ (lo ≤ Bv ∧ Bv < n₀) ∧ Bp ≠ Bs ∧ Bv ≠ Bs) (J Jx : List Part → World → Prop)
    (hJs : ∀ pre A t, J pre A → J pre (A.setCell ⟨Bs, 0, none⟩ (.string t)))
    (hY : ∀ pre x X, J pre X → pre.length < 1048577 → YieldAt Fence.wide (n - 1) Tryd.prog l #[.string (bsJ x.1)] X fun e X' =>
      (e = .returned (.bool true) ∧ J (pre ++ [x]) X' ∧ KeepB lo n₀ X X') ∨ (e = .returned (.bool false) ∧ Jx (pre ++ [x]) X'))
    (W : World) (hS : W.cell? ⟨Bs, 0, none⟩ = some (.string (bsJ s0))) (hfz : W.frozen? ⟨Bs, 0, none⟩ = false) (hP : W.cell? ⟨Bp, 0, none⟩ = some (.string ⟨#[b]⟩)) (hV : W.cell? ⟨Bv, 0, none⟩ = some (.int .i64 0)) (h0 : J [] W) :
    CallsIn Fence.wide n Tryd.prog 179 #[.func (.yield l) #[] #[], .pointer (some ⟨Bp, 0, none⟩), .pointer (some ⟨Bs, 0, none⟩), .pointer (some ⟨Bv, 0, none⟩)] W fun e W' => (∃ v, e = .returned v) ∧
      ((∃ ys : List Part, parts ys = splitB b s0 ∧ J ys W') ∨ (∃ pre : List Part, parts pre <+: splitB b s0 ∧ Jx pre W')) := by
  refine callsIn_of_wp Tryd.func179 rfl trivial ?_ rfl
  simp only [Tryd.ntmps179, List.size_toArray, List.length_cons, List.length_nil, Nat.reduceAdd, Nat.reduceSub, Array.replicate_succ, Array.replicate_zero, List.push_toArray, List.append_toArray, List.nil_append, List.cons_append]
  gi_wp2
  gi_loopw [7, 8] (fun _ _ wr => ∃ (r : List UInt8) (pre : List Part), r.length ≤ 1048576 ∧ splitB b s0 = parts pre ++ splitB b r ∧ wr.cell? ⟨Bs, 0, none⟩ = some (.string (bsJ r)) ∧ wr.frozen? ⟨Bs, 0, none⟩ = false ∧ wr.cell? ⟨Bp, 0, none⟩ = some (.string ⟨#[b]⟩) ∧ wr.cell? ⟨Bv, 0, none⟩ = some (.int .i64 0) ∧ J pre wr) (fun _ _ wr => leftS Bs wr)
  case atStart => exact ⟨s0, [], hs0, rfl, hS, hfz, hP, hV, h0⟩
  case round =>
    clear hS hfz hP hV h0
    obtain ⟨r, pre, hr, hm, hS, hfz, hP, hV, hJ⟩ := hrel
    have hlen : pre.length < 1048577 := by
      have h1 := splitB_len b s0
      have h2 := List.length_pos_iff.2 (splitB_ne b r)
      rw [hm, List.length_append, parts_len] at h1
      omega
    have hI := Tryd.strings_Index_one (bsJ r) b
    rw [show (bsJ r).data.toList = r by simp] at hI
    rcases index_cases b r with ⟨h1, h2⟩ | ⟨i, h1, h2, h3, h4, h5⟩
    · rw [h1] at hI
      obtain ⟨fn, tmps, assign, body, hy, hR⟩ := hY pre ⟨r, hr⟩ wr hJ hlen
      dsimp only at hy
      gi_wp2_with (refine ⟨trivial, ?_⟩; gi_at_call 181; refine (callsIn_wide.2 (hI _)).mono ?_; rintro e w2 ⟨rfl, rfl⟩)
      refine hR.mono ?_
      rintro e X3 (⟨rfl, hJ3, _⟩ | ⟨rfl, hJx3⟩)
      · gi_wp2
        go_end0
        exact ⟨⟨_, rfl⟩, .inl ⟨pre ++ [⟨r, hr⟩], by rw [parts_snoc, hm, splitB_none h2], hJ3⟩⟩
      · gi_wp2
        go_end0
        exact ⟨⟨_, rfl⟩, .inr ⟨pre ++ [⟨r, hr⟩], by rw [parts_snoc, hm, splitB_none h2]; exact List.prefix_refl _, hJx3⟩⟩
    · rw [h1] at hI
      obtain ⟨h3a, h3b, h3c, h3d, h3e⟩ := h9
      obtain ⟨fn, tmps, assign, body, hy, hR⟩ := hY pre ⟨r.take i, by rw [List.length_take]; omega⟩ wr hJ hlen
      dsimp only at hy
      have hsz : (bsJ r).size = r.length := bsJ_size r
      have hed : (bsJ r).data.toList = r := by simp
      have hea : (bsJ r).extract 0 i = bsJ (r.take i) := by rw [extract_bs, hed]; simp
      have hez : (bsJ r).extract (i + 1) r.length = bsJ (r.drop (i + 1)) := by rw [extract_bs, hed, List.take_of_length_le (Nat.le_refl _)]
      have k0 : (0 : Int) ≤ (i : Int) := by omega
      have k1 : (i : Int) ≤ ((bsJ r).size : Int) := by omega
      have k2 : (0 : Int) ≤ (i : Int) + 1 := by omega
      have k3 : (i : Int) + 1 ≤ ((bsJ r).size : Int) := by omega
      have k4 : decide ((i : Int) < 0) = false := decide_eq_false (by omega)
      gi_wp2_with (refine ⟨trivial, ?_⟩; gi_at_call 181; refine (callsIn_wide.2 (hI _)).mono ?_; rintro e w2 ⟨rfl, rfl⟩)
      refine hR.mono ?_
      rintro e X3 (⟨rfl, hJ3, hb3⟩ | ⟨rfl, hJx3⟩)
      · have hS3 := (hb3.cell h3a.1 h3a.2).trans hS
        have hP3 := (hb3.cell h3b.1 h3b.2).trans hP
        have hV3 := (hb3.cell h3c.1 h3c.2).trans hV
        have hf3 := (hb3.frozen h3a.1 h3a.2).trans hfz
        have HM := Lib.hid (leftS_eq hS)
        clear hS hP hV hfz hy hI
        gi_wp2
        go_roundw
        case rel => exact ⟨r.drop (i + 1), pre ++ [_], by rw [List.length_drop]; omega, by rw [parts_snoc, hm, h5]; simp, World.cell?_setCell_same' _ _ _ (by rw [hS3]; rfl), by rw [World.frozen?_setCell]; exact hf3, (World.cell?_setCell_other _ _ _ _ (by simp [])).trans hP3, (World.cell?_setCell_other _ _ _ _ (by simp [])).trans hV3, hJs _ _ _ hJ3⟩
        case measure =>
          rw [HM.out, leftS_eq (World.cell?_setCell_same' _ _ _ (by rw [hS3]; rfl)), bsJ_size, bsJ_size, List.length_drop]
          omega
      · gi_wp2
        refine bodyPost_ret (results_none rfl _ _ _) rfl ?_
        exact ⟨⟨_, rfl⟩, .inr ⟨pre ++ [_], by rw [parts_snoc, hm, h5]; exact ⟨splitB b (r.drop (i + 1)), by simp⟩, hJx3⟩⟩
/-- SplitSeq's value, behind its making -/
theorem split_seq (n : Nat) (hn : 1 ≤ n) (Bs Bp Bv lo n₀ : Nat) (b : UInt8) (s0 : List UInt8) (hs0 : s0.length ≤ 1048576) (h9 : (lo ≤ Bs ∧ Bs < n₀) ∧ (lo ≤ Bp ∧ Bp < n₀) ∧ (lo ≤ Bv ∧ Bv < n₀) ∧ Bp ≠ Bs ∧ Bv ≠ Bs) (w : World) (hn₀ : n₀ ≤ w.heap.size)
    (hS : w.cell? ⟨Bs, 0, none⟩ = some (.string (bsJ s0))) (hfz : w.frozen? ⟨Bs, 0, none⟩ = false) (hP : w.cell? ⟨Bp, 0, none⟩ = some (.string ⟨#[b]⟩)) (hV : w.cell? ⟨Bv, 0, none⟩ = some (.int .i64 0)) :
    SeqBox Fence.wide n Tryd.prog 179 #[.pointer (some ⟨Bp, 0, none⟩), .pointer (some ⟨Bs, 0, none⟩), .pointer (some ⟨Bv, 0, none⟩)] encP lo n₀ Bs (fun ys => parts ys = splitB b s0) (fun pre => parts pre <+: splitB b s0) 1048577 w := fun l J Jx W hW hJ hY h0 => by
  obtain ⟨h3a, h3b, h3c, h3d, h3e⟩ := h9
  exact split1_in n hn l Bs Bp Bv lo n₀ b s0 hs0 ⟨h3a, h3b, h3c, h3d, h3e⟩ J Jx hJ.2 hY W ((hW.cell (p := ⟨Bs, 0, none⟩) (by show Bs < _; omega)).trans hS) ((hW.frozen (p := ⟨Bs, 0, none⟩) (by show Bs < _; omega)).trans hfz) ((hW.cell (p := ⟨Bp, 0, none⟩) (by show Bp < _; omega)).trans hP) ((hW.cell (p := ⟨Bv, 0, none⟩) (by show Bv < _; omega)).trans hV) h0
end Go.Proofs.YtjfimmfnhlimkaaDoor.rd

/-
  Cloths read from a text: the program's reader.
-/
namespace Go.Proofs.YtjfimmfnhlimkaaDoor.rd
open Go Go.RowKit Go.Shelf sl dec txt errs rng hang
attribute [local go_sem] Oper.semAt_some

theorem two_newR (w : World) (u v : Value) (T : TypeId) : ∀ (j : Nat) x, [u, v][j]? = some x → (w.alloc (.cells #[u, v] T)).cell? ((⟨w.heap.size, 0, none⟩ : Addr).add j) = some x := by
  intro j x hj
  match j, hj with
  | 0, hj => simp at hj; subst hj; simp [Addr.add]
  | 1, hj => simp at hj; subst hj; simp [Addr.add]
theorem two_cellR {u v : Value} (hu : u.oneCell' = true) (hv : v.oneCell' = true) : ∀ x ∈ [u, v], x.oneCell' = true := by
  intro x hx
  rcases List.mem_cons.1 hx with rfl | hx
  · exact hu
  · rw [List.mem_singleton.1 hx]; exact hv
/-- what is read kindly -/
def kindC (t : List UInt8) : Option (List Clo) := if t = [] then some [] else match readL readC (splitB 32 t) with
  | some D => if D.length ≤ 100 then some D else none
  | none => none
theorem nonempty_of {s : ByteArray} (h : s.data.toList ≠ []) : s.toList.isEmpty = false := by
  rw [Lib.toList_data]
  cases hq : s.data.toList with
  | nil => exact absurd hq h
  | cons a r => rfl
theorem heap6 (w : World) (a b c d f g : Obj) : (((((((w.alloc a).alloc b).alloc c).alloc d).alloc f).alloc g).heap[w.heap.size]? = some a ∧ ((((((w.alloc a).alloc b).alloc c).alloc d).alloc f).alloc g).heap[w.heap.size + 1]? = some b ∧
    ((((((w.alloc a).alloc b).alloc c).alloc d).alloc f).alloc g).heap[w.heap.size + 1 + 1]? = some c ∧ ((((((w.alloc a).alloc b).alloc c).alloc d).alloc f).alloc g).heap[w.heap.size + 1 + 1 + 1]? = some d ∧
    ((((((w.alloc a).alloc b).alloc c).alloc d).alloc f).alloc g).heap[w.heap.size + 1 + 1 + 1 + 1]? = some f ∧ ((((((w.alloc a).alloc b).alloc c).alloc d).alloc f).alloc g).heap[w.heap.size + 1 + 1 + 1 + 1 + 1]? = some g) ∧
    ((((((w.alloc a).alloc b).alloc c).alloc d).alloc f).alloc g).heap.size = w.heap.size + 6 ∧ Below w.heap.size w ((((((w.alloc a).alloc b).alloc c).alloc d).alloc f).alloc g) := by
  have e1 : (w.alloc a).heap.size = w.heap.size + 1 := by simp
  have e2 : ((w.alloc a).alloc b).heap.size = w.heap.size + 1 + 1 := by simp
  have e3 : (((w.alloc a).alloc b).alloc c).heap.size = w.heap.size + 1 + 1 + 1 := by simp
  have e4 : ((((w.alloc a).alloc b).alloc c).alloc d).heap.size = w.heap.size + 1 + 1 + 1 + 1 := by simp
  have e5 : (((((w.alloc a).alloc b).alloc c).alloc d).alloc f).heap.size = w.heap.size + 1 + 1 + 1 + 1 + 1 := by simp
  have h1 := World.alloc_heap_new (w.alloc a) b
  have h2 := World.alloc_heap_new ((w.alloc a).alloc b) c
  have h3 := World.alloc_heap_new (((w.alloc a).alloc b).alloc c) d
  have h4 := World.alloc_heap_new ((((w.alloc a).alloc b).alloc c).alloc d) f
  have h5 := World.alloc_heap_new (((((w.alloc a).alloc b).alloc c).alloc d).alloc f) g
  rw [e1] at h1
  rw [e2] at h2
  rw [e3] at h3
  rw [e4] at h4
  rw [e5] at h5
  refine ⟨⟨?_, ?_, ?_, ?_, ?_, h5⟩, by simp, ?_⟩
  · exact (Below.heap_alloc _ _ _ (by omega)).trans ((Below.heap_alloc _ _ _ (by omega)).trans ((Below.heap_alloc _ _ _ (by omega)).trans ((Below.heap_alloc _ _ _ (by omega)).trans ((Below.heap_alloc _ _ _ (by omega)).trans (World.alloc_heap_new w a)))))
  · exact (Below.heap_alloc _ _ _ (by omega)).trans ((Below.heap_alloc _ _ _ (by omega)).trans ((Below.heap_alloc _ _ _ (by omega)).trans ((Below.heap_alloc _ _ _ (by omega)).trans h1)))
  · exact (Below.heap_alloc _ _ _ (by omega)).trans ((Below.heap_alloc _ _ _ (by omega)).trans ((Below.heap_alloc _ _ _ (by omega)).trans h2))
  · exact (Below.heap_alloc _ _ _ (by omega)).trans ((Below.heap_alloc _ _ _ (by omega)).trans h3)
  · exact (Below.heap_alloc _ _ _ (by omega)).trans h4
  · exact ((((((Below.refl _ w).alloc (Nat.le_refl _) _).alloc (by simp) _).alloc (by simp; omega) _).alloc (by simp; omega) _).alloc (by simp; omega) _).alloc (by simp; omega) _
/-- between two parts -/
def IC (w : World) (b : Nat) (pre : List Part) (W : World) : Prop := (∃ D, (readL readC (parts pre) = some D ∧ D.length ≤ 100) ∧ RB b 59 94 9 136 2 (D.flatMap Clo.cells) D.length W) ∧ Below w.heap.size w W
/-- where the reader has left -/
def XC (w : World) (b : Nat) (ev : Value) (cc : Code) (pre : List Part) (W : World) : Prop := cc = .ret ∧ ((readL readC (parts pre) = none ∨ 100 < pre.length) ∧ Boxed W b 59 (.slice none 0 0) ∧ Boxed W (b + 1) 94 ev) ∧ Below w.heap.size w W
theorem post_stop {B lo hi b : Nat} {w W Y : World} {ev : Value} {pre : List Part} {a : Act} (h1 : KeepsFrom B W Y) (h2 : (readL readC (parts pre) = none ∨ 100 < pre.length) ∧ Boxed Y b 59 (.slice none 0 0) ∧ Boxed Y (b + 1) 94 ev) (h3 : Below w.heap.size w Y) :
    ownPostG B (KeepB lo hi) (IC w b) (XC w b ev) pre W .ret a Y := And.intro h1 (And.intro rfl (And.intro h2 h3))
theorem post_next {B lo hi b : Nat} {w W Y : World} {ev : Value} {pre : List Part} {a : Act} {D : List Clo} (h1 : KeepsFrom B W Y) (h2 : KeepB lo hi W Y) (h3 : readL readC (parts pre) = some D) (h4 : D.length ≤ 100) (h5 : RB b 59 94 9 136 2 (D.flatMap Clo.cells) D.length Y) (h6 : Below w.heap.size w Y) :
    ownPostG B (KeepB lo hi) (IC w b) (XC w b ev) pre W .normal a Y := And.intro h1 (And.intro h2 (And.intro ⟨D, ⟨h3, h4⟩, h5⟩ h6))
abbrev RC (b : Nat) (D : List Clo) (W : World) : Prop := RB b 59 94 9 136 2 (D.flatMap Clo.cells) D.length W
set_option maxRecDepth 100000 in
set_option maxHeartbeats 8000000 in
theorem readCloths_any (s : ByteArray) (hs : s.size ≤ 1048576) {w : World} {B : Nat} {e : Nat → Addr} (h : Errs w B e) (hn : NE w B) (hB : B ≤ w.heap.size) (R : Option (List Clo)) (hR : kindC s.data.toList = R) :
    Calls Tryd.prog 96 #[.string s] w fun o w' => ((R = none ∧ o = .returned (.tuple #[.slice none 0 0, errV (e 4)])) ∨ ∃ D v, R = some D ∧ o = .returned (.tuple #[v, .nilIface]) ∧ w'.ownsRow w.heap.size 136 2 v D.length (D.flatMap Clo.cells)) ∧ Below w.heap.size w w' := by
  obtain ⟨i0, hi, hz0, hz1, hz2⟩ := info_parts cloS.info
  have HR := Lib.hid hR
  have HE := Lib.hid (fun (u : World) (hu : Below w.heap.size w u) => h.below (hu.mono hB))
  have HNE := Lib.hid (fun (u : World) (hu : Below w.heap.size w u) => hn.below (hu.mono hB))
  clear hR h hn
  by_cases he : s.data.toList = []
  · have hs : s = ⟨#[]⟩ := by rw [← bsJ_of s, he]
    have hR2 : R = some [] := by rw [← HR.out, kindC, if_pos he]
    subst hs
    clear he
    go_enter Tryd.func96, Tryd.ntmps96
    go_wp2
    have r1 : Boxed ((w.alloc (.cells #[.slice none 0 0] 59)).alloc (.cells #[.nilIface] 94)) w.heap.size 59 (.slice none 0 0) := (Boxed.new w _ _).alloc _
    have r2 : Boxed ((w.alloc (.cells #[.slice none 0 0] 59)).alloc (.cells #[.nilIface] 94)) (w.heap.size + 1) 94 .nilIface := by
      have h := Boxed.new (w.alloc (.cells #[.slice none 0 0] 59)) 94 .nilIface
      rwa [World.size_alloc] at h
    refine bodyPost_ret (v := .tuple #[.slice none 0 0, .nilIface]) ?_ rfl ?_
    · simp [results, Tryd.f96, go_sem, r1.cell, r2.cell]
    · exact ⟨⟨_, rfl, World.ownsRow_nil _ _ _ _⟩, ((Below.refl _ w).alloc (Nat.le_refl _) _).alloc (by simp) _⟩
  · have hs0 : s.data.toList.length ≤ 1048576 := by rw [len_list]; exact hs
    have hne := nonempty_of he
    have HS := Lib.hid (show kindC s.data.toList = match readL readC (splitB 32 s.data.toList) with | some D => if D.length ≤ 100 then some D else none | none => none by rw [kindC, if_neg he])
    clear he
    refine (callsIn_wide (n := 3)).1 ?_
    refine callsIn_of_wp_marks Tryd.func96 rfl trivial ?_ rfl
    simp only [Tryd.ntmps96, List.size_toArray, List.length_cons, List.length_nil, Nat.reduceAdd, Nat.reduceSub, Array.replicate_succ, Array.replicate_zero, List.push_toArray, List.append_toArray, List.nil_append, List.cons_append]
    gi_wp2_with (refine ⟨trivial, ?_⟩; gi_at_call 122; refine (callsIn_wide.2 (splitSeq_any s 32 _)).mono ?_; rintro e w1 ⟨rfl, rfl⟩)
    have h6 := heap6 w (.cells #[.slice none 0 0] 59) (.cells #[.nilIface] 94) (.cells #[.slice none 0 0] 59) (.cells #[.string s] 9) (.cells #[.string ⟨#[32]⟩] 9) (.cells #[.int .i64 0] 3)
    obtain ⟨W0, hW0⟩ : ∃ W0, W0 = ((((((w.alloc (.cells #[.slice none 0 0] 59)).alloc (.cells #[.nilIface] 94)).alloc (.cells #[.slice none 0 0] 59)).alloc (.cells #[.string s] 9)).alloc (.cells #[.string ⟨#[32]⟩] 9)).alloc (.cells #[.int .i64 0] 3)) := ⟨_, rfl⟩
    rw [← hW0] at h6 ⊢
    obtain ⟨⟨g0, g1, g2, g3, g4, g5⟩, hsz, hB0⟩ := h6
    have k3 : Boxed W0 (w.heap.size + 1 + 1 + 1) 9 (.string s) := g3
    have k4 : Boxed W0 (w.heap.size + 1 + 1 + 1 + 1) 9 (.string ⟨#[32]⟩) := g4
    have k5 : Boxed W0 (w.heap.size + 1 + 1 + 1 + 1 + 1) 3 (.int .i64 0) := g5
    have hRB : RC w.heap.size [] W0 := ⟨g0, g1, ⟨_, g2, World.ownsRow_nil _ _ _ _⟩, ⟨s, k3⟩, by omega⟩
    clear g0 g1 g2 g3 g4 g5 hW0
    refine range_box (Bs := w.heap.size + 1 + 1 + 1) (by omega) (Nat.le_of_eq hsz.symm) rfl (by decide) (gf := 179) (lb := #[.pointer (some ⟨w.heap.size + 1 + 1 + 1 + 1, 0, none⟩), .pointer (some ⟨w.heap.size + 1 + 1 + 1, 0, none⟩), .pointer (some ⟨w.heap.size + 1 + 1 + 1 + 1 + 1, 0, none⟩)]) rfl trivial (enters_of Tryd.func179 (by kernel_rfl) rfl)
      (split_seq (3 - 1) (by decide) (w.heap.size + 1 + 1 + 1) (w.heap.size + 1 + 1 + 1 + 1) (w.heap.size + 1 + 1 + 1 + 1 + 1) (w.heap.size + 1 + 1 + 1) (w.heap.size + 6) 32 s.data.toList hs0 ⟨⟨by omega, by omega⟩, ⟨by omega, by omega⟩, ⟨by omega, by omega⟩, by omega, by omega⟩ W0 (by omega) (by rw [bsJ_of]; exact k3.cell) k3.frozen k4.cell k5.cell) (fun _ => rfl)
      (IC w w.heap.size) (XC w w.heap.size (errV (e 4)))
      (OwnFrom.and (fun s A B row hs hg hr => by obtain ⟨D, hD, h⟩ := hs; exact ⟨D, hD, h.grown hg fun r e => (hr r e).2⟩) (ownFrom_below (Nat.le_refl _) (by omega)))
      (fun cc => OwnFrom.and (fun s A B row hs _ _ => hs) (OwnFrom.and (fun s A B row hs hg hr => ⟨hs.1, boxed_not hs.2.1 hg fun r e => (hr r e).2, boxed_not hs.2.2 hg fun r e => (hr r e).2⟩) (ownFrom_below (Nat.le_refl _) (by omega))))
      (fun pre A t hs => ⟨by obtain ⟨D, hD, h⟩ := hs.1; exact ⟨D, hD, h.store t⟩, hs.2.setCell (p := ⟨w.heap.size + 1 + 1 + 1, 0, none⟩) (by show w.heap.size ≤ w.heap.size + 1 + 1 + 1; omega) _⟩)
      ⟨⟨[], ⟨rfl, by simp⟩, hRB⟩, hB0⟩
      (fun x => { tmps := #[.string s, undef, .pointer (some ⟨w.heap.size, 0, none⟩), .pointer (some ⟨w.heap.size + 1, 0, none⟩), .pointer (some ⟨w.heap.size + 1 + 1, 0, none⟩), .string (bsJ x.1), undef, undef, undef, undef, undef, undef, undef, .string s, .bool false, .string s, .func (.func 179) #[] #[.pointer (some ⟨w.heap.size + 1 + 1 + 1 + 1, 0, none⟩), .pointer (some ⟨w.heap.size + 1 + 1 + 1, 0, none⟩), .pointer (some ⟨w.heap.size + 1 + 1 + 1 + 1 + 1, 0, none⟩)], .string (bsJ x.1), undef, undef, undef, undef, undef, undef, undef, undef, undef, undef, undef, undef, undef, undef, undef, undef, undef, undef, undef, undef, undef, undef, undef, undef, undef, undef, undef, undef, undef, undef, undef, undef, undef, undef, undef, undef], defers := [] }) ?assign ?body ?done ?stop
    case assign =>
      intro l x W K hK
      gi_wp2
      exact hK
    case body =>
      rintro l pre x W ⟨⟨D, ⟨hD, hDl⟩, hrb⟩, hbw⟩ hlen
      have hmx : Tryd.prog.follows .mixedOrders = true := by kernel_rfl
      have hbb : (bsJ x.1).data.toList = x.1 := by simp
      have hcut := cut_any (bsJ x.1) 47 (by rw [bsJ_size]; exact x.2)
      rw [hbb] at hcut
      have hxa := Nat.le_trans (cutA_len 47 x.1) x.2
      have hxz := Nat.le_trans (cutZ_len 47 x.1) x.2
      have hsz := hrb.n
      have HRB := Lib.hid hrb
      have hg0 : ¬ 0 = w.heap.size := by have h1 := (HE.out _ (Below.refl _ _)).size; omega
      have HD := Lib.hid hD
      have HBW := Lib.hid hbw
      have n1 : ∀ {X : World}, Below W.heap.size W X → Below w.heap.size w X := fun h => HBW.out.trans (h.mono HBW.out.size)
      -- how the error is returned, whatever order is drawn
      have hbad : ∀ (X : World) (a : Act), Below W.heap.size W X → (readL readC (parts (pre ++ [x])) = none ∨ 100 < (pre ++ [x]).length) →
          ownPostG W0.heap.size (KeepB (w.heap.size + 1 + 1 + 1) (w.heap.size + 6)) (IC w w.heap.size) (XC w w.heap.size (errV (e 4))) (pre ++ [x]) W .ret a ((X.setCell ⟨w.heap.size, 0, none⟩ (.slice none 0 0)).setCell ⟨w.heap.size + 1, 0, none⟩ (.iface 284 (.pointer (some (e 4))))).drew := fun X a hX hno =>
        post_stop ((keeps_below _ hX).trans (two_stores _ _ _ _ _ _)) ⟨hno, ((HRB.out.below hX).fail _).1, ((HRB.out.below hX).fail _).2⟩ (two_below (n1 hX) _ _ (Nat.le_refl _) (Nat.le_succ _) _ _)
      have HBAD := Lib.hid hbad
      clear hbad
      cases ha : intK 16 (cutA 47 x.1) with
      | none =>
        cases hb : intK 16 (cutZ 47 x.1) with
        | none =>
          have HREAD : Hid (readC x.1 = none) := Lib.hid (by rw [readC, ha, hb])
          clear hrb hD hbw hbb
          gi_wp2
          refine ⟨trivial, (CallsIn.inRound l (callsIn_wide.2 (hcut _))).mono ?_⟩
          rintro o W1 ⟨⟨f, rfl⟩, hb1⟩
          have B1 := Lib.hid hb1
          clear hb1 hcut
          gi_wp2
          refine ⟨trivial, (CallsIn.inRound l (callsIn_wide.2 (parseNo (.inr (.inl rfl)) _ hxa ha _ (HNE.out _ (n1 B1.out))))).mono ?_⟩
          rintro o W2 ⟨⟨v1, t1, p1, rfl⟩, hb2⟩
          have B2 := Lib.hid (B1.out.trans (hb2.mono B1.out.size))
          clear hb2 ha
          gi_wp2
          refine ⟨trivial, (CallsIn.inRound l (callsIn_wide.2 (parseNo (.inr (.inl rfl)) _ hxz hb _ (HNE.out _ (n1 B2.out))))).mono ?_⟩
          rintro o W3 ⟨⟨v2, t2, p2, rfl⟩, hb3⟩
          have B3 := Lib.hid (B2.out.trans (hb3.mono B2.out.size))
          clear hb3 hb
          gi_wp2
          have hF : Calls Tryd.prog 82 #[.slice (some ⟨W3.heap.size, 0, none⟩) 2 2] (W3.alloc (.cells #[(.iface t1 p1), (.iface t2 p2)] 94)) fun o w' => o = .returned (.iface t1 p1) ∧ W3.alloc (.cells #[(.iface t1 p1), (.iface t2 p2)] 94) = w' := firstOf_two (some (t1, p1)) (some (t2, p2)) W3
          refine ⟨trivial, (CallsIn.inRound l (callsIn_wide.2 hF)).mono ?_⟩
          rintro o w4 ⟨rfl, hw4⟩
          have B4 : Hid (Below W.heap.size W w4) := Lib.hid (by rw [← hw4]; exact B3.out.alloc B3.out.size _)
          clear hF hw4
          have hrx := HRB.out.below B4.out
          have HNO : Hid (readL readC (parts (pre ++ [x])) = none ∨ 100 < (pre ++ [x]).length) := Lib.hid (.inl (by rw [parts_snoc, readL_snoc, HD.out, HREAD.out]))
          have f1 := hrx.r.frozen
          have f2 := hrx.e.frozen
          have q1 := hrx.r.cell
          have q2 := hrx.e.cell
          have hgl : ¬ 0 = w.heap.size := hg0
          have hgl2 : ¬ w.heap.size = 0 := fun e => hg0 e.symm
          have hce : w4.cell? ⟨0, 0, none⟩ = some (.iface 284 (.pointer (some (e 4)))) := (HE.out _ (n1 B4.out)).c4
          clear hrx
          gi_wp2
          refine wpIn_region_any hmx ?_
          refine wpAnyIn_all (rs := [0, 1]) (by kernel_rfl) (by simp) ?_
          intro iIn hIn
          rcases List.mem_cons.1 hIn with rfl | hIn
          · skip
            refine wpOpIn_step rfl (fun K' hK' => ?_)
            refine wanted_none rfl ?_
            gi_wp2
            refine wpAnyIn_all (rs := [1]) (by kernel_rfl) (by simp) ?_
            intro iIn hIn
            obtain rfl := List.mem_singleton.1 hIn
            clear hIn
            refine wpOpIn_step rfl (fun K' hK' => ?_)
            refine wanted_none rfl ?_
            gi_wp2
            refine wpAnyIn_all (rs := [2]) (by kernel_rfl) (by simp) ?_
            intro iIn hIn
            obtain rfl := List.mem_singleton.1 hIn
            clear hIn
            refine wpOpIn_step rfl (fun K' hK' => ?_)
            refine wanted_none rfl ?_
            gi_wp2
            refine wpAnyIn_done (by kernel_rfl) ?_ _
            gi_wp2
            exact HBAD.out w4 _ B4.out HNO.out
          · obtain rfl := List.mem_singleton.1 hIn
            clear hIn
            refine wpOpIn_step rfl (fun K' hK' => ?_)
            refine wanted_none rfl ?_
            gi_wp2
            refine wpAnyIn_all (rs := [0]) (by kernel_rfl) (by simp) ?_
            intro iIn hIn
            obtain rfl := List.mem_singleton.1 hIn
            clear hIn
            refine wpOpIn_step rfl (fun K' hK' => ?_)
            refine wanted_none rfl ?_
            gi_wp2
            refine wpAnyIn_all (rs := [2]) (by kernel_rfl) (by simp) ?_
            intro iIn hIn
            obtain rfl := List.mem_singleton.1 hIn
            clear hIn
            refine wpOpIn_step rfl (fun K' hK' => ?_)
            refine wanted_none rfl ?_
            gi_wp2
            refine wpAnyIn_done (by kernel_rfl) ?_ _
            gi_wp2
            exact HBAD.out w4 _ B4.out HNO.out
        | some c =>
          have HREAD : Hid (readC x.1 = none) := Lib.hid (by rw [readC, ha, hb])
          clear hrb hD hbw hbb
          gi_wp2
          refine ⟨trivial, (CallsIn.inRound l (callsIn_wide.2 (hcut _))).mono ?_⟩
          rintro o W1 ⟨⟨f, rfl⟩, hb1⟩
          have B1 := Lib.hid hb1
          clear hb1 hcut
          gi_wp2
          refine ⟨trivial, (CallsIn.inRound l (callsIn_wide.2 (parseNo (.inr (.inl rfl)) _ hxa ha _ (HNE.out _ (n1 B1.out))))).mono ?_⟩
          rintro o W2 ⟨⟨v1, t1, p1, rfl⟩, hb2⟩
          have B2 := Lib.hid (B1.out.trans (hb2.mono B1.out.size))
          clear hb2 ha
          gi_wp2
          refine ⟨trivial, (CallsIn.inRound l (callsIn_wide.2 (parseOk (.inr (.inl rfl)) _ hxz hb _ (HNE.out _ (n1 B2.out))))).mono ?_⟩
          rintro o W3 ⟨rfl, hb3⟩
          have B3 := Lib.hid (B2.out.trans (hb3.mono B2.out.size))
          clear hb3 hb
          gi_wp2
          have hF : Calls Tryd.prog 82 #[.slice (some ⟨W3.heap.size, 0, none⟩) 2 2] (W3.alloc (.cells #[(.iface t1 p1), .nilIface] 94)) fun o w' => o = .returned (.iface t1 p1) ∧ W3.alloc (.cells #[(.iface t1 p1), .nilIface] 94) = w' := firstOf_two (some (t1, p1)) none W3
          refine ⟨trivial, (CallsIn.inRound l (callsIn_wide.2 hF)).mono ?_⟩
          rintro o w4 ⟨rfl, hw4⟩
          have B4 : Hid (Below W.heap.size W w4) := Lib.hid (by rw [← hw4]; exact B3.out.alloc B3.out.size _)
          clear hF hw4
          have hrx := HRB.out.below B4.out
          have HNO : Hid (readL readC (parts (pre ++ [x])) = none ∨ 100 < (pre ++ [x]).length) := Lib.hid (.inl (by rw [parts_snoc, readL_snoc, HD.out, HREAD.out]))
          have f1 := hrx.r.frozen
          have f2 := hrx.e.frozen
          have q1 := hrx.r.cell
          have q2 := hrx.e.cell
          have hgl : ¬ 0 = w.heap.size := hg0
          have hgl2 : ¬ w.heap.size = 0 := fun e => hg0 e.symm
          have hce : w4.cell? ⟨0, 0, none⟩ = some (.iface 284 (.pointer (some (e 4)))) := (HE.out _ (n1 B4.out)).c4
          clear hrx
          gi_wp2
          refine wpIn_region_any hmx ?_
          refine wpAnyIn_all (rs := [0, 1]) (by kernel_rfl) (by simp) ?_
          intro iIn hIn
          rcases List.mem_cons.1 hIn with rfl | hIn
          · skip
            refine wpOpIn_step rfl (fun K' hK' => ?_)
            refine wanted_none rfl ?_
            gi_wp2
            refine wpAnyIn_all (rs := [1]) (by kernel_rfl) (by simp) ?_
            intro iIn hIn
            obtain rfl := List.mem_singleton.1 hIn
            clear hIn
            refine wpOpIn_step rfl (fun K' hK' => ?_)
            refine wanted_none rfl ?_
            gi_wp2
            refine wpAnyIn_all (rs := [2]) (by kernel_rfl) (by simp) ?_
            intro iIn hIn
            obtain rfl := List.mem_singleton.1 hIn
            clear hIn
            refine wpOpIn_step rfl (fun K' hK' => ?_)
            refine wanted_none rfl ?_
            gi_wp2
            refine wpAnyIn_done (by kernel_rfl) ?_ _
            gi_wp2
            exact HBAD.out w4 _ B4.out HNO.out
          · obtain rfl := List.mem_singleton.1 hIn
            clear hIn
            refine wpOpIn_step rfl (fun K' hK' => ?_)
            refine wanted_none rfl ?_
            gi_wp2
            refine wpAnyIn_all (rs := [0]) (by kernel_rfl) (by simp) ?_
            intro iIn hIn
            obtain rfl := List.mem_singleton.1 hIn
            clear hIn
            refine wpOpIn_step rfl (fun K' hK' => ?_)
            refine wanted_none rfl ?_
            gi_wp2
            refine wpAnyIn_all (rs := [2]) (by kernel_rfl) (by simp) ?_
            intro iIn hIn
            obtain rfl := List.mem_singleton.1 hIn
            clear hIn
            refine wpOpIn_step rfl (fun K' hK' => ?_)
            refine wanted_none rfl ?_
            gi_wp2
            refine wpAnyIn_done (by kernel_rfl) ?_ _
            gi_wp2
            exact HBAD.out w4 _ B4.out HNO.out
      | some a =>
        cases hb : intK 16 (cutZ 47 x.1) with
        | none =>
          have HREAD : Hid (readC x.1 = none) := Lib.hid (by rw [readC, ha, hb])
          clear hrb hD hbw hbb
          gi_wp2
          refine ⟨trivial, (CallsIn.inRound l (callsIn_wide.2 (hcut _))).mono ?_⟩
          rintro o W1 ⟨⟨f, rfl⟩, hb1⟩
          have B1 := Lib.hid hb1
          clear hb1 hcut
          gi_wp2
          refine ⟨trivial, (CallsIn.inRound l (callsIn_wide.2 (parseOk (.inr (.inl rfl)) _ hxa ha _ (HNE.out _ (n1 B1.out))))).mono ?_⟩
          rintro o W2 ⟨rfl, hb2⟩
          have B2 := Lib.hid (B1.out.trans (hb2.mono B1.out.size))
          clear hb2 ha
          gi_wp2
          refine ⟨trivial, (CallsIn.inRound l (callsIn_wide.2 (parseNo (.inr (.inl rfl)) _ hxz hb _ (HNE.out _ (n1 B2.out))))).mono ?_⟩
          rintro o W3 ⟨⟨v2, t2, p2, rfl⟩, hb3⟩
          have B3 := Lib.hid (B2.out.trans (hb3.mono B2.out.size))
          clear hb3 hb
          gi_wp2
          have hF : Calls Tryd.prog 82 #[.slice (some ⟨W3.heap.size, 0, none⟩) 2 2] (W3.alloc (.cells #[.nilIface, (.iface t2 p2)] 94)) fun o w' => o = .returned (.iface t2 p2) ∧ W3.alloc (.cells #[.nilIface, (.iface t2 p2)] 94) = w' := firstOf_two none (some (t2, p2)) W3
          refine ⟨trivial, (CallsIn.inRound l (callsIn_wide.2 hF)).mono ?_⟩
          rintro o w4 ⟨rfl, hw4⟩
          have B4 : Hid (Below W.heap.size W w4) := Lib.hid (by rw [← hw4]; exact B3.out.alloc B3.out.size _)
          clear hF hw4
          have hrx := HRB.out.below B4.out
          have HNO : Hid (readL readC (parts (pre ++ [x])) = none ∨ 100 < (pre ++ [x]).length) := Lib.hid (.inl (by rw [parts_snoc, readL_snoc, HD.out, HREAD.out]))
          have f1 := hrx.r.frozen
          have f2 := hrx.e.frozen
          have q1 := hrx.r.cell
          have q2 := hrx.e.cell
          have hgl : ¬ 0 = w.heap.size := hg0
          have hgl2 : ¬ w.heap.size = 0 := fun e => hg0 e.symm
          have hce : w4.cell? ⟨0, 0, none⟩ = some (.iface 284 (.pointer (some (e 4)))) := (HE.out _ (n1 B4.out)).c4
          clear hrx
          gi_wp2
          refine wpIn_region_any hmx ?_
          refine wpAnyIn_all (rs := [0, 1]) (by kernel_rfl) (by simp) ?_
          intro iIn hIn
          rcases List.mem_cons.1 hIn with rfl | hIn
          · skip
            refine wpOpIn_step rfl (fun K' hK' => ?_)
            refine wanted_none rfl ?_
            gi_wp2
            refine wpAnyIn_all (rs := [1]) (by kernel_rfl) (by simp) ?_
            intro iIn hIn
            obtain rfl := List.mem_singleton.1 hIn
            clear hIn
            refine wpOpIn_step rfl (fun K' hK' => ?_)
            refine wanted_none rfl ?_
            gi_wp2
            refine wpAnyIn_all (rs := [2]) (by kernel_rfl) (by simp) ?_
            intro iIn hIn
            obtain rfl := List.mem_singleton.1 hIn
            clear hIn
            refine wpOpIn_step rfl (fun K' hK' => ?_)
            refine wanted_none rfl ?_
            gi_wp2
            refine wpAnyIn_done (by kernel_rfl) ?_ _
            gi_wp2
            exact HBAD.out w4 _ B4.out HNO.out
          · obtain rfl := List.mem_singleton.1 hIn
            clear hIn
            refine wpOpIn_step rfl (fun K' hK' => ?_)
            refine wanted_none rfl ?_
            gi_wp2
            refine wpAnyIn_all (rs := [0]) (by kernel_rfl) (by simp) ?_
            intro iIn hIn
            obtain rfl := List.mem_singleton.1 hIn
            clear hIn
            refine wpOpIn_step rfl (fun K' hK' => ?_)
            refine wanted_none rfl ?_
            gi_wp2
            refine wpAnyIn_all (rs := [2]) (by kernel_rfl) (by simp) ?_
            intro iIn hIn
            obtain rfl := List.mem_singleton.1 hIn
            clear hIn
            refine wpOpIn_step rfl (fun K' hK' => ?_)
            refine wanted_none rfl ?_
            gi_wp2
            refine wpAnyIn_done (by kernel_rfl) ?_ _
            gi_wp2
            exact HBAD.out w4 _ B4.out HNO.out
        | some c =>
          have hread : readC x.1 = some ⟨a, c⟩ := by rw [readC, ha, hb]
          have HREAD := Lib.hid hread
          clear hrb hD hbw hbb hread
          gi_wp2
          refine ⟨trivial, (CallsIn.inRound l (callsIn_wide.2 (hcut _))).mono ?_⟩
          rintro o W1 ⟨⟨f, rfl⟩, hb1⟩
          have B1 := Lib.hid hb1
          clear hb1 hcut
          gi_wp2
          refine ⟨trivial, (CallsIn.inRound l (callsIn_wide.2 (parseOk (.inr (.inl rfl)) _ hxa ha _ (HNE.out _ (n1 B1.out))))).mono ?_⟩
          rintro o W2 ⟨rfl, hb2⟩
          have B2 := Lib.hid (B1.out.trans (hb2.mono B1.out.size))
          clear hb2 ha
          gi_wp2
          refine ⟨trivial, (CallsIn.inRound l (callsIn_wide.2 (parseOk (.inr (.inl rfl)) _ hxz hb _ (HNE.out _ (n1 B2.out))))).mono ?_⟩
          rintro o W3 ⟨rfl, hb3⟩
          have B3 := Lib.hid (B2.out.trans (hb3.mono B2.out.size))
          clear hb3 hb
          gi_wp2
          have hF : Calls Tryd.prog 82 #[.slice (some ⟨W3.heap.size, 0, none⟩) 2 2] (W3.alloc (.cells #[.nilIface, .nilIface] 94)) fun o w' => o = .returned .nilIface ∧ W3.alloc (.cells #[.nilIface, .nilIface] 94) = w' := firstOf_two none none W3
          refine ⟨trivial, (CallsIn.inRound l (callsIn_wide.2 hF)).mono ?_⟩
          rintro o w4 ⟨rfl, hw4⟩
          have B4 : Hid (Below W.heap.size W w4) := Lib.hid (by rw [← hw4]; exact B3.out.alloc B3.out.size _)
          clear hF hw4
          have hrx := HRB.out.below B4.out
          obtain ⟨v, hv, hrow⟩ := hrx.l
          obtain ⟨Av, cv, rfl, _⟩ := owns_slice hrow
          have hvc := hv.cell
          by_cases hfull : D.length = 100
          · have hdec : ((D.length : Int) == 100) = true := by rw [hfull]; rfl
            have HNO : Hid (readL readC (parts (pre ++ [x])) = none ∨ 100 < (pre ++ [x]).length) := Lib.hid (.inr (by
              have h1 := readL_len HD.out
              rw [parts_len] at h1
              rw [List.length_append, List.length_singleton]
              omega))
            have f1 := hrx.r.frozen
            have f2 := hrx.e.frozen
            have q1 := hrx.r.cell
            have q2 := hrx.e.cell
            have hgl : ¬ 0 = w.heap.size := hg0
            have hgl2 : ¬ w.heap.size = 0 := fun e => hg0 e.symm
            have hce : w4.cell? ⟨0, 0, none⟩ = some (.iface 284 (.pointer (some (e 4)))) := (HE.out _ (n1 B4.out)).c4
            clear hrx hv hrow
            gi_wp2
            refine wpIn_region_any hmx ?_
            refine wpAnyIn_all (rs := [0, 1]) (by kernel_rfl) (by simp) ?_
            intro iIn hIn
            rcases List.mem_cons.1 hIn with rfl | hIn
            · skip
              refine wpOpIn_step rfl (fun K' hK' => ?_)
              refine wanted_none rfl ?_
              gi_wp2
              refine wpAnyIn_all (rs := [1]) (by kernel_rfl) (by simp) ?_
              intro iIn hIn
              obtain rfl := List.mem_singleton.1 hIn
              clear hIn
              refine wpOpIn_step rfl (fun K' hK' => ?_)
              refine wanted_none rfl ?_
              gi_wp2
              refine wpAnyIn_all (rs := [2]) (by kernel_rfl) (by simp) ?_
              intro iIn hIn
              obtain rfl := List.mem_singleton.1 hIn
              clear hIn
              refine wpOpIn_step rfl (fun K' hK' => ?_)
              refine wanted_none rfl ?_
              gi_wp2
              refine wpAnyIn_done (by kernel_rfl) ?_ _
              gi_wp2
              exact HBAD.out w4 _ B4.out HNO.out
            · obtain rfl := List.mem_singleton.1 hIn
              clear hIn
              refine wpOpIn_step rfl (fun K' hK' => ?_)
              refine wanted_none rfl ?_
              gi_wp2
              refine wpAnyIn_all (rs := [0]) (by kernel_rfl) (by simp) ?_
              intro iIn hIn
              obtain rfl := List.mem_singleton.1 hIn
              clear hIn
              refine wpOpIn_step rfl (fun K' hK' => ?_)
              refine wanted_none rfl ?_
              gi_wp2
              refine wpAnyIn_all (rs := [2]) (by kernel_rfl) (by simp) ?_
              intro iIn hIn
              obtain rfl := List.mem_singleton.1 hIn
              clear hIn
              refine wpOpIn_step rfl (fun K' hK' => ?_)
              refine wanted_none rfl ?_
              gi_wp2
              refine wpAnyIn_done (by kernel_rfl) ?_ _
              gi_wp2
              exact HBAD.out w4 _ B4.out HNO.out
          · have hdec : ((D.length : Int) == 100) = false := by simp; omega
            have hfit := readC_fits HREAD.out
            have hwa : IntKind.wrap .i16 a = a := wrap_fits16 hfit.wide0 hfit.wide1
            have hwc : IntKind.wrap .i16 c = c := wrap_fits16 hfit.heavy0 hfit.heavy1
            have HX := Lib.hid hrx
            have HV := Lib.hid hv
            have HROW := Lib.hid hrow
            have hvf := hv.frozen
            clear hrx hv hrow hfit
            gi_wp2_with (gi_at_builtin; refine wpListIn_append_own _ rfl (.tmp 45) (.tmp 51) 59 rfl (w.heap.size + 6) 136 i0 (.agg #[.int .i16 0, .int .i16 0]) 2 4 Tryd.underlying59 hi hz0 hz1 hz2 rfl (by decide) _ _ _ rfl (HROW.out.alloc _) ⟨w4.heap.size, 0, none⟩ 1 1 [.int .i16 a, .int .i16 c] rfl rfl (two_newR _ _ _ _) (two_cellR rfl rfl) (by unfold maxLen; omega) (by omega) (by have := HX.out.n; simp; omega) ?_; intro v' w5 hown' hgr _; obtain ⟨g', cap', rfl⟩ := ownsRow_succ hown'; obtain ⟨hb5, hrb5, hk5, hl5, hj5⟩ := HX.out.append HV.out HROW.out hown' hgr; have hc5 := hb5.cell; have hf5 := hb5.frozen; have RB5 := Lib.hid hrb5; have KF5 := Lib.hid hk5; have BL5 := Lib.hid hl5; have KB5 := Lib.hid hj5; clear hown' hgr hb5 hrb5 hk5 hl5 hj5)
            refine post_next ((keeps_below _ B4.out).trans (KF5.out.from _)) ((KeepB.below B4.out hsz).trans KB5.out) (D := D ++ [⟨a, c⟩]) (by rw [parts_snoc, readL_snoc, HD.out, HREAD.out]) (by rw [List.length_append, List.length_singleton]; omega) ?_ ((n1 B4.out).trans BL5.out)
            rw [List.flatMap_append, List.length_append]
            exact RB5.out
    case done =>
      rintro Dd ys W hDd hys ⟨⟨D, ⟨hD, hDl⟩, hrb⟩, hbw⟩ hK
      obtain ⟨h1, h2, ⟨v, h3, h4⟩, ⟨t, h5⟩, h6⟩ := hrb
      have hfin : R = some D := by rw [← HR.out, HS.out, ← hys, hD]; simp only; rw [if_pos hDl]
      obtain ⟨Av, cv, rfl, _⟩ := owns_slice h4
      have c3 := h3.cell
      have f1 := h1.frozen
      have f2 := h2.frozen
      have q1 := h1.cell
      have q2 := h2.cell
      gi_wp2
      have hg1 := grownBy_setCell' W w.heap.size (.slice Av D.length cv)
      have hg2 := grownBy_setCell' (W.setCell ⟨w.heap.size, 0, none⟩ (.slice Av D.length cv)) (w.heap.size + 1) .nilIface
      have r1 := (h1.set (.slice Av D.length cv)).kept hg2 (by simp <;> omega)
      have r2 := (h2.kept hg1 (by simp <;> omega)).set .nilIface
      have r4 := (h4.kept hg1 (.inr fun e => by have := owns_ge h4 _ e; omega)).kept hg2 (.inr fun e => by have := owns_ge h4 _ e; omega)
      have kv := ((KeepsOthers.setCell W ⟨w.heap.size, 0, none⟩ (.slice Av D.length cv)).trans (KeepsOthers.setCell _ ⟨w.heap.size + 1, 0, none⟩ .nilIface)).same Dd _ hK rfl
      refine ⟨by simp, .inl ⟨_, _, rfl, run_takeDeferred kv, ?_⟩⟩
      have c1 := boxed_not r1 (grownBy_putObj' _ Dd (.deferred none)) (fun r e => by cases e; exact ⟨_, kv, rfl⟩)
      have c2 := boxed_not r2 (grownBy_putObj' _ Dd (.deferred none)) (fun r e => by cases e; exact ⟨_, kv, rfl⟩)
      refine ⟨.tuple #[.slice Av D.length cv, .nilIface], ?_, .inr ⟨D, _, hfin, rfl, owns_low (ownsRow_putObj r4 (.deferred none) kv rfl) (by omega)⟩, ((hbw.setCell (p := ⟨w.heap.size, 0, none⟩) (Nat.le_refl _) _).setCell (p := ⟨w.heap.size + 1, 0, none⟩) (Nat.le_succ _) _).trans (belowK_b (w := w) (Nat.le_refl _) _ Dd _ _ (by omega) kv rfl rfl)⟩
      simp [results, Tryd.f96, go_sem, c1.cell, c2.cell]
    case stop =>
      rintro Dd cc pre W hDd hpre ⟨rfl, ⟨hwhy, hc1, hc2⟩, hbw⟩ hK
      have hno : R = none := by
        rw [← HR.out, HS.out]
        rcases hwhy with hw | hw
        · rw [readL_prefix hw hpre]
        · cases hrl : readL readC (splitB 32 s.data.toList) with
          | none => rfl
          | some E =>
            have h1 := readL_len hrl
            have h2 := hpre.length_le
            rw [parts_len] at h2
            simp only
            rw [if_neg (by omega)]
      clear hwhy
      gi_wp2
      refine ⟨by simp, .inl ⟨_, _, rfl, run_takeDeferred hK, ?_⟩⟩
      have c1 := boxed_not hc1 (grownBy_putObj' _ Dd (.deferred none)) (fun r e => by cases e; exact ⟨_, hK, rfl⟩)
      have c2 := boxed_not hc2 (grownBy_putObj' _ Dd (.deferred none)) (fun r e => by cases e; exact ⟨_, hK, rfl⟩)
      refine ⟨.tuple #[.slice none 0 0, errV (e 4)], ?_, .inl ⟨hno, rfl⟩, hbw.trans (belowK_b (w := w) (Nat.le_refl _) W Dd _ _ (by omega) hK rfl rfl)⟩
      simp [results, Tryd.f96, go_sem, c1.cell, c2.cell]
end Go.Proofs.YtjfimmfnhlimkaaDoor.rd

/-
  A pile read from a text: the program's readPile.
-/
namespace Go.Proofs.YtjfimmfnhlimkaaDoor.rd
open Go Go.RowKit Go.Shelf sl dec txt errs rng
attribute [local go_sem] Oper.semAt_some

theorem one_newR (w : World) (u : Value) (T : TypeId) : ∀ (j : Nat) x, [u][j]? = some x → (w.alloc (.cells #[u] T)).cell? ((⟨w.heap.size, 0, none⟩ : Addr).add j) = some x := by
  intro j x hj
  match j, hj with
  | 0, hj => simp at hj; subst hj; simp [Addr.add]
theorem one_cellR {u : Value} (hu : u.oneCell' = true) : ∀ x ∈ [u], x.oneCell' = true := by
  intro x hx
  rw [List.mem_singleton.1 hx]; exact hu
/-- what is read kindly -/
def kindI (t : List UInt8) : Option (List Int) := if t = [] then some [] else match readL (intK 64) (splitB 44 t) with
  | some D => if D.length ≤ 8 then some D else none
  | none => none
/-- between two parts -/
def ICi (w : World) (b : Nat) (pre : List Part) (W : World) : Prop := (∃ D, (readL (intK 64) (parts pre) = some D ∧ D.length ≤ 8) ∧ RB b 101 94 9 2 1 (D.flatMap intS.C) D.length W) ∧ Below w.heap.size w W
/-- where the reader has left -/
def XCi (w : World) (b : Nat) (ev : Value) (cc : Code) (pre : List Part) (W : World) : Prop := cc = .ret ∧ ((readL (intK 64) (parts pre) = none ∨ 8 < pre.length) ∧ Boxed W b 101 (.slice none 0 0) ∧ Boxed W (b + 1) 94 ev) ∧ Below w.heap.size w W
theorem post_stopI {B lo hi b : Nat} {w W Y : World} {ev : Value} {pre : List Part} {a : Act} (h1 : KeepsFrom B W Y) (h2 : (readL (intK 64) (parts pre) = none ∨ 8 < pre.length) ∧ Boxed Y b 101 (.slice none 0 0) ∧ Boxed Y (b + 1) 94 ev) (h3 : Below w.heap.size w Y) :
    ownPostG B (KeepB lo hi) (ICi w b) (XCi w b ev) pre W .ret a Y := And.intro h1 (And.intro rfl (And.intro h2 h3))
theorem post_nextI {B lo hi b : Nat} {w W Y : World} {ev : Value} {pre : List Part} {a : Act} {D : List Int} (h1 : KeepsFrom B W Y) (h2 : KeepB lo hi W Y) (h3 : readL (intK 64) (parts pre) = some D) (h4 : D.length ≤ 8) (h5 : RB b 101 94 9 2 1 (D.flatMap intS.C) D.length Y) (h6 : Below w.heap.size w Y) :
    ownPostG B (KeepB lo hi) (ICi w b) (XCi w b ev) pre W .normal a Y := And.intro h1 (And.intro h2 (And.intro ⟨D, ⟨h3, h4⟩, h5⟩ h6))
abbrev RCi (b : Nat) (D : List Int) (W : World) : Prop := RB b 101 94 9 2 1 (D.flatMap intS.C) D.length W
set_option maxRecDepth 100000 in
set_option maxHeartbeats 8000000 in
theorem readPile_any (s : ByteArray) (hs : s.size ≤ 1048576) {w : World} {B : Nat} {e : Nat → Addr} (h : Errs w B e) (hn : NE w B) (hB : B ≤ w.heap.size) (R : Option (List Int)) (hR : kindI s.data.toList = R) :
    Calls Tryd.prog 150 #[.string s] w fun o w' => ((R = none ∧ o = .returned (.tuple #[.slice none 0 0, errV (e 4)])) ∨ ∃ D v, R = some D ∧ o = .returned (.tuple #[v, .nilIface]) ∧ w'.ownsRow w.heap.size 2 1 v D.length (D.flatMap intS.C)) ∧ Below w.heap.size w w' := by
  obtain ⟨i0, hi, hz0, hz1, hz2⟩ := info_parts intS.info
  have HR := Lib.hid hR
  have HE := Lib.hid (fun (u : World) (hu : Below w.heap.size w u) => h.below (hu.mono hB))
  have HNE := Lib.hid (fun (u : World) (hu : Below w.heap.size w u) => hn.below (hu.mono hB))
  clear hR h hn
  by_cases he : s.data.toList = []
  · have hs : s = ⟨#[]⟩ := by rw [← bsJ_of s, he]
    have hR2 : R = some [] := by rw [← HR.out, kindI, if_pos he]
    subst hs
    clear he
    go_enter Tryd.func150, Tryd.ntmps150
    go_wp2
    have r1 : Boxed ((w.alloc (.cells #[.slice none 0 0] 101)).alloc (.cells #[.nilIface] 94)) w.heap.size 101 (.slice none 0 0) := (Boxed.new w _ _).alloc _
    have r2 : Boxed ((w.alloc (.cells #[.slice none 0 0] 101)).alloc (.cells #[.nilIface] 94)) (w.heap.size + 1) 94 .nilIface := by
      have h := Boxed.new (w.alloc (.cells #[.slice none 0 0] 101)) 94 .nilIface
      rwa [World.size_alloc] at h
    refine bodyPost_ret (v := .tuple #[.slice none 0 0, .nilIface]) ?_ rfl ?_
    · simp [results, Tryd.f150, go_sem, r1.cell, r2.cell]
    · exact ⟨⟨_, rfl, World.ownsRow_nil _ _ _ _⟩, (((Below.refl _ w).alloc (Nat.le_refl _) _).alloc (by simp) _).alloc (by simp; omega) _⟩
  · have hs0 : s.data.toList.length ≤ 1048576 := by rw [len_list]; exact hs
    have hne := nonempty_of he
    have HS := Lib.hid (show kindI s.data.toList = match readL (intK 64) (splitB 44 s.data.toList) with | some D => if D.length ≤ 8 then some D else none | none => none by rw [kindI, if_neg he])
    clear he
    refine (callsIn_wide (n := 3)).1 ?_
    refine callsIn_of_wp_marks Tryd.func150 rfl trivial ?_ rfl
    simp only [Tryd.ntmps150, List.size_toArray, List.length_cons, List.length_nil, Nat.reduceAdd, Nat.reduceSub, Array.replicate_succ, Array.replicate_zero, List.push_toArray, List.append_toArray, List.nil_append, List.cons_append]
    gi_wp2_with (refine ⟨trivial, ?_⟩; gi_at_call 122; refine (callsIn_wide.2 (splitSeq_any s 44 _)).mono ?_; rintro e w1 ⟨rfl, rfl⟩)
    have h6 := heap6 w (.cells #[.slice none 0 0] 101) (.cells #[.nilIface] 94) (.cells #[.slice none 0 0] 101) (.cells #[.string s] 9) (.cells #[.string ⟨#[44]⟩] 9) (.cells #[.int .i64 0] 3)
    obtain ⟨W0, hW0⟩ : ∃ W0, W0 = ((((((w.alloc (.cells #[.slice none 0 0] 101)).alloc (.cells #[.nilIface] 94)).alloc (.cells #[.slice none 0 0] 101)).alloc (.cells #[.string s] 9)).alloc (.cells #[.string ⟨#[44]⟩] 9)).alloc (.cells #[.int .i64 0] 3)) := ⟨_, rfl⟩
    rw [← hW0] at h6 ⊢
    obtain ⟨⟨g0, g1, g2, g3, g4, g5⟩, hsz, hB0⟩ := h6
    have k3 : Boxed W0 (w.heap.size + 1 + 1 + 1) 9 (.string s) := g3
    have k4 : Boxed W0 (w.heap.size + 1 + 1 + 1 + 1) 9 (.string ⟨#[44]⟩) := g4
    have k5 : Boxed W0 (w.heap.size + 1 + 1 + 1 + 1 + 1) 3 (.int .i64 0) := g5
    have hRB : RCi w.heap.size [] W0 := ⟨g0, g1, ⟨_, g2, World.ownsRow_nil _ _ _ _⟩, ⟨s, k3⟩, by omega⟩
    clear g0 g1 g2 g3 g4 g5 hW0
    refine range_box (Bs := w.heap.size + 1 + 1 + 1) (by omega) (Nat.le_of_eq hsz.symm) rfl (by decide) (gf := 179) (lb := #[.pointer (some ⟨w.heap.size + 1 + 1 + 1 + 1, 0, none⟩), .pointer (some ⟨w.heap.size + 1 + 1 + 1, 0, none⟩), .pointer (some ⟨w.heap.size + 1 + 1 + 1 + 1 + 1, 0, none⟩)]) rfl trivial (enters_of Tryd.func179 (by kernel_rfl) rfl)
      (split_seq (3 - 1) (by decide) (w.heap.size + 1 + 1 + 1) (w.heap.size + 1 + 1 + 1 + 1) (w.heap.size + 1 + 1 + 1 + 1 + 1) (w.heap.size + 1 + 1 + 1) (w.heap.size + 6) 44 s.data.toList hs0 ⟨⟨by omega, by omega⟩, ⟨by omega, by omega⟩, ⟨by omega, by omega⟩, by omega, by omega⟩ W0 (by omega) (by rw [bsJ_of]; exact k3.cell) k3.frozen k4.cell k5.cell) (fun _ => rfl)
      (ICi w w.heap.size) (XCi w w.heap.size (errV (e 4)))
      (OwnFrom.and (fun s A B row hs hg hr => by obtain ⟨D, hD, h⟩ := hs; exact ⟨D, hD, h.grown hg fun r e => (hr r e).2⟩) (ownFrom_below (Nat.le_refl _) (by omega)))
      (fun cc => OwnFrom.and (fun s A B row hs _ _ => hs) (OwnFrom.and (fun s A B row hs hg hr => ⟨hs.1, boxed_not hs.2.1 hg fun r e => (hr r e).2, boxed_not hs.2.2 hg fun r e => (hr r e).2⟩) (ownFrom_below (Nat.le_refl _) (by omega))))
      (fun pre A t hs => ⟨by obtain ⟨D, hD, h⟩ := hs.1; exact ⟨D, hD, h.store t⟩, hs.2.setCell (p := ⟨w.heap.size + 1 + 1 + 1, 0, none⟩) (by show w.heap.size ≤ w.heap.size + 1 + 1 + 1; omega) _⟩)
      ⟨⟨[], ⟨rfl, by simp⟩, hRB⟩, hB0⟩
      (fun x => { tmps := #[.string s, undef, .pointer (some ⟨w.heap.size, 0, none⟩), .pointer (some ⟨w.heap.size + 1, 0, none⟩), .pointer (some ⟨w.heap.size + 1 + 1, 0, none⟩), .string (bsJ x.1), undef, undef, .string s, .bool false, undef, .string s, .func (.func 179) #[] #[.pointer (some ⟨w.heap.size + 1 + 1 + 1 + 1, 0, none⟩), .pointer (some ⟨w.heap.size + 1 + 1 + 1, 0, none⟩), .pointer (some ⟨w.heap.size + 1 + 1 + 1 + 1 + 1, 0, none⟩)], .string (bsJ x.1), undef, undef, undef, undef, undef, undef, undef, undef, undef, undef, undef, undef, undef, undef, undef, undef, undef, undef], defers := [] }) ?assign ?body ?done ?stop
    case assign =>
      intro l x W K hK
      gi_wp2
      exact hK
    case body =>
      rintro l pre x W ⟨⟨D, ⟨hD, hDl⟩, hrb⟩, hbw⟩ hlen
      have hmx : Tryd.prog.follows .mixedOrders = true := by kernel_rfl
      have hxl := x.2
      have hsz := hrb.n
      have HRB := Lib.hid hrb
      have hg0 : ¬ 0 = w.heap.size := by have h1 := (HE.out _ (Below.refl _ _)).size; omega
      have HD := Lib.hid hD
      have HBW := Lib.hid hbw
      have n1 : ∀ {X : World}, Below W.heap.size W X → Below w.heap.size w X := fun h => HBW.out.trans (h.mono HBW.out.size)
      -- how the error is returned, whatever order is drawn
      have hbad : ∀ (X : World) (a : Act), Below W.heap.size W X → (readL (intK 64) (parts (pre ++ [x])) = none ∨ 8 < (pre ++ [x]).length) →
          ownPostG W0.heap.size (KeepB (w.heap.size + 1 + 1 + 1) (w.heap.size + 6)) (ICi w w.heap.size) (XCi w w.heap.size (errV (e 4))) (pre ++ [x]) W .ret a ((X.setCell ⟨w.heap.size, 0, none⟩ (.slice none 0 0)).setCell ⟨w.heap.size + 1, 0, none⟩ (.iface 284 (.pointer (some (e 4))))).drew := fun X a hX hno =>
        post_stopI ((keeps_below _ hX).trans (two_stores _ _ _ _ _ _)) ⟨hno, ((HRB.out.below hX).fail _).1, ((HRB.out.below hX).fail _).2⟩ (two_below (n1 hX) _ _ (Nat.le_refl _) (Nat.le_succ _) _ _)
      have HBAD := Lib.hid hbad
      clear hbad
      cases ha : intK 64 x.1 with
      | none =>
        have HNO : Hid (readL (intK 64) (parts (pre ++ [x])) = none ∨ 8 < (pre ++ [x]).length) := Lib.hid (.inl (by rw [parts_snoc, readL_snoc, HD.out, ha]))
        clear hrb hD hbw
        gi_wp2
        refine ⟨trivial, (CallsIn.inRound l (callsIn_wide.2 (parseNo (.inr (.inr rfl)) _ hxl ha _ (HNE.out _ HBW.out)))).mono ?_⟩
        rintro o W1 ⟨⟨v1, t1, p1, rfl⟩, hb1⟩
        have B1 := Lib.hid hb1
        clear hb1 ha
        have hrx := HRB.out.below B1.out
        have f1 := hrx.r.frozen
        have f2 := hrx.e.frozen
        have q1 := hrx.r.cell
        have q2 := hrx.e.cell
        have hgl : ¬ 0 = w.heap.size := hg0
        have hgl2 : ¬ w.heap.size = 0 := fun e => hg0 e.symm
        have hce : W1.cell? ⟨0, 0, none⟩ = some (.iface 284 (.pointer (some (e 4)))) := (HE.out _ (n1 B1.out)).c4
        clear hrx
        gi_wp2
        refine wpIn_region_any hmx ?_
        refine wpAnyIn_all (rs := [0, 1]) (by kernel_rfl) (by simp) ?_
        intro iIn hIn
        rcases List.mem_cons.1 hIn with rfl | hIn
        · skip
          refine wpOpIn_step rfl (fun K' hK' => ?_)
          refine wanted_none rfl ?_
          gi_wp2
          refine wpAnyIn_all (rs := [1]) (by kernel_rfl) (by simp) ?_
          intro iIn hIn
          obtain rfl := List.mem_singleton.1 hIn
          clear hIn
          refine wpOpIn_step rfl (fun K' hK' => ?_)
          refine wanted_none rfl ?_
          gi_wp2
          refine wpAnyIn_all (rs := [2]) (by kernel_rfl) (by simp) ?_
          intro iIn hIn
          obtain rfl := List.mem_singleton.1 hIn
          clear hIn
          refine wpOpIn_step rfl (fun K' hK' => ?_)
          refine wanted_none rfl ?_
          gi_wp2
          refine wpAnyIn_done (by kernel_rfl) ?_ _
          gi_wp2
          exact HBAD.out W1 _ B1.out HNO.out
        · obtain rfl := List.mem_singleton.1 hIn
          clear hIn
          refine wpOpIn_step rfl (fun K' hK' => ?_)
          refine wanted_none rfl ?_
          gi_wp2
          refine wpAnyIn_all (rs := [0]) (by kernel_rfl) (by simp) ?_
          intro iIn hIn
          obtain rfl := List.mem_singleton.1 hIn
          clear hIn
          refine wpOpIn_step rfl (fun K' hK' => ?_)
          refine wanted_none rfl ?_
          gi_wp2
          refine wpAnyIn_all (rs := [2]) (by kernel_rfl) (by simp) ?_
          intro iIn hIn
          obtain rfl := List.mem_singleton.1 hIn
          clear hIn
          refine wpOpIn_step rfl (fun K' hK' => ?_)
          refine wanted_none rfl ?_
          gi_wp2
          refine wpAnyIn_done (by kernel_rfl) ?_ _
          gi_wp2
          exact HBAD.out W1 _ B1.out HNO.out
      | some a =>
        have HA := Lib.hid ha
        clear hrb hD hbw
        gi_wp2
        refine ⟨trivial, (CallsIn.inRound l (callsIn_wide.2 (parseOk (.inr (.inr rfl)) _ hxl ha _ (HNE.out _ HBW.out)))).mono ?_⟩
        rintro o W1 ⟨rfl, hb1⟩
        have B1 := Lib.hid hb1
        clear hb1 ha
        have hrx := HRB.out.below B1.out
        obtain ⟨v, hv, hrow⟩ := hrx.l
        obtain ⟨Av, cv, rfl, _⟩ := owns_slice hrow
        have hvc := hv.cell
        by_cases hfull : D.length = 8
        · have hdec : ((D.length : Int) == 8) = true := by rw [hfull]; rfl
          have HNO : Hid (readL (intK 64) (parts (pre ++ [x])) = none ∨ 8 < (pre ++ [x]).length) := Lib.hid (.inr (by
            have h1 := readL_len HD.out
            rw [parts_len] at h1
            rw [List.length_append, List.length_singleton]
            omega))
          have f1 := hrx.r.frozen
          have f2 := hrx.e.frozen
          have q1 := hrx.r.cell
          have q2 := hrx.e.cell
          have hgl : ¬ 0 = w.heap.size := hg0
          have hgl2 : ¬ w.heap.size = 0 := fun e => hg0 e.symm
          have hce : W1.cell? ⟨0, 0, none⟩ = some (.iface 284 (.pointer (some (e 4)))) := (HE.out _ (n1 B1.out)).c4
          clear hrx hv hrow
          gi_wp2
          refine wpIn_region_any hmx ?_
          refine wpAnyIn_all (rs := [0, 1]) (by kernel_rfl) (by simp) ?_
          intro iIn hIn
          rcases List.mem_cons.1 hIn with rfl | hIn
          · skip
            refine wpOpIn_step rfl (fun K' hK' => ?_)
            refine wanted_none rfl ?_
            gi_wp2
            refine wpAnyIn_all (rs := [1]) (by kernel_rfl) (by simp) ?_
            intro iIn hIn
            obtain rfl := List.mem_singleton.1 hIn
            clear hIn
            refine wpOpIn_step rfl (fun K' hK' => ?_)
            refine wanted_none rfl ?_
            gi_wp2
            refine wpAnyIn_all (rs := [2]) (by kernel_rfl) (by simp) ?_
            intro iIn hIn
            obtain rfl := List.mem_singleton.1 hIn
            clear hIn
            refine wpOpIn_step rfl (fun K' hK' => ?_)
            refine wanted_none rfl ?_
            gi_wp2
            refine wpAnyIn_done (by kernel_rfl) ?_ _
            gi_wp2
            exact HBAD.out W1 _ B1.out HNO.out
          · obtain rfl := List.mem_singleton.1 hIn
            clear hIn
            refine wpOpIn_step rfl (fun K' hK' => ?_)
            refine wanted_none rfl ?_
            gi_wp2
            refine wpAnyIn_all (rs := [0]) (by kernel_rfl) (by simp) ?_
            intro iIn hIn
            obtain rfl := List.mem_singleton.1 hIn
            clear hIn
            refine wpOpIn_step rfl (fun K' hK' => ?_)
            refine wanted_none rfl ?_
            gi_wp2
            refine wpAnyIn_all (rs := [2]) (by kernel_rfl) (by simp) ?_
            intro iIn hIn
            obtain rfl := List.mem_singleton.1 hIn
            clear hIn
            refine wpOpIn_step rfl (fun K' hK' => ?_)
            refine wanted_none rfl ?_
            gi_wp2
            refine wpAnyIn_done (by kernel_rfl) ?_ _
            gi_wp2
            exact HBAD.out W1 _ B1.out HNO.out
        · have hdec : ((D.length : Int) == 8) = false := by simp; omega
          have HX := Lib.hid hrx
          have HV := Lib.hid hv
          have HROW := Lib.hid hrow
          have hvf := hv.frozen
          clear hrx hv hrow
          gi_wp2_with (gi_at_builtin; refine wpListIn_append_own _ rfl (.tmp 27) (.tmp 29) 101 rfl (w.heap.size + 6) 2 i0 (.int .i64 0) 1 8 Tryd.underlying101 hi hz0 hz1 hz2 rfl (by decide) _ _ _ rfl (HROW.out.alloc _) ⟨W1.heap.size, 0, none⟩ 1 1 [.int .i64 a] rfl rfl (one_newR _ _ _) (one_cellR rfl) (by unfold maxLen; omega) (by omega) (by have := HX.out.n; simp; omega) ?_; intro v' w5 hown' hgr _; obtain ⟨g', cap', rfl⟩ := ownsRow_succ hown'; obtain ⟨hb5, hrb5, hk5, hl5, hj5⟩ := HX.out.append HV.out HROW.out hown' hgr; have hc5 := hb5.cell; have hf5 := hb5.frozen; have RB5 := Lib.hid hrb5; have KF5 := Lib.hid hk5; have BL5 := Lib.hid hl5; have KB5 := Lib.hid hj5; clear hown' hgr hb5 hrb5 hk5 hl5 hj5)
          refine post_nextI ((keeps_below _ B1.out).trans (KF5.out.from _)) ((KeepB.below B1.out hsz).trans KB5.out) (D := D ++ [a]) (by rw [parts_snoc, readL_snoc, HD.out, HA.out]) (by rw [List.length_append, List.length_singleton]; omega) ?_ ((n1 B1.out).trans BL5.out)
          rw [List.flatMap_append, List.length_append]
          exact RB5.out
    case done =>
      rintro Dd ys W hDd hys ⟨⟨D, ⟨hD, hDl⟩, hrb⟩, hbw⟩ hK
      obtain ⟨h1, h2, ⟨v, h3, h4⟩, ⟨t, h5⟩, h6⟩ := hrb
      have hfin : R = some D := by rw [← HR.out, HS.out, ← hys, hD]; simp only; rw [if_pos hDl]
      obtain ⟨Av, cv, rfl, _⟩ := owns_slice h4
      have c3 := h3.cell
      have f1 := h1.frozen
      have f2 := h2.frozen
      have q1 := h1.cell
      have q2 := h2.cell
      gi_wp2
      have hg1 := grownBy_setCell' W w.heap.size (.slice Av D.length cv)
      have hg2 := grownBy_setCell' (W.setCell ⟨w.heap.size, 0, none⟩ (.slice Av D.length cv)) (w.heap.size + 1) .nilIface
      have r1 := (h1.set (.slice Av D.length cv)).kept hg2 (by simp <;> omega)
      have r2 := (h2.kept hg1 (by simp <;> omega)).set .nilIface
      have r4 := (h4.kept hg1 (.inr fun e => by have := owns_ge h4 _ e; omega)).kept hg2 (.inr fun e => by have := owns_ge h4 _ e; omega)
      have kv := ((KeepsOthers.setCell W ⟨w.heap.size, 0, none⟩ (.slice Av D.length cv)).trans (KeepsOthers.setCell _ ⟨w.heap.size + 1, 0, none⟩ .nilIface)).same Dd _ hK rfl
      refine ⟨by simp, .inl ⟨_, _, rfl, run_takeDeferred kv, ?_⟩⟩
      have c1 := boxed_not r1 (grownBy_putObj' _ Dd (.deferred none)) (fun r e => by cases e; exact ⟨_, kv, rfl⟩)
      have c2 := boxed_not r2 (grownBy_putObj' _ Dd (.deferred none)) (fun r e => by cases e; exact ⟨_, kv, rfl⟩)
      refine ⟨.tuple #[.slice Av D.length cv, .nilIface], ?_, .inr ⟨D, _, hfin, rfl, owns_low (ownsRow_putObj r4 (.deferred none) kv rfl) (by omega)⟩, ((hbw.setCell (p := ⟨w.heap.size, 0, none⟩) (Nat.le_refl _) _).setCell (p := ⟨w.heap.size + 1, 0, none⟩) (Nat.le_succ _) _).trans (belowK_b (w := w) (Nat.le_refl _) _ Dd _ _ (by omega) kv rfl rfl)⟩
      simp [results, Tryd.f150, go_sem, c1.cell, c2.cell]
    case stop =>
      rintro Dd cc pre W hDd hpre ⟨rfl, ⟨hwhy, hc1, hc2⟩, hbw⟩ hK
      have hno : R = none := by
        rw [← HR.out, HS.out]
        rcases hwhy with hw | hw
        · rw [readL_prefix hw hpre]
        · cases hrl : readL (intK 64) (splitB 44 s.data.toList) with
          | none => rfl
          | some E =>
            have h1 := readL_len hrl
            have h2 := hpre.length_le
            rw [parts_len] at h2
            simp only
            rw [if_neg (by omega)]
      clear hwhy
      gi_wp2
      refine ⟨by simp, .inl ⟨_, _, rfl, run_takeDeferred hK, ?_⟩⟩
      have c1 := boxed_not hc1 (grownBy_putObj' _ Dd (.deferred none)) (fun r e => by cases e; exact ⟨_, hK, rfl⟩)
      have c2 := boxed_not hc2 (grownBy_putObj' _ Dd (.deferred none)) (fun r e => by cases e; exact ⟨_, hK, rfl⟩)
      refine ⟨.tuple #[.slice none 0 0, errV (e 4)], ?_, .inl ⟨hno, rfl⟩, hbw.trans (belowK_b (w := w) (Nat.le_refl _) W Dd _ _ (by omega) hK rfl rfl)⟩
      simp [results, Tryd.f150, go_sem, c1.cell, c2.cell]
end Go.Proofs.YtjfimmfnhlimkaaDoor.rd
