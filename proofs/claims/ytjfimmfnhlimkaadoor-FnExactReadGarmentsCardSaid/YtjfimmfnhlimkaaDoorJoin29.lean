/-
  Several texts of this proof, joined.
-/
import Derived.Test.YtjfimmfnhlimkaaDoorRdKind
import Derived.Test.YtjfimmfnhlimkaaDoorRdRange
import Derived.Test.YtjfimmfnhlimkaaDoorRdLaid
import Derived.Test.YtjfimmfnhlimkaaDoorJoin15
import Derived.Test.YtjfimmfnhlimkaaDoorShR
import Derived.Lib.SmallJoins
import Derived.BigQuiet
import Derived.Test.YtjfimmfnhlimkaaDoorRdGar
import Derived.Test.YtjfimmfnhlimkaaDoorResRow
import Derived.Test.YtjfimmfnhlimkaaDoorJoin12
import Derived.OrdersHeld
import Derived.Deep.RegionHeld
import Derived.Test.YtjfimmfnhlimkaaDoorJoin19
import Derived.Test.YtjfimmfnhlimkaaDoorJoin24
import Derived.Test.YtjfimmfnhlimkaaDoorGarm
/-
  The library's functions that the readers call: ParseInt, Cut at one byte, and SplitSeq's iterator.
-/
namespace Go.Proofs.YtjfimmfnhlimkaaDoor.rd
open Go Go.RowKit Go.Shelf sl dec txt errs rng
attribute [local go_sem] Oper.semAt_some

theorem parseI_8 (s : ByteArray) (hs : s.size ≤ 1048576) (w : World) {B0 : Nat} (h : NE w B0) :
    Calls Tryd.prog 135 #[.string s, .int .i64 10, .int .i64 8] w fun o w' => (∃ v er, o = .returned (.tuple #[.int .i64 v, errO er]) ∧ ((intK 8 s.data.toList = some v ∧ er = none) ∨ (intK 8 s.data.toList = none ∧ er ≠ none))) ∧ Below w.heap.size w w' := by
  obtain ⟨⟨t1, p1, h1⟩, ⟨t2, p2, h2⟩, l1, l2⟩ := h
  cases hp : Lib.parseIntB 8 s.data.toList with
  | ok v =>
    refine (Tryd.strconv_ParseInt_10_at8_ok s (by omega) v hp w).mono ?_
    rintro o u ⟨rfl, hu⟩
    refine ⟨⟨v, none, rfl, .inl ⟨by rw [intK, hp], rfl⟩⟩, ?_⟩
    rcases hu with rfl | ⟨t, rfl⟩
    · exact Below.refl _ _
    · exact Go.Joins.below_bytesWorld _ _ _ _ (Nat.le_refl _)
  | range =>
    refine (Tryd.strconv_ParseInt_10_at8_range s (by omega) hp _ w h2 (.inr ⟨t2, p2, rfl⟩)).mono ?_
    rintro o u ⟨N, rfl, _, _, hb⟩
    exact ⟨⟨_, some (_, _), rfl, .inr ⟨by rw [intK, hp], by simp⟩⟩, hb⟩
  | _ =>
    refine (Tryd.strconv_ParseInt_10_at8_syntax s (by omega) (by rw [hp]; rfl) _ w h1 (.inr ⟨t1, p1, rfl⟩)).mono ?_
    rintro o u ⟨N, rfl, _, _, hb⟩
    exact ⟨⟨_, some (_, _), rfl, .inr ⟨by rw [intK, hp], by simp⟩⟩, hb⟩
theorem parseI_16 (s : ByteArray) (hs : s.size ≤ 1048576) (w : World) {B0 : Nat} (h : NE w B0) :
    Calls Tryd.prog 135 #[.string s, .int .i64 10, .int .i64 16] w fun o w' => (∃ v er, o = .returned (.tuple #[.int .i64 v, errO er]) ∧ ((intK 16 s.data.toList = some v ∧ er = none) ∨ (intK 16 s.data.toList = none ∧ er ≠ none))) ∧ Below w.heap.size w w' := by
  obtain ⟨⟨t1, p1, h1⟩, ⟨t2, p2, h2⟩, l1, l2⟩ := h
  cases hp : Lib.parseIntB 16 s.data.toList with
  | ok v =>
    refine (Tryd.strconv_ParseInt_10_at16_ok s (by omega) v hp w).mono ?_
    rintro o u ⟨rfl, hu⟩
    refine ⟨⟨v, none, rfl, .inl ⟨by rw [intK, hp], rfl⟩⟩, ?_⟩
    rcases hu with rfl | ⟨t, rfl⟩
    · exact Below.refl _ _
    · exact Go.Joins.below_bytesWorld _ _ _ _ (Nat.le_refl _)
  | range =>
    refine (Tryd.strconv_ParseInt_10_at16_range s (by omega) hp _ w h2 (.inr ⟨t2, p2, rfl⟩)).mono ?_
    rintro o u ⟨N, rfl, _, _, hb⟩
    exact ⟨⟨_, some (_, _), rfl, .inr ⟨by rw [intK, hp], by simp⟩⟩, hb⟩
  | _ =>
    refine (Tryd.strconv_ParseInt_10_at16_syntax s (by omega) (by rw [hp]; rfl) _ w h1 (.inr ⟨t1, p1, rfl⟩)).mono ?_
    rintro o u ⟨N, rfl, _, _, hb⟩
    exact ⟨⟨_, some (_, _), rfl, .inr ⟨by rw [intK, hp], by simp⟩⟩, hb⟩
theorem parseI_64 (s : ByteArray) (hs : s.size ≤ 1048576) (w : World) {B0 : Nat} (h : NE w B0) :
    Calls Tryd.prog 135 #[.string s, .int .i64 10, .int .i64 64] w fun o w' => (∃ v er, o = .returned (.tuple #[.int .i64 v, errO er]) ∧ ((intK 64 s.data.toList = some v ∧ er = none) ∨ (intK 64 s.data.toList = none ∧ er ≠ none))) ∧ Below w.heap.size w w' := by
  obtain ⟨⟨t1, p1, h1⟩, ⟨t2, p2, h2⟩, l1, l2⟩ := h
  cases hp : Lib.parseIntB 64 s.data.toList with
  | ok v =>
    refine (Tryd.strconv_ParseInt_10_at64_ok s (by omega) v hp w).mono ?_
    rintro o u ⟨rfl, hu⟩
    refine ⟨⟨v, none, rfl, .inl ⟨by rw [intK, hp], rfl⟩⟩, ?_⟩
    rcases hu with rfl | ⟨t, rfl⟩
    · exact Below.refl _ _
    · exact Go.Joins.below_bytesWorld _ _ _ _ (Nat.le_refl _)
  | range =>
    refine (Tryd.strconv_ParseInt_10_at64_range s (by omega) hp _ w h2 (.inr ⟨t2, p2, rfl⟩)).mono ?_
    rintro o u ⟨N, rfl, _, _, hb⟩
    exact ⟨⟨_, some (_, _), rfl, .inr ⟨by rw [intK, hp], by simp⟩⟩, hb⟩
  | _ =>
    refine (Tryd.strconv_ParseInt_10_at64_syntax s (by omega) (by rw [hp]; rfl) _ w h1 (.inr ⟨t1, p1, rfl⟩)).mono ?_
    rintro o u ⟨N, rfl, _, _, hb⟩
    exact ⟨⟨_, some (_, _), rfl, .inr ⟨by rw [intK, hp], by simp⟩⟩, hb⟩
theorem parseOk {B : Nat} (hB : B = 8 ∨ B = 16 ∨ B = 64) (s : List UInt8) (hs : s.length ≤ 1048576) {v : Int} (hv : intK B s = some v) (w : World) {B0 : Nat} (h : NE w B0) :
    Calls Tryd.prog 135 #[.string (bsJ s), .int .i64 10, .int .i64 (B : Nat)] w fun o w' => o = .returned (.tuple #[.int .i64 v, .nilIface]) ∧ Below w.heap.size w w' := by
  have hs2 : (bsJ s).size ≤ 1048576 := by rw [bsJ_size]; exact hs
  have he : (bsJ s).data.toList = s := by simp
  rcases hB with rfl | rfl | rfl
  · refine (parseI_8 (bsJ s) hs2 w h).mono ?_
    rintro o u ⟨⟨v2, er, rfl, h2⟩, hb⟩
    rw [he, hv] at h2
    rcases h2 with ⟨h3, rfl⟩ | ⟨h3, _⟩
    · obtain rfl := Option.some.inj h3
      exact ⟨rfl, hb⟩
    · cases h3
  · refine (parseI_16 (bsJ s) hs2 w h).mono ?_
    rintro o u ⟨⟨v2, er, rfl, h2⟩, hb⟩
    rw [he, hv] at h2
    rcases h2 with ⟨h3, rfl⟩ | ⟨h3, _⟩
    · obtain rfl := Option.some.inj h3
      exact ⟨rfl, hb⟩
    · cases h3
  · refine (parseI_64 (bsJ s) hs2 w h).mono ?_
    rintro o u ⟨⟨v2, er, rfl, h2⟩, hb⟩
    rw [he, hv] at h2
    rcases h2 with ⟨h3, rfl⟩ | ⟨h3, _⟩
    · obtain rfl := Option.some.inj h3
      exact ⟨rfl, hb⟩
    · cases h3
theorem parseNo {B : Nat} (hB : B = 8 ∨ B = 16 ∨ B = 64) (s : List UInt8) (hs : s.length ≤ 1048576) (hv : intK B s = none) (w : World) {B0 : Nat} (h : NE w B0) :
    Calls Tryd.prog 135 #[.string (bsJ s), .int .i64 10, .int .i64 (B : Nat)] w fun o w' => (∃ v t p, o = .returned (.tuple #[.int .i64 v, .iface t p])) ∧ Below w.heap.size w w' := by
  have hs2 : (bsJ s).size ≤ 1048576 := by rw [bsJ_size]; exact hs
  have he : (bsJ s).data.toList = s := by simp
  rcases hB with rfl | rfl | rfl
  · refine (parseI_8 (bsJ s) hs2 w h).mono ?_
    rintro o u ⟨⟨v2, er, rfl, h2⟩, hb⟩
    rw [he, hv] at h2
    rcases h2 with ⟨h3, _⟩ | ⟨_, h3⟩
    · cases h3
    · cases er with
      | none => exact absurd rfl h3
      | some x => exact ⟨⟨v2, x.1, x.2, rfl⟩, hb⟩
  · refine (parseI_16 (bsJ s) hs2 w h).mono ?_
    rintro o u ⟨⟨v2, er, rfl, h2⟩, hb⟩
    rw [he, hv] at h2
    rcases h2 with ⟨h3, _⟩ | ⟨_, h3⟩
    · cases h3
    · cases er with
      | none => exact absurd rfl h3
      | some x => exact ⟨⟨v2, x.1, x.2, rfl⟩, hb⟩
  · refine (parseI_64 (bsJ s) hs2 w h).mono ?_
    rintro o u ⟨⟨v2, er, rfl, h2⟩, hb⟩
    rw [he, hv] at h2
    rcases h2 with ⟨h3, _⟩ | ⟨_, h3⟩
    · cases h3
    · cases er with
      | none => exact absurd rfl h3
      | some x => exact ⟨⟨v2, x.1, x.2, rfl⟩, hb⟩
theorem cut_bs (b : UInt8) (s : ByteArray) {i : Nat} (h : cutA b s.data.toList = s.data.toList.take i) (h2 : cutZ b s.data.toList = s.data.toList.drop (i + 1)) : s.extract 0 i = bsJ (cutA b s.data.toList) ∧ s.extract (i + 1) s.size = bsJ (cutZ b s.data.toList) := by
  rw [h, h2, extract_bs, extract_bs]
  refine ⟨by simp, ?_⟩
  have e : s.data.toList.take s.size = s.data.toList := List.take_of_length_le (Nat.le_of_eq (len_list s))
  rw [e]
set_option maxRecDepth 100000 in
theorem cut1_any (s : ByteArray) (b : UInt8) (hs : s.size ≤ 1048576) (w : World) :
    Calls Tryd.prog 161 #[.string s, .string ⟨#[b]⟩] w fun o w' => (∃ f, o = .returned (.tuple #[.string (bsJ (cutA b s.data.toList)), .string (bsJ (cutZ b s.data.toList)), .bool f])) ∧ Below w.heap.size w w' := by
  have hI := Tryd.stringslite_Index_one s b
  have hlen := len_list s
  rcases index_cases b s.data.toList with ⟨h1, h2⟩ | ⟨i, h1, h2, h3, h4, h5⟩
  · obtain ⟨e1, e2⟩ := cut_none h2
    rw [e1, e2, bsJ_of]
    rw [h1] at hI
    clear h1 h2 e1 e2 hlen
    go_enter Tryd.func161, Tryd.ntmps161
    go_wp2_with fail
    refine (hI w).mono ?_
    rintro o u ⟨rfl, rfl⟩
    go_wp2_with fail
    go_ret3
    exact ⟨⟨false, rfl⟩, Below.refl _ _⟩
  · obtain ⟨e1, e2⟩ := cut_bs b s h3 h4
    rw [h1] at hI
    have k0 : (0 : Int) ≤ (i : Int) := by omega
    have k1 : (i : Int) ≤ (s.size : Int) := by omega
    have k2 : (0 : Int) ≤ (i : Int) + 1 := by omega
    have k3 : (i : Int) + 1 ≤ (s.size : Int) := by omega
    have k4 : decide ((i : Int) ≥ 0) = true := decide_eq_true k0
    have k5 : i < s.size := by omega
    clear h1 h2 h3 h4 h5 hlen
    go_enter Tryd.func161, Tryd.ntmps161
    go_wp2_with fail
    refine (hI w).mono ?_
    rintro o u ⟨rfl, rfl⟩
    go_wp2_with fail
    go_region_o
    go_wp2
    go_ret3
    rw [← e1, ← e2]
    exact ⟨⟨true, rfl⟩, (Below.refl _ _).drew⟩
theorem cutA_len (b : UInt8) (l : List UInt8) : (cutA b l).length ≤ l.length := (List.takeWhile_sublist _).length_le
theorem cutZ_len (b : UInt8) (l : List UInt8) : (cutZ b l).length ≤ l.length := by
  rw [cutZ, List.length_drop]
  have := (List.dropWhile_sublist (l := l) (notB b)).length_le
  omega
theorem cut_any (s : ByteArray) (b : UInt8) (hs : s.size ≤ 1048576) (w : World) :
    Calls Tryd.prog 134 #[.string s, .string ⟨#[b]⟩] w fun o w' => (∃ f, o = .returned (.tuple #[.string (bsJ (cutA b s.data.toList)), .string (bsJ (cutZ b s.data.toList)), .bool f])) ∧ Below w.heap.size w w' := by
  have h := cut1_any s b hs w
  clear hs
  go_enter Tryd.func134, Tryd.ntmps134
  go_wp2_with fail
  refine h.mono ?_
  rintro o u ⟨⟨f, rfl⟩, hb⟩
  go_wp2_with fail
  go_ret3
  exact ⟨⟨f, rfl⟩, hb⟩
/-- a part of a text -/
abbrev Part := { p : List UInt8 // p.length ≤ 1048576 }
def parts (l : List Part) : List (List UInt8) := l.map (·.1)
theorem parts_snoc (l : List Part) (x : Part) : parts (l ++ [x]) = parts l ++ [x.1] := by simp [parts]
theorem parts_len (l : List Part) : (parts l).length = l.length := by simp [parts]
abbrev encP (x : Part) : Array Value := #[.string (bsJ x.1)]
theorem splitB_len (b : UInt8) : ∀ l : List UInt8, (splitB b l).length ≤ l.length + 1
  | [] => by simp [splitB]
  | c :: r => by
    have ih := splitB_len b r
    unfold splitB
    split
    · simp only [List.length_cons]; omega
    · split
      · simp
      · rename_i h
        rw [h] at ih
        simp only [List.length_cons] at ih ⊢
        omega
/-- how much is left -/
def leftS (B : Nat) (W : World) : Nat := match W.cell? ⟨B, 0, none⟩ with
  | some (.string t) => t.size
  | _ => 0
theorem leftS_eq {B : Nat} {W : World} {t : ByteArray} (h : W.cell? ⟨B, 0, none⟩ = some (.string t)) : leftS B W = t.size := by rw [leftS, h]
theorem splitSeq_any (s : ByteArray) (b : UInt8) (w : World) :
    Calls Tryd.prog 122 #[.string s, .string ⟨#[b]⟩] w fun o w' => o = .returned (.func (.func 179) #[] #[.pointer (some ⟨w.heap.size + 1, 0, none⟩), .pointer (some ⟨w.heap.size, 0, none⟩), .pointer (some ⟨w.heap.size + 1 + 1, 0, none⟩)]) ∧
      w' = ((w.alloc (.cells #[.string s] 9)).alloc (.cells #[.string ⟨#[b]⟩] 9)).alloc (.cells #[.int .i64 0] 3) := by
  have h1 : Calls Tryd.prog 152 #[.string s, .string ⟨#[b]⟩, .int .i64 0] w fun o w' => o = .returned (.func (.func 179) #[] #[.pointer (some ⟨w.heap.size + 1, 0, none⟩), .pointer (some ⟨w.heap.size, 0, none⟩), .pointer (some ⟨w.heap.size + 1 + 1, 0, none⟩)]) ∧
      w' = ((w.alloc (.cells #[.string s] 9)).alloc (.cells #[.string ⟨#[b]⟩] 9)).alloc (.cells #[.int .i64 0] 3) := by
    go_enter Tryd.func152, Tryd.ntmps152
    go_wp2
    go_ret
    exact ⟨rfl, rfl⟩
  go_enter Tryd.func122, Tryd.ntmps122
  go_wp2_with fail
  refine h1.mono ?_
  rintro o u ⟨rfl, rfl⟩
  go_wp2_with fail
  go_ret
  exact ⟨rfl, rfl⟩
set_option maxRecDepth 100000 in
set_option maxHeartbeats 2000000 in
theorem split1_in (n : Nat) (hn : 1 ≤ n) (l Bs Bp Bv lo n₀ : Nat) (b : UInt8) (s0 : List UInt8) (hs0 : s0.length ≤ 1048576) (h9 : (lo ≤ Bs ∧ Bs < n₀) ∧ (lo ≤ Bp ∧ Bp < n₀) ∧ (lo ≤ Bv ∧ Bv < n₀) ∧ Bp ≠ Bs ∧ Bv ≠ Bs) (J Jx : List Part → World → Prop)
    (hJs : ∀ pre A t, J pre A → J pre (A.setCell ⟨Bs, 0, none⟩ (.string t)))
    (hY : ∀ pre x X, J pre X → pre.length < 1048577 → YieldAt Fence.wide (n - 1) Tryd.prog l #[.string (bsJ x.1)] X fun e X' =>
      (e = .returned (.bool true) ∧ J (pre ++ [x]) X' ∧ KeepB lo n₀ X X') ∨ (e = .returned (.bool false) ∧ Jx (pre ++ [x]) X'))
    (W : World) (hS : W.cell? ⟨Bs, 0, none⟩ = some (.string (bsJ s0))) (hfz : W.frozen? ⟨Bs, 0, none⟩ = false) (hP : W.cell? ⟨Bp, 0, none⟩ = some (.string ⟨#[b]⟩)) (hV : W.cell? ⟨Bv, 0, none⟩ = some (.int .i64 0)) (h0 : J [] W) :
    CallsIn Fence.wide n Tryd.prog 179 #[.func (.yield l) #[] #[], .pointer (some ⟨Bp, 0, none⟩), .pointer (some ⟨Bs, 0, none⟩), .pointer (some ⟨Bv, 0, none⟩)] W fun e W' => (∃ v, e = .returned v) ∧
      ((∃ ys : List Part, parts ys = splitB b s0 ∧ J ys W') ∨ (∃ pre : List Part, parts pre <+: splitB b s0 ∧ Jx pre W')) := by
  refine callsIn_of_wp Tryd.func179 rfl trivial ?_ rfl
  simp only [Tryd.ntmps179, List.size_toArray, List.length_cons, List.length_nil, Nat.reduceAdd, Nat.reduceSub, Array.replicate_succ, Array.replicate_zero, List.push_toArray, List.append_toArray, List.nil_append, List.cons_append]
  gi_wp2
  gi_loopw [7, 8] (fun _ _ wr => ∃ (r : List UInt8) (pre : List Part), r.length ≤ 1048576 ∧ splitB b s0 = parts pre ++ splitB b r ∧ wr.cell? ⟨Bs, 0, none⟩ = some (.string (bsJ r)) ∧ wr.frozen? ⟨Bs, 0, none⟩ = false ∧ wr.cell? ⟨Bp, 0, none⟩ = some (.string ⟨#[b]⟩) ∧ wr.cell? ⟨Bv, 0, none⟩ = some (.int .i64 0) ∧ J pre wr) (fun _ _ wr => leftS Bs wr)
  case atStart => exact ⟨s0, [], hs0, rfl, hS, hfz, hP, hV, h0⟩
  case round =>
    clear hS hfz hP hV h0
    obtain ⟨r, pre, hr, hm, hS, hfz, hP, hV, hJ⟩ := hrel
    have hlen : pre.length < 1048577 := by
      have h1 := splitB_len b s0
      have h2 := List.length_pos_iff.2 (splitB_ne b r)
      rw [hm, List.length_append, parts_len] at h1
      omega
    have hI := Tryd.strings_Index_one (bsJ r) b
    rw [show (bsJ r).data.toList = r by simp] at hI
    rcases index_cases b r with ⟨h1, h2⟩ | ⟨i, h1, h2, h3, h4, h5⟩
    · rw [h1] at hI
      obtain ⟨fn, tmps, assign, body, hy, hR⟩ := hY pre ⟨r, hr⟩ wr hJ hlen
      dsimp only at hy
      gi_wp2_with (refine ⟨trivial, ?_⟩; gi_at_call 181; refine (callsIn_wide.2 (hI _)).mono ?_; rintro e w2 ⟨rfl, rfl⟩)
      refine hR.mono ?_
      rintro e X3 (⟨rfl, hJ3, _⟩ | ⟨rfl, hJx3⟩)
      · gi_wp2
        go_end0
        exact ⟨⟨_, rfl⟩, .inl ⟨pre ++ [⟨r, hr⟩], by rw [parts_snoc, hm, splitB_none h2], hJ3⟩⟩
      · gi_wp2
        go_end0
        exact ⟨⟨_, rfl⟩, .inr ⟨pre ++ [⟨r, hr⟩], by rw [parts_snoc, hm, splitB_none h2]; exact List.prefix_refl _, hJx3⟩⟩
    · rw [h1] at hI
      obtain ⟨h3a, h3b, h3c, h3d, h3e⟩ := h9
      obtain ⟨fn, tmps, assign, body, hy, hR⟩ := hY pre ⟨r.take i, by rw [List.length_take]; omega⟩ wr hJ hlen
      dsimp only at hy
      have hsz : (bsJ r).size = r.length := bsJ_size r
      have hed : (bsJ r).data.toList = r := by simp
      have hea : (bsJ r).extract 0 i = bsJ (r.take i) := by rw [extract_bs, hed]; simp
      have hez : (bsJ r).extract (i + 1) r.length = bsJ (r.drop (i + 1)) := by rw [extract_bs, hed, List.take_of_length_le (Nat.le_refl _)]
      have k0 : (0 : Int) ≤ (i : Int) := by omega
      have k1 : (i : Int) ≤ ((bsJ r).size : Int) := by omega
      have k2 : (0 : Int) ≤ (i : Int) + 1 := by omega
      have k3 : (i : Int) + 1 ≤ ((bsJ r).size : Int) := by omega
      have k4 : decide ((i : Int) < 0) = false := decide_eq_false (by omega)
      gi_wp2_with (refine ⟨trivial, ?_⟩; gi_at_call 181; refine (callsIn_wide.2 (hI _)).mono ?_; rintro e w2 ⟨rfl, rfl⟩)
      refine hR.mono ?_
      rintro e X3 (⟨rfl, hJ3, hb3⟩ | ⟨rfl, hJx3⟩)
      · have hS3 := (hb3.cell h3a.1 h3a.2).trans hS
        have hP3 := (hb3.cell h3b.1 h3b.2).trans hP
        have hV3 := (hb3.cell h3c.1 h3c.2).trans hV
        have hf3 := (hb3.frozen h3a.1 h3a.2).trans hfz
        have HM := Lib.hid (leftS_eq hS)
        clear hS hP hV hfz hy hI
        gi_wp2
        go_roundw
        case rel => exact ⟨r.drop (i + 1), pre ++ [_], by rw [List.length_drop]; omega, by rw [parts_snoc, hm, h5]; simp, World.cell?_setCell_same' _ _ _ (by rw [hS3]; rfl), by rw [World.frozen?_setCell]; exact hf3, (World.cell?_setCell_other _ _ _ _ (by simp [h3d])).trans hP3, (World.cell?_setCell_other _ _ _ _ (by simp [h3e])).trans hV3, hJs _ _ _ hJ3⟩
        case measure =>
          rw [HM.out, leftS_eq (World.cell?_setCell_same' _ _ _ (by rw [hS3]; rfl)), bsJ_size, bsJ_size, List.length_drop]
          omega
      · gi_wp2
        refine bodyPost_ret (results_none rfl _ _ _) rfl ?_
        exact ⟨⟨_, rfl⟩, .inr ⟨pre ++ [_], by rw [parts_snoc, hm, h5]; exact ⟨splitB b (r.drop (i + 1)), by simp⟩, hJx3⟩⟩
/-- SplitSeq's value, behind its making -/
theorem split_seq (n : Nat) (hn : 1 ≤ n) (Bs Bp Bv lo n₀ : Nat) (b : UInt8) (s0 : List UInt8) (hs0 : s0.length ≤ 1048576) (h9 : (lo ≤ Bs ∧ Bs < n₀) ∧ (lo ≤ Bp ∧ Bp < n₀) ∧ (lo ≤ Bv ∧ Bv < n₀) ∧ Bp ≠ Bs ∧ Bv ≠ Bs) (w : World) (hn₀ : n₀ ≤ w.heap.size)
    (hS : w.cell? ⟨Bs, 0, none⟩ = some (.string (bsJ s0))) (hfz : w.frozen? ⟨Bs, 0, none⟩ = false) (hP : w.cell? ⟨Bp, 0, none⟩ = some (.string ⟨#[b]⟩)) (hV : w.cell? ⟨Bv, 0, none⟩ = some (.int .i64 0)) :
    SeqBox Fence.wide n Tryd.prog 179 #[.pointer (some ⟨Bp, 0, none⟩), .pointer (some ⟨Bs, 0, none⟩), .pointer (some ⟨Bv, 0, none⟩)] encP lo n₀ Bs (fun ys => parts ys = splitB b s0) (fun pre => parts pre <+: splitB b s0) 1048577 w := fun l J Jx W hW hJ hY h0 => by
  obtain ⟨h3a, h3b, h3c, h3d, h3e⟩ := h9
  exact split1_in n hn l Bs Bp Bv lo n₀ b s0 hs0 ⟨h3a, h3b, h3c, h3d, h3e⟩ J Jx hJ.2 hY W ((hW.cell (p := ⟨Bs, 0, none⟩) (by show Bs < _; omega)).trans hS) ((hW.frozen (p := ⟨Bs, 0, none⟩) (by show Bs < _; omega)).trans hfz) ((hW.cell (p := ⟨Bp, 0, none⟩) (by show Bp < _; omega)).trans hP) ((hW.cell (p := ⟨Bv, 0, none⟩) (by show Bv < _; omega)).trans hV) h0
end Go.Proofs.YtjfimmfnhlimkaaDoor.rd

/-
  One line of garments, read: the program's readGarment.
-/
namespace Go.Proofs.YtjfimmfnhlimkaaDoor.rd
open Go Go.RowKit Go.Shelf sl dec txt errs rng gart

theorem row_set {u : World} {g j : Nat} {cs : Array Value} {T : TypeId} {m : Nat × Nat} (h : u.heap[g]? = some (.cells cs T m)) (v : Value) : (u.setCell ⟨g, j, none⟩ v).heap[g]? = some (.cells (cs.setIfInBounds j v) T m) := by
  obtain ⟨hlt, hk⟩ := Array.getElem?_eq_some_iff.1 h
  show (u.heap.modify g _)[g]? = _
  rw [Array.getElem?_eq_getElem (by rw [Array.size_modify]; exact hlt), Array.getElem_modify_self, hk]
  rfl
/-- the result's block, the numbers' block -/
structure GK (b g : Nat) (x0 x1 x2 x3 : Int) (w u : World) : Prop where
  row : u.heap[b]? = some (.cells #[.int .u8 0, .int .i8 0, .int .i8 0, .int .i16 0] 118 (0, 0))
  num : ∃ T, u.heap[g]? = some (.cells #[.int .i64 x0, .int .i64 x1, .int .i64 x2, .int .i64 x3] T (0, 0))
  below : Below w.heap.size w u
  ne : b < g
  ge : w.heap.size ≤ g
theorem GK.next {b g : Nat} {x0 x1 x2 x3 : Int} {w u v : World} (h : GK b g x0 x1 x2 x3 w u) (hb : Below u.heap.size u v) : GK b g x0 x1 x2 x3 w v := by
  obtain ⟨h1, ⟨T, h2⟩, h3, h4, h5⟩ := h
  exact ⟨(hb.block b (Array.getElem?_eq_some_iff.1 h1).1).trans h1, ⟨T, (hb.block g (Array.getElem?_eq_some_iff.1 h2).1).trans h2⟩, below_next h3 hb (Nat.le_refl _), h4, h5⟩
theorem GK.set0 {b g : Nat} {x0 x1 x2 x3 : Int} {w u : World} (h : GK b g x0 x1 x2 x3 w u) (y : Int) : GK b g y x1 x2 x3 w (u.setCell ⟨g, 0, none⟩ (.int .i64 y)) := by
  obtain ⟨h1, ⟨T, h2⟩, h3, h4, h5⟩ := h
  exact ⟨(Below.heap_setCell u ⟨g, 0, none⟩ _ b (by show b ≠ g; omega)).trans h1, ⟨T, row_set h2 _⟩, h3.setCell (p := ⟨g, 0, none⟩) h5 _, h4, h5⟩
theorem GK.c0 {b g : Nat} {x0 x1 x2 x3 : Int} {w u : World} (h : GK b g x0 x1 x2 x3 w u) : u.cell? ⟨g, 0, none⟩ = some (.int .i64 x0) ∧ u.frozen? ⟨g, 0, none⟩ = false := by
  obtain ⟨_, ⟨T, h2⟩, _⟩ := h
  exact ⟨cell_of_row _ _ _ _ _ _ h2, by unfold World.frozen?; rw [h2]; rfl⟩
theorem GK.set1 {b g : Nat} {x0 x1 x2 x3 : Int} {w u : World} (h : GK b g x0 x1 x2 x3 w u) (y : Int) : GK b g x0 y x2 x3 w (u.setCell ⟨g, 1, none⟩ (.int .i64 y)) := by
  obtain ⟨h1, ⟨T, h2⟩, h3, h4, h5⟩ := h
  exact ⟨(Below.heap_setCell u ⟨g, 1, none⟩ _ b (by show b ≠ g; omega)).trans h1, ⟨T, row_set h2 _⟩, h3.setCell (p := ⟨g, 1, none⟩) h5 _, h4, h5⟩
theorem GK.c1 {b g : Nat} {x0 x1 x2 x3 : Int} {w u : World} (h : GK b g x0 x1 x2 x3 w u) : u.cell? ⟨g, 1, none⟩ = some (.int .i64 x1) ∧ u.frozen? ⟨g, 1, none⟩ = false := by
  obtain ⟨_, ⟨T, h2⟩, _⟩ := h
  exact ⟨cell_of_row _ _ _ _ _ _ h2, by unfold World.frozen?; rw [h2]; rfl⟩
theorem GK.set2 {b g : Nat} {x0 x1 x2 x3 : Int} {w u : World} (h : GK b g x0 x1 x2 x3 w u) (y : Int) : GK b g x0 x1 y x3 w (u.setCell ⟨g, 2, none⟩ (.int .i64 y)) := by
  obtain ⟨h1, ⟨T, h2⟩, h3, h4, h5⟩ := h
  exact ⟨(Below.heap_setCell u ⟨g, 2, none⟩ _ b (by show b ≠ g; omega)).trans h1, ⟨T, row_set h2 _⟩, h3.setCell (p := ⟨g, 2, none⟩) h5 _, h4, h5⟩
theorem GK.c2 {b g : Nat} {x0 x1 x2 x3 : Int} {w u : World} (h : GK b g x0 x1 x2 x3 w u) : u.cell? ⟨g, 2, none⟩ = some (.int .i64 x2) ∧ u.frozen? ⟨g, 2, none⟩ = false := by
  obtain ⟨_, ⟨T, h2⟩, _⟩ := h
  exact ⟨cell_of_row _ _ _ _ _ _ h2, by unfold World.frozen?; rw [h2]; rfl⟩
theorem GK.set3 {b g : Nat} {x0 x1 x2 x3 : Int} {w u : World} (h : GK b g x0 x1 x2 x3 w u) (y : Int) : GK b g x0 x1 x2 y w (u.setCell ⟨g, 3, none⟩ (.int .i64 y)) := by
  obtain ⟨h1, ⟨T, h2⟩, h3, h4, h5⟩ := h
  exact ⟨(Below.heap_setCell u ⟨g, 3, none⟩ _ b (by show b ≠ g; omega)).trans h1, ⟨T, row_set h2 _⟩, h3.setCell (p := ⟨g, 3, none⟩) h5 _, h4, h5⟩
theorem GK.c3 {b g : Nat} {x0 x1 x2 x3 : Int} {w u : World} (h : GK b g x0 x1 x2 x3 w u) : u.cell? ⟨g, 3, none⟩ = some (.int .i64 x3) ∧ u.frozen? ⟨g, 3, none⟩ = false := by
  obtain ⟨_, ⟨T, h2⟩, _⟩ := h
  exact ⟨cell_of_row _ _ _ _ _ _ h2, by unfold World.frozen?; rw [h2]; rfl⟩
theorem there_four {u : World} {b : Nat} {v0 v1 v2 v3 : Value} {T : TypeId} (h : u.heap[b]? = some (.cells #[v0, v1, v2, v3] T (0, 0))) : u.there b 0 4 := fun j hj => by
  have hf : ∀ k, u.frozen? ⟨b, k, none⟩ = false := fun k => by unfold World.frozen?; rw [h]; simp
  refine ⟨?_, hf _⟩
  match j, hj with
  | 0, _ => rw [cell_of_row _ _ _ _ _ _ h]; rfl
  | 1, _ => rw [cell_of_row _ _ _ _ _ _ h]; rfl
  | 2, _ => rw [cell_of_row _ _ _ _ _ _ h]; rfl
  | 3, _ => rw [cell_of_row _ _ _ _ _ _ h]; rfl
/-- a cell that a region does not touch -/
def G1 (p : Addr) (v : Value) (u : World) : Prop := u.cell? p = some v ∧ True ∧ True
theorem index4_0 (a b c d : ByteArray) (w : World) : (Instr.index 222 (.agg #[.string a, .string b, .string c, .string d]) (.int .i64 0)).run Tryd.prog w = .ok (.string a) w := by kernel_rfl
theorem index4_1 (a b c d : ByteArray) (w : World) : (Instr.index 222 (.agg #[.string a, .string b, .string c, .string d]) (.int .i64 1)).run Tryd.prog w = .ok (.string b) w := by kernel_rfl
theorem index4_2 (a b c d : ByteArray) (w : World) : (Instr.index 222 (.agg #[.string a, .string b, .string c, .string d]) (.int .i64 2)).run Tryd.prog w = .ok (.string c) w := by kernel_rfl
theorem index4_3 (a b c d : ByteArray) (w : World) : (Instr.index 222 (.agg #[.string a, .string b, .string c, .string d]) (.int .i64 3)).run Tryd.prog w = .ok (.string d) w := by kernel_rfl
set_option maxRecDepth 100000 in
set_option maxHeartbeats 8000000 in
theorem readGarment_any (p : List UInt8) (hp : p.length ≤ 1048576) {w : World} {B : Nat} {e : Nat → Addr} (h : Errs w B e) (hn : NE w B) (hB : B ≤ w.heap.size) (R : Option Gar) (hR : readG p = R) :
    Calls Tryd.prog 131 #[.string (bsJ p)] w fun o w' => ((R = none ∧ o = .returned (.tuple #[Gar.v ⟨0, 0, 0, 0⟩, errV (e 4)])) ∨ ∃ y, R = some y ∧ o = .returned (.tuple #[Gar.v y, .nilIface])) ∧ Below w.heap.size w w' := by
  have HR := Lib.hid hR
  have HE := Lib.hid (fun (u : World) (hu : Below w.heap.size w u) => h.below (hu.mono hB))
  have HNE := Lib.hid (fun (u : World) (hu : Below w.heap.size w u) => hn.below (hu.mono hB))
  have hg0 : ¬ 0 = w.heap.size := by have h1 := (HE.out _ (Below.refl _ _)).size; omega
  have hpd : ∀ q : List UInt8, (bsJ q).data.toList = q := fun q => by simp
  have htrim := Tryd.strings_TrimSuffix (bsJ p) ⟨#[10]⟩
  rw [hpd] at htrim
  obtain ⟨q, hq⟩ : ∃ q, Lib.trimSuffix p [10] = q := ⟨_, rfl⟩
  have hql : q.length ≤ 1048576 := by
    rw [← hq, Lib.trimSuffix]
    split
    · rw [List.length_take]; omega
    · exact hp
  have htr : ∀ u : World, Calls Tryd.prog 159 #[.string (bsJ p), .string ⟨#[10]⟩] u fun o u' => o = .returned (.string (bsJ q)) ∧ u' = u := fun u => by
    have h1 := htrim u (by rw [bsJ_size]; omega)
    rw [show (⟨#[10]⟩ : ByteArray).data.toList = [10] from rfl, hq] at h1
    exact h1
  have hc1 := cut_any (bsJ q) 47 (by rw [bsJ_size]; exact hql)
  rw [hpd] at hc1
  have l1 := Nat.le_trans (cutA_len 47 q) hql
  have m1 := Nat.le_trans (cutZ_len 47 q) hql
  have hc2 := cut_any (bsJ (cutZ 47 q)) 45 (by rw [bsJ_size]; exact m1)
  rw [hpd] at hc2
  have l2 := Nat.le_trans (cutA_len 45 (cutZ 47 q)) m1
  have m2 := Nat.le_trans (cutZ_len 45 (cutZ 47 q)) m1
  have hc3 := cut_any (bsJ (cutZ 45 (cutZ 47 q))) 32 (by rw [bsJ_size]; exact m2)
  rw [hpd] at hc3
  have l3 := Nat.le_trans (cutA_len 32 (cutZ 45 (cutZ 47 q))) m2
  have l4 := Nat.le_trans (cutZ_len 32 (cutZ 45 (cutZ 47 q))) m2
  have HRR : Hid (readG p = match intK 16 (cutA 47 q), intK 16 (cutA 45 (cutZ 47 q)), intK 16 (cutA 32 (cutZ 45 (cutZ 47 q))), intK 16 (cutZ 32 (cutZ 45 (cutZ 47 q))) with | some a, some b, some c, some d => some ⟨IntKind.u8.wrap a, IntKind.i8.wrap b, IntKind.i8.wrap c, IntKind.i16.wrap d⟩ | _, _, _, _ => none) := Lib.hid (by rw [readG, hq]; rfl)
  generalize cutA 47 q = pa at hc1 l1 HRR
  generalize cutA 45 (cutZ 47 q) = pb at hc2 l2 HRR
  generalize cutA 32 (cutZ 45 (cutZ 47 q)) = pc at hc3 l3 HRR
  generalize cutZ 32 (cutZ 45 (cutZ 47 q)) = pe at hc3 l4 HRR
  generalize cutZ 45 (cutZ 47 q) = z2 at hc2 hc3 m2
  generalize cutZ 47 q = z1 at hc1 hc2 m1
  clear hR h hn hpd htrim hq
  go_enter Tryd.func131, Tryd.ntmps131
  go_wp2_with fail
  obtain ⟨W0, hW0⟩ : ∃ W0, W0 = w.alloc (.cells #[.int .u8 0, .int .i8 0, .int .i8 0, .int .i16 0] 118) := ⟨_, rfl⟩
  rw [← hW0]
  have hb0 : Hid (W0.heap[w.heap.size]? = some (.cells #[.int .u8 0, .int .i8 0, .int .i8 0, .int .i16 0] 118 (0, 0))) := Lib.hid (by rw [hW0]; exact World.alloc_heap_new w _)
  have H0 : Hid (Below w.heap.size w W0) := Lib.hid (by rw [hW0]; exact (Below.refl _ _).alloc (Nat.le_refl _) _)
  have hsz0 : w.heap.size < W0.heap.size := by rw [hW0]; simp
  clear hW0
  refine (htr _).mono ?_
  rintro o w1 ⟨rfl, rfl⟩
  clear htr
  go_wp2_with fail
  refine (hc1 _).mono ?_
  rintro o w2 ⟨⟨f1, rfl⟩, hb1⟩
  have B1 := Lib.hid hb1
  clear hb1 hc1
  go_wp2_with fail
  refine (hc2 _).mono ?_
  rintro o w3 ⟨⟨f2, rfl⟩, hb2⟩
  have B2 := Lib.hid (B1.out.trans (hb2.mono B1.out.size))
  clear hb2 hc2 B1
  go_wp2_with fail
  refine (hc3 _).mono ?_
  rintro o w4 ⟨⟨f3, rfl⟩, hb3⟩
  have B3 := Lib.hid (B2.out.trans (hb3.mono B2.out.size))
  clear hb3 hc3 B2
  go_wp2_with fail
  obtain ⟨W4, hW4⟩ : ∃ u, u = w4.alloc (.cells #[.int .i64 0, .int .i64 0, .int .i64 0, .int .i64 0] 221) := ⟨_, rfl⟩
  rw [← hW4]
  have hbw := B3.out.size
  have K0 : Hid (GK w.heap.size w4.heap.size 0 0 0 0 w W4) := Lib.hid (by
    rw [hW4]
    exact ⟨(Below.heap_alloc _ _ _ (by omega)).trans ((B3.out.block _ hsz0).trans hb0.out), ⟨_, World.alloc_heap_new w4 _⟩, (below_next H0.out B3.out (Nat.le_refl _)).alloc (by omega) _, by omega, by omega⟩)
  generalize w4.heap.size = g at K0 ⊢
  clear hW4 B3 hb0 H0 hsz0 hbw
  have ix0 := index4_0 (bsJ pa) (bsJ pb) (bsJ pc) (bsJ pe)
  have ix1 := index4_1 (bsJ pa) (bsJ pb) (bsJ pc) (bsJ pe)
  have ix2 := index4_2 (bsJ pa) (bsJ pb) (bsJ pc) (bsJ pe)
  have ix3 := index4_3 (bsJ pa) (bsJ pb) (bsJ pc) (bsJ pe)
  cases h0 : intK 16 pa with
  | none =>
    have HY : Hid (R = none) := Lib.hid (by rw [← HR.out, HRR.out, h0])
    refine wp_loop_rounds 5 ?_
    rw [rounds_succ]
    go_wp2_with fail
    refine (parseNo (.inr (.inl rfl)) pa l1 h0 _ (HNE.out _ K0.out.below)).mono ?_
    rintro o w5 ⟨⟨vx, tx, qx, rfl⟩, hbk⟩
    have M := Lib.hid (K0.out.next hbk)
    clear hbk K0
    generalize w5 = w6 at M ⊢
    go_wp2_with fail
    have HCE : Hid (G1 ⟨0, 0, none⟩ (.iface 284 (.pointer (some (e 4)))) w6) := Lib.hid ⟨(HE.out _ M.out.below).c4, True.intro, True.intro⟩
    refine wp_region_held_drew (S := G1 ⟨0, 0, none⟩ (.iface 284 (.pointer (some (e 4))))) (by kernel_rfl) HCE.out (fun hHeld => ?_)
    have hrow8 : Hid (w6.drew.heap[w.heap.size]? = some (.cells #[.int .u8 0, .int .i8 0, .int .i8 0, .int .i16 0] 118 (0, 0))) := Lib.hid M.out.row
    have HB8 := Lib.hid (M.out.below.drew)
    generalize w6.drew = w8 at hHeld hrow8 HB8 ⊢
    clear M HCE
    refine wpAnyH_take (i := 0) (v := ?_) rfl (by kernel_rfl) (by kernel_rfl) (by kernel_rfl) (fun _ _ _ h => h) (Or.inl ⟨by rfl, ?_⟩) (by assumption) ?_
    rotate_left
    · intro u hSu
      (try dsimp only at hSu)
      first | (go_simp; done) | (go_simp; with_reducible rfl)
    try simp only [Act.put, List.getElem_toArray, List.getElem_cons_zero, List.getElem_cons_succ, List.setIfInBounds_toArray, List.set_cons_zero, List.set_cons_succ]
    refine wpAnyH_take (i := 1) (v := ?_) rfl (by kernel_rfl) (by kernel_rfl) (by kernel_rfl) (fun _ _ _ h => h) (Or.inl ⟨by rfl, ?_⟩) (by assumption) ?_
    rotate_left
    · intro u hSu
      obtain ⟨qa, qb, _⟩ := hSu
      first | (go_simp; done) | (go_simp; with_reducible rfl)
    try simp only [Act.put, List.getElem_toArray, List.getElem_cons_zero, List.getElem_cons_succ, List.setIfInBounds_toArray, List.set_cons_zero, List.set_cons_succ]
    have rc0 : w8.cell? ⟨w.heap.size, 0, none⟩ = some (.int .u8 0) := cell_of_row _ _ _ _ _ _ hrow8.out
    have rf0 : w8.frozen? ⟨w.heap.size, 0, none⟩ = false := by unfold World.frozen?; rw [hrow8.out]; rfl
    have rc1 : w8.cell? ⟨w.heap.size, 1, none⟩ = some (.int .i8 0) := cell_of_row _ _ _ _ _ _ hrow8.out
    have rf1 : w8.frozen? ⟨w.heap.size, 1, none⟩ = false := by unfold World.frozen?; rw [hrow8.out]; rfl
    have rc2 : w8.cell? ⟨w.heap.size, 2, none⟩ = some (.int .i8 0) := cell_of_row _ _ _ _ _ _ hrow8.out
    have rf2 : w8.frozen? ⟨w.heap.size, 2, none⟩ = false := by unfold World.frozen?; rw [hrow8.out]; rfl
    have rc3 : w8.cell? ⟨w.heap.size, 3, none⟩ = some (.int .i16 0) := cell_of_row _ _ _ _ _ _ hrow8.out
    have rf3 : w8.frozen? ⟨w.heap.size, 3, none⟩ = false := by unfold World.frozen?; rw [hrow8.out]; rfl
    have HTH := Lib.hid (there_four hrow8.out)
    have hb9 := Lib.hid (below_cells HB8.out (Nat.le_refl _) [.int .u8 0, .int .i8 0, .int .i8 0, .int .i16 0] 0)
    refine wpAnyH_ready (rs := [2]) (by kernel_rfl) (by simp) ?_
    refine AllReadyH.cons rfl (fun K hK => ?_) AllReadyH.nil
    go_simp
    refine hK.out _ _ (show G1 _ _ _ from ⟨(World.cell?_setCell_other _ _ _ _ (by simp [Ne.symm hg0])).trans ((World.cell?_setCell_other _ _ _ _ (by simp [Ne.symm hg0])).trans ((World.cell?_setCell_other _ _ _ _ (by simp [Ne.symm hg0])).trans ((World.cell?_setCell_other _ _ _ _ (by simp [Ne.symm hg0])).trans hHeld.1))), True.intro, True.intro⟩) (fun hHeld2 => ?_)
    clear hK K hHeld
    have hHeld := hHeld2
    clear hHeld2
    refine wpAnyH_take (i := 3) (v := ?_) rfl (by kernel_rfl) (by kernel_rfl) (by kernel_rfl) (fun _ _ _ h => h) (Or.inl ⟨by rfl, ?_⟩) (by assumption) ?_
    rotate_left
    · intro u hSu
      (try dsimp only at hSu)
      first | (go_simp; done) | (go_simp; with_reducible rfl)
    try simp only [Act.put, List.getElem_toArray, List.getElem_cons_zero, List.getElem_cons_succ, List.setIfInBounds_toArray, List.set_cons_zero, List.set_cons_succ]
    refine wpAnyH_done (by kernel_rfl) ?_ _
    go_wp2_with fail
    refine bodyPost_ret (v := .tuple #[Gar.v ⟨0, 0, 0, 0⟩, errV (e 4)]) (results_row_tmp (u := w8.setCells w.heap.size 0 [.int .u8 0, .int .i8 0, .int .i8 0, .int .i16 0]) (b := w.heap.size) (cs := [.int .u8 0, .int .i8 0, .int .i8 0, .int .i16 0]) Tryd.results131 rfl (World.rangeAt_setCells_same _ _ _ _ HTH.out) Tryd.underlying118 rfl (by kernel_rfl)) rfl ⟨.inl ⟨HY.out, rfl⟩, hb9.out⟩
  | some a =>
    cases h1 : intK 16 pb with
    | none =>
      have HY : Hid (R = none) := Lib.hid (by rw [← HR.out, HRR.out, h0, h1])
      refine wp_loop_rounds 5 ?_
      rw [rounds_succ]
      go_wp2_with fail
      refine (parseOk (.inr (.inl rfl)) pa l1 h0 _ (HNE.out _ K0.out.below)).mono ?_
      rintro o w5 ⟨rfl, hbk⟩
      have M0 := Lib.hid (K0.out.next hbk)
      clear hbk
      have K1 := Lib.hid (M0.out.set0 a)
      obtain ⟨cc0, fc0⟩ := M0.out.c0
      go_wp2_with fail
      clear cc0 fc0 M0 K0
      generalize w5.setCell ⟨g, 0, none⟩ (.int .i64 a) = v5 at K1 ⊢
      rw [rounds_succ]
      go_wp2_with fail
      refine (parseNo (.inr (.inl rfl)) pb l2 h1 _ (HNE.out _ K1.out.below)).mono ?_
      rintro o w6 ⟨⟨vx, tx, qx, rfl⟩, hbk⟩
      have M := Lib.hid (K1.out.next hbk)
      clear hbk K1
      generalize w6 = w6 at M ⊢
      go_wp2_with fail
      have HCE : Hid (G1 ⟨0, 0, none⟩ (.iface 284 (.pointer (some (e 4)))) w6) := Lib.hid ⟨(HE.out _ M.out.below).c4, True.intro, True.intro⟩
      refine wp_region_held_drew (S := G1 ⟨0, 0, none⟩ (.iface 284 (.pointer (some (e 4))))) (by kernel_rfl) HCE.out (fun hHeld => ?_)
      have hrow8 : Hid (w6.drew.heap[w.heap.size]? = some (.cells #[.int .u8 0, .int .i8 0, .int .i8 0, .int .i16 0] 118 (0, 0))) := Lib.hid M.out.row
      have HB8 := Lib.hid (M.out.below.drew)
      generalize w6.drew = w8 at hHeld hrow8 HB8 ⊢
      clear M HCE
      refine wpAnyH_take (i := 0) (v := ?_) rfl (by kernel_rfl) (by kernel_rfl) (by kernel_rfl) (fun _ _ _ h => h) (Or.inl ⟨by rfl, ?_⟩) (by assumption) ?_
      rotate_left
      · intro u hSu
        (try dsimp only at hSu)
        first | (go_simp; done) | (go_simp; with_reducible rfl)
      try simp only [Act.put, List.getElem_toArray, List.getElem_cons_zero, List.getElem_cons_succ, List.setIfInBounds_toArray, List.set_cons_zero, List.set_cons_succ]
      refine wpAnyH_take (i := 1) (v := ?_) rfl (by kernel_rfl) (by kernel_rfl) (by kernel_rfl) (fun _ _ _ h => h) (Or.inl ⟨by rfl, ?_⟩) (by assumption) ?_
      rotate_left
      · intro u hSu
        obtain ⟨qa, qb, _⟩ := hSu
        first | (go_simp; done) | (go_simp; with_reducible rfl)
      try simp only [Act.put, List.getElem_toArray, List.getElem_cons_zero, List.getElem_cons_succ, List.setIfInBounds_toArray, List.set_cons_zero, List.set_cons_succ]
      have rc0 : w8.cell? ⟨w.heap.size, 0, none⟩ = some (.int .u8 0) := cell_of_row _ _ _ _ _ _ hrow8.out
      have rf0 : w8.frozen? ⟨w.heap.size, 0, none⟩ = false := by unfold World.frozen?; rw [hrow8.out]; rfl
      have rc1 : w8.cell? ⟨w.heap.size, 1, none⟩ = some (.int .i8 0) := cell_of_row _ _ _ _ _ _ hrow8.out
      have rf1 : w8.frozen? ⟨w.heap.size, 1, none⟩ = false := by unfold World.frozen?; rw [hrow8.out]; rfl
      have rc2 : w8.cell? ⟨w.heap.size, 2, none⟩ = some (.int .i8 0) := cell_of_row _ _ _ _ _ _ hrow8.out
      have rf2 : w8.frozen? ⟨w.heap.size, 2, none⟩ = false := by unfold World.frozen?; rw [hrow8.out]; rfl
      have rc3 : w8.cell? ⟨w.heap.size, 3, none⟩ = some (.int .i16 0) := cell_of_row _ _ _ _ _ _ hrow8.out
      have rf3 : w8.frozen? ⟨w.heap.size, 3, none⟩ = false := by unfold World.frozen?; rw [hrow8.out]; rfl
      have HTH := Lib.hid (there_four hrow8.out)
      have hb9 := Lib.hid (below_cells HB8.out (Nat.le_refl _) [.int .u8 0, .int .i8 0, .int .i8 0, .int .i16 0] 0)
      refine wpAnyH_ready (rs := [2]) (by kernel_rfl) (by simp) ?_
      refine AllReadyH.cons rfl (fun K hK => ?_) AllReadyH.nil
      go_simp
      refine hK.out _ _ (show G1 _ _ _ from ⟨(World.cell?_setCell_other _ _ _ _ (by simp [Ne.symm hg0])).trans ((World.cell?_setCell_other _ _ _ _ (by simp [Ne.symm hg0])).trans ((World.cell?_setCell_other _ _ _ _ (by simp [Ne.symm hg0])).trans ((World.cell?_setCell_other _ _ _ _ (by simp [Ne.symm hg0])).trans hHeld.1))), True.intro, True.intro⟩) (fun hHeld2 => ?_)
      clear hK K hHeld
      have hHeld := hHeld2
      clear hHeld2
      refine wpAnyH_take (i := 3) (v := ?_) rfl (by kernel_rfl) (by kernel_rfl) (by kernel_rfl) (fun _ _ _ h => h) (Or.inl ⟨by rfl, ?_⟩) (by assumption) ?_
      rotate_left
      · intro u hSu
        (try dsimp only at hSu)
        first | (go_simp; done) | (go_simp; with_reducible rfl)
      try simp only [Act.put, List.getElem_toArray, List.getElem_cons_zero, List.getElem_cons_succ, List.setIfInBounds_toArray, List.set_cons_zero, List.set_cons_succ]
      refine wpAnyH_done (by kernel_rfl) ?_ _
      go_wp2_with fail
      refine bodyPost_ret (v := .tuple #[Gar.v ⟨0, 0, 0, 0⟩, errV (e 4)]) (results_row_tmp (u := w8.setCells w.heap.size 0 [.int .u8 0, .int .i8 0, .int .i8 0, .int .i16 0]) (b := w.heap.size) (cs := [.int .u8 0, .int .i8 0, .int .i8 0, .int .i16 0]) Tryd.results131 rfl (World.rangeAt_setCells_same _ _ _ _ HTH.out) Tryd.underlying118 rfl (by kernel_rfl)) rfl ⟨.inl ⟨HY.out, rfl⟩, hb9.out⟩
    | some b =>
      cases h2 : intK 16 pc with
      | none =>
        have HY : Hid (R = none) := Lib.hid (by rw [← HR.out, HRR.out, h0, h1, h2])
        refine wp_loop_rounds 5 ?_
        rw [rounds_succ]
        go_wp2_with fail
        refine (parseOk (.inr (.inl rfl)) pa l1 h0 _ (HNE.out _ K0.out.below)).mono ?_
        rintro o w5 ⟨rfl, hbk⟩
        have M0 := Lib.hid (K0.out.next hbk)
        clear hbk
        have K1 := Lib.hid (M0.out.set0 a)
        obtain ⟨cc0, fc0⟩ := M0.out.c0
        go_wp2_with fail
        clear cc0 fc0 M0 K0
        generalize w5.setCell ⟨g, 0, none⟩ (.int .i64 a) = v5 at K1 ⊢
        rw [rounds_succ]
        go_wp2_with fail
        refine (parseOk (.inr (.inl rfl)) pb l2 h1 _ (HNE.out _ K1.out.below)).mono ?_
        rintro o w6 ⟨rfl, hbk⟩
        have M1 := Lib.hid (K1.out.next hbk)
        clear hbk
        have K2 := Lib.hid (M1.out.set1 b)
        obtain ⟨cc1, fc1⟩ := M1.out.c1
        go_wp2_with fail
        clear cc1 fc1 M1 K1
        generalize w6.setCell ⟨g, 1, none⟩ (.int .i64 b) = v6 at K2 ⊢
        rw [rounds_succ]
        go_wp2_with fail
        refine (parseNo (.inr (.inl rfl)) pc l3 h2 _ (HNE.out _ K2.out.below)).mono ?_
        rintro o w7 ⟨⟨vx, tx, qx, rfl⟩, hbk⟩
        have M := Lib.hid (K2.out.next hbk)
        clear hbk K2
        generalize w7 = w6 at M ⊢
        go_wp2_with fail
        have HCE : Hid (G1 ⟨0, 0, none⟩ (.iface 284 (.pointer (some (e 4)))) w6) := Lib.hid ⟨(HE.out _ M.out.below).c4, True.intro, True.intro⟩
        refine wp_region_held_drew (S := G1 ⟨0, 0, none⟩ (.iface 284 (.pointer (some (e 4))))) (by kernel_rfl) HCE.out (fun hHeld => ?_)
        have hrow8 : Hid (w6.drew.heap[w.heap.size]? = some (.cells #[.int .u8 0, .int .i8 0, .int .i8 0, .int .i16 0] 118 (0, 0))) := Lib.hid M.out.row
        have HB8 := Lib.hid (M.out.below.drew)
        generalize w6.drew = w8 at hHeld hrow8 HB8 ⊢
        clear M HCE
        refine wpAnyH_take (i := 0) (v := ?_) rfl (by kernel_rfl) (by kernel_rfl) (by kernel_rfl) (fun _ _ _ h => h) (Or.inl ⟨by rfl, ?_⟩) (by assumption) ?_
        rotate_left
        · intro u hSu
          (try dsimp only at hSu)
          first | (go_simp; done) | (go_simp; with_reducible rfl)
        try simp only [Act.put, List.getElem_toArray, List.getElem_cons_zero, List.getElem_cons_succ, List.setIfInBounds_toArray, List.set_cons_zero, List.set_cons_succ]
        refine wpAnyH_take (i := 1) (v := ?_) rfl (by kernel_rfl) (by kernel_rfl) (by kernel_rfl) (fun _ _ _ h => h) (Or.inl ⟨by rfl, ?_⟩) (by assumption) ?_
        rotate_left
        · intro u hSu
          obtain ⟨qa, qb, _⟩ := hSu
          first | (go_simp; done) | (go_simp; with_reducible rfl)
        try simp only [Act.put, List.getElem_toArray, List.getElem_cons_zero, List.getElem_cons_succ, List.setIfInBounds_toArray, List.set_cons_zero, List.set_cons_succ]
        have rc0 : w8.cell? ⟨w.heap.size, 0, none⟩ = some (.int .u8 0) := cell_of_row _ _ _ _ _ _ hrow8.out
        have rf0 : w8.frozen? ⟨w.heap.size, 0, none⟩ = false := by unfold World.frozen?; rw [hrow8.out]; rfl
        have rc1 : w8.cell? ⟨w.heap.size, 1, none⟩ = some (.int .i8 0) := cell_of_row _ _ _ _ _ _ hrow8.out
        have rf1 : w8.frozen? ⟨w.heap.size, 1, none⟩ = false := by unfold World.frozen?; rw [hrow8.out]; rfl
        have rc2 : w8.cell? ⟨w.heap.size, 2, none⟩ = some (.int .i8 0) := cell_of_row _ _ _ _ _ _ hrow8.out
        have rf2 : w8.frozen? ⟨w.heap.size, 2, none⟩ = false := by unfold World.frozen?; rw [hrow8.out]; rfl
        have rc3 : w8.cell? ⟨w.heap.size, 3, none⟩ = some (.int .i16 0) := cell_of_row _ _ _ _ _ _ hrow8.out
        have rf3 : w8.frozen? ⟨w.heap.size, 3, none⟩ = false := by unfold World.frozen?; rw [hrow8.out]; rfl
        have HTH := Lib.hid (there_four hrow8.out)
        have hb9 := Lib.hid (below_cells HB8.out (Nat.le_refl _) [.int .u8 0, .int .i8 0, .int .i8 0, .int .i16 0] 0)
        refine wpAnyH_ready (rs := [2]) (by kernel_rfl) (by simp) ?_
        refine AllReadyH.cons rfl (fun K hK => ?_) AllReadyH.nil
        go_simp
        refine hK.out _ _ (show G1 _ _ _ from ⟨(World.cell?_setCell_other _ _ _ _ (by simp [Ne.symm hg0])).trans ((World.cell?_setCell_other _ _ _ _ (by simp [Ne.symm hg0])).trans ((World.cell?_setCell_other _ _ _ _ (by simp [Ne.symm hg0])).trans ((World.cell?_setCell_other _ _ _ _ (by simp [Ne.symm hg0])).trans hHeld.1))), True.intro, True.intro⟩) (fun hHeld2 => ?_)
        clear hK K hHeld
        have hHeld := hHeld2
        clear hHeld2
        refine wpAnyH_take (i := 3) (v := ?_) rfl (by kernel_rfl) (by kernel_rfl) (by kernel_rfl) (fun _ _ _ h => h) (Or.inl ⟨by rfl, ?_⟩) (by assumption) ?_
        rotate_left
        · intro u hSu
          (try dsimp only at hSu)
          first | (go_simp; done) | (go_simp; with_reducible rfl)
        try simp only [Act.put, List.getElem_toArray, List.getElem_cons_zero, List.getElem_cons_succ, List.setIfInBounds_toArray, List.set_cons_zero, List.set_cons_succ]
        refine wpAnyH_done (by kernel_rfl) ?_ _
        go_wp2_with fail
        refine bodyPost_ret (v := .tuple #[Gar.v ⟨0, 0, 0, 0⟩, errV (e 4)]) (results_row_tmp (u := w8.setCells w.heap.size 0 [.int .u8 0, .int .i8 0, .int .i8 0, .int .i16 0]) (b := w.heap.size) (cs := [.int .u8 0, .int .i8 0, .int .i8 0, .int .i16 0]) Tryd.results131 rfl (World.rangeAt_setCells_same _ _ _ _ HTH.out) Tryd.underlying118 rfl (by kernel_rfl)) rfl ⟨.inl ⟨HY.out, rfl⟩, hb9.out⟩
      | some c =>
        cases h3 : intK 16 pe with
        | none =>
          have HY : Hid (R = none) := Lib.hid (by rw [← HR.out, HRR.out, h0, h1, h2, h3])
          refine wp_loop_rounds 5 ?_
          rw [rounds_succ]
          go_wp2_with fail
          refine (parseOk (.inr (.inl rfl)) pa l1 h0 _ (HNE.out _ K0.out.below)).mono ?_
          rintro o w5 ⟨rfl, hbk⟩
          have M0 := Lib.hid (K0.out.next hbk)
          clear hbk
          have K1 := Lib.hid (M0.out.set0 a)
          obtain ⟨cc0, fc0⟩ := M0.out.c0
          go_wp2_with fail
          clear cc0 fc0 M0 K0
          generalize w5.setCell ⟨g, 0, none⟩ (.int .i64 a) = v5 at K1 ⊢
          rw [rounds_succ]
          go_wp2_with fail
          refine (parseOk (.inr (.inl rfl)) pb l2 h1 _ (HNE.out _ K1.out.below)).mono ?_
          rintro o w6 ⟨rfl, hbk⟩
          have M1 := Lib.hid (K1.out.next hbk)
          clear hbk
          have K2 := Lib.hid (M1.out.set1 b)
          obtain ⟨cc1, fc1⟩ := M1.out.c1
          go_wp2_with fail
          clear cc1 fc1 M1 K1
          generalize w6.setCell ⟨g, 1, none⟩ (.int .i64 b) = v6 at K2 ⊢
          rw [rounds_succ]
          go_wp2_with fail
          refine (parseOk (.inr (.inl rfl)) pc l3 h2 _ (HNE.out _ K2.out.below)).mono ?_
          rintro o w7 ⟨rfl, hbk⟩
          have M2 := Lib.hid (K2.out.next hbk)
          clear hbk
          have K3 := Lib.hid (M2.out.set2 c)
          obtain ⟨cc2, fc2⟩ := M2.out.c2
          go_wp2_with fail
          clear cc2 fc2 M2 K2
          generalize w7.setCell ⟨g, 2, none⟩ (.int .i64 c) = v7 at K3 ⊢
          rw [rounds_succ]
          go_wp2_with fail
          refine (parseNo (.inr (.inl rfl)) pe l4 h3 _ (HNE.out _ K3.out.below)).mono ?_
          rintro o w8 ⟨⟨vx, tx, qx, rfl⟩, hbk⟩
          have M := Lib.hid (K3.out.next hbk)
          clear hbk K3
          generalize w8 = w6 at M ⊢
          go_wp2_with fail
          have HCE : Hid (G1 ⟨0, 0, none⟩ (.iface 284 (.pointer (some (e 4)))) w6) := Lib.hid ⟨(HE.out _ M.out.below).c4, True.intro, True.intro⟩
          refine wp_region_held_drew (S := G1 ⟨0, 0, none⟩ (.iface 284 (.pointer (some (e 4))))) (by kernel_rfl) HCE.out (fun hHeld => ?_)
          have hrow8 : Hid (w6.drew.heap[w.heap.size]? = some (.cells #[.int .u8 0, .int .i8 0, .int .i8 0, .int .i16 0] 118 (0, 0))) := Lib.hid M.out.row
          have HB8 := Lib.hid (M.out.below.drew)
          generalize w6.drew = w8 at hHeld hrow8 HB8 ⊢
          clear M HCE
          refine wpAnyH_take (i := 0) (v := ?_) rfl (by kernel_rfl) (by kernel_rfl) (by kernel_rfl) (fun _ _ _ h => h) (Or.inl ⟨by rfl, ?_⟩) (by assumption) ?_
          rotate_left
          · intro u hSu
            (try dsimp only at hSu)
            first | (go_simp; done) | (go_simp; with_reducible rfl)
          try simp only [Act.put, List.getElem_toArray, List.getElem_cons_zero, List.getElem_cons_succ, List.setIfInBounds_toArray, List.set_cons_zero, List.set_cons_succ]
          refine wpAnyH_take (i := 1) (v := ?_) rfl (by kernel_rfl) (by kernel_rfl) (by kernel_rfl) (fun _ _ _ h => h) (Or.inl ⟨by rfl, ?_⟩) (by assumption) ?_
          rotate_left
          · intro u hSu
            obtain ⟨qa, qb, _⟩ := hSu
            first | (go_simp; done) | (go_simp; with_reducible rfl)
          try simp only [Act.put, List.getElem_toArray, List.getElem_cons_zero, List.getElem_cons_succ, List.setIfInBounds_toArray, List.set_cons_zero, List.set_cons_succ]
          have rc0 : w8.cell? ⟨w.heap.size, 0, none⟩ = some (.int .u8 0) := cell_of_row _ _ _ _ _ _ hrow8.out
          have rf0 : w8.frozen? ⟨w.heap.size, 0, none⟩ = false := by unfold World.frozen?; rw [hrow8.out]; rfl
          have rc1 : w8.cell? ⟨w.heap.size, 1, none⟩ = some (.int .i8 0) := cell_of_row _ _ _ _ _ _ hrow8.out
          have rf1 : w8.frozen? ⟨w.heap.size, 1, none⟩ = false := by unfold World.frozen?; rw [hrow8.out]; rfl
          have rc2 : w8.cell? ⟨w.heap.size, 2, none⟩ = some (.int .i8 0) := cell_of_row _ _ _ _ _ _ hrow8.out
          have rf2 : w8.frozen? ⟨w.heap.size, 2, none⟩ = false := by unfold World.frozen?; rw [hrow8.out]; rfl
          have rc3 : w8.cell? ⟨w.heap.size, 3, none⟩ = some (.int .i16 0) := cell_of_row _ _ _ _ _ _ hrow8.out
          have rf3 : w8.frozen? ⟨w.heap.size, 3, none⟩ = false := by unfold World.frozen?; rw [hrow8.out]; rfl
          have HTH := Lib.hid (there_four hrow8.out)
          have hb9 := Lib.hid (below_cells HB8.out (Nat.le_refl _) [.int .u8 0, .int .i8 0, .int .i8 0, .int .i16 0] 0)
          refine wpAnyH_ready (rs := [2]) (by kernel_rfl) (by simp) ?_
          refine AllReadyH.cons rfl (fun K hK => ?_) AllReadyH.nil
          go_simp
          refine hK.out _ _ (show G1 _ _ _ from ⟨(World.cell?_setCell_other _ _ _ _ (by simp [Ne.symm hg0])).trans ((World.cell?_setCell_other _ _ _ _ (by simp [Ne.symm hg0])).trans ((World.cell?_setCell_other _ _ _ _ (by simp [Ne.symm hg0])).trans ((World.cell?_setCell_other _ _ _ _ (by simp [Ne.symm hg0])).trans hHeld.1))), True.intro, True.intro⟩) (fun hHeld2 => ?_)
          clear hK K hHeld
          have hHeld := hHeld2
          clear hHeld2
          refine wpAnyH_take (i := 3) (v := ?_) rfl (by kernel_rfl) (by kernel_rfl) (by kernel_rfl) (fun _ _ _ h => h) (Or.inl ⟨by rfl, ?_⟩) (by assumption) ?_
          rotate_left
          · intro u hSu
            (try dsimp only at hSu)
            first | (go_simp; done) | (go_simp; with_reducible rfl)
          try simp only [Act.put, List.getElem_toArray, List.getElem_cons_zero, List.getElem_cons_succ, List.setIfInBounds_toArray, List.set_cons_zero, List.set_cons_succ]
          refine wpAnyH_done (by kernel_rfl) ?_ _
          go_wp2_with fail
          refine bodyPost_ret (v := .tuple #[Gar.v ⟨0, 0, 0, 0⟩, errV (e 4)]) (results_row_tmp (u := w8.setCells w.heap.size 0 [.int .u8 0, .int .i8 0, .int .i8 0, .int .i16 0]) (b := w.heap.size) (cs := [.int .u8 0, .int .i8 0, .int .i8 0, .int .i16 0]) Tryd.results131 rfl (World.rangeAt_setCells_same _ _ _ _ HTH.out) Tryd.underlying118 rfl (by kernel_rfl)) rfl ⟨.inl ⟨HY.out, rfl⟩, hb9.out⟩
        | some d =>
          have HY : Hid (R = some ⟨IntKind.u8.wrap a, IntKind.i8.wrap b, IntKind.i8.wrap c, IntKind.i16.wrap d⟩) := Lib.hid (by rw [← HR.out, HRR.out, h0, h1, h2, h3])
          refine wp_loop_rounds 5 ?_
          rw [rounds_succ]
          go_wp2_with fail
          refine (parseOk (.inr (.inl rfl)) pa l1 h0 _ (HNE.out _ K0.out.below)).mono ?_
          rintro o w5 ⟨rfl, hbk⟩
          have M0 := Lib.hid (K0.out.next hbk)
          clear hbk
          have K1 := Lib.hid (M0.out.set0 a)
          obtain ⟨cc0, fc0⟩ := M0.out.c0
          go_wp2_with fail
          clear cc0 fc0 M0 K0
          generalize w5.setCell ⟨g, 0, none⟩ (.int .i64 a) = v5 at K1 ⊢
          rw [rounds_succ]
          go_wp2_with fail
          refine (parseOk (.inr (.inl rfl)) pb l2 h1 _ (HNE.out _ K1.out.below)).mono ?_
          rintro o w6 ⟨rfl, hbk⟩
          have M1 := Lib.hid (K1.out.next hbk)
          clear hbk
          have K2 := Lib.hid (M1.out.set1 b)
          obtain ⟨cc1, fc1⟩ := M1.out.c1
          go_wp2_with fail
          clear cc1 fc1 M1 K1
          generalize w6.setCell ⟨g, 1, none⟩ (.int .i64 b) = v6 at K2 ⊢
          rw [rounds_succ]
          go_wp2_with fail
          refine (parseOk (.inr (.inl rfl)) pc l3 h2 _ (HNE.out _ K2.out.below)).mono ?_
          rintro o w7 ⟨rfl, hbk⟩
          have M2 := Lib.hid (K2.out.next hbk)
          clear hbk
          have K3 := Lib.hid (M2.out.set2 c)
          obtain ⟨cc2, fc2⟩ := M2.out.c2
          go_wp2_with fail
          clear cc2 fc2 M2 K2
          generalize w7.setCell ⟨g, 2, none⟩ (.int .i64 c) = v7 at K3 ⊢
          rw [rounds_succ]
          go_wp2_with fail
          refine (parseOk (.inr (.inl rfl)) pe l4 h3 _ (HNE.out _ K3.out.below)).mono ?_
          rintro o w8 ⟨rfl, hbk⟩
          have M3 := Lib.hid (K3.out.next hbk)
          clear hbk
          have K4 := Lib.hid (M3.out.set3 d)
          obtain ⟨cc3, fc3⟩ := M3.out.c3
          go_wp2_with fail
          clear cc3 fc3 M3 K3
          generalize w8.setCell ⟨g, 3, none⟩ (.int .i64 d) = v8 at K4 ⊢
          rw [rounds_succ]
          have y0 := K4.out.c0.1
          have y1 := K4.out.c1.1
          have y2 := K4.out.c2.1
          have y3 := K4.out.c3.1
          have rc0 : v8.cell? ⟨w.heap.size, 0, none⟩ = some (.int .u8 0) := cell_of_row _ _ _ _ _ _ K4.out.row
          have rf0 : v8.frozen? ⟨w.heap.size, 0, none⟩ = false := by unfold World.frozen?; rw [K4.out.row]; rfl
          have rc1 : v8.cell? ⟨w.heap.size, 1, none⟩ = some (.int .i8 0) := cell_of_row _ _ _ _ _ _ K4.out.row
          have rf1 : v8.frozen? ⟨w.heap.size, 1, none⟩ = false := by unfold World.frozen?; rw [K4.out.row]; rfl
          have rc2 : v8.cell? ⟨w.heap.size, 2, none⟩ = some (.int .i8 0) := cell_of_row _ _ _ _ _ _ K4.out.row
          have rf2 : v8.frozen? ⟨w.heap.size, 2, none⟩ = false := by unfold World.frozen?; rw [K4.out.row]; rfl
          have rc3 : v8.cell? ⟨w.heap.size, 3, none⟩ = some (.int .i16 0) := cell_of_row _ _ _ _ _ _ K4.out.row
          have rf3 : v8.frozen? ⟨w.heap.size, 3, none⟩ = false := by unfold World.frozen?; rw [K4.out.row]; rfl
          have HTH := Lib.hid (there_four K4.out.row)
          have hb9 := Lib.hid (below_cells K4.out.below (Nat.le_refl _) [.int .u8 (IntKind.u8.wrap a), .int .i8 (IntKind.i8.wrap b), .int .i8 (IntKind.i8.wrap c), .int .i16 (IntKind.i16.wrap d)] 0)
          go_wp2_with fail
          refine bodyPost_ret (v := .tuple #[Gar.v ⟨IntKind.u8.wrap a, IntKind.i8.wrap b, IntKind.i8.wrap c, IntKind.i16.wrap d⟩, .nilIface]) (results_row_tmp (u := v8.setCells w.heap.size 0 [.int .u8 (IntKind.u8.wrap a), .int .i8 (IntKind.i8.wrap b), .int .i8 (IntKind.i8.wrap c), .int .i16 (IntKind.i16.wrap d)]) (b := w.heap.size) (cs := [.int .u8 (IntKind.u8.wrap a), .int .i8 (IntKind.i8.wrap b), .int .i8 (IntKind.i8.wrap c), .int .i16 (IntKind.i16.wrap d)]) Tryd.results131 rfl (World.rangeAt_setCells_same _ _ _ _ HTH.out) Tryd.underlying118 rfl (by kernel_rfl)) rfl ⟨.inr ⟨_, HY.out, rfl⟩, hb9.out⟩
end Go.Proofs.YtjfimmfnhlimkaaDoor.rd

/-
  The lines of a text: the library's iterator strings.Lines.
-/
namespace Go.Proofs.YtjfimmfnhlimkaaDoor.rd
open Go Go.RowKit Go.Shelf sl dec txt errs rng
attribute [local go_sem] Oper.semAt_some

theorem lines_any (s : ByteArray) (w : World) :
    Calls Tryd.prog 130 #[.string s] w fun o w' => o = .returned (.func (.func 157) #[] #[.pointer (some ⟨w.heap.size, 0, none⟩)]) ∧ w' = w.alloc (.cells #[.string s] 9) := by
  go_enter Tryd.func130, Tryd.ntmps130
  go_wp2
  go_ret
  exact ⟨rfl, rfl⟩
set_option maxRecDepth 100000 in
set_option maxHeartbeats 4000000 in
theorem lines1_in (n : Nat) (hn : 1 ≤ n) (l Bs lo n₀ : Nat) (s0 : List UInt8) (hs0 : s0.length ≤ 1048576) (h9 : lo ≤ Bs ∧ Bs < n₀) (J Jx : List Part → World → Prop)
    (hJg : ∀ pre A, J pre A → J pre A.drew) (hJs : ∀ pre A t, J pre A → J pre (A.setCell ⟨Bs, 0, none⟩ (.string t)))
    (hY : ∀ pre x X, J pre X → pre.length < 1048577 → YieldAt Fence.wide (n - 1) Tryd.prog l #[.string (bsJ x.1)] X fun e X' =>
      (e = .returned (.bool true) ∧ J (pre ++ [x]) X' ∧ KeepB lo n₀ X X') ∨ (e = .returned (.bool false) ∧ Jx (pre ++ [x]) X'))
    (W : World) (hS : W.cell? ⟨Bs, 0, none⟩ = some (.string (bsJ s0))) (hfz : W.frozen? ⟨Bs, 0, none⟩ = false) (h0 : J [] W) :
    CallsIn Fence.wide n Tryd.prog 157 #[.func (.yield l) #[] #[], .pointer (some ⟨Bs, 0, none⟩)] W fun e W' => (∃ v, e = .returned v) ∧
      ((∃ ys : List Part, parts ys = linesB s0 ∧ J ys W') ∨ (∃ pre : List Part, parts pre <+: linesB s0 ∧ Jx pre W')) := by
  have hmx : Tryd.prog.follows .mixedOrders = true := by kernel_rfl
  refine callsIn_of_wp Tryd.func157 rfl trivial ?_ rfl
  simp only [Tryd.ntmps157, List.size_toArray, List.length_cons, List.length_nil, Nat.reduceAdd, Nat.reduceSub, Array.replicate_succ, Array.replicate_zero, List.push_toArray, List.append_toArray, List.nil_append, List.cons_append]
  gi_wp2
  gi_loopw [3, 4] (fun _ _ wr => ∃ (r : List UInt8) (pre : List Part), r.length ≤ 1048576 ∧ linesB s0 = parts pre ++ linesB r ∧ wr.cell? ⟨Bs, 0, none⟩ = some (.string (bsJ r)) ∧ wr.frozen? ⟨Bs, 0, none⟩ = false ∧ J pre wr) (fun _ _ wr => leftS Bs wr)
  case atStart => exact ⟨s0, [], hs0, rfl, hS, hfz, h0⟩
  case round =>
    clear hS hfz h0
    obtain ⟨r, pre, hr, hm, hS, hfz, hJ⟩ := hrel
    have hrs : (bsJ r).size = r.length := bsJ_size r
    by_cases he : r = []
    · subst he
      have hz : (bsJ ([] : List UInt8)).size = 0 := rfl
      gi_wp2
      go_end0
      exact ⟨⟨_, rfl⟩, .inl ⟨pre, by rw [hm, linesB, List.append_nil], hJ⟩⟩
    · have hpos : 0 < r.length := List.length_pos_iff.2 he
      have hd0 : decide (((bsJ r).size : Int) > 0) = true := decide_eq_true (by omega)
      have hlen : pre.length < 1048577 := by
        have h1 := linesB_len s0
        rw [hm, List.length_append, parts_len] at h1
        omega
      have hI := Tryd.strings_IndexByte (bsJ r) 10
      rw [show (bsJ r).data.toList = r by simp, show ((10 : Int).toNat.toUInt8) = (10 : UInt8) from rfl] at hI
      rcases linesB_cases r he with ⟨h1, h2⟩ | ⟨i, h1, h2, h3⟩
      · rw [h1] at hI
        obtain ⟨fn, tmps, assign, body, hy, hR⟩ := hY pre ⟨r, hr⟩ (wr.setCell ⟨Bs, 0, none⟩ (.string ⟨#[]⟩)) (hJs _ _ _ hJ) hlen
        dsimp only at hy
        have HM := Lib.hid (leftS_eq hS)
        have HS1 := Lib.hid (show (wr.setCell ⟨Bs, 0, none⟩ (.string ⟨#[]⟩)).cell? ⟨Bs, 0, none⟩ = some (.string (bsJ [])) from World.cell?_setCell_same' _ _ _ (by rw [hS]; rfl))
        have HF1 := Lib.hid (show (wr.setCell ⟨Bs, 0, none⟩ (.string ⟨#[]⟩)).frozen? ⟨Bs, 0, none⟩ = false by rw [World.frozen?_setCell]; exact hfz)
        gi_wp2_with (refine ⟨trivial, ?_⟩; gi_at_call 158; refine (callsIn_wide.2 (hI _)).mono ?_; rintro e w2 ⟨rfl, rfl⟩)
        refine hR.mono ?_
        rintro e X3 (⟨rfl, hJ3, hb3⟩ | ⟨rfl, hJx3⟩)
        · have hS3 := (hb3.cell h9.1 h9.2).trans HS1.out
          have hf3 := (hb3.frozen h9.1 h9.2).trans HF1.out
          clear hS hfz hy hI
          gi_wp2
          go_roundw
          case rel => exact ⟨[], pre ++ [⟨r, hr⟩], by simp, by rw [parts_snoc, hm, h2, linesB, List.append_nil], hS3, hf3, hJ3⟩
          case measure =>
            rw [HM.out, leftS_eq hS3, hrs]
            exact hpos
        · gi_wp2
          refine bodyPost_ret (results_none rfl _ _ _) rfl ?_
          exact ⟨⟨_, rfl⟩, .inr ⟨pre ++ [⟨r, hr⟩], by rw [parts_snoc, hm, h2]; exact List.prefix_refl _, hJx3⟩⟩
      · rw [h1] at hI
        have hed : (bsJ r).data.toList = r := by simp
        have hea : (bsJ r).extract 0 (i + 1) = bsJ (r.take (i + 1)) := by rw [extract_bs, hed]; simp
        have hez : (bsJ r).extract (i + 1) r.length = bsJ (r.drop (i + 1)) := by rw [extract_bs, hed, List.take_of_length_le (Nat.le_refl _)]
        have k2 : (0 : Int) ≤ (i : Int) + 1 := by omega
        have k3 : (i : Int) + 1 ≤ ((bsJ r).size : Int) := by omega
        have k4 : decide ((i : Int) ≥ 0) = true := decide_eq_true (by omega)
        obtain ⟨fn, tmps, assign, body, hy, hR⟩ := hY pre ⟨r.take (i + 1), by rw [List.length_take]; omega⟩ (wr.setCell ⟨Bs, 0, none⟩ (.string (bsJ (r.drop (i + 1))))).drew (hJg _ _ (hJs _ _ _ hJ)) hlen
        dsimp only at hy
        have HM := Lib.hid (leftS_eq hS)
        have HS1 := Lib.hid (show (wr.setCell ⟨Bs, 0, none⟩ (.string (bsJ (r.drop (i + 1))))).cell? ⟨Bs, 0, none⟩ = some (.string (bsJ (r.drop (i + 1)))) from World.cell?_setCell_same' _ _ _ (by rw [hS]; rfl))
        have HF1 := Lib.hid (show (wr.setCell ⟨Bs, 0, none⟩ (.string (bsJ (r.drop (i + 1))))).frozen? ⟨Bs, 0, none⟩ = false by rw [World.frozen?_setCell]; exact hfz)
        gi_wp2_with (refine ⟨trivial, ?_⟩; gi_at_call 158; refine (callsIn_wide.2 (hI _)).mono ?_; rintro e w2 ⟨rfl, rfl⟩)
        gi_region_o
        gi_wp2
        refine hR.mono ?_
        rintro e X3 (⟨rfl, hJ3, hb3⟩ | ⟨rfl, hJx3⟩)
        · have hS3 := (hb3.cell h9.1 h9.2).trans (show World.cell? (World.drew _) _ = _ from HS1.out)
          have hf3 := (hb3.frozen h9.1 h9.2).trans (show World.frozen? (World.drew _) _ = _ from HF1.out)
          clear hS hfz hy hI
          gi_wp2
          go_roundw
          case rel => exact ⟨r.drop (i + 1), pre ++ [_], by rw [List.length_drop]; omega, by rw [parts_snoc, hm, h3]; simp, hS3, hf3, hJ3⟩
          case measure =>
            rw [HM.out, leftS_eq hS3, hrs, bsJ_size, List.length_drop]
            omega
        · gi_wp2
          refine bodyPost_ret (results_none rfl _ _ _) rfl ?_
          exact ⟨⟨_, rfl⟩, .inr ⟨pre ++ [_], by rw [parts_snoc, hm, h3]; exact ⟨linesB (r.drop (i + 1)), by simp⟩, hJx3⟩⟩
/-- Lines's value, behind its making -/
theorem lines_seq (n : Nat) (hn : 1 ≤ n) (Bs lo n₀ : Nat) (s0 : List UInt8) (hs0 : s0.length ≤ 1048576) (h9 : lo ≤ Bs ∧ Bs < n₀) (w : World) (hn₀ : n₀ ≤ w.heap.size)
    (hS : w.cell? ⟨Bs, 0, none⟩ = some (.string (bsJ s0))) (hfz : w.frozen? ⟨Bs, 0, none⟩ = false) :
    SeqBox Fence.wide n Tryd.prog 157 #[.pointer (some ⟨Bs, 0, none⟩)] encP lo n₀ Bs (fun ys => parts ys = linesB s0) (fun pre => parts pre <+: linesB s0) 1048577 w := fun l J Jx W hW hJ hY h0 => by
  obtain ⟨h3a, h3b⟩ := h9
  exact lines1_in n hn l Bs lo n₀ s0 hs0 ⟨h3a, h3b⟩ J Jx (fun pre A hA => hJ.1 pre A _ none hA ⟨rfl, rfl, rfl, Nat.le_refl _, fun _ _ _ => rfl⟩ (fun r e => by cases e)) hJ.2 hY W ((hW.cell (p := ⟨Bs, 0, none⟩) (by show Bs < _; omega)).trans hS) ((hW.frozen (p := ⟨Bs, 0, none⟩) (by show Bs < _; omega)).trans hfz) h0
end Go.Proofs.YtjfimmfnhlimkaaDoor.rd

/-
  Garments read from a text: the program's reader.
-/
namespace Go.Proofs.YtjfimmfnhlimkaaDoor.rd
open Go Go.RowKit Go.Shelf sl dec txt errs rng gart garS
attribute [local go_sem] Oper.semAt_some

theorem four_newR (w : World) (u v x z : Value) (T : TypeId) : ∀ (j : Nat) y, [u, v, x, z][j]? = some y → (w.alloc (.cells #[u, v, x, z] T)).cell? ((⟨w.heap.size, 0, none⟩ : Addr).add j) = some y := by
  intro j y hj
  rw [add_lit, cell_of_row _ _ _ _ _ _ (heap_alloc_new w _)]
  simpa using hj
theorem four_cellR {u v x z : Value} (hu : u.oneCell' = true) (hv : v.oneCell' = true) (hx : x.oneCell' = true) (hz : z.oneCell' = true) : ∀ y ∈ [u, v, x, z], y.oneCell' = true := by
  intro y hy
  simp only [List.mem_cons, List.not_mem_nil, or_false] at hy
  rcases hy with rfl | rfl | rfl | rfl <;> assumption
/-- what is read kindly -/
def kindG (t : List UInt8) : Option (List Gar) := match readL readG (linesB t) with
  | some D => if D.length ≤ 8 then some D else none
  | none => none
theorem heap4R (w : World) (a b c d : Obj) : (((((w.alloc a).alloc b).alloc c).alloc d).heap[w.heap.size]? = some a ∧ ((((w.alloc a).alloc b).alloc c).alloc d).heap[w.heap.size + 1]? = some b ∧
    ((((w.alloc a).alloc b).alloc c).alloc d).heap[w.heap.size + 1 + 1]? = some c ∧ ((((w.alloc a).alloc b).alloc c).alloc d).heap[w.heap.size + 1 + 1 + 1]? = some d) ∧
    ((((w.alloc a).alloc b).alloc c).alloc d).heap.size = w.heap.size + 4 ∧ Below w.heap.size w ((((w.alloc a).alloc b).alloc c).alloc d) := by
  have e1 : (w.alloc a).heap.size = w.heap.size + 1 := by simp
  have e2 : ((w.alloc a).alloc b).heap.size = w.heap.size + 1 + 1 := by simp
  have e3 : (((w.alloc a).alloc b).alloc c).heap.size = w.heap.size + 1 + 1 + 1 := by simp
  have h1 := World.alloc_heap_new (w.alloc a) b
  have h2 := World.alloc_heap_new ((w.alloc a).alloc b) c
  have h3 := World.alloc_heap_new (((w.alloc a).alloc b).alloc c) d
  rw [e1] at h1
  rw [e2] at h2
  rw [e3] at h3
  refine ⟨⟨?_, ?_, ?_, h3⟩, by simp, ?_⟩
  · exact (Below.heap_alloc _ _ _ (by omega)).trans ((Below.heap_alloc _ _ _ (by omega)).trans ((Below.heap_alloc _ _ _ (by omega)).trans (World.alloc_heap_new w a)))
  · exact (Below.heap_alloc _ _ _ (by omega)).trans ((Below.heap_alloc _ _ _ (by omega)).trans h1)
  · exact (Below.heap_alloc _ _ _ (by omega)).trans h2
  · exact ((((Below.refl _ w).alloc (Nat.le_refl _) _).alloc (by simp) _).alloc (by simp; omega) _).alloc (by simp; omega) _
/-- between two parts -/
def ICg (w : World) (b : Nat) (pre : List Part) (W : World) : Prop := (∃ D, (readL readG (parts pre) = some D ∧ D.length ≤ 8) ∧ RL b 49 94 9 118 4 (D.flatMap Gar.cells) D.length W) ∧ Below w.heap.size w W
/-- where the reader has left -/
def XCg (w : World) (b : Nat) (ev : Value) (cc : Code) (pre : List Part) (W : World) : Prop := cc = .ret ∧ ((readL readG (parts pre) = none ∨ 8 < pre.length) ∧ Boxed W b 49 (.slice none 0 0) ∧ Boxed W (b + 1) 94 ev) ∧ Below w.heap.size w W
theorem post_stopG {B lo hi b : Nat} {w W Y : World} {ev : Value} {pre : List Part} {a : Act} (h1 : KeepsFrom B W Y) (h2 : (readL readG (parts pre) = none ∨ 8 < pre.length) ∧ Boxed Y b 49 (.slice none 0 0) ∧ Boxed Y (b + 1) 94 ev) (h3 : Below w.heap.size w Y) :
    ownPostG B (KeepB lo hi) (ICg w b) (XCg w b ev) pre W .ret a Y := And.intro h1 (And.intro rfl (And.intro h2 h3))
theorem post_nextG {B lo hi b : Nat} {w W Y : World} {ev : Value} {pre : List Part} {a : Act} {D : List Gar} (h1 : KeepsFrom B W Y) (h2 : KeepB lo hi W Y) (h3 : readL readG (parts pre) = some D) (h4 : D.length ≤ 8) (h5 : RL b 49 94 9 118 4 (D.flatMap Gar.cells) D.length Y) (h6 : Below w.heap.size w Y) :
    ownPostG B (KeepB lo hi) (ICg w b) (XCg w b ev) pre W .normal a Y := And.intro h1 (And.intro h2 (And.intro ⟨D, ⟨h3, h4⟩, h5⟩ h6))
abbrev RCg (b : Nat) (D : List Gar) (W : World) : Prop := RL b 49 94 9 118 4 (D.flatMap Gar.cells) D.length W
set_option maxRecDepth 100000 in
set_option maxHeartbeats 8000000 in
theorem readLines_any (s : ByteArray) (hs : s.size ≤ 1048576) {w : World} {B : Nat} {e : Nat → Addr} (h : Errs w B e) (hn : NE w B) (hB : B ≤ w.heap.size) (R : Option (List Gar)) (hR : kindG s.data.toList = R) :
    Calls Tryd.prog 89 #[.string s] w fun o w' => ((R = none ∧ o = .returned (.tuple #[.slice none 0 0, errV (e 4)])) ∨ ∃ D v, R = some D ∧ o = .returned (.tuple #[v, .nilIface]) ∧ w'.ownsRow w.heap.size 118 4 v D.length (D.flatMap Gar.cells)) ∧ Below w.heap.size w w' := by
  obtain ⟨i0, hi, hz0, hz1, hz2⟩ := info_parts infoG
  have HR := Lib.hid hR
  have HE := Lib.hid (fun (u : World) (hu : Below w.heap.size w u) => h.below (hu.mono hB))
  have HNE := Lib.hid (fun (u : World) (hu : Below w.heap.size w u) => hn.below (hu.mono hB))
  clear hR h hn
  · have hs0 : s.data.toList.length ≤ 1048576 := by rw [len_list]; exact hs
    have HS := Lib.hid (show kindG s.data.toList = match readL readG (linesB s.data.toList) with | some D => if D.length ≤ 8 then some D else none | none => none from rfl)
    refine (callsIn_wide (n := 3)).1 ?_
    refine callsIn_of_wp_marks Tryd.func89 rfl trivial ?_ rfl
    simp only [Tryd.ntmps89, List.size_toArray, List.length_cons, List.length_nil, Nat.reduceAdd, Nat.reduceSub, Array.replicate_succ, Array.replicate_zero, List.push_toArray, List.append_toArray, List.nil_append, List.cons_append]
    gi_wp2_with (refine ⟨trivial, ?_⟩; gi_at_call 130; refine (callsIn_wide.2 (lines_any s _)).mono ?_; rintro e w1 ⟨rfl, rfl⟩)
    have h6 := heap4R w (.cells #[.slice none 0 0] 49) (.cells #[.nilIface] 94) (.cells #[.slice none 0 0] 49) (.cells #[.string s] 9)
    obtain ⟨W0, hW0⟩ : ∃ W0, W0 = ((((w.alloc (.cells #[.slice none 0 0] 49)).alloc (.cells #[.nilIface] 94)).alloc (.cells #[.slice none 0 0] 49)).alloc (.cells #[.string s] 9)) := ⟨_, rfl⟩
    rw [← hW0] at h6 ⊢
    obtain ⟨⟨g0, g1, g2, g3⟩, hsz, hB0⟩ := h6
    have k3 : Boxed W0 (w.heap.size + 1 + 1 + 1) 9 (.string s) := g3
    have hRB : RCg w.heap.size [] W0 := ⟨g0, g1, ⟨_, g2, World.ownsRow_nil _ _ _ _⟩, ⟨s, k3⟩, by omega⟩
    clear g0 g1 g2 g3 hW0
    refine range_box (Bs := w.heap.size + 1 + 1 + 1) (by omega) (Nat.le_of_eq hsz.symm) rfl (by decide) (gf := 157) (lb := #[.pointer (some ⟨w.heap.size + 1 + 1 + 1, 0, none⟩)]) rfl trivial (enters_of Tryd.func157 (by kernel_rfl) rfl)
      (lines_seq (3 - 1) (by decide) (w.heap.size + 1 + 1 + 1) (w.heap.size + 1 + 1 + 1) (w.heap.size + 4) s.data.toList hs0 ⟨Nat.le_refl _, by omega⟩ W0 (by omega) (by rw [bsJ_of]; exact k3.cell) k3.frozen) (fun _ => rfl)
      (ICg w w.heap.size) (XCg w w.heap.size (errV (e 4)))
      (OwnFrom.and (fun s A B row hs hg hr => by obtain ⟨D, hD, h⟩ := hs; exact ⟨D, hD, h.grown hg fun r e => (hr r e).2⟩) (ownFrom_below (Nat.le_refl _) (by omega)))
      (fun cc => OwnFrom.and (fun s A B row hs _ _ => hs) (OwnFrom.and (fun s A B row hs hg hr => ⟨hs.1, boxed_not hs.2.1 hg fun r e => (hr r e).2, boxed_not hs.2.2 hg fun r e => (hr r e).2⟩) (ownFrom_below (Nat.le_refl _) (by omega))))
      (fun pre A t hs => ⟨by obtain ⟨D, hD, h⟩ := hs.1; exact ⟨D, hD, h.store t⟩, hs.2.setCell (p := ⟨w.heap.size + 1 + 1 + 1, 0, none⟩) (by show w.heap.size ≤ w.heap.size + 1 + 1 + 1; omega) _⟩)
      ⟨⟨[], ⟨rfl, by simp⟩, hRB⟩, hB0⟩
      (fun x => { tmps := #[.string s, undef, .pointer (some ⟨w.heap.size, 0, none⟩), .pointer (some ⟨w.heap.size + 1, 0, none⟩), .pointer (some ⟨w.heap.size + 1 + 1, 0, none⟩), .string (bsJ x.1), undef, undef, .string s, .func (.func 157) #[] #[.pointer (some ⟨w.heap.size + 1 + 1 + 1, 0, none⟩)], .string (bsJ x.1), undef, undef, undef, undef, undef, undef, undef, undef, undef, undef, undef, undef, undef, undef, undef, undef, undef, undef], defers := [] }) ?assign ?body ?done ?stop
    case assign =>
      intro l x W K hK
      gi_wp2
      exact hK
    case body =>
      rintro l pre x W ⟨⟨D, ⟨hD, hDl⟩, hrb⟩, hbw⟩ hlen
      have hmx : Tryd.prog.follows .mixedOrders = true := by kernel_rfl
      have hsz := hrb.n
      have HRB := Lib.hid hrb
      have hg0 : ¬ 0 = w.heap.size := by have h1 := (HE.out _ (Below.refl _ _)).size; omega
      have HD := Lib.hid hD
      have HBW := Lib.hid hbw
      have n1 : ∀ {X : World}, Below W.heap.size W X → Below w.heap.size w X := fun h => HBW.out.trans (h.mono HBW.out.size)
      -- how the error is returned, whatever order is drawn
      have hbad : ∀ (X : World) (a : Act), Below W.heap.size W X → (readL readG (parts (pre ++ [x])) = none ∨ 8 < (pre ++ [x]).length) →
          ownPostG W0.heap.size (KeepB (w.heap.size + 1 + 1 + 1) (w.heap.size + 4)) (ICg w w.heap.size) (XCg w w.heap.size (errV (e 4))) (pre ++ [x]) W .ret a ((X.setCell ⟨w.heap.size, 0, none⟩ (.slice none 0 0)).setCell ⟨w.heap.size + 1, 0, none⟩ (.iface 284 (.pointer (some (e 4))))).drew := fun X a hX hno =>
        post_stopG ((keeps_below _ hX).trans (two_stores _ _ _ _ _ _)) ⟨hno, ((HRB.out.below hX).fail _).1, ((HRB.out.below hX).fail _).2⟩ (two_below (n1 hX) _ _ (Nat.le_refl _) (Nat.le_succ _) _ _)
      have HBAD := Lib.hid hbad
      clear hbad
      obtain ⟨RP, hRP⟩ : ∃ RP, readG x.1 = RP := ⟨_, rfl⟩
      have HPC := Lib.hid (fun (u : World) (hu : Below w.heap.size w u) => readGarment_any x.1 x.2 (HE.out u hu) (HNE.out u hu) (Nat.le_trans hB hu.size) RP hRP)
      have HRP := Lib.hid hRP
      have hgl : ¬ 0 = w.heap.size := hg0
      have hgl2 : ¬ w.heap.size = 0 := fun e => hg0 e.symm
      clear hrb hD hRP
      gi_wp2
      refine ⟨trivial, (CallsIn.inRound l (callsIn_wide.2 (HPC.out _ HBW.out))).mono ?_⟩
      rintro o w1 ⟨⟨rfl, rfl⟩ | ⟨y, rfl, rfl⟩, hb1⟩
      · have B1 := Lib.hid hb1
        obtain ⟨w4, hw4⟩ : ∃ u, u = w1.alloc (.cells #[.int .u8 0, .int .i8 0, .int .i8 0, .int .i16 0] 118) := ⟨_, rfl⟩
        have HW4 := Lib.hid hw4
        have B4 : Hid (Below W.heap.size W w4) := Lib.hid (by rw [hw4]; exact B1.out.alloc B1.out.size _)
        have hrx := HRB.out.below B4.out
        have HNO : Hid (readL readG (parts (pre ++ [x])) = none ∨ 8 < (pre ++ [x]).length) := Lib.hid (.inl (by rw [parts_snoc, readL_snoc, HD.out, HRP.out]))
        have f1 := hrx.r.frozen
        have f2 := hrx.e.frozen
        have q1 := hrx.r.cell
        have q2 := hrx.e.cell
        have hce : w4.cell? ⟨0, 0, none⟩ = some (.iface 284 (.pointer (some (e 4)))) := (HE.out _ (n1 B4.out)).c4
        clear hb1 hw4 HPC hrx
        gi_wp2
        rw [← HW4.out]
        refine wpIn_region_any hmx ?_
        refine wpAnyIn_all (rs := [0, 1]) (by kernel_rfl) (by simp) ?_
        intro iIn hIn
        rcases List.mem_cons.1 hIn with rfl | hIn
        · skip
          refine wpOpIn_step rfl (fun K' hK' => ?_)
          refine wanted_none rfl ?_
          gi_wp2
          refine wpAnyIn_all (rs := [1]) (by kernel_rfl) (by simp) ?_
          intro iIn hIn
          obtain rfl := List.mem_singleton.1 hIn
          clear hIn
          refine wpOpIn_step rfl (fun K' hK' => ?_)
          refine wanted_none rfl ?_
          gi_wp2
          refine wpAnyIn_all (rs := [2]) (by kernel_rfl) (by simp) ?_
          intro iIn hIn
          obtain rfl := List.mem_singleton.1 hIn
          clear hIn
          refine wpOpIn_step rfl (fun K' hK' => ?_)
          refine wanted_none rfl ?_
          gi_wp2
          refine wpAnyIn_done (by kernel_rfl) ?_ _
          gi_wp2
          exact HBAD.out w4 _ B4.out HNO.out
        · obtain rfl := List.mem_singleton.1 hIn
          clear hIn
          refine wpOpIn_step rfl (fun K' hK' => ?_)
          refine wanted_none rfl ?_
          gi_wp2
          refine wpAnyIn_all (rs := [0]) (by kernel_rfl) (by simp) ?_
          intro iIn hIn
          obtain rfl := List.mem_singleton.1 hIn
          clear hIn
          refine wpOpIn_step rfl (fun K' hK' => ?_)
          refine wanted_none rfl ?_
          gi_wp2
          refine wpAnyIn_all (rs := [2]) (by kernel_rfl) (by simp) ?_
          intro iIn hIn
          obtain rfl := List.mem_singleton.1 hIn
          clear hIn
          refine wpOpIn_step rfl (fun K' hK' => ?_)
          refine wanted_none rfl ?_
          gi_wp2
          refine wpAnyIn_done (by kernel_rfl) ?_ _
          gi_wp2
          exact HBAD.out w4 _ B4.out HNO.out
      · have B1 := Lib.hid hb1
        obtain ⟨w4, hw4⟩ : ∃ u, u = w1.alloc (.cells #[.int .u8 y.c, .int .i8 y.n, .int .i8 y.m, .int .i16 y.g] 118) := ⟨_, rfl⟩
        have HW4 := Lib.hid hw4
        have B4 : Hid (Below W.heap.size W w4) := Lib.hid (by rw [hw4]; exact B1.out.alloc B1.out.size _)
        have hrow4 : w4.heap[w1.heap.size]? = some (.cells #[.int .u8 y.c, .int .i8 y.n, .int .i8 y.m, .int .i16 y.g] 118 (0, 0)) := by rw [hw4]; exact World.alloc_heap_new w1 _
        have p0 : w4.cell? ⟨w1.heap.size, 0, none⟩ = some (.int .u8 y.c) := cell_of_row _ _ _ _ _ _ hrow4
        have p1 : w4.cell? ⟨w1.heap.size, 1, none⟩ = some (.int .i8 y.n) := cell_of_row _ _ _ _ _ _ hrow4
        have p2 : w4.cell? ⟨w1.heap.size, 2, none⟩ = some (.int .i8 y.m) := cell_of_row _ _ _ _ _ _ hrow4
        have p3 : w4.cell? ⟨w1.heap.size, 3, none⟩ = some (.int .i16 y.g) := cell_of_row _ _ _ _ _ _ hrow4
        have hrx := HRB.out.below B4.out
        obtain ⟨v, hv, hrow⟩ := hrx.l
        obtain ⟨Av, cv, rfl, _⟩ := owns_slice hrow
        have hvc := hv.cell
        clear hb1 hw4 HPC hrow4
        by_cases hfull : D.length = 8
        · have hdec : ((D.length : Int) == 8) = true := by rw [hfull]; rfl
          have HNO : Hid (readL readG (parts (pre ++ [x])) = none ∨ 8 < (pre ++ [x]).length) := Lib.hid (.inr (by
            have h1 := readL_len HD.out
            rw [parts_len] at h1
            rw [List.length_append, List.length_singleton]
            omega))
          have f1 := hrx.r.frozen
          have f2 := hrx.e.frozen
          have q1 := hrx.r.cell
          have q2 := hrx.e.cell
          have hce : w4.cell? ⟨0, 0, none⟩ = some (.iface 284 (.pointer (some (e 4)))) := (HE.out _ (n1 B4.out)).c4
          clear hrx hv hrow
          gi_wp2_with (rw [← HW4.out])
          refine wpIn_region_any hmx ?_
          refine wpAnyIn_all (rs := [0, 1]) (by kernel_rfl) (by simp) ?_
          intro iIn hIn
          rcases List.mem_cons.1 hIn with rfl | hIn
          · skip
            refine wpOpIn_step rfl (fun K' hK' => ?_)
            refine wanted_none rfl ?_
            gi_wp2
            refine wpAnyIn_all (rs := [1]) (by kernel_rfl) (by simp) ?_
            intro iIn hIn
            obtain rfl := List.mem_singleton.1 hIn
            clear hIn
            refine wpOpIn_step rfl (fun K' hK' => ?_)
            refine wanted_none rfl ?_
            gi_wp2
            refine wpAnyIn_all (rs := [2]) (by kernel_rfl) (by simp) ?_
            intro iIn hIn
            obtain rfl := List.mem_singleton.1 hIn
            clear hIn
            refine wpOpIn_step rfl (fun K' hK' => ?_)
            refine wanted_none rfl ?_
            gi_wp2
            refine wpAnyIn_done (by kernel_rfl) ?_ _
            gi_wp2
            exact HBAD.out w4 _ B4.out HNO.out
          · obtain rfl := List.mem_singleton.1 hIn
            clear hIn
            refine wpOpIn_step rfl (fun K' hK' => ?_)
            refine wanted_none rfl ?_
            gi_wp2
            refine wpAnyIn_all (rs := [0]) (by kernel_rfl) (by simp) ?_
            intro iIn hIn
            obtain rfl := List.mem_singleton.1 hIn
            clear hIn
            refine wpOpIn_step rfl (fun K' hK' => ?_)
            refine wanted_none rfl ?_
            gi_wp2
            refine wpAnyIn_all (rs := [2]) (by kernel_rfl) (by simp) ?_
            intro iIn hIn
            obtain rfl := List.mem_singleton.1 hIn
            clear hIn
            refine wpOpIn_step rfl (fun K' hK' => ?_)
            refine wanted_none rfl ?_
            gi_wp2
            refine wpAnyIn_done (by kernel_rfl) ?_ _
            gi_wp2
            exact HBAD.out w4 _ B4.out HNO.out
        · have hdec : ((D.length : Int) == 8) = false := by simp; omega
          have HX := Lib.hid hrx
          have HV := Lib.hid hv
          have HROW := Lib.hid hrow
          have hvf := hv.frozen
          clear hrx hv hrow
          gi_wp2_with (first | (rw [← HW4.out]) | (gi_at_builtin; refine wpListIn_append_own _ rfl (.tmp 24) (.tmp 26) 49 rfl (w.heap.size + 4) 118 i0 (.agg #[.int .u8 0, .int .i8 0, .int .i8 0, .int .i16 0]) 4 6 Tryd.underlying49 hi hz0 hz1 hz2 rfl (by decide) _ _ _ rfl (HROW.out.alloc _) ⟨w4.heap.size, 0, none⟩ 1 1 [.int .u8 y.c, .int .i8 y.n, .int .i8 y.m, .int .i16 y.g] rfl rfl (four_newR _ _ _ _ _ _) (four_cellR rfl rfl rfl rfl) (by unfold maxLen; omega) (by omega) (by have := HX.out.n; simp; omega) ?_; intro v' w5 hown' hgr _; obtain ⟨g', cap', rfl⟩ := ownsRow_succ hown'; obtain ⟨hb5, hrb5, hk5, hl5, hj5⟩ := HX.out.append HV.out HROW.out hown' hgr; have hc5 := hb5.cell; have hf5 := hb5.frozen; have RB5 := Lib.hid hrb5; have KF5 := Lib.hid hk5; have BL5 := Lib.hid hl5; have KB5 := Lib.hid hj5; clear hown' hgr hb5 hrb5 hk5 hl5 hj5))
          refine post_nextG ((keeps_below _ B4.out).trans (KF5.out.from _)) ((KeepB.below B4.out hsz).trans KB5.out) (D := D ++ [y]) (by rw [parts_snoc, readL_snoc, HD.out, HRP.out]) (by rw [List.length_append, List.length_singleton]; omega) ?_ ((n1 B4.out).trans BL5.out)
          rw [List.flatMap_append, List.length_append]
          exact RB5.out
    case done =>
      rintro Dd ys W hDd hys ⟨⟨D, ⟨hD, hDl⟩, hrb⟩, hbw⟩ hK
      obtain ⟨h1, h2, ⟨v, h3, h4⟩, ⟨t, h5⟩, h6⟩ := hrb
      have hfin : R = some D := by rw [← HR.out, HS.out, ← hys, hD]; simp only; rw [if_pos hDl]
      obtain ⟨Av, cv, rfl, _⟩ := owns_slice h4
      have c3 := h3.cell
      have f1 := h1.frozen
      have f2 := h2.frozen
      have q1 := h1.cell
      have q2 := h2.cell
      gi_wp2
      have hg1 := grownBy_setCell' W w.heap.size (.slice Av D.length cv)
      have hg2 := grownBy_setCell' (W.setCell ⟨w.heap.size, 0, none⟩ (.slice Av D.length cv)) (w.heap.size + 1) .nilIface
      have r1 := (h1.set (.slice Av D.length cv)).kept hg2 (by simp <;> omega)
      have r2 := (h2.kept hg1 (by simp <;> omega)).set .nilIface
      have r4 := (h4.kept hg1 (.inr fun e => by have := owns_ge h4 _ e; omega)).kept hg2 (.inr fun e => by have := owns_ge h4 _ e; omega)
      have kv := ((KeepsOthers.setCell W ⟨w.heap.size, 0, none⟩ (.slice Av D.length cv)).trans (KeepsOthers.setCell _ ⟨w.heap.size + 1, 0, none⟩ .nilIface)).same Dd _ hK rfl
      refine ⟨by simp, .inl ⟨_, _, rfl, run_takeDeferred kv, ?_⟩⟩
      have c1 := boxed_not r1 (grownBy_putObj' _ Dd (.deferred none)) (fun r e => by cases e; exact ⟨_, kv, rfl⟩)
      have c2 := boxed_not r2 (grownBy_putObj' _ Dd (.deferred none)) (fun r e => by cases e; exact ⟨_, kv, rfl⟩)
      refine ⟨.tuple #[.slice Av D.length cv, .nilIface], ?_, .inr ⟨D, _, hfin, rfl, owns_low (ownsRow_putObj r4 (.deferred none) kv rfl) (by omega)⟩, ((hbw.setCell (p := ⟨w.heap.size, 0, none⟩) (Nat.le_refl _) _).setCell (p := ⟨w.heap.size + 1, 0, none⟩) (Nat.le_succ _) _).trans (belowK_b (w := w) (Nat.le_refl _) _ Dd _ _ (by omega) kv rfl rfl)⟩
      simp [results, Tryd.f89, go_sem, c1.cell, c2.cell]
    case stop =>
      rintro Dd cc pre W hDd hpre ⟨rfl, ⟨hwhy, hc1, hc2⟩, hbw⟩ hK
      have hno : R = none := by
        rw [← HR.out, HS.out]
        rcases hwhy with hw | hw
        · rw [readL_prefix hw hpre]
        · cases hrl : readL readG (linesB s.data.toList) with
          | none => rfl
          | some E =>
            have h1 := readL_len hrl
            have h2 := hpre.length_le
            rw [parts_len] at h2
            simp only
            rw [if_neg (by omega)]
      clear hwhy
      gi_wp2
      refine ⟨by simp, .inl ⟨_, _, rfl, run_takeDeferred hK, ?_⟩⟩
      have c1 := boxed_not hc1 (grownBy_putObj' _ Dd (.deferred none)) (fun r e => by cases e; exact ⟨_, hK, rfl⟩)
      have c2 := boxed_not hc2 (grownBy_putObj' _ Dd (.deferred none)) (fun r e => by cases e; exact ⟨_, hK, rfl⟩)
      refine ⟨.tuple #[.slice none 0 0, errV (e 4)], ?_, .inl ⟨hno, rfl⟩, hbw.trans (belowK_b (w := w) (Nat.le_refl _) W Dd _ _ (by omega) hK rfl rfl)⟩
      simp [results, Tryd.f89, go_sem, c1.cell, c2.cell]
end Go.Proofs.YtjfimmfnhlimkaaDoor.rd

/-
  Garments read from a text: ReadGarments of the program.
-/
namespace Go.Proofs.YtjfimmfnhlimkaaDoor.rd
open Go Go.RowKit sl dec txt errs gart garS

theorem errs_mG {w : World} {B : Nat} {e : Nat → Addr} (h : Errs w B e) : EM w B e := ⟨h.c0, h.c2, h.size.1, h.size.2.2.1⟩
theorem bytes_neG {a b : ByteArray} (h : ¬ a = b) : (a.toList == b.toList) = false := by
  rw [Lib.toList_data, Lib.toList_data, beq_eq_false_iff_ne]
  intro e
  apply h
  rw [← bsJ_of a, ← bsJ_of b, e]
/-- what is read, and its code -/
def rdG (t : List UInt8) : List Gar × Nat := match progG t with | some D => (D, 0) | none => ([], 5)
theorem kindG_fits {t : List UInt8} {D : List Gar} (h : kindG t = some D) : (∀ x ∈ D, x.Fits) ∧ D.length ≤ 8 := by
  rw [kindG] at h
  cases hr : readL readG (linesB t) with
  | none => rw [hr] at h; cases h
  | some E =>
    rw [hr] at h
    simp only at h
    by_cases hl : E.length ≤ 8
    · rw [if_pos hl] at h
      obtain rfl := Option.some.inj h
      exact ⟨readL_all (fun p x hp => readG_fits hp) hr, hl⟩
    · rw [if_neg hl] at h; cases h
theorem progG_kind (s : ByteArray) : progG s.data.toList = match kindG s.data.toList with | some D => if garText D = s then some D else none | none => none := by
  rw [progG, kindG]
  cases hr : readL readG (linesB s.data.toList) with
  | none => rfl
  | some E =>
    simp only
    by_cases hl : E.length ≤ 8
    · rw [if_pos hl]
      simp only
      rw [bsJ_of]
      by_cases hc : garText E = s
      · rw [if_pos hc, if_pos ⟨hl, hc⟩]
      · rw [if_neg hc, if_neg fun h => hc h.2]
    · rw [if_neg hl, if_neg fun h => hl h.1]
theorem Gar.len4 (gs : List Gar) : ∀ x ∈ gs, (Gar.cells x).length = 4 := fun _ _ => rfl
theorem gs_of_ownsR {w : World} {base : Nat} {e : TypeId} {A : Option Addr} {n c : Nat} {gs : List Gar} (h : w.ownsRow base e 4 (.slice A n c) n (gs.flatMap Gar.cells)) (hf : ∀ x ∈ gs, x.Fits) : GS w w.heap.size A gs := by
  have hlen : gs.length * 4 = n * 4 := by rw [← flat_len (Gar.len4 gs)]; exact h.1
  have hn : gs.length = n := by omega
  rcases h.2 with ⟨hv, rfl⟩ | ⟨g, cap, cur, hv, hg, hh, hrest⟩
  · have : gs = [] := List.length_eq_zero_iff.1 hn
    subst this
    exact ⟨fun k x hx => by simp at hx, hf⟩
  · simp only [Value.slice.injEq, true_and] at hv
    obtain ⟨rfl, rfl⟩ := hv
    refine ⟨fun k x hx => ?_, hf⟩
    have hc : ∀ j v, (Gar.cells x)[j]? = some v → w.cell? ⟨g, k * 4 + j, none⟩ = some v := fun j v hv => by
      have := h.cells (g := g) rfl (k * 4 + j) v (flat_get (Gar.len4 gs) hx hv)
      rwa [add_lit] at this
    refine ⟨_, rfl, (Array.getElem?_eq_some_iff.1 hh).1, ?_⟩
    rw [add_lit]
    exact ⟨hc 0 _ rfl, hc 1 _ rfl, hc 2 _ rfl, hc 3 _ rfl⟩
set_option maxRecDepth 100000 in
set_option maxHeartbeats 4000000 in
theorem ReadGarments_any (s : ByteArray) (hs : s.size ≤ 1048576) (L : List Gar) (k : Nat) (hr : rdG s.data.toList = (L, k)) {w : World} {B : Nat} {e : Nat → Addr} (h : Errs w B e) (hn : NE w B) (hB : B ≤ w.heap.size) (ht : TabJ w) :
    Calls Tryd.prog 35 #[.string s] w fun o w' => ∃ v, o = .returned (.tuple #[v, .int .i64 k]) ∧ w'.ownsRow w.heap.size 118 4 v L.length (L.flatMap Gar.cells) ∧ Below w.heap.size w w' := by
  obtain ⟨R, hR⟩ : ∃ R, kindG s.data.toList = R := ⟨_, rfl⟩
  have HRC := Lib.hid (readLines_any s hs h hn hB R hR)
  have HE := Lib.hid (fun (u : World) (hu : Below w.heap.size w u) => h.below (hu.mono hB))
  have HTB := Lib.hid ht
  have hp := progG_kind s
  rw [hR] at hp
  rw [rdG, hp] at hr
  have HK := Lib.hid hR
  have HR2 := Lib.hid hr
  clear hR hr hp h hn ht
  go_enter Tryd.func35, Tryd.ntmps35
  go_wp2_with fail
  refine HRC.out.mono ?_
  rintro o w1 ⟨⟨rfl, rfl⟩ | ⟨D, v, rfl, rfl, hown⟩, hb⟩
  · have hr := HR2.out
    try simp only at hr
    obtain ⟨rfl, rfl⟩ := Prod.mk.inj hr
    have HB1 := Lib.hid hb
    clear hb hr HR2 HRC
    go_wp2_with fail
    refine (codeOf_any (HE.out _ HB1.out) 5 (by decide)).mono ?_
    rintro o u ⟨rfl, rfl⟩
    go_wp2_with fail
    go_ret2
    exact ⟨_, rfl, World.ownsRow_nil _ _ _ _, HB1.out⟩
  · obtain ⟨hf, hlen⟩ := kindG_fits HK.out
    obtain ⟨A, c, rfl, _⟩ := owns_slice hown
    have HB1 := Lib.hid hb
    have HOW := Lib.hid hown
    have HF := Lib.hid hf
    clear hb hown hf HRC HK
    go_wp2_with fail
    refine (GarmentsText_any A D.length c D rfl (by omega) (errs_mG (HE.out _ HB1.out)) (Nat.le_trans hB HB1.out.size) (fun w' hw' => HTB.out w' (HB1.out.trans (hw'.mono HB1.out.size))) (gs_of_ownsR HOW.out HF.out)).mono ?_
    rintro o w2 ⟨rfl, hb2⟩
    have HB2 := Lib.hid (below_next HB1.out hb2 (Nat.le_refl _))
    have HOW2 := Lib.hid (owns_next HOW.out hb2)
    clear hb2 HB1 HOW
    have hr := HR2.out
    try simp only at hr
    clear HR2
    obtain ⟨T, hT⟩ : ∃ T, garText D = T := ⟨_, rfl⟩
    rw [hT] at hr ⊢
    by_cases hc : T = s
    · rw [if_pos hc] at hr
      try simp only at hr
      obtain ⟨rfl, rfl⟩ := Prod.mk.inj hr
      have hbe : (T.toList == s.toList) = true := by rw [hc]; simp
      clear hr hT hc
      go_wp2_with fail
      go_ret2
      exact ⟨_, rfl, HOW2.out, HB2.out⟩
    · rw [if_neg hc] at hr
      try simp only at hr
      obtain ⟨rfl, rfl⟩ := Prod.mk.inj hr
      have hbe : (T.toList == s.toList) = false := bytes_neG hc
      have hce : w2.cell? ⟨0, 0, none⟩ = some (errV (e 4)) := (HE.out _ HB2.out).c4
      clear hr hT hc
      go_wp2_with fail
      refine (codeOf_any (HE.out _ HB2.out) 5 (by decide)).mono ?_
      rintro o u ⟨rfl, rfl⟩
      go_wp2_with fail
      go_ret2
      exact ⟨_, rfl, World.ownsRow_nil _ _ _ _, HB2.out⟩
end Go.Proofs.YtjfimmfnhlimkaaDoor.rd

/-
  Garments read from a text: the model's.
-/
namespace Go.Proofs.YtjfimmfnhlimkaaDoor.rd
open Go Go.RowKit sl dec txt errs gart garS fold rng garm

theorem build_garR (a b c d : Int) (u : World) : (Instr.buildSlice 49 1 #[(0, .agg #[.int .u8 a, .int .i8 b, .int .i8 c, .int .i16 d])]).run Tryd.prog u = .ok (.slice (some ⟨u.heap.size, 0, none⟩) 1 1) (u.alloc (.cells #[.int .u8 a, .int .i8 b, .int .i8 c, .int .i16 d] 118)) := by kernel_rfl
/-- four numbers of a row -/
def N4 (g : Nat) (a b c d : Int) (u : World) : Prop := u.cell? ⟨g, 0, none⟩ = some (.int .i64 a) ∧ u.cell? ⟨g, 1, none⟩ = some (.int .i64 b) ∧ u.cell? ⟨g, 2, none⟩ = some (.int .i64 c) ∧ u.cell? ⟨g, 3, none⟩ = some (.int .i64 d) ∧ True
theorem N4.next {g : Nat} {a b c d : Int} {u u' : World} (h : N4 g a b c d u) (hb : u'.heap[g]? = u.heap[g]?) : N4 g a b c d u' :=
  ⟨(World.cell?_of_block hb).trans h.1, (World.cell?_of_block hb).trans h.2.1, (World.cell?_of_block hb).trans h.2.2.1, (World.cell?_of_block hb).trans h.2.2.2.1, True.intro⟩
theorem numG_cases (p : List UInt8) : (numsF [47, 45, 32] p = none ∧ numG p = none) ∨ ∃ a b c d : Nat, numsF [47, 45, 32] p = some [a, b, c, d] ∧ numG p = if a ≤ 6 ∧ b ≤ 95 ∧ c ≤ 95 ∧ d ≤ 2000 then (if Gar.valid ⟨(a : Int), (b : Int), (c : Int), (d : Int)⟩ = true then some ⟨(a : Int), (b : Int), (c : Int), (d : Int)⟩ else none) else none := by
  cases hn : numsF [47, 45, 32] p with
  | none => exact .inl ⟨rfl, by rw [numG, hn]⟩
  | some ys =>
    obtain ⟨h1, h2, h3⟩ := (numsF_iff marksG).1 hn
    match ys, h1 with
    | [a, b, c, d], _ => exact .inr ⟨a, b, c, d, rfl, by rw [numG, hn]⟩
theorem rdG_le {t : List UInt8} {ys : List Gar} {k : Nat} (h : rdG t = (ys, k)) : ys.length ≤ 8 ∧ ∀ x ∈ ys, x.Fits := by
  rw [rdG] at h
  cases hp : progG t with
  | none =>
    rw [hp] at h
    obtain ⟨rfl, _⟩ := Prod.mk.inj h
    simp
  | some D =>
    rw [hp] at h
    obtain ⟨rfl, _⟩ := Prod.mk.inj h
    rw [progG] at hp
    cases hr : readL readG (linesB t) with
    | none => rw [hr] at hp; cases hp
    | some E =>
      rw [hr] at hp
      simp only at hp
      by_cases hc : E.length ≤ 8 ∧ garText E = bsJ t
      · rw [if_pos hc] at hp
        obtain rfl := Option.some.inj hp
        exact ⟨hc.1, readL_all (fun p x hp => readG_fits hp) hr⟩
      · rw [if_neg hc] at hp; cases hp
theorem nonempty_ofG {s : ByteArray} (h : s.data.toList ≠ []) : s.toList.isEmpty = false := by
  rw [Lib.toList_data]
  cases hq : s.data.toList with
  | nil => exact absurd hq h
  | cons a r => rfl
set_option maxRecDepth 100000 in
set_option maxHeartbeats 8000000 in
theorem ReadGarments_spec (s : ByteArray) (hs : s.size ≤ 1048576) (L : List Gar) (k : Nat) (hr : rdG s.data.toList = (L, k)) (w : World) :
    Calls Tryd.prog 34 #[.string s] w fun o w' => ∃ v, o = .returned (.tuple #[v, .int .i64 k]) ∧ w'.ownsRow w.heap.size 118 4 v L.length (L.flatMap Gar.cells) ∧ Below w.heap.size w w' := by
  obtain ⟨i0, hI, hz0, hz1, hz2⟩ := info_parts infoG
  rw [rdG, progG_eq, specG] at hr
  have HN0 : Hid ((w.alloc (.cells #[] 118)).ownsRow w.heap.size 118 4 (.slice (some ⟨w.heap.size, 0, none⟩) 0 0) 0 []) := Lib.hid (World.ownsRow_made w #[] 0 (Nat.le_refl _) (Nat.zero_le _) rfl)
  have HB0 : Hid (Below w.heap.size w (w.alloc (.cells #[] 118))) := Lib.hid ((Below.refl _ _).alloc (Nat.le_refl _) _)
  · obtain ⟨ls, hls⟩ : ∃ ls, splitB 10 s.data.toList = ls := ⟨_, rfl⟩
    have hlne : ls ≠ [] := hls ▸ splitB_ne 10 _
    rw [hls] at hr
    have hsp : ∀ u : World, Calls Tryd.prog 68 #[.string s, .int .u8 10] u fun o w' => ∃ v, o = .returned v ∧ w'.ownsRow u.heap.size 9 1 v ls.length (ls.flatMap sJ) ∧ Below u.heap.size u w' := fun u => by
      have h := l01Split_any s hs 10 u
      rw [hls] at h
      exact h
    have HSP := Lib.hid hsp
    have HLL : Hid (ls.length ≤ 1048577) := Lib.hid (by
      have h := splitB_len 10 s.data.toList
      rw [hls, len_list] at h
      omega)
    have HPL : Hid (∀ p ∈ ls, p.length ≤ 1048576) := Lib.hid (fun p hp => by
      rw [← hls] at hp
      have h := piece_len 10 hp
      rw [len_list] at h
      omega)
    clear hsp hls
    obtain ⟨ini, lst, rfl⟩ : ∃ ini lst, ls = ini ++ [lst] := ⟨ls.dropLast, ls.getLast hlne, (List.dropLast_concat_getLast hlne).symm⟩
    rw [List.getLast?_concat, List.dropLast_concat] at hr
    obtain ⟨n, hn⟩ : ∃ n, ini.length = n := ⟨_, rfl⟩
    have hn1 : (ini ++ [lst]).length = n + 1 := by rw [List.length_append, hn]; rfl
    rw [hn1] at hr
    have HN := Lib.hid hn
    have HLN : Hid (n ≤ 1048577) := Lib.hid (by have := HLL.out; rw [hn1] at this; omega)
    have hgm : (ini ++ [lst])[n]? = some lst := by rw [← hn]; simp
    by_cases hok : lst = [] ∧ n ≤ 8
    · obtain ⟨rfl, h8⟩ := hok
      rw [if_pos ⟨rfl, by omega⟩] at hr
      have HR := Lib.hid hr
      have d8 : decide ((n : Int) > 8) = false := decide_eq_false (by omega)
      clear hr hlne
      go_enter Tryd.func34, Tryd.ntmps34
      go_wp2_with fail
      refine (HSP.out _).mono ?_
      rintro o w1 ⟨wv, rfl, hP, hb1⟩
      rw [hn1] at hP
      obtain ⟨gw, capw, rfl⟩ := ownsRow_succ hP
      obtain ⟨_, e9, _, hcl⟩ := owns_str hP hgm
      obtain rfl : gw = _ := by injection e9 with e9; injection e9
      have hcl2 : w1.cell? ⟨gw, n, none⟩ = some (.string ⟨#[]⟩) := hcl
      have hsub : wrap64 (n : Int) = (n : Int) := by have := HLN.out; unfold wrap64; omega
      have HW1 := Lib.hid (owns_low hP (b0 := w.heap.size) (by simp))
      have HO1 := Lib.hid (owns_next HN0.out hb1)
      have HB1 := Lib.hid (below_next HB0.out hb1 (by simp))
      clear hn hn1 hP hb1 HN0 HB0 hcl e9 hgm
      go_wp2_with fail
      go_loopw [4, 7, 8, 9, 10] (fun vo vi vn vk vp wr => ∃ (i : Nat) (D : List Gar), i ≤ n ∧ vi = .int .i64 (i : Nat) ∧ readL numG (ini.take i) = some D ∧ wr.ownsRow w.heap.size 118 4 vo D.length (D.flatMap Gar.cells) ∧ wr.ownsRow w.heap.size 9 1 (.slice (some ⟨gw, 0, none⟩) (n + 1) capw) (n + 1) ((ini ++ [[]]).flatMap sJ) ∧ Below w.heap.size w wr) (fun _ vi _ _ _ _ => n - (intOf vi).toNat)
      case atStart => exact ⟨0, [], by omega, rfl, rfl, HO1.out, HW1.out, HB1.out⟩
      case round =>
        clear HW1 HO1 HB1 hcl2
        obtain ⟨i, D, hi, rfl, hD, hO, hW, hB⟩ := hrel
        obtain ⟨Ao, co, rfl, _⟩ := owns_slice hO
        have HD := Lib.hid hD
        have HO := Lib.hid hO
        have HW := Lib.hid hW
        have HB := Lib.hid hB
        have hDl : D.length = i := by
          have h := readL_len hD
          rw [List.length_take] at h
          have := HN.out
          omega
        have HDL := Lib.hid hDl
        clear hD hO hW hB hDl
        by_cases hlt : i < n
        · obtain ⟨p, hp⟩ : ∃ p, ini[i]? = some p := ⟨ini[i]'(by have := HN.out; omega), List.getElem?_eq_getElem _⟩
          have hp2 : (ini ++ [[]])[i]? = some p := by rw [List.getElem?_append_left (by have := HN.out; omega)]; exact hp
          obtain ⟨_, e9, hgw, hcw⟩ := owns_str HW.out hp2
          obtain rfl : gw = _ := by injection e9 with e9; injection e9
          have hplen := HPL.out p (List.mem_of_getElem? hp2)
          have hpd : (bsJ p).data.toList = p := by simp
          have HNU := Lib.hid (l01Numbers_any (bsJ p) ⟨#[47, 45, 32]⟩ (by rw [bsJ_size]; exact hplen) (by decide) wr)
          have hmk : (⟨#[47, 45, 32]⟩ : ByteArray).data.toList = [47, 45, 32] := rfl
          rw [hpd, hmk] at HNU
          have htk : ini.take (i + 1) = ini.take i ++ [p] := by rw [List.take_add_one, hp]; rfl
          have HTK := Lib.hid htk
          have hnone : numG p = none → L = [] ∧ k = 5 := fun hn2 => by
            have h1 : readL numG ini = none := readL_prefix (pre := ini.take (i + 1)) (by rw [htk, readL_snoc, HD.out, hn2]) (List.take_prefix _ _)
            have h2 := HR.out
            rw [h1] at h2
            obtain ⟨rfl, rfl⟩ := Prod.mk.inj h2
            exact ⟨rfl, rfl⟩
          have HNONE := Lib.hid hnone
          have hi1 : (i : Int) < (n : Int) + 1 := by omega
          clear hp hp2 hpd hmk htk hplen hnone e9
          go_wp2_with fail
          refine HNU.out.mono ?_
          rintro o w2 ⟨nv, ys, rfl, hys, hPn, hb2⟩
          have HB2 := Lib.hid (below_next HB.out hb2 (Nat.le_refl _))
          have HO2 := Lib.hid (owns_next HO.out hb2)
          have HW2 := Lib.hid (owns_next HW.out hb2)
          have HBSZ := Lib.hid HB.out.size
          clear HNU hb2 HB HO HW
          rcases numG_cases p with ⟨hn1, hn2⟩ | ⟨a, b, c, d, hn1, hn2⟩
          · rw [hn1]
            obtain ⟨rfl, rfl⟩ := HNONE.out hn2
            clear hn1 hn2 hys hPn HR HNONE
            go_wp2_with fail
            go_ret2
            exact ⟨_, rfl, owns_below (World.ownsRow_made (e := 118) (size := 4) _ #[] 0 (Nat.le_refl _) (Nat.zero_le _) rfl) HB2.out.size, HB2.out.alloc HB2.out.size _⟩
          · rw [hn1]
            obtain rfl := hys _ hn1
            obtain ⟨g, cap, rfl⟩ := ownsRow_succ (k := 3) hPn
            obtain ⟨_, e0, hgn, q0⟩ := owns_int (i := 0) hPn rfl
            obtain rfl : g = _ := by injection e0 with e0; injection e0
            obtain ⟨_, e1, _, q1⟩ := owns_int (i := 1) hPn rfl
            obtain rfl : g = _ := by injection e1 with e1; injection e1
            obtain ⟨_, e2, _, q2⟩ := owns_int (i := 2) hPn rfl
            obtain rfl : g = _ := by injection e2 with e2; injection e2
            obtain ⟨_, e3, _, q3⟩ := owns_int (i := 3) hPn rfl
            obtain rfl : g = _ := by injection e3 with e3; injection e3
            clear e0 e1 e2 e3 hys hPn
            by_cases hok : a ≤ 6 ∧ b ≤ 95 ∧ c ≤ 95 ∧ d ≤ 2000
            · rw [if_pos hok] at hn2
              have d1 : decide ((a : Int) > 6) = false := decide_eq_false (by omega)
              have d2 : decide ((b : Int) > 95) = false := decide_eq_false (by omega)
              have d3 : decide ((c : Int) > 95) = false := decide_eq_false (by omega)
              have d4 : decide ((d : Int) > 2000) = false := decide_eq_false (by omega)
              have hwa : IntKind.wrap .u8 (a : Int) = (a : Int) := wrap_u8R (by omega) (by omega)
              have hwb : IntKind.wrap .i8 (b : Int) = (b : Int) := wrap_i8R (by omega) (by omega)
              have hwc : IntKind.wrap .i8 (c : Int) = (c : Int) := wrap_i8R (by omega) (by omega)
              have hwd : IntKind.wrap .i16 (d : Int) = (d : Int) := wrap_i16R (by omega) (by omega)
              have HFT : Hid ((⟨(a : Int), (b : Int), (c : Int), (d : Int)⟩ : Gar).Fits) := Lib.hid (by constructor <;> simp only <;> omega)
              have HNB := Lib.hid (show N4 g (a : Int) (b : Int) (c : Int) (d : Int) w2 from ⟨q0, q1, q2, q3, True.intro⟩)
              have HG8 : Hid (g < w2.heap.size ∧ w.heap.size ≤ g) := Lib.hid ⟨block_lt_of_cell q0, Nat.le_trans HBSZ.out hgn⟩
              have HN2 := Lib.hid hn2
              clear hn1 hn2 hok hi1
              go_wp2_with fail
              refine wp_region_held_drew (S := N4 g (a : Int) (b : Int) (c : Int) (d : Int)) (by kernel_rfl) HNB.out (fun hHeld => ?_)
              have HO8 := Lib.hid (owns_next HO2.out (Below.refl _ _).drew)
              have HW8 := Lib.hid (owns_next HW2.out (Below.refl _ _).drew)
              have HB8 := Lib.hid (HB2.out.drew)
              have hg8 : g < w2.drew.heap.size := HG8.out.1
              generalize w2.drew = w8 at hHeld HO8 HW8 HB8 hg8 ⊢
              clear HNB HO2 HW2 HB2 HG8 q0 q1 q2 q3
              refine wpAnyH_take (i := 0) (v := ?_) rfl (by kernel_rfl) (by kernel_rfl) (by kernel_rfl) (fun _ _ _ h => h) (Or.inl ⟨by rfl, ?_⟩) (by assumption) ?_
              rotate_left
              · intro u hSu
                (try dsimp only at hSu)
                first | (go_simp; done) | (go_simp; with_reducible rfl)
              try simp only [Act.put, List.getElem_toArray, List.getElem_cons_zero, List.getElem_cons_succ, List.setIfInBounds_toArray, List.set_cons_zero, List.set_cons_succ]
              refine wpAnyH_take (i := 1) (v := ?_) rfl (by kernel_rfl) (by kernel_rfl) (by kernel_rfl) (fun _ _ _ h => h) (Or.inl ⟨by rfl, ?_⟩) (by assumption) ?_
              rotate_left
              · intro u hSu
                (try dsimp only at hSu)
                first | (go_simp; done) | (go_simp; with_reducible rfl)
              try simp only [Act.put, List.getElem_toArray, List.getElem_cons_zero, List.getElem_cons_succ, List.setIfInBounds_toArray, List.set_cons_zero, List.set_cons_succ]
              refine wpAnyH_take (i := 2) (v := ?_) rfl (by kernel_rfl) (by kernel_rfl) (by kernel_rfl) (fun _ _ _ h => h) (Or.inl ⟨by rfl, ?_⟩) (by assumption) ?_
              rotate_left
              · intro u hSu
                obtain ⟨qa, qb, qc, qd, _⟩ := hSu
                first | (go_simp; done) | (go_simp; with_reducible rfl)
              try simp only [Act.put, List.getElem_toArray, List.getElem_cons_zero, List.getElem_cons_succ, List.setIfInBounds_toArray, List.set_cons_zero, List.set_cons_succ]
              refine wpAnyH_take (i := 3) (v := ?_) rfl (by kernel_rfl) (by kernel_rfl) (by kernel_rfl) (fun _ _ _ h => h) (Or.inl ⟨by rfl, ?_⟩) (by assumption) ?_
              rotate_left
              · intro u hSu
                (try dsimp only at hSu)
                first | (go_simp; done) | (go_simp; with_reducible rfl)
              try simp only [Act.put, List.getElem_toArray, List.getElem_cons_zero, List.getElem_cons_succ, List.setIfInBounds_toArray, List.set_cons_zero, List.set_cons_succ]
              refine wpAnyH_take (i := 4) (v := ?_) rfl (by kernel_rfl) (by kernel_rfl) (by kernel_rfl) (fun _ _ _ h => h) (Or.inl ⟨by rfl, ?_⟩) (by assumption) ?_
              rotate_left
              · intro u hSu
                (try dsimp only at hSu)
                first | (go_simp; done) | (go_simp; with_reducible rfl)
              try simp only [Act.put, List.getElem_toArray, List.getElem_cons_zero, List.getElem_cons_succ, List.setIfInBounds_toArray, List.set_cons_zero, List.set_cons_succ]
              refine wpAnyH_take (i := 5) (v := ?_) rfl (by kernel_rfl) (by kernel_rfl) (by kernel_rfl) (fun _ _ _ h => h) (Or.inl ⟨by rfl, ?_⟩) (by assumption) ?_
              rotate_left
              · intro u hSu
                (try dsimp only at hSu)
                first | (go_simp; done) | (go_simp; with_reducible rfl)
              try simp only [Act.put, List.getElem_toArray, List.getElem_cons_zero, List.getElem_cons_succ, List.setIfInBounds_toArray, List.set_cons_zero, List.set_cons_succ]
              refine wpAnyH_take (i := 6) (v := ?_) rfl (by kernel_rfl) (by kernel_rfl) (by kernel_rfl) (fun _ _ _ h => h) (Or.inl ⟨by rfl, ?_⟩) (by assumption) ?_
              rotate_left
              · intro u hSu
                obtain ⟨qa, qb, qc, qd, _⟩ := hSu
                first | (go_simp; done) | (go_simp; with_reducible rfl)
              try simp only [Act.put, List.getElem_toArray, List.getElem_cons_zero, List.getElem_cons_succ, List.setIfInBounds_toArray, List.set_cons_zero, List.set_cons_succ]
              refine wpAnyH_take (i := 7) (v := ?_) rfl (by kernel_rfl) (by kernel_rfl) (by kernel_rfl) (fun _ _ _ h => h) (Or.inl ⟨by rfl, ?_⟩) (by assumption) ?_
              rotate_left
              · intro u hSu
                (try dsimp only at hSu)
                first | (go_simp; done) | (go_simp; with_reducible rfl)
              try simp only [Act.put, List.getElem_toArray, List.getElem_cons_zero, List.getElem_cons_succ, List.setIfInBounds_toArray, List.set_cons_zero, List.set_cons_succ]
              refine wpAnyH_take (i := 8) (v := ?_) rfl (by kernel_rfl) (by kernel_rfl) (by kernel_rfl) (fun _ _ _ h => h) (Or.inl ⟨by rfl, ?_⟩) (by assumption) ?_
              rotate_left
              · intro u hSu
                (try dsimp only at hSu)
                first | (go_simp; done) | (go_simp; with_reducible rfl)
              try simp only [Act.put, List.getElem_toArray, List.getElem_cons_zero, List.getElem_cons_succ, List.setIfInBounds_toArray, List.set_cons_zero, List.set_cons_succ]
              refine wpAnyH_take (i := 9) (v := ?_) rfl (by kernel_rfl) (by kernel_rfl) (by kernel_rfl) (fun _ _ _ h => h) (Or.inl ⟨by rfl, ?_⟩) (by assumption) ?_
              rotate_left
              · intro u hSu
                (try dsimp only at hSu)
                first | (go_simp; done) | (go_simp; with_reducible rfl)
              try simp only [Act.put, List.getElem_toArray, List.getElem_cons_zero, List.getElem_cons_succ, List.setIfInBounds_toArray, List.set_cons_zero, List.set_cons_succ]
              refine wpAnyH_take (i := 10) (v := ?_) rfl (by kernel_rfl) (by kernel_rfl) (by kernel_rfl) (fun _ _ _ h => h) (Or.inl ⟨by rfl, ?_⟩) (by assumption) ?_
              rotate_left
              · intro u hSu
                obtain ⟨qa, qb, qc, qd, _⟩ := hSu
                first | (go_simp; done) | (go_simp; with_reducible rfl)
              try simp only [Act.put, List.getElem_toArray, List.getElem_cons_zero, List.getElem_cons_succ, List.setIfInBounds_toArray, List.set_cons_zero, List.set_cons_succ]
              refine wpAnyH_take (i := 11) (v := ?_) rfl (by kernel_rfl) (by kernel_rfl) (by kernel_rfl) (fun _ _ _ h => h) (Or.inl ⟨by rfl, ?_⟩) (by assumption) ?_
              rotate_left
              · intro u hSu
                (try dsimp only at hSu)
                first | (go_simp; done) | (go_simp; with_reducible rfl)
              try simp only [Act.put, List.getElem_toArray, List.getElem_cons_zero, List.getElem_cons_succ, List.setIfInBounds_toArray, List.set_cons_zero, List.set_cons_succ]
              refine wpAnyH_take (i := 12) (v := ?_) rfl (by kernel_rfl) (by kernel_rfl) (by kernel_rfl) (fun _ _ _ h => h) (Or.inl ⟨by rfl, ?_⟩) (by assumption) ?_
              rotate_left
              · intro u hSu
                (try dsimp only at hSu)
                first | (go_simp; done) | (go_simp; with_reducible rfl)
              try simp only [Act.put, List.getElem_toArray, List.getElem_cons_zero, List.getElem_cons_succ, List.setIfInBounds_toArray, List.set_cons_zero, List.set_cons_succ]
              refine wpAnyH_take (i := 13) (v := ?_) rfl (by kernel_rfl) (by kernel_rfl) (by kernel_rfl) (fun _ _ _ h => h) (Or.inl ⟨by rfl, ?_⟩) (by assumption) ?_
              rotate_left
              · intro u hSu
                (try dsimp only at hSu)
                first | (go_simp; done) | (go_simp; with_reducible rfl)
              try simp only [Act.put, List.getElem_toArray, List.getElem_cons_zero, List.getElem_cons_succ, List.setIfInBounds_toArray, List.set_cons_zero, List.set_cons_succ]
              refine wpAnyH_take (i := 14) (v := ?_) rfl (by kernel_rfl) (by kernel_rfl) (by kernel_rfl) (fun _ _ _ h => h) (Or.inl ⟨by rfl, ?_⟩) (by assumption) ?_
              rotate_left
              · intro u hSu
                obtain ⟨qa, qb, qc, qd, _⟩ := hSu
                first | (go_simp; done) | (go_simp; with_reducible rfl)
              try simp only [Act.put, List.getElem_toArray, List.getElem_cons_zero, List.getElem_cons_succ, List.setIfInBounds_toArray, List.set_cons_zero, List.set_cons_succ]
              refine wpAnyH_take (i := 15) (v := ?_) rfl (by kernel_rfl) (by kernel_rfl) (by kernel_rfl) (fun _ _ _ h => h) (Or.inl ⟨by rfl, ?_⟩) (by assumption) ?_
              rotate_left
              · intro u hSu
                (try dsimp only at hSu)
                first | (go_simp; done) | (go_simp; with_reducible rfl)
              try simp only [Act.put, List.getElem_toArray, List.getElem_cons_zero, List.getElem_cons_succ, List.setIfInBounds_toArray, List.set_cons_zero, List.set_cons_succ]
              refine wpAnyH_take (i := 16) (v := ?_) rfl (by kernel_rfl) (by kernel_rfl) (by kernel_rfl) (fun _ _ _ h => h) (Or.inl ⟨by rfl, ?_⟩) (by assumption) ?_
              rotate_left
              · intro u hSu
                (try dsimp only at hSu)
                first | (go_simp; done) | (go_simp; with_reducible rfl)
              try simp only [Act.put, List.getElem_toArray, List.getElem_cons_zero, List.getElem_cons_succ, List.setIfInBounds_toArray, List.set_cons_zero, List.set_cons_succ]
              have hA1 : (w8.alloc (.cells #[.int .u8 0, .int .i8 0, .int .i8 0, .int .i16 0] 118)).heap[g]? = w8.heap[g]? := Below.heap_alloc _ _ _ hg8
              have HN8 := Lib.hid hHeld
              refine wpAnyH_ready (rs := [17]) (by kernel_rfl) (by simp) ?_
              refine AllReadyH.cons rfl (fun K hK => ?_) AllReadyH.nil
              go_simp
              refine hK.out _ _ (HN8.out.next hA1) (fun hHeld2 => ?_)
              clear hK K hHeld
              have hHeld := hHeld2
              clear hHeld2
              try simp only [Act.put, List.getElem_toArray, List.getElem_cons_zero, List.getElem_cons_succ, List.setIfInBounds_toArray, List.set_cons_zero, List.set_cons_succ]
              refine wpAnyH_ready (rs := [18]) (by kernel_rfl) (by simp) ?_
              refine AllReadyH.cons rfl (fun K hK => ?_) AllReadyH.nil
              go_simp
              have hA2 : (w8.alloc (.cells #[.int .u8 (a : Int), .int .i8 (b : Int), .int .i8 (c : Int), .int .i16 (d : Int)] 118)).heap[g]? = w8.heap[g]? := Below.heap_alloc _ _ _ hg8
              refine hK.out _ _ (HN8.out.next hA2) (fun hHeld2 => ?_)
              clear hK K hHeld
              have hHeld := hHeld2
              clear hHeld2
              try simp only [Act.put, List.getElem_toArray, List.getElem_cons_zero, List.getElem_cons_succ, List.setIfInBounds_toArray, List.set_cons_zero, List.set_cons_succ]
              refine wpAnyH_done (by kernel_rfl) ?_ _
              have hB9 : Below w8.heap.size w8 (w8.alloc (.cells #[.int .u8 (a : Int), .int .i8 (b : Int), .int .i8 (c : Int), .int .i16 (d : Int)] 118)) := (Below.refl _ _).alloc (Nat.le_refl _) _
              have HO9 := Lib.hid (owns_next HO8.out hB9)
              have HW9 := Lib.hid (owns_next HW8.out hB9)
              have HB9 := Lib.hid (HB8.out.alloc HB8.out.size (.cells #[.int .u8 (a : Int), .int .i8 (b : Int), .int .i8 (c : Int), .int .i16 (d : Int)] 118))
              have hrow9 : (w8.alloc (.cells #[.int .u8 (a : Int), .int .i8 (b : Int), .int .i8 (c : Int), .int .i16 (d : Int)] 118)).heap[w8.heap.size]? = some (.cells #[.int .u8 (a : Int), .int .i8 (b : Int), .int .i8 (c : Int), .int .i16 (d : Int)] 118 (0, 0)) := World.alloc_heap_new w8 _
              generalize w8.alloc (.cells #[.int .u8 (a : Int), .int .i8 (b : Int), .int .i8 (c : Int), .int .i16 (d : Int)] 118) = w9 at HO9 HW9 HB9 hrow9 ⊢
              clear hHeld HN8 hA1 hA2 hB9 HO8 HW8 HB8 hg8
              have p0 : w9.cell? ⟨w8.heap.size, 0, none⟩ = some (.int .u8 (a : Int)) := cell_of_row _ _ _ _ _ _ hrow9
              have p1 : w9.cell? ⟨w8.heap.size, 1, none⟩ = some (.int .i8 (b : Int)) := cell_of_row _ _ _ _ _ _ hrow9
              have p2 : w9.cell? ⟨w8.heap.size, 2, none⟩ = some (.int .i8 (c : Int)) := cell_of_row _ _ _ _ _ _ hrow9
              have p3 : w9.cell? ⟨w8.heap.size, 3, none⟩ = some (.int .i16 (d : Int)) := cell_of_row _ _ _ _ _ _ hrow9
              clear hrow9
              go_wp2_with fail
              have hl9 := block_lt_of_cell p0
              have hgar := l01Garment_any ⟨(a : Int), (b : Int), (c : Int), (d : Int)⟩ HFT.out w9
              cases hv : Gar.valid ⟨(a : Int), (b : Int), (c : Int), (d : Int)⟩ with
              | true =>
                have HNX : Hid (readL numG (ini.take (i + 1)) = some (D ++ [⟨(a : Int), (b : Int), (c : Int), (d : Int)⟩])) := Lib.hid (by
                  have hn2 := HN2.out
                  rw [if_pos hv] at hn2
                  rw [HTK.out, readL_snoc, HD.out, hn2])
                rw [hv] at hgar
                refine hgar.mono ?_
                rintro o u ⟨rfl, hbu⟩
                replace p0 := (hbu.cell (p := ⟨w8.heap.size, 0, none⟩) hl9).trans p0
                replace p1 := (hbu.cell (p := ⟨w8.heap.size, 1, none⟩) hl9).trans p1
                replace p2 := (hbu.cell (p := ⟨w8.heap.size, 2, none⟩) hl9).trans p2
                replace p3 := (hbu.cell (p := ⟨w8.heap.size, 3, none⟩) hl9).trans p3
                replace HO9 := Lib.hid (owns_next HO9.out hbu)
                replace HW9 := Lib.hid (owns_next HW9.out hbu)
                replace HB9 := Lib.hid (below_next HB9.out hbu (Nat.le_refl _))
                have hn6 := HLN.out
                clear hbu hl9 hv hgar
                go_wp2_with (first | (at_builtin; refine wpList_append_own _ rfl (.tmp 88) (.tmp 90) 49 rfl w.heap.size 118 i0 (.agg #[.int .u8 0, .int .i8 0, .int .i8 0, .int .i16 0]) 4 6 Tryd.underlying49 hI hz0 hz1 hz2 rfl (by decide) _ _ _ rfl (HO9.out.alloc _) ⟨_, 0, none⟩ 1 1 [.int .u8 (a : Int), .int .i8 (b : Int), .int .i8 (c : Int), .int .i16 (d : Int)] rfl rfl (four_newR _ _ _ _ _ _) (four_cellR rfl rfl rfl rfl) (by have := HDL.out; unfold maxLen; omega) (by have := HDL.out; omega) (by have := HB9.out.size; simp; omega) ?_; intro v3 w5 hP5 hgr _; have HW5 := Lib.hid ((HW9.out.alloc _).kept hgr (.inr fun e => owns_apart HW9.out HO9.out (by decide) gw rfl e.symm)); have HB5 := Lib.hid (Below.grown (HB9.out.alloc HB9.out.size _) hgr (by have := HB9.out.size; simp; omega) (fun g hg => (HO9.out.lt g hg).1)); have HP5 := Lib.hid hP5; clear hP5 hgr) | fail)
                go_roundw
                case rel => exact ⟨i + 1, D ++ [⟨(a : Int), (b : Int), (c : Int), (d : Int)⟩], by omega, by first | rfl | go_num, HNX.out, by rw [List.flatMap_append, List.length_append]; exact HP5.out, HW5.out, HB5.out⟩
                case measure => simp [intOf]; omega
              | false =>
                obtain ⟨rfl, rfl⟩ := HNONE.out (by rw [HN2.out, if_neg (by rw [hv]; decide)])
                rw [hv] at hgar
                refine hgar.mono ?_
                rintro o u ⟨rfl, hbu⟩
                replace HB9 := Lib.hid (below_next HB9.out hbu (Nat.le_refl _))
                clear hbu hv HR HNONE hgar hl9
                go_wp2_with fail
                go_ret2
                exact ⟨_, rfl, owns_below (World.ownsRow_made (e := 118) (size := 4) _ #[] 0 (Nat.le_refl _) (Nat.zero_le _) rfl) HB9.out.size, HB9.out.alloc HB9.out.size _⟩
            · rw [if_neg hok] at hn2
              obtain ⟨rfl, rfl⟩ := HNONE.out hn2
              clear hn1 hn2 HR HNONE hi1
              by_cases ha : a ≤ 6
              · have d1 : decide ((a : Int) > 6) = false := decide_eq_false (by omega)
                by_cases hb : b ≤ 95
                · have d2 : decide ((b : Int) > 95) = false := decide_eq_false (by omega)
                  by_cases hc : c ≤ 95
                  · have d3 : decide ((c : Int) > 95) = false := decide_eq_false (by omega)
                    have d4 : decide ((d : Int) > 2000) = true := decide_eq_true (by omega)
                    clear hok ha hb hc
                    go_wp2_with fail
                    go_ret2
                    exact ⟨_, rfl, owns_below (World.ownsRow_made (e := 118) (size := 4) _ #[] 0 (Nat.le_refl _) (Nat.zero_le _) rfl) HB2.out.size, HB2.out.alloc HB2.out.size _⟩
                  · have d3 : decide ((c : Int) > 95) = true := decide_eq_true (by omega)
                    clear hok ha hb hc
                    go_wp2_with fail
                    go_ret2
                    exact ⟨_, rfl, owns_below (World.ownsRow_made (e := 118) (size := 4) _ #[] 0 (Nat.le_refl _) (Nat.zero_le _) rfl) HB2.out.size, HB2.out.alloc HB2.out.size _⟩
                · have d2 : decide ((b : Int) > 95) = true := decide_eq_true (by omega)
                  clear hok ha hb
                  go_wp2_with fail
                  go_ret2
                  exact ⟨_, rfl, owns_below (World.ownsRow_made (e := 118) (size := 4) _ #[] 0 (Nat.le_refl _) (Nat.zero_le _) rfl) HB2.out.size, HB2.out.alloc HB2.out.size _⟩
              · have d1 : decide ((a : Int) > 6) = true := decide_eq_true (by omega)
                clear hok ha
                go_wp2_with fail
                go_ret2
                exact ⟨_, rfl, owns_below (World.ownsRow_made (e := 118) (size := 4) _ #[] 0 (Nat.le_refl _) (Nat.zero_le _) rfl) HB2.out.size, HB2.out.alloc HB2.out.size _⟩
        · obtain rfl : i = n := by omega
          have htk : ini.take i = ini := List.take_of_length_le (by have := HN.out; omega)
          have hres : readL numG ini = some D := by rw [← htk]; exact HD.out
          have hr := HR.out
          rw [hres] at hr
          obtain ⟨rfl, rfl⟩ := Prod.mk.inj hr
          clear htk hres HR hr
          go_wp2_with fail
          go_ret2
          exact ⟨_, rfl, HO.out, HB.out⟩
    · have hr2 : ¬ (some lst = some [] ∧ n + 1 ≤ 9) := fun h => hok ⟨Option.some.inj h.1, by omega⟩
      rw [if_neg hr2] at hr
      obtain ⟨rfl, rfl⟩ := Prod.mk.inj hr
      clear hr hr2 hlne
      go_enter Tryd.func34, Tryd.ntmps34
      go_wp2_with fail
      refine (HSP.out _).mono ?_
      rintro o w1 ⟨wv, rfl, hP, hb1⟩
      rw [hn1] at hP
      obtain ⟨gw, capw, rfl⟩ := ownsRow_succ hP
      obtain ⟨_, e9, _, hcl⟩ := owns_str hP hgm
      obtain rfl : gw = _ := by injection e9 with e9; injection e9
      have hsub : wrap64 (n : Int) = (n : Int) := by have := HLN.out; unfold wrap64; omega
      have HO1 := Lib.hid (owns_next HN0.out hb1)
      have HB1 := Lib.hid (below_next HB0.out hb1 (by simp))
      clear hn hn1 hP hb1 HN0 HB0 e9 hgm
      by_cases hle : lst = []
      · subst hle
        have hcl2 : w1.cell? ⟨gw, n, none⟩ = some (.string ⟨#[]⟩) := hcl
        have d8 : decide ((n : Int) > 8) = true := decide_eq_true (by have : ¬ n ≤ 8 := fun h => hok ⟨rfl, h⟩; omega)
        clear hcl hok
        go_wp2_with fail
        go_ret2
        exact ⟨_, rfl, HO1.out, HB1.out⟩
      · have hemp : (lst == []) = false := by simpa using hle
        clear hok
        go_wp2_with fail
        go_ret2
        exact ⟨_, rfl, HO1.out, HB1.out⟩
end Go.Proofs.YtjfimmfnhlimkaaDoor.rd
