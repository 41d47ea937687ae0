/-
  Numbers read from texts: pure, and the model's l01Number.
-/
import Derived.Test.YtjfimmfnhlimkaaDoorTxt
import Derived.Deep.LoopGhost
namespace Go.Proofs.YtjfimmfnhlimkaaDoor.rd
open Go Go.RowKit sl dec txt

def isDig (c : UInt8) : Bool := decide (48 ≤ c.toNat ∧ c.toNat ≤ 57)
def valD (l : List UInt8) : Nat := l.foldl (fun n c => 10 * n + (c.toNat - 48)) 0
theorem valD_snoc (l : List UInt8) (c : UInt8) : valD (l ++ [c]) = 10 * valD l + (c.toNat - 48) := by simp [valD]
/-- a text that no number has by its length or its first digit -/
def badN (l : List UInt8) : Prop := l = [] ∨ 9 < l.length ∨ (l.head? = some 48 ∧ 1 < l.length)
instance (l : List UInt8) : Decidable (badN l) := by unfold badN; infer_instance
def numO (l : List UInt8) : Option Nat := if badN l then none else if l.all isDig = true then some (valD l) else none
theorem dig_of {c : UInt8} (h : isDig c = true) : c = UInt8.ofNat (48 + (c.toNat - 48)) ∧ c.toNat - 48 < 10 := by
  have h1 := of_decide_eq_true h
  refine ⟨UInt8.toNat_inj.1 ?_, by omega⟩
  rw [UInt8.toNat_ofNat']
  omega
/-- digits without a needless 0 are the text of their number -/
theorem dec_valD : ∀ (k : Nat) (l : List UInt8), l.length = k → l ≠ [] → (∀ c ∈ l, isDig c = true) → (l.head? = some 48 → l.length = 1) → l = Lib.decDigits (valD l)
  | 0, l, hk, hn, _, _ => absurd (List.eq_nil_of_length_eq_zero hk) hn
  | k + 1, l, hk, hn, hd, h0 => by
    obtain ⟨m, c, rfl⟩ : ∃ m c, l = m ++ [c] := ⟨l.dropLast, l.getLast hn, (List.dropLast_concat_getLast hn).symm⟩
    have hc := hd c (by simp)
    obtain ⟨hc1, hc2⟩ := dig_of hc
    by_cases hm : m = []
    · subst hm
      have e : valD ([] ++ [c]) = c.toNat - 48 := by simp [valD]
      rw [e, Lib.decDigits_one hc2, ← hc1]
      rfl
    · have hml : m.length = k := by simpa using hk
      have hm0 : m.head? ≠ some 48 := fun e => by
        have h1 : (m ++ [c]).head? = some 48 := by
          cases m with
          | nil => exact absurd rfl hm
          | cons a r => simpa using e
        have h2 := h0 h1
        simp at h2
        exact hm h2
      have ih := dec_valD k m hml hm (fun c hc => hd c (by simp [hc])) (fun e => absurd e hm0)
      have hv : 1 ≤ valD m := by
        rcases Nat.eq_zero_or_pos (valD m) with e | e
        · rw [e, Lib.decDigits_one (by omega)] at ih
          rw [ih] at hm0
          exact absurd rfl hm0
        · exact e
      rw [valD_snoc, Lib.decDigits, dif_neg (by omega)]
      have q1 : (10 * valD m + (c.toNat - 48)) / 10 = valD m := by omega
      have q2 : (10 * valD m + (c.toNat - 48)) % 10 = c.toNat - 48 := by omega
      rw [q1, q2, ← ih, ← hc1]
theorem dec_props : ∀ n : Nat, (∀ c ∈ Lib.decDigits n, isDig c = true) ∧ valD (Lib.decDigits n) = n ∧ Lib.decDigits n ≠ [] ∧ ((Lib.decDigits n).head? = some 48 → (Lib.decDigits n).length = 1) := by
  intro n
  induction n using Nat.strongRecOn with
  | ind n ih =>
    have hdg : ∀ d : Nat, d < 10 → isDig (UInt8.ofNat (48 + d)) = true ∧ (UInt8.ofNat (48 + d)).toNat - 48 = d := fun d hd => by
      have e : (UInt8.ofNat (48 + d)).toNat = 48 + d := by rw [UInt8.toNat_ofNat']; omega
      exact ⟨decide_eq_true (by rw [e]; omega), by rw [e]; omega⟩
    by_cases h : n < 10
    · rw [Lib.decDigits_one h]
      refine ⟨fun c hc => by rw [List.mem_singleton.1 hc]; exact (hdg n h).1, ?_, by simp, by simp⟩
      simp only [valD, List.foldl_cons, List.foldl_nil]
      have := (hdg n h).2
      omega
    · obtain ⟨i1, i2, i3, i4⟩ := ih (n / 10) (by omega)
      rw [Lib.decDigits, dif_neg h]
      refine ⟨fun c hc => ?_, ?_, by simp, fun e => ?_⟩
      · rcases List.mem_append.1 hc with h1 | h1
        · exact i1 c h1
        · rw [List.mem_singleton.1 h1]; exact (hdg _ (Nat.mod_lt _ (by omega))).1
      · rw [valD_snoc, i2, (hdg _ (Nat.mod_lt _ (by omega))).2]
        omega
      · exfalso
        have e2 : (Lib.decDigits (n / 10)).head? = some 48 := by
          cases hq : Lib.decDigits (n / 10) with
          | nil => exact absurd hq i3
          | cons a r => rw [hq] at e; simpa using e
        have h1 := i4 e2
        obtain ⟨a, ha⟩ := List.length_eq_one_iff.1 h1
        rw [ha] at e2
        obtain rfl : a = 48 := by simpa using e2
        rw [ha] at i2
        have : valD [48] = 0 := rfl
        omega
theorem valD_ltK : ∀ (k : Nat) (l : List UInt8), l.length = k → (∀ c ∈ l, isDig c = true) → valD l < 10 ^ k
  | 0, l, hk, _ => by
    obtain rfl := List.eq_nil_of_length_eq_zero hk
    simp [valD]
  | k + 1, l, hk, h => by
    have hn : l ≠ [] := fun e => by rw [e] at hk; cases hk
    obtain ⟨m, c, rfl⟩ : ∃ m c, l = m ++ [c] := ⟨l.dropLast, l.getLast hn, (List.dropLast_concat_getLast hn).symm⟩
    have h1 := valD_ltK k m (by simpa using hk) fun c hc => h c (by simp [hc])
    have h2 := (dig_of (h c (by simp))).2
    rw [valD_snoc, Nat.pow_succ]
    omega
theorem valD_lt (l : List UInt8) (h : ∀ c ∈ l, isDig c = true) : valD l < 10 ^ l.length := valD_ltK _ l rfl h
theorem dec_len : ∀ (k n : Nat), 10 ^ k ≤ n → k < (Lib.decDigits n).length
  | 0, n, _ => by
    have := (dec_props n).2.2.1
    exact List.length_pos_iff.2 this
  | k + 1, n, h => by
    have hp : 1 ≤ 10 ^ k := Nat.one_le_pow _ _ (by omega)
    rw [Nat.pow_succ] at h
    rw [Lib.decDigits, dif_neg (by omega), List.length_append, List.length_singleton]
    have := dec_len k (n / 10) (by omega)
    omega
theorem dec_short : ∀ (k n : Nat), n < 10 ^ (k + 1) → (Lib.decDigits n).length ≤ k + 1
  | 0, n, h => by rw [Lib.decDigits_one (by omega)]; simp
  | k + 1, n, h => by
    by_cases h10 : n < 10
    · rw [Lib.decDigits_one h10]; simp
    · rw [Lib.decDigits, dif_neg h10, List.length_append, List.length_singleton]
      have := dec_short k (n / 10) (by rw [Nat.pow_succ] at h; omega)
      omega
theorem decB_nine (n : Nat) (h : n < 1000000000) : (Lib.decDigits n).length ≤ 9 := dec_short 8 n (by omega)
theorem numO_bad {l : List UInt8} (h : badN l) : numO l = none := by rw [numO, if_pos h]
theorem numO_dig {l : List UInt8} (h : ¬ badN l) (hd : l.all isDig = true) : numO l = some (valD l) := by rw [numO, if_neg h, if_pos hd]
theorem numO_no {l : List UInt8} (h : ¬ badN l) (hd : ¬ l.all isDig = true) : numO l = none := by rw [numO, if_neg h, if_neg hd]
theorem numO_iff {l : List UInt8} {n : Nat} : numO l = some n ↔ l = Lib.decDigits n ∧ n < 1000000000 := by
  constructor
  · intro h
    by_cases hb : badN l
    · rw [numO_bad hb] at h; cases h
    · by_cases hd : l.all isDig = true
      · rw [numO_dig hb hd] at h
        obtain rfl := Option.some.inj h
        have hd2 := List.all_eq_true.1 hd
        have hne : l ≠ [] := fun e => hb (.inl e)
        refine ⟨dec_valD _ l rfl hne hd2 (fun e => ?_), ?_⟩
        · rcases Nat.lt_or_ge 1 l.length with h1 | h1
          · exact absurd (.inr (.inr ⟨e, h1⟩)) hb
          · have := List.length_pos_iff.2 hne
            omega
        · have h1 := valD_lt l hd2
          have h2 : l.length ≤ 9 := by
            rcases Nat.lt_or_ge 9 l.length with h3 | h3
            · exact absurd (.inr (.inl h3)) hb
            · exact h3
          exact Nat.lt_of_lt_of_le h1 (Nat.pow_le_pow_right (by omega) h2)
      · rw [numO_no hb hd] at h; cases h
  · rintro ⟨rfl, hn⟩
    obtain ⟨p1, p2, p3, p4⟩ := dec_props n
    have h9 := decB_nine n hn
    have hb : ¬ badN (Lib.decDigits n) := by
      rintro (h | h | ⟨h, h1⟩)
      · exact p3 h
      · omega
      · have := p4 h; omega
    rw [numO_dig hb (List.all_eq_true.2 p1), p2]
/-- what l01Number answers -/
def numV : Option Nat → Int
  | some n => (n : Int)
  | none => 0
theorem pow_nine {v k : Nat} (h : v < 10 ^ k) (hk : k ≤ 9) : v < 1000000000 := by
  have h1 := Nat.pow_le_pow_right (show 0 < 10 by decide) hk
  have h2 : (10 : Nat) ^ 9 = 1000000000 := by decide
  rw [h2] at h1
  exact Nat.lt_of_lt_of_le h h1
theorem all_take {l : List UInt8} {i : Nat} {c : UInt8} (h : l[i]? = some c) : l.take (i + 1) = l.take i ++ [c] := by
  rw [List.take_add_one, h]; rfl
theorem numO_stop {l : List UInt8} {i : Nat} {c : UInt8} (hb : ¬ badN l) (h : l[i]? = some c) (hd : ¬ isDig c = true) : numO l = none :=
  numO_no hb fun e => hd (List.all_eq_true.1 e c (List.mem_of_getElem? h))
theorem at_byteR (s : ByteArray) (i : Nat) (h : i < s.size) : s.data.toList[i]? = some s[i] := by
  rw [List.getElem?_eq_getElem (by simpa using h)]; rfl
set_option maxRecDepth 100000 in
set_option maxHeartbeats 4000000 in
theorem l01Number_any (s : ByteArray) (hs : s.size ≤ 9223372036854775807) (w : World) :
    Calls Tryd.prog 112 #[.string s] w fun o w' => o = .returned (.tuple #[.int .i64 (numV (numO s.data.toList)), .bool (numO s.data.toList).isSome]) ∧ w' = w := by
  obtain ⟨NO, hNO⟩ : ∃ q, numO s.data.toList = q := ⟨_, rfl⟩
  rw [hNO]
  have hlen : s.data.toList.length = s.size := by simp
  by_cases h0 : s.size = 0
  · obtain rfl : s = ⟨#[]⟩ := by
      apply ByteArray.ext
      apply Array.eq_empty_of_size_eq_zero
      exact h0
    obtain rfl : NO = none := by rw [← hNO]; exact numO_bad (.inl rfl)
    clear hNO hlen h0
    go_enter Tryd.func112, Tryd.ntmps112
    go_wp2_with fail
    go_ret2
    exact ⟨rfl, by trivial⟩
  · have hne : ¬ s = ⟨#[]⟩ := fun e => h0 (by rw [e]; rfl)
    have hlt0 : 0 < s.size := by omega
    by_cases h9 : 9 < s.size
    · obtain rfl : NO = none := by rw [← hNO]; exact numO_bad (.inr (.inl (by omega)))
      clear hNO hlen h0
      go_enter Tryd.func112, Tryd.ntmps112
      go_wp2_with fail
      all_goals go_ret2
      all_goals exact ⟨rfl, by trivial⟩
    · have hhd : s.data.toList.head? = some s[0] := by
        have h1 := at_byteR s 0 hlt0
        rwa [List.head?_eq_getElem?]
      by_cases hz : s[0].toNat = 48 ∧ 1 < s.size
      · obtain rfl : NO = none := by
          rw [← hNO]
          refine numO_bad (.inr (.inr ⟨?_, by omega⟩))
          rw [hhd]
          exact congrArg some (UInt8.toNat_inj.1 hz.1)
        obtain ⟨hz1, hz2⟩ := hz
        clear hNO hlen h0 hhd
        go_enter Tryd.func112, Tryd.ntmps112
        go_wp2_with fail
        all_goals go_ret2
        all_goals exact ⟨rfl, by trivial⟩
      · have hemp : s.toList.isEmpty = false := by
          rw [Lib.toList_data]
          cases hq : s.data.toList with
          | nil => rw [hq] at hlen; exact absurd hlen.symm h0
          | cons a r => rfl
        have hnb : ¬ badN s.data.toList := by
          rintro (h | h | ⟨h, h1⟩)
          · rw [h] at hlen; exact h0 hlen.symm
          · omega
          · rw [hhd] at h
            exact hz ⟨by rw [Option.some.inj h]; rfl, by omega⟩
        have HNB := Lib.hid hnb
        have HNO := Lib.hid hNO
        have HLEN := Lib.hid hlen
        by_cases hq : s[0].toNat = 48
        · have h1 : ¬ 1 < s.size := fun h => hz ⟨hq, h⟩
          clear hz hnb hNO hlen hhd h0
          go_enter Tryd.func112, Tryd.ntmps112
          go_wp2_with fail
          go_loopw [4, 5] (fun vn vi wr => ∃ i : Nat, i ≤ s.size ∧ vi = .int .i64 (i : Nat) ∧ vn = .int .i64 (valD (s.data.toList.take i) : Nat) ∧ (∀ c ∈ s.data.toList.take i, isDig c = true) ∧ wr = w) (fun _ vi _ => s.size - (intOf vi).toNat)
          case atStart => exact ⟨0, by omega, rfl, by simp [valD], (fun c hc => by simp at hc), rfl⟩
          case round =>
            obtain ⟨i, hi, rfl, rfl, hall, rfl⟩ := hrel
            have HALL := Lib.hid hall
            have hvl := valD_lt _ hall
            rw [List.length_take] at hvl
            have hv9 : valD (s.data.toList.take i) < 1000000000 := pow_nine hvl (by have := HLEN.out; omega)
            obtain ⟨v, hv⟩ : ∃ v, valD (s.data.toList.take i) = v := ⟨_, rfl⟩
            rw [hv] at hv9 ⊢
            have HV := Lib.hid hv
            clear hall hvl hv
            by_cases hlt : i < s.size
            · have hat := at_byteR s i hlt
              by_cases hd : isDig s[i] = true
              · obtain ⟨d0, d1⟩ := of_decide_eq_true hd
                have HT := Lib.hid (all_take hat)
                have HD := Lib.hid hd
                obtain ⟨e, he⟩ : ∃ e : Nat, s[i].toNat = e + 48 := ⟨s[i].toNat - 48, by omega⟩
                obtain ⟨m10, hm10⟩ : ∃ m : Int, m = 10 * (v : Int) := ⟨_, rfl⟩
                obtain ⟨v2, hv2⟩ : ∃ v2 : Nat, v2 = 10 * v + e := ⟨_, rfl⟩
                have w1 : IntKind.u8.wrap ((s[i].toNat : Int) - 48) = (e : Int) := by
                  rw [show (s[i].toNat : Int) - 48 = (e : Int) by omega]; exact IntWalk.u8_in _ (by omega)
                have w2 : IntKind.i64.wrap (e : Int) = (e : Int) := IntWalk.i64_in _ (by omega)
                have w3 : wrap64 (10 * (v : Int)) = m10 := by rw [hm10]; unfold wrap64; omega
                have w4 : wrap64 (m10 + (e : Int)) = (v2 : Int) := by rw [hm10, hv2]; unfold wrap64; omega
                have hv' : v2 = valD (s.data.toList.take (i + 1)) := by rw [HT.out, valD_snoc, HV.out, hv2, he, Nat.add_sub_cancel]
                have HVN := Lib.hid hv'
                have n48 : ¬ (s[i].toNat : Int) < 48 := by omega
                have n57 : ¬ (57 : Int) < (s[i].toNat : Int) := by omega
                have k1 : wrap64 ((i : Int) + 1) = (i : Int) + 1 := by unfold wrap64; omega
                have HK1 := Lib.hid k1
                clear hd hat hv' hv2 hm10 he d0 d1 hv9 h9 hs k1 hemp hne
                go_wp2_with fail
                go_roundw
                case rel => exact ⟨i + 1, by omega, by first | rfl | (rw [HK1.out]; rfl) | go_num, by first | rw [← HVN.out, w4] | rw [← HVN.out], (fun c hc => by
                  rw [HT.out] at hc
                  rcases List.mem_append.1 hc with h | h
                  · exact HALL.out c h
                  · rw [List.mem_singleton.1 h]; exact HD.out), by trivial⟩
                case measure => first | (simp only [intOf]; omega) | (simp [intOf]; omega)
              · obtain rfl : NO = none := by rw [← HNO.out]; exact numO_stop HNB.out hat hd
                have hdd : s[i].toNat < 48 ∨ 57 < s[i].toNat := by
                  rcases Nat.lt_or_ge s[i].toNat 48 with h | h
                  · exact .inl h
                  · rcases Nat.lt_or_ge 57 s[i].toNat with h2 | h2
                    · exact .inr h2
                    · exact absurd (decide_eq_true ⟨h, h2⟩) hd
                clear hd hat hemp hne hs hv9
                rcases hdd with hdd | hdd
                · go_wp2_with fail
                  go_ret2
                  exact ⟨rfl, by trivial⟩
                · go_wp2_with fail
                  all_goals go_ret2
                  all_goals exact ⟨rfl, by trivial⟩
            · obtain rfl : i = s.size := by omega
              have hno : NO = some v := by
                have h1 := HALL.out
                have h2 := HV.out
                rw [List.take_of_length_le (by rw [HLEN.out]; exact Nat.le_refl _)] at h1 h2
                rw [← HNO.out, numO_dig HNB.out (List.all_eq_true.2 h1), h2]
              subst hno
              go_wp2_with fail
              go_ret2
              exact ⟨rfl, by trivial⟩
        · clear hz hnb hNO hlen hhd h0
          go_enter Tryd.func112, Tryd.ntmps112
          go_wp2_with fail
          go_loopw [4, 5] (fun vn vi wr => ∃ i : Nat, i ≤ s.size ∧ vi = .int .i64 (i : Nat) ∧ vn = .int .i64 (valD (s.data.toList.take i) : Nat) ∧ (∀ c ∈ s.data.toList.take i, isDig c = true) ∧ wr = w) (fun _ vi _ => s.size - (intOf vi).toNat)
          case atStart => exact ⟨0, by omega, rfl, by simp [valD], (fun c hc => by simp at hc), rfl⟩
          case round =>
            obtain ⟨i, hi, rfl, rfl, hall, rfl⟩ := hrel
            have HALL := Lib.hid hall
            have hvl := valD_lt _ hall
            rw [List.length_take] at hvl
            have hv9 : valD (s.data.toList.take i) < 1000000000 := pow_nine hvl (by have := HLEN.out; omega)
            obtain ⟨v, hv⟩ : ∃ v, valD (s.data.toList.take i) = v := ⟨_, rfl⟩
            rw [hv] at hv9 ⊢
            have HV := Lib.hid hv
            clear hall hvl hv
            by_cases hlt : i < s.size
            · have hat := at_byteR s i hlt
              by_cases hd : isDig s[i] = true
              · obtain ⟨d0, d1⟩ := of_decide_eq_true hd
                have HT := Lib.hid (all_take hat)
                have HD := Lib.hid hd
                obtain ⟨e, he⟩ : ∃ e : Nat, s[i].toNat = e + 48 := ⟨s[i].toNat - 48, by omega⟩
                obtain ⟨m10, hm10⟩ : ∃ m : Int, m = 10 * (v : Int) := ⟨_, rfl⟩
                obtain ⟨v2, hv2⟩ : ∃ v2 : Nat, v2 = 10 * v + e := ⟨_, rfl⟩
                have w1 : IntKind.u8.wrap ((s[i].toNat : Int) - 48) = (e : Int) := by
                  rw [show (s[i].toNat : Int) - 48 = (e : Int) by omega]; exact IntWalk.u8_in _ (by omega)
                have w2 : IntKind.i64.wrap (e : Int) = (e : Int) := IntWalk.i64_in _ (by omega)
                have w3 : wrap64 (10 * (v : Int)) = m10 := by rw [hm10]; unfold wrap64; omega
                have w4 : wrap64 (m10 + (e : Int)) = (v2 : Int) := by rw [hm10, hv2]; unfold wrap64; omega
                have hv' : v2 = valD (s.data.toList.take (i + 1)) := by rw [HT.out, valD_snoc, HV.out, hv2, he, Nat.add_sub_cancel]
                have HVN := Lib.hid hv'
                have n48 : ¬ (s[i].toNat : Int) < 48 := by omega
                have n57 : ¬ (57 : Int) < (s[i].toNat : Int) := by omega
                have k1 : wrap64 ((i : Int) + 1) = (i : Int) + 1 := by unfold wrap64; omega
                have HK1 := Lib.hid k1
                clear hd hat hv' hv2 hm10 he d0 d1 hv9 h9 hs k1 hemp hne
                go_wp2_with fail
                go_roundw
                case rel => exact ⟨i + 1, by omega, by first | rfl | (rw [HK1.out]; rfl) | go_num, by first | rw [← HVN.out, w4] | rw [← HVN.out], (fun c hc => by
                  rw [HT.out] at hc
                  rcases List.mem_append.1 hc with h | h
                  · exact HALL.out c h
                  · rw [List.mem_singleton.1 h]; exact HD.out), by trivial⟩
                case measure => first | (simp only [intOf]; omega) | (simp [intOf]; omega)
              · obtain rfl : NO = none := by rw [← HNO.out]; exact numO_stop HNB.out hat hd
                have hdd : s[i].toNat < 48 ∨ 57 < s[i].toNat := by
                  rcases Nat.lt_or_ge s[i].toNat 48 with h | h
                  · exact .inl h
                  · rcases Nat.lt_or_ge 57 s[i].toNat with h2 | h2
                    · exact .inr h2
                    · exact absurd (decide_eq_true ⟨h, h2⟩) hd
                clear hd hat hemp hne hs hv9
                rcases hdd with hdd | hdd
                · go_wp2_with fail
                  go_ret2
                  exact ⟨rfl, by trivial⟩
                · go_wp2_with fail
                  all_goals go_ret2
                  all_goals exact ⟨rfl, by trivial⟩
            · obtain rfl : i = s.size := by omega
              have hno : NO = some v := by
                have h1 := HALL.out
                have h2 := HV.out
                rw [List.take_of_length_le (by rw [HLEN.out]; exact Nat.le_refl _)] at h1 h2
                rw [← HNO.out, numO_dig HNB.out (List.all_eq_true.2 h1), h2]
              subst hno
              go_wp2_with fail
              go_ret2
              exact ⟨rfl, by trivial⟩
end Go.Proofs.YtjfimmfnhlimkaaDoor.rd
