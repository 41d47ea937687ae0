/-
  Texts of cupboards: pure, and the model's.
-/
import Derived.Test.YtjfimmfnhlimkaaDoorCupS
import Derived.Test.YtjfimmfnhlimkaaDoorDec
import Derived.Lib.Join
namespace Go.Proofs.YtjfimmfnhlimkaaDoor.cupt
open Go Go.RowKit sl fold rows cup dec

abbrev bsT (l : List UInt8) : ByteArray := ⟨l.toArray⟩
theorem bsT_append (a b : List UInt8) : bsT (a ++ b) = bsT a ++ bsT b := by
  apply ByteArray.ext
  apply Array.toList_inj.1
  simp
theorem bsT_size (a : List UInt8) : (bsT a).size = a.length := by simp [ByteArray.size]
theorem join_snoc (xs : List (List UInt8)) (x sep : List UInt8) (h : xs ≠ []) : Lib.join (xs ++ [x]) sep = Lib.join xs sep ++ (sep ++ x) := by
  cases xs with
  | nil => exact absurd rfl h
  | cons y r =>
    rw [List.cons_append, Lib.join_cons, Lib.join_cons]
    simp [Lib.joinTail, List.append_assoc]
def rowT (xs : List Int) : List UInt8 := Lib.join (xs.map fun x => Lib.decDigits x.toNat) [44]
def cupT (xss : List (List Int)) : List UInt8 := Lib.join (xss.map rowT) [47]
theorem rowT_snoc (xs : List Int) (x : Int) : rowT (xs ++ [x]) = (if xs = [] then [] else rowT xs ++ [44]) ++ Lib.decDigits x.toNat := by
  unfold rowT
  rw [List.map_append, List.map_singleton]
  by_cases h : xs = []
  · subst h; simp [Lib.join_one]
  · rw [if_neg h, join_snoc _ _ _ (by simpa using h), List.append_assoc]
theorem cupT_snoc (xss : List (List Int)) (xs : List Int) : cupT (xss ++ [xs]) = (if xss = [] then [] else cupT xss ++ [47]) ++ rowT xs := by
  unfold cupT
  rw [List.map_append, List.map_singleton]
  by_cases h : xss = []
  · subst h; simp [Lib.join_one]
  · rw [if_neg h, join_snoc _ _ _ (by simpa using h), List.append_assoc]
theorem dig_len {x : Int} (h : x ≤ 999) : (Lib.decDigits x.toNat).length ≤ 22 := by
  have := decB_size x.toNat (by omega)
  simpa [decB, ByteArray.size] using this
theorem rowT_len : ∀ {xs : List Int}, (∀ x ∈ xs, x ≤ 999) → (rowT xs).length ≤ 23 * xs.length
  | [], _ => by simp [rowT, Lib.join_nil]
  | x :: r, h => by
    have h1 := dig_len (h x (List.mem_cons_self ..))
    have key : ∀ r : List Int, (∀ x ∈ r, x ≤ 999) → (Lib.joinTail [44] (r.map fun x => Lib.decDigits x.toNat)).length ≤ 23 * r.length := by
      intro r hr
      induction r with
      | nil => simp [Lib.joinTail]
      | cons y r ih =>
        have h2 := dig_len (hr y (List.mem_cons_self ..))
        have h3 := ih fun z hz => hr z (List.mem_cons_of_mem _ hz)
        simp only [Lib.joinTail, List.map_cons, List.flatten_cons, List.length_append, List.length_cons] at h3 ⊢
        simp only [List.length_nil]
        omega
    have h4 := key r fun z hz => h z (List.mem_cons_of_mem _ hz)
    rw [rowT, List.map_cons, Lib.join_cons, List.length_append, List.length_cons]
    omega
theorem cup_rg {xss : List (List Int)} (h : CupOk xss) {xs : List Int} (hx : xs ∈ xss) {x : Int} (hm : x ∈ xs) : 0 ≤ x ∧ x ≤ 999 := h.fine.rg x (List.mem_flatten.2 ⟨xs, hx, hm⟩)
/-- the text ahead of a row -/
def preT (xss : List (List Int)) (i : Nat) : List UInt8 := if i = 0 then [] else cupT (xss.take i) ++ [47]
theorem preT_row {xss : List (List Int)} {i : Nat} {xs : List Int} (h : xss[i]? = some xs) : preT xss i ++ rowT xs = cupT (xss.take (i + 1)) := by
  rw [List.take_add_one, h, Option.toList_some, cupT_snoc, preT]
  by_cases h0 : i = 0
  · subst h0; simp
  · rw [if_neg h0, if_neg]
    intro e
    have h1 := (List.getElem?_eq_some_iff.1 h).1
    have h2 : (xss.take i).length = 0 := by rw [e]; rfl
    rw [List.length_take] at h2
    omega
/-- the text ahead of a number -/
def preN (xs : List Int) (k : Nat) : List UInt8 := if k = 0 then [] else rowT (xs.take k) ++ [44]
theorem preN_num {xs : List Int} {k : Nat} {x : Int} (h : xs[k]? = some x) : preN xs k ++ Lib.decDigits x.toNat = rowT (xs.take (k + 1)) := by
  rw [List.take_add_one, h, Option.toList_some, rowT_snoc, preN]
  by_cases h0 : k = 0
  · subst h0; simp
  · rw [if_neg h0, if_neg]
    intro e
    have h1 := (List.getElem?_eq_some_iff.1 h).1
    have h2 : (xs.take k).length = 0 := by rw [e]; rfl
    rw [List.length_take] at h2
    omega
set_option maxRecDepth 100000 in
set_option maxHeartbeats 4000000 in
theorem l04Text_any (A : Option Addr) (n c : Nat) (rs : List Rw) (en : n = rs.length) (hC : CupOk (nums rs)) (w : World) (hg : SS w w.heap.size A rs) :
    Calls Tryd.prog 107 #[.slice A n c] w fun o w' => o = .returned (.string (bsT (cupT (nums rs)))) ∧ Below w.heap.size w w' := by
  have En := Lib.hid en
  have HC := Lib.hid hC
  have hn6 : n ≤ 6 := by have := hC.most; simp only [nums, List.length_map] at this; omega
  have hcmp : ∀ (x : Nat), decide ((0 : Int) < (x : Int)) = !decide (x = 0) := fun x => by cases x <;> simp
  clear en hC
  go_enter Tryd.func107, Tryd.ntmps107
  go_wp2_with fail
  go_loopw [3, 4, 5] (fun vt vi _ wr => ∃ (i : Nat) (T : ByteArray), i ≤ n ∧ vi = .int .i64 i ∧ vt = .string T ∧ T = bsT (cupT ((nums rs).take i)) ∧ T.size ≤ 200 * i ∧ Below w.heap.size w wr) (fun _ vi _ _ => n - (intOf vi).toNat)
  case atStart => exact ⟨0, ⟨#[]⟩, by omega, rfl, rfl, by simp [cupT, Lib.join_nil], by simp [ByteArray.size], Below.refl _ _⟩
  case round =>
    obtain ⟨i, T, hi, rfl, rfl, hT, hsz, hB⟩ := hrel
    have HT := Lib.hid hT
    have HB := Lib.hid hB
    clear hT hB
    by_cases hlt : i < n
    · obtain ⟨r, hr⟩ : ∃ r, rs[i]? = some r := ⟨rs[i]'(by have := En.out; omega), List.getElem?_eq_getElem _⟩
      have hx : (nums rs)[i]? = some r.xs := by simp [nums, hr]
      have h8 : r.xs.length ≤ 8 := HC.out.high r.xs (List.mem_of_getElem? hx)
      have HRG := Lib.hid (fun x hm => cup_rg HC.out (List.mem_of_getElem? hx) (x := x) hm)
      have HX := Lib.hid hx
      obtain ⟨P, hP⟩ : ∃ P, P = bsT (preT (nums rs) i) := ⟨_, rfl⟩
      have hP1 : i = 0 → P = T := fun e => by subst e; rw [hP, HT.out]; simp [preT, cupT, Lib.join_nil]
      have hP2 : i ≠ 0 → P = T ++ ⟨#[47]⟩ := fun e => by rw [hP, preT, if_neg e, bsT_append, ← HT.out]
      have HP := Lib.hid hP
      have hps : P.size ≤ 200 * i + 1 := by
        by_cases e : i = 0
        · rw [hP1 e]; omega
        · rw [hP2 e]; simp only [ByteArray.size_append]; show T.size + 1 ≤ _; omega
      obtain ⟨a, rfl, hab, _⟩ := hg.head hr
      have QA := Lib.hid (fun (u : World) (hu : Below w.heap.size w u) => by
        obtain ⟨a', e', _, q⟩ := (hg.below hu).head hr
        obtain rfl := Option.some.inj e'
        exact q)
      have SA := Lib.hid (fun (u : World) (hu : Below w.heap.size w u) => ((hg.below hu).more hu.size).each r (List.mem_of_getElem? hr))
      have hp0 : P ++ bsT (rowT (r.xs.take 0)) = P := by
        apply ByteArray.ext
        apply Array.toList_inj.1
        simp [rowT, Lib.join_nil]
      have HP0 := Lib.hid hp0
      have h8i : (r.xs.length : Int) ≤ 8 := by omega
      have HNX : Hid (∀ U, U = P ++ bsT (rowT (r.xs.take r.xs.length)) → U = bsT (cupT ((nums rs).take (i + 1)))) := Lib.hid (fun U hU => by rw [hU, List.take_of_length_le (Nat.le_refl _), HP.out, ← bsT_append, preT_row HX.out])
      have hsum : ¬ 9223372036854775807 < T.size + 1 := by omega
      clear hr hx hP hp0
      by_cases e0 : i = 0
      · obtain rfl := hP1 e0
        have hd0 : ¬ 0 < i := by omega
        clear hP1 hP2 e0
        go_wp2_with fail
        go_loopw [3, 5] (fun vt vk wr => ∃ (k : Nat) (U : ByteArray), k ≤ r.xs.length ∧ vk = .int .i64 k ∧ vt = .string U ∧ U = P ++ bsT (rowT (r.xs.take k)) ∧ U.size ≤ 200 * i + 1 + 24 * k ∧ Below w.heap.size w wr) (fun _ vk _ => r.xs.length - (intOf vk).toNat)
        case atStart => exact ⟨0, P, by omega, rfl, rfl, HP0.out.symm, by omega, HB.out⟩
        case round =>
          obtain ⟨k, U, hk, rfl, rfl, hU, hsu, hB2⟩ := hrel
          have HU := Lib.hid hU
          have HB2 := Lib.hid hB2
          have q0 := QA.out _ hB2
          clear hU hB2
          by_cases hkt : k < r.xs.length
          · obtain ⟨x, hx⟩ : ∃ x, r.xs[k]? = some x := ⟨r.xs[k], List.getElem?_eq_getElem _⟩
            obtain ⟨ra, hra, hrb, hat⟩ := (SA.out _ HB2.out).at_ k x hx
            have q1 := intS.at_ hat
            rw [hra] at q0
            obtain ⟨x0, x9⟩ := HRG.out x (List.mem_of_getElem? hx)
            obtain ⟨m, rfl⟩ : ∃ m : Nat, x = m := ⟨x.toNat, by omega⟩
            have hn2 := preN_num hx
            rw [Int.toNat_natCast] at hn2
            have hdl := decB_size m (by omega)
            obtain ⟨V, hV⟩ : ∃ V, V = P ++ bsT (preN r.xs k) := ⟨_, rfl⟩
            have hV1 : k = 0 → V = U := fun e => by subst e; rw [hV, HU.out]; simp [preN, rowT, Lib.join_nil]
            have hV2 : k ≠ 0 → V = U ++ ⟨#[44]⟩ := fun e => by rw [hV, preN, if_neg e, bsT_append, HU.out, ByteArray.append_assoc]
            have hvs : V.size ≤ 200 * i + 2 + 24 * k := by
              by_cases e : k = 0
              · rw [hV1 e]; omega
              · rw [hV2 e]; simp only [ByteArray.size_append]; show U.size + 1 ≤ _; omega
            have HV : Hid (V ++ decB m = P ++ bsT (rowT (r.xs.take (k + 1)))) := Lib.hid (by rw [hV, ByteArray.append_assoc]; show P ++ (bsT (preN r.xs k) ++ bsT (Lib.decDigits m)) = _; rw [← bsT_append (preN r.xs k) (Lib.decDigits m), hn2])
            obtain ⟨D, hD⟩ : ∃ D, decB m = D := ⟨_, rfl⟩
            have HDD := Lib.hid (fun u : World => Decimal_any m (by omega) u)
            rw [hD] at HV HDD hdl
            have hz1 : ¬ 9223372036854775807 < U.size + 1 := by omega
            have hz2 : ¬ 9223372036854775807 < V.size + D.size := by omega
            have hvd : (V ++ D).size ≤ 200 * i + 1 + 24 * (k + 1) := by
              simp only [ByteArray.size_append]
              omega
            clear hx hat hra hV hn2 hD
            by_cases ek : k = 0
            · obtain rfl := hV1 ek
              have hd1 : ¬ 0 < k := by omega
              clear hV1 hV2 ek
              go_wp2_with fail
              refine (HDD.out _).mono ?_
              rintro o u ⟨rfl, hb⟩
              have HB3 := Lib.hid (below_next HB2.out hb (Nat.le_refl _))
              clear hb
              go_wp2_with fail
              go_roundw
              case rel => exact ⟨k + 1, _, by omega, by go_num, rfl, HV.out, hvd, HB3.out⟩
              case measure => simp [intOf]; omega
            · obtain hVU := hV2 ek
              have hd1 : 0 < k := by omega
              clear hV1 hV2 ek
              go_wp2_with (first | (rw [← hVU]) | fail)
              refine (HDD.out _).mono ?_
              rintro o u ⟨rfl, hb⟩
              have HB3 := Lib.hid (below_next HB2.out hb (Nat.le_refl _))
              clear hb
              go_wp2_with fail
              go_roundw
              case rel => exact ⟨k + 1, _, by omega, by go_num, rfl, hVU ▸ HV.out, hVU ▸ hvd, HB3.out⟩
              case measure => simp [intOf]; omega
          · obtain rfl : k = r.xs.length := by omega
            have HU2 := Lib.hid (HNX.out U HU.out)
            go_wp2_with fail
            go_roundw
            case rel => exact ⟨i + 1, U, by omega, by go_num, rfl, HU2.out, by omega, HB2.out⟩
            case measure => simp [intOf]; omega
      · have hPT := hP2 e0
        have hd0 : 0 < i := by omega
        clear hP1 hP2 e0
        go_wp2_with fail
        rw [← hPT]
        clear hPT
        go_loopw [3, 5] (fun vt vk wr => ∃ (k : Nat) (U : ByteArray), k ≤ r.xs.length ∧ vk = .int .i64 k ∧ vt = .string U ∧ U = P ++ bsT (rowT (r.xs.take k)) ∧ U.size ≤ 200 * i + 1 + 24 * k ∧ Below w.heap.size w wr) (fun _ vk _ => r.xs.length - (intOf vk).toNat)
        case atStart => exact ⟨0, P, by omega, rfl, rfl, HP0.out.symm, by omega, HB.out⟩
        case round =>
          obtain ⟨k, U, hk, rfl, rfl, hU, hsu, hB2⟩ := hrel
          have HU := Lib.hid hU
          have HB2 := Lib.hid hB2
          have q0 := QA.out _ hB2
          clear hU hB2
          by_cases hkt : k < r.xs.length
          · obtain ⟨x, hx⟩ : ∃ x, r.xs[k]? = some x := ⟨r.xs[k], List.getElem?_eq_getElem _⟩
            obtain ⟨ra, hra, hrb, hat⟩ := (SA.out _ HB2.out).at_ k x hx
            have q1 := intS.at_ hat
            rw [hra] at q0
            obtain ⟨x0, x9⟩ := HRG.out x (List.mem_of_getElem? hx)
            obtain ⟨m, rfl⟩ : ∃ m : Nat, x = m := ⟨x.toNat, by omega⟩
            have hn2 := preN_num hx
            rw [Int.toNat_natCast] at hn2
            have hdl := decB_size m (by omega)
            obtain ⟨V, hV⟩ : ∃ V, V = P ++ bsT (preN r.xs k) := ⟨_, rfl⟩
            have hV1 : k = 0 → V = U := fun e => by subst e; rw [hV, HU.out]; simp [preN, rowT, Lib.join_nil]
            have hV2 : k ≠ 0 → V = U ++ ⟨#[44]⟩ := fun e => by rw [hV, preN, if_neg e, bsT_append, HU.out, ByteArray.append_assoc]
            have hvs : V.size ≤ 200 * i + 2 + 24 * k := by
              by_cases e : k = 0
              · rw [hV1 e]; omega
              · rw [hV2 e]; simp only [ByteArray.size_append]; show U.size + 1 ≤ _; omega
            have HV : Hid (V ++ decB m = P ++ bsT (rowT (r.xs.take (k + 1)))) := Lib.hid (by rw [hV, ByteArray.append_assoc]; show P ++ (bsT (preN r.xs k) ++ bsT (Lib.decDigits m)) = _; rw [← bsT_append (preN r.xs k) (Lib.decDigits m), hn2])
            obtain ⟨D, hD⟩ : ∃ D, decB m = D := ⟨_, rfl⟩
            have HDD := Lib.hid (fun u : World => Decimal_any m (by omega) u)
            rw [hD] at HV HDD hdl
            have hz1 : ¬ 9223372036854775807 < U.size + 1 := by omega
            have hz2 : ¬ 9223372036854775807 < V.size + D.size := by omega
            have hvd : (V ++ D).size ≤ 200 * i + 1 + 24 * (k + 1) := by
              simp only [ByteArray.size_append]
              omega
            clear hx hat hra hV hn2 hD
            by_cases ek : k = 0
            · obtain rfl := hV1 ek
              have hd1 : ¬ 0 < k := by omega
              clear hV1 hV2 ek
              go_wp2_with fail
              refine (HDD.out _).mono ?_
              rintro o u ⟨rfl, hb⟩
              have HB3 := Lib.hid (below_next HB2.out hb (Nat.le_refl _))
              clear hb
              go_wp2_with fail
              go_roundw
              case rel => exact ⟨k + 1, _, by omega, by go_num, rfl, HV.out, hvd, HB3.out⟩
              case measure => simp [intOf]; omega
            · obtain hVU := hV2 ek
              have hd1 : 0 < k := by omega
              clear hV1 hV2 ek
              go_wp2_with (first | (rw [← hVU]) | fail)
              refine (HDD.out _).mono ?_
              rintro o u ⟨rfl, hb⟩
              have HB3 := Lib.hid (below_next HB2.out hb (Nat.le_refl _))
              clear hb
              go_wp2_with fail
              go_roundw
              case rel => exact ⟨k + 1, _, by omega, by go_num, rfl, hVU ▸ HV.out, hVU ▸ hvd, HB3.out⟩
              case measure => simp [intOf]; omega
          · obtain rfl : k = r.xs.length := by omega
            have HU2 := Lib.hid (HNX.out U HU.out)
            go_wp2_with fail
            go_roundw
            case rel => exact ⟨i + 1, U, by omega, by go_num, rfl, HU2.out, by omega, HB2.out⟩
            case measure => simp [intOf]; omega
    · obtain rfl : i = n := by omega
      have HK : Hid (T = bsT (cupT (nums rs))) := Lib.hid (by
        rw [HT.out, List.take_of_length_le]
        simp [nums, ← En.out])
      go_wp2_with fail
      go_ret
      exact ⟨by rw [HK.out]; rfl, HB.out⟩
end Go.Proofs.YtjfimmfnhlimkaaDoor.cupt
