/-
  Valid cupboards, the program's.
-/
import Derived.Test.YtjfimmfnhlimkaaDoorJoin3
import Derived.Test.YtjfimmfnhlimkaaDoorJoin13
import Derived.Test.YtjfimmfnhlimkaaDoorJoin14
import Derived.Deep.WholeRow
namespace Go.Proofs.YtjfimmfnhlimkaaDoor.cup
open Go Go.RowKit sl errs fold rows

abbrev givenV (A : Option Addr) (n c : Nat) : Value := .iface 206 (.slice A n c)
/-- the variable of one error -/
structure E1 (w : World) (B : Nat) (a : Addr) : Prop where
  c0 : w.cell? ⟨1, 0, none⟩ = some (errV a)
  lt : 1 < B
theorem E1.below {w w' : World} {B : Nat} {a : Addr} (h : E1 w B a) (hb : Below B w w') : E1 w' B a := ⟨(hb.cell (p := ⟨_, 0, none⟩) h.lt).trans h.c0, h.lt⟩
theorem E1.of {w : World} {B : Nat} {e : Nat → Addr} (h : Errs w B e) : E1 w B (e 0) := ⟨h.c0, h.size.1⟩
/-- the marks of sheets that have not been seen -/
def zeroT : Array Value := Array.replicate 1000 (.bool false)
theorem zeroTi : (Tryd.prog.info? 235).map (fun i => (i.zero, i.size)) = some (some (.agg zeroT), 1000) := by kernel_rfl
theorem zeroT_at {i : Nat} (h : i < 1000) : zeroT[i]? = some (.bool false) := by simp [zeroT, h]
/-- which sheets have been seen -/
structure TH (w u : World) (seen : List Int) : Prop where
  at_ : ∀ i : Nat, i < 1000 → u.cell? ⟨w.heap.size, i, none⟩ = some (.bool (decide ((i : Int) ∈ seen))) ∧ u.frozen? ⟨w.heap.size, i, none⟩ = false
  below : Below w.heap.size w u
theorem TH.new (w : World) (T : TypeId) : TH w (w.alloc (.cells zeroT T)) [] :=
  ⟨fun i hi => by
    have h := heap_alloc_new w (.cells zeroT T)
    exact ⟨(cell_of_row _ _ _ _ _ _ h).trans ((zeroT_at hi).trans (by simp)), frozen_of_row _ _ _ _ _ h⟩, (Below.refl _ _).alloc (Nat.le_refl _) _⟩
theorem TH.put {w u : World} {seen : List Int} (h : TH w u seen) {m : Nat} (hm : m < 1000) : TH w (u.setCell ⟨w.heap.size, m, none⟩ (.bool true)) (seen ++ [(m : Int)]) :=
  ⟨fun i hi => by
    refine ⟨?_, by rw [World.frozen?_setCell]; exact (h.at_ i hi).2⟩
    by_cases e : i = m
    · subst e
      rw [World.cell?_setCell_same _ _ _ (h.at_ i hi).1]
      simp
    · rw [World.cell?_setCell_other _ _ _ _ (by simp only [ne_eq, Addr.mk.injEq, true_and, and_true]; omega), (h.at_ i hi).1]
      have : ((i : Int) ∈ seen ++ [(m : Int)]) ↔ ((i : Int) ∈ seen) := by
        simp
        intro h1
        omega
      simp only [this], h.below.setCell (p := ⟨w.heap.size, m, none⟩) (Nat.le_refl _) _⟩
theorem method_piles (A : Option Addr) (n c : Nat) (w : World) : (Go.method 421 206 (.slice A n c) "loop.example/g01378/impl.piles").run Tryd.prog w = .ok (227, .slice A n c) w := by kernel_rfl
theorem piles_any (A : Option Addr) (n c : Nat) (w : World) :
    Calls Tryd.prog 227 #[.slice A n c] w fun o w' => o = .returned (.slice A n c) ∧ w = w' := by
  go_enter Tryd.func227, Tryd.ntmps227
  go_wp2_with fail
  go_ret
  exact ⟨rfl, rfl⟩
set_option maxRecDepth 100000 in
set_option maxHeartbeats 8000000 in
theorem checkCupboard_any (A : Option Addr) (n c : Nat) (rs : List Rw) (en : n = rs.length) (hn : n ≤ 9223372036854775807) {w : World} {B : Nat} {e : Nat → Addr} (h : E1 w B (e 0)) (hB : B ≤ w.heap.size) (hg : SS w w.heap.size A rs) (k0 : Nat) (hk : (CupOk (nums rs) → k0 = 0) ∧ (¬ CupOk (nums rs) → k0 = 1)) :
    Calls Tryd.prog 148 #[givenV A n c] w fun o w' => o = .returned (errOf e k0) ∧ Below w.heap.size w w' := by
  have En := Lib.hid en
  have HK := Lib.hid hk
  clear en hk
  have hzz : ∀ u : World, (zeroValue 235).run Tryd.prog u = .ok (.agg zeroT) u := (zero_of_info zeroTi).1
  have hmp := method_piles A n c
  have T0 := Lib.hid (TH.new w 235)
  have hbad : ¬ CupOk (nums rs) → k0 = 1 := HK.out.2
  have HBAD := Lib.hid hbad
  have HE := Lib.hid h
  clear hbad h
  go_enter Tryd.func148, Tryd.ntmps148
  go_wp2_with fail
  refine (piles_any A n c _).mono ?_
  rintro o u ⟨rfl, rfl⟩
  have c0 := HE.out.c0
  by_cases h1 : n < 1
  · have hk0 := HBAD.out (fun h => by have := h.pos; simp only [nums, List.length_map] at this; have := En.out; omega)
    subst hk0
    go_wp2_with fail
    go_ret
    exact ⟨rfl, Below.refl _ _⟩
  by_cases h6 : 6 < n
  · have hk0 := HBAD.out (fun h => by have := h.most; simp only [nums, List.length_map] at this; have := En.out; omega)
    subst hk0
    go_wp2_with fail
    go_ret
    exact ⟨rfl, Below.refl _ _⟩
  clear c0
  go_wp2_with fail
  go_loopw [22, 6, 32, 8] (fun vp _ _ _ wr => ∃ p : Nat, p ≤ n ∧ vp = .int .i64 p ∧ TH w wr (seenTo (nums rs) p 0) ∧ Fine (seenTo (nums rs) p 0) ∧ (∀ i r, i < p → rs[i]? = some r → r.xs.length ≤ 8)) (fun vp _ _ _ _ => n - (intOf vp).toNat)
  case atStart => exact ⟨0, by omega, rfl, T0.out, Fine.nil, fun i r hi => absurd hi (by omega)⟩
  case round =>
    obtain ⟨p, hp, rfl, hT, hF, hR⟩ := hrel
    have HT := Lib.hid hT
    have HF := Lib.hid hF
    have HR := Lib.hid hR
    clear hT hF hR
    obtain ⟨wo, hwo⟩ : ∃ wo : World, wo = wr := ⟨_, rfl⟩
    subst hwo
    by_cases hlt : p < n
    · obtain ⟨r, hr⟩ : ∃ r, rs[p]? = some r := ⟨rs[p]'(by have := En.out; omega), List.getElem?_eq_getElem _⟩
      have hm := List.mem_of_getElem? hr
      obtain ⟨a, rfl, hab, q0⟩ := (hg.below HT.out.below).head hr
      have hsh := hg.short r hm
      unfold maxLen at hsh
      have HX : Hid ((nums rs)[p]? = some r.xs) := Lib.hid (by simp [nums, hr])
      have HM := Lib.hid hm
      have HRP := Lib.hid hr
      clear hr hm
      by_cases h8 : 8 < r.xs.length
      · have hk0 := HBAD.out (fun h => by have := h.high r.xs (List.mem_map_of_mem HM.out); omega)
        subst hk0
        have c0 := (HE.out.below (HT.out.below.mono hB)).c0
        go_wp2_with fail
        go_ret
        exact ⟨rfl, HT.out.below⟩
      · have SA := Lib.hid (fun (u : World) (hu : Below w.heap.size w u) => ((hg.below hu).more hu.size).each r HM.out)
        go_wp2_with fail
        go_loopw [32, 8] (fun vi _ wr => ∃ i : Nat, i ≤ r.xs.length ∧ vi = .int .i64 i ∧ TH w wr (seenTo (nums rs) p i) ∧ Fine (seenTo (nums rs) p i)) (fun vi _ _ => r.xs.length - (intOf vi).toNat)
        case atStart => exact ⟨0, by omega, rfl, HT.out, HF.out⟩
        case round =>
          clear q0 HT HF
          obtain ⟨i, hil, rfl, hT, hF⟩ := hrel
          have HT := Lib.hid hT
          have HF := Lib.hid hF
          clear hT hF
          by_cases hit : i < r.xs.length
          · obtain ⟨x, hx⟩ : ∃ x, r.xs[i]? = some x := ⟨r.xs[i], List.getElem?_eq_getElem _⟩
            obtain ⟨ra, hra, hrb, hat⟩ := (SA.out _ HT.out.below).at_ i x hx
            have q1 := intS.at_ hat
            have HXI := Lib.hid hx
            clear hx hat
            rw [hra]
            clear hra
            by_cases hx0 : x < 0
            · have hk0 := HBAD.out (not_ok HX.out HXI.out (.inl (by omega)))
              subst hk0
              have c0 := (HE.out.below (HT.out.below.mono hB)).c0
              go_wp2_with fail
              go_ret
              exact ⟨rfl, HT.out.below⟩
            by_cases hx9 : 999 < x
            · have hk0 := HBAD.out (not_ok HX.out HXI.out (.inl (by omega)))
              subst hk0
              have c0 := (HE.out.below (HT.out.below.mono hB)).c0
              go_wp2_with fail
              go_ret
              exact ⟨rfl, HT.out.below⟩
            obtain ⟨m, rfl⟩ : ∃ m : Nat, x = m := ⟨x.toNat, by omega⟩
            obtain ⟨s, hs⟩ := some_bool ((m : Int) ∈ seenTo (nums rs) p i)
            obtain ⟨q2, f2⟩ := HT.out.at_ m (by omega)
            have hsd : decide ((m : Int) ∈ seenTo (nums rs) p i) = s := by
              cases s
              · exact decide_eq_false (fun h => by have := hs.2 h; cases this)
              · exact decide_eq_true (hs.1 rfl)
            rw [hsd] at q2
            have HS := Lib.hid hs
            clear hs hsd
            cases s with
            | true =>
              have hk0 := HBAD.out (not_ok HX.out HXI.out (.inr (HS.out.1 rfl)))
              subst hk0
              have c0 := (HE.out.below (HT.out.below.mono hB)).c0
              go_wp2_with fail
              go_ret
              exact ⟨rfl, HT.out.below⟩
            | false =>
              have HN : Hid ((m : Int) ∉ seenTo (nums rs) p i) := Lib.hid (fun h => by have := HS.out.2 h; cases this)
              have HEQ := Lib.hid (seenTo_step HX.out HXI.out)
              go_wp2_with fail
              go_roundw
              case rel =>
                refine ⟨i + 1, by omega, by go_num, ?_, ?_⟩
                · rw [HEQ.out]
                  exact HT.out.put (by omega)
                · rw [HEQ.out]
                  exact HF.out.snoc (by omega) HN.out
              case measure => simp [intOf]; omega
          · obtain rfl : i = r.xs.length := by omega
            go_wp2_with fail
            go_roundw
            case rel =>
              have e : seenTo (nums rs) (p + 1) 0 = seenTo (nums rs) p r.xs.length := by rw [seenTo_zero, seenTo_row HX.out]
              refine ⟨p + 1, by omega, by go_num, by rw [e]; exact HT.out, by rw [e]; exact HF.out, fun j r' hj hr' => ?_⟩
              rcases Nat.lt_or_ge j p with h1 | h1
              · exact HR.out j r' h1 hr'
              · obtain rfl : j = p := by omega
                have := HRP.out
                rw [hr'] at this
                rw [Option.some.inj this]
                omega
            case measure => simp [intOf]; omega
    · obtain rfl : p = n := by omega
      have hl : (nums rs).length = p := by simp [nums, ← En.out]
      have hk0 : k0 = 0 := HK.out.1 (all_ok (by omega) (by omega) (fun xs hxs => by
        obtain ⟨r, hr, rfl⟩ := List.mem_map.1 hxs
        obtain ⟨j, hj⟩ := List.mem_iff_getElem?.1 hr
        exact HR.out j r (by have := (List.getElem?_eq_some_iff.1 hj).1; have := En.out; omega) hj) (by rw [hl]; exact HF.out))
      subst hk0
      clear hl
      go_wp2_with fail
      go_ret
      exact ⟨rfl, HT.out.below⟩
set_option maxRecDepth 100000 in
set_option maxHeartbeats 1000000 in
theorem ValidCupboard_any (A : Option Addr) (n c : Nat) (rs : List Rw) (en : n = rs.length) (hn : n ≤ 9223372036854775807) {w : World} {B : Nat} {e : Nat → Addr} (h : E1 w B (e 0)) (hB : B ≤ w.heap.size) (hg : SS w w.heap.size A rs) (b : Bool) (hb : b = true ↔ CupOk (nums rs)) :
    Calls Tryd.prog 109 #[.slice A n c] w fun o w' => o = .returned (.bool b) ∧ Below w.heap.size w w' := by
  obtain ⟨k, hk⟩ : ∃ k : Nat, k = if b = true then 0 else 1 := ⟨_, rfl⟩
  have hkk : (CupOk (nums rs) → k = 0) ∧ (¬ CupOk (nums rs) → k = 1) := by
    rw [hk]
    exact ⟨fun h => if_pos (hb.2 h), fun h => if_neg (fun e => h (hb.1 e))⟩
  have HKK := Lib.hid hkk
  have HK := Lib.hid hk
  have En := Lib.hid en
  have HE := Lib.hid h
  clear en hb h hk hkk
  go_enter Tryd.func109, Tryd.ntmps109
  go_wp2_with fail
  refine (checkCupboard_any A n c rs En.out hn HE.out hB hg k HKK.out).mono ?_
  rintro o u ⟨rfl, hbb⟩
  have HB := Lib.hid hbb
  clear hbb
  cases b with
  | true =>
    have ek : k = 0 := by have := HK.out; simpa using this
    have e0 : errOf e k = .nilIface := by rw [ek]; rfl
    rw [e0]
    clear ek
    go_wp2_with fail
    go_ret
    exact ⟨rfl, HB.out⟩
  | false =>
    have ek : k = 1 := by have := HK.out; simpa using this
    have e0 : errOf e k = errV (e 0) := by rw [ek]; rfl
    rw [e0]
    clear ek
    go_wp2_with fail
    go_ret
    exact ⟨rfl, HB.out⟩
end Go.Proofs.YtjfimmfnhlimkaaDoor.cup
