/-
  THE LAW FnExactDayOnce: for every house and all needs the law returns true: the program answers as the model does, changes neither the stocks nor the needs that it was given, and what it returns is its own. No condition but that the package's errors are what the program's text lays.
-/
import Derived.Test.YtdcckdfemelbiaaDoorJoin31
import Derived.Test.YtdcckdfemelbiaaDoorJoin30
import Derived.Test.YtdcckdfemelbiaaDoorHouOpen
import Derived.Test.YtdcckdfemelbiaaDoorIntOpen
import Derived.Test.YtdcckdfemelbiaaDoorJoin16
import Derived.Test.YtdcckdfemelbiaaDoorClose
import Derived.Test.YtdcckdfemelbiaaDoorLaid
import Derived.Test.YtdcckdfemelbiaaDoorCards
import Derived.Test.YtdcckdfemelbiaaDoorTie
namespace Go.Proofs.YtdcckdfemelbiaaDoor.lawDayOnce
open Go.ChangeShapes Go.WideShapes Go.ChangeAt Go.RowKit Go.Joins sl errs stk row hou rows

set_option maxRecDepth 100000 in
set_option maxHeartbeats 8000000 in
theorem walk_fits (A : Option Addr) (n c : Nat) (xs : List Stk) (t x d : Int) (en : n = xs.length) (hn : n ≤ 1048576) (hf : ∀ x ∈ xs, Fits x) (ht : -32768 ≤ t ∧ t ≤ 32767) (hx : -128 ≤ x ∧ x ≤ 127) (hd : -32768 ≤ d ∧ d ≤ 32767) (A' : Option Addr) (m c' : Nat) (rs : List Int) (em : m = rs.length) (hm : m ≤ 9223372036854775807) (w : World) (e : Nat → Addr) (hE : Errs w w.heap.size e) (hg : Sl stkC 25 w w.heap.size A xs) (hg' : Sl intS.C 1 w w.heap.size A' rs) :
    Calls Tryd.prog 10 #[houV (.slice A n c) t x d, .slice A' m c'] w fun o w' => o = .returned (.bool true) ∧ Below w.heap.size w w' := by
  have En := Lib.hid en
  have Em := Lib.hid em
  have HE := Lib.hid hE
  have HA0 := Lib.hid (HouAt.new w (.slice A n c) t x d 54)
  have B0 := Lib.hid ((Below.refl w.heap.size w).alloc (Nat.le_refl _) (.cells #[.slice A n c, .int .i16 t, .int .i8 x, .int .i16 d] 54))
  have HLE : Hid (xs.length ≤ 1048576) := Lib.hid (by omega)
  have HF := Lib.hid hf
  have HT := Lib.hid ht
  have HX := Lib.hid hx
  have HD := Lib.hid hd
  have HN := Lib.hid hn
  have HM := Lib.hid hm
  have HG := Lib.hid hg
  have HG' := Lib.hid hg'
  have a0 := HA0.out.c0
  have a1 := HA0.out.c1
  have a2 := HA0.out.c2
  have a3 := HA0.out.c3
  obtain ⟨ks, hks⟩ : ∃ q, dayK xs t x d [rs] = q := ⟨_, rfl⟩
  obtain ⟨t1, ht1⟩ : ∃ q, dayN xs t x d [rs] t = q := ⟨_, rfl⟩
  obtain ⟨x1, hx1⟩ : ∃ q, dayN xs t x d [rs] x = q := ⟨_, rfl⟩
  obtain ⟨d1, hd1⟩ : ∃ q, dayN xs t x d [rs] (finS t x [rs] (xs, d)).2 = q := ⟨_, rfl⟩
  obtain ⟨ys, hys⟩ : ∃ q, onceX xs t x d rs = q := ⟨_, rfl⟩
  obtain ⟨code, hcode⟩ : ∃ q, codeG xs t x d [rs] = q := ⟨_, rfl⟩
  have HR := Lib.hid (And.intro hks (And.intro ht1 (And.intro hx1 (And.intro hd1 (And.intro hys hcode)))))
  obtain ⟨mk, hmk⟩ : ∃ q, q = ks.length := ⟨_, rfl⟩
  have HM4 : Hid (mk = ks.length ∧ mk ≤ 4) := Lib.hid ⟨hmk, by rw [hmk, ← hks]; exact dayK_len xs t x d [rs]⟩
  have HSM := Lib.hid (by rw [← hys]; exact onceX_small xs t x d rs : ys.length ≤ 4)
  clear en em hE hf ht hx hd hn hg hg' hks ht1 hx1 hd1 hys hcode hmk
  go_enter Tryd.func10, Tryd.ntmps10
  by_cases hbig : 1048576 < m
  · have hd1 : decide ((1048576 : Int) < (m : Int)) = true := decide_eq_true (by omega)
    go_wp2_with fail
    go_ret
    exact ⟨rfl, B0.out⟩
  · have hd1 : decide ((1048576 : Int) < (m : Int)) = false := decide_eq_false (by omega)
    have hm1 : m ≤ 1048576 := by omega
    clear hbig
    go_wp2_with fail
    refine (szHouse_any A n c t x d 1048576 (by have := HN.out; omega) (by omega) _).mono ?_
    rintro o w1 ⟨rfl, hb⟩
    rw [if_neg (by have := HN.out; omega)]
    have HA1 := Lib.hid (HA0.out.next hb)
    clear a0 a1 a2 a3
    have HB1 := Lib.hid (below_next B0.out hb (by simp))
    have hlf : ¬ (1048576 : Int) - (n : Int) < 0 := by have := HN.out; omega
    clear hb HA0 B0
    have HA1lt := Lib.hid HA1.out.lt
    have a0 := HA1.out.c0
    have a1 := HA1.out.c1
    have a2 := HA1.out.c2
    have a3 := HA1.out.c3
    go_wp2_with fail
    have h1 := toHouse_any A c xs t x d HLE.out _ ((HG.out.below HB1.out).more HB1.out.size)
    rw [← En.out] at h1
    refine h1.mono ?_
    clear h1
    rintro o ua ⟨ga, rfl, hP, hb⟩
    have S2 := Lib.hid (Sl.of_owns hP (stkC_len xs) (by decide))
    clear hP a0 a1 a2 a3
    have z1 := hb.size
    have HB_1 := Lib.hid (below_next HB1.out hb (Nat.le_refl _))
    have HA_1 := Lib.hid (HA1.out.next hb)
    clear hb HB1 HA1
    go_wp2_with fail
    refine (intS.toS_any A' m c' rs Em.out hm1 _ ((HG'.out.below HB_1.out).more HB_1.out.size)).mono ?_
    rintro o ub ⟨gb, rfl, P, hb⟩
    have Y3 := Lib.hid (Sl.of_owns P (intS.len _) (by decide))
    clear P
    have z2 := hb.size
    have HB_2 := Lib.hid (below_next HB_1.out hb (Nat.le_refl _))
    have HA_2 := Lib.hid (HA_1.out.next hb)
    have S2_2 := Lib.hid (S2.out.next hb)
    clear hb HB_1 HA_1 S2
    have hcall := DayOnce_spec ga n n xs t x d En.out HN.out HF.out HT.out HX.out HD.out (some ⟨gb, 0, none⟩) m m rs Em.out (by omega) _ S2_2.out Y3.out
    rw [HR.out.1, HR.out.2.1, HR.out.2.2.1, HR.out.2.2.2.1, HR.out.2.2.2.2.1, HR.out.2.2.2.2.2] at hcall
    go_wp2_with fail
    refine hcall.mono ?_
    clear hcall Y3
    clear S2_2
    rintro o wW ⟨v, vs, rfl, hK, hO, hb⟩
    obtain ⟨AW, cW, rfl, _⟩ := owns_slice hK.o
    obtain ⟨BW, dW, rfl, _⟩ := owns_slice hO
    rw [← HM4.out.1] at hK ⊢
    have EW : Hid (∀ k, (Value.slice BW ys.length dW).ownBlock = some k → _ ≤ k ∧ k < _) := Lib.hid fun k hk => hO.lt k hk
    have FW : Hid (∀ k, (Value.slice AW mk cW).ownBlock = some k → _ ≤ k ∧ k < _) := Lib.hid fun k hk => hK.o.lt k hk
    have DW : Hid (∀ k, (Value.slice AW mk cW).ownBlock = some k → ¬ (Value.slice BW ys.length dW).ownBlock = some k) := Lib.hid (ko_apartI hK hO)
    have z3 := hb.size
    have HB_3 := Lib.hid (below_next HB_2.out hb (Nat.le_refl _))
    have HA_3 := Lib.hid (HA_2.out.next hb)
    clear hb HB_2 HA_2
    obtain ⟨wbW, hwb⟩ : ∃ u, u = wW.alloc (.cells #[.slice AW mk cW, .int .i16 t1, .int .i8 x1, .int .i16 d1] 58) := ⟨_, rfl⟩
    have hb : Below wW.heap.size wW wbW := by rw [hwb]; exact (Below.refl _ _).alloc (Nat.le_refl _) _
    have BxW : Hid (HouAt wbW wW.heap.size (.slice AW mk cW) t1 x1 d1) := Lib.hid (by rw [hwb]; exact HouAt.new wW _ t1 x1 d1 _)
    have LBW := Lib.hid BxW.out.lt
    have KW := Lib.hid (hK.next hb)
    have QW := Lib.hid ((owns_next hO hb))
    have HWBW := Lib.hid hwb
    clear hK hO hwb
    have z4 := hb.size
    have HB_4 := Lib.hid (below_next HB_3.out hb (Nat.le_refl _))
    have HA_4 := Lib.hid (HA_3.out.next hb)
    clear hb HB_3 HA_3
    have a0 := HA_4.out.c0
    have a1 := HA_4.out.c1
    have a2 := HA_4.out.c2
    have a3 := HA_4.out.c3
    go_wp2_with (first | (rw [← HWBW.out]) | fail)
    have h1 := toHouse_any A c xs t x d HLE.out _ ((HG.out.below HB_4.out).more HB_4.out.size)
    rw [← En.out] at h1
    refine h1.mono ?_
    clear h1
    rintro o uc ⟨gc, rfl, hP, hb⟩
    obtain ⟨wx, hwx⟩ : ∃ u, u = uc.alloc (.cells #[.slice (some ⟨gc, 0, none⟩) n n, .int .i16 t, .int .i8 x, .int .i16 d] 58) := ⟨_, rfl⟩
    have hKX : KO uc _ (.slice (some ⟨gc, 0, none⟩) n n) xs := ⟨by rw [← En.out]; exact hP⟩
    have FX : Hid (∀ k, (Value.slice (some ⟨gc, 0, none⟩) n n).ownBlock = some k → _ ≤ k ∧ k < _) := Lib.hid fun k hk => hP.lt k hk
    clear a0 a1 a2 a3
    have z5 := hb.size
    have HB_5 := Lib.hid (below_next HB_4.out hb (Nat.le_refl _))
    have HA_5 := Lib.hid (HA_4.out.next hb)
    have BxW_5 := Lib.hid (BxW.out.next hb)
    have KW_5 := Lib.hid (KW.out.next hb)
    have QW_5 := Lib.hid (owns_next QW.out hb)
    clear hb HB_4 HA_4 BxW KW QW
    have hb : Below uc.heap.size uc wx := by rw [hwx]; exact (Below.refl _ _).alloc (Nat.le_refl _) _
    have BX : Hid (HouAt wx uc.heap.size (.slice (some ⟨gc, 0, none⟩) n n) t x d) := Lib.hid (by rw [hwx]; exact HouAt.new uc _ t x d _)
    have LBX := Lib.hid BX.out.lt
    have KX := Lib.hid (hKX.next hb)
    have HWX := Lib.hid hwx
    clear hKX hP hwx
    have z6 := hb.size
    have HB_6 := Lib.hid (below_next HB_5.out hb (Nat.le_refl _))
    have HA_6 := Lib.hid (HA_5.out.next hb)
    have BxW_6 := Lib.hid (BxW_5.out.next hb)
    have KW_6 := Lib.hid (KW_5.out.next hb)
    have QW_6 := Lib.hid (owns_next QW_5.out hb)
    clear hb HB_5 HA_5 BxW_5 KW_5 QW_5
    go_wp2_with (first | (rw [← HWX.out]) | fail)
    refine (intS.toS_any A' m c' rs Em.out hm1 _ ((HG'.out.below HB_6.out).more HB_6.out.size)).mono ?_
    rintro o ue ⟨ge, rfl, P, hb⟩
    have QX := Lib.hid P
    have EX : Hid (∀ k, (Value.slice (some ⟨ge, 0, none⟩) m m).ownBlock = some k → _ ≤ k ∧ k < _) := Lib.hid fun k hk => P.lt k hk
    clear P
    have z7 := hb.size
    have HB_7 := Lib.hid (below_next HB_6.out hb (Nat.le_refl _))
    have HA_7 := Lib.hid (HA_6.out.next hb)
    have BxW_7 := Lib.hid (BxW_6.out.next hb)
    have KW_7 := Lib.hid (KW_6.out.next hb)
    have QW_7 := Lib.hid (owns_next QW_6.out hb)
    have BX_7 := Lib.hid (BX.out.next hb)
    have KX_7 := Lib.hid (KX.out.next hb)
    clear hb HB_6 HA_6 BxW_6 KW_6 QW_6 BX KX
    have a0 := BX_7.out.c0
    have a1 := BX_7.out.c1
    have a2 := BX_7.out.c2
    have a3 := BX_7.out.c3
    have hcall := DayOnce_any (some ⟨gc, 0, none⟩) n n xs t x d En.out HN.out (Nat.le_refl _) (by have := HN.out; unfold maxLen; omega) HF.out HT.out HX.out HD.out (some ⟨ge, 0, none⟩) m m rs Em.out (by omega) (HE.out.below HB_7.out) HB_7.out.size (by have h := KX_7.out.o; rw [← En.out] at h; exact Sl.of_owns h (stkC_len xs) (by decide)) (Sl.of_owns QX.out (intS.len _) (by decide))
    rw [HR.out.1, HR.out.2.1, HR.out.2.2.1, HR.out.2.2.2.1, HR.out.2.2.2.2.1, HR.out.2.2.2.2.2] at hcall
    go_wp2_with fail
    refine hcall.mono ?_
    clear hcall
    rintro o wG ⟨v, vs, rfl, hK, hO, hb⟩
    obtain ⟨AG, cG, rfl, _⟩ := owns_slice hK.o
    obtain ⟨BG, dG, rfl, _⟩ := owns_slice hO
    rw [← HM4.out.1] at hK ⊢
    have EG : Hid (∀ k, (Value.slice BG ys.length dG).ownBlock = some k → _ ≤ k ∧ k < _) := Lib.hid fun k hk => hO.lt k hk
    have FG : Hid (∀ k, (Value.slice AG mk cG).ownBlock = some k → _ ≤ k ∧ k < _) := Lib.hid fun k hk => hK.o.lt k hk
    have DG : Hid (∀ k, (Value.slice AG mk cG).ownBlock = some k → ¬ (Value.slice BG ys.length dG).ownBlock = some k) := Lib.hid (ko_apartI hK hO)
    clear a0 a1 a2 a3
    have z8 := hb.size
    have HB_8 := Lib.hid (below_next HB_7.out hb (Nat.le_refl _))
    have HA_8 := Lib.hid (HA_7.out.next hb)
    have BxW_8 := Lib.hid (BxW_7.out.next hb)
    have KW_8 := Lib.hid (KW_7.out.next hb)
    have QW_8 := Lib.hid (owns_next QW_7.out hb)
    have BX_8 := Lib.hid (BX_7.out.next hb)
    have KX_8 := Lib.hid (KX_7.out.next hb)
    have QX_8 := Lib.hid (owns_next QX.out hb)
    clear hb HB_7 HA_7 BxW_7 KW_7 QW_7 BX_7 KX_7 QX
    obtain ⟨wbG, hwb⟩ : ∃ u, u = wG.alloc (.cells #[.slice AG mk cG, .int .i16 t1, .int .i8 x1, .int .i16 d1] 58) := ⟨_, rfl⟩
    have hb : Below wG.heap.size wG wbG := by rw [hwb]; exact (Below.refl _ _).alloc (Nat.le_refl _) _
    have BxG : Hid (HouAt wbG wG.heap.size (.slice AG mk cG) t1 x1 d1) := Lib.hid (by rw [hwb]; exact HouAt.new wG _ t1 x1 d1 _)
    have LBG := Lib.hid BxG.out.lt
    have KG := Lib.hid (hK.next hb)
    have QG := Lib.hid ((owns_next hO hb))
    have HWBG := Lib.hid hwb
    clear hK hO hwb
    have z9 := hb.size
    have HB_9 := Lib.hid (below_next HB_8.out hb (Nat.le_refl _))
    have HA_9 := Lib.hid (HA_8.out.next hb)
    have BxW_9 := Lib.hid (BxW_8.out.next hb)
    have KW_9 := Lib.hid (KW_8.out.next hb)
    have QW_9 := Lib.hid (owns_next QW_8.out hb)
    have BX_9 := Lib.hid (BX_8.out.next hb)
    have KX_9 := Lib.hid (KX_8.out.next hb)
    have QX_9 := Lib.hid (owns_next QX_8.out hb)
    clear hb HB_8 HA_8 BxW_8 KW_8 QW_8 BX_8 KX_8 QX_8
    have a0 := BxG.out.c0
    have a1 := BxG.out.c1
    have a2 := BxG.out.c2
    have a3 := BxG.out.c3
    have b0 := BxW_9.out.c0
    have b1 := BxW_9.out.c1
    have b2 := BxW_9.out.c2
    have b3 := BxW_9.out.c3
    go_wp2_with (first | (rw [← HWBG.out]) | fail)
    refine (eqHouse_same KG.out KW_9.out (by have := HM4.out; omega)).mono ?_
    rintro o u ⟨rfl, hb⟩
    have z10 := hb.size
    have HB_10 := Lib.hid (below_next HB_9.out hb (Nat.le_refl _))
    have HA_10 := Lib.hid (HA_9.out.next hb)
    have BxW_10 := Lib.hid (BxW_9.out.next hb)
    have KW_10 := Lib.hid (KW_9.out.next hb)
    have QW_10 := Lib.hid (owns_next QW_9.out hb)
    have BX_10 := Lib.hid (BX_9.out.next hb)
    have KX_10 := Lib.hid (KX_9.out.next hb)
    have QX_10 := Lib.hid (owns_next QX_9.out hb)
    have BxG_10 := Lib.hid (BxG.out.next hb)
    have KG_10 := Lib.hid (KG.out.next hb)
    have QG_10 := Lib.hid (owns_next QG.out hb)
    clear hb HB_9 HA_9 BxW_9 KW_9 QW_9 BX_9 KX_9 QX_9 BxG KG QG
    clear a0 a1 a2 a3 b0 b1 b2 b3
    go_wp2_with fail
    refine (intS.eqS_any BG BW _ _ dG dW ys ys rfl rfl (by have := HSM.out; omega) (by have := HSM.out; omega) _ (Sl.of_owns QG_10.out (intS.len _) (by decide)) (Sl.of_owns QW_10.out (intS.len _) (by decide)) true (by simp)).mono ?_
    rintro o u ⟨rfl, hb⟩
    have z11 := hb.size
    have HB_11 := Lib.hid (below_next HB_10.out hb (Nat.le_refl _))
    have HA_11 := Lib.hid (HA_10.out.next hb)
    have BxW_11 := Lib.hid (BxW_10.out.next hb)
    have KW_11 := Lib.hid (KW_10.out.next hb)
    have QW_11 := Lib.hid (owns_next QW_10.out hb)
    have BX_11 := Lib.hid (BX_10.out.next hb)
    have KX_11 := Lib.hid (KX_10.out.next hb)
    have QX_11 := Lib.hid (owns_next QX_10.out hb)
    have BxG_11 := Lib.hid (BxG_10.out.next hb)
    have KG_11 := Lib.hid (KG_10.out.next hb)
    have QG_11 := Lib.hid (owns_next QG_10.out hb)
    clear hb HB_10 HA_10 BxW_10 KW_10 QW_10 BX_10 KX_10 QX_10 BxG_10 KG_10 QG_10
    go_wp2_with fail
    have z12 : u.heap.size ≤ u.drew.heap.size := Nat.le_refl _
    have HB_12 := Lib.hid (HB_11.out.drew)
    have HA_12 := Lib.hid (HA_11.out.next (Below.refl _ _).drew)
    have BxW_12 := Lib.hid (BxW_11.out.next (Below.refl _ _).drew)
    have KW_12 := Lib.hid (KW_11.out.next (Below.refl _ _).drew)
    have QW_12 := Lib.hid (owns_next QW_11.out (Below.refl _ _).drew)
    have BX_12 := Lib.hid (BX_11.out.next (Below.refl _ _).drew)
    have KX_12 := Lib.hid (KX_11.out.next (Below.refl _ _).drew)
    have QX_12 := Lib.hid (owns_next QX_11.out (Below.refl _ _).drew)
    have BxG_12 := Lib.hid (BxG_11.out.next (Below.refl _ _).drew)
    have KG_12 := Lib.hid (KG_11.out.next (Below.refl _ _).drew)
    have QG_12 := Lib.hid (owns_next QG_11.out (Below.refl _ _).drew)
    clear HB_11 HA_11 BxW_11 KW_11 QW_11 BX_11 KX_11 QX_11 BxG_11 KG_11 QG_11
    refine wp_region_held_drew (S := fun u => HouAt u uc.heap.size (.slice (some ⟨gc, 0, none⟩) n n) t x d ∧ HouAt u w.heap.size (.slice A n c) t x d) (by kernel_rfl) ⟨BX_12.out, HA_12.out⟩ (fun hHeld => ?_)
    refine wpAnyH_take (i := 0) (v := houV (.slice (some ⟨gc, 0, none⟩) n n) t x d) rfl (by kernel_rfl) (by kernel_rfl) (by kernel_rfl) (fun _ _ _ h => h) (yieldsIf_load_mid (by rfl) 58 (.tmp 9) rfl uc.heap.size 0 rfl (houL (.slice (some ⟨gc, 0, none⟩) n n) t x d) _ (fun u h => h.1.range) Tryd.underlying58 rfl infoH) hHeld ?_
    (try simp only [Act.put, List.getElem_toArray, List.getElem_cons_zero, List.setIfInBounds_toArray, List.set_cons_zero, List.set_cons_succ])
    refine wpAnyH_take (i := 1) (v := houV (.slice A n c) t x d) rfl (by kernel_rfl) (by kernel_rfl) (by kernel_rfl) (fun _ _ _ h => h) (yieldsIf_load_mid (by rfl) 54 (.tmp 2) rfl w.heap.size 0 rfl (houL (.slice A n c) t x d) _ (fun u h => h.2.range) Tryd.underlying54 rfl infoLH) hHeld ?_
    (try simp only [Act.put, List.getElem_toArray, List.getElem_cons_zero, List.getElem_cons_succ, List.setIfInBounds_toArray, List.set_cons_zero, List.set_cons_succ])
    refine wpAnyH_ready (rs := [2]) (by kernel_rfl) (by simp) ?_
    refine AllReadyH.cons rfl (fun K hK => ?_) AllReadyH.nil
    go_simp
    have h1 := toHouse_any A c xs t x d HLE.out _ ((HG.out.below HB_12.out).more HB_12.out.size)
    rw [← En.out] at h1
    refine h1.mono ?_
    clear h1
    rintro o uf ⟨gf, rfl, hP, hb⟩
    have S10 := Lib.hid (Sl.of_owns hP (stkC_len xs) (by decide))
    have hh := And.intro (hHeld.1.next hb) (hHeld.2.next hb)
    clear hP
    have z13 := hb.size
    have HB_13 := Lib.hid (below_next HB_12.out hb (Nat.le_refl _))
    have HA_13 := Lib.hid (HA_12.out.next hb)
    have BxW_13 := Lib.hid (BxW_12.out.next hb)
    have KW_13 := Lib.hid (KW_12.out.next hb)
    have QW_13 := Lib.hid (owns_next QW_12.out hb)
    have BX_13 := Lib.hid (BX_12.out.next hb)
    have KX_13 := Lib.hid (KX_12.out.next hb)
    have QX_13 := Lib.hid (owns_next QX_12.out hb)
    have BxG_13 := Lib.hid (BxG_12.out.next hb)
    have KG_13 := Lib.hid (KG_12.out.next hb)
    have QG_13 := Lib.hid (owns_next QG_12.out hb)
    clear hb HB_12 HA_12 BxW_12 KW_12 QW_12 BX_12 KX_12 QX_12 BxG_12 KG_12 QG_12
    refine hK.out _ _ (hh) (fun hHeld2 => ?_)
    clear hK K hHeld
    have hHeld := hHeld2
    clear hHeld2
    try simp only [Act.put, List.getElem_toArray, List.getElem_cons_zero, List.getElem_cons_succ, List.setIfInBounds_toArray, List.set_cons_zero, List.set_cons_succ]
    clear hh
    refine wpAnyH_ready (rs := [3]) (by kernel_rfl) (by simp) ?_
    refine AllReadyH.cons rfl (fun K hK => ?_) AllReadyH.nil
    go_simp
    refine (eqHouse_any (some ⟨gc, 0, none⟩) (some ⟨gf, 0, none⟩) n n n n xs xs t x d t x d En.out En.out HN.out (by have := HN.out; omega) _ (by have h := KX_13.out.o; rw [← En.out] at h; exact Sl.of_owns h (stkC_len xs) (by decide)) S10.out true true (iff_of_true rfl (eqL_refl xs)) (by simp)).mono ?_
    rintro o u ⟨rfl, hb⟩
    have hh := And.intro (hHeld.1.next hb) (hHeld.2.next hb)
    clear S10
    have z14 := hb.size
    have HB_14 := Lib.hid (below_next HB_13.out hb (Nat.le_refl _))
    have HA_14 := Lib.hid (HA_13.out.next hb)
    have BxW_14 := Lib.hid (BxW_13.out.next hb)
    have KW_14 := Lib.hid (KW_13.out.next hb)
    have QW_14 := Lib.hid (owns_next QW_13.out hb)
    have BX_14 := Lib.hid (BX_13.out.next hb)
    have KX_14 := Lib.hid (KX_13.out.next hb)
    have QX_14 := Lib.hid (owns_next QX_13.out hb)
    have BxG_14 := Lib.hid (BxG_13.out.next hb)
    have KG_14 := Lib.hid (KG_13.out.next hb)
    have QG_14 := Lib.hid (owns_next QG_13.out hb)
    clear hb HB_13 HA_13 BxW_13 KW_13 QW_13 BX_13 KX_13 QX_13 BxG_13 KG_13 QG_13
    refine hK.out _ _ (hh) (fun hHeld2 => ?_)
    clear hK K hHeld
    have hHeld := hHeld2
    clear hHeld2
    try simp only [Act.put, List.getElem_toArray, List.getElem_cons_zero, List.getElem_cons_succ, List.setIfInBounds_toArray, List.set_cons_zero, List.set_cons_succ]
    clear hh
    refine wpAnyH_ready (rs := [4]) (by kernel_rfl) (by simp) ?_
    refine AllReadyH.cons rfl (fun K hK => ?_) AllReadyH.nil
    go_simp
    refine hK.out _ _ (hHeld) (fun hHeld2 => ?_)
    clear hK K hHeld
    have hHeld := hHeld2
    clear hHeld2
    try simp only [Act.put, List.getElem_toArray, List.getElem_cons_zero, List.getElem_cons_succ, List.setIfInBounds_toArray, List.set_cons_zero, List.set_cons_succ]
    refine wpAnyH_done (by kernel_rfl) ?_ _
    clear hHeld
    go_wp2_with fail
    refine (intS.toS_any A' m c' rs Em.out hm1 _ ((HG'.out.below HB_14.out).more HB_14.out.size)).mono ?_
    rintro o uh ⟨gh, rfl, P, hb⟩
    have Y3 := Lib.hid (Sl.of_owns P (intS.len _) (by decide))
    clear P
    have z15 := hb.size
    have HB_15 := Lib.hid (below_next HB_14.out hb (Nat.le_refl _))
    have HA_15 := Lib.hid (HA_14.out.next hb)
    have BxW_15 := Lib.hid (BxW_14.out.next hb)
    have KW_15 := Lib.hid (KW_14.out.next hb)
    have QW_15 := Lib.hid (owns_next QW_14.out hb)
    have BX_15 := Lib.hid (BX_14.out.next hb)
    have KX_15 := Lib.hid (KX_14.out.next hb)
    have QX_15 := Lib.hid (owns_next QX_14.out hb)
    have BxG_15 := Lib.hid (BxG_14.out.next hb)
    have KG_15 := Lib.hid (KG_14.out.next hb)
    have QG_15 := Lib.hid (owns_next QG_14.out hb)
    clear hb HB_14 HA_14 BxW_14 KW_14 QW_14 BX_14 KX_14 QX_14 BxG_14 KG_14 QG_14
    go_wp2_with fail
    refine (intS.eqS_any (some ⟨ge, 0, none⟩) (some ⟨gh, 0, none⟩) m m m m rs rs Em.out Em.out hm1 (by omega) _ (Sl.of_owns QX_15.out (intS.len _) (by decide)) Y3.out true (by simp)).mono ?_
    rintro o u ⟨rfl, hb⟩
    clear Y3
    have z16 := hb.size
    have HB_16 := Lib.hid (below_next HB_15.out hb (Nat.le_refl _))
    have HA_16 := Lib.hid (HA_15.out.next hb)
    have BxW_16 := Lib.hid (BxW_15.out.next hb)
    have KW_16 := Lib.hid (KW_15.out.next hb)
    have QW_16 := Lib.hid (owns_next QW_15.out hb)
    have BX_16 := Lib.hid (BX_15.out.next hb)
    have KX_16 := Lib.hid (KX_15.out.next hb)
    have QX_16 := Lib.hid (owns_next QX_15.out hb)
    have BxG_16 := Lib.hid (BxG_15.out.next hb)
    have KG_16 := Lib.hid (KG_15.out.next hb)
    have QG_16 := Lib.hid (owns_next QG_15.out hb)
    clear hb HB_15 HA_15 BxW_15 KW_15 QW_15 BX_15 KX_15 QX_15 BxG_15 KG_15 QG_15
    have a0 := BX_16.out.c0
    have a1 := BX_16.out.c1
    have a2 := BX_16.out.c2
    have a3 := BX_16.out.c3
    go_wp2_with fail
    refine (markHouse_any KX_16.out (by have := HB_16.out.size; omega) t x d 1 (by omega) (by have := HM4.out; have := HLE.out; omega)).mono ?_
    rintro o u ⟨rfl, hKm, hb, hsame⟩
    have hbut : But (fun k => (Value.slice (some ⟨gc, 0, none⟩) n n).ownBlock = some k) _ u := ⟨hb.os, hb.tape, hb.output, hb.size, fun k hk hn => hsame k hk (fun e => hn e)⟩
    clear hb hsame
    clear KX_16
    clear hKm
    have z17 := hbut.size
    have HB_17 := Lib.hid (HB_16.out.trans (But.below hbut HB_16.out.size (fun k hk => by have t1 := FX.out k hk; have t2 := HA1lt.out; omega)))
    have HA_17 := Lib.hid (HA_16.out.same hbut.size (hbut.block _ HA_16.out.lt (fun hx => by have t1 := FX.out _ hx; have t2 := HA1lt.out; omega)))
    have BxW_17 := Lib.hid (BxW_16.out.same hbut.size (hbut.block _ BxW_16.out.lt (fun hx => by have t1 := FX.out _ hx; have t2 := LBW.out; omega)))
    have KW_17 : Hid (KO _ _ (Value.slice AW mk cW) ks) := Lib.hid (⟨owns_but KW_16.out.o hbut (fun k hk hx => by have t1 := FX.out _ hx; have t2 := FW.out _ hk; have t3 := LBW.out; omega)⟩)
    have QW_17 := Lib.hid (owns_but QW_16.out hbut (fun k hk hx => by have t1 := FX.out _ hx; have t2 := EW.out _ hk; have t3 := LBW.out; omega))
    have BX_17 := Lib.hid (BX_16.out.same hbut.size (hbut.block _ BX_16.out.lt (fun hx => by have t1 := FX.out _ hx; omega)))
    have QX_17 := Lib.hid (owns_but QX_16.out hbut (fun k hk hx => by have t1 := FX.out _ hx; have t2 := EX.out _ hk; have t3 := LBX.out; omega))
    have BxG_17 := Lib.hid (BxG_16.out.same hbut.size (hbut.block _ BxG_16.out.lt (fun hx => by have t1 := FX.out _ hx; have t3 := LBX.out; omega)))
    have KG_17 : Hid (KO _ _ (Value.slice AG mk cG) ks) := Lib.hid (⟨owns_but KG_16.out.o hbut (fun k hk hx => by have t1 := FX.out _ hx; have t2 := FG.out _ hk; have t3 := LBX.out; omega)⟩)
    have QG_17 := Lib.hid (owns_but QG_16.out hbut (fun k hk hx => by have t1 := FX.out _ hx; have t2 := EG.out _ hk; have t3 := LBX.out; omega))
    clear hbut HB_16 HA_16 BxW_16 KW_16 QW_16 BX_16 QX_16 BxG_16 KG_16 QG_16
    clear BX_17
    clear a0 a1 a2 a3
    obtain ⟨kx, hkx⟩ : ∃ kx : Int, 1 + 25 * (xs.length : Int) = kx := ⟨_, rfl⟩
    rw [hkx]
    have hkx2 : 1 ≤ kx ∧ kx ≤ 100000000 := by have := HLE.out; omega
    have HKX := Lib.hid hkx2
    clear hkx hkx2
    go_wp2_with fail
    refine (markI_butH _ _ m kx (by have := HKX.out; omega) hm1 _ _ QX_17.out).mono ?_
    rintro o u ⟨rfl, _, hbut⟩
    have k1 : decide (kx + (m : Int) < 0) = false := by have := HKX.out; simp; omega
    clear QX_17
    have z18 := hbut.size
    have HB_18 := Lib.hid (HB_17.out.trans (But.below hbut HB_17.out.size (fun k hk => by have t1 := EX.out k hk; have t2 := HA1lt.out; omega)))
    have HA_18 := Lib.hid (HA_17.out.same hbut.size (hbut.block _ HA_17.out.lt (fun hx => by have t1 := EX.out _ hx; have t2 := HA1lt.out; omega)))
    have BxW_18 := Lib.hid (BxW_17.out.same hbut.size (hbut.block _ BxW_17.out.lt (fun hx => by have t1 := EX.out _ hx; have t2 := LBX.out; omega)))
    have KW_18 : Hid (KO _ _ (Value.slice AW mk cW) ks) := Lib.hid (⟨owns_but KW_17.out.o hbut (fun k hk hx => by have t1 := EX.out _ hx; have t2 := FW.out _ hk; have t3 := LBX.out; omega)⟩)
    have QW_18 := Lib.hid (owns_but QW_17.out hbut (fun k hk hx => by have t1 := EX.out _ hx; have t2 := EW.out _ hk; have t3 := LBX.out; omega))
    have BxG_18 := Lib.hid (BxG_17.out.same hbut.size (hbut.block _ BxG_17.out.lt (fun hx => by have t1 := EX.out _ hx; omega)))
    have KG_18 : Hid (KO _ _ (Value.slice AG mk cG) ks) := Lib.hid (⟨owns_but KG_17.out.o hbut (fun k hk hx => by have t1 := EX.out _ hx; have t2 := FG.out _ hk; omega)⟩)
    have QG_18 := Lib.hid (owns_but QG_17.out hbut (fun k hk hx => by have t1 := EX.out _ hx; have t2 := EG.out _ hk; omega))
    clear hbut HB_17 HA_17 BxW_17 KW_17 QW_17 BxG_17 KG_17 QG_17
    have a0 := BxG_18.out.c0
    have a1 := BxG_18.out.c1
    have a2 := BxG_18.out.c2
    have a3 := BxG_18.out.c3
    have b0 := BxW_18.out.c0
    have b1 := BxW_18.out.c1
    have b2 := BxW_18.out.c2
    have b3 := BxW_18.out.c3
    go_wp2_with fail
    refine (eqHouse_same KG_18.out KW_18.out (by have := HM4.out; omega)).mono ?_
    rintro o u ⟨rfl, hb⟩
    have z19 := hb.size
    have HB_19 := Lib.hid (below_next HB_18.out hb (Nat.le_refl _))
    have HA_19 := Lib.hid (HA_18.out.next hb)
    have BxW_19 := Lib.hid (BxW_18.out.next hb)
    have KW_19 := Lib.hid (KW_18.out.next hb)
    have QW_19 := Lib.hid (owns_next QW_18.out hb)
    have BxG_19 := Lib.hid (BxG_18.out.next hb)
    have KG_19 := Lib.hid (KG_18.out.next hb)
    have QG_19 := Lib.hid (owns_next QG_18.out hb)
    clear hb HB_18 HA_18 BxW_18 KW_18 QW_18 BxG_18 KG_18 QG_18
    clear a0 a1 a2 a3 b0 b1 b2 b3
    go_wp2_with fail
    refine (intS.eqS_any BG BW _ _ dG dW ys ys rfl rfl (by have := HSM.out; omega) (by have := HSM.out; omega) _ (Sl.of_owns QG_19.out (intS.len _) (by decide)) (Sl.of_owns QW_19.out (intS.len _) (by decide)) true (by simp)).mono ?_
    rintro o u ⟨rfl, hb⟩
    have z20 := hb.size
    have HB_20 := Lib.hid (below_next HB_19.out hb (Nat.le_refl _))
    have HA_20 := Lib.hid (HA_19.out.next hb)
    have BxW_20 := Lib.hid (BxW_19.out.next hb)
    have KW_20 := Lib.hid (KW_19.out.next hb)
    have QW_20 := Lib.hid (owns_next QW_19.out hb)
    have BxG_20 := Lib.hid (BxG_19.out.next hb)
    have KG_20 := Lib.hid (KG_19.out.next hb)
    have QG_20 := Lib.hid (owns_next QG_19.out hb)
    clear hb HB_19 HA_19 BxW_19 KW_19 QW_19 BxG_19 KG_19 QG_19
    have a0 := BxG_20.out.c0
    have a1 := BxG_20.out.c1
    have a2 := BxG_20.out.c2
    have a3 := BxG_20.out.c3
    go_wp2_with fail
    refine (markHouse_any KG_20.out (by have := HB_20.out.size; omega) t1 x1 d1 1 (by omega) (by have := HM4.out; have := HLE.out; omega)).mono ?_
    rintro o u ⟨rfl, hKm, hb, hsame⟩
    have hbut : But (fun k => (Value.slice AG mk cG).ownBlock = some k) _ u := ⟨hb.os, hb.tape, hb.output, hb.size, fun k hk hn => hsame k hk (fun e => hn e)⟩
    clear hb hsame
    clear KG_20
    rw [← HM4.out.1] at hKm ⊢
    have KM := Lib.hid hKm
    clear hKm
    have z21 := hbut.size
    have HB_21 := Lib.hid (HB_20.out.trans (But.below hbut HB_20.out.size (fun k hk => by have t1 := FG.out k hk; have t2 := HA1lt.out; omega)))
    have HA_21 := Lib.hid (HA_20.out.same hbut.size (hbut.block _ HA_20.out.lt (fun hx => by have t1 := FG.out _ hx; have t2 := HA1lt.out; omega)))
    have BxW_21 := Lib.hid (BxW_20.out.same hbut.size (hbut.block _ BxW_20.out.lt (fun hx => by have t1 := FG.out _ hx; have t2 := LBX.out; omega)))
    have KW_21 : Hid (KO _ _ (Value.slice AW mk cW) ks) := Lib.hid (⟨owns_but KW_20.out.o hbut (fun k hk hx => by have t1 := FG.out _ hx; have t2 := FW.out _ hk; have t3 := LBX.out; omega)⟩)
    have QW_21 := Lib.hid (owns_but QW_20.out hbut (fun k hk hx => by have t1 := FG.out _ hx; have t2 := EW.out _ hk; have t3 := LBX.out; omega))
    have BxG_21 := Lib.hid (BxG_20.out.same hbut.size (hbut.block _ BxG_20.out.lt (fun hx => by have t1 := FG.out _ hx; omega)))
    have QG_21 := Lib.hid (owns_but QG_20.out hbut (fun k hk hx => DG.out _ hx hk))
    clear hbut HB_20 HA_20 BxW_20 KW_20 QW_20 BxG_20 QG_20
    clear a0 a1 a2 a3
    obtain ⟨kg, hkg⟩ : ∃ kg : Int, 1 + 25 * (mk : Int) = kg := ⟨_, rfl⟩
    rw [hkg]
    have hkg2 : 1 ≤ kg ∧ kg ≤ 101 := by have := HM4.out; omega
    have HKG := Lib.hid hkg
    have HKG2 := Lib.hid hkg2
    have hkg3 : ¬ kg < 0 := by omega
    clear hkg hkg2
    go_wp2_with fail
    refine (markI_butH _ _ ys.length kg (by have := HKG2.out; omega) (by have := HSM.out; omega) _ _ QG_21.out).mono ?_
    rintro o u ⟨rfl, hOm, hbut⟩
    clear QG_21
    have QM := Lib.hid hOm
    clear hOm
    have z22 := hbut.size
    have HB_22 := Lib.hid (HB_21.out.trans (But.below hbut HB_21.out.size (fun k hk => by have t1 := EG.out k hk; have t2 := HA1lt.out; omega)))
    have HA_22 := Lib.hid (HA_21.out.same hbut.size (hbut.block _ HA_21.out.lt (fun hx => by have t1 := EG.out _ hx; have t2 := HA1lt.out; omega)))
    have BxW_22 := Lib.hid (BxW_21.out.same hbut.size (hbut.block _ BxW_21.out.lt (fun hx => by have t1 := EG.out _ hx; have t2 := LBX.out; omega)))
    have KW_22 : Hid (KO _ _ (Value.slice AW mk cW) ks) := Lib.hid (⟨owns_but KW_21.out.o hbut (fun k hk hx => by have t1 := EG.out _ hx; have t2 := FW.out _ hk; have t3 := LBX.out; omega)⟩)
    have QW_22 := Lib.hid (owns_but QW_21.out hbut (fun k hk hx => by have t1 := EG.out _ hx; have t2 := EW.out _ hk; have t3 := LBX.out; omega))
    have BxG_22 := Lib.hid (BxG_21.out.same hbut.size (hbut.block _ BxG_21.out.lt (fun hx => by have t1 := EG.out _ hx; omega)))
    have KM_22 : Hid (KO _ _ (Value.slice AG mk cG) (marksS 1 mk)) := Lib.hid (⟨owns_but KM.out.o hbut (fun k hk hx => DG.out _ hk hx)⟩)
    clear hbut HB_21 HA_21 BxW_21 KW_21 QW_21 BxG_21 KM
    obtain ⟨kt, hkt⟩ : ∃ kt : Int, kg + (ys.length : Int) = kt := ⟨_, rfl⟩
    have hkt3 : ¬ kt < 0 := by have := HKG2.out; omega
    rw [hkt]
    have HKT := Lib.hid hkt
    clear hkt
    have a0 := BxG_22.out.c0
    have a1 := BxG_22.out.c1
    have a2 := BxG_22.out.c2
    have a3 := BxG_22.out.c3
    go_wp2_with fail
    refine (heldHouse_any KM_22.out t1 x1 d1 (by omega) (by have := HM4.out; omega)).mono ?_
    rintro o u ⟨rfl, hb⟩
    rw [HKG.out]
    have z23 := hb.size
    have HB_23 := Lib.hid (below_next HB_22.out hb (Nat.le_refl _))
    have HA_23 := Lib.hid (HA_22.out.next hb)
    have BxW_23 := Lib.hid (BxW_22.out.next hb)
    have KW_23 := Lib.hid (KW_22.out.next hb)
    have QW_23 := Lib.hid (owns_next QW_22.out hb)
    have BxG_23 := Lib.hid (BxG_22.out.next hb)
    have KM_23 := Lib.hid (KM_22.out.next hb)
    have QM_23 := Lib.hid (owns_next QM.out hb)
    clear hb HB_22 HA_22 BxW_22 KW_22 QW_22 BxG_22 KM_22 QM
    clear a0 a1 a2 a3
    go_wp2_with fail
    refine (intS.heldS_any BG ys.length dG kg (by have := HKG2.out; omega) (by have := HSM.out; omega) _ _ (Sl.of_owns QM_23.out (intS.len _) (by decide))).mono ?_
    rintro o u ⟨rfl, rfl⟩
    rw [HKT.out]
    have a0 := HA_23.out.c0
    have a1 := HA_23.out.c1
    have a2 := HA_23.out.c2
    have a3 := HA_23.out.c3
    go_wp2_with fail
    have h1 := toHouse_any A c xs t x d HLE.out _ ((HG.out.below HB_23.out).more HB_23.out.size)
    rw [← En.out] at h1
    refine h1.mono ?_
    clear h1
    rintro o ui ⟨gi, rfl, hP, hb⟩
    have S2 := Lib.hid (Sl.of_owns hP (stkC_len xs) (by decide))
    clear hP a0 a1 a2 a3
    have z24 := hb.size
    have HB_24 := Lib.hid (below_next HB_23.out hb (Nat.le_refl _))
    have HA_24 := Lib.hid (HA_23.out.next hb)
    have BxW_24 := Lib.hid (BxW_23.out.next hb)
    have KW_24 := Lib.hid (KW_23.out.next hb)
    have QW_24 := Lib.hid (owns_next QW_23.out hb)
    have BxG_24 := Lib.hid (BxG_23.out.next hb)
    have KM_24 := Lib.hid (KM_23.out.next hb)
    have QM_24 := Lib.hid (owns_next QM_23.out hb)
    clear hb HB_23 HA_23 BxW_23 KW_23 QW_23 BxG_23 KM_23 QM_23
    go_wp2_with fail
    refine (intS.toS_any A' m c' rs Em.out hm1 _ ((HG'.out.below HB_24.out).more HB_24.out.size)).mono ?_
    rintro o uj ⟨gj, rfl, P, hb⟩
    have Y3 := Lib.hid (Sl.of_owns P (intS.len _) (by decide))
    clear P
    have z25 := hb.size
    have HB_25 := Lib.hid (below_next HB_24.out hb (Nat.le_refl _))
    have HA_25 := Lib.hid (HA_24.out.next hb)
    have BxW_25 := Lib.hid (BxW_24.out.next hb)
    have KW_25 := Lib.hid (KW_24.out.next hb)
    have QW_25 := Lib.hid (owns_next QW_24.out hb)
    have BxG_25 := Lib.hid (BxG_24.out.next hb)
    have KM_25 := Lib.hid (KM_24.out.next hb)
    have QM_25 := Lib.hid (owns_next QM_24.out hb)
    have S2_25 := Lib.hid (S2.out.next hb)
    clear hb HB_24 HA_24 BxW_24 KW_24 QW_24 BxG_24 KM_24 QM_24 S2
    have hcall := DayOnce_any (some ⟨gi, 0, none⟩) n n xs t x d En.out HN.out (Nat.le_refl _) (by have := HN.out; unfold maxLen; omega) HF.out HT.out HX.out HD.out (some ⟨gj, 0, none⟩) m m rs Em.out (by omega) (HE.out.below HB_25.out) HB_25.out.size S2_25.out Y3.out
    rw [HR.out.1, HR.out.2.1, HR.out.2.2.1, HR.out.2.2.2.1, HR.out.2.2.2.2.1, HR.out.2.2.2.2.2] at hcall
    go_wp2_with fail
    refine hcall.mono ?_
    clear hcall Y3
    clear S2_25
    rintro o wH ⟨v, vs, rfl, hK, hO, hb⟩
    obtain ⟨AH, cH, rfl, _⟩ := owns_slice hK.o
    obtain ⟨BH, dH, rfl, _⟩ := owns_slice hO
    rw [← HM4.out.1] at hK ⊢
    have EH : Hid (∀ k, (Value.slice BH ys.length dH).ownBlock = some k → _ ≤ k ∧ k < _) := Lib.hid fun k hk => hO.lt k hk
    have FH : Hid (∀ k, (Value.slice AH mk cH).ownBlock = some k → _ ≤ k ∧ k < _) := Lib.hid fun k hk => hK.o.lt k hk
    have DH : Hid (∀ k, (Value.slice AH mk cH).ownBlock = some k → ¬ (Value.slice BH ys.length dH).ownBlock = some k) := Lib.hid (ko_apartI hK hO)
    have z26 := hb.size
    have HB_26 := Lib.hid (below_next HB_25.out hb (Nat.le_refl _))
    have HA_26 := Lib.hid (HA_25.out.next hb)
    have BxW_26 := Lib.hid (BxW_25.out.next hb)
    have KW_26 := Lib.hid (KW_25.out.next hb)
    have QW_26 := Lib.hid (owns_next QW_25.out hb)
    have BxG_26 := Lib.hid (BxG_25.out.next hb)
    have KM_26 := Lib.hid (KM_25.out.next hb)
    have QM_26 := Lib.hid (owns_next QM_25.out hb)
    clear hb HB_25 HA_25 BxW_25 KW_25 QW_25 BxG_25 KM_25 QM_25
    obtain ⟨wbH, hwb⟩ : ∃ u, u = wH.alloc (.cells #[.slice AH mk cH, .int .i16 t1, .int .i8 x1, .int .i16 d1] 58) := ⟨_, rfl⟩
    have hb : Below wH.heap.size wH wbH := by rw [hwb]; exact (Below.refl _ _).alloc (Nat.le_refl _) _
    have BxH : Hid (HouAt wbH wH.heap.size (.slice AH mk cH) t1 x1 d1) := Lib.hid (by rw [hwb]; exact HouAt.new wH _ t1 x1 d1 _)
    have LBH := Lib.hid BxH.out.lt
    have KH := Lib.hid (hK.next hb)
    have QH := Lib.hid ((owns_next hO hb))
    have HWBH := Lib.hid hwb
    clear hK hO hwb
    have z27 := hb.size
    have HB_27 := Lib.hid (below_next HB_26.out hb (Nat.le_refl _))
    have HA_27 := Lib.hid (HA_26.out.next hb)
    have BxW_27 := Lib.hid (BxW_26.out.next hb)
    have KW_27 := Lib.hid (KW_26.out.next hb)
    have QW_27 := Lib.hid (owns_next QW_26.out hb)
    have BxG_27 := Lib.hid (BxG_26.out.next hb)
    have KM_27 := Lib.hid (KM_26.out.next hb)
    have QM_27 := Lib.hid (owns_next QM_26.out hb)
    clear hb HB_26 HA_26 BxW_26 KW_26 QW_26 BxG_26 KM_26 QM_26
    have a0 := BxH.out.c0
    have a1 := BxH.out.c1
    have a2 := BxH.out.c2
    have a3 := BxH.out.c3
    have b0 := BxW_27.out.c0
    have b1 := BxW_27.out.c1
    have b2 := BxW_27.out.c2
    have b3 := BxW_27.out.c3
    go_wp2_with (first | (rw [← HWBH.out]) | fail)
    refine (eqHouse_same KH.out KW_27.out (by have := HM4.out; omega)).mono ?_
    rintro o u ⟨rfl, hb⟩
    have z28 := hb.size
    have HB_28 := Lib.hid (below_next HB_27.out hb (Nat.le_refl _))
    have HA_28 := Lib.hid (HA_27.out.next hb)
    have BxW_28 := Lib.hid (BxW_27.out.next hb)
    have KW_28 := Lib.hid (KW_27.out.next hb)
    have QW_28 := Lib.hid (owns_next QW_27.out hb)
    have BxG_28 := Lib.hid (BxG_27.out.next hb)
    have KM_28 := Lib.hid (KM_27.out.next hb)
    have QM_28 := Lib.hid (owns_next QM_27.out hb)
    have BxH_28 := Lib.hid (BxH.out.next hb)
    have KH_28 := Lib.hid (KH.out.next hb)
    have QH_28 := Lib.hid (owns_next QH.out hb)
    clear hb HB_27 HA_27 BxW_27 KW_27 QW_27 BxG_27 KM_27 QM_27 BxH KH QH
    clear a0 a1 a2 a3 b0 b1 b2 b3
    go_wp2_with fail
    refine (intS.eqS_any BH BW _ _ dH dW ys ys rfl rfl (by have := HSM.out; omega) (by have := HSM.out; omega) _ (Sl.of_owns QH_28.out (intS.len _) (by decide)) (Sl.of_owns QW_28.out (intS.len _) (by decide)) true (by simp)).mono ?_
    rintro o u ⟨rfl, hb⟩
    have z29 := hb.size
    have HB_29 := Lib.hid (below_next HB_28.out hb (Nat.le_refl _))
    have HA_29 := Lib.hid (HA_28.out.next hb)
    have BxW_29 := Lib.hid (BxW_28.out.next hb)
    have KW_29 := Lib.hid (KW_28.out.next hb)
    have QW_29 := Lib.hid (owns_next QW_28.out hb)
    have BxG_29 := Lib.hid (BxG_28.out.next hb)
    have KM_29 := Lib.hid (KM_28.out.next hb)
    have QM_29 := Lib.hid (owns_next QM_28.out hb)
    have BxH_29 := Lib.hid (BxH_28.out.next hb)
    have KH_29 := Lib.hid (KH_28.out.next hb)
    have QH_29 := Lib.hid (owns_next QH_28.out hb)
    clear hb HB_28 HA_28 BxW_28 KW_28 QW_28 BxG_28 KM_28 QM_28 BxH_28 KH_28 QH_28
    have a0 := BxG_29.out.c0
    have a1 := BxG_29.out.c1
    have a2 := BxG_29.out.c2
    have a3 := BxG_29.out.c3
    go_wp2_with fail
    refine (heldHouse_any KM_29.out t1 x1 d1 (by omega) (by have := HM4.out; omega)).mono ?_
    rintro o u ⟨rfl, hb⟩
    rw [HKG.out]
    have z30 := hb.size
    have HB_30 := Lib.hid (below_next HB_29.out hb (Nat.le_refl _))
    have HA_30 := Lib.hid (HA_29.out.next hb)
    have BxW_30 := Lib.hid (BxW_29.out.next hb)
    have KW_30 := Lib.hid (KW_29.out.next hb)
    have QW_30 := Lib.hid (owns_next QW_29.out hb)
    have BxG_30 := Lib.hid (BxG_29.out.next hb)
    have KM_30 := Lib.hid (KM_29.out.next hb)
    have QM_30 := Lib.hid (owns_next QM_29.out hb)
    have BxH_30 := Lib.hid (BxH_29.out.next hb)
    have KH_30 := Lib.hid (KH_29.out.next hb)
    have QH_30 := Lib.hid (owns_next QH_29.out hb)
    clear hb HB_29 HA_29 BxW_29 KW_29 QW_29 BxG_29 KM_29 QM_29 BxH_29 KH_29 QH_29
    clear a0 a1 a2 a3
    go_wp2_with fail
    refine (intS.heldS_any BG ys.length dG kg (by have := HKG2.out; omega) (by have := HSM.out; omega) _ _ (Sl.of_owns QM_30.out (intS.len _) (by decide))).mono ?_
    rintro o u ⟨rfl, rfl⟩
    rw [HKT.out]
    go_wp2_with fail
    go_ret
    exact ⟨rfl, HB_30.out⟩

theorem walk_big (A : Option Addr) (n c : Nat) (t x d : Int) (hn : 1048576 < n) (hm : n ≤ 9223372036854775807) (A' : Option Addr) (m c' : Nat) (w : World) :
    Calls Tryd.prog 10 #[houV (.slice A n c) t x d, .slice A' m c'] w fun o w' => o = .returned (.bool true) ∧ Below w.heap.size w w' := by
  have B0 := Lib.hid ((Below.refl w.heap.size w).alloc (Nat.le_refl _) (.cells #[.slice A n c, .int .i16 t, .int .i8 x, .int .i16 d] 54))
  go_enter Tryd.func10, Tryd.ntmps10
  by_cases hbig : 1048576 < m
  · have hd1 : decide ((1048576 : Int) < (m : Int)) = true := decide_eq_true (by omega)
    go_wp2_with fail
    go_ret
    exact ⟨rfl, B0.out⟩
  · have hd1 : decide ((1048576 : Int) < (m : Int)) = false := decide_eq_false (by omega)
    go_wp2_with fail
    refine (szHouse_any A n c t x d 1048576 hm (by omega) _).mono ?_
    rintro o w1 ⟨rfl, hb1⟩
    rw [if_pos (by omega)]
    have HB1 := Lib.hid (below_next B0.out hb1 (by simp))
    clear hb1
    go_wp2_with fail
    go_ret
    exact ⟨rfl, HB1.out⟩

theorem readables : ∀ t ∈ Tryd.f10.params.toList, Tryd.prog.readableRec t = true ∧ t < Tryd.prog.types.size := by
  rw [Tryd.params10]
  intro t ht
  simp only [List.mem_cons, List.not_mem_nil, or_false] at ht
  rcases ht with rfl | rfl <;> exact ⟨by kernel_rfl, of_decide_eq_true (by kernel_rfl)⟩

set_option maxRecDepth 100000 in
/-- what the row's list gives -/
theorem errsLaid {W : World} (h : laidMetH Tryd.prog Rows.fnExactDayOnceRow.laid W) : ∃ e, Errs W W.heap.size e := by
  rw [MakeChecks.laidMetH_plain _ _ _ (by kernel_rfl)] at h
  refine errs_of Rows.fnExactDayOnceRow.laid (fun i => i) h (by kernel_rfl) ?_ ?_ (fun i j _ _ h => h)
  · have hall : ((listOf Rows.fnExactDayOnceRow.laid).all fun x => match Tryd.prog.globalNamed x.1 with | some g => decide ((Tryd.prog.globals[g]?).map (·.type) = some 80) | none => false) = true := by kernel_rfl
    intro x hx
    have h1 := List.all_eq_true.1 hall x hx
    split at h1
    · rename_i g hg
      exact ⟨g, hg, of_decide_eq_true h1⟩
    · cases h1
  · have b0 : ((listOf Rows.fnExactDayOnceRow.laid)[0]?).bind (fun x => Tryd.prog.globalNamed x.1) = some (gvar 0) := by kernel_rfl
    have b1 : ((listOf Rows.fnExactDayOnceRow.laid)[1]?).bind (fun x => Tryd.prog.globalNamed x.1) = some (gvar 1) := by kernel_rfl
    have b2 : ((listOf Rows.fnExactDayOnceRow.laid)[2]?).bind (fun x => Tryd.prog.globalNamed x.1) = some (gvar 2) := by kernel_rfl
    have b3 : ((listOf Rows.fnExactDayOnceRow.laid)[3]?).bind (fun x => Tryd.prog.globalNamed x.1) = some (gvar 3) := by kernel_rfl
    have b4 : ((listOf Rows.fnExactDayOnceRow.laid)[4]?).bind (fun x => Tryd.prog.globalNamed x.1) = some (gvar 4) := by kernel_rfl
    have b5 : ((listOf Rows.fnExactDayOnceRow.laid)[5]?).bind (fun x => Tryd.prog.globalNamed x.1) = some (gvar 5) := by kernel_rfl
    have b6 : ((listOf Rows.fnExactDayOnceRow.laid)[6]?).bind (fun x => Tryd.prog.globalNamed x.1) = some (gvar 6) := by kernel_rfl
    intro i hi
    match i, hi with
    | 0, _ => exact b0
    | 1, _ => exact b1
    | 2, _ => exact b2
    | 3, _ => exact b3
    | 4, _ => exact b4
    | 5, _ => exact b5
    | 6, _ => exact b6

set_option maxRecDepth 100000 in
theorem contract (H : Type) (enc : TypeId × Value → H) (W : World) (base : Nat) (args : Array Value) (ds gs : List (DataW H)) (before : List MemPlace)
    (hval : ∀ (j : Nat) t v, Tryd.f10.params[j]? = some t → args[j]? = some v → Value.okWide Tryd.prog W .any base t v)
    (hW : DataW.Whole enc Tryd.prog Tryd.f10.params.toList Rows.fnExactDayOnceSpec.vars false W args.toList ds gs before) (hL : laidMetH Tryd.prog Rows.fnExactDayOnceRow.laid W) :
    Calls Tryd.prog 10 args W fun e W' => ∃ v, e = .returned v ∧ Rows.fnExactDayOnceSpec.post enc Tryd.prog Tryd.f10 false true false false W args v W' := by
  obtain ⟨ee, hE⟩ := errsLaid hL
  have hW' := hW
  obtain ⟨p, q, hA0, hV, rfl, hfz, hnd⟩ := hW
  have hA : DataW.TrodAll enc Tryd.prog W 0 (fun _ => true) true Tryd.f10.params.toList args.toList ds p := hA0
  rw [Tryd.params10] at hA hval
  clear hA0
  obtain ⟨v0, vs0, d0, ds0, p0, q0, hargs, rfl, rfl, h0, r0⟩ := trodAll_cons hA
  obtain ⟨v1, vs1, d1, ds1, p1, q1, rfl, rfl, rfl, h1, r1⟩ := trodAll_cons r0
  obtain ⟨rfl, rfl, rfl⟩ := trodAll_nil r1
  obtain rfl : args = #[v0, v1] := by cases args; simp_all
  obtain ⟨z0, z1, z2, z3, z4, z5, z6, rfl⟩ := vars_of hV
  obtain ⟨A, c, xs, t, x, d, rfl, hm, hS, hF, ht, hx, hd⟩ := open_house (hval 0 54 v0 rfl rfl) h0
  obtain ⟨A', c', rs, rfl, hm', hS'⟩ := intS.open_many (hval 1 22 v1 rfl rfl) h1
  have hw : Calls Tryd.prog 10 #[houV (.slice A xs.length c) t x d, .slice A' rs.length c'] W fun o w' => o = .returned (.bool true) ∧ Below W.heap.size W w' := by
    unfold maxLen at hm hm'
    by_cases hbig : xs.length ≤ 1048576
    · exact walk_fits A xs.length c xs t x d rfl hbig hF ht hx hd A' rs.length c' rs rfl (by omega) W ee hE hS hS'
    · exact walk_big A xs.length c t x d (by omega) (by omega) A' rs.length c' W
  refine hw.mono fun e W' ⟨he, hb⟩ => ?_
  subst he
  exact ⟨_, rfl, close_vars laidOut readables (by kernel_rfl) Tryd.underlying4 rfl rfl hW' hb⟩

end Go.Proofs.YtdcckdfemelbiaaDoor.lawDayOnce
