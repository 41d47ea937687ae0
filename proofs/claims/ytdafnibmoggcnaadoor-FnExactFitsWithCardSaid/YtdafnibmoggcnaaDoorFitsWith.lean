/-
  THE LAW FnExactFitsWith: for all rules, weights and garments: the law returns true: the program answers as the model does, changes no garment, and what it returns is its own. No condition but that the package's errors are what the program's text lays.
-/
import Derived.Test.YtdafnibmoggcnaaDoorJoin19
import Derived.Test.YtdafnibmoggcnaaDoorJoin20
import Derived.Test.YtdafnibmoggcnaaDoorOpen
import Derived.Test.YtdafnibmoggcnaaDoorJoin17
import Derived.Test.YtdafnibmoggcnaaDoorClose
import Derived.Test.YtdafnibmoggcnaaDoorLaid
import Derived.Test.YtdafnibmoggcnaaDoorCards
import Derived.Test.YtdafnibmoggcnaaDoorTie
namespace Go.Proofs.YtdafnibmoggcnaaDoor.lawFitsWith
open Go.ChangeShapes Go.WideShapes Go.ChangeAt Go.RowKit Go.Joins garS errs meet heats load mem sl hang

set_option maxRecDepth 100000 in
set_option maxHeartbeats 16000000 in
theorem walk_fits (r : Nat → Int) (hr : Six r) (hold : Int) (A : Option Addr) (c : Nat) (gs : List Gar) (hn : gs.length ≤ 1048576) (A' : Option Addr) (c' : Nat) (hs : List Gar) (hn' : hs.length ≤ 1048576) (hnn : gs.length + hs.length ≤ 1048576) (w : World) (e : Nat → Addr) (hE : Errs w w.heap.size e) (hg : GS w w.heap.size A gs) (hg' : GS w w.heap.size A' hs) :
    Calls Tryd.prog 3 #[rulesV r, .int .i64 hold, .slice A gs.length c, .slice A' hs.length c'] w fun o w' => o = .returned (.bool true) ∧ Below w.heap.size w w' := by
  obtain ⟨fh, hfh⟩ : ∃ f : Bool, decide (1 ≤ hold ∧ hold ≤ 20000) = f := ⟨_, rfl⟩
  obtain ⟨ls, code, hls⟩ := fitRes_exists r gs hs hold fh
  have HFH := Lib.hid hfh
  have HL := Lib.hid hls
  have L0 : Hid (LS r w (w.alloc (.cells (rulesCs r) 22))) := Lib.hid ⟨SixAt.new r w 22, by simp, (Below.refl w.heap.size w).alloc (Nat.le_refl _) _⟩
  have hys : ls.length ≤ 1048576 := hls.len hn'
  clear hfh hls
  go_enter Tryd.func3, Tryd.ntmps3
  go_wp2_with fail
  refine (szGarmentS_any A gs.length c 1048576 (by omega) (by omega) _).mono ?_
  rintro o u ⟨rfl, rfl⟩
  rw [if_neg (by omega)]
  go_wp2_with fail
  refine (szGarmentS_any A' hs.length c' (1048576 - (gs.length : Int)) (by omega) (by omega) _).mono ?_
  rintro o u ⟨rfl, rfl⟩
  rw [if_neg (by omega)]
  obtain ⟨⟨s0, s1, s2, s3, s4, s5⟩, _, _⟩ := L0.out
  go_wp2_with fail
  refine (toRules_q r _).mono ?_
  rintro o u ⟨rfl, hb⟩
  clear s0 s1 s2 s3 s4 s5
  have L1 := Lib.hid (L0.out.next hb)
  clear hb L0
  go_wp2_with fail
  refine (toGarmentS_any A c gs (by omega) _ ((hg.below L1.out.2.2).more L1.out.2.2.size)).mono ?_
  rintro o u ⟨a0, csa0, rfl, lea0, P, hb⟩
  have L2 := Lib.hid (L1.out.next hb)
  clear hb L1
  have Xa0 := Lib.hid P
  clear P
  go_wp2_with fail
  refine (toGarmentS_any A' c' hs (by omega) _ ((hg'.below L2.out.2.2).more L2.out.2.2.size)).mono ?_
  rintro o u ⟨a1, csa1, rfl, lea1, P, hb⟩
  have L3 := Lib.hid (L2.out.next hb)
  have Xa0x3 := Lib.hid (Xa0.out.next hb)
  clear hb L2 Xa0
  have Xa1 := Lib.hid P
  clear P
  have LtG0 : w.heap.size < _ := L3.out.2.1
  go_wp2_with fail
  refine (FitsWith_spec r hr hold (some ⟨a0, 0, none⟩) gs.length gs.length gs rfl hn (some ⟨a1, 0, none⟩) hs.length hs.length hs rfl hn' hnn ⟨_, rfl⟩ ⟨_, rfl⟩ _ (Xa0x3.out.gs Xa0x3.out.lt hg.fits) (Xa1.out.gs Xa1.out.lt hg'.fits) fh HFH.out ls code HL.out).mono ?_
  rintro o u1 ⟨v, rfl, P, hb⟩
  obtain ⟨Aw, cw, rfl, _⟩ := owns_slice P
  clear Xa0x3
  clear Xa1
  have L4 := Lib.hid (L3.out.next hb)
  clear hb L3
  have PW := Lib.hid P
  have LtW : Hid (∀ k, (Value.slice Aw ls.length cw).ownBlock = some k → k < u1.heap.size) := Lib.hid fun k hk => (PW.out.lt k hk).2
  have Wz : w.heap.size < u1.heap.size := L4.out.2.1
  clear P LtG0
  go_wp2_with fail
  refine (toGarmentS_any A c gs (by omega) _ ((hg.below L4.out.2.2).more L4.out.2.2.size)).mono ?_
  rintro o u ⟨b0, csb0, rfl, leb0, P, hb⟩
  have L5 := Lib.hid (L4.out.next hb)
  have PWx5 := Lib.hid (owns_next PW.out hb)
  clear hb L4 PW
  have Xb0 := Lib.hid P
  clear P
  have Gb0 : u1.heap.size ≤ b0 := by first | exact leb0 | omega
  have Eb0 := Xb0.out.lt
  go_wp2_with fail
  refine (toGarmentS_any A' c' hs (by omega) _ ((hg'.below L5.out.2.2).more L5.out.2.2.size)).mono ?_
  rintro o u ⟨b1, csb1, rfl, leb1, P, hb⟩
  have L6 := Lib.hid (L5.out.next hb)
  have PWx6 := Lib.hid (owns_next PWx5.out hb)
  have Xb0x6 := Lib.hid (Xb0.out.next hb)
  clear hb L5 PWx5 Xb0
  have Xb1 := Lib.hid P
  clear P
  have Gb1 : u1.heap.size ≤ b1 := by first | exact leb1 | omega
  have Eb1 := Xb1.out.lt
  obtain ⟨⟨s0, s1, s2, s3, s4, s5⟩, _, _⟩ := L6.out
  go_wp2_with fail
  refine (toRules_q r _).mono ?_
  rintro o u ⟨rfl, hb⟩
  clear s0 s1 s2 s3 s4 s5
  have L7 := Lib.hid (L6.out.next hb)
  have PWx7 := Lib.hid (owns_next PWx6.out hb)
  have Xb0x7 := Lib.hid (Xb0x6.out.next hb)
  have Xb1x7 := Lib.hid (Xb1.out.next hb)
  clear hb L6 PWx6 Xb0x6 Xb1
  have Fb0 := Xb0x7.out.lt
  have Fb1 := Xb1x7.out.lt
  have hBase := Nat.le_refl 0
  go_wp2_with fail
  refine (FitsWith_any r hr hold (some ⟨b0, 0, none⟩) gs.length gs.length gs rfl hn (some ⟨b1, 0, none⟩) hs.length hs.length hs rfl hn' (hE.below L7.out.2.2) L7.out.2.2.size (Xb0x7.out.gs Xb0x7.out.lt hg.fits) (Xb1x7.out.gs Xb1x7.out.lt hg'.fits) fh HFH.out ls code HL.out).mono ?_
  rintro o u5 ⟨v, rfl, P, hb⟩
  obtain ⟨Ag, cg, rfl, _⟩ := owns_slice P
  have G5 : Hid (∀ k, (Value.slice Ag ls.length cg).ownBlock = some k → b0 < k ∧ b1 < k) := Lib.hid fun k hk => by have := (P.lt k hk).1; omega
  have W5 : Hid (∀ k, (Value.slice Ag ls.length cg).ownBlock = some k → w.heap.size < k) := Lib.hid fun k hk => by have := (P.lt k hk).1; omega
  have L8 := Lib.hid (L7.out.next hb)
  have PWx8 := Lib.hid (owns_next PWx7.out hb)
  have Xb0x8 := Lib.hid (Xb0x7.out.next hb)
  have Xb1x8 := Lib.hid (Xb1x7.out.next hb)
  clear hb L7 PWx7 Xb0x7 Xb1x7
  have PG := Lib.hid P
  clear P
  go_wp2_with fail
  refine (intS.eqS_any Ag Aw _ _ cg cw ls ls rfl rfl hys (by omega) _ (Sl.of_owns PG.out (intS.len _) (by decide)) (Sl.of_owns PWx8.out (intS.len _) (by decide)) true (by simp)).mono ?_
  rintro o u ⟨rfl, hb⟩
  have L9 := Lib.hid (L8.out.next hb)
  have PWx9 := Lib.hid (owns_next PWx8.out hb)
  have PGx9 := Lib.hid (owns_next PG.out hb)
  have Xb0x9 := Lib.hid (Xb0x8.out.next hb)
  have Xb1x9 := Lib.hid (Xb1x8.out.next hb)
  clear hb L8 PWx8 PG Xb0x8 Xb1x8
  go_wp2_with fail
  refine (toGarmentS_any A c gs (by omega) _ ((hg.below L9.out.2.2).more L9.out.2.2.size)).mono ?_
  rintro o u ⟨db0, csdb0, rfl, ledb0, P, hb⟩
  have L10 := Lib.hid (L9.out.next hb)
  have PWx10 := Lib.hid (owns_next PWx9.out hb)
  have PGx10 := Lib.hid (owns_next PGx9.out hb)
  have Xb0x10 := Lib.hid (Xb0x9.out.next hb)
  have Xb1x10 := Lib.hid (Xb1x9.out.next hb)
  clear hb L9 PWx9 PGx9 Xb0x9 Xb1x9
  have Xdb0 := Lib.hid P
  clear P
  go_wp2_with fail
  refine (eqGarmentS_any _ _ _ _ gs gs (by omega) _ (Xb0x10.out.gs Xb0x10.out.lt hg.fits) (Xdb0.out.gs Xdb0.out.lt hg.fits) true (by simp)).mono ?_
  rintro o u ⟨rfl, hb⟩
  clear Xdb0
  have L11 := Lib.hid (L10.out.next hb)
  have PWx11 := Lib.hid (owns_next PWx10.out hb)
  have PGx11 := Lib.hid (owns_next PGx10.out hb)
  have Xb0x11 := Lib.hid (Xb0x10.out.next hb)
  have Xb1x11 := Lib.hid (Xb1x10.out.next hb)
  clear hb L10 PWx10 PGx10 Xb0x10 Xb1x10
  go_wp2_with fail
  refine (toGarmentS_any A' c' hs (by omega) _ ((hg'.below L11.out.2.2).more L11.out.2.2.size)).mono ?_
  rintro o u ⟨db1, csdb1, rfl, ledb1, P, hb⟩
  have L12 := Lib.hid (L11.out.next hb)
  have PWx12 := Lib.hid (owns_next PWx11.out hb)
  have PGx12 := Lib.hid (owns_next PGx11.out hb)
  have Xb0x12 := Lib.hid (Xb0x11.out.next hb)
  have Xb1x12 := Lib.hid (Xb1x11.out.next hb)
  clear hb L11 PWx11 PGx11 Xb0x11 Xb1x11
  have Xdb1 := Lib.hid P
  clear P
  go_wp2_with fail
  refine (eqGarmentS_any _ _ _ _ hs hs (by omega) _ (Xb1x12.out.gs Xb1x12.out.lt hg'.fits) (Xdb1.out.gs Xdb1.out.lt hg'.fits) true (by simp)).mono ?_
  rintro o u ⟨rfl, hb⟩
  clear Xdb1
  have L13 := Lib.hid (L12.out.next hb)
  have PWx13 := Lib.hid (owns_next PWx12.out hb)
  have PGx13 := Lib.hid (owns_next PGx12.out hb)
  have Xb0x13 := Lib.hid (Xb0x12.out.next hb)
  have Xb1x13 := Lib.hid (Xb1x12.out.next hb)
  clear hb L12 PWx12 PGx12 Xb0x12 Xb1x12
  go_wp2_with fail
  refine (garS.markS_row w.heap.size b0 gs.length gs.length (1 : Int) (by omega) hn _ _ (Xb0x13.out.owns w.heap.size (by omega) hn)).mono ?_
  rintro o u ⟨rfl, hgr⟩
  clear Xb0x13
  have L14 := Lib.hid (LS.grow L13.out hgr (fun k hk => by have := Option.some.inj hk; omega))
  have PWx14 := Lib.hid (owns_other PWx13.out hgr (fun k hk e => by have := LtW.out k hk; omega))
  have PGx14 := Lib.hid (owns_other PGx13.out hgr (fun k hk e => by have := G5.out k hk; omega))
  have Xb1x14 := Lib.hid (Part.other Xb1x13.out hgr (by omega))
  clear hgr L13 PWx13 PGx13 Xb1x13
  go_wp2_with fail
  refine (garS.markS_row w.heap.size b1 hs.length hs.length ((1 : Int) + 4 * (gs.length : Int)) (by omega) hn' _ _ (Xb1x14.out.owns w.heap.size (by omega) hn')).mono ?_
  rintro o u ⟨rfl, hgr⟩
  clear Xb1x14
  have L15 := Lib.hid (LS.grow L14.out hgr (fun k hk => by have := Option.some.inj hk; omega))
  have PWx15 := Lib.hid (owns_other PWx14.out hgr (fun k hk e => by have := LtW.out k hk; omega))
  have PGx15 := Lib.hid (owns_other PGx14.out hgr (fun k hk e => by have := G5.out k hk; omega))
  clear hgr L14 PWx14 PGx14
  have k1 : decide ((((1 : Int) + 4 * (gs.length : Int)) + 4 * (hs.length : Int)) < 0) = false := by simp; omega
  go_wp2_with fail
  refine (intS.eqS_any Ag Aw _ _ cg cw ls ls rfl rfl hys (by omega) _ (Sl.of_owns PGx15.out (intS.len _) (by decide)) (Sl.of_owns PWx15.out (intS.len _) (by decide)) true (by simp)).mono ?_
  rintro o u ⟨rfl, hb⟩
  have L16 := Lib.hid (L15.out.next hb)
  have PWx16 := Lib.hid (owns_next PWx15.out hb)
  have PGx16 := Lib.hid (owns_next PGx15.out hb)
  clear hb L15 PWx15 PGx15
  go_wp2_with fail
  refine (intS.markS_any _ _ _ 1 (by omega) hys _ _ PGx16.out).mono ?_
  rintro o u ⟨rfl, P, g9, hg9, hgr, _⟩
  clear PGx16
  have W9 : w.heap.size < g9 := by omega
  have L17 := Lib.hid (LS.grow L16.out hgr (fun k hk => by have := Option.some.inj hk; omega))
  have PWx17 := Lib.hid (owns_other PWx16.out hgr (fun k hk e => by have := LtW.out k hk; omega))
  clear hgr L16 PWx16
  have PM := Lib.hid P
  clear P
  have k2 : decide ((1 : Int) + (ls.length : Int) < 0) = false := by simp; omega
  go_wp2_with fail
  refine (intS.heldS_any Ag _ cg 1 (by omega) hys _ _ (Sl.of_owns PM.out (intS.len _) (by decide))).mono ?_
  rintro o u ⟨rfl, rfl⟩
  obtain ⟨⟨s0, s1, s2, s3, s4, s5⟩, _, _⟩ := L17.out
  go_wp2_with fail
  refine (toRules_q r _).mono ?_
  rintro o u ⟨rfl, hb⟩
  clear s0 s1 s2 s3 s4 s5
  have L18 := Lib.hid (L17.out.next hb)
  have PWx18 := Lib.hid (owns_next PWx17.out hb)
  have PMx18 := Lib.hid (owns_next PM.out hb)
  clear hb L17 PWx17 PM
  go_wp2_with fail
  refine (toGarmentS_any A c gs (by omega) _ ((hg.below L18.out.2.2).more L18.out.2.2.size)).mono ?_
  rintro o u ⟨f0, csf0, rfl, lef0, P, hb⟩
  have L19 := Lib.hid (L18.out.next hb)
  have PWx19 := Lib.hid (owns_next PWx18.out hb)
  have PMx19 := Lib.hid (owns_next PMx18.out hb)
  clear hb L18 PWx18 PMx18
  have Xf0 := Lib.hid P
  clear P
  go_wp2_with fail
  refine (toGarmentS_any A' c' hs (by omega) _ ((hg'.below L19.out.2.2).more L19.out.2.2.size)).mono ?_
  rintro o u ⟨f1, csf1, rfl, lef1, P, hb⟩
  have L20 := Lib.hid (L19.out.next hb)
  have PWx20 := Lib.hid (owns_next PWx19.out hb)
  have PMx20 := Lib.hid (owns_next PMx19.out hb)
  have Xf0x20 := Lib.hid (Xf0.out.next hb)
  clear hb L19 PWx19 PMx19 Xf0
  have Xf1 := Lib.hid P
  clear P
  go_wp2_with fail
  refine (FitsWith_any r hr hold (some ⟨f0, 0, none⟩) gs.length gs.length gs rfl hn (some ⟨f1, 0, none⟩) hs.length hs.length hs rfl hn' (hE.below L20.out.2.2) L20.out.2.2.size (Xf0x20.out.gs Xf0x20.out.lt hg.fits) (Xf1.out.gs Xf1.out.lt hg'.fits) fh HFH.out ls code HL.out).mono ?_
  rintro o u ⟨v, rfl, P, hb⟩
  obtain ⟨Ah, ch, rfl, _⟩ := owns_slice P
  clear Xf0x20
  clear Xf1
  have L21 := Lib.hid (L20.out.next hb)
  have PWx21 := Lib.hid (owns_next PWx20.out hb)
  have PMx21 := Lib.hid (owns_next PMx20.out hb)
  clear hb L20 PWx20 PMx20
  have PH := Lib.hid P
  clear P
  go_wp2_with fail
  refine (intS.eqS_any Ah Aw _ _ ch cw ls ls rfl rfl hys (by omega) _ (Sl.of_owns PH.out (intS.len _) (by decide)) (Sl.of_owns PWx21.out (intS.len _) (by decide)) true (by simp)).mono ?_
  rintro o u ⟨rfl, hb⟩
  have L22 := Lib.hid (L21.out.next hb)
  have PWx22 := Lib.hid (owns_next PWx21.out hb)
  have PMx22 := Lib.hid (owns_next PMx21.out hb)
  have PHx22 := Lib.hid (owns_next PH.out hb)
  clear hb L21 PWx21 PMx21 PH
  go_wp2_with fail
  refine (intS.heldS_any Ag _ cg 1 (by omega) hys _ _ (Sl.of_owns PMx22.out (intS.len _) (by decide))).mono ?_
  rintro o u ⟨rfl, rfl⟩
  go_wp2_with fail
  go_ret
  exact ⟨rfl, L22.out.2.2⟩

set_option maxHeartbeats 1000000 in
theorem walk_long (r : Nat → Int) (hold : Int) (A : Option Addr) (n c : Nat) (hm : n ≤ 9223372036854775807) (hn : 1048576 < n) (A' : Option Addr) (n' c' : Nat) (w : World) :
    Calls Tryd.prog 3 #[rulesV r, .int .i64 hold, .slice A n c, .slice A' n' c'] w fun e w' => e = .returned (.bool true) ∧ Below w.heap.size w w' := by
  go_enter Tryd.func3, Tryd.ntmps3
  go_wp2_with fail
  refine (szGarmentS_any A n c 1048576 hm (by omega) _).mono ?_
  rintro o w1 ⟨rfl, rfl⟩
  rw [if_pos (by omega)]
  go_wp2_with fail
  go_ret
  exact ⟨rfl, (Below.refl _ _).alloc (Nat.le_refl _) _⟩
set_option maxHeartbeats 1000000 in
theorem walk_both (r : Nat → Int) (hold : Int) (A : Option Addr) (n c : Nat) (hn : n ≤ 1048576) (A' : Option Addr) (n' c' : Nat) (hm : n' ≤ 9223372036854775807) (hs : 1048576 < n + n') (w : World) :
    Calls Tryd.prog 3 #[rulesV r, .int .i64 hold, .slice A n c, .slice A' n' c'] w fun e w' => e = .returned (.bool true) ∧ Below w.heap.size w w' := by
  go_enter Tryd.func3, Tryd.ntmps3
  go_wp2_with fail
  refine (szGarmentS_any A n c 1048576 (by omega) (by omega) _).mono ?_
  rintro o w1 ⟨rfl, rfl⟩
  rw [if_neg (by omega)]
  go_wp2_with fail
  refine (szGarmentS_any A' n' c' (1048576 - (n : Int)) hm (by omega) _).mono ?_
  rintro o w1 ⟨rfl, rfl⟩
  rw [if_pos (by omega)]
  go_wp2_with fail
  go_ret
  exact ⟨rfl, (Below.refl _ _).alloc (Nat.le_refl _) _⟩

theorem readables : ∀ t ∈ Tryd.f3.params.toList, Tryd.prog.readableRec t = true ∧ t < Tryd.prog.types.size := by
  rw [Tryd.params3]
  intro t ht
  simp only [List.mem_cons, List.not_mem_nil, or_false] at ht
  rcases ht with rfl | rfl | rfl | rfl <;> exact ⟨by kernel_rfl, of_decide_eq_true (by kernel_rfl)⟩

set_option maxRecDepth 100000 in
/-- what the row's list gives -/
theorem errsLaid {W : World} (h : laidMetH Tryd.prog Rows.fnExactFitsWithRow.laid W) : ∃ e, Errs W W.heap.size e := by
  rw [MakeChecks.laidMetH_plain _ _ _ (by kernel_rfl)] at h
  refine errs_of Rows.fnExactFitsWithRow.laid (fun i => i) h (by kernel_rfl) ?_ ?_ (fun i j _ _ h => h)
  · have hall : ((listOf Rows.fnExactFitsWithRow.laid).all fun x => match Tryd.prog.globalNamed x.1 with | some g => decide ((Tryd.prog.globals[g]?).map (·.type) = some 60) | none => false) = true := by kernel_rfl
    intro x hx
    have h1 := List.all_eq_true.1 hall x hx
    split at h1
    · rename_i g hg
      exact ⟨g, hg, of_decide_eq_true h1⟩
    · cases h1
  · have b0 : ((listOf Rows.fnExactFitsWithRow.laid)[0]?).bind (fun x => Tryd.prog.globalNamed x.1) = some (gvar 0) := by kernel_rfl
    have b1 : ((listOf Rows.fnExactFitsWithRow.laid)[1]?).bind (fun x => Tryd.prog.globalNamed x.1) = some (gvar 1) := by kernel_rfl
    have b2 : ((listOf Rows.fnExactFitsWithRow.laid)[2]?).bind (fun x => Tryd.prog.globalNamed x.1) = some (gvar 2) := by kernel_rfl
    have b3 : ((listOf Rows.fnExactFitsWithRow.laid)[3]?).bind (fun x => Tryd.prog.globalNamed x.1) = some (gvar 3) := by kernel_rfl
    have b4 : ((listOf Rows.fnExactFitsWithRow.laid)[4]?).bind (fun x => Tryd.prog.globalNamed x.1) = some (gvar 4) := by kernel_rfl
    have b5 : ((listOf Rows.fnExactFitsWithRow.laid)[5]?).bind (fun x => Tryd.prog.globalNamed x.1) = some (gvar 5) := by kernel_rfl
    have b6 : ((listOf Rows.fnExactFitsWithRow.laid)[6]?).bind (fun x => Tryd.prog.globalNamed x.1) = some (gvar 6) := by kernel_rfl
    intro i hi
    match i, hi with
    | 0, _ => exact b0
    | 1, _ => exact b1
    | 2, _ => exact b2
    | 3, _ => exact b3
    | 4, _ => exact b4
    | 5, _ => exact b5
    | 6, _ => exact b6

set_option maxRecDepth 100000 in
theorem contract (H : Type) (enc : TypeId × Value → H) (W : World) (base : Nat) (args : Array Value) (ds gs : List (DataW H)) (before : List MemPlace)
    (hval : ∀ (j : Nat) t v, Tryd.f3.params[j]? = some t → args[j]? = some v → Value.okWide Tryd.prog W .any base t v)
    (hW : DataW.Whole enc Tryd.prog Tryd.f3.params.toList Rows.fnExactFitsWithSpec.vars false W args.toList ds gs before) (hL : laidMetH Tryd.prog Rows.fnExactFitsWithRow.laid W) :
    Calls Tryd.prog 3 args W fun e W' => ∃ v, e = .returned v ∧ Rows.fnExactFitsWithSpec.post enc Tryd.prog Tryd.f3 false true false false W args v W' := by
  obtain ⟨ee, hE⟩ := errsLaid hL
  have hW' := hW
  obtain ⟨p, q, hA0, hV, rfl, hfz, hnd⟩ := hW
  have hA : DataW.TrodAll enc Tryd.prog W 0 (fun _ => true) true Tryd.f3.params.toList args.toList ds p := hA0
  rw [Tryd.params3] at hA hval
  clear hA0
  obtain ⟨v0, vs0, d0, ds0, p0, q0, hargs, rfl, rfl, h0, r0⟩ := trodAll_cons hA
  obtain ⟨v1, vs1, d1, ds1, p1, q1, rfl, rfl, rfl, h1, r1⟩ := trodAll_cons r0
  obtain ⟨v2, vs2, d2, ds2, p2, q2, rfl, rfl, rfl, h2, r2⟩ := trodAll_cons r1
  obtain ⟨v3, vs3, d3, ds3, p3, q3, rfl, rfl, rfl, h3, r3⟩ := trodAll_cons r2
  obtain ⟨rfl, rfl, rfl⟩ := trodAll_nil r3
  obtain rfl : args = #[v0, v1, v2, v3] := by cases args; simp_all
  obtain ⟨z0, z1, z2, z3, z4, z5, z6, rfl⟩ := vars_of hV
  obtain ⟨r, hr, rfl⟩ := open_rules (hval 0 22 v0 rfl rfl) h0
  obtain ⟨hold, rfl⟩ : ∃ n : Int, v1 = .int .i64 n := okWide_int Tryd.underlying2 (hval 1 2 v1 rfl rfl)
  obtain ⟨A, c, gs, rfl, hl, hg⟩ := open_garS (hval 2 23 v2 rfl rfl) h2
  obtain ⟨A', c', hs, rfl, hl', hg'⟩ := open_garS (hval 3 23 v3 rfl rfl) h3
  have walk : Calls Tryd.prog 3 #[rulesV r, .int .i64 hold, .slice A gs.length c, .slice A' hs.length c'] W fun e W' => e = .returned (.bool true) ∧ Below W.heap.size W W' := by
    unfold maxLen at hl hl'
    rcases Nat.lt_or_ge 1048576 gs.length with h | h
    · exact walk_long r hold A _ c hl h A' _ c' W
    · rcases Nat.lt_or_ge 1048576 (gs.length + hs.length) with h' | h'
      · exact walk_both r hold A _ c h A' _ c' hl' h' W
      · exact walk_fits r hr hold A c gs h A' c' hs (by omega) h' W ee hE hg hg'
  refine walk.mono fun e W' ⟨he, hb⟩ => ?_
  subst he
  exact ⟨_, rfl, close_vars laidOut readables (by kernel_rfl) Tryd.underlying4 rfl rfl hW' hb⟩

end Go.Proofs.YtdafnibmoggcnaaDoor.lawFitsWith
