/-
  THE LAW FnExactReadCupboard: for every text the law returns true: the program reads the cupboard that the model reads, and what it returns is its own. No condition but that the package's errors, the library's two errors of numbers and its tables are what the program's text lays.
-/
import Derived.Test.YtjfimmfnhlimkaaDoorJoin38
import Derived.Test.YtjfimmfnhlimkaaDoorRowsOpen
import Derived.Test.YtjfimmfnhlimkaaDoorJoin18
import Derived.Test.YtjfimmfnhlimkaaDoorOpenWords
import Derived.Test.YtjfimmfnhlimkaaDoorClose
import Derived.Test.YtjfimmfnhlimkaaDoorRdLaid
import Derived.Test.YtjfimmfnhlimkaaDoorCards
import Derived.Test.YtjfimmfnhlimkaaDoorTie
import Derived.ProofKit
import Derived.OpenShut
import Derived.ChangeMaps5
import Derived.Lib.SmallJoins
namespace Go.Proofs.YtjfimmfnhlimkaaDoor.lawReadCupboard
open Go.ChangeShapes Go.WideShapes Go.ChangeAt Go.RowKit Go.Joins sl errs txt rd rows cup

theorem small_of {s : List UInt8} {L : List (List Int)} {k : Nat} (h : rdU s = (L, k)) {rs : List Rw} (hn : nums rs = L) : rs.length ≤ 6 ∧ (∀ r ∈ rs, r.xs.length ≤ 8) ∧ rs.length + tot rs ≤ 1048576 := by
  obtain ⟨h1, h2⟩ := rdU_ok h
  rw [← hn] at h1 h2
  have h3 : rs.length ≤ 6 := by simpa [nums] using h1
  have h4 : ∀ r ∈ rs, r.xs.length ≤ 8 := fun r hr => h2 r.xs (List.mem_map_of_mem hr)
  have h5 := tot_small h4
  exact ⟨h3, h4, by omega⟩
set_option maxRecDepth 100000 in
set_option maxHeartbeats 4000000 in
theorem walk (s : ByteArray) (hs : s.size ≤ 1048576) (w : World) (e : Nat → Addr) (hE : Errs w w.heap.size e) (hN : NE w w.heap.size) (hT : TabJ w) :
    Calls Tryd.prog 13 #[.string s] w fun e w' => e = .returned (.bool true) ∧ Below w.heap.size w w' := by
  obtain ⟨L, k, hr⟩ : ∃ L k, rdU s.data.toList = (L, k) := ⟨_, _, rfl⟩
  have HR := Lib.hid hr
  have H0 := Lib.hid (Below.refl w.heap.size w)
  have HIP := Lib.hid (fun (u : World) (hu : Below w.heap.size w u) => ReadCupboard_any s hs L k HR.out (hE.below hu) (hN.below hu) hu.size (fun w' hw' => hT w' (hu.trans (hw'.mono hu.size))))
  clear hr hE hN hT
  go_enter Tryd.func13, Tryd.ntmps13
  go_wp2_with fail
  refine (ReadCupboard_spec s hs L k HR.out _).mono ?_
  rintro o u ⟨Aw, cw, rsw, rfl, nw, Ow, hb⟩
  have H1 := Lib.hid (below_next H0.out hb (Nat.le_refl _))
  have OW1 := Lib.hid Ow
  have NW := Lib.hid nw
  obtain ⟨lw, _, _⟩ := small_of HR.out nw
  have BW : Hid (∀ j, Blocks Aw rsw j → j < u.heap.size) := Lib.hid fun j hj => ((OT.of Ow).blocks j hj).2
  clear hb H0 Ow nw
  go_wp2_with fail
  refine (HIP.out _ H1.out).mono ?_
  rintro o u2 ⟨Ag, cg, rsg, rfl, ng, Og, hb⟩
  have hwu := H1.out.size
  have BG : Hid (∀ j, Blocks Ag rsg j → u.heap.size ≤ j) := Lib.hid fun j hj => ((OT.of Og).blocks j hj).1
  have H2 := Lib.hid (below_next H1.out hb (Nat.le_refl _))
  have OW2 := Lib.hid (OW1.out.next hb)
  have OG2 := Lib.hid Og
  have NG := Lib.hid ng
  obtain ⟨lg, sg, tg⟩ := small_of HR.out ng
  have SG : Hid (∀ r ∈ rsg, r.xs.length ≤ 1048576) := Lib.hid fun r hr => Nat.le_trans (sg r hr) (by decide)
  have HLG := Lib.hid tg
  clear hb H1 OW1 Og ng sg tg
  go_wp2_with fail
  refine (eqSS_any Ag Aw rsg.length rsw.length cg cw rsg rsw rfl rfl (by omega) (by omega) SG.out _ OG2.out.ss OW2.out.ss true (by rw [NG.out, NW.out]; simp)).mono ?_
  rintro o u3 ⟨rfl, hb⟩
  have H3 := Lib.hid (below_next H2.out hb (Nat.le_refl _))
  have OW3 := Lib.hid (OT.of (OW2.out.next hb))
  have OG3 := Lib.hid (OT.of (OG2.out.next hb))
  clear hb H2 OW2 OG2
  go_wp2_with fail
  refine (markSS_any u3 u.heap.size Ag cg rsg.length rsg rfl OG3.out 1 (by omega) HLG.out).mono ?_
  rintro o u4 ⟨rfl, OM, hbut⟩
  have H4 := Lib.hid (H3.out.trans (hbut.below H3.out.size (fun k hk => Nat.le_trans hwu (BG.out k hk))))
  have OW4 := Lib.hid (OW3.out.apart hbut (fun k hk hx => by have := BW.out k hk; have := BG.out k hx; omega))
  have OM4 := Lib.hid OM
  have htg := HLG.out
  have k4 : decide ((1 : Int) + (tot rsg : Int) < 0) = false := by simp; omega
  clear hbut H3 OW3 OG3 OM htg
  go_wp2_with fail
  refine (heldSS_any u4 Ag cg rsg.length rsg rfl 1 OM4.out.ss (by omega) HLG.out).mono ?_
  rintro o u5 ⟨rfl, rfl⟩
  go_wp2_with fail
  refine (HIP.out _ H4.out).mono ?_
  rintro o u6 ⟨Ah, ch, rsh, rfl, nh, Oh, hb⟩
  have H6 := Lib.hid (below_next H4.out hb (Nat.le_refl _))
  have OW6 := Lib.hid (OW4.out.next hb)
  have OM6 := Lib.hid (OM4.out.next hb)
  have OH6 := Lib.hid Oh
  have NH := Lib.hid nh
  obtain ⟨lh, sh, _⟩ := small_of HR.out nh
  have SH : Hid (∀ r ∈ rsh, r.xs.length ≤ 1048576) := Lib.hid fun r hr => Nat.le_trans (sh r hr) (by decide)
  clear hb H4 OW4 OM4 Oh nh sh
  go_wp2_with fail
  refine (eqSS_any Ah Aw rsh.length rsw.length ch cw rsh rsw rfl rfl (by omega) (by omega) SH.out _ OH6.out.ss OW6.out.ss true (by rw [NH.out, NW.out]; simp)).mono ?_
  rintro o u7 ⟨rfl, hb⟩
  have H7 := Lib.hid (below_next H6.out hb (Nat.le_refl _))
  have OM7 := Lib.hid (OM6.out.next hb)
  clear hb H6 OW6 OM6 OH6
  go_wp2_with fail
  refine (heldSS_any u7 Ag cg rsg.length rsg rfl 1 OM7.out.ss (by omega) HLG.out).mono ?_
  rintro o u8 ⟨rfl, rfl⟩
  go_wp2_with fail
  go_ret
  exact ⟨rfl, H7.out⟩
set_option maxHeartbeats 1000000 in
theorem walk_long (s : ByteArray) (hm : s.size ≤ 9223372036854775807) (hs : 1048576 < s.size) (w : World) :
    Calls Tryd.prog 13 #[.string s] w fun e w' => e = .returned (.bool true) ∧ Below w.heap.size w w' := by
  go_enter Tryd.func13, Tryd.ntmps13
  go_wp2_with fail
  go_ret
  exact ⟨rfl, Below.refl _ _⟩

theorem readables : ∀ t ∈ Tryd.f13.params.toList, Tryd.prog.readableRec t = true ∧ t < Tryd.prog.types.size := by
  rw [Tryd.params13]
  intro t ht
  simp only [List.mem_cons, List.not_mem_nil, or_false] at ht
  subst ht
  exact ⟨by kernel_rfl, of_decide_eq_true (by kernel_rfl)⟩

set_option maxRecDepth 100000 in
theorem errsLaid {W : World} (h : laidMetH Tryd.prog Rows.fnExactReadCupboardRow.laid W) : ∃ e, Errs W W.heap.size e ∧ TabJ W ∧ NE W W.heap.size := by
  rw [MakeChecks.laidMetH_plain _ _ _ (by kernel_rfl)] at h
  exact readLaid Rows.laid_unicode_utf8_first h

set_option maxRecDepth 100000 in
theorem contract (H : Type) (enc : TypeId × Value → H) (W : World) (base : Nat) (args : Array Value) (ds gs : List (DataW H)) (before : List MemPlace)
    (hval : ∀ (j : Nat) t v, Tryd.f13.params[j]? = some t → args[j]? = some v → Value.okWide Tryd.prog W .any base t v)
    (hW : DataW.Whole enc Tryd.prog Tryd.f13.params.toList Rows.fnExactReadCupboardSpec.vars false W args.toList ds gs before) (hL : laidMetH Tryd.prog Rows.fnExactReadCupboardRow.laid W) :
    Calls Tryd.prog 13 args W fun e W' => ∃ v, e = .returned v ∧ Rows.fnExactReadCupboardSpec.post enc Tryd.prog Tryd.f13 false true false false W args v W' := by
  obtain ⟨ee, hE⟩ := errsLaid hL
  have hW' := hW
  obtain ⟨p, q, hA0, hV, rfl, hfz, hnd⟩ := hW
  have hA : DataW.TrodAll enc Tryd.prog W 0 (fun _ => true) true Tryd.f13.params.toList args.toList ds p := hA0
  rw [Tryd.params13] at hA hval
  clear hA0
  obtain ⟨v0, vs0, d0, ds0, p0, q0, hargs, rfl, rfl, h0, r0⟩ := trodAll_cons hA
  obtain ⟨rfl, rfl, rfl⟩ := trodAll_nil r0
  obtain rfl : args = #[v0] := by cases args; simp_all
  obtain ⟨z0, z1, z2, z3, z4, z5, z6, rfl⟩ := vars_of hV
  obtain ⟨hE, hT, hN⟩ := hE
  obtain ⟨s, rfl, rfl, rfl, ws⟩ := Go.ChangeMaps.open_string Tryd.underlying9 (hval 0 9 v0 rfl rfl) h0
  have walk' : Calls Tryd.prog 13 #[.string s] W fun e W' => e = .returned (.bool true) ∧ Below W.heap.size W W' := by
    unfold maxLen at ws
    rcases Nat.lt_or_ge 1048576 s.size with h | h
    · exact walk_long s ws h W
    · exact walk s h W ee hE hN hT
  refine walk'.mono fun e W' ⟨he, hb⟩ => ?_
  subst he
  exact ⟨_, rfl, close_vars laidOut readables (by kernel_rfl) Tryd.underlying4 rfl rfl hW' hb⟩

end Go.Proofs.YtjfimmfnhlimkaaDoor.lawReadCupboard
