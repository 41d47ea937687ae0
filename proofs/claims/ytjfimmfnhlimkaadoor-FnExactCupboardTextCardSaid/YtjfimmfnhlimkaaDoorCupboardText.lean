/-
  THE LAW FnExactCupboardText: for every list of piles the law returns true: the program writes the text that the model writes, changes no pile that it was given, and what it returns is its own. No condition but that the package's errors are what the program's text lays.
-/
import Derived.Test.YtjfimmfnhlimkaaDoorCupTw
import Derived.Test.YtjfimmfnhlimkaaDoorRowsOpen
import Derived.Test.YtjfimmfnhlimkaaDoorClose
import Derived.Test.YtjfimmfnhlimkaaDoorLaid
import Derived.Test.YtjfimmfnhlimkaaDoorCards
import Derived.Test.YtjfimmfnhlimkaaDoorTie
namespace Go.Proofs.YtjfimmfnhlimkaaDoor.lawCupboardText
open Go.ChangeShapes Go.WideShapes Go.ChangeAt Go.RowKit Go.Joins sl errs fold rows cup cupt

set_option maxRecDepth 100000 in
set_option maxHeartbeats 8000000 in
theorem walk (A : Option Addr) (n c : Nat) (rs : List Rw) (en : n = rs.length) (hm : n ≤ 9223372036854775807) (w : World) (a : Addr) (hE : E1 w w.heap.size a) (hT : TabB w) (hg : SS w w.heap.size A rs) :
    Calls Tryd.prog 12 #[.slice A n c] w fun o w' => o = .returned (.bool true) ∧ Below w.heap.size w w' := by
  have En := Lib.hid en
  have HE := Lib.hid hE
  have HTB := Lib.hid hT
  obtain ⟨b, hb⟩ : ∃ b : Bool, b = true ↔ CupOk (nums rs) := by
    by_cases hc : CupOk (nums rs)
    · exact ⟨true, fun _ => hc, fun _ => rfl⟩
    · exact ⟨false, (fun h => by cases h), fun h => absurd h hc⟩
  have HBB := Lib.hid hb
  clear en hE hT hb
  go_enter Tryd.func12, Tryd.ntmps12
  go_wp2_with fail
  refine (szSS_tot A n c rs En.out hm 1048576 (by omega) _ hg).mono ?_
  rintro o u ⟨z, rfl, rfl, hz0, hz1, hz⟩
  by_cases hz2 : z < 0
  · clear hz
    go_wp2_with fail
    go_ret
    exact ⟨rfl, Below.refl _ _⟩
  · have htot := hz (by omega)
    have HT := Lib.hid htot
    have HS := Lib.hid (tot_leT htot)
    have hn : n ≤ 1048576 := by omega
    clear hz htot
    go_wp2_with fail
    refine (toSS_any A n c rs En.out hn HS.out _ hg).mono ?_
    rintro o u ⟨g1, rs1, rfl, l1, n1, O, hb⟩
    have B1 := Lib.hid hb
    have O1 := Lib.hid O
    have L1 := Lib.hid l1
    have N1 := Lib.hid n1
    clear hb O l1 n1
    obtain ⟨T, hT⟩ : ∃ T : ByteArray, (if b = true then bsT (cupT (nums rs)) else ⟨#[]⟩) = T := ⟨_, rfl⟩
    have HTT := Lib.hid hT
    have HSP := Lib.hid (CupboardText_spec (some ⟨g1, 0, none⟩) n n rs1 L1.out.symm hn _ O1.out.ss b (by rw [N1.out]; exact HBB.out))
    rw [N1.out, HTT.out] at HSP
    clear hT
    go_wp2_with fail
    refine HSP.out.mono ?_
    rintro o u2 ⟨rfl, hb⟩
    have B2 := Lib.hid (below_next B1.out hb (Nat.le_refl _))
    clear hb O1 L1 N1 B1 HSP
    go_wp2_with fail
    refine (toSS_any A n c rs En.out hn HS.out _ ((hg.below B2.out).more B2.out.size)).mono ?_
    rintro o u3 ⟨g3, rs3, rfl, l3, n3, O, hb⟩
    have B3 := Lib.hid (below_next B2.out hb (Nat.le_refl _))
    have O3 := Lib.hid O
    have L3 := Lib.hid l3
    have N3 := Lib.hid n3
    have S3 : Hid (∀ r ∈ rs3, r.xs.length ≤ 1048576) := Lib.hid (tot_leT (n := n) (by rw [tot_nums N3.out]; exact HT.out))
    clear hb O l3 n3 B2
    have HIP := Lib.hid (CupboardText_any (e := fun _ => a) (some ⟨g3, 0, none⟩) n n rs3 L3.out.symm hn (HE.out.below B3.out) B3.out.size (fun w' hw' => HTB.out w' (B3.out.trans (hw'.mono B3.out.size))) O3.out.ss b (by rw [N3.out]; exact HBB.out))
    rw [N3.out, HTT.out] at HIP
    go_wp2_with fail
    refine HIP.out.mono ?_
    rintro o u4 ⟨rfl, hb⟩
    have B4 := Lib.hid (below_next B3.out hb (Nat.le_refl _))
    have O4 := Lib.hid (O3.out.next hb)
    clear hb HIP B3 O3
    go_wp2_with fail
    refine (toSS_any A n c rs En.out hn HS.out _ ((hg.below B4.out).more B4.out.size)).mono ?_
    rintro o u6 ⟨g6, rs6, rfl, l6, n6, O, hb⟩
    have B6 := Lib.hid (below_next B4.out hb (Nat.le_refl _))
    have O6 := Lib.hid (O4.out.next hb)
    have T6 := Lib.hid O
    have L6 := Lib.hid l6
    have N6 := Lib.hid n6
    clear hb B4 O4 O l6 n6
    go_wp2_with fail
    refine (eqSS_any (some ⟨g3, 0, none⟩) (some ⟨g6, 0, none⟩) n n n n rs3 rs6 L3.out.symm L6.out.symm hn (by omega) S3.out _ O6.out.ss T6.out.ss true (by rw [N3.out, N6.out]; simp)).mono ?_
    rintro o u7 ⟨rfl, hb⟩
    have B7 := Lib.hid (below_next B6.out hb (Nat.le_refl _))
    clear hb
    go_wp2_with fail
    go_ret
    exact ⟨rfl, B7.out⟩

theorem readables : ∀ t ∈ Tryd.f12.params.toList, Tryd.prog.readableRec t = true ∧ t < Tryd.prog.types.size := by
  rw [Tryd.params12]
  intro t ht
  simp only [List.mem_cons, List.not_mem_nil, or_false] at ht
  subst ht
  exact ⟨by kernel_rfl, of_decide_eq_true (by kernel_rfl)⟩

set_option maxRecDepth 100000 in
theorem errsLaid {W : World} (h : laidMetH Tryd.prog Rows.fnExactCupboardTextRow.laid W) : ∃ a, E1 W W.heap.size a ∧ TabB W := by
  rw [MakeChecks.laidMetH_plain _ _ _ (by kernel_rfl)] at h
  have h0 : laidMet Tryd.prog (("math/bits.deBruijn32tab", Rows.laid_math_bits_deBruijn32tab) :: ("math/bits.deBruijn64tab", Rows.laid_math_bits_deBruijn64tab) :: ("internal/strconv.uint64pow10", Rows.laid_internal_strconv_uint64pow10) :: [("loop.example/g01378/impl.errInvalid", Rows.laid_loop_example_g01378_impl_errInvalid)]) W := h
  have h2 := laidMet.tail (laidMet.tail h0)
  obtain ⟨a, ha⟩ := one_of_laid (laidMet.tail h2)
  exact ⟨a, ha, tab_of_laid h2⟩

set_option maxRecDepth 100000 in
theorem contract (H : Type) (enc : TypeId × Value → H) (W : World) (base : Nat) (args : Array Value) (ds gs : List (DataW H)) (before : List MemPlace)
    (hval : ∀ (j : Nat) t v, Tryd.f12.params[j]? = some t → args[j]? = some v → Value.okWide Tryd.prog W .any base t v)
    (hW : DataW.Whole enc Tryd.prog Tryd.f12.params.toList Rows.fnExactCupboardTextSpec.vars false W args.toList ds gs before) (hL : laidMetH Tryd.prog Rows.fnExactCupboardTextRow.laid W) :
    Calls Tryd.prog 12 args W fun e W' => ∃ v, e = .returned v ∧ Rows.fnExactCupboardTextSpec.post enc Tryd.prog Tryd.f12 false true false false W args v W' := by
  obtain ⟨ee, hE⟩ := errsLaid hL
  have hW' := hW
  obtain ⟨p, q, hA0, hV, rfl, hfz, hnd⟩ := hW
  have hA : DataW.TrodAll enc Tryd.prog W 0 (fun _ => true) true Tryd.f12.params.toList args.toList ds p := hA0
  rw [Tryd.params12] at hA hval
  clear hA0
  obtain ⟨v0, vs0, d0, ds0, p0, q0, hargs, rfl, rfl, h0, r0⟩ := trodAll_cons hA
  obtain ⟨rfl, rfl, rfl⟩ := trodAll_nil r0
  obtain rfl : args = #[v0] := by cases args; simp_all
  obtain ⟨z0, rfl⟩ := vars1_of hV
  obtain ⟨hE, hT⟩ := hE
  obtain ⟨A, c, rs, rfl, hl, hg⟩ := open_rows (hval 0 78 v0 rfl rfl) h0
  unfold maxLen at hl
  refine (walk A rs.length c rs rfl hl W ee hE hT hg).mono fun e W' ⟨he, hb⟩ => ?_
  subst he
  exact ⟨_, rfl, close_vars laidOut readables (by kernel_rfl) Tryd.underlying4 rfl rfl hW' hb⟩

end Go.Proofs.YtjfimmfnhlimkaaDoor.lawCupboardText
