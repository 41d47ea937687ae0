/-
  THE LAW FnExactGarmentsText: for every list the law returns true: the program writes the text that the model writes, changes nothing that it was given, and what it returns is its own. No condition but that the package's errors and the library's tables are what the program's text lays.
-/
import Derived.Test.YtjfimmfnhlimkaaDoorJoin21
import Derived.Test.YtjfimmfnhlimkaaDoorOpenS
import Derived.Test.YtjfimmfnhlimkaaDoorClose
import Derived.Test.YtjfimmfnhlimkaaDoorJoin17
import Derived.Test.YtjfimmfnhlimkaaDoorCards
import Derived.Test.YtjfimmfnhlimkaaDoorTie
namespace Go.Proofs.YtjfimmfnhlimkaaDoor.lawGarmentsText
open Go.ChangeShapes Go.WideShapes Go.ChangeAt Go.RowKit Go.Joins sl errs gart garS txt

set_option maxRecDepth 100000 in
set_option maxHeartbeats 8000000 in
theorem walk_fits (A : Option Addr) (n c : Nat) (xs : List Gar) (en : n = xs.length) (hn : n ≤ 1048576) (w : World) (e : Nat → Addr) (hE : EM w w.heap.size e) (hT : TabJ w) (hg : GS w w.heap.size A xs) :
    Calls Tryd.prog 7 #[.slice A n c] w fun o w' => o = .returned (.bool true) ∧ Below w.heap.size w w' := by
  subst en
  obtain ⟨T, hTT⟩ : ∃ T, garText xs = T := ⟨_, rfl⟩
  have HT := Lib.hid hTT
  have HE := Lib.hid hE
  have HTB := Lib.hid hT
  have HG := Lib.hid (fun (u : World) (hu : Below w.heap.size w u) => (hg.below hu).more hu.size)
  have HFI := Lib.hid hg.fits
  clear hTT hE hT hg
  go_enter Tryd.func7, Tryd.ntmps7
  go_wp2_with fail
  refine (szGarmentS_any A xs.length c 1048576 (by omega) (by omega) _).mono ?_
  rintro o w1 ⟨rfl, rfl⟩
  rw [if_neg (by omega)]
  go_wp2_with fail
  refine (toGarmentS_any A c xs hn _ (HG.out _ (Below.refl _ _))).mono ?_
  rintro o w1 ⟨g1, cs1, rfl, hge1, P1, hb1⟩
  have H1 := Lib.hid hb1
  have HSP := Lib.hid (GarmentsText_spec (some ⟨g1, 0, none⟩) xs.length xs.length xs rfl hn _ (P1.gs P1.lt HFI.out))
  rw [HT.out] at HSP
  clear P1 hb1 hge1
  go_wp2_with fail
  refine HSP.out.mono ?_
  rintro o w2 ⟨rfl, hb2⟩
  have H2 := Lib.hid (below_next H1.out hb2 (Nat.le_refl _))
  clear hb2 H1 HSP
  go_wp2_with fail
  refine (toGarmentS_any A c xs hn _ (HG.out _ H2.out)).mono ?_
  rintro o w3 ⟨g3, cs3, rfl, hge3, P3, hb3⟩
  have H3 := Lib.hid (below_next H2.out hb3 (Nat.le_refl _))
  have S3 := Lib.hid (P3.gs P3.lt HFI.out)
  have HIP := Lib.hid (GarmentsText_any (some ⟨g3, 0, none⟩) xs.length xs.length xs rfl hn (HE.out.below H3.out) H3.out.size (fun w' hw' => HTB.out w' (H3.out.trans (hw'.mono H3.out.size))) S3.out)
  rw [HT.out] at HIP
  clear hb3 H2 P3 hge3
  go_wp2_with fail
  refine HIP.out.mono ?_
  rintro o w4 ⟨rfl, hb4⟩
  have S4 := Lib.hid ((S3.out.below hb4).more hb4.size)
  have H4 := Lib.hid (below_next H3.out hb4 (Nat.le_refl _))
  clear hb4 H3 S3 HIP
  go_wp2_with fail
  refine (toGarmentS_any A c xs hn _ (HG.out _ H4.out)).mono ?_
  rintro o w5 ⟨g5, cs5, rfl, hge5, P5, hb5⟩
  have S5 := Lib.hid (P5.gs P5.lt HFI.out)
  have S6 := Lib.hid ((S4.out.below hb5).more hb5.size)
  have H5 := Lib.hid (below_next H4.out hb5 (Nat.le_refl _))
  clear hb5 H4 P5 hge5
  go_wp2_with fail
  refine (eqGarmentS_any (some ⟨g3, 0, none⟩) (some ⟨g5, 0, none⟩) xs.length xs.length xs xs hn _ S6.out S5.out true (by simp)).mono ?_
  rintro o w6 ⟨rfl, hb6⟩
  have H6 := Lib.hid (below_next H5.out hb6 (Nat.le_refl _))
  clear hb6
  go_wp2_with fail
  go_ret
  exact ⟨rfl, H6.out⟩

set_option maxHeartbeats 1000000 in
theorem walk_long (A : Option Addr) (n c : Nat) (hm : n ≤ 9223372036854775807) (hn : 1048576 < n) (w : World) :
    Calls Tryd.prog 7 #[.slice A n c] w fun e w' => e = .returned (.bool true) ∧ Below w.heap.size w w' := by
  go_enter Tryd.func7, Tryd.ntmps7
  go_wp2_with fail
  refine (szGarmentS_any A n c 1048576 hm (by omega) _).mono ?_
  rintro o w1 ⟨rfl, rfl⟩
  rw [if_pos (by omega)]
  go_wp2_with fail
  go_ret
  exact ⟨rfl, Below.refl _ _⟩

theorem readables : ∀ t ∈ Tryd.f7.params.toList, Tryd.prog.readableRec t = true ∧ t < Tryd.prog.types.size := by
  rw [Tryd.params7]
  intro t ht
  simp only [List.mem_cons, List.not_mem_nil, or_false] at ht
  subst ht
  exact ⟨by kernel_rfl, of_decide_eq_true (by kernel_rfl)⟩

set_option maxRecDepth 100000 in
theorem errsLaid {W : World} (h : laidMetH Tryd.prog Rows.fnExactGarmentsTextRow.laid W) : ∃ e : Nat → Addr, EM W W.heap.size e ∧ TabJ W := by
  rw [MakeChecks.laidMetH_plain _ _ _ (by kernel_rfl)] at h
  have h0 : laidMet Tryd.prog (("math/bits.deBruijn32tab", Rows.laid_math_bits_deBruijn32tab) :: ("math/bits.deBruijn64tab", Rows.laid_math_bits_deBruijn64tab) :: ("internal/strconv.uint64pow10", Rows.laid_internal_strconv_uint64pow10) :: [("loop.example/g01378/impl.errInvalid", Rows.laid_loop_example_g01378_impl_errInvalid), ("loop.example/g01378/impl.errLimit", Rows.laid_loop_example_g01378_impl_errLimit)]) W := h
  have h2 := laidMet.tail (laidMet.tail h0)
  have e2 : (Rows.laid_internal_strconv_uint64pow10 : DataW Unit) = Lib.tabData .u64 Lib.pow10Tab := by kernel_rfl
  have h3 := h2
  rw [e2] at h3
  obtain ⟨e, he⟩ := errM_of _ (laidMet.tail h2) (by kernel_rfl) (by
    have hall : ((listOf [("loop.example/g01378/impl.errInvalid", Rows.laid_loop_example_g01378_impl_errInvalid), ("loop.example/g01378/impl.errLimit", Rows.laid_loop_example_g01378_impl_errLimit)]).all fun x => match Tryd.prog.globalNamed x.1 with | some g => decide ((Tryd.prog.globals[g]?).map (·.type) = some 94) | none => false) = true := by kernel_rfl
    intro x hx
    have h1 := List.all_eq_true.1 hall x hx
    split at h1
    · rename_i g hg
      exact ⟨g, hg, of_decide_eq_true h1⟩
    · cases h1) (by kernel_rfl) (by kernel_rfl)
  exact ⟨e, he, tabJ_of h3⟩

set_option maxRecDepth 100000 in
theorem contract (H : Type) (enc : TypeId × Value → H) (W : World) (base : Nat) (args : Array Value) (ds gs : List (DataW H)) (before : List MemPlace)
    (hval : ∀ (j : Nat) t v, Tryd.f7.params[j]? = some t → args[j]? = some v → Value.okWide Tryd.prog W .any base t v)
    (hW : DataW.Whole enc Tryd.prog Tryd.f7.params.toList Rows.fnExactGarmentsTextSpec.vars false W args.toList ds gs before) (hL : laidMetH Tryd.prog Rows.fnExactGarmentsTextRow.laid W) :
    Calls Tryd.prog 7 args W fun e W' => ∃ v, e = .returned v ∧ Rows.fnExactGarmentsTextSpec.post enc Tryd.prog Tryd.f7 false true false false W args v W' := by
  obtain ⟨ee, hE⟩ := errsLaid hL
  have hW' := hW
  obtain ⟨p, q, hA0, hV, rfl, hfz, hnd⟩ := hW
  have hA : DataW.TrodAll enc Tryd.prog W 0 (fun _ => true) true Tryd.f7.params.toList args.toList ds p := hA0
  rw [Tryd.params7] at hA hval
  clear hA0
  obtain ⟨v0, vs0, d0, ds0, p0, q0, hargs, rfl, rfl, h0, r0⟩ := trodAll_cons hA
  obtain ⟨rfl, rfl, rfl⟩ := trodAll_nil r0
  obtain rfl : args = #[v0] := by cases args; simp_all
  obtain ⟨z0, z1, rfl⟩ := vars2m_of hV
  obtain ⟨hE, hT⟩ := hE
  obtain ⟨A, c, xs, rfl, hl, hg⟩ := open_garS (hval 0 46 v0 rfl rfl) h0
  have walk : Calls Tryd.prog 7 #[.slice A xs.length c] W fun e w' => e = .returned (.bool true) ∧ Below W.heap.size W w' := by
    unfold maxLen at hl
    rcases Nat.lt_or_ge 1048576 xs.length with h | h
    · exact walk_long A _ c hl h W
    · exact walk_fits A _ c xs rfl h W ee hE hT hg
  refine walk.mono fun e W' ⟨he, hb⟩ => ?_
  subst he
  exact ⟨_, rfl, close_vars laidOut readables (by kernel_rfl) Tryd.underlying4 rfl rfl hW' hb⟩

end Go.Proofs.YtjfimmfnhlimkaaDoor.lawGarmentsText
