/-
  What the rows of the readers' laws list: the package's errors, the library's two errors of numbers, and the tables.
-/
import Derived.Test.YtjfimmfnhlimkaaDoorJoin22
import Derived.Test.YtjfimmfnhlimkaaDoorTxt
namespace Go.Proofs.YtjfimmfnhlimkaaDoor.errs
open Go Go.ChangeShapes Go.WideShapes Go.ChangeAt Go.RowKit sl txt

theorem laidVars_front {P : Program} {W : World} : ∀ {l1 l2 : List (String × DataW Unit)} {ps : List MemPlace}, DataW.LaidVars P W (l1 ++ l2) ps → ∃ p q, ps = p ++ q ∧ DataW.LaidVars P W l1 p
  | [], _, ps, _ => ⟨[], ps, rfl, rfl⟩
  | (n, d) :: l1, l2, ps, h => by
    obtain ⟨g, t, cs, fuel, p, q, h1, h2, h3, h4, hq, e⟩ := h
    obtain ⟨q1, q2, rfl, hq1⟩ := laidVars_front (l1 := l1) (l2 := l2) hq
    exact ⟨MemPlace.row ⟨g, 0, none⟩ cs.size ++ p ++ q1, q2, by rw [e]; simp [List.append_assoc], g, t, cs, fuel, p, q1, h1, h2, h3, h4, hq1, rfl⟩
theorem laidMet_front {P : Program} {l1 l2 : List (String × DataW Unit)} {w : World} (h : laidMet P (l1 ++ l2) w) : laidMet P l1 w := by
  obtain ⟨ps, hv, hnd, hrows⟩ := h
  obtain ⟨p, q, rfl, hp⟩ := laidVars_front hv
  exact ⟨p, hp, hnd.sublist (List.sublist_append_left _ _), fun b off hm => hrows b off (List.mem_append_left _ hm)⟩
/-- the library's two errors of numbers -/
structure NE (w : World) (B : Nat) : Prop where
  c1 : ∃ t p, w.cell? ⟨9, 0, none⟩ = some (.iface t p)
  c2 : ∃ t p, w.cell? ⟨10, 0, none⟩ = some (.iface t p)
  l1 : 9 < B
  l2 : 10 < B
theorem NE.below {w w' : World} {B : Nat} (h : NE w B) (hb : Below B w w') : NE w' B := by
  obtain ⟨⟨t1, p1, h1⟩, ⟨t2, p2, h2⟩, l1, l2⟩ := h
  exact ⟨⟨t1, p1, (hb.cell (p := ⟨_, 0, none⟩) l1).trans h1⟩, ⟨t2, p2, (hb.cell (p := ⟨_, 0, none⟩) l2).trans h2⟩, l1, l2⟩
abbrev sentsR : List (String × DataW Unit) := [("strconv.ErrRange", Rows.laid_strconv_ErrRange), ("strconv.ErrSyntax", Rows.laid_strconv_ErrSyntax), ("loop.example/g01378/impl.errInvalid", Rows.laid_loop_example_g01378_impl_errInvalid), ("loop.example/g01378/impl.errRange", Rows.laid_loop_example_g01378_impl_errRange), ("loop.example/g01378/impl.errLimit", Rows.laid_loop_example_g01378_impl_errLimit), ("loop.example/g01378/impl.errState", Rows.laid_loop_example_g01378_impl_errState), ("loop.example/g01378/impl.errSyntax", Rows.laid_loop_example_g01378_impl_errSyntax), ("loop.example/g01378/impl.errNotFound", Rows.laid_loop_example_g01378_impl_errNotFound), ("loop.example/g01378/impl.errBudget", Rows.laid_loop_example_g01378_impl_errBudget)]
theorem sentsR_plain : sentsR = (listOf sentsR).map (sent "*errors.errorString") := by kernel_rfl
theorem sentsR_types : ∀ x ∈ listOf sentsR, ∃ g, Tryd.prog.globalNamed x.1 = some g ∧ (Tryd.prog.globals[g]?).map (·.type) = some 94 := by
  have hall : ((listOf sentsR).all fun x => match Tryd.prog.globalNamed x.1 with | some g => decide ((Tryd.prog.globals[g]?).map (·.type) = some 94) | none => false) = true := by kernel_rfl
  intro x hx
  have h1 := List.all_eq_true.1 hall x hx
  split at h1
  · rename_i g hg
    exact ⟨g, hg, of_decide_eq_true h1⟩
  · cases h1
theorem errsR_of {W : World} (h : laidMet Tryd.prog sentsR W) : ∃ e, Errs W W.heap.size e := by
  refine errs_of sentsR (fun i => i + 2) h sentsR_plain sentsR_types ?_ (fun i j _ _ h => by simpa using h)
  · have b0 : ((listOf sentsR)[0 + 2]?).bind (fun x => Tryd.prog.globalNamed x.1) = some (gvar 0) := by kernel_rfl
    have b1 : ((listOf sentsR)[1 + 2]?).bind (fun x => Tryd.prog.globalNamed x.1) = some (gvar 1) := by kernel_rfl
    have b2 : ((listOf sentsR)[2 + 2]?).bind (fun x => Tryd.prog.globalNamed x.1) = some (gvar 2) := by kernel_rfl
    have b3 : ((listOf sentsR)[3 + 2]?).bind (fun x => Tryd.prog.globalNamed x.1) = some (gvar 3) := by kernel_rfl
    have b4 : ((listOf sentsR)[4 + 2]?).bind (fun x => Tryd.prog.globalNamed x.1) = some (gvar 4) := by kernel_rfl
    have b5 : ((listOf sentsR)[5 + 2]?).bind (fun x => Tryd.prog.globalNamed x.1) = some (gvar 5) := by kernel_rfl
    have b6 : ((listOf sentsR)[6 + 2]?).bind (fun x => Tryd.prog.globalNamed x.1) = some (gvar 6) := by kernel_rfl
    intro i hi
    match i, hi with
    | 0, _ => exact b0
    | 1, _ => exact b1
    | 2, _ => exact b2
    | 3, _ => exact b3
    | 4, _ => exact b4
    | 5, _ => exact b5
    | 6, _ => exact b6
theorem ne_of {W : World} (h : laidMet Tryd.prog sentsR W) : NE W W.heap.size := by
  obtain ⟨ps, hv, hnd, hrows⟩ := h
  rw [sentsR_plain] at hv
  obtain ⟨As, hlen, hndA, hmem, hat⟩ := sentinels Tryd.underlying94 rowE Tryd.underlying284 fldE rfl rfl Tryd.underlying9 cellsE cellsStr (listOf sentsR) ps sentsR_types hv hnd hrows
  have one : ∀ (k g : Nat), ((listOf sentsR)[k]?).bind (fun x => Tryd.prog.globalNamed x.1) = some g → ∃ a, W.cell? ⟨g, 0, none⟩ = some (errV a) := fun k g hk => by
    cases hx : (listOf sentsR)[k]? with
    | none => rw [hx] at hk; cases hk
    | some x =>
      rw [hx] at hk
      obtain ⟨a, g', ha, hg, hc⟩ := hat k x hx
      have : g' = g := Option.some.inj (hg.symm.trans hk)
      subst this
      exact ⟨a, hc⟩
  obtain ⟨a1, h1⟩ := one 1 9 (by kernel_rfl)
  obtain ⟨a2, h2⟩ := one 0 10 (by kernel_rfl)
  exact ⟨⟨_, _, h1⟩, ⟨_, _, h2⟩, lt_of_cell h1, lt_of_cell h2⟩
set_option maxRecDepth 100000 in
/-- .. of a row that lists the tables ahead, and one more behind -/
theorem readLaid {W : World} (d : DataW Unit) (h : laidMet Tryd.prog (("math/bits.deBruijn32tab", Rows.laid_math_bits_deBruijn32tab) :: ("math/bits.deBruijn64tab", Rows.laid_math_bits_deBruijn64tab) :: ("internal/strconv.uint64pow10", Rows.laid_internal_strconv_uint64pow10) :: ("unicode/utf8.acceptRanges", Rows.laid_unicode_utf8_acceptRanges) :: (sentsR ++ [("unicode/utf8.first", d)])) W) :
    ∃ e, Errs W W.heap.size e ∧ TabJ W ∧ NE W W.heap.size := by
  have h2 := laidMet.tail (laidMet.tail h)
  have e2 : (Rows.laid_internal_strconv_uint64pow10 : DataW Unit) = Lib.tabData .u64 Lib.pow10Tab := by kernel_rfl
  have h3 := h2
  rw [e2] at h3
  have h4 := laidMet_front (laidMet.tail (laidMet.tail h2))
  obtain ⟨e, he⟩ := errsR_of h4
  exact ⟨e, he, tabJ_of h3, ne_of h4⟩
/-- .. of a row that lists no table of utf8's -/
theorem readLaidG {W : World} (h : laidMet Tryd.prog (("math/bits.deBruijn32tab", Rows.laid_math_bits_deBruijn32tab) :: ("math/bits.deBruijn64tab", Rows.laid_math_bits_deBruijn64tab) :: ("internal/strconv.uint64pow10", Rows.laid_internal_strconv_uint64pow10) :: sentsR) W) :
    ∃ e, Errs W W.heap.size e ∧ TabJ W ∧ NE W W.heap.size := by
  have h2 := laidMet.tail (laidMet.tail h)
  have e2 : (Rows.laid_internal_strconv_uint64pow10 : DataW Unit) = Lib.tabData .u64 Lib.pow10Tab := by kernel_rfl
  have h3 := h2
  rw [e2] at h3
  have h4 := laidMet.tail h2
  obtain ⟨e, he⟩ := errsR_of h4
  exact ⟨e, he, tabJ_of h3, ne_of h4⟩
end Go.Proofs.YtjfimmfnhlimkaaDoor.errs
