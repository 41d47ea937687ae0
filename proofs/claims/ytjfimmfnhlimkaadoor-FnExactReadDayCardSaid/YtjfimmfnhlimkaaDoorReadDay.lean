/-
  THE LAW FnExactReadDay: for every text the law returns true: the program reads the day that the model reads. No condition but that the package's errors, the library's two errors of numbers and its tables are what the program's text lays.
-/
import Derived.Test.YtjfimmfnhlimkaaDoorJoin34
import Derived.Test.YtjfimmfnhlimkaaDoorOpenWords
import Derived.Test.YtjfimmfnhlimkaaDoorClose
import Derived.Test.YtjfimmfnhlimkaaDoorRdLaid
import Derived.Test.YtjfimmfnhlimkaaDoorCards
import Derived.Test.YtjfimmfnhlimkaaDoorTie
import Derived.ProofKit
import Derived.OpenShut
import Derived.ChangeMaps5
import Derived.Lib.SmallJoins
namespace Go.Proofs.YtjfimmfnhlimkaaDoor.lawReadDay
open Go.ChangeShapes Go.WideShapes Go.ChangeAt Go.RowKit Go.Joins sl errs txt rd hang day

theorem rdW_len {t : List UInt8} {L : List Wea} {k : Nat} (h : rdW t = (L, k)) : L.length = 24 := by
  rw [rdW] at h
  cases hp : progW t with
  | none =>
    rw [hp] at h
    obtain ⟨rfl, _⟩ := Prod.mk.inj h
    exact noDay_len
  | some D =>
    rw [hp] at h
    obtain ⟨rfl, _⟩ := Prod.mk.inj h
    rw [progW] at hp
    cases hr : readL readW (splitB 32 t) with
    | none => rw [hr] at hp; cases hp
    | some E =>
      rw [hr] at hp
      simp only at hp
      by_cases hc : E.length ≤ 24 ∧ dayText (padW E) = bsJ t
      · rw [if_pos hc] at hp
        obtain rfl := Option.some.inj hp
        exact padW_len hc.1
      · rw [if_neg hc] at hp; cases hp
set_option maxRecDepth 100000 in
set_option maxHeartbeats 4000000 in
theorem walk (s : ByteArray) (hs : s.size ≤ 1048576) (w : World) (e : Nat → Addr) (hE : Errs w w.heap.size e) (hN : NE w w.heap.size) (hT : TabJ w) :
    Calls Tryd.prog 6 #[.string s] w fun e w' => e = .returned (.bool true) ∧ Below w.heap.size w w' := by
  obtain ⟨L, k, hr⟩ : ∃ L k, rdW s.data.toList = (L, k) := ⟨_, _, rfl⟩
  have HR := Lib.hid hr
  have HLN := Lib.hid (rdW_len hr)
  have H0 := Lib.hid (Below.refl w.heap.size w)
  have HIP := Lib.hid (fun (u : World) (hu : Below w.heap.size w u) => ReadDay_any s hs L k HR.out (hE.below hu) (hN.below hu) hu.size (fun w' hw' => hT w' (hu.trans (hw'.mono hu.size))))
  clear hr hE hN hT
  go_enter Tryd.func6, Tryd.ntmps6
  go_wp2_with fail
  refine (ReadDay_spec s hs L k HR.out _).mono ?_
  rintro o w1 ⟨rfl, hb⟩
  have H1 := Lib.hid (below_next H0.out hb (Nat.le_refl _))
  have o1 : OwnD (w1.alloc (.cells zeroCs 40)) w.heap.size w1.heap.size zeroCs.toList := OwnD.new zeroCs zeroCs_size w1 H1.out.size
  have HT1 := Lib.hid (OwnD.there o1)
  have hzz : ∀ u : World, (zeroValue 40).run Tryd.prog u = .ok (.agg zeroCs) u := (zero_of_info zeroD).1
  have A1 := Lib.hid (stored_day HLN.out (o1.lt _ rfl).2 HT1.out)
  have H2 := Lib.hid (below_cells (H1.out.alloc H1.out.size (.cells zeroCs 40)) (g := w1.heap.size) H1.out.size (L.flatMap Wea.cells) 0)
  clear hb o1 H0
  go_wp2_with (first | (refine wpl_store_day rfl (.tmp 3) (.tmp 13) rfl w1.heap.size rfl HLN.out rfl HT1.out ?_) | fail)
  generalize w1.heap.size = g1 at A1 H2 ⊢
  generalize (w1.alloc (.cells zeroCs 40)).setCells g1 0 (L.flatMap Wea.cells) = V at A1 H2 ⊢
  clear HT1 H1
  refine (HIP.out _ H2.out).mono ?_
  rintro o w2 ⟨rfl, hb⟩
  have H3 := Lib.hid (below_next H2.out hb (Nat.le_refl _))
  have A2 := Lib.hid (A1.out.next hb)
  have o2 : OwnD (w2.alloc (.cells zeroCs 40)) w.heap.size w2.heap.size zeroCs.toList := OwnD.new zeroCs zeroCs_size w2 H3.out.size
  have HT2 := Lib.hid (OwnD.there o2)
  have A3 := Lib.hid (stored_day HLN.out (o2.lt _ rfl).2 HT2.out)
  have A2b := Lib.hid ((A2.out.next ((Below.refl w2.heap.size w2).alloc (Nat.le_refl _) (.cells zeroCs 40))).below (below_cells ((Below.refl w2.heap.size (w2.alloc (.cells zeroCs 40)))) (g := w2.heap.size) (Nat.le_refl _) (L.flatMap Wea.cells) 0) A2.out.lt)
  have H4 := Lib.hid (below_cells (H3.out.alloc H3.out.size (.cells zeroCs 40)) (g := w2.heap.size) H3.out.size (L.flatMap Wea.cells) 0)
  clear hb o2 H2 A1 A2
  go_wp2_with (first | (refine wpl_store_day rfl (.tmp 5) (.tmp 18) rfl w2.heap.size rfl HLN.out rfl HT2.out ?_) | (refine wpl_load_day rfl (.tmp 5) rfl w2.heap.size rfl HLN.out A3.out ?_) | (refine wpl_load_day rfl (.tmp 3) rfl g1 rfl HLN.out A2b.out ?_) | fail)
  generalize w2.heap.size = g2 at A3 A2b H4 ⊢
  generalize (w2.alloc (.cells zeroCs 40)).setCells g2 0 (L.flatMap Wea.cells) = V2 at A3 A2b H4 ⊢
  clear HT2 H3
  refine (eqDay_same L HLN.out _).mono ?_
  rintro o w3 ⟨rfl, hb⟩
  have H5 := Lib.hid (below_next H4.out hb (Nat.le_refl _))
  clear hb H4 A3 A2b
  go_wp2_with fail
  go_ret
  exact ⟨rfl, H5.out⟩
set_option maxHeartbeats 1000000 in
theorem walk_long (s : ByteArray) (hm : s.size ≤ 9223372036854775807) (hs : 1048576 < s.size) (w : World) :
    Calls Tryd.prog 6 #[.string s] w fun e w' => e = .returned (.bool true) ∧ Below w.heap.size w w' := by
  go_enter Tryd.func6, Tryd.ntmps6
  go_wp2_with fail
  go_ret
  exact ⟨rfl, Below.refl _ _⟩

theorem readables : ∀ t ∈ Tryd.f6.params.toList, Tryd.prog.readableRec t = true ∧ t < Tryd.prog.types.size := by
  rw [Tryd.params6]
  intro t ht
  simp only [List.mem_cons, List.not_mem_nil, or_false] at ht
  subst ht
  exact ⟨by kernel_rfl, of_decide_eq_true (by kernel_rfl)⟩

set_option maxRecDepth 100000 in
theorem errsLaid {W : World} (h : laidMetH Tryd.prog Rows.fnExactReadDayRow.laid W) : ∃ e, Errs W W.heap.size e ∧ TabJ W ∧ NE W W.heap.size := by
  rw [MakeChecks.laidMetH_plain _ _ _ (by kernel_rfl)] at h
  exact readLaid Rows.laid_unicode_utf8_first h

set_option maxRecDepth 100000 in
theorem contract (H : Type) (enc : TypeId × Value → H) (W : World) (base : Nat) (args : Array Value) (ds gs : List (DataW H)) (before : List MemPlace)
    (hval : ∀ (j : Nat) t v, Tryd.f6.params[j]? = some t → args[j]? = some v → Value.okWide Tryd.prog W .any base t v)
    (hW : DataW.Whole enc Tryd.prog Tryd.f6.params.toList Rows.fnExactReadDaySpec.vars false W args.toList ds gs before) (hL : laidMetH Tryd.prog Rows.fnExactReadDayRow.laid W) :
    Calls Tryd.prog 6 args W fun e W' => ∃ v, e = .returned v ∧ Rows.fnExactReadDaySpec.post enc Tryd.prog Tryd.f6 false true false false W args v W' := by
  obtain ⟨ee, hE⟩ := errsLaid hL
  have hW' := hW
  obtain ⟨p, q, hA0, hV, rfl, hfz, hnd⟩ := hW
  have hA : DataW.TrodAll enc Tryd.prog W 0 (fun _ => true) true Tryd.f6.params.toList args.toList ds p := hA0
  rw [Tryd.params6] at hA hval
  clear hA0
  obtain ⟨v0, vs0, d0, ds0, p0, q0, hargs, rfl, rfl, h0, r0⟩ := trodAll_cons hA
  obtain ⟨rfl, rfl, rfl⟩ := trodAll_nil r0
  obtain rfl : args = #[v0] := by cases args; simp_all
  obtain ⟨z0, z1, z2, z3, z4, z5, z6, rfl⟩ := vars_of hV
  obtain ⟨hE, hT, hN⟩ := hE
  obtain ⟨s, rfl, rfl, rfl, ws⟩ := Go.ChangeMaps.open_string Tryd.underlying9 (hval 0 9 v0 rfl rfl) h0
  have walk' : Calls Tryd.prog 6 #[.string s] W fun e W' => e = .returned (.bool true) ∧ Below W.heap.size W W' := by
    unfold maxLen at ws
    rcases Nat.lt_or_ge 1048576 s.size with h | h
    · exact walk_long s ws h W
    · exact walk s h W ee hE hN hT
  refine walk'.mono fun e W' ⟨he, hb⟩ => ?_
  subst he
  exact ⟨_, rfl, close_vars laidOut readables (by kernel_rfl) Tryd.underlying4 rfl rfl hW' hb⟩

end Go.Proofs.YtjfimmfnhlimkaaDoor.lawReadDay
