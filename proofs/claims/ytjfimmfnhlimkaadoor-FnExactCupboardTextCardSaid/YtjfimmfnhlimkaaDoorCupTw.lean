/-
  Texts of cupboards: the model's CupboardText; what the law's row lays.
-/
import Derived.Test.YtjfimmfnhlimkaaDoorCupTi
import Derived.Test.YtjfimmfnhlimkaaDoorLaid
namespace Go.Proofs.YtjfimmfnhlimkaaDoor.cupt
open Go Go.RowKit sl fold rows cup dec errs

theorem tot_leT {rs : List Rw} {n : Nat} (h : n + tot rs ≤ 1048576) : ∀ r ∈ rs, r.xs.length ≤ 1048576 := fun r hr => by
  have := tot_mem hr
  omega
set_option maxRecDepth 100000 in
set_option maxHeartbeats 4000000 in
theorem CupboardText_spec (A : Option Addr) (n c : Nat) (rs : List Rw) (en : n = rs.length) (hn : n ≤ 1048576) (w : World) (hg : SS w w.heap.size A rs) (b : Bool) (hb : b = true ↔ CupOk (nums rs)) :
    Calls Tryd.prog 53 #[.slice A n c] w fun o w' => o = .returned (.string (if b = true then bsT (cupT (nums rs)) else ⟨#[]⟩)) ∧ Below w.heap.size w w' := by
  have HV := Lib.hid (l04Cupboard_any A n c rs en (by omega) w hg b hb)
  have En := Lib.hid en
  cases b with
  | false =>
    clear hb en
    go_enter Tryd.func53, Tryd.ntmps53
    go_wp2_with fail
    refine HV.out.mono ?_
    rintro o u ⟨rfl, hb⟩
    have HB := Lib.hid hb
    clear hb
    go_wp2_with fail
    go_ret
    exact ⟨rfl, HB.out⟩
  | true =>
    have HC := Lib.hid (hb.1 rfl)
    clear hb en
    go_enter Tryd.func53, Tryd.ntmps53
    go_wp2_with fail
    refine HV.out.mono ?_
    rintro o u ⟨rfl, hb⟩
    have HB := Lib.hid hb
    clear hb
    go_wp2_with fail
    refine (l04Text_any A n c rs En.out HC.out _ ((hg.below HB.out).more HB.out.size)).mono ?_
    rintro o u2 ⟨rfl, hb⟩
    have HB2 := Lib.hid (below_next HB.out hb (Nat.le_refl _))
    clear hb
    go_wp2_with fail
    go_ret
    exact ⟨rfl, HB2.out⟩
set_option maxRecDepth 100000 in
theorem tab_of_laid {W : World} {rest : List (String × DataW Unit)} (h : laidMet Tryd.prog (("internal/strconv.uint64pow10", Rows.laid_internal_strconv_uint64pow10) :: rest) W) : TabB W := by
  have e2 : (Rows.laid_internal_strconv_uint64pow10 : DataW Unit) = Lib.tabData .u64 Lib.pow10Tab := by kernel_rfl
  rw [e2] at h
  exact Lib.tabBelow_of_tabIs (Lib.tabIs_of_head (g := 7) (by kernel_rfl) (by kernel_rfl) Tryd.underlying266 Tryd.underlying237 (by kernel_rfl) (by kernel_rfl) h)
theorem one_of_laid {W : World} {text : List UInt8} {r : List (String × DataW Unit)} (h : laidMet Tryd.prog (("loop.example/g01378/impl.errInvalid", .iface "*errors.errorString" (.ptr (.agg [.lit (.string text)]))) :: r) W) : ∃ a, E1 W W.heap.size a := by
  obtain ⟨a, s, hv, _⟩ := laid_sentinel (g := 1) h (by kernel_rfl) (by kernel_rfl) Tryd.underlying94 rowE Tryd.underlying284 fldE rfl rfl Tryd.underlying9 cellsE cellsStr
  have hc : W.cell? ⟨1, 0, none⟩ = some (errV a) := by simpa using World.var?_cell (by kernel_rfl) hv 0
  exact ⟨a, hc, lt_of_cell hc⟩
theorem vars1_of {H : Type} {enc : TypeId × Value → H} {P : Program} {W : World} {sp : Nat → Bool} {n0 : String} {gs : List (DataW H)} {q : List MemPlace} (h : DataW.TrodVars enc P W sp [n0] gs q) : ∃ z0, gs = [z0] := by
  match gs, h with
  | [z0], _ => exact ⟨z0, rfl⟩
  | [], h => exact h.elim
  | _ :: _ :: _, h => obtain ⟨_, _, _, _, _, _, _, _, _, _, h, _⟩ := h; exact h.elim
end Go.Proofs.YtjfimmfnhlimkaaDoor.cupt
