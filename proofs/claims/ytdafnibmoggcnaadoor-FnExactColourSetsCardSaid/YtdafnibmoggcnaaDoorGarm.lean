/-
  Contracts of the functions on one garment: what each call returns, for every garment; nothing that was there before is changed.
-/
import Derived.Test.YtdafnibmoggcnaaDoorJoin6
import Derived.WalkKit
import Derived.WalkSpells
import Derived.WalkLawsBesides
namespace Go.Proofs.YtdafnibmoggcnaaDoor.garm
open Go.RowKit

set_option maxHeartbeats 1000000 in
theorem toGarment_any (x : Gar) (w : World) :
    Calls Tryd.prog 32 #[x.v] w fun e w' => e = .returned x.v ∧ Below w.heap.size w w' := by
  go_enter Tryd.func32, Tryd.ntmps32
  go_wp2
  refine bodyPost_ret (v := x.v) (by simp [results, Tryd.results32, go_sem]) rfl ⟨rfl, ?_⟩
  repeat (first | exact Below.refl _ _ | assumption | apply Below.drew | (refine Below.alloc ?_ (by first | (simp; done) | (simp; omega) | omega) _) | (refine Below.setCell ?_ (by first | (simp; done) | (simp; omega) | omega) _))

set_option maxHeartbeats 1000000 in
theorem l01Garment_any (x : Gar) (hx : x.Fits) (w : World) :
    Calls Tryd.prog 75 #[x.v] w fun e w' => e = .returned (.bool x.valid) ∧ Below w.heap.size w w' := by
  obtain ⟨c, n, m, g⟩ := x
  obtain ⟨c0, c1, n0, n1, m0, m1, g0, g1⟩ := hx
  simp only at c0 c1 n0 n1 m0 m1 g0 g1
  go_enter Tryd.func75, Tryd.ntmps75
  go_wp2
  all_goals go_ret
  all_goals refine ⟨ret_bool (by first | (simp [Gar.valid, *]; done) | (simp [Gar.valid]; omega)), ?_⟩
  all_goals repeat (first | exact Below.refl _ _ | assumption | apply Below.drew | (refine Below.alloc ?_ (by first | (simp; done) | (simp; omega) | omega) _) | (refine Below.setCell ?_ (by first | (simp; done) | (simp; omega) | omega) _))

set_option maxHeartbeats 1000000 in
theorem ValidGarment_any (x : Gar) (hx : x.Fits) (w : World) :
    Calls Tryd.prog 63 #[x.v] w fun e w' => e = .returned (.bool x.valid) ∧ Below w.heap.size w w' := by
  obtain ⟨c, n, m, g⟩ := x
  obtain ⟨c0, c1, n0, n1, m0, m1, g0, g1⟩ := hx
  simp only at c0 c1 n0 n1 m0 m1 g0 g1
  go_enter Tryd.func63, Tryd.ntmps63
  go_wp2
  all_goals go_ret
  all_goals refine ⟨ret_bool (by first | (simp [Gar.valid, *]; done) | (simp [Gar.valid]; omega)), ?_⟩
  all_goals repeat (first | exact Below.refl _ _ | assumption | apply Below.drew | (refine Below.alloc ?_ (by first | (simp; done) | (simp; omega) | omega) _) | (refine Below.setCell ?_ (by first | (simp; done) | (simp; omega) | omega) _))
end Go.Proofs.YtdafnibmoggcnaaDoor.garm
