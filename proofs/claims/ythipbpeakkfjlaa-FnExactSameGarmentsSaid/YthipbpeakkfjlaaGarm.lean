/-
  Contracts of the functions on one garment: what each call returns, for every garment; nothing that was there before is changed.
-/
import Derived.Test.YthipbpeakkfjlaaPure
import Derived.WalkKit
import Derived.WalkSpells
import Derived.WalkLawsBesides
namespace Go.Proofs.Ythipbpeakkfjlaa.garm
open Go.RowKit

set_option maxHeartbeats 1000000 in
theorem toGarment_any (x : Gar) (w : World) :
    Calls Try.prog 13 #[x.v] w fun e w' => e = .returned x.v ∧ Below w.heap.size w w' := by
  go_enter Try.func13, Try.ntmps13
  go_wp2
  refine bodyPost_ret (v := x.v) (by simp [results, Try.results13, go_sem]) rfl ⟨rfl, ?_⟩
  repeat (first | exact Below.refl _ _ | assumption | apply Below.drew | (refine Below.alloc ?_ (by first | (simp; done) | (simp; omega) | omega) _) | (refine Below.setCell ?_ (by first | (simp; done) | (simp; omega) | omega) _))

set_option maxHeartbeats 1000000 in
theorem l01Garment_any (x : Gar) (hx : x.Fits) (w : World) :
    Calls Try.prog 23 #[x.v] w fun e w' => e = .returned (.bool x.valid) ∧ Below w.heap.size w w' := by
  obtain ⟨c, n, m, g⟩ := x
  obtain ⟨c0, c1, n0, n1, m0, m1, g0, g1⟩ := hx
  simp only at c0 c1 n0 n1 m0 m1 g0 g1
  go_enter Try.func23, Try.ntmps23
  go_wp2
  all_goals go_ret
  all_goals refine ⟨ret_bool (by first | (simp [Gar.valid, *]; done) | (simp [Gar.valid]; omega)), ?_⟩
  all_goals repeat (first | exact Below.refl _ _ | assumption | apply Below.drew | (refine Below.alloc ?_ (by first | (simp; done) | (simp; omega) | omega) _) | (refine Below.setCell ?_ (by first | (simp; done) | (simp; omega) | omega) _))

set_option maxHeartbeats 1000000 in
theorem l01Garment_any' (x : Gar) (hx : x.Fits) (w : World) :
    Calls Try.prog 12 #[x.v] w fun e w' => e = .returned (.bool x.valid) ∧ Below w.heap.size w w' := by
  go_enter Try.func12, Try.ntmps12
  go_wp2_with (go_at_call 23; refine (l01Garment_any x hx _).mono ?_; rintro e w1 ⟨rfl, hb⟩)
  go_ret
  exact ⟨rfl, ((Below.refl _ _).alloc (Nat.le_refl _) _).trans (hb.mono (by simp))⟩

set_option maxHeartbeats 1000000 in
theorem ValidGarment_any (x : Gar) (hx : x.Fits) (w : World) :
    Calls Try.prog 14 #[x.v] w fun e w' => e = .returned (.bool x.valid) ∧ Below w.heap.size w w' := by
  obtain ⟨c, n, m, g⟩ := x
  obtain ⟨c0, c1, n0, n1, m0, m1, g0, g1⟩ := hx
  simp only at c0 c1 n0 n1 m0 m1 g0 g1
  go_enter Try.func14, Try.ntmps14
  go_wp2
  all_goals go_ret
  all_goals refine ⟨ret_bool (by first | (simp [Gar.valid, *]; done) | (simp [Gar.valid]; omega)), ?_⟩
  all_goals repeat (first | exact Below.refl _ _ | assumption | apply Below.drew | (refine Below.alloc ?_ (by first | (simp; done) | (simp; omega) | omega) _) | (refine Below.setCell ?_ (by first | (simp; done) | (simp; omega) | omega) _))
end Go.Proofs.Ythipbpeakkfjlaa.garm
