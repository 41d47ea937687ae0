/-
  Contracts of MayMeet, the model's and the program's.
-/
import Derived.Test.YtekigapeekjigaaDoorMeet
namespace Go.Proofs.YtekigapeekjigaaDoor.meet
open Go.RowKit errs garS

/-- may two garments be asked about -/
noncomputable def mayOk (r : Nat → Int) (a b : Gar) : Bool := validRB r && (a.valid && b.valid)
/-- what MayMeet tells -/
noncomputable abbrev mayV (r : Nat → Int) (a b : Gar) : Value := .tuple #[.bool (mayOk r a b && meetB r a b), .int .i64 (if mayOk r a b = true then 0 else 1)]
theorem may_no {r : Nat → Int} {a b : Gar} (h : mayOk r a b = false) : mayV r a b = .tuple #[.bool false, .int .i64 1] := by
  unfold mayV
  rw [h]
  rfl
theorem may_yes {r : Nat → Int} {a b : Gar} (h : mayOk r a b = true) : mayV r a b = .tuple #[.bool (meetB r a b), .int .i64 0] := by
  unfold mayV
  rw [h]
  rfl

/-- the world that MayMeet keeps: its three boxes, and the errors -/
abbrev MS (r : Nat → Int) (a b : Gar) (w : World) (B : Nat) (e : Nat → Addr) (x : World) : Prop :=
  x.cell? ⟨w.heap.size, 0, none⟩ = some (.int .u8 (r 0)) ∧ x.cell? ⟨w.heap.size, 1, none⟩ = some (.int .u8 (r 1)) ∧ x.cell? ⟨w.heap.size, 2, none⟩ = some (.int .u8 (r 2)) ∧ x.cell? ⟨w.heap.size, 3, none⟩ = some (.int .u8 (r 3)) ∧ x.cell? ⟨w.heap.size, 4, none⟩ = some (.int .u8 (r 4)) ∧ x.cell? ⟨w.heap.size, 5, none⟩ = some (.int .u8 (r 5)) ∧
  x.cell? ⟨w.heap.size + 1, 0, none⟩ = some (.int .u8 a.c) ∧ x.cell? ⟨w.heap.size + 1, 1, none⟩ = some (.int .i8 a.n) ∧ x.cell? ⟨w.heap.size + 1, 2, none⟩ = some (.int .i8 a.m) ∧ x.cell? ⟨w.heap.size + 1, 3, none⟩ = some (.int .i16 a.g) ∧
  x.cell? ⟨w.heap.size + 1 + 1, 0, none⟩ = some (.int .u8 b.c) ∧ x.cell? ⟨w.heap.size + 1 + 1, 1, none⟩ = some (.int .i8 b.n) ∧ x.cell? ⟨w.heap.size + 1 + 1, 2, none⟩ = some (.int .i8 b.m) ∧ x.cell? ⟨w.heap.size + 1 + 1, 3, none⟩ = some (.int .i16 b.g) ∧
  Boxes r a b w x ∧ Errs x B e

theorem MS.of {r : Nat → Int} {a b : Gar} {w : World} {B : Nat} {e : Nat → Addr} {x : World} (h : Boxes r a b w x) (he : Errs x B e) : MS r a b w B e x :=
  ⟨h.at_ (by decide), h.at_ (by decide), h.at_ (by decide), h.at_ (by decide), h.at_ (by decide), h.at_ (by decide), h.a0, h.a1, h.a2, h.a3, h.b0, h.b1, h.b2, h.b3, h, he⟩
theorem MS.boxes {r : Nat → Int} {a b : Gar} {w : World} {B : Nat} {e : Nat → Addr} {x : World} (h : MS r a b w B e x) : Boxes r a b w x := h.2.2.2.2.2.2.2.2.2.2.2.2.2.2.1
theorem MS.errs {r : Nat → Int} {a b : Gar} {w : World} {B : Nat} {e : Nat → Addr} {x : World} (h : MS r a b w B e x) : Errs x B e := h.2.2.2.2.2.2.2.2.2.2.2.2.2.2.2
theorem MS.next {r : Nat → Int} {a b : Gar} {w : World} {B : Nat} {e : Nat → Addr} {x y : World} (hB : B ≤ w.heap.size) (h : MS r a b w B e x) (hb : Below x.heap.size x y) : MS r a b w B e y :=
  have hs := h.boxes.size
  MS.of (h.boxes.next hb) (h.errs.below (hb.mono (by omega)))
theorem MS.alloc {r : Nat → Int} {a b : Gar} {w : World} {B : Nat} {e : Nat → Addr} {x : World} (hB : B ≤ w.heap.size) (h : MS r a b w B e x) (o : Obj) : MS r a b w B e (x.alloc o) :=
  MS.next hB h ((Below.refl _ _).alloc (Nat.le_refl _) o)
theorem MS.drewN {r : Nat → Int} {a b : Gar} {w : World} {B : Nat} {e : Nat → Addr} {x : World} (hB : B ≤ w.heap.size) (h : MS r a b w B e x) (n : Nat) : MS r a b w B e (x.drewN n) :=
  MS.next hB h (below_drewN _ _ _)
theorem MS.new (r : Nat → Int) (a b : Gar) (t u v : TypeId) {w : World} {B : Nat} {e : Nat → Addr} (hB : B ≤ w.heap.size) (h : Errs w B e) :
    MS r a b w B e (((w.alloc (.cells (rulesCs r) t)).alloc (.cells #[.int .u8 a.c, .int .i8 a.n, .int .i8 a.m, .int .i16 a.g] u)).alloc (.cells #[.int .u8 b.c, .int .i8 b.n, .int .i8 b.m, .int .i16 b.g] v)) :=
  have hx := Boxes.new r a b t u v w
  MS.of hx (h.below (hx.below.mono hB))

/-- two garments in a block just made -/
theorem gs2 (a b : Gar) (ha : a.Fits) (hb : b.Fits) (x : World) (t : TypeId) :
    GS (x.alloc (.cells #[.int .u8 a.c, .int .i8 a.n, .int .i8 a.m, .int .i16 a.g, .int .u8 b.c, .int .i8 b.n, .int .i8 b.m, .int .i16 b.g] t)) (x.alloc (.cells #[.int .u8 a.c, .int .i8 a.n, .int .i8 a.m, .int .i16 a.g, .int .u8 b.c, .int .i8 b.n, .int .i8 b.m, .int .i16 b.g] t)).heap.size (some ⟨x.heap.size, 0, none⟩) [a, b] := by
  have c : ∀ i, (x.alloc (.cells #[.int .u8 a.c, .int .i8 a.n, .int .i8 a.m, .int .i16 a.g, .int .u8 b.c, .int .i8 b.n, .int .i8 b.m, .int .i16 b.g] t)).cell? ⟨x.heap.size, i, none⟩ = _ := fun i => cell_of_row _ _ _ _ _ _ (heap_alloc_new x _)
  refine ⟨fun k y hk => ⟨_, rfl, by simp, ?_⟩, fun y hy => ?_⟩
  · match k, hk with
    | 0, hk =>
      obtain rfl : a = y := by simpa using hk
      exact ⟨c 0, c 1, c 2, c 3⟩
    | 1, hk =>
      obtain rfl : b = y := by simpa using hk
      exact ⟨c 4, c 5, c 6, c 7⟩
  · simp only [List.mem_cons, List.not_mem_nil, or_false] at hy
    rcases hy with rfl | rfl
    · exact ha
    · exact hb

theorem gs2' (a b : Gar) (ha : a.Fits) (hb : b.Fits) {x y : World} {t : TypeId} (h : Below (x.alloc (.cells #[.int .u8 a.c, .int .i8 a.n, .int .i8 a.m, .int .i16 a.g, .int .u8 b.c, .int .i8 b.n, .int .i8 b.m, .int .i16 b.g] t)).heap.size (x.alloc (.cells #[.int .u8 a.c, .int .i8 a.n, .int .i8 a.m, .int .i16 a.g, .int .u8 b.c, .int .i8 b.n, .int .i8 b.m, .int .i16 b.g] t)) y) {n : Nat} (hn : x.heap.size = n) :
    GS y y.heap.size (some ⟨n, 0, none⟩) [a, b] :=
  hn ▸ ((gs2 a b ha hb x t).below h).more h.size

theorem gs2d (a b : Gar) (ha : a.Fits) (hb : b.Fits) {x y : World} {t : TypeId} (h : Below (x.alloc (.cells #[.int .u8 a.c, .int .i8 a.n, .int .i8 a.m, .int .i16 a.g, .int .u8 b.c, .int .i8 b.n, .int .i8 b.m, .int .i16 b.g] t)).drew.heap.size (x.alloc (.cells #[.int .u8 a.c, .int .i8 a.n, .int .i8 a.m, .int .i16 a.g, .int .u8 b.c, .int .i8 b.n, .int .i8 b.m, .int .i16 b.g] t)).drew y) {n : Nat} (hn : x.heap.size = n) :
    GS y y.heap.size (some ⟨n, 0, none⟩) [a, b] :=
  hn ▸ ((gs2 a b ha hb x t).below ((Below.refl _ _).drew.trans h)).more h.size

theorem checkR (r : Nat → Int) (hr : Six r) (a b : Gar) {w : World} {B : Nat} {e : Nat → Addr} {x : World} (hS : MS r a b w B e x) (hB : B ≤ w.heap.size) (k : Nat) (hk : (if validRB r = true then 0 else 1) = k) (v : Value) (hv : errOf e k = v) :
    Calls Tryd.prog 58 #[rulesV r] x fun o w' => o = .returned v ∧ Below x.heap.size x w' := by
  have hs := hS.boxes.size
  subst hv
  exact checkRules_any r hr hS.errs (by omega) k hk.symm
theorem checkG (r : Nat → Int) (a b : Gar) {w : World} {B : Nat} {e : Nat → Addr} {x : World} (hS : MS r a b w B e x) (hB : B ≤ w.heap.size) {A : Option Addr} {c : Nat} (hg : GS x x.heap.size A [a, b]) (k : Nat) (hk : (if (a.valid && b.valid) = true then 0 else 1) = k) (v : Value) (hv : errOf e k = v) :
    Calls Tryd.prog 66 #[.slice A 2 c] x fun o w' => o = .returned v ∧ Below x.heap.size x w' := by
  have hs := hS.boxes.size
  subst hv
  exact checkGarments_any A 2 c [a, b] rfl (by decide) hS.errs (by omega) hg k (by rw [← hk]; simp)

theorem may_ok {r : Nat → Int} {a b : Gar} (h1 : (if validRB r = true then 0 else 1) = (0 : Nat)) (h2 : (if (a.valid && b.valid) = true then 0 else 1) = (0 : Nat)) : validRB r = true ∧ a.valid = true ∧ b.valid = true := by
  cases h : validRB r <;> cases h' : a.valid <;> cases h'' : b.valid <;> simp_all
theorem may_bad {r : Nat → Int} {a b : Gar} (h : (if validRB r = true then 0 else 1) = (1 : Nat) ∨ (if (a.valid && b.valid) = true then 0 else 1) = (1 : Nat)) : mayOk r a b = false := by
  unfold mayOk
  cases h1 : validRB r <;> cases h2 : a.valid <;> cases h3 : b.valid <;> simp_all

end Go.Proofs.YtekigapeekjigaaDoor.meet
