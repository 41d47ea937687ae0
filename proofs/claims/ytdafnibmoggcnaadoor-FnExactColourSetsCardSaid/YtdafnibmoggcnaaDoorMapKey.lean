/-
  Garments as keys of a map.
-/
import Derived.Maps.Keyed
import Derived.Maps.Own
import Derived.Maps.OwnOps
import Derived.DeepKeys4
import Derived.ProofKit
import Derived.Test.YtdafnibmoggcnaaDoorGarm
namespace Go.Proofs.YtdafnibmoggcnaaDoor.mem
open Go Go.RowKit Go.Maps

theorem laidOut : laidOutB Tryd.prog = true := by kernel_rfl
theorem rowG : (56 : TypeId) < Tryd.prog.types.size := of_decide_eq_true (by kernel_rfl)
theorem wideG : (match Tryd.prog.underlying 56 with | some (.array _ _) | some (.struct _) => true | _ => false) = true := by kernel_rfl
set_option maxRecDepth 100000 in
theorem lawG : WideMaps.KeyLaw Tryd.prog 56 := deep_law_laid laidOut (m := 2) (by omega) rowG (by kernel_rfl) wideG
theorem keyedG : Keyed Tryd.prog 56 := Keyed.of_law lawG
theorem cellsG : Tryd.prog.cellsOf 56 = 4 := by kernel_rfl
theorem keyTG : Tryd.prog.keyType 56 = true := by kernel_rfl
theorem fsG : ∃ fs, Tryd.prog.underlying 56 = some (.struct fs) ∧ fs.all (·.name != "_") = true ∧ fs.toList.map (fun f => (f.type, f.offset)) = [(5, 0), (53, 1), (53, 2), (54, 3)] := ⟨_, Tryd.underlying56, by kernel_rfl, by kernel_rfl⟩
theorem mapM_pairs {α β γ : Type} (g : β → Nat → Option γ) (t : α → β) (o : α → Nat) : ∀ (l : List α), l.mapM (fun f => g (t f) (o f)) = (l.map (fun f => (t f, o f))).mapM (fun p => g p.1 p.2)
  | [] => rfl
  | a :: l => by
    rw [List.map_cons, List.mapM_cons, List.mapM_cons, mapM_pairs g t o l]
theorem keyLits_int (d : Nat) (t : TypeId) (q : IntKind) (n : Int) (ht : Tryd.prog.underlying t = some (.int q)) (hw : (Lit.int q n).wf = true) : Tryd.prog.keyLits (d + 1) t [.int q n] = some [.int q n] := by
  unfold Program.keyLits
  rw [ht]
  simp [hw]
theorem wf_of (q : IntKind) (n : Int) (h : q.min ≤ n ∧ n ≤ q.max) : (Lit.int q n).wf = true := by
  simpa [Lit.wf] using h
set_option maxRecDepth 100000 in
theorem keyG (x : Gar) (hx : x.Fits) : ∃ l, keyOf Tryd.prog 56 x.v = some l := by
  obtain ⟨fs, hu, hn, hm⟩ := fsG
  obtain ⟨d, hd⟩ : ∃ d, Tryd.prog.types.size = d + 1 := ⟨Tryd.prog.types.size - 1, by have h0 : 0 < Tryd.prog.types.size := Nat.lt_of_le_of_lt (Nat.zero_le _) rowG; exact (Nat.sub_add_cancel h0).symm⟩
  have hform : x.v.formed Tryd.prog 56 = true := by simp [Value.formed, hu, cellsG]
  have c1 : Tryd.prog.cellsOf 5 = 1 := by kernel_rfl
  have c2 : Tryd.prog.cellsOf 53 = 1 := by kernel_rfl
  have c3 : Tryd.prog.cellsOf 54 = 1 := by kernel_rfl
  have k1 := keyLits_int d 5 .u8 x.c (by kernel_rfl) (wf_of _ _ ⟨hx.c0, hx.c1⟩)
  have k2 := keyLits_int d 53 .i8 x.n (by kernel_rfl) (wf_of _ _ ⟨hx.n0, hx.n1⟩)
  have k3 := keyLits_int d 53 .i8 x.m (by kernel_rfl) (wf_of _ _ ⟨hx.m0, hx.m1⟩)
  have k4 := keyLits_int d 54 .i16 x.g (by kernel_rfl) (wf_of _ _ ⟨hx.g0, hx.g1⟩)
  have hk : Tryd.prog.keyLits (Tryd.prog.types.size + 1) 56 x.v.cells.toList = some [.int .u8 x.c, .int .i8 x.n, .int .i8 x.m, .int .i16 x.g] := by
    rw [hd]
    unfold Program.keyLits
    rw [hu]
    have hl : x.v.cells.toList.length = Tryd.prog.cellsOf 56 ∧ fs.all (·.name != "_") = true := ⟨cellsG.symm, hn⟩
    simp only
    rw [if_pos hl]
    have hp := mapM_pairs (fun (t : TypeId) (o : Nat) => Tryd.prog.keyLits (d + 1) t ((x.v.cells.toList.drop o).take (Tryd.prog.cellsOf t))) (fun f : Field => f.type) (fun f : Field => f.offset) fs.toList
    rw [hm] at hp
    refine (congrArg (Option.map List.flatten) hp).trans ?_
    simp [c1, c2, c3, k1, k2, k3, k4, Value.cells]
  refine ⟨.string (keyBytes [.int .u8 x.c, .int .i8 x.n, .int .i8 x.m, .int .i16 x.g]), ?_⟩
  unfold keyOf
  rw [hu]
  simp only
  rw [keyTG, hform, hk]
  rfl
end Go.Proofs.YtdafnibmoggcnaaDoor.mem
