/-
  The package-level variables of the errors, as the rows list them; and how a law's call is shut where its row lists variables.
-/
import Derived.Test.YtdafnibmoggcnaaDoorErr
import Derived.Test.YtdafnibmoggcnaaDoorClose
import Derived.Stop.LaidErr
import Derived.LaidMore
import Derived.OpenVars
namespace Go.Proofs.YtdafnibmoggcnaaDoor.errs
open Go.ChangeShapes Go.WideShapes Go.ChangeAt Go.RowKit

theorem close_vars {H : Type} {enc : TypeId × Value → H} {P : Program} {f : Func} {s : ChangeSpec} {W W' : World} {args : Array Value} {ds gs : List (DataW H)} {before : List MemPlace} {T : TypeId}
    (hl : laidOutB P = true) (hr : ∀ t ∈ f.params.toList, P.readableRec t = true ∧ t < P.types.size) (hv : varsRowed P s.vars = true) (hT : P.underlying T = some .bool) (hres : f.resultTypes = #[T])
    (hfn : s.fn H (ds ++ gs) = { results := [.lit (.bool true)], args := ds, vars := gs })
    (hW : DataW.Whole enc P f.params.toList s.vars false W args.toList ds gs before) (hb : Below W.heap.size W W') :
    s.post enc P f false true false false W args (.bool true) W' := by
  have hW' := hW
  obtain ⟨p, q, hA, hV, hps, hfz, hnd⟩ := hW
  refine ⟨ds, gs, before, [], p, q, hW', ?_, ?_, ?_, hb.frame _, fun h => by cases h⟩
  · rw [hfn, hres]
    exact trodAll_cons_mk (shut_bool hT true) trodAll_mk0
  · rw [hfn]
    exact trodAll_below hl hb hr hA (fun x hx => hW'.lt x (by rw [hps]; exact List.mem_append_left _ hx))
  · rw [hfn]
    exact Below.trodVars hl hb hv hV

/-- an error's datum -/
abbrev sent (nm : String) (x : String × List UInt8) : String × DataW Unit := (x.1, .iface nm (.ptr (.agg [.lit (.string x.2)])))

theorem sentinels {P : Program} {W : World} {ti tp te ts : TypeId} {ms : Array (String × TypeId)} {f : Field} {nm : String}
    (hi : P.underlying ti = some (.interface ms)) (hrow : ∀ u, P.typeName? 3 u = some nm → u = tp) (hp : P.underlying tp = some (.pointer te)) (he : P.underlying te = some (.struct #[f]))
    (hft : f.type = ts) (hfo : f.offset = 0) (hs : P.underlying ts = some .string) (hc : P.cellsOf te = 1) (hcs : P.cellsOf ts = 1) :
    ∀ (L : List (String × List UInt8)) (ps : List MemPlace), (∀ x ∈ L, ∃ g, P.globalNamed x.1 = some g ∧ (P.globals[g]?).map (·.type) = some ti) →
      DataW.LaidVars P W (L.map (sent nm)) ps → ps.Nodup →
      (∀ b off, MemPlace.cell b off ∈ ps → (∃ c t, W.heap[b]? = some (.cells c t (0, 0))) ∧ ∀ u v, W.cell? ⟨b, off, none⟩ = some (.iface u v) → Value.okWide P W .any 0 u v) →
      ∃ As : List Addr, As.length = L.length ∧ As.Nodup ∧ (∀ a ∈ As, MemPlace.cell a.block a.off ∈ ps) ∧
        ∀ (i : Nat) (x : String × List UInt8), L[i]? = some x → ∃ a g, As[i]? = some a ∧ P.globalNamed x.1 = some g ∧ W.cell? ⟨g, 0, none⟩ = some (.iface tp (.pointer (some a)))
  | [], _, _, _, _, _ => ⟨[], rfl, List.nodup_nil, fun a ha => by simp at ha, fun i x hx => by simp at hx⟩
  | (n, t) :: L, ps, hty, hv, hnd, hrows => by
    obtain ⟨g0, t0, cs0, f0, p0, q0, hg0, ht0, hv0, hd0, hq, e0⟩ := hv
    obtain ⟨g1, hg1, ht1⟩ := hty (n, t) (List.mem_cons.2 (Or.inl rfl))
    obtain rfl := Option.some.inj (hg1.symm.trans hg0)
    obtain rfl := Option.some.inj (ht1.symm.trans ht0)
    subst e0
    obtain ⟨l0⟩ := cs0
    have ok0 : ∀ u v, l0 = [.iface u v] → Value.okWide P W .any 0 u v := fun u v e => by
      subst e
      exact (hrows g1 0 (by simp [MemPlace.row])).2 u v (by simpa using World.var?_cell hg0 hv0 0)
    obtain ⟨a0, s0, rfl, hc0, hs0, hz0, rfl⟩ := errorString_of_trod hi hrow hp he hft hfo hs hc hcs hd0 ok0
    obtain ⟨As, hlen, hnd', hmem, hat⟩ := sentinels hi hrow hp he hft hfo hs hc hcs L q0 (fun x hx => hty x (List.mem_cons.2 (Or.inr hx))) hq (hnd.sublist (List.sublist_append_right _ _))
      (fun b off hm => hrows b off (List.mem_append_right _ hm))
    have hpl : MemPlace.cell a0.block a0.off ∈ MemPlace.row ⟨g1, 0, none⟩ 1 ++ MemPlace.row a0 1 := List.mem_append_right _ (by simp [MemPlace.row])
    refine ⟨a0 :: As, by simp [hlen], List.nodup_cons.2 ⟨fun hin => ?_, hnd'⟩, ?_, ?_⟩
    · exact (List.nodup_append.1 hnd).2.2 _ hpl _ (hmem a0 hin) rfl
    · intro a ha
      rcases List.mem_cons.1 ha with rfl | ha
      · exact List.mem_append_left _ hpl
      · exact List.mem_append_right _ (hmem a ha)
    · intro i x hx
      cases i with
      | zero =>
        simp only [List.getElem?_cons_zero, Option.some.injEq] at hx
        subst hx
        exact ⟨a0, g1, rfl, hg0, by simpa using World.var?_cell hg0 hv0 0⟩
      | succ i => exact hat i x (by simpa using hx)

theorem nodup_inj {α : Type} : ∀ {l : List α}, l.Nodup → ∀ {i j : Nat} {a : α}, l[i]? = some a → l[j]? = some a → i = j
  | [], _, _, _, _, h, _ => by simp at h
  | x :: r, hn, 0, 0, _, _, _ => rfl
  | x :: r, hn, 0, j + 1, a, h, h' => by
    simp only [List.getElem?_cons_zero, Option.some.injEq, List.getElem?_cons_succ] at h h'
    subst h
    exact absurd (List.mem_of_getElem? h') (List.nodup_cons.1 hn).1
  | x :: r, hn, i + 1, 0, a, h, h' => by
    simp only [List.getElem?_cons_zero, Option.some.injEq, List.getElem?_cons_succ] at h h'
    subst h'
    exact absurd (List.mem_of_getElem? h) (List.nodup_cons.1 hn).1
  | x :: r, hn, i + 1, j + 1, a, h, h' => by
    simp only [List.getElem?_cons_succ] at h h'
    rw [nodup_inj (List.nodup_cons.1 hn).2 h h']

/-- the text of an error's datum -/
def textOf : DataW Unit → List UInt8
  | .iface _ (.ptr (.agg [.lit (.string s)])) => s
  | _ => []
abbrev listOf (l : List (String × DataW Unit)) : List (String × List UInt8) := l.map fun x => (x.1, textOf x.2)

theorem star : ("*" ++ "errors.errorString") = "*errors.errorString" := by decide
theorem rowE (u : TypeId) (h : Tryd.prog.typeName? 3 u = some "*errors.errorString") : u = 120 :=
  typeName_ptr_named (nm := "errors.errorString") (by rw [star]; kernel_rfl) (by kernel_rfl) (by decide) u (by rw [star]; exact h)
abbrev fldErr : Field := { name := "s", type := 9, offset := 0, embedded := false, tag := "", pkgPath := "errors", byteOffset := 0 }
theorem fldE : Tryd.prog.underlying 146 = some (.struct #[fldErr]) := by kernel_rfl
theorem cellsE : Tryd.prog.cellsOf 146 = 1 := by kernel_rfl
theorem cellsStr : Tryd.prog.cellsOf 9 = 1 := by kernel_rfl

/-- the package-level variable of each error -/
def gvar : Nat → Nat
  | 0 => 0
  | 1 => 2
  | 2 => 1
  | 3 => 3
  | 4 => 4
  | 5 => 5
  | _ => 6

theorem lt_of_cell {W : World} {p : Addr} {v : Value} (h : W.cell? p = some v) : p.block < W.heap.size := block_lt_of_cell h

/-- what a row's list of the errors gives, whatever its order: k i is the place of the error i in it -/
theorem errs_of {W : World} (l : List (String × DataW Unit)) (k : Nat → Nat) (h : laidMet Tryd.prog l W) (hl : l = (listOf l).map (sent "*errors.errorString"))
    (hty : ∀ x ∈ listOf l, ∃ g, Tryd.prog.globalNamed x.1 = some g ∧ (Tryd.prog.globals[g]?).map (·.type) = some 60)
    (hk : ∀ i, i < 7 → ((listOf l)[k i]?).bind (fun x => Tryd.prog.globalNamed x.1) = some (gvar i)) (hinj : ∀ i j, i < 7 → j < 7 → k i = k j → i = j) :
    ∃ e, Errs W W.heap.size e := by
  obtain ⟨ps, hv, hnd, hrows⟩ := h
  rw [hl] at hv
  obtain ⟨As, hlen, hndA, hmem, hat⟩ := sentinels Tryd.underlying60 rowE Tryd.underlying120 fldE rfl rfl Tryd.underlying9 cellsE cellsStr (listOf l) ps hty hv hnd hrows
  have hone : ∀ i, i < 7 → ∃ a, As[k i]? = some a ∧ W.cell? ⟨gvar i, 0, none⟩ = some (errV a) := fun i hi => by
    have h1 := hk i hi
    cases hx : (listOf l)[k i]? with
    | none => rw [hx] at h1; cases h1
    | some x =>
      rw [hx] at h1
      obtain ⟨a, g, ha, hg, hc⟩ := hat (k i) x hx
      have : g = gvar i := Option.some.inj (hg.symm.trans h1)
      subst this
      exact ⟨a, ha, hc⟩
  have e1 : ∀ i, i < 7 → W.cell? ⟨gvar i, 0, none⟩ = some (errV ((As[k i]?).getD ⟨0, 0, none⟩)) := fun i hi => by
    obtain ⟨a, ha, hc⟩ := hone i hi
    rw [ha]
    exact hc
  have hrow : ∀ i, i < 7 → ∃ c t, W.heap[((As[k i]?).getD ⟨0, 0, none⟩).block]? = some (.cells c t (0, 0)) := fun i hi => by
    obtain ⟨a, ha, hc⟩ := hone i hi
    rw [ha]
    exact (hrows a.block a.off (hmem a (List.mem_of_getElem? ha))).1
  refine ⟨fun i => (As[k i]?).getD ⟨0, 0, none⟩, ⟨e1 0 (by decide), e1 1 (by decide), e1 2 (by decide), e1 3 (by decide), e1 4 (by decide), e1 5 (by decide), e1 6 (by decide),
    ⟨lt_of_cell (e1 0 (by decide)), lt_of_cell (e1 1 (by decide)), lt_of_cell (e1 2 (by decide)), lt_of_cell (e1 3 (by decide)), lt_of_cell (e1 4 (by decide)), lt_of_cell (e1 5 (by decide)), lt_of_cell (e1 6 (by decide))⟩, hrow, fun i hi => ?_, fun i j hi hj hij => ?_⟩⟩
  · obtain ⟨c, t, hh⟩ := hrow i hi
    exact (Array.getElem?_eq_some_iff.1 hh).1
  · obtain ⟨a, ha, _⟩ := hone i hi
    obtain ⟨b, hb, _⟩ := hone j hj
    simp only [ha, hb, Option.getD_some]
    rintro rfl
    exact hij (hinj i j hi hj (nodup_inj hndA ha hb))

theorem vars_of {H : Type} {enc : TypeId × Value → H} {P : Program} {W : World} {sp : Nat → Bool} {n0 n1 n2 n3 n4 n5 n6 : String} {gs : List (DataW H)} {q : List MemPlace} (h : DataW.TrodVars enc P W sp [n0, n1, n2, n3, n4, n5, n6] gs q) :
    ∃ z0 z1 z2 z3 z4 z5 z6, gs = [z0, z1, z2, z3, z4, z5, z6] := by
  match gs, h with
  | [z0, z1, z2, z3, z4, z5, z6], _ => exact ⟨z0, z1, z2, z3, z4, z5, z6, rfl⟩
  | [], h => exact h.elim
  | [_], h => obtain ⟨_, _, _, _, _, _, _, _, _, _, h, _⟩ := h; exact h.elim
  | [_, _], h => obtain ⟨_, _, _, _, _, _, _, _, _, _, ⟨_, _, _, _, _, _, _, _, _, _, h, _⟩, _⟩ := h; exact h.elim
  | [_, _, _], h => obtain ⟨_, _, _, _, _, _, _, _, _, _, ⟨_, _, _, _, _, _, _, _, _, _, ⟨_, _, _, _, _, _, _, _, _, _, h, _⟩, _⟩, _⟩ := h; exact h.elim
  | [_, _, _, _], h => obtain ⟨_, _, _, _, _, _, _, _, _, _, ⟨_, _, _, _, _, _, _, _, _, _, ⟨_, _, _, _, _, _, _, _, _, _, ⟨_, _, _, _, _, _, _, _, _, _, h, _⟩, _⟩, _⟩, _⟩ := h; exact h.elim
  | [_, _, _, _, _], h => obtain ⟨_, _, _, _, _, _, _, _, _, _, ⟨_, _, _, _, _, _, _, _, _, _, ⟨_, _, _, _, _, _, _, _, _, _, ⟨_, _, _, _, _, _, _, _, _, _, ⟨_, _, _, _, _, _, _, _, _, _, h, _⟩, _⟩, _⟩, _⟩, _⟩ := h; exact h.elim
  | [_, _, _, _, _, _], h => obtain ⟨_, _, _, _, _, _, _, _, _, _, ⟨_, _, _, _, _, _, _, _, _, _, ⟨_, _, _, _, _, _, _, _, _, _, ⟨_, _, _, _, _, _, _, _, _, _, ⟨_, _, _, _, _, _, _, _, _, _, ⟨_, _, _, _, _, _, _, _, _, _, h, _⟩, _⟩, _⟩, _⟩, _⟩, _⟩ := h; exact h.elim
  | _ :: _ :: _ :: _ :: _ :: _ :: _ :: _ :: _, h => obtain ⟨_, _, _, _, _, _, _, _, _, _, ⟨_, _, _, _, _, _, _, _, _, _, ⟨_, _, _, _, _, _, _, _, _, _, ⟨_, _, _, _, _, _, _, _, _, _, ⟨_, _, _, _, _, _, _, _, _, _, ⟨_, _, _, _, _, _, _, _, _, _, ⟨_, _, _, _, _, _, _, _, _, _, h, _⟩, _⟩, _⟩, _⟩, _⟩, _⟩, _⟩ := h; exact h.elim
end Go.Proofs.YtdafnibmoggcnaaDoor.errs
