/-
  Several texts of this proof, joined.
-/
import Derived.Test.YtjfimmfnhlimkaaDoorDec
import Derived.Test.YtjfimmfnhlimkaaDoorShT
import Derived.Lib.Join
import Derived.Lib.AppendIntMem
import Derived.Test.YtjfimmfnhlimkaaDoorShB
import Derived.Shelf.RegionOpenPlain
import Derived.Lib.Builder
import Derived.Lib.AppendStr
import Derived.Lib.UnsafeStr
import Derived.Laws.Externs
/-
  Texts of lists: parts joined with one byte between them; the library's Join and Itoa in plain words.
-/
namespace Go.Proofs.YtjfimmfnhlimkaaDoor.txt
open Go Go.RowKit sl dec

abbrev bsJ (l : List UInt8) : ByteArray := ⟨l.toArray⟩
theorem bsJ_append (a b : List UInt8) : bsJ (a ++ b) = bsJ a ++ bsJ b := by
  apply ByteArray.ext
  apply Array.toList_inj.1
  simp
theorem bsJ_size (a : List UInt8) : (bsJ a).size = a.length := by simp [ByteArray.size]
theorem joinJ_snoc (xs : List (List UInt8)) (x sep : List UInt8) (h : xs ≠ []) : Lib.join (xs ++ [x]) sep = Lib.join xs sep ++ (sep ++ x) := by
  cases xs with
  | nil => exact absurd rfl h
  | cons y r =>
    rw [List.cons_append, Lib.join_cons, Lib.join_cons]
    simp [Lib.joinTail, List.append_assoc]
/-- the text ahead of a part -/
def preJ (sep : UInt8) (ls : List (List UInt8)) (i : Nat) : List UInt8 := if i = 0 then [] else Lib.join (ls.take i) [sep] ++ [sep]
theorem preJ_part {sep : UInt8} {ls : List (List UInt8)} {i : Nat} {l : List UInt8} (h : ls[i]? = some l) : preJ sep ls i ++ l = Lib.join (ls.take (i + 1)) [sep] := by
  rw [List.take_add_one, h, Option.toList_some, preJ]
  by_cases h0 : i = 0
  · subst h0; simp [Lib.join_one]
  · have hne : ls.take i ≠ [] := by
      intro e
      have h1 := (List.getElem?_eq_some_iff.1 h).1
      have h2 : (ls.take i).length = 0 := by rw [e]; rfl
      rw [List.length_take] at h2
      omega
    rw [if_neg h0, joinJ_snoc _ _ _ hne, List.append_assoc]
theorem joinJ_len (c : UInt8) (B : Nat) : ∀ {ls : List (List UInt8)}, (∀ l ∈ ls, l.length ≤ B) → (Lib.join ls [c]).length ≤ (B + 1) * ls.length
  | [], _ => by simp [Lib.join_nil]
  | x :: r, h => by
    have key : ∀ r : List (List UInt8), (∀ l ∈ r, l.length ≤ B) → (Lib.joinTail [c] r).length ≤ (B + 1) * r.length := by
      intro r hr
      induction r with
      | nil => simp [Lib.joinTail]
      | cons y r ih =>
        have h2 := hr y (List.mem_cons_self ..)
        have h3 := ih fun z hz => hr z (List.mem_cons_of_mem _ hz)
        simp only [Lib.joinTail, List.map_cons, List.flatten_cons, List.length_append, List.length_cons, List.length_nil, Nat.mul_add] at h3 ⊢
        omega
    have h1 := h x (List.mem_cons_self ..)
    have h4 := key r fun z hz => h z (List.mem_cons_of_mem _ hz)
    rw [Lib.join_cons, List.length_append, List.length_cons, Nat.mul_add]
    omega
theorem digJ_len {n : Nat} (h : n ≤ 1000000) : (Lib.decDigits n).length ≤ 22 := by
  have := decB_size n (by omega)
  simpa [decB, ByteArray.size] using this
abbrev TabJ (w : World) : Prop := Lib.TabBelow Tryd.prog w.heap.size w "internal/strconv.uint64pow10" .u64 Lib.pow10Tab
theorem infoJ : (Tryd.prog.info? 9).map (fun i => (i.zero, i.size, i.bytes)) = some (some (.string ⟨#[]⟩), 1, 16) := by kernel_rfl
/-- the cells of texts -/
abbrev sJ (l : List UInt8) : List Value := [.string (bsJ l)]
/-- an own row of texts, joined -/
theorem JoinJ (g n : Nat) (ls : List (List UInt8)) (sep : UInt8) (en : ls.length = n) (hB : (Lib.join ls [sep]).length ≤ 1000000) (hn : n ≤ 1048576) {base c : Nat} (u : World) (hP : u.ownsRow base 9 1 (.slice (some ⟨g, 0, none⟩) n c) n (ls.flatMap sJ)) (hc : n ≤ c) :
    Calls Tryd.prog 66 #[.slice (some ⟨g, 0, none⟩) n c, .string ⟨#[sep]⟩] u fun o w' => o = .returned (.string (bsJ (Lib.join ls [sep]))) ∧ Below u.heap.size u w' := by
  have e1 : (ls.map bsJ).map (·.data.toList) = ls := by simp [Function.comp_def]
  have e2 : (⟨#[sep]⟩ : ByteArray).data.toList = [sep] := rfl
  have h := Tryd.strings_Join g 0 c (ls.map bsJ) ⟨#[sep]⟩ u (fun j x hx => by
      have hs := Sl.of_owns (C := sJ) hP (fun _ _ => rfl) (by decide)
      rw [List.getElem?_map, Option.map_eq_some_iff] at hx
      obtain ⟨l, hl, rfl⟩ := hx
      obtain ⟨a, ea, _, hat⟩ := hs.at_ j l hl
      obtain rfl := Option.some.inj ea
      have := hat 0 (.string (bsJ l)) rfl
      rw [Nat.mul_one, add_lit] at this
      simpa [Addr.add] using this) (hP.lt g rfl).2 (by simp; omega) (by simp; omega) (by rw [e1, e2]; omega)
  rw [List.length_map, en, e1, e2] at h
  exact h
theorem ItoaJ (m : Nat) (hm : m ≤ 1000000) (w : World) (ht : Lib.TabIs Tryd.prog w "internal/strconv.uint64pow10" .u64 Lib.pow10Tab) :
    Calls Tryd.prog 65 #[.int .i64 (m : Nat)] w fun o w' => o = .returned (.string (decB m)) ∧ Below w.heap.size w w' := by
  refine (Tryd.strconv_Itoa (m : Int) (by omega) (by omega) w ht).mono ?_
  rintro o u ⟨rfl, k, os, rfl⟩
  exact ⟨by rw [Lib.itoa_nonneg]; rfl, Lib.below_grow _ _ (Nat.le_refl _) _ _⟩
set_option maxRecDepth 100000 in
theorem tabJ_of {W : World} {rest : List (String × DataW Unit)} (h : laidMet Tryd.prog (("internal/strconv.uint64pow10", (Lib.tabData .u64 Lib.pow10Tab : DataW Unit)) :: rest) W) : TabJ W :=
  Lib.tabBelow_of_tabIs (Lib.tabIs_of_head (g := 7) (by kernel_rfl) (by kernel_rfl) Tryd.underlying266 Tryd.underlying237 (by kernel_rfl) (by kernel_rfl) h)
end Go.Proofs.YtjfimmfnhlimkaaDoor.txt

/-
  A strings.Builder of the call's own, in plain words: WriteString and String.
-/
namespace Go.Proofs.YtjfimmfnhlimkaaDoor.txt
open Go Go.RowKit sl dec

/-- rows of other kinds lie as they did -/
def Others (w w' : World) : Prop := ∀ (k : Nat) (cs : Array Value) (T : TypeId) (fr : Nat × Nat), w.heap[k]? = some (.cells cs T fr) → T ≠ 126 → T ≠ 5 → w'.heap[k]? = w.heap[k]?
theorem sizeBld : (Tryd.prog.info? 126).map (·.size) = some 2 := by kernel_rfl
theorem liesBld : liesAt Tryd.prog Tryd.prog.depth 126 (2 / Tryd.prog.cellsOf 126) 0 126 1 = true := by kernel_rfl
theorem infoByteB : (Tryd.prog.info? 5).map (fun i => (i.zero, i.size, i.bytes)) = some (some (.int .u8 0), 1, 1) := by kernel_rfl
set_option maxHeartbeats 1000000 in
set_option maxRecDepth 100000 in
theorem copyCheck_used (b : Nat) (w : World) (h0 : w.cell? ⟨b, 0, none⟩ = some (.pointer (some ⟨b, 0, none⟩))) :
    Calls Tryd.prog 129 #[.pointer (some ⟨b, 0, none⟩)] w fun e w' => e = .returned (.tuple #[]) ∧ w' = w := by
  obtain ⟨j, hj, _⟩ := Option.map_eq_some_iff.1 sizeBld
  go_enter Tryd.func129, Tryd.ntmps129
  go_wp2
  rw [Lib.run_neq_ptr_same w _ Tryd.underlying123 hj]
  go_wp2
  go_end0
  exact ⟨rfl, rfl⟩
set_option maxHeartbeats 1000000 in
set_option maxRecDepth 100000 in
theorem copyCheck_fresh (b : Nat) (w : World) (h0 : w.cell? ⟨b, 0, none⟩ = some (.pointer none)) (hsh : w.shape? b = some (126, 2)) (hfz : w.frozen? ⟨b, 0, none⟩ = false) :
    Calls Tryd.prog 129 #[.pointer (some ⟨b, 0, none⟩)] w fun e w' => e = .returned (.tuple #[]) ∧ w' = w.setCell ⟨b, 0, none⟩ (.pointer (some ⟨b, 0, none⟩)) := by
  obtain ⟨j, hj, hjs⟩ := Option.map_eq_some_iff.1 sizeBld
  go_enter Tryd.func129, Tryd.ntmps129
  go_wp2
  rw [Lib.run_to_unsafe w ⟨b, 0, none⟩ Tryd.underlying123 Tryd.underlying217 hj (by rw [hjs]; decide) hsh (Nat.zero_lt_succ 1)]
  simp only [Result.andThen]
  rw [Oper.upon_value]
  go_wp2
  rw [run_callFunc_extern Tryd.func156 (by kernel_rfl) (by kernel_rfl) (by kernel_rfl) (e := Extern.AbiNoEscape.same) (by kernel_rfl)]
  rw [Lib.run_noEscape]
  simp only [Result.andThen]
  rw [Oper.upon_value]
  go_wp2
  rw [Lib.run_from_unsafe w ⟨b, 0, none⟩ Tryd.underlying217 Tryd.underlying123 hj hsh liesBld]
  simp only [Result.andThen]
  rw [Oper.upon_value]
  go_wp2
  go_end0
  exact ⟨rfl, rfl⟩
theorem copyCheck_any (B b : Nat) (bs : List Value) (w : World) (h : Lib.IsBuilder 126 5 B b bs w) :
    Calls Tryd.prog 129 #[.pointer (some ⟨b, 0, none⟩)] w fun e w' => e = .returned (.tuple #[]) ∧ (Lib.BuilderAt 126 5 B b (.pointer (some ⟨b, 0, none⟩)) bs w' ∧ Below B w w') ∧ ∀ k, k ≠ b → w'.heap[k]? = w.heap[k]? := by
  rcases h with h | h
  · refine (copyCheck_fresh b w h.cell0 h.shape h.frozen0).mono ?_
    rintro e w' ⟨rfl, rfl⟩
    exact ⟨rfl, ⟨h.used _, (Below.refl B w).setCell (p := ⟨b, 0, none⟩) h.1 _⟩, fun k hk => Below.heap_setCell _ _ _ _ hk⟩
  · refine (copyCheck_used b w h.cell0).mono ?_
    rintro e w' ⟨rfl, rfl⟩
    exact ⟨rfl, ⟨h, Below.refl B _⟩, fun _ _ => rfl⟩
set_option maxHeartbeats 2000000 in
set_option maxRecDepth 100000 in
theorem WriteString_any (B b : Nat) (bs : List Value) (s : ByteArray) (w : World) (h : Lib.IsBuilder 126 5 B b bs w) (hlen : bs.length + s.size ≤ 140737488355328) (hBw : B ≤ w.heap.size) :
    Calls Tryd.prog 85 #[.pointer (some ⟨b, 0, none⟩), .string s] w fun e w' => e = .returned (.tuple #[.int .i64 s.size, .nilIface]) ∧ (Lib.BuilderAt 126 5 B b (.pointer (some ⟨b, 0, none⟩)) (bs ++ Lib.strCells s) w' ∧ Below B w w') ∧ Others w w' := by
  obtain ⟨i0, hi, hz0, hz1, hz2⟩ := info_parts infoByteB
  obtain ⟨p0, v0, hbk0⟩ : ∃ p0 v0, w.heap[b]? = some (.cells #[p0, v0] 126 (0, 0)) := by
    rcases h with ⟨_, v, k, _⟩ | ⟨_, v, k, _⟩
    · exact ⟨_, _, k⟩
    · exact ⟨_, _, k⟩
  have HBK0 := Lib.hid hbk0
  clear hbk0
  go_enter Tryd.func85, Tryd.ntmps85
  go_wp2_with fail
  refine (copyCheck_any B b bs _ h).mono ?_
  rintro e w1 ⟨rfl, ⟨h1, hb1⟩, hoth⟩
  have HOTH := Lib.hid hoth
  clear hoth
  obtain ⟨hB, v, hbk, hown, hne⟩ := h1
  have c0 : w1.cell? ⟨b, 0, none⟩ = some (.pointer (some ⟨b, 0, none⟩)) := by rw [Lib.cell_of_heap hbk]; rfl
  have c1 : w1.cell? ⟨b, 1, none⟩ = some v := by rw [Lib.cell_of_heap hbk]; rfl
  go_wp2_with (at_builtin; refine Lib.wpList_append_own_string _ rfl _ _ 124 9 rfl B 5 i0 Tryd.underlying124 Tryd.underlying9 hi hz0 hz1 hz2 _ _ _ rfl hown s rfl ?c3 ?c4 ?c5 ?_)
  case c3 => unfold maxLen; omega
  case c4 => omega
  case c5 => have := hb1.size; omega
  intro v' w2 hown' hgrow _
  have HHK := Lib.hid hbk
  have hlt : b < w1.heap.size := by
    rcases Nat.lt_or_ge b w1.heap.size with h' | h'
    · exact h'
    · simp [Array.getElem?_eq_none h'] at hbk
  have hb2 : w2.heap[b]? = some (.cells #[.pointer (some ⟨b, 0, none⟩), v] 126 (0, 0)) := by
    rw [hgrow.block b hlt (fun e => hne e.symm)]
    exact hbk
  have d0 : w2.cell? ⟨b, 0, none⟩ = some (.pointer (some ⟨b, 0, none⟩)) := by rw [Lib.cell_of_heap hb2]; rfl
  have d1 : w2.cell? ⟨b, 1, none⟩ = some v := by rw [Lib.cell_of_heap hb2]; rfl
  have f1 : w2.frozen? ⟨b, 1, none⟩ = false := Lib.frozen_of_heap hb2 1
  obtain ⟨ao, n', cap, rfl⟩ : ∃ ao n' cap, v' = .slice ao n' cap := by
    rcases hown'.2 with ⟨hv, _⟩ | ⟨g, cap, cur, hv, _⟩
    · exact ⟨_, _, _, hv⟩
    · exact ⟨_, _, _, hv⟩
  go_wp2_with fail
  go_ret2
  refine ⟨rfl, ⟨?_, ?_⟩, ?_⟩
  · exact Lib.BuilderAt.put (T := 126) (e := 5) hB hb2 (bs' := bs ++ Lib.strCells s) (by simpa [Lib.strCells_length] using hown') (by decide)
  · exact (hb1.grown hgrow (by have := hb1.size; omega) (fun k hk => (hown.lt k hk).1)).setCell (p := ⟨b, 1, none⟩) hB _
  · intro k cs T fr hk hT1 hT2
    have hkb : k ≠ b := by
      rintro rfl
      rw [HBK0.out] at hk
      simp only [Option.some.injEq, Obj.cells.injEq] at hk
      exact hT1 hk.2.1.symm
    have h1 := HOTH.out k hkb
    have hk1 : w1.heap[k]? = some (.cells cs T fr) := h1.trans hk
    have hkl : k < w1.heap.size := by
      rcases Nat.lt_or_ge k w1.heap.size with h' | h'
      · exact h'
      · simp [Array.getElem?_eq_none h'] at hk1
    have hno := Lib.ownBlock_ne hown hk1 hT2
    exact (Below.heap_setCell _ _ _ _ hkb).trans ((hgrow.block k hkl (fun e => hno e.symm)).trans h1)
/-- a builder in block b that holds these bytes; its own things lie from B on -/
def Bld (B b : Nat) (l : List UInt8) (w : World) : Prop := Lib.IsBuilder 126 5 B b (Lib.byteCells l) w ∧ B ≤ w.heap.size
theorem strJ (l : List UInt8) : Lib.strCells (bsJ l) = Lib.byteCells l := by simp [Lib.strCells, Lib.byteCells]
theorem byteJ (l m : List UInt8) : Lib.byteCells l ++ Lib.byteCells m = Lib.byteCells (l ++ m) := by simp [Lib.byteCells]
theorem Bld.new (w : World) : Bld w.heap.size w.heap.size [] (w.alloc (.cells #[.pointer none, .slice none 0 0] 126)) := ⟨Lib.fresh_isBuilder _ _ w, by simp⟩
theorem builderAt_next {T e : TypeId} {B b : Nat} {p : Value} {bs : List Value} {w w' : World} (h : Lib.BuilderAt T e B b p bs w) (hb : Below w.heap.size w w') : Lib.BuilderAt T e B b p bs w' := by
  have hlt := h.lt
  obtain ⟨h1, v, h2, h3, h4⟩ := h
  exact ⟨h1, v, (hb.block b hlt).trans h2, owns_next h3 hb, h4⟩
theorem Bld.next {B b : Nat} {l : List UInt8} {w w' : World} (h : Bld B b l w) (hb : Below w.heap.size w w') : Bld B b l w' :=
  ⟨h.1.elim (fun k => .inl (builderAt_next k hb)) (fun k => .inr (builderAt_next k hb)), Nat.le_trans h.2 hb.size⟩
theorem WriteJ (B b : Nat) (l m : List UInt8) (w : World) (h : Bld B b l w) (hl : l.length ≤ 1000000) (hm : m.length ≤ 1000000) :
    Calls Tryd.prog 85 #[.pointer (some ⟨b, 0, none⟩), .string (bsJ m)] w fun o w' => o = .returned (.tuple #[.int .i64 (m.length : Nat), .nilIface]) ∧ Bld B b (l ++ m) w' ∧ Below B w w' ∧ Others w w' := by
  refine (WriteString_any B b (Lib.byteCells l) (bsJ m) w h.1 (by rw [Lib.byteCells_length, bsJ_size]; omega) h.2).mono ?_
  rintro o w' ⟨rfl, ⟨hA, hb⟩, ho⟩
  rw [strJ, byteJ] at hA
  exact ⟨by rw [bsJ_size], ⟨.inr hA, Nat.le_trans h.2 hb.size⟩, hb, ho⟩
theorem StringJ (B b : Nat) (l : List UInt8) (w : World) (h : Bld B b l w) :
    Calls Tryd.prog 86 #[.pointer (some ⟨b, 0, none⟩)] w fun o w' => o = .returned (.string (bsJ l)) ∧ Below B w w' := Tryd.Builder_String_any B b l w h.1 h.2
end Go.Proofs.YtjfimmfnhlimkaaDoor.txt
