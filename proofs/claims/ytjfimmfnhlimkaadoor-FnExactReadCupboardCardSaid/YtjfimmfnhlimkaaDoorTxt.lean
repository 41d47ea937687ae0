/-
  Texts of lists: parts joined with one byte between them; the library's Join and Itoa in plain words.
-/
import Derived.Test.YtjfimmfnhlimkaaDoorDec
import Derived.Test.YtjfimmfnhlimkaaDoorShT
import Derived.Lib.Join
import Derived.Lib.AppendIntMem
namespace Go.Proofs.YtjfimmfnhlimkaaDoor.txt
open Go Go.RowKit sl dec

abbrev bsJ (l : List UInt8) : ByteArray := ⟨l.toArray⟩
theorem bsJ_append (a b : List UInt8) : bsJ (a ++ b) = bsJ a ++ bsJ b := by
  apply ByteArray.ext
  apply Array.toList_inj.1
  simp
theorem bsJ_size (a : List UInt8) : (bsJ a).size = a.length := by simp [ByteArray.size]
theorem joinJ_snoc (xs : List (List UInt8)) (x sep : List UInt8) (h : xs ≠ []) : Lib.join (xs ++ [x]) sep = Lib.join xs sep ++ (sep ++ x) := by
  cases xs with
  | nil => exact absurd rfl h
  | cons y r =>
    rw [List.cons_append, Lib.join_cons, Lib.join_cons]
    simp [Lib.joinTail, List.append_assoc]
/-- the text ahead of a part -/
def preJ (sep : UInt8) (ls : List (List UInt8)) (i : Nat) : List UInt8 := if i = 0 then [] else Lib.join (ls.take i) [sep] ++ [sep]
theorem preJ_part {sep : UInt8} {ls : List (List UInt8)} {i : Nat} {l : List UInt8} (h : ls[i]? = some l) : preJ sep ls i ++ l = Lib.join (ls.take (i + 1)) [sep] := by
  rw [List.take_add_one, h, Option.toList_some, preJ]
  by_cases h0 : i = 0
  · subst h0; simp [Lib.join_one]
  · have hne : ls.take i ≠ [] := by
      intro e
      have h1 := (List.getElem?_eq_some_iff.1 h).1
      have h2 : (ls.take i).length = 0 := by rw [e]; rfl
      rw [List.length_take] at h2
      omega
    rw [if_neg h0, joinJ_snoc _ _ _ hne, List.append_assoc]
theorem joinJ_len (c : UInt8) (B : Nat) : ∀ {ls : List (List UInt8)}, (∀ l ∈ ls, l.length ≤ B) → (Lib.join ls [c]).length ≤ (B + 1) * ls.length
  | [], _ => by simp [Lib.join_nil]
  | x :: r, h => by
    have key : ∀ r : List (List UInt8), (∀ l ∈ r, l.length ≤ B) → (Lib.joinTail [c] r).length ≤ (B + 1) * r.length := by
      intro r hr
      induction r with
      | nil => simp [Lib.joinTail]
      | cons y r ih =>
        have h2 := hr y (List.mem_cons_self ..)
        have h3 := ih fun z hz => hr z (List.mem_cons_of_mem _ hz)
        simp only [Lib.joinTail, List.map_cons, List.flatten_cons, List.length_append, List.length_cons, List.length_nil, Nat.mul_add] at h3 ⊢
        omega
    have h1 := h x (List.mem_cons_self ..)
    have h4 := key r fun z hz => h z (List.mem_cons_of_mem _ hz)
    rw [Lib.join_cons, List.length_append, List.length_cons, Nat.mul_add]
    omega
theorem digJ_len {n : Nat} (h : n ≤ 1000000) : (Lib.decDigits n).length ≤ 22 := by
  have := decB_size n (by omega)
  simpa [decB, ByteArray.size] using this
abbrev TabJ (w : World) : Prop := Lib.TabBelow Tryd.prog w.heap.size w "internal/strconv.uint64pow10" .u64 Lib.pow10Tab
theorem infoJ : (Tryd.prog.info? 9).map (fun i => (i.zero, i.size, i.bytes)) = some (some (.string ⟨#[]⟩), 1, 16) := by kernel_rfl
/-- the cells of texts -/
abbrev sJ (l : List UInt8) : List Value := [.string (bsJ l)]
/-- an own row of texts, joined -/
theorem JoinJ (g n : Nat) (ls : List (List UInt8)) (sep : UInt8) (en : ls.length = n) (hB : (Lib.join ls [sep]).length ≤ 1000000) (hn : n ≤ 1048576) {base c : Nat} (u : World) (hP : u.ownsRow base 9 1 (.slice (some ⟨g, 0, none⟩) n c) n (ls.flatMap sJ)) (hc : n ≤ c) :
    Calls Tryd.prog 66 #[.slice (some ⟨g, 0, none⟩) n c, .string ⟨#[sep]⟩] u fun o w' => o = .returned (.string (bsJ (Lib.join ls [sep]))) ∧ Below u.heap.size u w' := by
  have e1 : (ls.map bsJ).map (·.data.toList) = ls := by simp [Function.comp_def]
  have e2 : (⟨#[sep]⟩ : ByteArray).data.toList = [sep] := rfl
  have h := Tryd.strings_Join g 0 c (ls.map bsJ) ⟨#[sep]⟩ u (fun j x hx => by
      have hs := Sl.of_owns (C := sJ) hP (fun _ _ => rfl) (by decide)
      rw [List.getElem?_map, Option.map_eq_some_iff] at hx
      obtain ⟨l, hl, rfl⟩ := hx
      obtain ⟨a, ea, _, hat⟩ := hs.at_ j l hl
      obtain rfl := Option.some.inj ea
      have := hat 0 (.string (bsJ l)) rfl
      rw [Nat.mul_one, add_lit] at this
      simpa [Addr.add] using this) (hP.lt g rfl).2 (by simp; omega) (by simp; omega) (by rw [e1, e2]; omega)
  rw [List.length_map, en, e1, e2] at h
  exact h
theorem ItoaJ (m : Nat) (hm : m ≤ 1000000) (w : World) (ht : Lib.TabIs Tryd.prog w "internal/strconv.uint64pow10" .u64 Lib.pow10Tab) :
    Calls Tryd.prog 65 #[.int .i64 (m : Nat)] w fun o w' => o = .returned (.string (decB m)) ∧ Below w.heap.size w w' := by
  refine (Tryd.strconv_Itoa (m : Int) (by omega) (by omega) w ht).mono ?_
  rintro o u ⟨rfl, k, os, rfl⟩
  exact ⟨by rw [Lib.itoa_nonneg]; rfl, Lib.below_grow _ _ (Nat.le_refl _) _ _⟩
set_option maxRecDepth 100000 in
theorem tabJ_of {W : World} {rest : List (String × DataW Unit)} (h : laidMet Tryd.prog (("internal/strconv.uint64pow10", (Lib.tabData .u64 Lib.pow10Tab : DataW Unit)) :: rest) W) : TabJ W :=
  Lib.tabBelow_of_tabIs (Lib.tabIs_of_head (g := 7) (by kernel_rfl) (by kernel_rfl) Tryd.underlying266 Tryd.underlying237 (by kernel_rfl) (by kernel_rfl) h)
end Go.Proofs.YtjfimmfnhlimkaaDoor.txt
