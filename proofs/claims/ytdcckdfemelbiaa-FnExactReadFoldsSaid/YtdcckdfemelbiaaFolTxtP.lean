/-
  Texts of folds in plain words: a letter each.
-/
import Derived.Test.YtdcckdfemelbiaaJoin4
import Derived.Lib.Bytealg
import Derived.Laws.Externs
namespace Go.Proofs.Ytdcckdfemelbiaa.folt
open Go Go.RowKit sl fold

abbrev folLs : List UInt8 := [119, 104, 87, 72]
/-- which fold a letter is -/
def fidx (b : UInt8) : Int := Lib.indexByte folLs b
theorem fidx_val (b : UInt8) : fidx b = if b = 119 then 0 else if b = 104 then 1 else if b = 87 then 2 else if b = 72 then 3 else -1 := by
  unfold fidx folLs
  by_cases h0 : b = 119
  · subst h0; decide
  · by_cases h1 : b = 104
    · subst h1; decide
    · by_cases h2 : b = 87
      · subst h2; decide
      · by_cases h3 : b = 72
        · subst h3; decide
        · have e0 : (119 == b) = false := by rw [beq_eq_false_iff_ne]; exact Ne.symm h0
          have e1 : (104 == b) = false := by rw [beq_eq_false_iff_ne]; exact Ne.symm h1
          have e2 : (87 == b) = false := by rw [beq_eq_false_iff_ne]; exact Ne.symm h2
          have e3 : (72 == b) = false := by rw [beq_eq_false_iff_ne]; exact Ne.symm h3
          simp [Lib.indexByte, e0, e1, e2, e3, h0, h1, h2, h3]
theorem fidx_bd (b : UInt8) : -1 ≤ fidx b ∧ fidx b ≤ 3 := by
  rw [fidx_val]
  split
  · omega
  · split
    · omega
    · split
      · omega
      · split <;> omega
def folOk (b : UInt8) : Bool := decide (0 ≤ fidx b)
/-- the folds that a text tells -/
def rdF (s : ByteArray) : List Int × Nat := if s.size ≤ 12 ∧ s.data.toList.all folOk = true then (s.data.toList.map fidx, 0) else ([], 5)
theorem rdF_le {s : ByteArray} {ys : List Int} {k : Nat} (h : rdF s = (ys, k)) : ys.length ≤ 1048576 := by
  unfold rdF at h
  split at h
  · rename_i hc
    rw [← (Prod.mk.inj h).1, List.length_map]
    have : s.data.toList.length = s.size := by simp
    omega
  · rw [← (Prod.mk.inj h).1]; simp
theorem at_byteF (s : ByteArray) (k : Nat) (h : k < s.size) : s.data.toList[k]? = some s[k] := by
  have h1 : k < s.data.toList.length := by simpa using h
  rw [List.getElem?_eq_getElem h1]
  rfl
theorem take_mapF {s : ByteArray} {k : Nat} (h : k < s.size) : (s.data.toList.take (k + 1)).map fidx = (s.data.toList.take k).map fidx ++ [fidx s[k]] := by
  rw [List.take_add_one, at_byteF s k h]
  simp
theorem all_bad {s : ByteArray} {k : Nat} (h : k < s.size) (hb : fidx s[k] < 0) : s.data.toList.all folOk = false := by
  cases hall : s.data.toList.all folOk with
  | false => rfl
  | true =>
    have h5 := List.all_eq_true.1 hall _ (List.mem_of_getElem? (at_byteF s k h))
    have := of_decide_eq_true h5
    omega
theorem rdF_bad {s : ByteArray} {ys : List Int} {k : Nat} (hr : rdF s = (ys, k)) (h : ¬ (s.size ≤ 12 ∧ s.data.toList.all folOk = true)) : ys = [] ∧ k = 5 := by
  rw [rdF, if_neg h] at hr
  exact ⟨(Prod.mk.inj hr).1.symm, (Prod.mk.inj hr).2.symm⟩
theorem rdF_good {s : ByteArray} {ys : List Int} {k : Nat} (hr : rdF s = (ys, k)) (h1 : s.size ≤ 12) (h2 : ∀ i, i < s.size → 0 ≤ fidx (s.data.toList.getD i 0)) : ys = (s.data.toList.take s.size).map fidx ∧ k = 0 := by
  have hall : s.data.toList.all folOk = true := List.all_eq_true.2 fun x hx => by
    obtain ⟨i, hi⟩ := List.mem_iff_getElem?.1 hx
    have h5 := h2 i (by have := (List.getElem?_eq_some_iff.1 hi).1; simpa using this)
    rw [List.getD_eq_getElem?_getD, hi] at h5
    exact decide_eq_true h5
  rw [rdF, if_pos ⟨h1, hall⟩] at hr
  rw [List.take_of_length_le (by simp)]
  exact ⟨(Prod.mk.inj hr).1.symm, (Prod.mk.inj hr).2.symm⟩
theorem indexByte_lit (b : UInt8) (w : World) : Calls Try.prog 10 #[.string ⟨#[119, 104, 87, 72]⟩, .int .u8 b.toNat] w fun o w' => o = .returned (.int .i64 (fidx b)) ∧ w = w' := by
  have hx := fun u => run_callFunc_extern Try.func11 (by kernel_rfl) (by kernel_rfl) (by kernel_rfl) (e := Extern.BytealgIndexByte.indexByte) (by kernel_rfl) #[.string ⟨#[119, 104, 87, 72]⟩, .int .u8 b.toNat] u
  have hy := fun u => (hx u).trans (by rw [Lib.run_indexByteString]; rfl : _ = .ok (.value (.int .i64 (Lib.indexByte folLs ((b.toNat : Int)).toNat.toUInt8))) u)
  have hz : ((b.toNat : Int)).toNat.toUInt8 = b := by simp
  rw [hz] at hy
  have HY := Lib.hid hy
  clear hx hy hz
  go_enter Try.func10, Try.ntmps10
  go_wp2
  rw [HY.out]
  try simp only [Result.andThen]
  rw [Oper.upon_value]
  go_wp2
  go_ret
  exact ⟨rfl, rfl⟩
theorem IndexByte_any (b : UInt8) (w : World) : Calls Try.prog 9 #[.string ⟨#[119, 104, 87, 72]⟩, .int .u8 b.toNat] w fun o w' => o = .returned (.int .i64 (fidx b)) ∧ w = w' := by
  have HT := Lib.hid (indexByte_lit b)
  go_enter Try.func9, Try.ntmps9
  go_wp2_with fail
  refine (HT.out _).mono ?_
  rintro o w1 ⟨rfl, rfl⟩
  go_wp2_with fail
  go_ret
  exact ⟨rfl, rfl⟩
end Go.Proofs.Ytdcckdfemelbiaa.folt
