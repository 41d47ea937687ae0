/-
  Contracts of the program's FirstLines, where a check fails.
-/
import Derived.Test.YtbpipcfijbgnhaaDoorAlone
import Derived.Test.YtbpipcfijbgnhaaDoorOwn
namespace Go.Proofs.YtbpipcfijbgnhaaDoor.hang
open Go Go.RowKit sl errs

def codeFirst (l : Lin) (xs : List Clo) : Nat := if codeHung l xs = 0 then (if aloneB l xs = true then 0 else 6) else codeHung l xs
theorem codeFirst_le (l : Lin) (xs : List Clo) : codeFirst l xs ≤ 6 := by
  have := codeHung_le l xs
  unfold codeFirst
  split
  · split <;> omega
  · omega
theorem codeFirst_zero {l : Lin} {xs : List Clo} (h : codeFirst l xs = 0) : codeHung l xs = 0 ∧ aloneB l xs = true := by
  unfold codeFirst at h
  split at h
  · rename_i h0
    split at h
    · rename_i h1
      exact ⟨h0, h1⟩
    · omega
  · omega
theorem first4 (a b c d : Nat) : firstCode [a, b, c, d] = if firstCode [a, b, c] = 0 then d else firstCode [a, b, c] := by
  cases a with
  | zero =>
    cases b with
    | zero =>
      cases c with
      | zero => exact first1 d
      | succ c => rfl
    | succ b => rfl
  | succ a => rfl
def firstLs (l : Lin) (xs : List Clo) (code : Nat) : List Int := if code = 0 then firstO l xs else []
theorem firstLs_fine (l : Lin) (xs : List Clo) {code : Nat} (h : code = 0) : firstLs l xs code = firstO l xs := by rw [firstLs, if_pos h]
theorem firstLs_fails (l : Lin) (xs : List Clo) {code : Nat} (h : code ≠ 0) : firstLs l xs code = [] := by rw [firstLs, if_neg h]
theorem FitP.alloc {l : Lin} {w u : World} (h : FitP l w u) (o : Obj) : FitP l w (u.alloc o) := (h.s.next ((Below.refl _ _).alloc (Nat.le_refl _) _)).p
theorem FitP.next {l : Lin} {w u v : World} (h : FitP l w u) (hb : Below u.heap.size u v) : FitP l w v := (h.s.next hb).p

theorem f_lines (l : Lin) (hl : l.Fits) {w u : World} {B : Nat} {e : Nat → Addr} (h : Errs w B e) (hB : B ≤ w.heap.size) (hu : FitP l w u) (A : Option Addr) (hg : Sl Lin.cells 2 u u.heap.size A [l]) (k0 : Nat) (hk0 : k0 = if [l].all Lin.valid = true then 0 else 1) (v : Value) (hv : errOf e k0 = v) :
    Calls Tryd.prog 63 #[.slice A 1 1] u fun o w' => o = .returned v ∧ Below u.heap.size u w' := by
  subst hv
  exact checkLines_any A 1 1 [l] rfl (by omega) (fun x hx => by rw [List.mem_singleton.1 hx]; exact hl) (h.below (hu.s.b.mono hB)) (by have := hu.s.b.size; omega) hg k0 hk0
theorem f_cloths (A : Option Addr) (n c : Nat) (xs : List Clo) (en : n = xs.length) (hn : n ≤ 1048576) (hf : ∀ x ∈ xs, x.Fits) {l : Lin} {w u : World} {B : Nat} {e : Nat → Addr} (h : Errs w B e) (hB : B ≤ w.heap.size) (hg : Sl Clo.cells 2 w w.heap.size A xs) (hu : FitP l w u) (k0 : Nat) (hk0 : k0 = if xs.all Clo.valid = true then 0 else 1) (v : Value) (hv : errOf e k0 = v) :
    Calls Tryd.prog 49 #[.slice A n c] u fun o w' => o = .returned v ∧ Below u.heap.size u w' := by
  subst hv
  exact checkCloths_any A n c xs en (by omega) hf (h.below (hu.s.b.mono hB)) (by have := hu.s.b.size; omega) ((hg.below hu.s.b).more hu.s.b.size) k0 hk0
theorem f_count (A : Option Addr) (n c : Nat) (hn : n ≤ 1048576) {l : Lin} {w u : World} {B : Nat} {e : Nat → Addr} (h : Errs w B e) (hB : B ≤ w.heap.size) (hu : FitP l w u) (k0 : Nat) (hk0 : k0 = if 7 < n then 3 else 0) (v : Value) (hv : errOf e k0 = v) :
    Calls Tryd.prog 55 #[.slice A n c, .int .i64 7] u fun o w' => o = .returned v ∧ Below u.heap.size u w' := by
  subst hv
  exact (checkClothCount_any A n c 7 (by omega) (by omega) (h.below (hu.s.b.mono hB)) k0 hk0).mono fun _ _ ⟨h1, h2⟩ => ⟨h1, by subst h2; exact Below.refl _ _⟩
theorem f_each (l : Lin) (hl : l.Fits) (A : Option Addr) (n c : Nat) (xs : List Clo) (en : n = xs.length) (hn : n ≤ 1048576) (hf : ∀ x ∈ xs, x.Fits) {w u : World} {B : Nat} {e : Nat → Addr} (h : Errs w B e) (hB : B ≤ w.heap.size) (hg : Sl Clo.cells 2 w w.heap.size A xs) (hu : FitP l w u) (k0 : Nat) (hk0 : k0 = if aloneB l xs = true then 0 else 6) (v : Value) (hv : errOf e k0 = v) :
    Calls Tryd.prog 73 #[.agg #[.int .i16 l.long, .int .i16 l.most], .slice A n c] u fun o w' => o = .returned v ∧ Below u.heap.size u w' := by
  subst hv
  exact checkEachFits_any l hl A n c xs en hn hf (h.below (hu.s.b.mono hB)) (by have := hu.s.b.size; omega) ((hg.below hu.s.b).more hu.s.b.size) k0 hk0

set_option maxRecDepth 100000 in
set_option maxHeartbeats 8000000 in
theorem first_0006 (l : Lin) (hl : l.Fits) (A : Option Addr) (n c : Nat) (xs : List Clo) (en : n = xs.length) (hn : n ≤ 1048576) (hf : ∀ x ∈ xs, x.Fits) {w : World} {B : Nat} {e : Nat → Addr} (h : Errs w B e) (hB : B ≤ w.heap.size) (hg : Sl Clo.cells 2 w w.heap.size A xs)
    (h0 : 0 = if [l].all Lin.valid = true then 0 else 1) (h1 : 0 = if xs.all Clo.valid = true then 0 else 1) (h2 : 0 = if 7 < n then 3 else 0) (h3 : 6 = if aloneB l xs = true then 0 else 6) :
    Calls Tryd.prog 39 #[l.v, .slice A n c] w (Own3 w [] 0 6) := by
  have S0 := Lib.hid (FitS.new l w 47)
  have T1 : Hid (Sl Lin.cells 2 (((w.alloc (.cells #[.int .i16 l.long, .int .i16 l.most] 47)).alloc (.cells #[.int .i16 l.long, .int .i16 l.most] 47)).drew) (((w.alloc (.cells #[.int .i16 l.long, .int .i16 l.most] 47)).alloc (.cells #[.int .i16 l.long, .int .i16 l.most] 47)).drew).heap.size (some ⟨w.heap.size + 1, 0, none⟩) [l]) :=
    Lib.hid ((sl_line2 w l 47 47).keep fun _ _ => rfl)
  have H0 := Lib.hid h0
  have H1 := Lib.hid h1
  have H2 := Lib.hid h2
  have H3 := Lib.hid h3
  have En := Lib.hid en
  clear h0 h1 h2 h3 en
  go_enter Tryd.func39, Tryd.ntmps39
  go_wp2_with fail
  go_region_held3 (fun u => FitP l w u)
    (first | assumption | exact S0.out.p | exact (S0.out.drewN 1).p | exact FitP.alloc (by assumption) _ | exact FitP.next (by assumption) hb2)
    (first
      | (go_at_call 63; refine (f_lines l hl h hB (by assumption) _ T1.out 0 H0.out .nilIface rfl).mono ?_; rintro o w2 ⟨rfl, hb2⟩)
      | (go_at_call 49; refine (f_cloths A n c xs En.out hn hf h hB hg (by assumption) 0 H1.out .nilIface rfl).mono ?_; rintro o w2 ⟨rfl, hb2⟩)
      | (go_at_call 55; refine (f_count A n c hn h hB (by assumption) 0 H2.out .nilIface rfl).mono ?_; rintro o w2 ⟨rfl, hb2⟩)
      | (go_at_call 73; refine (f_each l hl A n c xs En.out hn hf h hB hg (by assumption) 6 H3.out (errV (e 5)) rfl).mono ?_; rintro o w2 ⟨rfl, hb2⟩)
      | (go_at_call 54; refine (firstOf_any e [0, 0, 0, 6] _ 4 4 rfl (by decide) _ (cells_errs e [0, 0, 0, 6] _ 69 #[.nilIface, .nilIface, .nilIface, (errV (e 5))] rfl)).mono ?_; rintro o w2 ⟨rfl, rfl⟩)
      | fail)
  rename_i hS
  have S4 := Lib.hid hS.s
  have HE := Lib.hid (h.below (S4.out.b.mono hB))
  clear hS
  have e0 : errOf e (firstCode [0, 0, 0, 6]) = errV (e 5) := rfl
  rw [e0]
  clear e0
  go_wp2_with fail
  refine (codeOf_any HE.out 6 (by omega)).mono ?_
  rintro o w3 ⟨rfl, rfl⟩
  go_wp2_with fail
  go_ret3
  exact ⟨_, rfl, owns_none _ _, S4.out.b⟩

set_option maxRecDepth 100000 in
set_option maxHeartbeats 8000000 in
theorem first_0030 (l : Lin) (hl : l.Fits) (A : Option Addr) (n c : Nat) (xs : List Clo) (en : n = xs.length) (hn : n ≤ 1048576) (hf : ∀ x ∈ xs, x.Fits) {w : World} {B : Nat} {e : Nat → Addr} (h : Errs w B e) (hB : B ≤ w.heap.size) (hg : Sl Clo.cells 2 w w.heap.size A xs)
    (h0 : 0 = if [l].all Lin.valid = true then 0 else 1) (h1 : 0 = if xs.all Clo.valid = true then 0 else 1) (h2 : 3 = if 7 < n then 3 else 0) (h3 : 0 = if aloneB l xs = true then 0 else 6) :
    Calls Tryd.prog 39 #[l.v, .slice A n c] w (Own3 w [] 0 3) := by
  have S0 := Lib.hid (FitS.new l w 47)
  have T1 : Hid (Sl Lin.cells 2 (((w.alloc (.cells #[.int .i16 l.long, .int .i16 l.most] 47)).alloc (.cells #[.int .i16 l.long, .int .i16 l.most] 47)).drew) (((w.alloc (.cells #[.int .i16 l.long, .int .i16 l.most] 47)).alloc (.cells #[.int .i16 l.long, .int .i16 l.most] 47)).drew).heap.size (some ⟨w.heap.size + 1, 0, none⟩) [l]) :=
    Lib.hid ((sl_line2 w l 47 47).keep fun _ _ => rfl)
  have H0 := Lib.hid h0
  have H1 := Lib.hid h1
  have H2 := Lib.hid h2
  have H3 := Lib.hid h3
  have En := Lib.hid en
  clear h0 h1 h2 h3 en
  go_enter Tryd.func39, Tryd.ntmps39
  go_wp2_with fail
  go_region_held3 (fun u => FitP l w u)
    (first | assumption | exact S0.out.p | exact (S0.out.drewN 1).p | exact FitP.alloc (by assumption) _ | exact FitP.next (by assumption) hb2)
    (first
      | (go_at_call 63; refine (f_lines l hl h hB (by assumption) _ T1.out 0 H0.out .nilIface rfl).mono ?_; rintro o w2 ⟨rfl, hb2⟩)
      | (go_at_call 49; refine (f_cloths A n c xs En.out hn hf h hB hg (by assumption) 0 H1.out .nilIface rfl).mono ?_; rintro o w2 ⟨rfl, hb2⟩)
      | (go_at_call 55; refine (f_count A n c hn h hB (by assumption) 3 H2.out (errV (e 2)) rfl).mono ?_; rintro o w2 ⟨rfl, hb2⟩)
      | (go_at_call 73; refine (f_each l hl A n c xs En.out hn hf h hB hg (by assumption) 0 H3.out .nilIface rfl).mono ?_; rintro o w2 ⟨rfl, hb2⟩)
      | (go_at_call 54; refine (firstOf_any e [0, 0, 3, 0] _ 4 4 rfl (by decide) _ (cells_errs e [0, 0, 3, 0] _ 69 #[.nilIface, .nilIface, (errV (e 2)), .nilIface] rfl)).mono ?_; rintro o w2 ⟨rfl, rfl⟩)
      | fail)
  rename_i hS
  have S4 := Lib.hid hS.s
  have HE := Lib.hid (h.below (S4.out.b.mono hB))
  clear hS
  have e0 : errOf e (firstCode [0, 0, 3, 0]) = errV (e 2) := rfl
  rw [e0]
  clear e0
  go_wp2_with fail
  refine (codeOf_any HE.out 3 (by omega)).mono ?_
  rintro o w3 ⟨rfl, rfl⟩
  go_wp2_with fail
  go_ret3
  exact ⟨_, rfl, owns_none _ _, S4.out.b⟩

set_option maxRecDepth 100000 in
set_option maxHeartbeats 8000000 in
theorem first_0036 (l : Lin) (hl : l.Fits) (A : Option Addr) (n c : Nat) (xs : List Clo) (en : n = xs.length) (hn : n ≤ 1048576) (hf : ∀ x ∈ xs, x.Fits) {w : World} {B : Nat} {e : Nat → Addr} (h : Errs w B e) (hB : B ≤ w.heap.size) (hg : Sl Clo.cells 2 w w.heap.size A xs)
    (h0 : 0 = if [l].all Lin.valid = true then 0 else 1) (h1 : 0 = if xs.all Clo.valid = true then 0 else 1) (h2 : 3 = if 7 < n then 3 else 0) (h3 : 6 = if aloneB l xs = true then 0 else 6) :
    Calls Tryd.prog 39 #[l.v, .slice A n c] w (Own3 w [] 0 3) := by
  have S0 := Lib.hid (FitS.new l w 47)
  have T1 : Hid (Sl Lin.cells 2 (((w.alloc (.cells #[.int .i16 l.long, .int .i16 l.most] 47)).alloc (.cells #[.int .i16 l.long, .int .i16 l.most] 47)).drew) (((w.alloc (.cells #[.int .i16 l.long, .int .i16 l.most] 47)).alloc (.cells #[.int .i16 l.long, .int .i16 l.most] 47)).drew).heap.size (some ⟨w.heap.size + 1, 0, none⟩) [l]) :=
    Lib.hid ((sl_line2 w l 47 47).keep fun _ _ => rfl)
  have H0 := Lib.hid h0
  have H1 := Lib.hid h1
  have H2 := Lib.hid h2
  have H3 := Lib.hid h3
  have En := Lib.hid en
  clear h0 h1 h2 h3 en
  go_enter Tryd.func39, Tryd.ntmps39
  go_wp2_with fail
  go_region_held3 (fun u => FitP l w u)
    (first | assumption | exact S0.out.p | exact (S0.out.drewN 1).p | exact FitP.alloc (by assumption) _ | exact FitP.next (by assumption) hb2)
    (first
      | (go_at_call 63; refine (f_lines l hl h hB (by assumption) _ T1.out 0 H0.out .nilIface rfl).mono ?_; rintro o w2 ⟨rfl, hb2⟩)
      | (go_at_call 49; refine (f_cloths A n c xs En.out hn hf h hB hg (by assumption) 0 H1.out .nilIface rfl).mono ?_; rintro o w2 ⟨rfl, hb2⟩)
      | (go_at_call 55; refine (f_count A n c hn h hB (by assumption) 3 H2.out (errV (e 2)) rfl).mono ?_; rintro o w2 ⟨rfl, hb2⟩)
      | (go_at_call 73; refine (f_each l hl A n c xs En.out hn hf h hB hg (by assumption) 6 H3.out (errV (e 5)) rfl).mono ?_; rintro o w2 ⟨rfl, hb2⟩)
      | (go_at_call 54; refine (firstOf_any e [0, 0, 3, 6] _ 4 4 rfl (by decide) _ (cells_errs e [0, 0, 3, 6] _ 69 #[.nilIface, .nilIface, (errV (e 2)), (errV (e 5))] rfl)).mono ?_; rintro o w2 ⟨rfl, rfl⟩)
      | fail)
  rename_i hS
  have S4 := Lib.hid hS.s
  have HE := Lib.hid (h.below (S4.out.b.mono hB))
  clear hS
  have e0 : errOf e (firstCode [0, 0, 3, 6]) = errV (e 2) := rfl
  rw [e0]
  clear e0
  go_wp2_with fail
  refine (codeOf_any HE.out 3 (by omega)).mono ?_
  rintro o w3 ⟨rfl, rfl⟩
  go_wp2_with fail
  go_ret3
  exact ⟨_, rfl, owns_none _ _, S4.out.b⟩

set_option maxRecDepth 100000 in
set_option maxHeartbeats 8000000 in
theorem first_0100 (l : Lin) (hl : l.Fits) (A : Option Addr) (n c : Nat) (xs : List Clo) (en : n = xs.length) (hn : n ≤ 1048576) (hf : ∀ x ∈ xs, x.Fits) {w : World} {B : Nat} {e : Nat → Addr} (h : Errs w B e) (hB : B ≤ w.heap.size) (hg : Sl Clo.cells 2 w w.heap.size A xs)
    (h0 : 0 = if [l].all Lin.valid = true then 0 else 1) (h1 : 1 = if xs.all Clo.valid = true then 0 else 1) (h2 : 0 = if 7 < n then 3 else 0) (h3 : 0 = if aloneB l xs = true then 0 else 6) :
    Calls Tryd.prog 39 #[l.v, .slice A n c] w (Own3 w [] 0 1) := by
  have S0 := Lib.hid (FitS.new l w 47)
  have T1 : Hid (Sl Lin.cells 2 (((w.alloc (.cells #[.int .i16 l.long, .int .i16 l.most] 47)).alloc (.cells #[.int .i16 l.long, .int .i16 l.most] 47)).drew) (((w.alloc (.cells #[.int .i16 l.long, .int .i16 l.most] 47)).alloc (.cells #[.int .i16 l.long, .int .i16 l.most] 47)).drew).heap.size (some ⟨w.heap.size + 1, 0, none⟩) [l]) :=
    Lib.hid ((sl_line2 w l 47 47).keep fun _ _ => rfl)
  have H0 := Lib.hid h0
  have H1 := Lib.hid h1
  have H2 := Lib.hid h2
  have H3 := Lib.hid h3
  have En := Lib.hid en
  clear h0 h1 h2 h3 en
  go_enter Tryd.func39, Tryd.ntmps39
  go_wp2_with fail
  go_region_held3 (fun u => FitP l w u)
    (first | assumption | exact S0.out.p | exact (S0.out.drewN 1).p | exact FitP.alloc (by assumption) _ | exact FitP.next (by assumption) hb2)
    (first
      | (go_at_call 63; refine (f_lines l hl h hB (by assumption) _ T1.out 0 H0.out .nilIface rfl).mono ?_; rintro o w2 ⟨rfl, hb2⟩)
      | (go_at_call 49; refine (f_cloths A n c xs En.out hn hf h hB hg (by assumption) 1 H1.out (errV (e 0)) rfl).mono ?_; rintro o w2 ⟨rfl, hb2⟩)
      | (go_at_call 55; refine (f_count A n c hn h hB (by assumption) 0 H2.out .nilIface rfl).mono ?_; rintro o w2 ⟨rfl, hb2⟩)
      | (go_at_call 73; refine (f_each l hl A n c xs En.out hn hf h hB hg (by assumption) 0 H3.out .nilIface rfl).mono ?_; rintro o w2 ⟨rfl, hb2⟩)
      | (go_at_call 54; refine (firstOf_any e [0, 1, 0, 0] _ 4 4 rfl (by decide) _ (cells_errs e [0, 1, 0, 0] _ 69 #[.nilIface, (errV (e 0)), .nilIface, .nilIface] rfl)).mono ?_; rintro o w2 ⟨rfl, rfl⟩)
      | fail)
  rename_i hS
  have S4 := Lib.hid hS.s
  have HE := Lib.hid (h.below (S4.out.b.mono hB))
  clear hS
  have e0 : errOf e (firstCode [0, 1, 0, 0]) = errV (e 0) := rfl
  rw [e0]
  clear e0
  go_wp2_with fail
  refine (codeOf_any HE.out 1 (by omega)).mono ?_
  rintro o w3 ⟨rfl, rfl⟩
  go_wp2_with fail
  go_ret3
  exact ⟨_, rfl, owns_none _ _, S4.out.b⟩

set_option maxRecDepth 100000 in
set_option maxHeartbeats 8000000 in
theorem first_0106 (l : Lin) (hl : l.Fits) (A : Option Addr) (n c : Nat) (xs : List Clo) (en : n = xs.length) (hn : n ≤ 1048576) (hf : ∀ x ∈ xs, x.Fits) {w : World} {B : Nat} {e : Nat → Addr} (h : Errs w B e) (hB : B ≤ w.heap.size) (hg : Sl Clo.cells 2 w w.heap.size A xs)
    (h0 : 0 = if [l].all Lin.valid = true then 0 else 1) (h1 : 1 = if xs.all Clo.valid = true then 0 else 1) (h2 : 0 = if 7 < n then 3 else 0) (h3 : 6 = if aloneB l xs = true then 0 else 6) :
    Calls Tryd.prog 39 #[l.v, .slice A n c] w (Own3 w [] 0 1) := by
  have S0 := Lib.hid (FitS.new l w 47)
  have T1 : Hid (Sl Lin.cells 2 (((w.alloc (.cells #[.int .i16 l.long, .int .i16 l.most] 47)).alloc (.cells #[.int .i16 l.long, .int .i16 l.most] 47)).drew) (((w.alloc (.cells #[.int .i16 l.long, .int .i16 l.most] 47)).alloc (.cells #[.int .i16 l.long, .int .i16 l.most] 47)).drew).heap.size (some ⟨w.heap.size + 1, 0, none⟩) [l]) :=
    Lib.hid ((sl_line2 w l 47 47).keep fun _ _ => rfl)
  have H0 := Lib.hid h0
  have H1 := Lib.hid h1
  have H2 := Lib.hid h2
  have H3 := Lib.hid h3
  have En := Lib.hid en
  clear h0 h1 h2 h3 en
  go_enter Tryd.func39, Tryd.ntmps39
  go_wp2_with fail
  go_region_held3 (fun u => FitP l w u)
    (first | assumption | exact S0.out.p | exact (S0.out.drewN 1).p | exact FitP.alloc (by assumption) _ | exact FitP.next (by assumption) hb2)
    (first
      | (go_at_call 63; refine (f_lines l hl h hB (by assumption) _ T1.out 0 H0.out .nilIface rfl).mono ?_; rintro o w2 ⟨rfl, hb2⟩)
      | (go_at_call 49; refine (f_cloths A n c xs En.out hn hf h hB hg (by assumption) 1 H1.out (errV (e 0)) rfl).mono ?_; rintro o w2 ⟨rfl, hb2⟩)
      | (go_at_call 55; refine (f_count A n c hn h hB (by assumption) 0 H2.out .nilIface rfl).mono ?_; rintro o w2 ⟨rfl, hb2⟩)
      | (go_at_call 73; refine (f_each l hl A n c xs En.out hn hf h hB hg (by assumption) 6 H3.out (errV (e 5)) rfl).mono ?_; rintro o w2 ⟨rfl, hb2⟩)
      | (go_at_call 54; refine (firstOf_any e [0, 1, 0, 6] _ 4 4 rfl (by decide) _ (cells_errs e [0, 1, 0, 6] _ 69 #[.nilIface, (errV (e 0)), .nilIface, (errV (e 5))] rfl)).mono ?_; rintro o w2 ⟨rfl, rfl⟩)
      | fail)
  rename_i hS
  have S4 := Lib.hid hS.s
  have HE := Lib.hid (h.below (S4.out.b.mono hB))
  clear hS
  have e0 : errOf e (firstCode [0, 1, 0, 6]) = errV (e 0) := rfl
  rw [e0]
  clear e0
  go_wp2_with fail
  refine (codeOf_any HE.out 1 (by omega)).mono ?_
  rintro o w3 ⟨rfl, rfl⟩
  go_wp2_with fail
  go_ret3
  exact ⟨_, rfl, owns_none _ _, S4.out.b⟩

set_option maxRecDepth 100000 in
set_option maxHeartbeats 8000000 in
theorem first_0130 (l : Lin) (hl : l.Fits) (A : Option Addr) (n c : Nat) (xs : List Clo) (en : n = xs.length) (hn : n ≤ 1048576) (hf : ∀ x ∈ xs, x.Fits) {w : World} {B : Nat} {e : Nat → Addr} (h : Errs w B e) (hB : B ≤ w.heap.size) (hg : Sl Clo.cells 2 w w.heap.size A xs)
    (h0 : 0 = if [l].all Lin.valid = true then 0 else 1) (h1 : 1 = if xs.all Clo.valid = true then 0 else 1) (h2 : 3 = if 7 < n then 3 else 0) (h3 : 0 = if aloneB l xs = true then 0 else 6) :
    Calls Tryd.prog 39 #[l.v, .slice A n c] w (Own3 w [] 0 1) := by
  have S0 := Lib.hid (FitS.new l w 47)
  have T1 : Hid (Sl Lin.cells 2 (((w.alloc (.cells #[.int .i16 l.long, .int .i16 l.most] 47)).alloc (.cells #[.int .i16 l.long, .int .i16 l.most] 47)).drew) (((w.alloc (.cells #[.int .i16 l.long, .int .i16 l.most] 47)).alloc (.cells #[.int .i16 l.long, .int .i16 l.most] 47)).drew).heap.size (some ⟨w.heap.size + 1, 0, none⟩) [l]) :=
    Lib.hid ((sl_line2 w l 47 47).keep fun _ _ => rfl)
  have H0 := Lib.hid h0
  have H1 := Lib.hid h1
  have H2 := Lib.hid h2
  have H3 := Lib.hid h3
  have En := Lib.hid en
  clear h0 h1 h2 h3 en
  go_enter Tryd.func39, Tryd.ntmps39
  go_wp2_with fail
  go_region_held3 (fun u => FitP l w u)
    (first | assumption | exact S0.out.p | exact (S0.out.drewN 1).p | exact FitP.alloc (by assumption) _ | exact FitP.next (by assumption) hb2)
    (first
      | (go_at_call 63; refine (f_lines l hl h hB (by assumption) _ T1.out 0 H0.out .nilIface rfl).mono ?_; rintro o w2 ⟨rfl, hb2⟩)
      | (go_at_call 49; refine (f_cloths A n c xs En.out hn hf h hB hg (by assumption) 1 H1.out (errV (e 0)) rfl).mono ?_; rintro o w2 ⟨rfl, hb2⟩)
      | (go_at_call 55; refine (f_count A n c hn h hB (by assumption) 3 H2.out (errV (e 2)) rfl).mono ?_; rintro o w2 ⟨rfl, hb2⟩)
      | (go_at_call 73; refine (f_each l hl A n c xs En.out hn hf h hB hg (by assumption) 0 H3.out .nilIface rfl).mono ?_; rintro o w2 ⟨rfl, hb2⟩)
      | (go_at_call 54; refine (firstOf_any e [0, 1, 3, 0] _ 4 4 rfl (by decide) _ (cells_errs e [0, 1, 3, 0] _ 69 #[.nilIface, (errV (e 0)), (errV (e 2)), .nilIface] rfl)).mono ?_; rintro o w2 ⟨rfl, rfl⟩)
      | fail)
  rename_i hS
  have S4 := Lib.hid hS.s
  have HE := Lib.hid (h.below (S4.out.b.mono hB))
  clear hS
  have e0 : errOf e (firstCode [0, 1, 3, 0]) = errV (e 0) := rfl
  rw [e0]
  clear e0
  go_wp2_with fail
  refine (codeOf_any HE.out 1 (by omega)).mono ?_
  rintro o w3 ⟨rfl, rfl⟩
  go_wp2_with fail
  go_ret3
  exact ⟨_, rfl, owns_none _ _, S4.out.b⟩

set_option maxRecDepth 100000 in
set_option maxHeartbeats 8000000 in
theorem first_0136 (l : Lin) (hl : l.Fits) (A : Option Addr) (n c : Nat) (xs : List Clo) (en : n = xs.length) (hn : n ≤ 1048576) (hf : ∀ x ∈ xs, x.Fits) {w : World} {B : Nat} {e : Nat → Addr} (h : Errs w B e) (hB : B ≤ w.heap.size) (hg : Sl Clo.cells 2 w w.heap.size A xs)
    (h0 : 0 = if [l].all Lin.valid = true then 0 else 1) (h1 : 1 = if xs.all Clo.valid = true then 0 else 1) (h2 : 3 = if 7 < n then 3 else 0) (h3 : 6 = if aloneB l xs = true then 0 else 6) :
    Calls Tryd.prog 39 #[l.v, .slice A n c] w (Own3 w [] 0 1) := by
  have S0 := Lib.hid (FitS.new l w 47)
  have T1 : Hid (Sl Lin.cells 2 (((w.alloc (.cells #[.int .i16 l.long, .int .i16 l.most] 47)).alloc (.cells #[.int .i16 l.long, .int .i16 l.most] 47)).drew) (((w.alloc (.cells #[.int .i16 l.long, .int .i16 l.most] 47)).alloc (.cells #[.int .i16 l.long, .int .i16 l.most] 47)).drew).heap.size (some ⟨w.heap.size + 1, 0, none⟩) [l]) :=
    Lib.hid ((sl_line2 w l 47 47).keep fun _ _ => rfl)
  have H0 := Lib.hid h0
  have H1 := Lib.hid h1
  have H2 := Lib.hid h2
  have H3 := Lib.hid h3
  have En := Lib.hid en
  clear h0 h1 h2 h3 en
  go_enter Tryd.func39, Tryd.ntmps39
  go_wp2_with fail
  go_region_held3 (fun u => FitP l w u)
    (first | assumption | exact S0.out.p | exact (S0.out.drewN 1).p | exact FitP.alloc (by assumption) _ | exact FitP.next (by assumption) hb2)
    (first
      | (go_at_call 63; refine (f_lines l hl h hB (by assumption) _ T1.out 0 H0.out .nilIface rfl).mono ?_; rintro o w2 ⟨rfl, hb2⟩)
      | (go_at_call 49; refine (f_cloths A n c xs En.out hn hf h hB hg (by assumption) 1 H1.out (errV (e 0)) rfl).mono ?_; rintro o w2 ⟨rfl, hb2⟩)
      | (go_at_call 55; refine (f_count A n c hn h hB (by assumption) 3 H2.out (errV (e 2)) rfl).mono ?_; rintro o w2 ⟨rfl, hb2⟩)
      | (go_at_call 73; refine (f_each l hl A n c xs En.out hn hf h hB hg (by assumption) 6 H3.out (errV (e 5)) rfl).mono ?_; rintro o w2 ⟨rfl, hb2⟩)
      | (go_at_call 54; refine (firstOf_any e [0, 1, 3, 6] _ 4 4 rfl (by decide) _ (cells_errs e [0, 1, 3, 6] _ 69 #[.nilIface, (errV (e 0)), (errV (e 2)), (errV (e 5))] rfl)).mono ?_; rintro o w2 ⟨rfl, rfl⟩)
      | fail)
  rename_i hS
  have S4 := Lib.hid hS.s
  have HE := Lib.hid (h.below (S4.out.b.mono hB))
  clear hS
  have e0 : errOf e (firstCode [0, 1, 3, 6]) = errV (e 0) := rfl
  rw [e0]
  clear e0
  go_wp2_with fail
  refine (codeOf_any HE.out 1 (by omega)).mono ?_
  rintro o w3 ⟨rfl, rfl⟩
  go_wp2_with fail
  go_ret3
  exact ⟨_, rfl, owns_none _ _, S4.out.b⟩

set_option maxRecDepth 100000 in
set_option maxHeartbeats 8000000 in
theorem first_1000 (l : Lin) (hl : l.Fits) (A : Option Addr) (n c : Nat) (xs : List Clo) (en : n = xs.length) (hn : n ≤ 1048576) (hf : ∀ x ∈ xs, x.Fits) {w : World} {B : Nat} {e : Nat → Addr} (h : Errs w B e) (hB : B ≤ w.heap.size) (hg : Sl Clo.cells 2 w w.heap.size A xs)
    (h0 : 1 = if [l].all Lin.valid = true then 0 else 1) (h1 : 0 = if xs.all Clo.valid = true then 0 else 1) (h2 : 0 = if 7 < n then 3 else 0) (h3 : 0 = if aloneB l xs = true then 0 else 6) :
    Calls Tryd.prog 39 #[l.v, .slice A n c] w (Own3 w [] 0 1) := by
  have S0 := Lib.hid (FitS.new l w 47)
  have T1 : Hid (Sl Lin.cells 2 (((w.alloc (.cells #[.int .i16 l.long, .int .i16 l.most] 47)).alloc (.cells #[.int .i16 l.long, .int .i16 l.most] 47)).drew) (((w.alloc (.cells #[.int .i16 l.long, .int .i16 l.most] 47)).alloc (.cells #[.int .i16 l.long, .int .i16 l.most] 47)).drew).heap.size (some ⟨w.heap.size + 1, 0, none⟩) [l]) :=
    Lib.hid ((sl_line2 w l 47 47).keep fun _ _ => rfl)
  have H0 := Lib.hid h0
  have H1 := Lib.hid h1
  have H2 := Lib.hid h2
  have H3 := Lib.hid h3
  have En := Lib.hid en
  clear h0 h1 h2 h3 en
  go_enter Tryd.func39, Tryd.ntmps39
  go_wp2_with fail
  go_region_held3 (fun u => FitP l w u)
    (first | assumption | exact S0.out.p | exact (S0.out.drewN 1).p | exact FitP.alloc (by assumption) _ | exact FitP.next (by assumption) hb2)
    (first
      | (go_at_call 63; refine (f_lines l hl h hB (by assumption) _ T1.out 1 H0.out (errV (e 0)) rfl).mono ?_; rintro o w2 ⟨rfl, hb2⟩)
      | (go_at_call 49; refine (f_cloths A n c xs En.out hn hf h hB hg (by assumption) 0 H1.out .nilIface rfl).mono ?_; rintro o w2 ⟨rfl, hb2⟩)
      | (go_at_call 55; refine (f_count A n c hn h hB (by assumption) 0 H2.out .nilIface rfl).mono ?_; rintro o w2 ⟨rfl, hb2⟩)
      | (go_at_call 73; refine (f_each l hl A n c xs En.out hn hf h hB hg (by assumption) 0 H3.out .nilIface rfl).mono ?_; rintro o w2 ⟨rfl, hb2⟩)
      | (go_at_call 54; refine (firstOf_any e [1, 0, 0, 0] _ 4 4 rfl (by decide) _ (cells_errs e [1, 0, 0, 0] _ 69 #[(errV (e 0)), .nilIface, .nilIface, .nilIface] rfl)).mono ?_; rintro o w2 ⟨rfl, rfl⟩)
      | fail)
  rename_i hS
  have S4 := Lib.hid hS.s
  have HE := Lib.hid (h.below (S4.out.b.mono hB))
  clear hS
  have e0 : errOf e (firstCode [1, 0, 0, 0]) = errV (e 0) := rfl
  rw [e0]
  clear e0
  go_wp2_with fail
  refine (codeOf_any HE.out 1 (by omega)).mono ?_
  rintro o w3 ⟨rfl, rfl⟩
  go_wp2_with fail
  go_ret3
  exact ⟨_, rfl, owns_none _ _, S4.out.b⟩

set_option maxRecDepth 100000 in
set_option maxHeartbeats 8000000 in
theorem first_1006 (l : Lin) (hl : l.Fits) (A : Option Addr) (n c : Nat) (xs : List Clo) (en : n = xs.length) (hn : n ≤ 1048576) (hf : ∀ x ∈ xs, x.Fits) {w : World} {B : Nat} {e : Nat → Addr} (h : Errs w B e) (hB : B ≤ w.heap.size) (hg : Sl Clo.cells 2 w w.heap.size A xs)
    (h0 : 1 = if [l].all Lin.valid = true then 0 else 1) (h1 : 0 = if xs.all Clo.valid = true then 0 else 1) (h2 : 0 = if 7 < n then 3 else 0) (h3 : 6 = if aloneB l xs = true then 0 else 6) :
    Calls Tryd.prog 39 #[l.v, .slice A n c] w (Own3 w [] 0 1) := by
  have S0 := Lib.hid (FitS.new l w 47)
  have T1 : Hid (Sl Lin.cells 2 (((w.alloc (.cells #[.int .i16 l.long, .int .i16 l.most] 47)).alloc (.cells #[.int .i16 l.long, .int .i16 l.most] 47)).drew) (((w.alloc (.cells #[.int .i16 l.long, .int .i16 l.most] 47)).alloc (.cells #[.int .i16 l.long, .int .i16 l.most] 47)).drew).heap.size (some ⟨w.heap.size + 1, 0, none⟩) [l]) :=
    Lib.hid ((sl_line2 w l 47 47).keep fun _ _ => rfl)
  have H0 := Lib.hid h0
  have H1 := Lib.hid h1
  have H2 := Lib.hid h2
  have H3 := Lib.hid h3
  have En := Lib.hid en
  clear h0 h1 h2 h3 en
  go_enter Tryd.func39, Tryd.ntmps39
  go_wp2_with fail
  go_region_held3 (fun u => FitP l w u)
    (first | assumption | exact S0.out.p | exact (S0.out.drewN 1).p | exact FitP.alloc (by assumption) _ | exact FitP.next (by assumption) hb2)
    (first
      | (go_at_call 63; refine (f_lines l hl h hB (by assumption) _ T1.out 1 H0.out (errV (e 0)) rfl).mono ?_; rintro o w2 ⟨rfl, hb2⟩)
      | (go_at_call 49; refine (f_cloths A n c xs En.out hn hf h hB hg (by assumption) 0 H1.out .nilIface rfl).mono ?_; rintro o w2 ⟨rfl, hb2⟩)
      | (go_at_call 55; refine (f_count A n c hn h hB (by assumption) 0 H2.out .nilIface rfl).mono ?_; rintro o w2 ⟨rfl, hb2⟩)
      | (go_at_call 73; refine (f_each l hl A n c xs En.out hn hf h hB hg (by assumption) 6 H3.out (errV (e 5)) rfl).mono ?_; rintro o w2 ⟨rfl, hb2⟩)
      | (go_at_call 54; refine (firstOf_any e [1, 0, 0, 6] _ 4 4 rfl (by decide) _ (cells_errs e [1, 0, 0, 6] _ 69 #[(errV (e 0)), .nilIface, .nilIface, (errV (e 5))] rfl)).mono ?_; rintro o w2 ⟨rfl, rfl⟩)
      | fail)
  rename_i hS
  have S4 := Lib.hid hS.s
  have HE := Lib.hid (h.below (S4.out.b.mono hB))
  clear hS
  have e0 : errOf e (firstCode [1, 0, 0, 6]) = errV (e 0) := rfl
  rw [e0]
  clear e0
  go_wp2_with fail
  refine (codeOf_any HE.out 1 (by omega)).mono ?_
  rintro o w3 ⟨rfl, rfl⟩
  go_wp2_with fail
  go_ret3
  exact ⟨_, rfl, owns_none _ _, S4.out.b⟩

set_option maxRecDepth 100000 in
set_option maxHeartbeats 8000000 in
theorem first_1030 (l : Lin) (hl : l.Fits) (A : Option Addr) (n c : Nat) (xs : List Clo) (en : n = xs.length) (hn : n ≤ 1048576) (hf : ∀ x ∈ xs, x.Fits) {w : World} {B : Nat} {e : Nat → Addr} (h : Errs w B e) (hB : B ≤ w.heap.size) (hg : Sl Clo.cells 2 w w.heap.size A xs)
    (h0 : 1 = if [l].all Lin.valid = true then 0 else 1) (h1 : 0 = if xs.all Clo.valid = true then 0 else 1) (h2 : 3 = if 7 < n then 3 else 0) (h3 : 0 = if aloneB l xs = true then 0 else 6) :
    Calls Tryd.prog 39 #[l.v, .slice A n c] w (Own3 w [] 0 1) := by
  have S0 := Lib.hid (FitS.new l w 47)
  have T1 : Hid (Sl Lin.cells 2 (((w.alloc (.cells #[.int .i16 l.long, .int .i16 l.most] 47)).alloc (.cells #[.int .i16 l.long, .int .i16 l.most] 47)).drew) (((w.alloc (.cells #[.int .i16 l.long, .int .i16 l.most] 47)).alloc (.cells #[.int .i16 l.long, .int .i16 l.most] 47)).drew).heap.size (some ⟨w.heap.size + 1, 0, none⟩) [l]) :=
    Lib.hid ((sl_line2 w l 47 47).keep fun _ _ => rfl)
  have H0 := Lib.hid h0
  have H1 := Lib.hid h1
  have H2 := Lib.hid h2
  have H3 := Lib.hid h3
  have En := Lib.hid en
  clear h0 h1 h2 h3 en
  go_enter Tryd.func39, Tryd.ntmps39
  go_wp2_with fail
  go_region_held3 (fun u => FitP l w u)
    (first | assumption | exact S0.out.p | exact (S0.out.drewN 1).p | exact FitP.alloc (by assumption) _ | exact FitP.next (by assumption) hb2)
    (first
      | (go_at_call 63; refine (f_lines l hl h hB (by assumption) _ T1.out 1 H0.out (errV (e 0)) rfl).mono ?_; rintro o w2 ⟨rfl, hb2⟩)
      | (go_at_call 49; refine (f_cloths A n c xs En.out hn hf h hB hg (by assumption) 0 H1.out .nilIface rfl).mono ?_; rintro o w2 ⟨rfl, hb2⟩)
      | (go_at_call 55; refine (f_count A n c hn h hB (by assumption) 3 H2.out (errV (e 2)) rfl).mono ?_; rintro o w2 ⟨rfl, hb2⟩)
      | (go_at_call 73; refine (f_each l hl A n c xs En.out hn hf h hB hg (by assumption) 0 H3.out .nilIface rfl).mono ?_; rintro o w2 ⟨rfl, hb2⟩)
      | (go_at_call 54; refine (firstOf_any e [1, 0, 3, 0] _ 4 4 rfl (by decide) _ (cells_errs e [1, 0, 3, 0] _ 69 #[(errV (e 0)), .nilIface, (errV (e 2)), .nilIface] rfl)).mono ?_; rintro o w2 ⟨rfl, rfl⟩)
      | fail)
  rename_i hS
  have S4 := Lib.hid hS.s
  have HE := Lib.hid (h.below (S4.out.b.mono hB))
  clear hS
  have e0 : errOf e (firstCode [1, 0, 3, 0]) = errV (e 0) := rfl
  rw [e0]
  clear e0
  go_wp2_with fail
  refine (codeOf_any HE.out 1 (by omega)).mono ?_
  rintro o w3 ⟨rfl, rfl⟩
  go_wp2_with fail
  go_ret3
  exact ⟨_, rfl, owns_none _ _, S4.out.b⟩

set_option maxRecDepth 100000 in
set_option maxHeartbeats 8000000 in
theorem first_1036 (l : Lin) (hl : l.Fits) (A : Option Addr) (n c : Nat) (xs : List Clo) (en : n = xs.length) (hn : n ≤ 1048576) (hf : ∀ x ∈ xs, x.Fits) {w : World} {B : Nat} {e : Nat → Addr} (h : Errs w B e) (hB : B ≤ w.heap.size) (hg : Sl Clo.cells 2 w w.heap.size A xs)
    (h0 : 1 = if [l].all Lin.valid = true then 0 else 1) (h1 : 0 = if xs.all Clo.valid = true then 0 else 1) (h2 : 3 = if 7 < n then 3 else 0) (h3 : 6 = if aloneB l xs = true then 0 else 6) :
    Calls Tryd.prog 39 #[l.v, .slice A n c] w (Own3 w [] 0 1) := by
  have S0 := Lib.hid (FitS.new l w 47)
  have T1 : Hid (Sl Lin.cells 2 (((w.alloc (.cells #[.int .i16 l.long, .int .i16 l.most] 47)).alloc (.cells #[.int .i16 l.long, .int .i16 l.most] 47)).drew) (((w.alloc (.cells #[.int .i16 l.long, .int .i16 l.most] 47)).alloc (.cells #[.int .i16 l.long, .int .i16 l.most] 47)).drew).heap.size (some ⟨w.heap.size + 1, 0, none⟩) [l]) :=
    Lib.hid ((sl_line2 w l 47 47).keep fun _ _ => rfl)
  have H0 := Lib.hid h0
  have H1 := Lib.hid h1
  have H2 := Lib.hid h2
  have H3 := Lib.hid h3
  have En := Lib.hid en
  clear h0 h1 h2 h3 en
  go_enter Tryd.func39, Tryd.ntmps39
  go_wp2_with fail
  go_region_held3 (fun u => FitP l w u)
    (first | assumption | exact S0.out.p | exact (S0.out.drewN 1).p | exact FitP.alloc (by assumption) _ | exact FitP.next (by assumption) hb2)
    (first
      | (go_at_call 63; refine (f_lines l hl h hB (by assumption) _ T1.out 1 H0.out (errV (e 0)) rfl).mono ?_; rintro o w2 ⟨rfl, hb2⟩)
      | (go_at_call 49; refine (f_cloths A n c xs En.out hn hf h hB hg (by assumption) 0 H1.out .nilIface rfl).mono ?_; rintro o w2 ⟨rfl, hb2⟩)
      | (go_at_call 55; refine (f_count A n c hn h hB (by assumption) 3 H2.out (errV (e 2)) rfl).mono ?_; rintro o w2 ⟨rfl, hb2⟩)
      | (go_at_call 73; refine (f_each l hl A n c xs En.out hn hf h hB hg (by assumption) 6 H3.out (errV (e 5)) rfl).mono ?_; rintro o w2 ⟨rfl, hb2⟩)
      | (go_at_call 54; refine (firstOf_any e [1, 0, 3, 6] _ 4 4 rfl (by decide) _ (cells_errs e [1, 0, 3, 6] _ 69 #[(errV (e 0)), .nilIface, (errV (e 2)), (errV (e 5))] rfl)).mono ?_; rintro o w2 ⟨rfl, rfl⟩)
      | fail)
  rename_i hS
  have S4 := Lib.hid hS.s
  have HE := Lib.hid (h.below (S4.out.b.mono hB))
  clear hS
  have e0 : errOf e (firstCode [1, 0, 3, 6]) = errV (e 0) := rfl
  rw [e0]
  clear e0
  go_wp2_with fail
  refine (codeOf_any HE.out 1 (by omega)).mono ?_
  rintro o w3 ⟨rfl, rfl⟩
  go_wp2_with fail
  go_ret3
  exact ⟨_, rfl, owns_none _ _, S4.out.b⟩

set_option maxRecDepth 100000 in
set_option maxHeartbeats 8000000 in
theorem first_1100 (l : Lin) (hl : l.Fits) (A : Option Addr) (n c : Nat) (xs : List Clo) (en : n = xs.length) (hn : n ≤ 1048576) (hf : ∀ x ∈ xs, x.Fits) {w : World} {B : Nat} {e : Nat → Addr} (h : Errs w B e) (hB : B ≤ w.heap.size) (hg : Sl Clo.cells 2 w w.heap.size A xs)
    (h0 : 1 = if [l].all Lin.valid = true then 0 else 1) (h1 : 1 = if xs.all Clo.valid = true then 0 else 1) (h2 : 0 = if 7 < n then 3 else 0) (h3 : 0 = if aloneB l xs = true then 0 else 6) :
    Calls Tryd.prog 39 #[l.v, .slice A n c] w (Own3 w [] 0 1) := by
  have S0 := Lib.hid (FitS.new l w 47)
  have T1 : Hid (Sl Lin.cells 2 (((w.alloc (.cells #[.int .i16 l.long, .int .i16 l.most] 47)).alloc (.cells #[.int .i16 l.long, .int .i16 l.most] 47)).drew) (((w.alloc (.cells #[.int .i16 l.long, .int .i16 l.most] 47)).alloc (.cells #[.int .i16 l.long, .int .i16 l.most] 47)).drew).heap.size (some ⟨w.heap.size + 1, 0, none⟩) [l]) :=
    Lib.hid ((sl_line2 w l 47 47).keep fun _ _ => rfl)
  have H0 := Lib.hid h0
  have H1 := Lib.hid h1
  have H2 := Lib.hid h2
  have H3 := Lib.hid h3
  have En := Lib.hid en
  clear h0 h1 h2 h3 en
  go_enter Tryd.func39, Tryd.ntmps39
  go_wp2_with fail
  go_region_held3 (fun u => FitP l w u)
    (first | assumption | exact S0.out.p | exact (S0.out.drewN 1).p | exact FitP.alloc (by assumption) _ | exact FitP.next (by assumption) hb2)
    (first
      | (go_at_call 63; refine (f_lines l hl h hB (by assumption) _ T1.out 1 H0.out (errV (e 0)) rfl).mono ?_; rintro o w2 ⟨rfl, hb2⟩)
      | (go_at_call 49; refine (f_cloths A n c xs En.out hn hf h hB hg (by assumption) 1 H1.out (errV (e 0)) rfl).mono ?_; rintro o w2 ⟨rfl, hb2⟩)
      | (go_at_call 55; refine (f_count A n c hn h hB (by assumption) 0 H2.out .nilIface rfl).mono ?_; rintro o w2 ⟨rfl, hb2⟩)
      | (go_at_call 73; refine (f_each l hl A n c xs En.out hn hf h hB hg (by assumption) 0 H3.out .nilIface rfl).mono ?_; rintro o w2 ⟨rfl, hb2⟩)
      | (go_at_call 54; refine (firstOf_any e [1, 1, 0, 0] _ 4 4 rfl (by decide) _ (cells_errs e [1, 1, 0, 0] _ 69 #[(errV (e 0)), (errV (e 0)), .nilIface, .nilIface] rfl)).mono ?_; rintro o w2 ⟨rfl, rfl⟩)
      | fail)
  rename_i hS
  have S4 := Lib.hid hS.s
  have HE := Lib.hid (h.below (S4.out.b.mono hB))
  clear hS
  have e0 : errOf e (firstCode [1, 1, 0, 0]) = errV (e 0) := rfl
  rw [e0]
  clear e0
  go_wp2_with fail
  refine (codeOf_any HE.out 1 (by omega)).mono ?_
  rintro o w3 ⟨rfl, rfl⟩
  go_wp2_with fail
  go_ret3
  exact ⟨_, rfl, owns_none _ _, S4.out.b⟩

set_option maxRecDepth 100000 in
set_option maxHeartbeats 8000000 in
theorem first_1106 (l : Lin) (hl : l.Fits) (A : Option Addr) (n c : Nat) (xs : List Clo) (en : n = xs.length) (hn : n ≤ 1048576) (hf : ∀ x ∈ xs, x.Fits) {w : World} {B : Nat} {e : Nat → Addr} (h : Errs w B e) (hB : B ≤ w.heap.size) (hg : Sl Clo.cells 2 w w.heap.size A xs)
    (h0 : 1 = if [l].all Lin.valid = true then 0 else 1) (h1 : 1 = if xs.all Clo.valid = true then 0 else 1) (h2 : 0 = if 7 < n then 3 else 0) (h3 : 6 = if aloneB l xs = true then 0 else 6) :
    Calls Tryd.prog 39 #[l.v, .slice A n c] w (Own3 w [] 0 1) := by
  have S0 := Lib.hid (FitS.new l w 47)
  have T1 : Hid (Sl Lin.cells 2 (((w.alloc (.cells #[.int .i16 l.long, .int .i16 l.most] 47)).alloc (.cells #[.int .i16 l.long, .int .i16 l.most] 47)).drew) (((w.alloc (.cells #[.int .i16 l.long, .int .i16 l.most] 47)).alloc (.cells #[.int .i16 l.long, .int .i16 l.most] 47)).drew).heap.size (some ⟨w.heap.size + 1, 0, none⟩) [l]) :=
    Lib.hid ((sl_line2 w l 47 47).keep fun _ _ => rfl)
  have H0 := Lib.hid h0
  have H1 := Lib.hid h1
  have H2 := Lib.hid h2
  have H3 := Lib.hid h3
  have En := Lib.hid en
  clear h0 h1 h2 h3 en
  go_enter Tryd.func39, Tryd.ntmps39
  go_wp2_with fail
  go_region_held3 (fun u => FitP l w u)
    (first | assumption | exact S0.out.p | exact (S0.out.drewN 1).p | exact FitP.alloc (by assumption) _ | exact FitP.next (by assumption) hb2)
    (first
      | (go_at_call 63; refine (f_lines l hl h hB (by assumption) _ T1.out 1 H0.out (errV (e 0)) rfl).mono ?_; rintro o w2 ⟨rfl, hb2⟩)
      | (go_at_call 49; refine (f_cloths A n c xs En.out hn hf h hB hg (by assumption) 1 H1.out (errV (e 0)) rfl).mono ?_; rintro o w2 ⟨rfl, hb2⟩)
      | (go_at_call 55; refine (f_count A n c hn h hB (by assumption) 0 H2.out .nilIface rfl).mono ?_; rintro o w2 ⟨rfl, hb2⟩)
      | (go_at_call 73; refine (f_each l hl A n c xs En.out hn hf h hB hg (by assumption) 6 H3.out (errV (e 5)) rfl).mono ?_; rintro o w2 ⟨rfl, hb2⟩)
      | (go_at_call 54; refine (firstOf_any e [1, 1, 0, 6] _ 4 4 rfl (by decide) _ (cells_errs e [1, 1, 0, 6] _ 69 #[(errV (e 0)), (errV (e 0)), .nilIface, (errV (e 5))] rfl)).mono ?_; rintro o w2 ⟨rfl, rfl⟩)
      | fail)
  rename_i hS
  have S4 := Lib.hid hS.s
  have HE := Lib.hid (h.below (S4.out.b.mono hB))
  clear hS
  have e0 : errOf e (firstCode [1, 1, 0, 6]) = errV (e 0) := rfl
  rw [e0]
  clear e0
  go_wp2_with fail
  refine (codeOf_any HE.out 1 (by omega)).mono ?_
  rintro o w3 ⟨rfl, rfl⟩
  go_wp2_with fail
  go_ret3
  exact ⟨_, rfl, owns_none _ _, S4.out.b⟩

set_option maxRecDepth 100000 in
set_option maxHeartbeats 8000000 in
theorem first_1130 (l : Lin) (hl : l.Fits) (A : Option Addr) (n c : Nat) (xs : List Clo) (en : n = xs.length) (hn : n ≤ 1048576) (hf : ∀ x ∈ xs, x.Fits) {w : World} {B : Nat} {e : Nat → Addr} (h : Errs w B e) (hB : B ≤ w.heap.size) (hg : Sl Clo.cells 2 w w.heap.size A xs)
    (h0 : 1 = if [l].all Lin.valid = true then 0 else 1) (h1 : 1 = if xs.all Clo.valid = true then 0 else 1) (h2 : 3 = if 7 < n then 3 else 0) (h3 : 0 = if aloneB l xs = true then 0 else 6) :
    Calls Tryd.prog 39 #[l.v, .slice A n c] w (Own3 w [] 0 1) := by
  have S0 := Lib.hid (FitS.new l w 47)
  have T1 : Hid (Sl Lin.cells 2 (((w.alloc (.cells #[.int .i16 l.long, .int .i16 l.most] 47)).alloc (.cells #[.int .i16 l.long, .int .i16 l.most] 47)).drew) (((w.alloc (.cells #[.int .i16 l.long, .int .i16 l.most] 47)).alloc (.cells #[.int .i16 l.long, .int .i16 l.most] 47)).drew).heap.size (some ⟨w.heap.size + 1, 0, none⟩) [l]) :=
    Lib.hid ((sl_line2 w l 47 47).keep fun _ _ => rfl)
  have H0 := Lib.hid h0
  have H1 := Lib.hid h1
  have H2 := Lib.hid h2
  have H3 := Lib.hid h3
  have En := Lib.hid en
  clear h0 h1 h2 h3 en
  go_enter Tryd.func39, Tryd.ntmps39
  go_wp2_with fail
  go_region_held3 (fun u => FitP l w u)
    (first | assumption | exact S0.out.p | exact (S0.out.drewN 1).p | exact FitP.alloc (by assumption) _ | exact FitP.next (by assumption) hb2)
    (first
      | (go_at_call 63; refine (f_lines l hl h hB (by assumption) _ T1.out 1 H0.out (errV (e 0)) rfl).mono ?_; rintro o w2 ⟨rfl, hb2⟩)
      | (go_at_call 49; refine (f_cloths A n c xs En.out hn hf h hB hg (by assumption) 1 H1.out (errV (e 0)) rfl).mono ?_; rintro o w2 ⟨rfl, hb2⟩)
      | (go_at_call 55; refine (f_count A n c hn h hB (by assumption) 3 H2.out (errV (e 2)) rfl).mono ?_; rintro o w2 ⟨rfl, hb2⟩)
      | (go_at_call 73; refine (f_each l hl A n c xs En.out hn hf h hB hg (by assumption) 0 H3.out .nilIface rfl).mono ?_; rintro o w2 ⟨rfl, hb2⟩)
      | (go_at_call 54; refine (firstOf_any e [1, 1, 3, 0] _ 4 4 rfl (by decide) _ (cells_errs e [1, 1, 3, 0] _ 69 #[(errV (e 0)), (errV (e 0)), (errV (e 2)), .nilIface] rfl)).mono ?_; rintro o w2 ⟨rfl, rfl⟩)
      | fail)
  rename_i hS
  have S4 := Lib.hid hS.s
  have HE := Lib.hid (h.below (S4.out.b.mono hB))
  clear hS
  have e0 : errOf e (firstCode [1, 1, 3, 0]) = errV (e 0) := rfl
  rw [e0]
  clear e0
  go_wp2_with fail
  refine (codeOf_any HE.out 1 (by omega)).mono ?_
  rintro o w3 ⟨rfl, rfl⟩
  go_wp2_with fail
  go_ret3
  exact ⟨_, rfl, owns_none _ _, S4.out.b⟩

set_option maxRecDepth 100000 in
set_option maxHeartbeats 8000000 in
theorem first_1136 (l : Lin) (hl : l.Fits) (A : Option Addr) (n c : Nat) (xs : List Clo) (en : n = xs.length) (hn : n ≤ 1048576) (hf : ∀ x ∈ xs, x.Fits) {w : World} {B : Nat} {e : Nat → Addr} (h : Errs w B e) (hB : B ≤ w.heap.size) (hg : Sl Clo.cells 2 w w.heap.size A xs)
    (h0 : 1 = if [l].all Lin.valid = true then 0 else 1) (h1 : 1 = if xs.all Clo.valid = true then 0 else 1) (h2 : 3 = if 7 < n then 3 else 0) (h3 : 6 = if aloneB l xs = true then 0 else 6) :
    Calls Tryd.prog 39 #[l.v, .slice A n c] w (Own3 w [] 0 1) := by
  have S0 := Lib.hid (FitS.new l w 47)
  have T1 : Hid (Sl Lin.cells 2 (((w.alloc (.cells #[.int .i16 l.long, .int .i16 l.most] 47)).alloc (.cells #[.int .i16 l.long, .int .i16 l.most] 47)).drew) (((w.alloc (.cells #[.int .i16 l.long, .int .i16 l.most] 47)).alloc (.cells #[.int .i16 l.long, .int .i16 l.most] 47)).drew).heap.size (some ⟨w.heap.size + 1, 0, none⟩) [l]) :=
    Lib.hid ((sl_line2 w l 47 47).keep fun _ _ => rfl)
  have H0 := Lib.hid h0
  have H1 := Lib.hid h1
  have H2 := Lib.hid h2
  have H3 := Lib.hid h3
  have En := Lib.hid en
  clear h0 h1 h2 h3 en
  go_enter Tryd.func39, Tryd.ntmps39
  go_wp2_with fail
  go_region_held3 (fun u => FitP l w u)
    (first | assumption | exact S0.out.p | exact (S0.out.drewN 1).p | exact FitP.alloc (by assumption) _ | exact FitP.next (by assumption) hb2)
    (first
      | (go_at_call 63; refine (f_lines l hl h hB (by assumption) _ T1.out 1 H0.out (errV (e 0)) rfl).mono ?_; rintro o w2 ⟨rfl, hb2⟩)
      | (go_at_call 49; refine (f_cloths A n c xs En.out hn hf h hB hg (by assumption) 1 H1.out (errV (e 0)) rfl).mono ?_; rintro o w2 ⟨rfl, hb2⟩)
      | (go_at_call 55; refine (f_count A n c hn h hB (by assumption) 3 H2.out (errV (e 2)) rfl).mono ?_; rintro o w2 ⟨rfl, hb2⟩)
      | (go_at_call 73; refine (f_each l hl A n c xs En.out hn hf h hB hg (by assumption) 6 H3.out (errV (e 5)) rfl).mono ?_; rintro o w2 ⟨rfl, hb2⟩)
      | (go_at_call 54; refine (firstOf_any e [1, 1, 3, 6] _ 4 4 rfl (by decide) _ (cells_errs e [1, 1, 3, 6] _ 69 #[(errV (e 0)), (errV (e 0)), (errV (e 2)), (errV (e 5))] rfl)).mono ?_; rintro o w2 ⟨rfl, rfl⟩)
      | fail)
  rename_i hS
  have S4 := Lib.hid hS.s
  have HE := Lib.hid (h.below (S4.out.b.mono hB))
  clear hS
  have e0 : errOf e (firstCode [1, 1, 3, 6]) = errV (e 0) := rfl
  rw [e0]
  clear e0
  go_wp2_with fail
  refine (codeOf_any HE.out 1 (by omega)).mono ?_
  rintro o w3 ⟨rfl, rfl⟩
  go_wp2_with fail
  go_ret3
  exact ⟨_, rfl, owns_none _ _, S4.out.b⟩

end Go.Proofs.YtbpipcfijbgnhaaDoor.hang
