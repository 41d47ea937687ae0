/-
  Contract of the model's FirstLines.
-/
import Derived.Test.YtbpipcfijbgnhaaDoorCFirstI
import Derived.Deep.AppendLies
namespace Go.Proofs.YtbpipcfijbgnhaaDoor.hang
open Go Go.RowKit sl errs

/-- an append inside a region that draws its order, guarded or not -/
theorem step_append_wanted {P : Program} {w : World} {ops : Array Oper} {o : Oper} {a : Act} {K : Act → World → Prop} {Q : Exit → Act → World → Prop} {E : Prop} (hw : Region.wanted o (yielded ops a.tmps) = true) (s x : Operand) (t : TypeId)
    (ho : o.op = .call { callee := .builtin .append, args := #[s, x], argTypes := #[t, t] })
    (base : Nat) (e : TypeId) (i : TypeInfo) (z : Value) (size bytes : Nat) (ht : P.underlying t = some (.slice e)) (hi : P.info? e = some i) (hz : i.zero = some z)
    (hsize : i.size = size) (hby : i.bytes = bytes) (hzs : z.cells.size = size) (hsz : 0 < size)
    (v : Value) (n : Nat) (xs : List Value) (hs : a.eval s = v) (hown : w.ownsRow base e size v n xs)
    (ad : Addr) (m c : Nat) (news : List Value) (hx : a.eval x = .slice (some ad) m c) (hl : news.length = m * size) (hnews : ∀ j u, news[j]? = some u → w.cell? (ad.add j) = some u) (h1 : ∀ u ∈ news, u.oneCell' = true)
    (hm : 0 < m) (h63 : n + m ≤ maxLen) (hbytes : (n + m) * bytes ≤ 140737488355328) (hbase : base ≤ w.heap.size) (H : Nat) (hH : w.heap.size = H)
    (h : ∀ g cap w', w'.ownsRow base e size (.slice (some ⟨g, 0, none⟩) (n + m) cap) (n + m) (xs ++ news) → w.grownBy w' v.ownBlock → (v.ownBlock = some g ∨ g = H) → g < w'.heap.size → K (a.put o.dst (.slice (some ⟨g, 0, none⟩) (n + m) cap)) w') :
    if Region.wanted o (yielded ops a.tmps) = true then Oper.wp P o a w K Q else E := by
  rw [if_pos hw]
  exact wp_append_lies (P := P) w s x t ho base e i z size bytes ht hi hz hsize hby hzs hsz v n xs hs hown ad m c news hx hl hnews h1 hm h63 hbytes hbase H hH h

/-- a line's box and one cloth -/
abbrev DS (l : Lin) (w : World) (p : Addr) (x : Clo) (u : World) : Prop := u.cell? ⟨w.heap.size, 0, none⟩ = some (.int .i16 l.long) ∧ u.cell? ⟨w.heap.size, 1, none⟩ = some (.int .i16 l.most) ∧ Below w.heap.size w u ∧ w.heap.size < u.heap.size ∧ u.cell? p = some (.int .i16 x.wide) ∧ u.cell? ⟨p.block, p.off + 1, none⟩ = some (.int .i16 x.heavy)
theorem DS.s {l : Lin} {w u : World} {p : Addr} {x : Clo} (h : DS l w p x u) : FitS l w u := ⟨h.1, h.2.1, h.2.2.1, h.2.2.2.1⟩
theorem DS.to {l : Lin} {w u v : World} {p : Addr} {x : Clo} {B : Nat} (h : DS l w p x u) (hb : Below B u v) (hB : w.heap.size < B) (hp : p.block < w.heap.size) : DS l w p x v := by
  obtain ⟨h0, h1, h2, h3, h4, h5⟩ := h
  have c : ∀ q : Addr, q.block ≤ w.heap.size → v.cell? q = u.cell? q := fun q hq => hb.cell (by omega)
  exact ⟨(c ⟨w.heap.size, 0, none⟩ (Nat.le_refl _)).trans h0, (c ⟨w.heap.size, 1, none⟩ (Nat.le_refl _)).trans h1, h2.trans (hb.mono (by omega)), Nat.lt_of_lt_of_le h3 hb.size, (c p (by omega)).trans h4, (c ⟨p.block, p.off + 1, none⟩ (by show p.block ≤ _; omega)).trans h5⟩
theorem DS.next {l : Lin} {w u v : World} {p : Addr} {x : Clo} (h : DS l w p x u) (hp : p.block < w.heap.size) (hb : Below u.heap.size u v) : DS l w p x v := h.to hb h.2.2.2.1 hp
theorem DS.alloc {l : Lin} {w u : World} {p : Addr} {x : Clo} (h : DS l w p x u) (hp : p.block < w.heap.size) (o : Obj) : DS l w p x (u.alloc o) := h.next hp ((Below.refl _ _).alloc (Nat.le_refl _) _)
/-- .. and nothing that was there in v is changed -/
abbrev DX (l : Lin) (w v : World) (p : Addr) (x : Clo) (u : World) : Prop := u.cell? ⟨w.heap.size, 0, none⟩ = some (.int .i16 l.long) ∧ u.cell? ⟨w.heap.size, 1, none⟩ = some (.int .i16 l.most) ∧ Below w.heap.size w u ∧ w.heap.size < u.heap.size ∧ u.cell? p = some (.int .i16 x.wide) ∧ u.cell? ⟨p.block, p.off + 1, none⟩ = some (.int .i16 x.heavy) ∧ Below v.heap.size v u ∧ w.heap.size < v.heap.size
theorem DX.d {l : Lin} {w v u : World} {p : Addr} {x : Clo} (h : DX l w v p x u) : DS l w p x u := ⟨h.1, h.2.1, h.2.2.1, h.2.2.2.1, h.2.2.2.2.1, h.2.2.2.2.2.1⟩
theorem DX.b {l : Lin} {w v u : World} {p : Addr} {x : Clo} (h : DX l w v p x u) : Below v.heap.size v u := h.2.2.2.2.2.2.1
theorem DX.mk {l : Lin} {w v u : World} {p : Addr} {x : Clo} (h : DS l w p x u) (hb : Below v.heap.size v u) (hz : w.heap.size < v.heap.size) : DX l w v p x u := ⟨h.1, h.2.1, h.2.2.1, h.2.2.2.1, h.2.2.2.2.1, h.2.2.2.2.2, hb, hz⟩
theorem DX.to {l : Lin} {w v u t : World} {p : Addr} {x : Clo} (h : DX l w v p x u) (hp : p.block < w.heap.size) (hb : Below v.heap.size u t) : DX l w v p x t := DX.mk (h.d.to hb h.2.2.2.2.2.2.2 hp) (h.b.trans hb) h.2.2.2.2.2.2.2
theorem DX.next {l : Lin} {w v u t : World} {p : Addr} {x : Clo} (h : DX l w v p x u) (hp : p.block < w.heap.size) (hb : Below u.heap.size u t) : DX l w v p x t := h.to hp (hb.mono h.b.size)
theorem DX.alloc {l : Lin} {w v u : World} {p : Addr} {x : Clo} (h : DX l w v p x u) (hp : p.block < w.heap.size) (o : Obj) : DX l w v p x (u.alloc o) := h.next hp ((Below.refl _ _).alloc (Nat.le_refl _) _)
theorem DX.gx {l : Lin} {w v u : World} {p : Addr} {x : Clo} (h : DX l w v p x u) {A : Option Addr} {xs : List Clo} (hg : Sl Clo.cells 2 w w.heap.size A xs) : Sl Clo.cells 2 u u.heap.size A xs := (hg.below h.2.2.1).more (Nat.le_of_lt h.2.2.2.1)
theorem DX.gi {l : Lin} {w v u : World} {p : Addr} {x : Clo} (h : DX l w v p x u) {base : Nat} {A : Option Addr} {n c : Nat} {ys : List Int} (ho : v.ownsRow base 2 1 (.slice A n c) n (ys.flatMap intS.C)) : Sl intS.C 1 u u.heap.size A ys := Sl.of_owns (owns_next ho h.b) (intS.len _) (by decide)
theorem news_at {v w2 : World} {x y : Value} {T : TypeId} {B : Nat} (hb : Below B ((v.alloc (.cells #[x, y] T)).drew) w2) (hB : v.heap.size < B) : ∀ j u, [x, y][j]? = some u → w2.cell? ((⟨v.heap.size, 0, none⟩ : Addr).add j) = some u := fun j u hj =>
  (hb.cell (by rw [block_add]; exact hB)).trans (two_new v x y T j u hj)
theorem FitS.grow {l : Lin} {w u v : World} {row : Option Nat} (h : FitS l w u) (hg : u.grownBy v row) (hr : ∀ k, row = some k → w.heap.size + 1 ≤ k) : FitS l w v := by
  have hz := h.z
  have hb : Below (w.heap.size + 1) u v := (Below.refl _ _).grown hg (by omega) hr
  exact ⟨(hb.cell (p := ⟨w.heap.size, 0, none⟩) (Nat.lt_succ_self _)).trans h.c0, (hb.cell (p := ⟨w.heap.size, 1, none⟩) (Nat.lt_succ_self _)).trans h.c1, h.b.trans (hb.mono (Nat.le_succ _)), Nat.lt_of_lt_of_le hz hb.size⟩
theorem l00Max_any (a b : Int) (w : World) :
    Calls Tryd.prog 72 #[.int .i64 a, .int .i64 b] w fun o w' => o = .returned (.int .i64 (max a b)) ∧ w = w' := by
  by_cases h : b < a
  · go_enter Tryd.func72, Tryd.ntmps72
    go_wp2_with fail
    go_ret
    exact ⟨ret_int (by omega), rfl⟩
  · go_enter Tryd.func72, Tryd.ntmps72
    go_wp2_with fail
    go_ret
    exact ⟨ret_int (by omega), rfl⟩
theorem l02Alone_v (l : Lin) (hl : l.Fits) (A : Option Addr) (n : Nat) (xs : List Clo) (en : n = xs.length) (hn : n ≤ 1048576) (hv : ∀ x ∈ xs, Clo.valid x = true) (hf : ∀ x ∈ xs, x.Fits) (w : World) (hg : Sl Clo.cells 2 w w.heap.size A xs) (b : Bool) (hb : aloneB l xs = b) :
    Calls Tryd.prog 70 #[l.v, .slice A n n] w fun o w' => o = .returned (.bool b) ∧ Below w.heap.size w w' := by
  subst hb
  exact l02Alone_any l hl A n xs en hn hv hf w hg
set_option maxRecDepth 100000 in
set_option maxHeartbeats 16000000 in
theorem FirstLines_spec (l : Lin) (hl : l.Fits) (A : Option Addr) (n : Nat) (xs : List Clo) (en : n = xs.length) (hn : n ≤ 1048576) (hf : ∀ x ∈ xs, x.Fits) (w : World) (hg : Sl Clo.cells 2 w w.heap.size A xs) (code num : Nat) (hcode : code = codeFirst l xs) (hnum : code = 0 → Used (firstZ l xs) num) (hnum0 : code ≠ 0 → num = 0) :
    Calls Tryd.prog 38 #[l.v, .slice A n n] w (Own3 w (firstLs l xs code) num code) := by
  obtain ⟨k0, hk0⟩ : ∃ k, k = codeHung l xs := ⟨_, rfl⟩
  have HK := Lib.hid hk0
  have En := Lib.hid en
  have S0 := Lib.hid (FitS.new l w 47)
  have c0 := S0.out.c0
  have c1 := S0.out.c1
  cases k0 with
  | zero =>
    obtain ⟨_, hv, hl7⟩ := codeHung_zero hk0.symm
    have HV := Lib.hid hv
    have hn7 : n ≤ 7 := by omega
    cases hal : aloneB l xs with
    | true =>
      have hz : code = 0 := by rw [hcode, codeFirst, if_pos hk0.symm, hal]; rfl
      subst hz
      have HNU := Lib.hid (hnum rfl)
      have HAL := Lib.hid hal
      clear hk0 en hcode hnum hnum0 hal hv hl7
      rw [firstLs_fine _ _ rfl]
      obtain ⟨i0, hi, hz0, hz1, hz2⟩ := info_parts intS.info
      obtain ⟨j0, gi, gz0, gz1, gz2⟩ := info_parts cloS.info
      go_enter Tryd.func38, Tryd.ntmps38
      go_wp2_with fail
      refine (l02Hung_any l hl A n n xs En.out hn hf _ ((hg.below S0.out.b).more S0.out.b.size) 0 HK.out).mono ?_
      rintro o w1 ⟨rfl, hb1⟩
      have S1 := Lib.hid (S0.out.next hb1)
      clear c0 c1 hb1 S0
      have c0 := S1.out.c0
      have c1 := S1.out.c1
      go_wp2_with fail
      refine (l02Alone_v l hl A n xs En.out hn HV.out hf _ ((hg.below S1.out.b).more S1.out.b.size) true HAL.out).mono ?_
      rintro o w2 ⟨rfl, hb2⟩
      have S2 := Lib.hid (S1.out.next hb2)
      have S3 := Lib.hid (S2.out.next ((Below.refl _ _).alloc (Nat.le_refl _) (.cells #[] 2)))
      have HP3 := Lib.hid (owns_void w2 (b := w.heap.size + 1) (by have := S2.out.z; omega))
      clear c0 c1 hb2 S1
      go_wp2_with fail
      go_loopw [8, 9, 10, 11] (fun vo vn vi _ wr => ∃ k u : Nat, k ≤ n ∧ vi = .int .i64 k ∧ vn = .int .i64 u ∧ Used (firstZ l (xs.take k)) u ∧ wr.ownsRow (w.heap.size + 1) 2 1 vo k ((firstO l (xs.take k)).flatMap intS.C) ∧ FitS l w wr) (fun _ _ vi _ _ => n - (intOf vi).toNat)
      case atStart => exact ⟨0, 0, by omega, rfl, rfl, ⟨fun i hi => absurd hi (by omega), fun i _ => rfl⟩, HP3.out, S3.out⟩
      case round =>
        clear S3 HP3
        obtain ⟨k, u, hk, rfl, rfl, hU, hP, hS⟩ := hrel
        have HU := Lib.hid hU
        have HP := Lib.hid hP
        have SR := Lib.hid hS
        by_cases hlt : k < n
        · obtain ⟨x, hx⟩ : ∃ x, xs[k]? = some x := ⟨xs[k]'(by have := En.out; omega), List.getElem?_eq_getElem _⟩
          have hxf := hf x (List.mem_of_getElem? hx)
          obtain ⟨a, e0, hab, _⟩ := hg.at_ k x hx
          have hpb : (a.add (k * 2)).block < w.heap.size := by rw [block_add]; exact hab
          have HX := Lib.hid hx
          have HA1 := Lib.hid (alone_at HAL.out hx)
          have huk : u ≤ k := by
            have h1 := hU.le
            rw [firstZ_len, List.length_take] at h1
            omega
          obtain ⟨Ao, co, rfl, _⟩ := owns_slice hP
          subst e0
          obtain ⟨wo, rfl⟩ : ∃ wo, wo = wr := ⟨wr, rfl⟩
          have hoz := hS.z
          clear hx hU hP hS
          go_wp2_with fail
          go_loopw [11] (fun vj wz => ∃ j : Nat, j ≤ u ∧ vj = .int .i64 j ∧ (∀ i : Nat, i < j → fitsB l (onZ (firstZ l (xs.take k)) i ++ [x]) = false) ∧ Below wo.heap.size wo wz) (fun vj _ => u + 1 - (intOf vj).toNat)
          case atStart => exact ⟨0, by omega, rfl, fun i hi => absurd hi (by omega), Below.refl _ _⟩
          case round =>
            obtain ⟨j, hj, rfl, hno, hbo⟩ := hrel
            have HNO := Lib.hid hno
            have HBO := Lib.hid hbo
            have SI := Lib.hid (SR.out.next hbo)
            have HPI := Lib.hid (owns_next HP.out hbo)
            obtain ⟨a2, ea2, _, hat⟩ := (hg.below SI.out.b).at_ k x HX.out
            obtain rfl := Option.some.inj ea2
            obtain ⟨q0, q1⟩ := cloS.at_ hat
            have D0 : Hid (DX l w wr (a.add (k * 2)) x wr) := Lib.hid ⟨SI.out.c0, SI.out.c1, SI.out.b, SI.out.z, q0, q1, Below.refl _ _, SI.out.z⟩
            have hlk : k = (firstO l (xs.take k)).length := by rw [firstO_len, List.length_take]; have := En.out; omega
            have HLK := Lib.hid hlk
            obtain ⟨z, hz⟩ : ∃ z, z = (onZ (firstZ l (xs.take k)) (j : Int)).length := ⟨_, rfl⟩
            have hz7 : z ≤ 7 := by
              have h1 := onZ_len (firstZ l (xs.take k)) (j : Int)
              rw [firstZ_len, List.length_take] at h1
              omega
            have HZ := Lib.hid hz
            have hmem : ∀ y ∈ onZ (firstZ l (xs.take k)) (j : Int) ++ [x], y ∈ xs := fun y hy => by
              rcases List.mem_append.1 hy with h1 | h1
              · obtain ⟨o, ho⟩ := onZ_mem h1
                exact List.mem_of_mem_take (firstZ_mem ho)
              · rw [List.mem_singleton.1 h1]
                exact List.mem_of_getElem? HX.out
            have HMV := Lib.hid (fun y hy => HV.out y (hmem y hy))
            have HMF := Lib.hid (fun y hy => hf y (hmem y hy))
            have wa : (0 : Int) ≤ (k : Int) := by omega
            have wb : (k : Int) < (n : Int) := by omega
            clear hno hbo hat ea2 hlk hz hmem
            by_cases hju : j < u
            · obtain ⟨b, hb⟩ : ∃ b, fitsB l (onZ (firstZ l (xs.take k)) (j : Int) ++ [x]) = b := ⟨_, rfl⟩
              have HFB := Lib.hid hb
              clear hb q0 q1
              cases b with
              | false =>
                go_wp2_with fail
                go_region_held3 (fun u => DX l w wr (a.add (k * 2)) x u)
                  (first | assumption | exact D0.out | exact D0.out.next hpb (below_drewN _ _ 1) | exact DX.alloc (by assumption) hpb _ | exact DX.to (by assumption) hpb hb3 | exact DX.next (by assumption) hpb hb2)
                  (first
                    | (go_at_call 71; refine (l02On_any (some a) n n xs En.out hn Ao k co (firstO l (xs.take k)) HLK.out (by omega) (j : Int) _ (DX.gx (by assumption) hg) (DX.gi (by assumption) HPI.out)).mono ?_; rintro e w2 ⟨v, rfl, hPv, hb2⟩; rw [firstO_zip, ← HZ.out] at hPv; have HPV := Lib.hid hPv; have HB2 := Lib.hid hb2; clear hPv)
                    | (refine step_append_wanted (by rfl) (.tmp 42) (.tmp 47) 34 (by rfl) _ 27 j0 (.agg #[.int .i16 0, .int .i16 0]) 2 4 Tryd.underlying34 gi gz0 gz1 gz2 rfl (by decide) _ _ _ (by rfl) (HPV.out.alloc _) ⟨w2.heap.size, 0, none⟩ 1 1 [.int .i16 x.wide, .int .i16 x.heavy] (by rfl) (by rfl) (two_new w2 _ _ _) (two_cell rfl rfl) (by omega) (by unfold maxLen; omega) (by omega) (Nat.le_trans HB2.out.size (by simp)) (w2.heap.size + 1) (by simp) ?_; intro gg cap w3 hown3 hgr _ _; have hb3 := Below.grown (Below.refl wr.heap.size _) hgr (Nat.le_trans (show wr.heap.size ≤ _ from HB2.out.size) (by simp)) (fun g hg => (HPV.out.lt g hg).1); have HO3 := Lib.hid hown3; clear hown3 hgr)
                    | (refine step_append_wanted (by rfl) (.tmp 42) (.tmp 47) 34 (by rfl) _ 27 j0 (.agg #[.int .i16 0, .int .i16 0]) 2 4 Tryd.underlying34 gi gz0 gz1 gz2 rfl (by decide) _ _ _ (by rfl) HPV.out ⟨wr.heap.size, 0, none⟩ 1 1 [.int .i16 x.wide, .int .i16 x.heavy] (by rfl) (by rfl) (news_at HB2.out (by simp)) (two_cell rfl rfl) (by omega) (by unfold maxLen; omega) (by omega) HB2.out.size w2.heap.size rfl ?_; intro gg cap w3 hown3 hgr _ _; have hb3 := Below.grown (Below.refl wr.heap.size _) hgr (Nat.le_trans (by simp) HB2.out.size) (fun g hg => Nat.le_trans (by simp) (HPV.out.lt g hg).1); have HO3 := Lib.hid hown3; clear hown3 hgr)
                    | (go_at_call 62; refine (l02Fits_v l hl (some ⟨gg, 0, none⟩) (z + 1) cap (onZ (firstZ l (xs.take k)) (j : Int) ++ [x]) (by rw [HZ.out]; simp) (by omega) HMV.out HMF.out _ (Sl.of_owns (by rw [List.flatMap_append]; exact HO3.out) (Clo.len _) (by decide)) false HFB.out).mono ?_; rintro e w4 ⟨rfl, hb4⟩; have hb2 := hb4)
                    | fail)
                all_goals
                  rename_i hS2
                  have HBZ := Lib.hid (HBO.out.trans ((DX.b hS2).mono HBO.out.size))
                  clear hS2
                  go_wp2_with fail
                  go_roundw
                  case rel =>
                    have hno2 : ∀ i : Nat, i < j + 1 → fitsB l (onZ (firstZ l (xs.take k)) i ++ [x]) = false := fun i hi => by
                      rcases Nat.lt_or_ge i j with h1 | h1
                      · exact HNO.out i h1
                      · obtain rfl : i = j := by omega
                        exact HFB.out
                    exact ⟨j + 1, by omega, by go_num, hno2, HBZ.out⟩
                  case measure => simp [intOf]; omega
              | true =>
                go_wp2_with fail
                go_region_held3 (fun u => DX l w wr (a.add (k * 2)) x u)
                  (first | assumption | exact D0.out | exact D0.out.next hpb (below_drewN _ _ 1) | exact DX.alloc (by assumption) hpb _ | exact DX.to (by assumption) hpb hb3 | exact DX.next (by assumption) hpb hb2)
                  (first
                    | (go_at_call 71; refine (l02On_any (some a) n n xs En.out hn Ao k co (firstO l (xs.take k)) HLK.out (by omega) (j : Int) _ (DX.gx (by assumption) hg) (DX.gi (by assumption) HPI.out)).mono ?_; rintro e w2 ⟨v, rfl, hPv, hb2⟩; rw [firstO_zip, ← HZ.out] at hPv; have HPV := Lib.hid hPv; have HB2 := Lib.hid hb2; clear hPv)
                    | (refine step_append_wanted (by rfl) (.tmp 42) (.tmp 47) 34 (by rfl) _ 27 j0 (.agg #[.int .i16 0, .int .i16 0]) 2 4 Tryd.underlying34 gi gz0 gz1 gz2 rfl (by decide) _ _ _ (by rfl) (HPV.out.alloc _) ⟨w2.heap.size, 0, none⟩ 1 1 [.int .i16 x.wide, .int .i16 x.heavy] (by rfl) (by rfl) (two_new w2 _ _ _) (two_cell rfl rfl) (by omega) (by unfold maxLen; omega) (by omega) (Nat.le_trans HB2.out.size (by simp)) (w2.heap.size + 1) (by simp) ?_; intro gg cap w3 hown3 hgr _ _; have hb3 := Below.grown (Below.refl wr.heap.size _) hgr (Nat.le_trans (show wr.heap.size ≤ _ from HB2.out.size) (by simp)) (fun g hg => (HPV.out.lt g hg).1); have HO3 := Lib.hid hown3; clear hown3 hgr)
                    | (refine step_append_wanted (by rfl) (.tmp 42) (.tmp 47) 34 (by rfl) _ 27 j0 (.agg #[.int .i16 0, .int .i16 0]) 2 4 Tryd.underlying34 gi gz0 gz1 gz2 rfl (by decide) _ _ _ (by rfl) HPV.out ⟨wr.heap.size, 0, none⟩ 1 1 [.int .i16 x.wide, .int .i16 x.heavy] (by rfl) (by rfl) (news_at HB2.out (by simp)) (two_cell rfl rfl) (by omega) (by unfold maxLen; omega) (by omega) HB2.out.size w2.heap.size rfl ?_; intro gg cap w3 hown3 hgr _ _; have hb3 := Below.grown (Below.refl wr.heap.size _) hgr (Nat.le_trans (by simp) HB2.out.size) (fun g hg => Nat.le_trans (by simp) (HPV.out.lt g hg).1); have HO3 := Lib.hid hown3; clear hown3 hgr)
                    | (go_at_call 62; refine (l02Fits_v l hl (some ⟨gg, 0, none⟩) (z + 1) cap (onZ (firstZ l (xs.take k)) (j : Int) ++ [x]) (by rw [HZ.out]; simp) (by omega) HMV.out HMF.out _ (Sl.of_owns (by rw [List.flatMap_append]; exact HO3.out) (Clo.len _) (by decide)) true HFB.out).mono ?_; rintro e w4 ⟨rfl, hb4⟩; have hb2 := hb4)
                    | fail)
                all_goals
                  rename_i hS2
                  have HBZ := Lib.hid (HBO.out.trans ((DX.b hS2).mono HBO.out.size))
                  have hjl : leastJ l (fun n => onZ (firstZ l (xs.take k)) n) x 8 0 = j := first_found HU.out (by omega) HA1.out HNO.out hj (fun _ => HFB.out)
                  clear hS2
                  have HPo := Lib.hid (owns_next HP.out HBZ.out)
                  have SZ := Lib.hid (SR.out.next HBZ.out)
                  have hzs := SZ.out.z
                  have hz1 : firstZ l (xs.take (k + 1)) = firstZ l (xs.take k) ++ [((j : Int), x)] := by rw [firstZ_take HX.out, firstStep, hjl]
                  have HZ1 := Lib.hid hz1
                  clear hz1 hjl
                  go_wp2_with (first | (at_builtin; refine wpList_append_own _ rfl (.tmp 54) (.tmp 56) 38 rfl (w.heap.size + 1) 2 i0 (.int .i64 0) 1 8 Tryd.underlying38 hi hz0 hz1 hz2 rfl (by decide) _ _ _ rfl (HPo.out.alloc _) ⟨_, 0, none⟩ 1 1 [.int .i64 (j : Int)] rfl rfl (one_new _ _ _) (one_cell (by rfl)) (by unfold maxLen; omega) (by omega) (by simp; omega) ?_; intro v3 w5 hP5 hgr _; have S5 := Lib.hid ((SZ.out.next ((Below.refl _ _).alloc (Nat.le_refl _) _)).grow hgr (fun g hg => (HPo.out.lt g hg).1)); have HP5 := Lib.hid hP5; clear hP5 hgr) | (go_at_call 72; refine (l00Max_any _ _ _).mono ?_; rintro o w6 ⟨rfl, rfl⟩) | fail)
                  go_roundw
                  case rel =>
                    have hm : max (u : Int) ((j : Int) + 1) = ((max u (j + 1) : Nat) : Int) := by omega
                    have hp5 := HP5.out
                    have e : (firstO l (xs.take (k + 1))).flatMap intS.C = (firstO l (xs.take k)).flatMap intS.C ++ [.int .i64 (j : Int)] := by simp [firstO, HZ1.out]
                    rw [← e] at hp5
                    exact ⟨k + 1, max u (j + 1), by omega, by go_num, by rw [hm], by rw [HZ1.out]; exact HU.out.step (l := l) hj, hp5, S5.out⟩
                  case measure => simp [intOf]; omega
            · obtain rfl : j = u := by omega
              go_wp2_with fail
              go_quiet (fail)
              have HBZ := Lib.hid (HBO.out.trans (below_drewN wo.heap.size wr nq))
              have hjl : leastJ l (fun n => onZ (firstZ l (xs.take k)) n) x 8 0 = j := first_found HU.out (by omega) HA1.out HNO.out hj (fun h => absurd h (by omega))
              have HPo := Lib.hid (owns_next HP.out HBZ.out)
              have SZ := Lib.hid (SR.out.next HBZ.out)
              have hzs := SI.out.z
              have hz1 : firstZ l (xs.take (k + 1)) = firstZ l (xs.take k) ++ [((j : Int), x)] := by rw [firstZ_take HX.out, firstStep, hjl]
              have HZ1 := Lib.hid hz1
              clear hz1 hjl
              go_wp2_with (first | (at_builtin; refine wpList_append_own _ rfl (.tmp 54) (.tmp 56) 38 rfl (w.heap.size + 1) 2 i0 (.int .i64 0) 1 8 Tryd.underlying38 hi hz0 hz1 hz2 rfl (by decide) _ _ _ rfl (HPo.out.alloc _) ⟨_, 0, none⟩ 1 1 [.int .i64 (j : Int)] rfl rfl (one_new _ _ _) (one_cell (by rfl)) (by unfold maxLen; omega) (by omega) (by simp; omega) ?_; intro v3 w5 hP5 hgr _; have S5 := Lib.hid ((SZ.out.next ((Below.refl _ _).alloc (Nat.le_refl _) _)).grow hgr (fun g hg => (HPo.out.lt g hg).1)); have HP5 := Lib.hid hP5; clear hP5 hgr) | (go_at_call 72; refine (l00Max_any _ _ _).mono ?_; rintro o w6 ⟨rfl, rfl⟩) | fail)
              go_roundw
              case rel =>
                have hm : max (j : Int) ((j : Int) + 1) = ((max j (j + 1) : Nat) : Int) := by omega
                have hp5 := HP5.out
                have e : (firstO l (xs.take (k + 1))).flatMap intS.C = (firstO l (xs.take k)).flatMap intS.C ++ [.int .i64 (j : Int)] := by simp [firstO, HZ1.out]
                rw [← e] at hp5
                exact ⟨k + 1, max j (j + 1), by omega, by go_num, by rw [hm], by rw [HZ1.out]; exact HU.out.step (l := l) hj, hp5, S5.out⟩
              case measure => simp [intOf]; omega
        · obtain rfl : k = n := by omega
          have etk : xs.take k = xs := List.take_of_length_le (by have := En.out; omega)
          rw [etk] at hU hP
          obtain rfl : u = num := used_unique hU HNU.out
          have e2 : (firstO l xs).length = k := by rw [firstO_len]; exact En.out.symm
          obtain ⟨Ao, co, rfl, _⟩ := owns_slice hP
          have HRES : Hid (Own3 w (firstO l xs) u 0 (.returned (.tuple #[.slice Ao k co, .int .i64 u, .int .i64 0])) wr) := Lib.hid ⟨_, rfl, by rw [e2]; exact owns_below hP (Nat.le_succ _), hS.b⟩
          clear hU hP hS etk e2
          go_wp2_with fail
          go_ret3
          exact HRES.out
    | false =>
      have hz : code = 6 := by rw [hcode, codeFirst, if_pos hk0.symm, hal]; rfl
      subst hz
      have hn0 : num = 0 := hnum0 (by decide)
      subst hn0
      have HAL := Lib.hid hal
      clear hk0 en hcode hnum hnum0 hal hv hl7
      rw [firstLs_fails _ _ (by decide)]
      go_enter Tryd.func38, Tryd.ntmps38
      go_wp2_with fail
      refine (l02Hung_any l hl A n n xs En.out hn hf _ ((hg.below S0.out.b).more S0.out.b.size) 0 HK.out).mono ?_
      rintro o w1 ⟨rfl, hb1⟩
      have S1 := Lib.hid (S0.out.next hb1)
      clear c0 c1 hb1 S0
      have c0 := S1.out.c0
      have c1 := S1.out.c1
      go_wp2_with fail
      refine (l02Alone_v l hl A n xs En.out hn HV.out hf _ ((hg.below S1.out.b).more S1.out.b.size) false HAL.out).mono ?_
      rintro o w2 ⟨rfl, hb2⟩
      have S2 := Lib.hid (S1.out.next hb2)
      clear c0 c1 hb2 S1
      go_wp2_with fail
      go_ret3
      exact ⟨_, rfl, owns_void _ S2.out.b.size, S2.out.b.alloc S2.out.b.size _⟩
  | succ i =>
    have hz : code = i + 1 := by rw [hcode, codeFirst, if_neg (by omega)]; exact hk0.symm
    subst hz
    have hn0 : num = 0 := hnum0 (by omega)
    subst hn0
    clear hk0 en hcode hnum hnum0
    rw [firstLs_fails _ _ (by omega)]
    have hne : (((i + 1 : Nat) : Int) != 0) = true := by rw [bne_iff_ne]; omega
    have hne2 : (((i : Int) + 1) != 0) = true := by rw [bne_iff_ne]; omega
    have hne3 : (((i : Int) + 1) == 0) = false := by rw [beq_eq_false_iff_ne]; omega
    have hne4 : (((i + 1 : Nat) : Int) == 0) = false := by rw [beq_eq_false_iff_ne]; omega
    go_enter Tryd.func38, Tryd.ntmps38
    go_wp2_with fail
    refine (l02Hung_any l hl A n n xs En.out hn hf _ ((hg.below S0.out.b).more S0.out.b.size) (i + 1) HK.out).mono ?_
    rintro o w1 ⟨rfl, hb1⟩
    have S1 := Lib.hid (S0.out.next hb1)
    clear c0 c1 hb1 S0
    go_wp2_with fail
    go_ret3
    exact ⟨_, by simp, owns_void _ S1.out.b.size, S1.out.b.alloc S1.out.b.size _⟩
end Go.Proofs.YtbpipcfijbgnhaaDoor.hang
