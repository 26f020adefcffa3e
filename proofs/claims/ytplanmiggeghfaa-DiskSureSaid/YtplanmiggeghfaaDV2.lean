/-
  Disk: an act done on both.
-/
import Derived.Test.YtplanmiggeghfaaDV1
import Derived.Shelf.Abstract
namespace Go.Proofs.Ytplanmiggeghfaa
open Go.RowKit Go Go.Sort Go.Maps Go.WideMaps
set_option linter.unusedVariables false
set_option maxRecDepth 20000

def DuI (w1 : World) (F G : Nat → Prop) (q r : Nat) (s s' : Ds) (a b n : Nat) (vals : List (Option Value)) (L : Nat → Bool) (xs : Nat → Value) (W : World) : Prop :=
  Du w1 F G q r (if L a = true then s' else s) (if L b = true then s' else s) W ∧ ∀ i, i < n → L i = true → RaV vals i (xs i)
theorem DuI.pure {w1 W : World} {F G : Nat → Prop} {q r a b n : Nat} {s s' : Ds} {vals : List (Option Value)} {L : Nat → Bool} {xs : Nat → Value} (h : DuI w1 F G q r s s' a b n vals L xs W) (i : Nat) (ha : i ≠ a) (hb : i ≠ b) {v : Value} (hv : RaV vals i v) : DuI w1 F G q r s s' a b n vals (fun j => if j = i then true else L j) (fun j => if j = i then v else xs j) W := by
  refine ⟨by simpa only [if_neg (Ne.symm ha), if_neg (Ne.symm hb)] using h.1, fun j hj hL => ?_⟩
  by_cases e : j = i
  · subst e; simpa using hv
  · simp only [if_neg e] at hL ⊢; exact h.2 j hj hL
theorem DuI.pa {w1 W W' : World} {F G : Nat → Prop} {q r a b n : Nat} {s s' : Ds} {vals : List (Option Value)} {L : Nat → Bool} {xs : Nat → Value} (h : DuI w1 F G q r s s' a b n vals L xs W) (hab : a ≠ b) {v : Value} (hv : RaV vals a v) (hd : Du w1 F G q r s' (if L b = true then s' else s) W') : DuI w1 F G q r s s' a b n vals (fun j => if j = a then true else L j) (fun j => if j = a then v else xs j) W' := by
  refine ⟨by simpa only [if_true, if_neg (Ne.symm hab)] using hd, fun j hj hL => ?_⟩
  by_cases e : j = a
  · subst e; simpa using hv
  · simp only [if_neg e] at hL ⊢; exact h.2 j hj hL
theorem DuI.pb {w1 W W' : World} {F G : Nat → Prop} {q r a b n : Nat} {s s' : Ds} {vals : List (Option Value)} {L : Nat → Bool} {xs : Nat → Value} (h : DuI w1 F G q r s s' a b n vals L xs W) (hab : a ≠ b) {v : Value} (hv : RaV vals b v) (hd : Du w1 F G q r (if L a = true then s' else s) s' W') : DuI w1 F G q r s s' a b n vals (fun j => if j = b then true else L j) (fun j => if j = b then v else xs j) W' := by
  refine ⟨by simpa only [if_true, if_neg hab] using hd, fun j hj hL => ?_⟩
  by_cases e : j = b
  · subst e; simpa using hv
  · simp only [if_neg e] at hL ⊢; exact h.2 j hj hL
/-- What is left of own bytes from place j on. -/
def OwT (oa : Option Addr) (l : List UInt8) (W : World) (j : Nat) : Prop := l.length = 0 ∨ ∃ go cur, oa = some ⟨go, 0, none⟩ ∧ W.heap[go]? = some (.cells cur 5 (0, 0)) ∧ ∀ i, j ≤ i → i < l.length → cur[i]? = some (.int .u8 (by8 l i))
theorem OwnB.owt {W : World} {B n c : Nat} {oa : Option Addr} {l : List UInt8} (h : OwnB W B 5 (.slice oa n c) l) : OwT oa l W 0 ∧ n = l.length ∧ ∀ k, oa = some ⟨k, 0, none⟩ → B ≤ k ∧ k < W.heap.size := by
  rcases h.2 with ⟨e, hz⟩ | ⟨g, cap, cur, e, hB, hg, hnc, hcm, hcs, htake⟩
  · injection e with e1 e2 e3
    exact ⟨.inl hz, by omega, fun k hk => by rw [e1] at hk; cases hk⟩
  · injection e with e1 e2 e3
    refine ⟨.inr ⟨g, cur, e1, hg, fun i _ hi => ?_⟩, e2, fun k hk => ?_⟩
    · have h3 : (cur.toList.take (l.length * 1))[i]? = (u8v l)[i]? := by rw [htake]
      rw [List.getElem?_take, if_pos (by omega), u8v_get l i hi] at h3
      simpa using h3
    · rw [e1] at hk
      injection hk with hk
      injection hk with hk
      subst hk
      exact ⟨hB, (Array.getElem?_eq_some_iff.1 hg).1⟩
theorem OwnB.spot0 {W : World} {B n c : Nat} {oa : Option Addr} {l : List UInt8} (h : OwnB W B 5 (.slice oa n c) l) {b off : Nat} (e : oa = some ⟨b, off, none⟩) : oa = some ⟨b, 0, none⟩ := by
  rcases h.2 with ⟨e9, -⟩ | ⟨g, cap, cur, e9, -⟩
  · injection e9 with e1
    rw [e1] at e
    cases e
  · injection e9 with e1
    rw [e1] at e
    injection e with e
    injection e with e4 e5
    subst e4
    exact e1
theorem Bys.blk_lt {w : World} {x : Option Addr} {n c : Nat} {l : List UInt8} (h : Bys w x n c l) (h0 : 0 < n) {b off : Nat} (e : x = some ⟨b, off, none⟩) : b < w.heap.size := by
  rcases h.adr with h9 | ⟨b9, off9, e9, h9⟩
  · have := h.le; omega
  · rw [e] at e9
    injection e9 with e9
    injection e9 with e9 e10
    subst e9
    have := World.block_lt_of_cell? w _ (h9 0 h0)
    simpa using this
theorem OwT.keep {oa : Option Addr} {l : List UInt8} {W W' : World} {j : Nat} (h : OwT oa l W j) (hk : ∀ k, oa = some ⟨k, 0, none⟩ → W'.heap[k]? = W.heap[k]?) : OwT oa l W' j := by
  rcases h with h | ⟨go, cur, e, hg, hc⟩
  · exact .inl h
  · exact .inr ⟨go, cur, e, (hk go e).trans hg, hc⟩
theorem OwT.step {go j : Nat} {l : List UInt8} {W : World} (h : OwT (some ⟨go, 0, none⟩) l W j) (v : Value) : OwT (some ⟨go, 0, none⟩) l (W.setCell ⟨go, j, none⟩ v) (j + 1) := by
  rcases h with h | ⟨g, cur, e, hg, hc⟩
  · exact .inl h
  · injection e with e
    injection e with e
    subst e
    refine .inr ⟨go, cur.setIfInBounds j v, rfl, ?_, fun i h1 h2 => ?_⟩
    · rw [heap_setCell_same W go j _ 5 v hg]
    · rw [Array.getElem?_setIfInBounds_ne (by omega)]
      exact hc i (by omega) h2
theorem OwT.cell {oa : Option Addr} {l : List UInt8} {W : World} {j : Nat} (h : OwT oa l W j) (hj : j < l.length) : ∃ go, oa = some ⟨go, 0, none⟩ ∧ W.cell? ⟨go, j, none⟩ = some (.int .u8 (by8 l j)) ∧ W.frozen? ⟨go, j, none⟩ = false := by
  rcases h with h | ⟨go, cur, e, hg, hc⟩
  · omega
  · exact ⟨go, e, by rw [cell_of_row W go j cur 5 (0, 0) hg]; exact hc j (Nat.le_refl _) hj, frozen_of_row W go j cur 5 hg⟩

theorem below_drewN9 {w0 w : World} {B : Nat} (h : Below B w0 w) (n : Nat) : Below B w0 (w.drewN n) := drewN_below h n
set_option maxRecDepth 100000 in
set_option maxHeartbeats 12800000 in
theorem ddo_c {w : World} {q r : Nat} {st : Ds} {F G : Nat → Prop} (hd : Dk w q st F) (hr : Rk w r st G) (hdj : ∀ k, F k → ¬ G k) (ac : Dc) {x : Option Addr} {cx : Nat} (hb : Bys w x ac.l.length cx ac.l) (hbn : 0 < ac.l.length → ∀ b off, x = some ⟨b, off, none⟩ → ¬ F b ∧ ¬ G b)
    (hnm : ac.nm.length ≤ 9223372036854775807) (hnn : ac.n ≤ 9223372036854775807) (hl : ac.l.length ≤ 20000) : Calls Try.prog 17 #[.pointer (some ⟨q, 0, none⟩), .pointer (some ⟨r, 0, none⟩), .agg #[.int .i64 ac.kd, .string (text ac.nm), .slice x ac.l.length cx, .int .i64 ac.n, .int .i64 ac.kp]] w
    (fun e w' => e = .returned (.bool true) ∧ Du w F G q r (st.act ac).2 (st.act ac).2 w') := by
  obtain ⟨i0, hi0, hz0, hz1, hz2⟩ := info_parts infoD5
  obtain ⟨kd, nm, v9, l, n, kp⟩ := ac
  simp only at hb hbn hnm hnn hl ⊢
  obtain ⟨xl, hxl⟩ : ∃ z, l.length = z := ⟨_, rfl⟩
  obtain ⟨tx, htx⟩ : ∃ z, text nm = z := ⟨_, rfl⟩
  have HTX := Lib.hid htx
  have HXL := Lib.hid hxl
  rw [hxl] at hb hbn hl ⊢
  rw [htx]
  have HD := Lib.hid hd
  have HR := Lib.hid hr
  have HDJ := Lib.hid hdj
  have HB := Lib.hid hb
  have HBN := Lib.hid hbn
  have HNM := Lib.hid hnm
  have HNN := Lib.hid hnn
  have HL := Lib.hid hl
  have hba := alloc_below w (.cells #[.int .i64 kd, .string tx, .slice x xl cx, .int .i64 n, .int .i64 kp] 32)
  have hxa := heap_alloc_new w (.cells #[.int .i64 kd, .string tx, .slice x xl cx, .int .i64 n, .int .i64 kp] 32)
  clear hd hr hdj hb hbn hnm hnn htx hxl
  go_enter Try.func17, Try.ntmps17
  go_upto_region 1 with (fail)
  obtain ⟨gx, hgx⟩ : ∃ z, w.heap.size = z := ⟨_, rfl⟩
  rw [hgx] at hxa ⊢
  have HGX := Lib.hid hgx
  have HBA := Lib.hid hba
  have HXA := Lib.hid hxa
  clear hba hgx
  generalize w.alloc (.cells #[.int .i64 kd, .string tx, .slice x xl cx, .int .i64 n, .int .i64 kp] 32) = W1 at *
  have c2 : (W1.alloc (.cells #[] 5)).cell? ⟨gx, 2, none⟩ = some (.slice x xl cx) := by rw [cell_of_row _ gx 2 _ _ (0, 0) (((alloc_below W1 (.cells #[] 5)).block _ (Array.getElem?_eq_some_iff.1 hxa).1).trans hxa)]; rfl
  clear hxa
  go_upto_region 2 with (first
    | (refine wpList_append_e0 rfl _ _ 30 rfl (base := w.heap.size) (e := 5) (l := l) (i := i0) Try.underlying30 hi0 hz0 hz1 hz2 rfl (OwnB.empty W1 w.heap.size 5 HBA.out.size) rfl (HB.out.below (HBA.out.trans ((alloc_below W1 (.cells #[] 5)).mono HBA.out.size))) (by have := HL.out; omega) (Nat.le_trans HBA.out.size (alloc_below W1 (.cells #[] 5)).size) ?_; intro ov w2 ho2 hb2; have HO2 := Lib.hid ho2; have HB12 := Lib.hid ((alloc_below W1 (.cells #[] 5)).trans (hb2.mono (alloc_below W1 (.cells #[] 5)).size)); clear ho2 hb2))
  clear c2
  obtain ⟨oa, oc, hov, -⟩ := HO2.out.bys
  rw [HXL.out] at hov
  subst hov
  have HB2 := Lib.hid (HBA.out.trans (HB12.out.mono HBA.out.size))
  have HX2 := Lib.hid ((HB12.out.block _ (Array.getElem?_eq_some_iff.1 HXA.out).1).trans HXA.out)
  have HDU := Lib.hid (Du.start (HD.out.below HB2.out) (HR.out.below HB2.out) HDJ.out)
  have HGN := Lib.hid (show ¬ F gx ∧ ¬ G gx ∧ gx < w2.heap.size from ⟨fun h => by have := HD.out.lt h; have := HGX.out; omega, fun h => by have := HR.out.lt h; have := HGX.out; omega, (Array.getElem?_eq_some_iff.1 HX2.out).1⟩)
  have HOT := Lib.hid HO2.out.owt
  have HON := Lib.hid (show ∀ k, oa = some ⟨k, 0, none⟩ → k < w2.heap.size ∧ ¬ F k ∧ ¬ G k ∧ w.heap.size ≤ k from fun k hk => by
    obtain ⟨a1, a2⟩ := HOT.out.2.2 k hk
    exact ⟨a2, fun h => by have := HD.out.lt h; omega, fun h => by have := HR.out.lt h; omega, a1⟩)
  have HAC := Lib.hid (fun (s1 s2 : Ds) (W : World) (h : Du w2 F G q r s1 s2 W) => show W.cell? ⟨gx, 0, none⟩ = some (.int .i64 kd) ∧ W.cell? ⟨gx, 1, none⟩ = some (.string tx) ∧ W.cell? ⟨gx, 2, none⟩ = some (.slice x xl cx) ∧ W.cell? ⟨gx, 3, none⟩ = some (.int .i64 n) ∧ W.cell? ⟨gx, 4, none⟩ = some (.int .i64 kp) from by
    have hx := h.heap HX2.out HGN.out.1 HGN.out.2.1
    refine ⟨?_, ?_, ?_, ?_, ?_⟩ <;> (rw [cell_of_row W gx _ _ _ (0, 0) hx]; rfl))
  obtain ⟨a0, a1, a2, a3, a4⟩ := HAC.out _ _ _ HDU.out
  clear a1 a2 a3 a4
  by_cases hk0 : kd = 0
  · subst hk0
    have hst : st.act ⟨0, nm, v9, l, n, kp⟩ = st.make nm := by unfold Ds.act; simp
    obtain ⟨E, hE⟩ : ∃ z, (st.make nm).1 = z := ⟨_, rfl⟩
    obtain ⟨s', hs'⟩ : ∃ z, (st.make nm).2 = z := ⟨_, rfl⟩
    have HP := Lib.hid (fun (s2 : Ds) (W : World) (h : Du w2 F G q r st s2 W) => du_make h nm HNM.out)
    have HQ := Lib.hid (fun (s1 : Ds) (W : World) (h : Du w2 F G q r s1 st W) => du_rmake h nm HNM.out)
    have HST := Lib.hid hst
    rw [hE, hs', HTX.out] at HP HQ
    have HS9 := Lib.hid hs'
    clear hst hE hs'
    go_upto_region 5 with (fail)
    refine wp_region_inv [none, none, none, none, none, none, none, none, some 8, some 9, none, none, none, none, none, none, none, none, none, some 0, some 1, some 2, some 3, some 4, some 5, some 6, some 7, none, none, none, none, none, none, none, none, none, none, none, none, none, none, none, none, none, none, none, none, none, none, none, none, none, none, none, none, none, none, none, none, none, none, none, none, none, none, none, none, none, none, none, none, none, none, none, none, none, none, none, none, none, none, none, none, none, none, none, none, none, none, none, none, none, none, none, none, none, none, none, none, none, none, none, none, none, none, none, none, none, none, none, none, none, none, none, none, none, none, none, none, none, none, none, none, none, none, none, none, none, none] (fun i => [undef, undef, undef, undef, undef, undef, undef, undef, .int .i64 0, .int .i64 0].getD i undef) (DuI w2 F G q r st s' 3 7 10 [some (.pointer (some ⟨q, 0, none⟩)), some (.pointer (some ⟨gx, 1, none⟩)), some (.string tx), some (.int .i64 E), some (.pointer (some ⟨r, 0, none⟩)), some (.pointer (some ⟨gx, 1, none⟩)), some (.string tx), some (.int .i64 E), some (.int .i64 E), some (.int .i64 E)]) (by kernel_rfl) (by kernel_rfl) rfl rfl (fun L hL => ⟨by rw [if_neg (by rw [hL 3 (by decide)]; simp), if_neg (by rw [hL 7 (by decide)]; simp)]; exact HDU.out.below ⟨rfl, rfl, rfl, Nat.le_refl _, fun _ _ => rfl⟩, fun i hi h => by rw [hL i hi] at h; cases h⟩) ?_ ?_
    · simp only [invOps, and_true]
      refine ⟨?_, ?_, ?_, ?_, ?_, ?_, ?_, ?_, ?_, ?_⟩
      · intro L xs W hI hL hn
        simp only [flowAct, List.zipWith_cons_cons, List.zipWith_nil_left]
        go_wp2_with (fail)
        exact ⟨rfl, _, rfl, hI.pure 0 (by decide) (by decide) (fun x hx => by injection hx with hx)⟩
      · intro L xs W hI hL hn
        simp only [flowAct, List.zipWith_cons_cons, List.zipWith_nil_left]
        go_wp2_with (fail)
        exact ⟨rfl, _, rfl, hI.pure 1 (by decide) (by decide) (fun x hx => by injection hx with hx)⟩
      · intro L xs W hI hL hn
        simp [invNeeds, Region.binds] at hn
        have e1 : xs 1 = .pointer (some ⟨gx, 1, none⟩) := hI.2 1 (by decide) (by simp only [hn]) _ rfl
        obtain ⟨a0, a1, a2, a3, a4⟩ := HAC.out _ _ _ hI.1
        simp only [flowAct, List.zipWith_cons_cons, List.zipWith_nil_left]
        simp only [e1]
        go_wp2_with (fail)
        exact ⟨rfl, _, rfl, hI.pure 2 (by decide) (by decide) (fun x hx => by injection hx with hx)⟩
      · intro L xs W hI hL hn
        simp [invNeeds, Region.binds] at hn
        have e0 : xs 0 = .pointer (some ⟨q, 0, none⟩) := hI.2 0 (by decide) (by simp only [hn]) _ rfl
        have e2 : xs 2 = .string tx := hI.2 2 (by decide) (by simp only [hn]) _ rfl
        have hdu : Du w2 F G q r st (if L 7 = true then s' else st) W := by have := hI.1; rwa [if_neg (by rw [hL]; simp)] at this
        have HDW := Lib.hid hdu
        clear hdu
        simp only [flowAct, List.zipWith_cons_cons, List.zipWith_nil_left]
        simp only [e0, e2]
        go_wp2_with (go_at_call 27; (with_reducible refine (HP.out _ _ HDW.out).mono ?_); rintro e9 w9 ⟨rfl, hd9⟩)
        exact ⟨rfl, _, rfl, hI.pa (by decide) (fun x hx => by injection hx with hx) hd9⟩
      · intro L xs W hI hL hn
        simp only [flowAct, List.zipWith_cons_cons, List.zipWith_nil_left]
        go_wp2_with (fail)
        exact ⟨rfl, _, rfl, hI.pure 4 (by decide) (by decide) (fun x hx => by injection hx with hx)⟩
      · intro L xs W hI hL hn
        simp only [flowAct, List.zipWith_cons_cons, List.zipWith_nil_left]
        go_wp2_with (fail)
        exact ⟨rfl, _, rfl, hI.pure 5 (by decide) (by decide) (fun x hx => by injection hx with hx)⟩
      · intro L xs W hI hL hn
        simp [invNeeds, Region.binds] at hn
        have e5 : xs 5 = .pointer (some ⟨gx, 1, none⟩) := hI.2 5 (by decide) (by simp only [hn]) _ rfl
        obtain ⟨a0, a1, a2, a3, a4⟩ := HAC.out _ _ _ hI.1
        simp only [flowAct, List.zipWith_cons_cons, List.zipWith_nil_left]
        simp only [e5]
        go_wp2_with (fail)
        exact ⟨rfl, _, rfl, hI.pure 6 (by decide) (by decide) (fun x hx => by injection hx with hx)⟩
      · intro L xs W hI hL hn
        simp [invNeeds, Region.binds] at hn
        have e4 : xs 4 = .pointer (some ⟨r, 0, none⟩) := hI.2 4 (by decide) (by simp only [hn]) _ rfl
        have e6 : xs 6 = .string tx := hI.2 6 (by decide) (by simp only [hn]) _ rfl
        have hdu : Du w2 F G q r (if L 3 = true then s' else st) st W := by have := hI.1; rwa [if_neg (c := L 7 = true) (by rw [hL]; simp)] at this
        have HDW := Lib.hid hdu
        clear hdu
        simp only [flowAct, List.zipWith_cons_cons, List.zipWith_nil_left]
        simp only [e4, e6]
        go_wp2_with (go_at_call 48; (with_reducible refine (HQ.out _ _ HDW.out).mono ?_); rintro e9 w9 ⟨rfl, hd9⟩)
        exact ⟨rfl, _, rfl, hI.pb (by decide) (fun x hx => by injection hx with hx) hd9⟩
      · intro L xs W hI hL hn
        simp [invNeeds, Region.binds] at hn
        have e3 : xs 3 = .int .i64 E := hI.2 3 (by decide) (by simp only [hn]) _ rfl
        simp only [flowAct, List.zipWith_cons_cons, List.zipWith_nil_left]
        simp only [e3]
        go_wp2_with (fail)
        exact ⟨rfl, _, rfl, hI.pure 8 (by decide) (by decide) (fun x hx => by injection hx with hx)⟩
      · intro L xs W hI hL hn
        simp [invNeeds, Region.binds] at hn
        have e7 : xs 7 = .int .i64 E := hI.2 7 (by decide) (by simp only [hn]) _ rfl
        simp only [flowAct, List.zipWith_cons_cons, List.zipWith_nil_left]
        simp only [e7]
        go_wp2_with (fail)
        exact ⟨rfl, _, rfl, hI.pure 9 (by decide) (by decide) (fun x hx => by injection hx with hx)⟩
    · intro L xs W3 hI hL
      have hdu := hI.1
      rw [if_pos (hL 3 (by decide)), if_pos (hL 7 (by decide))] at hdu
      have x8 : xs 8 = .int .i64 E := hI.2 8 (by decide) (hL 8 (by decide)) _ rfl
      have x9 : xs 9 = .int .i64 E := hI.2 9 (by decide) (hL 9 (by decide)) _ rfl
      have HDU3 := Lib.hid hdu
      simp only [flowAct, List.zipWith_cons_cons, List.zipWith_nil_left]
      simp only [x8, x9]
      clear x8 x9 hI hL hdu HP HQ a0
      have hEE : (E != E) = false := by simp
      go_wp2
      go_loopw [106] (fun i wr => ∃ j : Nat, j ≤ xl ∧ i = .int .i64 (j : Int) ∧ OwT oa l wr j ∧ Trn (fun k => oa = some ⟨k, 0, none⟩) W3 wr) (fun i _ => xl - (intOf i).toNat)
      case atStart => exact ⟨0, by omega, rfl, HOT.out.1.keep (fun k hk => by obtain ⟨b1, b2, b3, -⟩ := HON.out k hk; exact HDU3.out.tr.block k b1 (fun h => h.elim b2 b3)), Trn.refl⟩
      case round =>
        obtain ⟨j, hj, rfl, hot, htr⟩ := hrel
        have HOT2 := Lib.hid hot
        have HTR := Lib.hid htr
        clear hot htr
        by_cases hlt : j < xl
        · have hji : (j : Int) < (xl : Int) := by omega
          obtain ⟨go, rfl, o1, o2⟩ := HOT2.out.cell (by rw [HXL.out]; exact hlt)
          have hxc : (j : Int) < (cx : Int) := by have := HB.out.le; omega
          have hoc : (j : Int) < (oc : Int) := by
            rcases HO2.out.2 with ⟨e, -⟩ | ⟨g, cap, cur, e, -, -, hnc, -⟩
            · injection e with e; cases e
            · injection e with e1 e2 e3; rw [e3]; have := HXL.out; omega
          obtain ⟨b1, b2, b3, b4⟩ := HON.out go rfl
          have hne : gx ≠ go := fun e => by subst e; have h1 := HO2.out; rcases h1.2 with ⟨e, -⟩ | ⟨g, cap, cur, e, -, hg, -⟩
                                            · injection e with e; cases e
                                            · injection e with e1 e2 e3
                                              injection e1 with e1
                                              injection e1 with e1
                                              subst e1
                                              exact absurd (tneD hg HX2.out) (by decide)
          have hx3 := HDU3.out.heap HX2.out HGN.out.1 HGN.out.2.1
          have hxr := HTR.out.heap hx3 (fun e => hne (by injection e with e; injection e with e; exact e.symm))
          have d2 : wr.cell? ⟨gx, 2, none⟩ = some (.slice x xl cx) := by rw [cell_of_row _ gx 2 _ _ (0, 0) hxr]; rfl
          obtain ⟨b, off, rfl, hdat⟩ : ∃ b off, x = some ⟨b, off, none⟩ ∧ wr.cell? ⟨b, off + j, none⟩ = some (.int .u8 (by8 l j)) := by
            have hy := (HB.out.below HB2.out).trn (F := fun k => F k ∨ G k) (fun h0 b off e h => by obtain ⟨a1, a2⟩ := HBN.out h0 b off e; exact h.elim a1 a2) HDU3.out.tr
            have hy2 := hy.trn (F := fun k => (some ⟨go, 0, none⟩ : Option Addr) = some ⟨k, 0, none⟩) (fun h0 b off e h => by
              injection h with h
              injection h with h
              subst h
              have := HB.out.blk_lt h0 e
              omega) HTR.out
            rcases hy2.adr with h9 | ⟨b, off, e, hc⟩
            · have := hy2.le; omega
            · exact ⟨b, off, e, hc j hlt⟩
          have hzz : (by8 l j != by8 l j) = false := by simp
          have HLT := Lib.hid hlt
          have HNE := Lib.hid hne
          clear hne hx3 hxr b1 b2 b3 b4 hlt
          obtain ⟨z, hz⟩ : ∃ z, by8 l j = z := ⟨_, rfl⟩
          rw [hz] at o1 hdat hzz
          clear hz
          go_wp2
          go_quiet (fail)
          have hk6 := below_drewN9 (Below.refl wr.heap.size wr) nq
          have HOT6 := Lib.hid (HOT2.out.keep (W' := wr.drewN nq) (fun k hk => hk6.block k (by obtain ⟨c1, -⟩ := HON.out k hk; exact Nat.lt_of_lt_of_le c1 (Nat.le_trans HDU3.out.tr.size HTR.out.size))))
          have HTR6 := Lib.hid (HTR.out.then (Trn.of hk6))
          clear hk6 d2 hdat o1 o2
          obtain ⟨go', e6, o1, o2⟩ := HOT6.out.cell (by rw [HXL.out]; exact HLT.out)
          injection e6 with e6
          injection e6 with e6
          subst e6
          generalize wr.drewN nq = W6 at *
          obtain ⟨z', hz'⟩ : ∃ z, by8 l j = z := ⟨_, rfl⟩
          rw [hz'] at o1
          clear hz'
          go_wp2
          trace_state
          go_roundw
          case rel => exact ⟨j + 1, HLT.out, by go_num, HOT6.out.step _, HTR6.out.set (.inl rfl)⟩
          case measure => simp [intOf]; have := HLT.out; omega
        · obtain rfl : j = xl := by omega
          go_wp2
          go_ret
          have hfin := HDU3.out.aside (st := st) HTR.out (fun k hk => HON.out k hk) HB2.out
          rw [HST.out, HS9.out]
          exact ⟨rfl, hfin⟩
  · have hb0 : (kd == 0) = false := by simpa using hk0
    by_cases hk1 : kd = 1
    · subst hk1
      have hq0 : ((1 : Int) == 0) = false := by decide
      have hst : st.act ⟨1, nm, v9, l, n, kp⟩ = st.append nm l := by unfold Ds.act; simp
      obtain ⟨E, hE⟩ : ∃ z, (st.append nm l).1 = z := ⟨_, rfl⟩
      obtain ⟨s', hs'⟩ : ∃ z, (st.append nm l).2 = z := ⟨_, rfl⟩
      have HP := Lib.hid (fun (s2 : Ds) (W : World) (h : Du w2 F G q r st s2 W) => du_append h nm HNM.out (show Bys w2 oa xl oc l from by obtain ⟨oa9, oc9, e9, h9⟩ := HO2.out.bys; rw [HXL.out] at e9 h9; injection e9 with e1 e2 e3; subst e1 e3; exact h9) (by have := HL.out; have := HXL.out; omega) (fun h0 b off e => (by have hk := HON.out b (HO2.out.spot0 e); exact ⟨hk.1, hk.2.1, hk.2.2.1⟩)))
      have HQ := Lib.hid (fun (s1 : Ds) (W : World) (h : Du w2 F G q r s1 st W) => du_rappend h nm (HB.out.below HB2.out) (by have := HL.out; have := HXL.out; omega) (fun h0 b off e => (by have hk := HBN.out h0 b off e; exact ⟨Nat.lt_of_lt_of_le (HB.out.blk_lt h0 e) HB2.out.size, hk.1, hk.2⟩)))
      have HST := Lib.hid hst
      rw [hE, hs', HTX.out] at HP HQ
      have HS9 := Lib.hid hs'
      clear hst hE hs'
      go_upto_region 7 with (fail)
      refine wp_region_inv [none, none, none, none, none, none, none, none, some 11, some 12, none, none, none, none, none, none, none, none, none, none, none, none, none, none, none, none, none, none, none, some 0, some 1, some 2, some 3, some 4, some 5, some 6, some 7, some 8, some 9, some 10, none, none, none, none, none, none, none, none, none, none, none, none, none, none, none, none, none, none, none, none, none, none, none, none, none, none, none, none, none, none, none, none, none, none, none, none, none, none, none, none, none, none, none, none, none, none, none, none, none, none, none, none, none, none, none, none, none, none, none, none, none, none, none, none, none, none, none, none, none, none, none, none, none, none, none, none, none, none, none, none, none, none, none, none, none, none, none, none, none] (fun i => [undef, undef, undef, undef, undef, undef, undef, undef, undef, undef, undef, .int .i64 0, .int .i64 0].getD i undef) (DuI w2 F G q r st s' 4 10 13 [some (.pointer (some ⟨q, 0, none⟩)), some (.pointer (some ⟨gx, 1, none⟩)), some (.string tx), some (.slice oa xl oc), some (.int .i64 E), some (.pointer (some ⟨r, 0, none⟩)), some (.pointer (some ⟨gx, 1, none⟩)), some (.string tx), some (.pointer (some ⟨gx, 2, none⟩)), some (.slice x xl cx), some (.int .i64 E), some (.int .i64 E), some (.int .i64 E)]) (by kernel_rfl) (by kernel_rfl) rfl rfl (fun L hL => ⟨by rw [if_neg (by rw [hL 4 (by decide)]; simp), if_neg (by rw [hL 10 (by decide)]; simp)]; exact HDU.out.below ⟨rfl, rfl, rfl, Nat.le_refl _, fun _ _ => rfl⟩, fun i hi h => by rw [hL i hi] at h; cases h⟩) ?_ ?_
      · simp only [invOps, and_true]
        refine ⟨?_, ?_, ?_, ?_, ?_, ?_, ?_, ?_, ?_, ?_, ?_, ?_, ?_⟩
        · intro L xs W hI hL hn
          simp only [flowAct, List.zipWith_cons_cons, List.zipWith_nil_left]
          go_wp2_with (fail)
          exact ⟨rfl, _, rfl, hI.pure 0 (by decide) (by decide) (fun x hx => by injection hx with hx)⟩
        · intro L xs W hI hL hn
          simp only [flowAct, List.zipWith_cons_cons, List.zipWith_nil_left]
          go_wp2_with (fail)
          exact ⟨rfl, _, rfl, hI.pure 1 (by decide) (by decide) (fun x hx => by injection hx with hx)⟩
        · intro L xs W hI hL hn
          simp [invNeeds, Region.binds] at hn
          have e1 : xs 1 = .pointer (some ⟨gx, 1, none⟩) := hI.2 1 (by decide) (by simp only [hn]) _ rfl
          obtain ⟨a0, a1, a2, a3, a4⟩ := HAC.out _ _ _ hI.1
          simp only [flowAct, List.zipWith_cons_cons, List.zipWith_nil_left]
          simp only [e1]
          go_wp2_with (fail)
          exact ⟨rfl, _, rfl, hI.pure 2 (by decide) (by decide) (fun x hx => by injection hx with hx)⟩
        · intro L xs W hI hL hn
          simp only [flowAct, List.zipWith_cons_cons, List.zipWith_nil_left]
          go_wp2_with (fail)
          exact ⟨rfl, _, rfl, hI.pure 3 (by decide) (by decide) (fun x hx => by injection hx with hx)⟩
        · intro L xs W hI hL hn
          simp [invNeeds, Region.binds] at hn
          have e0 : xs 0 = .pointer (some ⟨q, 0, none⟩) := hI.2 0 (by decide) (by simp only [hn]) _ rfl
          have e2 : xs 2 = .string tx := hI.2 2 (by decide) (by simp only [hn]) _ rfl
          have e3 : xs 3 = .slice oa xl oc := hI.2 3 (by decide) (by simp only [hn]) _ rfl
          have hdu : Du w2 F G q r st (if L 10 = true then s' else st) W := by have := hI.1; rwa [if_neg (by rw [hL]; simp)] at this
          have HDW := Lib.hid hdu
          clear hdu
          simp only [flowAct, List.zipWith_cons_cons, List.zipWith_nil_left]
          simp only [e0, e2, e3]
          go_wp2_with (go_at_call 28; (with_reducible refine (HP.out _ _ HDW.out).mono ?_); rintro e9 w9 ⟨rfl, hd9⟩)
          exact ⟨rfl, _, rfl, hI.pa (by decide) (fun x hx => by injection hx with hx) hd9⟩
        · intro L xs W hI hL hn
          simp only [flowAct, List.zipWith_cons_cons, List.zipWith_nil_left]
          go_wp2_with (fail)
          exact ⟨rfl, _, rfl, hI.pure 5 (by decide) (by decide) (fun x hx => by injection hx with hx)⟩
        · intro L xs W hI hL hn
          simp only [flowAct, List.zipWith_cons_cons, List.zipWith_nil_left]
          go_wp2_with (fail)
          exact ⟨rfl, _, rfl, hI.pure 6 (by decide) (by decide) (fun x hx => by injection hx with hx)⟩
        · intro L xs W hI hL hn
          simp [invNeeds, Region.binds] at hn
          have e6 : xs 6 = .pointer (some ⟨gx, 1, none⟩) := hI.2 6 (by decide) (by simp only [hn]) _ rfl
          obtain ⟨a0, a1, a2, a3, a4⟩ := HAC.out _ _ _ hI.1
          simp only [flowAct, List.zipWith_cons_cons, List.zipWith_nil_left]
          simp only [e6]
          go_wp2_with (fail)
          exact ⟨rfl, _, rfl, hI.pure 7 (by decide) (by decide) (fun x hx => by injection hx with hx)⟩
        · intro L xs W hI hL hn
          simp only [flowAct, List.zipWith_cons_cons, List.zipWith_nil_left]
          go_wp2_with (fail)
          exact ⟨rfl, _, rfl, hI.pure 8 (by decide) (by decide) (fun x hx => by injection hx with hx)⟩
        · intro L xs W hI hL hn
          simp [invNeeds, Region.binds] at hn
          have e8 : xs 8 = .pointer (some ⟨gx, 2, none⟩) := hI.2 8 (by decide) (by simp only [hn]) _ rfl
          obtain ⟨a0, a1, a2, a3, a4⟩ := HAC.out _ _ _ hI.1
          simp only [flowAct, List.zipWith_cons_cons, List.zipWith_nil_left]
          simp only [e8]
          go_wp2_with (fail)
          exact ⟨rfl, _, rfl, hI.pure 9 (by decide) (by decide) (fun x hx => by injection hx with hx)⟩
        · intro L xs W hI hL hn
          simp [invNeeds, Region.binds] at hn
          have e5 : xs 5 = .pointer (some ⟨r, 0, none⟩) := hI.2 5 (by decide) (by simp only [hn]) _ rfl
          have e7 : xs 7 = .string tx := hI.2 7 (by decide) (by simp only [hn]) _ rfl
          have e9 : xs 9 = .slice x xl cx := hI.2 9 (by decide) (by simp only [hn]) _ rfl
          have hdu : Du w2 F G q r (if L 4 = true then s' else st) st W := by have := hI.1; rwa [if_neg (c := L 10 = true) (by rw [hL]; simp)] at this
          have HDW := Lib.hid hdu
          clear hdu
          simp only [flowAct, List.zipWith_cons_cons, List.zipWith_nil_left]
          simp only [e5, e7, e9]
          go_wp2_with (go_at_call 49; (with_reducible refine (HQ.out _ _ HDW.out).mono ?_); rintro e9 w9 ⟨rfl, hd9⟩)
          exact ⟨rfl, _, rfl, hI.pb (by decide) (fun x hx => by injection hx with hx) hd9⟩
        · intro L xs W hI hL hn
          simp [invNeeds, Region.binds] at hn
          have e4 : xs 4 = .int .i64 E := hI.2 4 (by decide) (by simp only [hn]) _ rfl
          simp only [flowAct, List.zipWith_cons_cons, List.zipWith_nil_left]
          simp only [e4]
          go_wp2_with (fail)
          exact ⟨rfl, _, rfl, hI.pure 11 (by decide) (by decide) (fun x hx => by injection hx with hx)⟩
        · intro L xs W hI hL hn
          simp [invNeeds, Region.binds] at hn
          have e10 : xs 10 = .int .i64 E := hI.2 10 (by decide) (by simp only [hn]) _ rfl
          simp only [flowAct, List.zipWith_cons_cons, List.zipWith_nil_left]
          simp only [e10]
          go_wp2_with (fail)
          exact ⟨rfl, _, rfl, hI.pure 12 (by decide) (by decide) (fun x hx => by injection hx with hx)⟩
      · intro L xs W3 hI hL
        have hdu := hI.1
        rw [if_pos (hL 4 (by decide)), if_pos (hL 10 (by decide))] at hdu
        have x8 : xs 11 = .int .i64 E := hI.2 11 (by decide) (hL 11 (by decide)) _ rfl
        have x9 : xs 12 = .int .i64 E := hI.2 12 (by decide) (hL 12 (by decide)) _ rfl
        have HDU3 := Lib.hid hdu
        simp only [flowAct, List.zipWith_cons_cons, List.zipWith_nil_left]
        simp only [x8, x9]
        clear x8 x9 hI hL hdu HP HQ a0
        have hEE : (E != E) = false := by simp
        go_wp2
        go_loopw [106] (fun i wr => ∃ j : Nat, j ≤ xl ∧ i = .int .i64 (j : Int) ∧ OwT oa l wr j ∧ Trn (fun k => oa = some ⟨k, 0, none⟩) W3 wr) (fun i _ => xl - (intOf i).toNat)
        case atStart => exact ⟨0, by omega, rfl, HOT.out.1.keep (fun k hk => by obtain ⟨b1, b2, b3, -⟩ := HON.out k hk; exact HDU3.out.tr.block k b1 (fun h => h.elim b2 b3)), Trn.refl⟩
        case round =>
          obtain ⟨j, hj, rfl, hot, htr⟩ := hrel
          have HOT2 := Lib.hid hot
          have HTR := Lib.hid htr
          clear hot htr
          by_cases hlt : j < xl
          · have hji : (j : Int) < (xl : Int) := by omega
            obtain ⟨go, rfl, o1, o2⟩ := HOT2.out.cell (by rw [HXL.out]; exact hlt)
            have hxc : (j : Int) < (cx : Int) := by have := HB.out.le; omega
            have hoc : (j : Int) < (oc : Int) := by
              rcases HO2.out.2 with ⟨e, -⟩ | ⟨g, cap, cur, e, -, -, hnc, -⟩
              · injection e with e; cases e
              · injection e with e1 e2 e3; rw [e3]; have := HXL.out; omega
            obtain ⟨b1, b2, b3, b4⟩ := HON.out go rfl
            have hne : gx ≠ go := fun e => by subst e; have h1 := HO2.out; rcases h1.2 with ⟨e, -⟩ | ⟨g, cap, cur, e, -, hg, -⟩
                                              · injection e with e; cases e
                                              · injection e with e1 e2 e3
                                                injection e1 with e1
                                                injection e1 with e1
                                                subst e1
                                                exact absurd (tneD hg HX2.out) (by decide)
            have hx3 := HDU3.out.heap HX2.out HGN.out.1 HGN.out.2.1
            have hxr := HTR.out.heap hx3 (fun e => hne (by injection e with e; injection e with e; exact e.symm))
            have d2 : wr.cell? ⟨gx, 2, none⟩ = some (.slice x xl cx) := by rw [cell_of_row _ gx 2 _ _ (0, 0) hxr]; rfl
            obtain ⟨b, off, rfl, hdat⟩ : ∃ b off, x = some ⟨b, off, none⟩ ∧ wr.cell? ⟨b, off + j, none⟩ = some (.int .u8 (by8 l j)) := by
              have hy := (HB.out.below HB2.out).trn (F := fun k => F k ∨ G k) (fun h0 b off e h => by obtain ⟨a1, a2⟩ := HBN.out h0 b off e; exact h.elim a1 a2) HDU3.out.tr
              have hy2 := hy.trn (F := fun k => (some ⟨go, 0, none⟩ : Option Addr) = some ⟨k, 0, none⟩) (fun h0 b off e h => by
                injection h with h
                injection h with h
                subst h
                have := HB.out.blk_lt h0 e
                omega) HTR.out
              rcases hy2.adr with h9 | ⟨b, off, e, hc⟩
              · have := hy2.le; omega
              · exact ⟨b, off, e, hc j hlt⟩
            have hzz : (by8 l j != by8 l j) = false := by simp
            have HLT := Lib.hid hlt
            have HNE := Lib.hid hne
            clear hne hx3 hxr b1 b2 b3 b4 hlt
            obtain ⟨z, hz⟩ : ∃ z, by8 l j = z := ⟨_, rfl⟩
            rw [hz] at o1 hdat hzz
            clear hz
            go_wp2
            go_quiet (fail)
            have hk6 := below_drewN9 (Below.refl wr.heap.size wr) nq
            have HOT6 := Lib.hid (HOT2.out.keep (W' := wr.drewN nq) (fun k hk => hk6.block k (by obtain ⟨c1, -⟩ := HON.out k hk; exact Nat.lt_of_lt_of_le c1 (Nat.le_trans HDU3.out.tr.size HTR.out.size))))
            have HTR6 := Lib.hid (HTR.out.then (Trn.of hk6))
            clear hk6 d2 hdat o1 o2
            obtain ⟨go', e6, o1, o2⟩ := HOT6.out.cell (by rw [HXL.out]; exact HLT.out)
            injection e6 with e6
            injection e6 with e6
            subst e6
            generalize wr.drewN nq = W6 at *
            obtain ⟨z', hz'⟩ : ∃ z, by8 l j = z := ⟨_, rfl⟩
            rw [hz'] at o1
            clear hz'
            go_wp2
            trace_state
            go_roundw
            case rel => exact ⟨j + 1, HLT.out, by go_num, HOT6.out.step _, HTR6.out.set (.inl rfl)⟩
            case measure => simp [intOf]; have := HLT.out; omega
          · obtain rfl : j = xl := by omega
            go_wp2
            go_ret
            have hfin := HDU3.out.aside (st := st) HTR.out (fun k hk => HON.out k hk) HB2.out
            rw [HST.out, HS9.out]
            exact ⟨rfl, hfin⟩
    · have hb1 : (kd == 1) = false := by simpa using hk1
      by_cases hk2 : kd = 2
      · subst hk2
        have hq0 : ((2 : Int) == 0) = false := by decide
        have hq1 : ((2 : Int) == 1) = false := by decide
        have hst : st.act ⟨2, nm, v9, l, n, kp⟩ = st.sync nm := by unfold Ds.act; simp
        obtain ⟨E, hE⟩ : ∃ z, (st.sync nm).1 = z := ⟨_, rfl⟩
        obtain ⟨s', hs'⟩ : ∃ z, (st.sync nm).2 = z := ⟨_, rfl⟩
        have HP := Lib.hid (fun (s2 : Ds) (W : World) (h : Du w2 F G q r st s2 W) => du_sync h nm HNM.out)
        have HQ := Lib.hid (fun (s1 : Ds) (W : World) (h : Du w2 F G q r s1 st W) => du_rsync h nm)
        have HST := Lib.hid hst
        rw [hE, hs', HTX.out] at HP HQ
        have HS9 := Lib.hid hs'
        clear hst hE hs'
        go_upto_region 9 with (fail)
        refine wp_region_inv [none, none, none, none, none, none, none, none, some 8, some 9, none, none, none, none, none, none, none, none, none, none, none, none, none, none, none, none, none, none, none, none, none, none, none, none, none, none, none, none, none, none, none, none, some 0, some 1, some 2, some 3, some 4, some 5, some 6, some 7, none, none, none, none, none, none, none, none, none, none, none, none, none, none, none, none, none, none, none, none, none, none, none, none, none, none, none, none, none, none, none, none, none, none, none, none, none, none, none, none, none, none, none, none, none, none, none, none, none, none, none, none, none, none, none, none, none, none, none, none, none, none, none, none, none, none, none, none, none, none, none, none, none, none, none, none, none, none, none] (fun i => [undef, undef, undef, undef, undef, undef, undef, undef, .int .i64 0, .int .i64 0].getD i undef) (DuI w2 F G q r st s' 3 7 10 [some (.pointer (some ⟨q, 0, none⟩)), some (.pointer (some ⟨gx, 1, none⟩)), some (.string tx), some (.int .i64 E), some (.pointer (some ⟨r, 0, none⟩)), some (.pointer (some ⟨gx, 1, none⟩)), some (.string tx), some (.int .i64 E), some (.int .i64 E), some (.int .i64 E)]) (by kernel_rfl) (by kernel_rfl) rfl rfl (fun L hL => ⟨by rw [if_neg (by rw [hL 3 (by decide)]; simp), if_neg (by rw [hL 7 (by decide)]; simp)]; exact HDU.out.below ⟨rfl, rfl, rfl, Nat.le_refl _, fun _ _ => rfl⟩, fun i hi h => by rw [hL i hi] at h; cases h⟩) ?_ ?_
        · simp only [invOps, and_true]
          refine ⟨?_, ?_, ?_, ?_, ?_, ?_, ?_, ?_, ?_, ?_⟩
          · intro L xs W hI hL hn
            simp only [flowAct, List.zipWith_cons_cons, List.zipWith_nil_left]
            go_wp2_with (fail)
            exact ⟨rfl, _, rfl, hI.pure 0 (by decide) (by decide) (fun x hx => by injection hx with hx)⟩
          · intro L xs W hI hL hn
            simp only [flowAct, List.zipWith_cons_cons, List.zipWith_nil_left]
            go_wp2_with (fail)
            exact ⟨rfl, _, rfl, hI.pure 1 (by decide) (by decide) (fun x hx => by injection hx with hx)⟩
          · intro L xs W hI hL hn
            simp [invNeeds, Region.binds] at hn
            have e1 : xs 1 = .pointer (some ⟨gx, 1, none⟩) := hI.2 1 (by decide) (by simp only [hn]) _ rfl
            obtain ⟨a0, a1, a2, a3, a4⟩ := HAC.out _ _ _ hI.1
            simp only [flowAct, List.zipWith_cons_cons, List.zipWith_nil_left]
            simp only [e1]
            go_wp2_with (fail)
            exact ⟨rfl, _, rfl, hI.pure 2 (by decide) (by decide) (fun x hx => by injection hx with hx)⟩
          · intro L xs W hI hL hn
            simp [invNeeds, Region.binds] at hn
            have e0 : xs 0 = .pointer (some ⟨q, 0, none⟩) := hI.2 0 (by decide) (by simp only [hn]) _ rfl
            have e2 : xs 2 = .string tx := hI.2 2 (by decide) (by simp only [hn]) _ rfl
            have hdu : Du w2 F G q r st (if L 7 = true then s' else st) W := by have := hI.1; rwa [if_neg (by rw [hL]; simp)] at this
            have HDW := Lib.hid hdu
            clear hdu
            simp only [flowAct, List.zipWith_cons_cons, List.zipWith_nil_left]
            simp only [e0, e2]
            go_wp2_with (go_at_call 29; (with_reducible refine (HP.out _ _ HDW.out).mono ?_); rintro e9 w9 ⟨rfl, hd9⟩)
            exact ⟨rfl, _, rfl, hI.pa (by decide) (fun x hx => by injection hx with hx) hd9⟩
          · intro L xs W hI hL hn
            simp only [flowAct, List.zipWith_cons_cons, List.zipWith_nil_left]
            go_wp2_with (fail)
            exact ⟨rfl, _, rfl, hI.pure 4 (by decide) (by decide) (fun x hx => by injection hx with hx)⟩
          · intro L xs W hI hL hn
            simp only [flowAct, List.zipWith_cons_cons, List.zipWith_nil_left]
            go_wp2_with (fail)
            exact ⟨rfl, _, rfl, hI.pure 5 (by decide) (by decide) (fun x hx => by injection hx with hx)⟩
          · intro L xs W hI hL hn
            simp [invNeeds, Region.binds] at hn
            have e5 : xs 5 = .pointer (some ⟨gx, 1, none⟩) := hI.2 5 (by decide) (by simp only [hn]) _ rfl
            obtain ⟨a0, a1, a2, a3, a4⟩ := HAC.out _ _ _ hI.1
            simp only [flowAct, List.zipWith_cons_cons, List.zipWith_nil_left]
            simp only [e5]
            go_wp2_with (fail)
            exact ⟨rfl, _, rfl, hI.pure 6 (by decide) (by decide) (fun x hx => by injection hx with hx)⟩
          · intro L xs W hI hL hn
            simp [invNeeds, Region.binds] at hn
            have e4 : xs 4 = .pointer (some ⟨r, 0, none⟩) := hI.2 4 (by decide) (by simp only [hn]) _ rfl
            have e6 : xs 6 = .string tx := hI.2 6 (by decide) (by simp only [hn]) _ rfl
            have hdu : Du w2 F G q r (if L 3 = true then s' else st) st W := by have := hI.1; rwa [if_neg (c := L 7 = true) (by rw [hL]; simp)] at this
            have HDW := Lib.hid hdu
            clear hdu
            simp only [flowAct, List.zipWith_cons_cons, List.zipWith_nil_left]
            simp only [e4, e6]
            go_wp2_with (go_at_call 50; (with_reducible refine (HQ.out _ _ HDW.out).mono ?_); rintro e9 w9 ⟨rfl, hd9⟩)
            exact ⟨rfl, _, rfl, hI.pb (by decide) (fun x hx => by injection hx with hx) hd9⟩
          · intro L xs W hI hL hn
            simp [invNeeds, Region.binds] at hn
            have e3 : xs 3 = .int .i64 E := hI.2 3 (by decide) (by simp only [hn]) _ rfl
            simp only [flowAct, List.zipWith_cons_cons, List.zipWith_nil_left]
            simp only [e3]
            go_wp2_with (fail)
            exact ⟨rfl, _, rfl, hI.pure 8 (by decide) (by decide) (fun x hx => by injection hx with hx)⟩
          · intro L xs W hI hL hn
            simp [invNeeds, Region.binds] at hn
            have e7 : xs 7 = .int .i64 E := hI.2 7 (by decide) (by simp only [hn]) _ rfl
            simp only [flowAct, List.zipWith_cons_cons, List.zipWith_nil_left]
            simp only [e7]
            go_wp2_with (fail)
            exact ⟨rfl, _, rfl, hI.pure 9 (by decide) (by decide) (fun x hx => by injection hx with hx)⟩
        · intro L xs W3 hI hL
          have hdu := hI.1
          rw [if_pos (hL 3 (by decide)), if_pos (hL 7 (by decide))] at hdu
          have x8 : xs 8 = .int .i64 E := hI.2 8 (by decide) (hL 8 (by decide)) _ rfl
          have x9 : xs 9 = .int .i64 E := hI.2 9 (by decide) (hL 9 (by decide)) _ rfl
          have HDU3 := Lib.hid hdu
          simp only [flowAct, List.zipWith_cons_cons, List.zipWith_nil_left]
          simp only [x8, x9]
          clear x8 x9 hI hL hdu HP HQ a0
          have hEE : (E != E) = false := by simp
          go_wp2
          go_loopw [106] (fun i wr => ∃ j : Nat, j ≤ xl ∧ i = .int .i64 (j : Int) ∧ OwT oa l wr j ∧ Trn (fun k => oa = some ⟨k, 0, none⟩) W3 wr) (fun i _ => xl - (intOf i).toNat)
          case atStart => exact ⟨0, by omega, rfl, HOT.out.1.keep (fun k hk => by obtain ⟨b1, b2, b3, -⟩ := HON.out k hk; exact HDU3.out.tr.block k b1 (fun h => h.elim b2 b3)), Trn.refl⟩
          case round =>
            obtain ⟨j, hj, rfl, hot, htr⟩ := hrel
            have HOT2 := Lib.hid hot
            have HTR := Lib.hid htr
            clear hot htr
            by_cases hlt : j < xl
            · have hji : (j : Int) < (xl : Int) := by omega
              obtain ⟨go, rfl, o1, o2⟩ := HOT2.out.cell (by rw [HXL.out]; exact hlt)
              have hxc : (j : Int) < (cx : Int) := by have := HB.out.le; omega
              have hoc : (j : Int) < (oc : Int) := by
                rcases HO2.out.2 with ⟨e, -⟩ | ⟨g, cap, cur, e, -, -, hnc, -⟩
                · injection e with e; cases e
                · injection e with e1 e2 e3; rw [e3]; have := HXL.out; omega
              obtain ⟨b1, b2, b3, b4⟩ := HON.out go rfl
              have hne : gx ≠ go := fun e => by subst e; have h1 := HO2.out; rcases h1.2 with ⟨e, -⟩ | ⟨g, cap, cur, e, -, hg, -⟩
                                                · injection e with e; cases e
                                                · injection e with e1 e2 e3
                                                  injection e1 with e1
                                                  injection e1 with e1
                                                  subst e1
                                                  exact absurd (tneD hg HX2.out) (by decide)
              have hx3 := HDU3.out.heap HX2.out HGN.out.1 HGN.out.2.1
              have hxr := HTR.out.heap hx3 (fun e => hne (by injection e with e; injection e with e; exact e.symm))
              have d2 : wr.cell? ⟨gx, 2, none⟩ = some (.slice x xl cx) := by rw [cell_of_row _ gx 2 _ _ (0, 0) hxr]; rfl
              obtain ⟨b, off, rfl, hdat⟩ : ∃ b off, x = some ⟨b, off, none⟩ ∧ wr.cell? ⟨b, off + j, none⟩ = some (.int .u8 (by8 l j)) := by
                have hy := (HB.out.below HB2.out).trn (F := fun k => F k ∨ G k) (fun h0 b off e h => by obtain ⟨a1, a2⟩ := HBN.out h0 b off e; exact h.elim a1 a2) HDU3.out.tr
                have hy2 := hy.trn (F := fun k => (some ⟨go, 0, none⟩ : Option Addr) = some ⟨k, 0, none⟩) (fun h0 b off e h => by
                  injection h with h
                  injection h with h
                  subst h
                  have := HB.out.blk_lt h0 e
                  omega) HTR.out
                rcases hy2.adr with h9 | ⟨b, off, e, hc⟩
                · have := hy2.le; omega
                · exact ⟨b, off, e, hc j hlt⟩
              have hzz : (by8 l j != by8 l j) = false := by simp
              have HLT := Lib.hid hlt
              have HNE := Lib.hid hne
              clear hne hx3 hxr b1 b2 b3 b4 hlt
              obtain ⟨z, hz⟩ : ∃ z, by8 l j = z := ⟨_, rfl⟩
              rw [hz] at o1 hdat hzz
              clear hz
              go_wp2
              go_quiet (fail)
              have hk6 := below_drewN9 (Below.refl wr.heap.size wr) nq
              have HOT6 := Lib.hid (HOT2.out.keep (W' := wr.drewN nq) (fun k hk => hk6.block k (by obtain ⟨c1, -⟩ := HON.out k hk; exact Nat.lt_of_lt_of_le c1 (Nat.le_trans HDU3.out.tr.size HTR.out.size))))
              have HTR6 := Lib.hid (HTR.out.then (Trn.of hk6))
              clear hk6 d2 hdat o1 o2
              obtain ⟨go', e6, o1, o2⟩ := HOT6.out.cell (by rw [HXL.out]; exact HLT.out)
              injection e6 with e6
              injection e6 with e6
              subst e6
              generalize wr.drewN nq = W6 at *
              obtain ⟨z', hz'⟩ : ∃ z, by8 l j = z := ⟨_, rfl⟩
              rw [hz'] at o1
              clear hz'
              go_wp2
              trace_state
              go_roundw
              case rel => exact ⟨j + 1, HLT.out, by go_num, HOT6.out.step _, HTR6.out.set (.inl rfl)⟩
              case measure => simp [intOf]; have := HLT.out; omega
            · obtain rfl : j = xl := by omega
              go_wp2
              go_ret
              have hfin := HDU3.out.aside (st := st) HTR.out (fun k hk => HON.out k hk) HB2.out
              rw [HST.out, HS9.out]
              exact ⟨rfl, hfin⟩
      · have hb2 : (kd == 2) = false := by simpa using hk2
        by_cases hk3 : kd = 3
        · subst hk3
          have hq0 : ((3 : Int) == 0) = false := by decide
          have hq1 : ((3 : Int) == 1) = false := by decide
          have hq2 : ((3 : Int) == 2) = false := by decide
          have hst : st.act ⟨3, nm, v9, l, n, kp⟩ = st.cut nm n := by unfold Ds.act; simp
          obtain ⟨E, hE⟩ : ∃ z, (st.cut nm n).1 = z := ⟨_, rfl⟩
          obtain ⟨s', hs'⟩ : ∃ z, (st.cut nm n).2 = z := ⟨_, rfl⟩
          have HP := Lib.hid (fun (s2 : Ds) (W : World) (h : Du w2 F G q r st s2 W) => du_cut h nm HNM.out n)
          have HQ := Lib.hid (fun (s1 : Ds) (W : World) (h : Du w2 F G q r s1 st W) => du_rcut h nm n)
          have HST := Lib.hid hst
          rw [hE, hs', HTX.out] at HP HQ
          have HS9 := Lib.hid hs'
          clear hst hE hs'
          go_upto_region 11 with (fail)
          refine wp_region_inv [none, none, none, none, none, none, none, none, some 12, some 13, none, none, none, none, none, none, none, none, none, none, none, none, none, none, none, none, none, none, none, none, none, none, none, none, none, none, none, none, none, none, none, none, none, none, none, none, none, none, none, none, none, none, some 0, some 1, some 2, some 3, some 4, some 5, some 6, some 7, some 8, some 9, some 10, some 11, none, none, none, none, none, none, none, none, none, none, none, none, none, none, none, none, none, none, none, none, none, none, none, none, none, none, none, none, none, none, none, none, none, none, none, none, none, none, none, none, none, none, none, none, none, none, none, none, none, none, none, none, none, none, none, none, none, none, none, none, none, none, none, none, none] (fun i => [undef, undef, undef, undef, undef, undef, undef, undef, undef, undef, undef, undef, .int .i64 0, .int .i64 0].getD i undef) (DuI w2 F G q r st s' 5 11 14 [some (.pointer (some ⟨q, 0, none⟩)), some (.pointer (some ⟨gx, 1, none⟩)), some (.string tx), some (.pointer (some ⟨gx, 3, none⟩)), some (.int .i64 n), some (.int .i64 E), some (.pointer (some ⟨r, 0, none⟩)), some (.pointer (some ⟨gx, 1, none⟩)), some (.string tx), some (.pointer (some ⟨gx, 3, none⟩)), some (.int .i64 n), some (.int .i64 E), some (.int .i64 E), some (.int .i64 E)]) (by kernel_rfl) (by kernel_rfl) rfl rfl (fun L hL => ⟨by rw [if_neg (by rw [hL 5 (by decide)]; simp), if_neg (by rw [hL 11 (by decide)]; simp)]; exact HDU.out.below ⟨rfl, rfl, rfl, Nat.le_refl _, fun _ _ => rfl⟩, fun i hi h => by rw [hL i hi] at h; cases h⟩) ?_ ?_
          · simp only [invOps, and_true]
            refine ⟨?_, ?_, ?_, ?_, ?_, ?_, ?_, ?_, ?_, ?_, ?_, ?_, ?_, ?_⟩
            · intro L xs W hI hL hn
              simp only [flowAct, List.zipWith_cons_cons, List.zipWith_nil_left]
              go_wp2_with (fail)
              exact ⟨rfl, _, rfl, hI.pure 0 (by decide) (by decide) (fun x hx => by injection hx with hx)⟩
            · intro L xs W hI hL hn
              simp only [flowAct, List.zipWith_cons_cons, List.zipWith_nil_left]
              go_wp2_with (fail)
              exact ⟨rfl, _, rfl, hI.pure 1 (by decide) (by decide) (fun x hx => by injection hx with hx)⟩
            · intro L xs W hI hL hn
              simp [invNeeds, Region.binds] at hn
              have e1 : xs 1 = .pointer (some ⟨gx, 1, none⟩) := hI.2 1 (by decide) (by simp only [hn]) _ rfl
              obtain ⟨a0, a1, a2, a3, a4⟩ := HAC.out _ _ _ hI.1
              simp only [flowAct, List.zipWith_cons_cons, List.zipWith_nil_left]
              simp only [e1]
              go_wp2_with (fail)
              exact ⟨rfl, _, rfl, hI.pure 2 (by decide) (by decide) (fun x hx => by injection hx with hx)⟩
            · intro L xs W hI hL hn
              simp only [flowAct, List.zipWith_cons_cons, List.zipWith_nil_left]
              go_wp2_with (fail)
              exact ⟨rfl, _, rfl, hI.pure 3 (by decide) (by decide) (fun x hx => by injection hx with hx)⟩
            · intro L xs W hI hL hn
              simp [invNeeds, Region.binds] at hn
              have e3 : xs 3 = .pointer (some ⟨gx, 3, none⟩) := hI.2 3 (by decide) (by simp only [hn]) _ rfl
              obtain ⟨a0, a1, a2, a3, a4⟩ := HAC.out _ _ _ hI.1
              simp only [flowAct, List.zipWith_cons_cons, List.zipWith_nil_left]
              simp only [e3]
              go_wp2_with (fail)
              exact ⟨rfl, _, rfl, hI.pure 4 (by decide) (by decide) (fun x hx => by injection hx with hx)⟩
            · intro L xs W hI hL hn
              simp [invNeeds, Region.binds] at hn
              have e0 : xs 0 = .pointer (some ⟨q, 0, none⟩) := hI.2 0 (by decide) (by simp only [hn]) _ rfl
              have e2 : xs 2 = .string tx := hI.2 2 (by decide) (by simp only [hn]) _ rfl
              have e4 : xs 4 = .int .i64 n := hI.2 4 (by decide) (by simp only [hn]) _ rfl
              have hdu : Du w2 F G q r st (if L 11 = true then s' else st) W := by have := hI.1; rwa [if_neg (by rw [hL]; simp)] at this
              have HDW := Lib.hid hdu
              clear hdu
              simp only [flowAct, List.zipWith_cons_cons, List.zipWith_nil_left]
              simp only [e0, e2, e4]
              go_wp2_with (go_at_call 51; (with_reducible refine (HP.out _ _ HDW.out).mono ?_); rintro e9 w9 ⟨rfl, hd9⟩)
              exact ⟨rfl, _, rfl, hI.pa (by decide) (fun x hx => by injection hx with hx) hd9⟩
            · intro L xs W hI hL hn
              simp only [flowAct, List.zipWith_cons_cons, List.zipWith_nil_left]
              go_wp2_with (fail)
              exact ⟨rfl, _, rfl, hI.pure 6 (by decide) (by decide) (fun x hx => by injection hx with hx)⟩
            · intro L xs W hI hL hn
              simp only [flowAct, List.zipWith_cons_cons, List.zipWith_nil_left]
              go_wp2_with (fail)
              exact ⟨rfl, _, rfl, hI.pure 7 (by decide) (by decide) (fun x hx => by injection hx with hx)⟩
            · intro L xs W hI hL hn
              simp [invNeeds, Region.binds] at hn
              have e7 : xs 7 = .pointer (some ⟨gx, 1, none⟩) := hI.2 7 (by decide) (by simp only [hn]) _ rfl
              obtain ⟨a0, a1, a2, a3, a4⟩ := HAC.out _ _ _ hI.1
              simp only [flowAct, List.zipWith_cons_cons, List.zipWith_nil_left]
              simp only [e7]
              go_wp2_with (fail)
              exact ⟨rfl, _, rfl, hI.pure 8 (by decide) (by decide) (fun x hx => by injection hx with hx)⟩
            · intro L xs W hI hL hn
              simp only [flowAct, List.zipWith_cons_cons, List.zipWith_nil_left]
              go_wp2_with (fail)
              exact ⟨rfl, _, rfl, hI.pure 9 (by decide) (by decide) (fun x hx => by injection hx with hx)⟩
            · intro L xs W hI hL hn
              simp [invNeeds, Region.binds] at hn
              have e9 : xs 9 = .pointer (some ⟨gx, 3, none⟩) := hI.2 9 (by decide) (by simp only [hn]) _ rfl
              obtain ⟨a0, a1, a2, a3, a4⟩ := HAC.out _ _ _ hI.1
              simp only [flowAct, List.zipWith_cons_cons, List.zipWith_nil_left]
              simp only [e9]
              go_wp2_with (fail)
              exact ⟨rfl, _, rfl, hI.pure 10 (by decide) (by decide) (fun x hx => by injection hx with hx)⟩
            · intro L xs W hI hL hn
              simp [invNeeds, Region.binds] at hn
              have e6 : xs 6 = .pointer (some ⟨r, 0, none⟩) := hI.2 6 (by decide) (by simp only [hn]) _ rfl
              have e8 : xs 8 = .string tx := hI.2 8 (by decide) (by simp only [hn]) _ rfl
              have e10 : xs 10 = .int .i64 n := hI.2 10 (by decide) (by simp only [hn]) _ rfl
              have hdu : Du w2 F G q r (if L 5 = true then s' else st) st W := by have := hI.1; rwa [if_neg (c := L 11 = true) (by rw [hL]; simp)] at this
              have HDW := Lib.hid hdu
              clear hdu
              simp only [flowAct, List.zipWith_cons_cons, List.zipWith_nil_left]
              simp only [e6, e8, e10]
              go_wp2_with (go_at_call 52; (with_reducible refine (HQ.out _ _ HDW.out).mono ?_); rintro e9 w9 ⟨rfl, hd9⟩)
              exact ⟨rfl, _, rfl, hI.pb (by decide) (fun x hx => by injection hx with hx) hd9⟩
            · intro L xs W hI hL hn
              simp [invNeeds, Region.binds] at hn
              have e5 : xs 5 = .int .i64 E := hI.2 5 (by decide) (by simp only [hn]) _ rfl
              simp only [flowAct, List.zipWith_cons_cons, List.zipWith_nil_left]
              simp only [e5]
              go_wp2_with (fail)
              exact ⟨rfl, _, rfl, hI.pure 12 (by decide) (by decide) (fun x hx => by injection hx with hx)⟩
            · intro L xs W hI hL hn
              simp [invNeeds, Region.binds] at hn
              have e11 : xs 11 = .int .i64 E := hI.2 11 (by decide) (by simp only [hn]) _ rfl
              simp only [flowAct, List.zipWith_cons_cons, List.zipWith_nil_left]
              simp only [e11]
              go_wp2_with (fail)
              exact ⟨rfl, _, rfl, hI.pure 13 (by decide) (by decide) (fun x hx => by injection hx with hx)⟩
          · intro L xs W3 hI hL
            have hdu := hI.1
            rw [if_pos (hL 5 (by decide)), if_pos (hL 11 (by decide))] at hdu
            have x8 : xs 12 = .int .i64 E := hI.2 12 (by decide) (hL 12 (by decide)) _ rfl
            have x9 : xs 13 = .int .i64 E := hI.2 13 (by decide) (hL 13 (by decide)) _ rfl
            have HDU3 := Lib.hid hdu
            simp only [flowAct, List.zipWith_cons_cons, List.zipWith_nil_left]
            simp only [x8, x9]
            clear x8 x9 hI hL hdu HP HQ a0
            have hEE : (E != E) = false := by simp
            go_wp2
            go_loopw [106] (fun i wr => ∃ j : Nat, j ≤ xl ∧ i = .int .i64 (j : Int) ∧ OwT oa l wr j ∧ Trn (fun k => oa = some ⟨k, 0, none⟩) W3 wr) (fun i _ => xl - (intOf i).toNat)
            case atStart => exact ⟨0, by omega, rfl, HOT.out.1.keep (fun k hk => by obtain ⟨b1, b2, b3, -⟩ := HON.out k hk; exact HDU3.out.tr.block k b1 (fun h => h.elim b2 b3)), Trn.refl⟩
            case round =>
              obtain ⟨j, hj, rfl, hot, htr⟩ := hrel
              have HOT2 := Lib.hid hot
              have HTR := Lib.hid htr
              clear hot htr
              by_cases hlt : j < xl
              · have hji : (j : Int) < (xl : Int) := by omega
                obtain ⟨go, rfl, o1, o2⟩ := HOT2.out.cell (by rw [HXL.out]; exact hlt)
                have hxc : (j : Int) < (cx : Int) := by have := HB.out.le; omega
                have hoc : (j : Int) < (oc : Int) := by
                  rcases HO2.out.2 with ⟨e, -⟩ | ⟨g, cap, cur, e, -, -, hnc, -⟩
                  · injection e with e; cases e
                  · injection e with e1 e2 e3; rw [e3]; have := HXL.out; omega
                obtain ⟨b1, b2, b3, b4⟩ := HON.out go rfl
                have hne : gx ≠ go := fun e => by subst e; have h1 := HO2.out; rcases h1.2 with ⟨e, -⟩ | ⟨g, cap, cur, e, -, hg, -⟩
                                                  · injection e with e; cases e
                                                  · injection e with e1 e2 e3
                                                    injection e1 with e1
                                                    injection e1 with e1
                                                    subst e1
                                                    exact absurd (tneD hg HX2.out) (by decide)
                have hx3 := HDU3.out.heap HX2.out HGN.out.1 HGN.out.2.1
                have hxr := HTR.out.heap hx3 (fun e => hne (by injection e with e; injection e with e; exact e.symm))
                have d2 : wr.cell? ⟨gx, 2, none⟩ = some (.slice x xl cx) := by rw [cell_of_row _ gx 2 _ _ (0, 0) hxr]; rfl
                obtain ⟨b, off, rfl, hdat⟩ : ∃ b off, x = some ⟨b, off, none⟩ ∧ wr.cell? ⟨b, off + j, none⟩ = some (.int .u8 (by8 l j)) := by
                  have hy := (HB.out.below HB2.out).trn (F := fun k => F k ∨ G k) (fun h0 b off e h => by obtain ⟨a1, a2⟩ := HBN.out h0 b off e; exact h.elim a1 a2) HDU3.out.tr
                  have hy2 := hy.trn (F := fun k => (some ⟨go, 0, none⟩ : Option Addr) = some ⟨k, 0, none⟩) (fun h0 b off e h => by
                    injection h with h
                    injection h with h
                    subst h
                    have := HB.out.blk_lt h0 e
                    omega) HTR.out
                  rcases hy2.adr with h9 | ⟨b, off, e, hc⟩
                  · have := hy2.le; omega
                  · exact ⟨b, off, e, hc j hlt⟩
                have hzz : (by8 l j != by8 l j) = false := by simp
                have HLT := Lib.hid hlt
                have HNE := Lib.hid hne
                clear hne hx3 hxr b1 b2 b3 b4 hlt
                obtain ⟨z, hz⟩ : ∃ z, by8 l j = z := ⟨_, rfl⟩
                rw [hz] at o1 hdat hzz
                clear hz
                go_wp2
                go_quiet (fail)
                have hk6 := below_drewN9 (Below.refl wr.heap.size wr) nq
                have HOT6 := Lib.hid (HOT2.out.keep (W' := wr.drewN nq) (fun k hk => hk6.block k (by obtain ⟨c1, -⟩ := HON.out k hk; exact Nat.lt_of_lt_of_le c1 (Nat.le_trans HDU3.out.tr.size HTR.out.size))))
                have HTR6 := Lib.hid (HTR.out.then (Trn.of hk6))
                clear hk6 d2 hdat o1 o2
                obtain ⟨go', e6, o1, o2⟩ := HOT6.out.cell (by rw [HXL.out]; exact HLT.out)
                injection e6 with e6
                injection e6 with e6
                subst e6
                generalize wr.drewN nq = W6 at *
                obtain ⟨z', hz'⟩ : ∃ z, by8 l j = z := ⟨_, rfl⟩
                rw [hz'] at o1
                clear hz'
                go_wp2
                trace_state
                go_roundw
                case rel => exact ⟨j + 1, HLT.out, by go_num, HOT6.out.step _, HTR6.out.set (.inl rfl)⟩
                case measure => simp [intOf]; have := HLT.out; omega
              · obtain rfl : j = xl := by omega
                go_wp2
                go_ret
                have hfin := HDU3.out.aside (st := st) HTR.out (fun k hk => HON.out k hk) HB2.out
                rw [HST.out, HS9.out]
                exact ⟨rfl, hfin⟩
        · have hb3 : (kd == 3) = false := by simpa using hk3
          by_cases hk4 : kd = 4
          · subst hk4
            have hq0 : ((4 : Int) == 0) = false := by decide
            have hq1 : ((4 : Int) == 1) = false := by decide
            have hq2 : ((4 : Int) == 2) = false := by decide
            have hq3 : ((4 : Int) == 3) = false := by decide
            have hst : st.act ⟨4, nm, v9, l, n, kp⟩ = st.drop nm := by unfold Ds.act; simp
            obtain ⟨E, hE⟩ : ∃ z, (st.drop nm).1 = z := ⟨_, rfl⟩
            obtain ⟨s', hs'⟩ : ∃ z, (st.drop nm).2 = z := ⟨_, rfl⟩
            have HP := Lib.hid (fun (s2 : Ds) (W : World) (h : Du w2 F G q r st s2 W) => du_drop h nm HNM.out)
            have HQ := Lib.hid (fun (s1 : Ds) (W : World) (h : Du w2 F G q r s1 st W) => du_rdrop h nm)
            have HST := Lib.hid hst
            rw [hE, hs', HTX.out] at HP HQ
            have HS9 := Lib.hid hs'
            clear hst hE hs'
            go_upto_region 13 with (fail)
            refine wp_region_inv [none, none, none, none, none, none, none, none, some 8, some 9, none, none, none, none, none, none, none, none, none, none, none, none, none, none, none, none, none, none, none, none, none, none, none, none, none, none, none, none, none, none, none, none, none, none, none, none, none, none, none, none, none, none, none, none, none, none, none, none, none, none, none, none, none, none, none, none, some 0, some 1, some 2, some 3, some 4, some 5, some 6, some 7, none, none, none, none, none, none, none, none, none, none, none, none, none, none, none, none, none, none, none, none, none, none, none, none, none, none, none, none, none, none, none, none, none, none, none, none, none, none, none, none, none, none, none, none, none, none, none, none, none, none, none, none, none, none, none] (fun i => [undef, undef, undef, undef, undef, undef, undef, undef, .int .i64 0, .int .i64 0].getD i undef) (DuI w2 F G q r st s' 3 7 10 [some (.pointer (some ⟨q, 0, none⟩)), some (.pointer (some ⟨gx, 1, none⟩)), some (.string tx), some (.int .i64 E), some (.pointer (some ⟨r, 0, none⟩)), some (.pointer (some ⟨gx, 1, none⟩)), some (.string tx), some (.int .i64 E), some (.int .i64 E), some (.int .i64 E)]) (by kernel_rfl) (by kernel_rfl) rfl rfl (fun L hL => ⟨by rw [if_neg (by rw [hL 3 (by decide)]; simp), if_neg (by rw [hL 7 (by decide)]; simp)]; exact HDU.out.below ⟨rfl, rfl, rfl, Nat.le_refl _, fun _ _ => rfl⟩, fun i hi h => by rw [hL i hi] at h; cases h⟩) ?_ ?_
            · simp only [invOps, and_true]
              refine ⟨?_, ?_, ?_, ?_, ?_, ?_, ?_, ?_, ?_, ?_⟩
              · intro L xs W hI hL hn
                simp only [flowAct, List.zipWith_cons_cons, List.zipWith_nil_left]
                go_wp2_with (fail)
                exact ⟨rfl, _, rfl, hI.pure 0 (by decide) (by decide) (fun x hx => by injection hx with hx)⟩
              · intro L xs W hI hL hn
                simp only [flowAct, List.zipWith_cons_cons, List.zipWith_nil_left]
                go_wp2_with (fail)
                exact ⟨rfl, _, rfl, hI.pure 1 (by decide) (by decide) (fun x hx => by injection hx with hx)⟩
              · intro L xs W hI hL hn
                simp [invNeeds, Region.binds] at hn
                have e1 : xs 1 = .pointer (some ⟨gx, 1, none⟩) := hI.2 1 (by decide) (by simp only [hn]) _ rfl
                obtain ⟨a0, a1, a2, a3, a4⟩ := HAC.out _ _ _ hI.1
                simp only [flowAct, List.zipWith_cons_cons, List.zipWith_nil_left]
                simp only [e1]
                go_wp2_with (fail)
                exact ⟨rfl, _, rfl, hI.pure 2 (by decide) (by decide) (fun x hx => by injection hx with hx)⟩
              · intro L xs W hI hL hn
                simp [invNeeds, Region.binds] at hn
                have e0 : xs 0 = .pointer (some ⟨q, 0, none⟩) := hI.2 0 (by decide) (by simp only [hn]) _ rfl
                have e2 : xs 2 = .string tx := hI.2 2 (by decide) (by simp only [hn]) _ rfl
                have hdu : Du w2 F G q r st (if L 7 = true then s' else st) W := by have := hI.1; rwa [if_neg (by rw [hL]; simp)] at this
                have HDW := Lib.hid hdu
                clear hdu
                simp only [flowAct, List.zipWith_cons_cons, List.zipWith_nil_left]
                simp only [e0, e2]
                go_wp2_with (go_at_call 26; (with_reducible refine (HP.out _ _ HDW.out).mono ?_); rintro e9 w9 ⟨rfl, hd9⟩)
                exact ⟨rfl, _, rfl, hI.pa (by decide) (fun x hx => by injection hx with hx) hd9⟩
              · intro L xs W hI hL hn
                simp only [flowAct, List.zipWith_cons_cons, List.zipWith_nil_left]
                go_wp2_with (fail)
                exact ⟨rfl, _, rfl, hI.pure 4 (by decide) (by decide) (fun x hx => by injection hx with hx)⟩
              · intro L xs W hI hL hn
                simp only [flowAct, List.zipWith_cons_cons, List.zipWith_nil_left]
                go_wp2_with (fail)
                exact ⟨rfl, _, rfl, hI.pure 5 (by decide) (by decide) (fun x hx => by injection hx with hx)⟩
              · intro L xs W hI hL hn
                simp [invNeeds, Region.binds] at hn
                have e5 : xs 5 = .pointer (some ⟨gx, 1, none⟩) := hI.2 5 (by decide) (by simp only [hn]) _ rfl
                obtain ⟨a0, a1, a2, a3, a4⟩ := HAC.out _ _ _ hI.1
                simp only [flowAct, List.zipWith_cons_cons, List.zipWith_nil_left]
                simp only [e5]
                go_wp2_with (fail)
                exact ⟨rfl, _, rfl, hI.pure 6 (by decide) (by decide) (fun x hx => by injection hx with hx)⟩
              · intro L xs W hI hL hn
                simp [invNeeds, Region.binds] at hn
                have e4 : xs 4 = .pointer (some ⟨r, 0, none⟩) := hI.2 4 (by decide) (by simp only [hn]) _ rfl
                have e6 : xs 6 = .string tx := hI.2 6 (by decide) (by simp only [hn]) _ rfl
                have hdu : Du w2 F G q r (if L 3 = true then s' else st) st W := by have := hI.1; rwa [if_neg (c := L 7 = true) (by rw [hL]; simp)] at this
                have HDW := Lib.hid hdu
                clear hdu
                simp only [flowAct, List.zipWith_cons_cons, List.zipWith_nil_left]
                simp only [e4, e6]
                go_wp2_with (go_at_call 53; (with_reducible refine (HQ.out _ _ HDW.out).mono ?_); rintro e9 w9 ⟨rfl, hd9⟩)
                exact ⟨rfl, _, rfl, hI.pb (by decide) (fun x hx => by injection hx with hx) hd9⟩
              · intro L xs W hI hL hn
                simp [invNeeds, Region.binds] at hn
                have e3 : xs 3 = .int .i64 E := hI.2 3 (by decide) (by simp only [hn]) _ rfl
                simp only [flowAct, List.zipWith_cons_cons, List.zipWith_nil_left]
                simp only [e3]
                go_wp2_with (fail)
                exact ⟨rfl, _, rfl, hI.pure 8 (by decide) (by decide) (fun x hx => by injection hx with hx)⟩
              · intro L xs W hI hL hn
                simp [invNeeds, Region.binds] at hn
                have e7 : xs 7 = .int .i64 E := hI.2 7 (by decide) (by simp only [hn]) _ rfl
                simp only [flowAct, List.zipWith_cons_cons, List.zipWith_nil_left]
                simp only [e7]
                go_wp2_with (fail)
                exact ⟨rfl, _, rfl, hI.pure 9 (by decide) (by decide) (fun x hx => by injection hx with hx)⟩
            · intro L xs W3 hI hL
              have hdu := hI.1
              rw [if_pos (hL 3 (by decide)), if_pos (hL 7 (by decide))] at hdu
              have x8 : xs 8 = .int .i64 E := hI.2 8 (by decide) (hL 8 (by decide)) _ rfl
              have x9 : xs 9 = .int .i64 E := hI.2 9 (by decide) (hL 9 (by decide)) _ rfl
              have HDU3 := Lib.hid hdu
              simp only [flowAct, List.zipWith_cons_cons, List.zipWith_nil_left]
              simp only [x8, x9]
              clear x8 x9 hI hL hdu HP HQ a0
              have hEE : (E != E) = false := by simp
              go_wp2
              go_loopw [106] (fun i wr => ∃ j : Nat, j ≤ xl ∧ i = .int .i64 (j : Int) ∧ OwT oa l wr j ∧ Trn (fun k => oa = some ⟨k, 0, none⟩) W3 wr) (fun i _ => xl - (intOf i).toNat)
              case atStart => exact ⟨0, by omega, rfl, HOT.out.1.keep (fun k hk => by obtain ⟨b1, b2, b3, -⟩ := HON.out k hk; exact HDU3.out.tr.block k b1 (fun h => h.elim b2 b3)), Trn.refl⟩
              case round =>
                obtain ⟨j, hj, rfl, hot, htr⟩ := hrel
                have HOT2 := Lib.hid hot
                have HTR := Lib.hid htr
                clear hot htr
                by_cases hlt : j < xl
                · have hji : (j : Int) < (xl : Int) := by omega
                  obtain ⟨go, rfl, o1, o2⟩ := HOT2.out.cell (by rw [HXL.out]; exact hlt)
                  have hxc : (j : Int) < (cx : Int) := by have := HB.out.le; omega
                  have hoc : (j : Int) < (oc : Int) := by
                    rcases HO2.out.2 with ⟨e, -⟩ | ⟨g, cap, cur, e, -, -, hnc, -⟩
                    · injection e with e; cases e
                    · injection e with e1 e2 e3; rw [e3]; have := HXL.out; omega
                  obtain ⟨b1, b2, b3, b4⟩ := HON.out go rfl
                  have hne : gx ≠ go := fun e => by subst e; have h1 := HO2.out; rcases h1.2 with ⟨e, -⟩ | ⟨g, cap, cur, e, -, hg, -⟩
                                                    · injection e with e; cases e
                                                    · injection e with e1 e2 e3
                                                      injection e1 with e1
                                                      injection e1 with e1
                                                      subst e1
                                                      exact absurd (tneD hg HX2.out) (by decide)
                  have hx3 := HDU3.out.heap HX2.out HGN.out.1 HGN.out.2.1
                  have hxr := HTR.out.heap hx3 (fun e => hne (by injection e with e; injection e with e; exact e.symm))
                  have d2 : wr.cell? ⟨gx, 2, none⟩ = some (.slice x xl cx) := by rw [cell_of_row _ gx 2 _ _ (0, 0) hxr]; rfl
                  obtain ⟨b, off, rfl, hdat⟩ : ∃ b off, x = some ⟨b, off, none⟩ ∧ wr.cell? ⟨b, off + j, none⟩ = some (.int .u8 (by8 l j)) := by
                    have hy := (HB.out.below HB2.out).trn (F := fun k => F k ∨ G k) (fun h0 b off e h => by obtain ⟨a1, a2⟩ := HBN.out h0 b off e; exact h.elim a1 a2) HDU3.out.tr
                    have hy2 := hy.trn (F := fun k => (some ⟨go, 0, none⟩ : Option Addr) = some ⟨k, 0, none⟩) (fun h0 b off e h => by
                      injection h with h
                      injection h with h
                      subst h
                      have := HB.out.blk_lt h0 e
                      omega) HTR.out
                    rcases hy2.adr with h9 | ⟨b, off, e, hc⟩
                    · have := hy2.le; omega
                    · exact ⟨b, off, e, hc j hlt⟩
                  have hzz : (by8 l j != by8 l j) = false := by simp
                  have HLT := Lib.hid hlt
                  have HNE := Lib.hid hne
                  clear hne hx3 hxr b1 b2 b3 b4 hlt
                  obtain ⟨z, hz⟩ : ∃ z, by8 l j = z := ⟨_, rfl⟩
                  rw [hz] at o1 hdat hzz
                  clear hz
                  go_wp2
                  go_quiet (fail)
                  have hk6 := below_drewN9 (Below.refl wr.heap.size wr) nq
                  have HOT6 := Lib.hid (HOT2.out.keep (W' := wr.drewN nq) (fun k hk => hk6.block k (by obtain ⟨c1, -⟩ := HON.out k hk; exact Nat.lt_of_lt_of_le c1 (Nat.le_trans HDU3.out.tr.size HTR.out.size))))
                  have HTR6 := Lib.hid (HTR.out.then (Trn.of hk6))
                  clear hk6 d2 hdat o1 o2
                  obtain ⟨go', e6, o1, o2⟩ := HOT6.out.cell (by rw [HXL.out]; exact HLT.out)
                  injection e6 with e6
                  injection e6 with e6
                  subst e6
                  generalize wr.drewN nq = W6 at *
                  obtain ⟨z', hz'⟩ : ∃ z, by8 l j = z := ⟨_, rfl⟩
                  rw [hz'] at o1
                  clear hz'
                  go_wp2
                  trace_state
                  go_roundw
                  case rel => exact ⟨j + 1, HLT.out, by go_num, HOT6.out.step _, HTR6.out.set (.inl rfl)⟩
                  case measure => simp [intOf]; have := HLT.out; omega
                · obtain rfl : j = xl := by omega
                  go_wp2
                  go_ret
                  have hfin := HDU3.out.aside (st := st) HTR.out (fun k hk => HON.out k hk) HB2.out
                  rw [HST.out, HS9.out]
                  exact ⟨rfl, hfin⟩
          · have hb4 : (kd == 4) = false := by simpa using hk4
            by_cases hk5 : kd = 5
            · subst hk5
              have hq0 : ((5 : Int) == 0) = false := by decide
              have hq1 : ((5 : Int) == 1) = false := by decide
              have hq2 : ((5 : Int) == 2) = false := by decide
              have hq3 : ((5 : Int) == 3) = false := by decide
              have hq4 : ((5 : Int) == 4) = false := by decide
              have hst : st.act ⟨5, nm, v9, l, n, kp⟩ = st.arm n kp := by unfold Ds.act; simp
              obtain ⟨E, hE⟩ : ∃ z, (st.arm n kp).1 = z := ⟨_, rfl⟩
              obtain ⟨s', hs'⟩ : ∃ z, (st.arm n kp).2 = z := ⟨_, rfl⟩
              have HP := Lib.hid (fun (s2 : Ds) (W : World) (h : Du w2 F G q r st s2 W) => du_arm h n kp HNN.out)
              have HQ := Lib.hid (fun (s1 : Ds) (W : World) (h : Du w2 F G q r s1 st W) => du_rarm h n kp HNN.out)
              have HST := Lib.hid hst
              rw [hE, hs'] at HP HQ
              have HS9 := Lib.hid hs'
              clear hst hE hs'
              go_upto_region 15 with (fail)
              refine wp_region_inv [none, none, none, none, none, none, none, none, some 12, some 13, none, none, none, none, none, none, none, none, none, none, none, none, none, none, none, none, none, none, none, none, none, none, none, none, none, none, none, none, none, none, none, none, none, none, none, none, none, none, none, none, none, none, none, none, none, none, none, none, none, none, none, none, none, none, none, none, none, none, none, none, none, none, none, none, none, none, some 0, some 1, some 2, some 3, some 4, some 5, some 6, some 7, some 8, some 9, some 10, some 11, none, none, none, none, none, none, none, none, none, none, none, none, none, none, none, none, none, none, none, none, none, none, none, none, none, none, none, none, none, none, none, none, none, none, none, none, none, none, none, none, none] (fun i => [undef, undef, undef, undef, undef, undef, undef, undef, undef, undef, undef, undef, .int .i64 0, .int .i64 0].getD i undef) (DuI w2 F G q r st s' 5 11 14 [some (.pointer (some ⟨q, 0, none⟩)), some (.pointer (some ⟨gx, 3, none⟩)), some (.int .i64 n), some (.pointer (some ⟨gx, 4, none⟩)), some (.int .i64 kp), some (.int .i64 E), some (.pointer (some ⟨r, 0, none⟩)), some (.pointer (some ⟨gx, 3, none⟩)), some (.int .i64 n), some (.pointer (some ⟨gx, 4, none⟩)), some (.int .i64 kp), some (.int .i64 E), some (.int .i64 E), some (.int .i64 E)]) (by kernel_rfl) (by kernel_rfl) rfl rfl (fun L hL => ⟨by rw [if_neg (by rw [hL 5 (by decide)]; simp), if_neg (by rw [hL 11 (by decide)]; simp)]; exact HDU.out.below ⟨rfl, rfl, rfl, Nat.le_refl _, fun _ _ => rfl⟩, fun i hi h => by rw [hL i hi] at h; cases h⟩) ?_ ?_
              · simp only [invOps, and_true]
                refine ⟨?_, ?_, ?_, ?_, ?_, ?_, ?_, ?_, ?_, ?_, ?_, ?_, ?_, ?_⟩
                · intro L xs W hI hL hn
                  simp only [flowAct, List.zipWith_cons_cons, List.zipWith_nil_left]
                  go_wp2_with (fail)
                  exact ⟨rfl, _, rfl, hI.pure 0 (by decide) (by decide) (fun x hx => by injection hx with hx)⟩
                · intro L xs W hI hL hn
                  simp only [flowAct, List.zipWith_cons_cons, List.zipWith_nil_left]
                  go_wp2_with (fail)
                  exact ⟨rfl, _, rfl, hI.pure 1 (by decide) (by decide) (fun x hx => by injection hx with hx)⟩
                · intro L xs W hI hL hn
                  simp [invNeeds, Region.binds] at hn
                  have e1 : xs 1 = .pointer (some ⟨gx, 3, none⟩) := hI.2 1 (by decide) (by simp only [hn]) _ rfl
                  obtain ⟨a0, a1, a2, a3, a4⟩ := HAC.out _ _ _ hI.1
                  simp only [flowAct, List.zipWith_cons_cons, List.zipWith_nil_left]
                  simp only [e1]
                  go_wp2_with (fail)
                  exact ⟨rfl, _, rfl, hI.pure 2 (by decide) (by decide) (fun x hx => by injection hx with hx)⟩
                · intro L xs W hI hL hn
                  simp only [flowAct, List.zipWith_cons_cons, List.zipWith_nil_left]
                  go_wp2_with (fail)
                  exact ⟨rfl, _, rfl, hI.pure 3 (by decide) (by decide) (fun x hx => by injection hx with hx)⟩
                · intro L xs W hI hL hn
                  simp [invNeeds, Region.binds] at hn
                  have e3 : xs 3 = .pointer (some ⟨gx, 4, none⟩) := hI.2 3 (by decide) (by simp only [hn]) _ rfl
                  obtain ⟨a0, a1, a2, a3, a4⟩ := HAC.out _ _ _ hI.1
                  simp only [flowAct, List.zipWith_cons_cons, List.zipWith_nil_left]
                  simp only [e3]
                  go_wp2_with (fail)
                  exact ⟨rfl, _, rfl, hI.pure 4 (by decide) (by decide) (fun x hx => by injection hx with hx)⟩
                · intro L xs W hI hL hn
                  simp [invNeeds, Region.binds] at hn
                  have e0 : xs 0 = .pointer (some ⟨q, 0, none⟩) := hI.2 0 (by decide) (by simp only [hn]) _ rfl
                  have e2 : xs 2 = .int .i64 n := hI.2 2 (by decide) (by simp only [hn]) _ rfl
                  have e4 : xs 4 = .int .i64 kp := hI.2 4 (by decide) (by simp only [hn]) _ rfl
                  have hdu : Du w2 F G q r st (if L 11 = true then s' else st) W := by have := hI.1; rwa [if_neg (by rw [hL]; simp)] at this
                  have HDW := Lib.hid hdu
                  clear hdu
                  simp only [flowAct, List.zipWith_cons_cons, List.zipWith_nil_left]
                  simp only [e0, e2, e4]
                  go_wp2_with (go_at_call 54; (with_reducible refine (HP.out _ _ HDW.out).mono ?_); rintro e9 w9 ⟨rfl, hd9⟩)
                  exact ⟨rfl, _, rfl, hI.pa (by decide) (fun x hx => by injection hx with hx) hd9⟩
                · intro L xs W hI hL hn
                  simp only [flowAct, List.zipWith_cons_cons, List.zipWith_nil_left]
                  go_wp2_with (fail)
                  exact ⟨rfl, _, rfl, hI.pure 6 (by decide) (by decide) (fun x hx => by injection hx with hx)⟩
                · intro L xs W hI hL hn
                  simp only [flowAct, List.zipWith_cons_cons, List.zipWith_nil_left]
                  go_wp2_with (fail)
                  exact ⟨rfl, _, rfl, hI.pure 7 (by decide) (by decide) (fun x hx => by injection hx with hx)⟩
                · intro L xs W hI hL hn
                  simp [invNeeds, Region.binds] at hn
                  have e7 : xs 7 = .pointer (some ⟨gx, 3, none⟩) := hI.2 7 (by decide) (by simp only [hn]) _ rfl
                  obtain ⟨a0, a1, a2, a3, a4⟩ := HAC.out _ _ _ hI.1
                  simp only [flowAct, List.zipWith_cons_cons, List.zipWith_nil_left]
                  simp only [e7]
                  go_wp2_with (fail)
                  exact ⟨rfl, _, rfl, hI.pure 8 (by decide) (by decide) (fun x hx => by injection hx with hx)⟩
                · intro L xs W hI hL hn
                  simp only [flowAct, List.zipWith_cons_cons, List.zipWith_nil_left]
                  go_wp2_with (fail)
                  exact ⟨rfl, _, rfl, hI.pure 9 (by decide) (by decide) (fun x hx => by injection hx with hx)⟩
                · intro L xs W hI hL hn
                  simp [invNeeds, Region.binds] at hn
                  have e9 : xs 9 = .pointer (some ⟨gx, 4, none⟩) := hI.2 9 (by decide) (by simp only [hn]) _ rfl
                  obtain ⟨a0, a1, a2, a3, a4⟩ := HAC.out _ _ _ hI.1
                  simp only [flowAct, List.zipWith_cons_cons, List.zipWith_nil_left]
                  simp only [e9]
                  go_wp2_with (fail)
                  exact ⟨rfl, _, rfl, hI.pure 10 (by decide) (by decide) (fun x hx => by injection hx with hx)⟩
                · intro L xs W hI hL hn
                  simp [invNeeds, Region.binds] at hn
                  have e6 : xs 6 = .pointer (some ⟨r, 0, none⟩) := hI.2 6 (by decide) (by simp only [hn]) _ rfl
                  have e8 : xs 8 = .int .i64 n := hI.2 8 (by decide) (by simp only [hn]) _ rfl
                  have e10 : xs 10 = .int .i64 kp := hI.2 10 (by decide) (by simp only [hn]) _ rfl
                  have hdu : Du w2 F G q r (if L 5 = true then s' else st) st W := by have := hI.1; rwa [if_neg (c := L 11 = true) (by rw [hL]; simp)] at this
                  have HDW := Lib.hid hdu
                  clear hdu
                  simp only [flowAct, List.zipWith_cons_cons, List.zipWith_nil_left]
                  simp only [e6, e8, e10]
                  go_wp2_with (go_at_call 55; (with_reducible refine (HQ.out _ _ HDW.out).mono ?_); rintro e9 w9 ⟨rfl, hd9⟩)
                  exact ⟨rfl, _, rfl, hI.pb (by decide) (fun x hx => by injection hx with hx) hd9⟩
                · intro L xs W hI hL hn
                  simp [invNeeds, Region.binds] at hn
                  have e5 : xs 5 = .int .i64 E := hI.2 5 (by decide) (by simp only [hn]) _ rfl
                  simp only [flowAct, List.zipWith_cons_cons, List.zipWith_nil_left]
                  simp only [e5]
                  go_wp2_with (fail)
                  exact ⟨rfl, _, rfl, hI.pure 12 (by decide) (by decide) (fun x hx => by injection hx with hx)⟩
                · intro L xs W hI hL hn
                  simp [invNeeds, Region.binds] at hn
                  have e11 : xs 11 = .int .i64 E := hI.2 11 (by decide) (by simp only [hn]) _ rfl
                  simp only [flowAct, List.zipWith_cons_cons, List.zipWith_nil_left]
                  simp only [e11]
                  go_wp2_with (fail)
                  exact ⟨rfl, _, rfl, hI.pure 13 (by decide) (by decide) (fun x hx => by injection hx with hx)⟩
              · intro L xs W3 hI hL
                have hdu := hI.1
                rw [if_pos (hL 5 (by decide)), if_pos (hL 11 (by decide))] at hdu
                have x8 : xs 12 = .int .i64 E := hI.2 12 (by decide) (hL 12 (by decide)) _ rfl
                have x9 : xs 13 = .int .i64 E := hI.2 13 (by decide) (hL 13 (by decide)) _ rfl
                have HDU3 := Lib.hid hdu
                simp only [flowAct, List.zipWith_cons_cons, List.zipWith_nil_left]
                simp only [x8, x9]
                clear x8 x9 hI hL hdu HP HQ a0
                have hEE : (E != E) = false := by simp
                go_wp2
                go_loopw [106] (fun i wr => ∃ j : Nat, j ≤ xl ∧ i = .int .i64 (j : Int) ∧ OwT oa l wr j ∧ Trn (fun k => oa = some ⟨k, 0, none⟩) W3 wr) (fun i _ => xl - (intOf i).toNat)
                case atStart => exact ⟨0, by omega, rfl, HOT.out.1.keep (fun k hk => by obtain ⟨b1, b2, b3, -⟩ := HON.out k hk; exact HDU3.out.tr.block k b1 (fun h => h.elim b2 b3)), Trn.refl⟩
                case round =>
                  obtain ⟨j, hj, rfl, hot, htr⟩ := hrel
                  have HOT2 := Lib.hid hot
                  have HTR := Lib.hid htr
                  clear hot htr
                  by_cases hlt : j < xl
                  · have hji : (j : Int) < (xl : Int) := by omega
                    obtain ⟨go, rfl, o1, o2⟩ := HOT2.out.cell (by rw [HXL.out]; exact hlt)
                    have hxc : (j : Int) < (cx : Int) := by have := HB.out.le; omega
                    have hoc : (j : Int) < (oc : Int) := by
                      rcases HO2.out.2 with ⟨e, -⟩ | ⟨g, cap, cur, e, -, -, hnc, -⟩
                      · injection e with e; cases e
                      · injection e with e1 e2 e3; rw [e3]; have := HXL.out; omega
                    obtain ⟨b1, b2, b3, b4⟩ := HON.out go rfl
                    have hne : gx ≠ go := fun e => by subst e; have h1 := HO2.out; rcases h1.2 with ⟨e, -⟩ | ⟨g, cap, cur, e, -, hg, -⟩
                                                      · injection e with e; cases e
                                                      · injection e with e1 e2 e3
                                                        injection e1 with e1
                                                        injection e1 with e1
                                                        subst e1
                                                        exact absurd (tneD hg HX2.out) (by decide)
                    have hx3 := HDU3.out.heap HX2.out HGN.out.1 HGN.out.2.1
                    have hxr := HTR.out.heap hx3 (fun e => hne (by injection e with e; injection e with e; exact e.symm))
                    have d2 : wr.cell? ⟨gx, 2, none⟩ = some (.slice x xl cx) := by rw [cell_of_row _ gx 2 _ _ (0, 0) hxr]; rfl
                    obtain ⟨b, off, rfl, hdat⟩ : ∃ b off, x = some ⟨b, off, none⟩ ∧ wr.cell? ⟨b, off + j, none⟩ = some (.int .u8 (by8 l j)) := by
                      have hy := (HB.out.below HB2.out).trn (F := fun k => F k ∨ G k) (fun h0 b off e h => by obtain ⟨a1, a2⟩ := HBN.out h0 b off e; exact h.elim a1 a2) HDU3.out.tr
                      have hy2 := hy.trn (F := fun k => (some ⟨go, 0, none⟩ : Option Addr) = some ⟨k, 0, none⟩) (fun h0 b off e h => by
                        injection h with h
                        injection h with h
                        subst h
                        have := HB.out.blk_lt h0 e
                        omega) HTR.out
                      rcases hy2.adr with h9 | ⟨b, off, e, hc⟩
                      · have := hy2.le; omega
                      · exact ⟨b, off, e, hc j hlt⟩
                    have hzz : (by8 l j != by8 l j) = false := by simp
                    have HLT := Lib.hid hlt
                    have HNE := Lib.hid hne
                    clear hne hx3 hxr b1 b2 b3 b4 hlt
                    obtain ⟨z, hz⟩ : ∃ z, by8 l j = z := ⟨_, rfl⟩
                    rw [hz] at o1 hdat hzz
                    clear hz
                    go_wp2
                    go_quiet (fail)
                    have hk6 := below_drewN9 (Below.refl wr.heap.size wr) nq
                    have HOT6 := Lib.hid (HOT2.out.keep (W' := wr.drewN nq) (fun k hk => hk6.block k (by obtain ⟨c1, -⟩ := HON.out k hk; exact Nat.lt_of_lt_of_le c1 (Nat.le_trans HDU3.out.tr.size HTR.out.size))))
                    have HTR6 := Lib.hid (HTR.out.then (Trn.of hk6))
                    clear hk6 d2 hdat o1 o2
                    obtain ⟨go', e6, o1, o2⟩ := HOT6.out.cell (by rw [HXL.out]; exact HLT.out)
                    injection e6 with e6
                    injection e6 with e6
                    subst e6
                    generalize wr.drewN nq = W6 at *
                    obtain ⟨z', hz'⟩ : ∃ z, by8 l j = z := ⟨_, rfl⟩
                    rw [hz'] at o1
                    clear hz'
                    go_wp2
                    trace_state
                    go_roundw
                    case rel => exact ⟨j + 1, HLT.out, by go_num, HOT6.out.step _, HTR6.out.set (.inl rfl)⟩
                    case measure => simp [intOf]; have := HLT.out; omega
                  · obtain rfl : j = xl := by omega
                    go_wp2
                    go_ret
                    have hfin := HDU3.out.aside (st := st) HTR.out (fun k hk => HON.out k hk) HB2.out
                    rw [HST.out, HS9.out]
                    exact ⟨rfl, hfin⟩
            · have hb5 : (kd == 5) = false := by simpa using hk5
              by_cases hk6 : kd = 6
              · subst hk6
                have hq0 : ((6 : Int) == 0) = false := by decide
                have hq1 : ((6 : Int) == 1) = false := by decide
                have hq2 : ((6 : Int) == 2) = false := by decide
                have hq3 : ((6 : Int) == 3) = false := by decide
                have hq4 : ((6 : Int) == 4) = false := by decide
                have hq5 : ((6 : Int) == 5) = false := by decide
                have hst : st.act ⟨6, nm, v9, l, n, kp⟩ = st.fail kp := by unfold Ds.act; simp
                obtain ⟨E, hE⟩ : ∃ z, (st.fail kp).1 = z := ⟨_, rfl⟩
                obtain ⟨s', hs'⟩ : ∃ z, (st.fail kp).2 = z := ⟨_, rfl⟩
                have HP := Lib.hid (fun (s2 : Ds) (W : World) (h : Du w2 F G q r st s2 W) => du_fail h kp)
                have HQ := Lib.hid (fun (s1 : Ds) (W : World) (h : Du w2 F G q r s1 st W) => du_rfail h kp)
                have HST := Lib.hid hst
                rw [hE, hs'] at HP HQ
                have HS9 := Lib.hid hs'
                clear hst hE hs'
                go_upto_region 17 with (fail)
                refine wp_region_inv [none, none, none, none, none, none, none, none, some 8, some 9, none, none, none, none, none, none, none, none, none, none, none, none, none, none, none, none, none, none, none, none, none, none, none, none, none, none, none, none, none, none, none, none, none, none, none, none, none, none, none, none, none, none, none, none, none, none, none, none, none, none, none, none, none, none, none, none, none, none, none, none, none, none, none, none, none, none, none, none, none, none, none, none, none, none, none, none, none, none, none, none, some 0, some 1, some 2, some 3, some 4, some 5, some 6, some 7, none, none, none, none, none, none, none, none, none, none, none, none, none, none, none, none, none, none, none, none, none, none, none, none, none, none, none, none, none, none, none] (fun i => [undef, undef, undef, undef, undef, undef, undef, undef, .int .i64 0, .int .i64 0].getD i undef) (DuI w2 F G q r st s' 3 7 10 [some (.pointer (some ⟨q, 0, none⟩)), some (.pointer (some ⟨gx, 4, none⟩)), some (.int .i64 kp), some (.int .i64 E), some (.pointer (some ⟨r, 0, none⟩)), some (.pointer (some ⟨gx, 4, none⟩)), some (.int .i64 kp), some (.int .i64 E), some (.int .i64 E), some (.int .i64 E)]) (by kernel_rfl) (by kernel_rfl) rfl rfl (fun L hL => ⟨by rw [if_neg (by rw [hL 3 (by decide)]; simp), if_neg (by rw [hL 7 (by decide)]; simp)]; exact HDU.out.below ⟨rfl, rfl, rfl, Nat.le_refl _, fun _ _ => rfl⟩, fun i hi h => by rw [hL i hi] at h; cases h⟩) ?_ ?_
                · simp only [invOps, and_true]
                  refine ⟨?_, ?_, ?_, ?_, ?_, ?_, ?_, ?_, ?_, ?_⟩
                  · intro L xs W hI hL hn
                    simp only [flowAct, List.zipWith_cons_cons, List.zipWith_nil_left]
                    go_wp2_with (fail)
                    exact ⟨rfl, _, rfl, hI.pure 0 (by decide) (by decide) (fun x hx => by injection hx with hx)⟩
                  · intro L xs W hI hL hn
                    simp only [flowAct, List.zipWith_cons_cons, List.zipWith_nil_left]
                    go_wp2_with (fail)
                    exact ⟨rfl, _, rfl, hI.pure 1 (by decide) (by decide) (fun x hx => by injection hx with hx)⟩
                  · intro L xs W hI hL hn
                    simp [invNeeds, Region.binds] at hn
                    have e1 : xs 1 = .pointer (some ⟨gx, 4, none⟩) := hI.2 1 (by decide) (by simp only [hn]) _ rfl
                    obtain ⟨a0, a1, a2, a3, a4⟩ := HAC.out _ _ _ hI.1
                    simp only [flowAct, List.zipWith_cons_cons, List.zipWith_nil_left]
                    simp only [e1]
                    go_wp2_with (fail)
                    exact ⟨rfl, _, rfl, hI.pure 2 (by decide) (by decide) (fun x hx => by injection hx with hx)⟩
                  · intro L xs W hI hL hn
                    simp [invNeeds, Region.binds] at hn
                    have e0 : xs 0 = .pointer (some ⟨q, 0, none⟩) := hI.2 0 (by decide) (by simp only [hn]) _ rfl
                    have e2 : xs 2 = .int .i64 kp := hI.2 2 (by decide) (by simp only [hn]) _ rfl
                    have hdu : Du w2 F G q r st (if L 7 = true then s' else st) W := by have := hI.1; rwa [if_neg (by rw [hL]; simp)] at this
                    have HDW := Lib.hid hdu
                    clear hdu
                    simp only [flowAct, List.zipWith_cons_cons, List.zipWith_nil_left]
                    simp only [e0, e2]
                    go_wp2_with (go_at_call 22; (with_reducible refine (HP.out _ _ HDW.out).mono ?_); rintro e9 w9 ⟨rfl, hd9⟩)
                    exact ⟨rfl, _, rfl, hI.pa (by decide) (fun x hx => by injection hx with hx) hd9⟩
                  · intro L xs W hI hL hn
                    simp only [flowAct, List.zipWith_cons_cons, List.zipWith_nil_left]
                    go_wp2_with (fail)
                    exact ⟨rfl, _, rfl, hI.pure 4 (by decide) (by decide) (fun x hx => by injection hx with hx)⟩
                  · intro L xs W hI hL hn
                    simp only [flowAct, List.zipWith_cons_cons, List.zipWith_nil_left]
                    go_wp2_with (fail)
                    exact ⟨rfl, _, rfl, hI.pure 5 (by decide) (by decide) (fun x hx => by injection hx with hx)⟩
                  · intro L xs W hI hL hn
                    simp [invNeeds, Region.binds] at hn
                    have e5 : xs 5 = .pointer (some ⟨gx, 4, none⟩) := hI.2 5 (by decide) (by simp only [hn]) _ rfl
                    obtain ⟨a0, a1, a2, a3, a4⟩ := HAC.out _ _ _ hI.1
                    simp only [flowAct, List.zipWith_cons_cons, List.zipWith_nil_left]
                    simp only [e5]
                    go_wp2_with (fail)
                    exact ⟨rfl, _, rfl, hI.pure 6 (by decide) (by decide) (fun x hx => by injection hx with hx)⟩
                  · intro L xs W hI hL hn
                    simp [invNeeds, Region.binds] at hn
                    have e4 : xs 4 = .pointer (some ⟨r, 0, none⟩) := hI.2 4 (by decide) (by simp only [hn]) _ rfl
                    have e6 : xs 6 = .int .i64 kp := hI.2 6 (by decide) (by simp only [hn]) _ rfl
                    have hdu : Du w2 F G q r (if L 3 = true then s' else st) st W := by have := hI.1; rwa [if_neg (c := L 7 = true) (by rw [hL]; simp)] at this
                    have HDW := Lib.hid hdu
                    clear hdu
                    simp only [flowAct, List.zipWith_cons_cons, List.zipWith_nil_left]
                    simp only [e4, e6]
                    go_wp2_with (go_at_call 23; (with_reducible refine (HQ.out _ _ HDW.out).mono ?_); rintro e9 w9 ⟨rfl, hd9⟩)
                    exact ⟨rfl, _, rfl, hI.pb (by decide) (fun x hx => by injection hx with hx) hd9⟩
                  · intro L xs W hI hL hn
                    simp [invNeeds, Region.binds] at hn
                    have e3 : xs 3 = .int .i64 E := hI.2 3 (by decide) (by simp only [hn]) _ rfl
                    simp only [flowAct, List.zipWith_cons_cons, List.zipWith_nil_left]
                    simp only [e3]
                    go_wp2_with (fail)
                    exact ⟨rfl, _, rfl, hI.pure 8 (by decide) (by decide) (fun x hx => by injection hx with hx)⟩
                  · intro L xs W hI hL hn
                    simp [invNeeds, Region.binds] at hn
                    have e7 : xs 7 = .int .i64 E := hI.2 7 (by decide) (by simp only [hn]) _ rfl
                    simp only [flowAct, List.zipWith_cons_cons, List.zipWith_nil_left]
                    simp only [e7]
                    go_wp2_with (fail)
                    exact ⟨rfl, _, rfl, hI.pure 9 (by decide) (by decide) (fun x hx => by injection hx with hx)⟩
                · intro L xs W3 hI hL
                  have hdu := hI.1
                  rw [if_pos (hL 3 (by decide)), if_pos (hL 7 (by decide))] at hdu
                  have x8 : xs 8 = .int .i64 E := hI.2 8 (by decide) (hL 8 (by decide)) _ rfl
                  have x9 : xs 9 = .int .i64 E := hI.2 9 (by decide) (hL 9 (by decide)) _ rfl
                  have HDU3 := Lib.hid hdu
                  simp only [flowAct, List.zipWith_cons_cons, List.zipWith_nil_left]
                  simp only [x8, x9]
                  clear x8 x9 hI hL hdu HP HQ a0
                  have hEE : (E != E) = false := by simp
                  go_wp2
                  go_loopw [106] (fun i wr => ∃ j : Nat, j ≤ xl ∧ i = .int .i64 (j : Int) ∧ OwT oa l wr j ∧ Trn (fun k => oa = some ⟨k, 0, none⟩) W3 wr) (fun i _ => xl - (intOf i).toNat)
                  case atStart => exact ⟨0, by omega, rfl, HOT.out.1.keep (fun k hk => by obtain ⟨b1, b2, b3, -⟩ := HON.out k hk; exact HDU3.out.tr.block k b1 (fun h => h.elim b2 b3)), Trn.refl⟩
                  case round =>
                    obtain ⟨j, hj, rfl, hot, htr⟩ := hrel
                    have HOT2 := Lib.hid hot
                    have HTR := Lib.hid htr
                    clear hot htr
                    by_cases hlt : j < xl
                    · have hji : (j : Int) < (xl : Int) := by omega
                      obtain ⟨go, rfl, o1, o2⟩ := HOT2.out.cell (by rw [HXL.out]; exact hlt)
                      have hxc : (j : Int) < (cx : Int) := by have := HB.out.le; omega
                      have hoc : (j : Int) < (oc : Int) := by
                        rcases HO2.out.2 with ⟨e, -⟩ | ⟨g, cap, cur, e, -, -, hnc, -⟩
                        · injection e with e; cases e
                        · injection e with e1 e2 e3; rw [e3]; have := HXL.out; omega
                      obtain ⟨b1, b2, b3, b4⟩ := HON.out go rfl
                      have hne : gx ≠ go := fun e => by subst e; have h1 := HO2.out; rcases h1.2 with ⟨e, -⟩ | ⟨g, cap, cur, e, -, hg, -⟩
                                                        · injection e with e; cases e
                                                        · injection e with e1 e2 e3
                                                          injection e1 with e1
                                                          injection e1 with e1
                                                          subst e1
                                                          exact absurd (tneD hg HX2.out) (by decide)
                      have hx3 := HDU3.out.heap HX2.out HGN.out.1 HGN.out.2.1
                      have hxr := HTR.out.heap hx3 (fun e => hne (by injection e with e; injection e with e; exact e.symm))
                      have d2 : wr.cell? ⟨gx, 2, none⟩ = some (.slice x xl cx) := by rw [cell_of_row _ gx 2 _ _ (0, 0) hxr]; rfl
                      obtain ⟨b, off, rfl, hdat⟩ : ∃ b off, x = some ⟨b, off, none⟩ ∧ wr.cell? ⟨b, off + j, none⟩ = some (.int .u8 (by8 l j)) := by
                        have hy := (HB.out.below HB2.out).trn (F := fun k => F k ∨ G k) (fun h0 b off e h => by obtain ⟨a1, a2⟩ := HBN.out h0 b off e; exact h.elim a1 a2) HDU3.out.tr
                        have hy2 := hy.trn (F := fun k => (some ⟨go, 0, none⟩ : Option Addr) = some ⟨k, 0, none⟩) (fun h0 b off e h => by
                          injection h with h
                          injection h with h
                          subst h
                          have := HB.out.blk_lt h0 e
                          omega) HTR.out
                        rcases hy2.adr with h9 | ⟨b, off, e, hc⟩
                        · have := hy2.le; omega
                        · exact ⟨b, off, e, hc j hlt⟩
                      have hzz : (by8 l j != by8 l j) = false := by simp
                      have HLT := Lib.hid hlt
                      have HNE := Lib.hid hne
                      clear hne hx3 hxr b1 b2 b3 b4 hlt
                      obtain ⟨z, hz⟩ : ∃ z, by8 l j = z := ⟨_, rfl⟩
                      rw [hz] at o1 hdat hzz
                      clear hz
                      go_wp2
                      go_quiet (fail)
                      have hk6 := below_drewN9 (Below.refl wr.heap.size wr) nq
                      have HOT6 := Lib.hid (HOT2.out.keep (W' := wr.drewN nq) (fun k hk => hk6.block k (by obtain ⟨c1, -⟩ := HON.out k hk; exact Nat.lt_of_lt_of_le c1 (Nat.le_trans HDU3.out.tr.size HTR.out.size))))
                      have HTR6 := Lib.hid (HTR.out.then (Trn.of hk6))
                      clear hk6 d2 hdat o1 o2
                      obtain ⟨go', e6, o1, o2⟩ := HOT6.out.cell (by rw [HXL.out]; exact HLT.out)
                      injection e6 with e6
                      injection e6 with e6
                      subst e6
                      generalize wr.drewN nq = W6 at *
                      obtain ⟨z', hz'⟩ : ∃ z, by8 l j = z := ⟨_, rfl⟩
                      rw [hz'] at o1
                      clear hz'
                      go_wp2
                      trace_state
                      go_roundw
                      case rel => exact ⟨j + 1, HLT.out, by go_num, HOT6.out.step _, HTR6.out.set (.inl rfl)⟩
                      case measure => simp [intOf]; have := HLT.out; omega
                    · obtain rfl : j = xl := by omega
                      go_wp2
                      go_ret
                      have hfin := HDU3.out.aside (st := st) HTR.out (fun k hk => HON.out k hk) HB2.out
                      rw [HST.out, HS9.out]
                      exact ⟨rfl, hfin⟩
              · have hb6 : (kd == 6) = false := by simpa using hk6
                by_cases hk7 : kd = 7
                · subst hk7
                  have hst : st.act ⟨7, nm, v9, l, n, kp⟩ = (0, st.power) := by unfold Ds.act; simp
                  have HST := Lib.hid hst
                  clear hst
                  go_upto_region 21 with (first
                    | (go_at_call 24; (with_reducible refine (du_power HDU.out).mono ?_); rintro e8 w8 ⟨rfl, hd8⟩; have HDU8 := Lib.hid hd8; clear hd8)
                    | (go_at_call 25; (with_reducible refine (du_rpower HDU8.out).mono ?_); rintro e9 W3 ⟨rfl, hd9⟩; have HDU3 := Lib.hid hd9; clear hd9))
                  clear a0
                  obtain ⟨E, hE⟩ : ∃ z : Int, 0 = z := ⟨_, rfl⟩
                  clear hE
                  go_wp2
                  go_loopw [106] (fun i wr => ∃ j : Nat, j ≤ xl ∧ i = .int .i64 (j : Int) ∧ OwT oa l wr j ∧ Trn (fun k => oa = some ⟨k, 0, none⟩) W3 wr) (fun i _ => xl - (intOf i).toNat)
                  case atStart => exact ⟨0, by omega, rfl, HOT.out.1.keep (fun k hk => by obtain ⟨b1, b2, b3, -⟩ := HON.out k hk; exact HDU3.out.tr.block k b1 (fun h => h.elim b2 b3)), Trn.refl⟩
                  case round =>
                    obtain ⟨j, hj, rfl, hot, htr⟩ := hrel
                    have HOT2 := Lib.hid hot
                    have HTR := Lib.hid htr
                    clear hot htr
                    by_cases hlt : j < xl
                    · have hji : (j : Int) < (xl : Int) := by omega
                      obtain ⟨go, rfl, o1, o2⟩ := HOT2.out.cell (by rw [HXL.out]; exact hlt)
                      have hxc : (j : Int) < (cx : Int) := by have := HB.out.le; omega
                      have hoc : (j : Int) < (oc : Int) := by
                        rcases HO2.out.2 with ⟨e, -⟩ | ⟨g, cap, cur, e, -, -, hnc, -⟩
                        · injection e with e; cases e
                        · injection e with e1 e2 e3; rw [e3]; have := HXL.out; omega
                      obtain ⟨b1, b2, b3, b4⟩ := HON.out go rfl
                      have hne : gx ≠ go := fun e => by subst e; have h1 := HO2.out; rcases h1.2 with ⟨e, -⟩ | ⟨g, cap, cur, e, -, hg, -⟩
                                                        · injection e with e; cases e
                                                        · injection e with e1 e2 e3
                                                          injection e1 with e1
                                                          injection e1 with e1
                                                          subst e1
                                                          exact absurd (tneD hg HX2.out) (by decide)
                      have hx3 := HDU3.out.heap HX2.out HGN.out.1 HGN.out.2.1
                      have hxr := HTR.out.heap hx3 (fun e => hne (by injection e with e; injection e with e; exact e.symm))
                      have d2 : wr.cell? ⟨gx, 2, none⟩ = some (.slice x xl cx) := by rw [cell_of_row _ gx 2 _ _ (0, 0) hxr]; rfl
                      obtain ⟨b, off, rfl, hdat⟩ : ∃ b off, x = some ⟨b, off, none⟩ ∧ wr.cell? ⟨b, off + j, none⟩ = some (.int .u8 (by8 l j)) := by
                        have hy := (HB.out.below HB2.out).trn (F := fun k => F k ∨ G k) (fun h0 b off e h => by obtain ⟨a1, a2⟩ := HBN.out h0 b off e; exact h.elim a1 a2) HDU3.out.tr
                        have hy2 := hy.trn (F := fun k => (some ⟨go, 0, none⟩ : Option Addr) = some ⟨k, 0, none⟩) (fun h0 b off e h => by
                          injection h with h
                          injection h with h
                          subst h
                          have := HB.out.blk_lt h0 e
                          omega) HTR.out
                        rcases hy2.adr with h9 | ⟨b, off, e, hc⟩
                        · have := hy2.le; omega
                        · exact ⟨b, off, e, hc j hlt⟩
                      have hzz : (by8 l j != by8 l j) = false := by simp
                      have HLT := Lib.hid hlt
                      have HNE := Lib.hid hne
                      clear hne hx3 hxr b1 b2 b3 b4 hlt
                      obtain ⟨z, hz⟩ : ∃ z, by8 l j = z := ⟨_, rfl⟩
                      rw [hz] at o1 hdat hzz
                      clear hz
                      go_wp2
                      go_quiet (fail)
                      have hk6 := below_drewN9 (Below.refl wr.heap.size wr) nq
                      have HOT6 := Lib.hid (HOT2.out.keep (W' := wr.drewN nq) (fun k hk => hk6.block k (by obtain ⟨c1, -⟩ := HON.out k hk; exact Nat.lt_of_lt_of_le c1 (Nat.le_trans HDU3.out.tr.size HTR.out.size))))
                      have HTR6 := Lib.hid (HTR.out.then (Trn.of hk6))
                      clear hk6 d2 hdat o1 o2
                      obtain ⟨go', e6, o1, o2⟩ := HOT6.out.cell (by rw [HXL.out]; exact HLT.out)
                      injection e6 with e6
                      injection e6 with e6
                      subst e6
                      generalize wr.drewN nq = W6 at *
                      obtain ⟨z', hz'⟩ : ∃ z, by8 l j = z := ⟨_, rfl⟩
                      rw [hz'] at o1
                      clear hz'
                      go_wp2
                      trace_state
                      go_roundw
                      case rel => exact ⟨j + 1, HLT.out, by go_num, HOT6.out.step _, HTR6.out.set (.inl rfl)⟩
                      case measure => simp [intOf]; have := HLT.out; omega
                    · obtain rfl : j = xl := by omega
                      go_wp2
                      go_ret
                      have hfin := HDU3.out.aside (st := st) HTR.out (fun k hk => HON.out k hk) HB2.out
                      rw [HST.out]
                      exact ⟨rfl, hfin⟩
                · have hb7 : (kd == 7) = false := by simpa using hk7
                  have hst : st.act ⟨kd, nm, v9, l, n, kp⟩ = (0, st) := by unfold Ds.act; simp [hk0, hk1, hk2, hk3, hk4, hk5, hk6, hk7]
                  have HST := Lib.hid hst
                  clear hst
                  go_upto_region 21 with (fail)
                  clear a0
                  obtain ⟨W3, hW3⟩ : ∃ X, w2 = X := ⟨_, rfl⟩
                  have HDU3 := Lib.hid (show Du w2 F G q r st st W3 from hW3 ▸ HDU.out)
                  rw [hW3]
                  go_wp2
                  go_loopw [106] (fun i wr => ∃ j : Nat, j ≤ xl ∧ i = .int .i64 (j : Int) ∧ OwT oa l wr j ∧ Trn (fun k => oa = some ⟨k, 0, none⟩) W3 wr) (fun i _ => xl - (intOf i).toNat)
                  case atStart => exact ⟨0, by omega, rfl, HOT.out.1.keep (fun k hk => by obtain ⟨b1, b2, b3, -⟩ := HON.out k hk; exact HDU3.out.tr.block k b1 (fun h => h.elim b2 b3)), Trn.refl⟩
                  case round =>
                    obtain ⟨j, hj, rfl, hot, htr⟩ := hrel
                    have HOT2 := Lib.hid hot
                    have HTR := Lib.hid htr
                    clear hot htr
                    by_cases hlt : j < xl
                    · have hji : (j : Int) < (xl : Int) := by omega
                      obtain ⟨go, rfl, o1, o2⟩ := HOT2.out.cell (by rw [HXL.out]; exact hlt)
                      have hxc : (j : Int) < (cx : Int) := by have := HB.out.le; omega
                      have hoc : (j : Int) < (oc : Int) := by
                        rcases HO2.out.2 with ⟨e, -⟩ | ⟨g, cap, cur, e, -, -, hnc, -⟩
                        · injection e with e; cases e
                        · injection e with e1 e2 e3; rw [e3]; have := HXL.out; omega
                      obtain ⟨b1, b2, b3, b4⟩ := HON.out go rfl
                      have hne : gx ≠ go := fun e => by subst e; have h1 := HO2.out; rcases h1.2 with ⟨e, -⟩ | ⟨g, cap, cur, e, -, hg, -⟩
                                                        · injection e with e; cases e
                                                        · injection e with e1 e2 e3
                                                          injection e1 with e1
                                                          injection e1 with e1
                                                          subst e1
                                                          exact absurd (tneD hg HX2.out) (by decide)
                      have hx3 := HDU3.out.heap HX2.out HGN.out.1 HGN.out.2.1
                      have hxr := HTR.out.heap hx3 (fun e => hne (by injection e with e; injection e with e; exact e.symm))
                      have d2 : wr.cell? ⟨gx, 2, none⟩ = some (.slice x xl cx) := by rw [cell_of_row _ gx 2 _ _ (0, 0) hxr]; rfl
                      obtain ⟨b, off, rfl, hdat⟩ : ∃ b off, x = some ⟨b, off, none⟩ ∧ wr.cell? ⟨b, off + j, none⟩ = some (.int .u8 (by8 l j)) := by
                        have hy := (HB.out.below HB2.out).trn (F := fun k => F k ∨ G k) (fun h0 b off e h => by obtain ⟨a1, a2⟩ := HBN.out h0 b off e; exact h.elim a1 a2) HDU3.out.tr
                        have hy2 := hy.trn (F := fun k => (some ⟨go, 0, none⟩ : Option Addr) = some ⟨k, 0, none⟩) (fun h0 b off e h => by
                          injection h with h
                          injection h with h
                          subst h
                          have := HB.out.blk_lt h0 e
                          omega) HTR.out
                        rcases hy2.adr with h9 | ⟨b, off, e, hc⟩
                        · have := hy2.le; omega
                        · exact ⟨b, off, e, hc j hlt⟩
                      have hzz : (by8 l j != by8 l j) = false := by simp
                      have HLT := Lib.hid hlt
                      have HNE := Lib.hid hne
                      clear hne hx3 hxr b1 b2 b3 b4 hlt
                      obtain ⟨z, hz⟩ : ∃ z, by8 l j = z := ⟨_, rfl⟩
                      rw [hz] at o1 hdat hzz
                      clear hz
                      go_wp2
                      go_quiet (fail)
                      have hk6 := below_drewN9 (Below.refl wr.heap.size wr) nq
                      have HOT6 := Lib.hid (HOT2.out.keep (W' := wr.drewN nq) (fun k hk => hk6.block k (by obtain ⟨c1, -⟩ := HON.out k hk; exact Nat.lt_of_lt_of_le c1 (Nat.le_trans HDU3.out.tr.size HTR.out.size))))
                      have HTR6 := Lib.hid (HTR.out.then (Trn.of hk6))
                      clear hk6 d2 hdat o1 o2
                      obtain ⟨go', e6, o1, o2⟩ := HOT6.out.cell (by rw [HXL.out]; exact HLT.out)
                      injection e6 with e6
                      injection e6 with e6
                      subst e6
                      generalize wr.drewN nq = W6 at *
                      obtain ⟨z', hz'⟩ : ∃ z, by8 l j = z := ⟨_, rfl⟩
                      rw [hz'] at o1
                      clear hz'
                      go_wp2
                      trace_state
                      go_roundw
                      case rel => exact ⟨j + 1, HLT.out, by go_num, HOT6.out.step _, HTR6.out.set (.inl rfl)⟩
                      case measure => simp [intOf]; have := HLT.out; omega
                    · obtain rfl : j = xl := by omega
                      go_wp2
                      go_ret
                      have hfin := HDU3.out.aside (st := st) HTR.out (fun k hk => HON.out k hk) HB2.out
                      rw [HST.out]
                      exact ⟨rfl, hfin⟩
end Go.Proofs.Ytplanmiggeghfaa
