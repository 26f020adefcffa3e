/-
  Disk: the reference: Cut.
-/
import Derived.Test.YtplanmiggeghfaaDR9
import Derived.Shelf.Abstract
namespace Go.Proofs.Ytplanmiggeghfaa
open Go.RowKit Go Go.Sort Go.Maps Go.WideMaps
set_option linter.unusedVariables false
set_option maxRecDepth 20000

/-- Behind the first store of Cut: the list's cells, and the box. -/
theorem RefIn.half {W : World} {q g n cap : Nat} {FS : List Fr} {st : Ds} (hr : RefIn W q (.slice (some ⟨g, 0, none⟩) n cap) FS st) {i : Nat} (hi : i < FS.length) (u : Value) :
    OwnL 3 100 Fr.arr (W.setCell ⟨g, i * 3 + 1, none⟩ u) 0 (.slice (some ⟨g, 0, none⟩) n cap) (FS.set i ⟨u, (FS.getD i Fr.zero).f⟩) ∧
    ∀ W', Below (W.setCell ⟨g, i * 3 + 1, none⟩ u).heap.size (W.setCell ⟨g, i * 3 + 1, none⟩ u) W' → W'.cell? ⟨q, 1, none⟩ = some (.slice (some ⟨g, 0, none⟩) n cap) ∧ W'.cell? ⟨g, i * 3 + 2, none⟩ = some (.int .i64 ((FS.getD i Fr.zero).f.su : Int)) ∧ ∀ j, W'.frozen? ⟨g, j, none⟩ = false := by
  obtain ⟨curg, hcurg, hln⟩ := hr.lb
  have hne : q ≠ g := fun e => by subst e; exact absurd (tneD hcurg hr.head) (by decide)
  have hst := frs_store1 hr.list hi (j := 1) (by omega) u ⟨u, (FS.getD i Fr.zero).f⟩ rfl
  refine ⟨hst, fun W' hb => ⟨?_, ?_, fun j => ?_⟩⟩
  · have h1 := (hb.block q (by rw [World.size_setCell]; exact hr.lt (.inl rfl))).trans ((heap_setCell_other W ⟨g, i * 3 + 1, none⟩ q u hne).trans hr.head)
    rw [cell_of_row _ q 1 _ 48 (0, 0) h1]
    rfl
  · obtain ⟨a, cap', e, hls⟩ := hst.ls (z := Fr.zero) fr_size
    injection e with e1 e2 e3
    subst e1 e3
    obtain ⟨b, off, e8, hat⟩ := hls.at (k := i) (by simpa using hi)
    injection e8 with e8
    injection e8 with e81 e82
    subst e81 e82
    have := hat W' hb 2 (.int .i64 ((FS.getD i Fr.zero).f.su : Int)) (by rw [getD_setFr hi]; rfl)
    rwa [Nat.zero_add] at this
  · have h1 := (hb.block g (by rw [World.size_setCell]; exact (Array.getElem?_eq_some_iff.1 hcurg).1)).trans (heap_setCell_same W g (i * 3 + 1) _ 100 u hcurg)
    exact frozen_of_row W' g j _ 100 h1
/-- Both stores of Cut. -/
theorem RefIn.put_cut {W W' : World} {q g n cap B : Nat} {FS : List Fr} {st : Ds} (hr : RefIn W q (.slice (some ⟨g, 0, none⟩) n cap) FS st) {i : Nat} (hi : i < FS.length) {ua : Option Addr} {m uc s : Nat} {l : List UInt8} (ho : OwnB W B 5 (.slice ua m uc) l) (hl : l.length ≤ 1048576) (hs : s ≤ l.length)
    (hb : Below (W.setCell ⟨g, i * 3 + 1, none⟩ (.slice ua m uc)).heap.size (W.setCell ⟨g, i * 3 + 1, none⟩ (.slice ua m uc)) W') :
    RefIn (W'.setCell ⟨g, i * 3 + 2, none⟩ (.int .i64 (s : Int))) q (.slice (some ⟨g, 0, none⟩) n cap) (FS.set i ⟨.slice ua m uc, ⟨(FS.getD i Fr.zero).f.nm, l, s⟩⟩) { st with F := st.F.set i ⟨(FS.getD i Fr.zero).f.nm, l, s⟩ } := by
  obtain ⟨curg, hcurg, hln⟩ := hr.lb
  have h1 := (hr.half hi (.slice ua m uc)).1
  have h2 := frs_store1 (h1.kept hb) (i := i) (by simpa using hi) (j := 2) (by omega) (.int .i64 (s : Int)) ⟨.slice ua m uc, ⟨(FS.getD i Fr.zero).f.nm, l, s⟩⟩ (by rw [getD_setFr hi]; rfl)
  rw [List.set_set] at h2
  have hblk : ∀ k, k < W.heap.size → k ≠ g → (W'.setCell ⟨g, i * 3 + 2, none⟩ (.int .i64 (s : Int))).heap[k]? = W.heap[k]? := fun k hk hne => (heap_setCell_other _ _ _ _ hne).trans ((hb.block k (by rw [World.size_setCell]; exact hk)).trans (heap_setCell_other _ _ _ _ hne))
  refine hr.put hi ⟨.slice ua m uc, ⟨(FS.getD i Fr.zero).f.nm, l, s⟩⟩ h2 hblk ((ho.mono (Nat.zero_le _)).of_blk fun k hk => hblk k (ho.lt k hk).2 (fun e => ?_)) rfl ⟨hl, hs⟩
  subst e
  obtain ⟨c9, hc9⟩ := ho.blkD hk
  exact absurd (tneD hc9 hcurg) (by decide)
set_option maxRecDepth 100000 in
set_option maxHeartbeats 6400000 in
theorem rcut_c {w : World} {q : Nat} {st : Ds} {F : Nat → Prop} (hk : Rk w q st F) (nm : List UInt8) (n9 : Int) : Calls Try.prog 52 #[.pointer (some ⟨q, 0, none⟩), .string (text nm), .int .i64 n9] w (RPost q F (.int .i64 (st.cut nm n9).1) (st.cut nm n9).2 w) := by
  have HKK := Lib.hid hk
  obtain ⟨i0, hi0, hz0, hz1, hz2⟩ := info_parts infoD5
  obtain ⟨fv, FS, h, rfl⟩ := hk
  obtain ⟨c0, c1, c2, c3, c4, c5, c6, c7⟩ := h.cs
  cases hon : st.on with
  | false =>
    have e : st.cut nm n9 = (150, st) := by unfold Ds.cut; rw [if_pos hon]
    rw [e]
    rw [hon] at c2
    clear h hon e
    go_enter Try.func52, Try.ntmps52
    go_wp2
    go_ret
    exact rk_same HKK.out _
  | true =>
    rw [hon] at c2
    rcases h.look nm with ⟨hl, hno⟩ | ⟨i, hi, hnm, hl⟩
    · have e : st.cut nm n9 = (152, st) := by unfold Ds.cut; rw [if_neg (by simp [hon]), hl]
      rw [e]
      have HFN := Lib.hid (rfind_none h nm hno)
      obtain ⟨tx, htx⟩ : ∃ s, text nm = s := ⟨_, rfl⟩
      rw [htx] at HFN ⊢
      clear htx h hl hno hon e c0 c1 c3 c4 c5 c6 c7
      go_enter Try.func52, Try.ntmps52
      go_wp2_with (go_at_call 60; (with_reducible refine HFN.out.mono ?_); rintro e9 w9 ⟨rfl, hb9⟩; have HB9 := Lib.hid hb9; clear hb9)
      go_ret
      exact rk_below HKK.out HB9.out _
    · have HFN := Lib.hid (rfind_some h nm hi hnm)
      have HH := Lib.hid h
      have HI := Lib.hid (And.intro hi hnm)
      have HLK := Lib.hid (And.intro hon hl)
      obtain ⟨tx, htx⟩ : ∃ s, text nm = s := ⟨_, rfl⟩
      rw [htx] at HFN ⊢
      clear htx
      have hi0n : ¬ (i : Int) < 0 := by omega
      obtain ⟨a, cap, rfl, -⟩ := HH.out.at
      obtain ⟨hn, hle, g, xa, xc, rfl, hxv, hxb, hat⟩ := HH.out.spot HI.out.1
      obtain ⟨n, hn9⟩ : ∃ n, FS.length = n := ⟨_, rfl⟩
      have hii : (i : Int) < (n : Int) := by have := HI.out.1; omega
      have hic : (i : Int) < (cap : Int) := by omega
      have hlen := (HH.out.mem HI.out.1).2.1
      obtain ⟨fb, hfb⟩ : ∃ z, (FS.getD i Fr.zero).f.b = z := ⟨_, rfl⟩
      obtain ⟨xl, hxl⟩ : ∃ z, fb.length = z := ⟨_, rfl⟩
      have HFB := Lib.hid hfb
      have HXV := Lib.hid hxv
      have HXL := Lib.hid hxl
      rw [hn9] at hat HKK HH ⊢
      rw [hfb, hxl] at hat hxb HXV
      rw [hfb, hxl] at hlen
      have HAT9 := Lib.hid hat
      have HXB9 := Lib.hid hxb
      by_cases hneg : n9 < 0
      · have e : st.cut nm n9 = (2, st) := by
          unfold Ds.cut
          rw [if_neg (by simp [hon]), hl]
          simp only
          rw [if_pos (.inl hneg)]
        rw [e]
        skip
        clear h hl hon hi hnm e hxv hxb hn hat hfb hxl hle hn9 hlen c0 c1 c3 c4 c5 c6 c7
        go_enter Try.func52, Try.ntmps52
        go_wp2_with (go_at_call 60; (with_reducible refine HFN.out.mono ?_); rintro e9 w9 ⟨rfl, hb9⟩; have HB9 := Lib.hid hb9; obtain ⟨z1, z2, z3, z4, z5⟩ := HAT9.out w9 hb9; have HR9 := Lib.hid (HH.out.below hb9); clear hb9 z5)
        go_ret
        exact rk_below HKK.out HB9.out _
      · by_cases hbig : (xl : Int) < n9
        · have e : st.cut nm n9 = (2, st) := by
            unfold Ds.cut
            rw [if_neg (by simp [hon]), hl]
            simp only
            rw [if_pos (.inr (by rw [hfb, hxl]; exact hbig))]
          rw [e]
          skip
          clear h hl hon hi hnm e hxv hxb hn hat hfb hxl hle hn9 hlen c0 c1 c3 c4 c5 c6 c7
          go_enter Try.func52, Try.ntmps52
          go_wp2_with (go_at_call 60; (with_reducible refine HFN.out.mono ?_); rintro e9 w9 ⟨rfl, hb9⟩; have HB9 := Lib.hid hb9; obtain ⟨z1, z2, z3, z4, z5⟩ := HAT9.out w9 hb9; have HR9 := Lib.hid (HH.out.below hb9); clear hb9 z5)
          go_ret
          exact rk_below HKK.out HB9.out _
        · obtain ⟨z, rfl⟩ : ∃ z : Nat, n9 = (z : Int) := ⟨n9.toNat, by omega⟩
          have hzx : z ≤ xl := by omega
          by_cases hp : st.plan = true ∧ st.pn = 0
          · have e : st.cut nm (z : Int) = (150, st.lost st.keep st.F) := by
              unfold Ds.cut
              rw [if_neg (by simp [hon]), hl]
              simp only
              rw [if_neg (by rw [hfb, hxl]; omega)]
              exact opd_no hp
            rw [e]
            have HP := Lib.hid hp
            clear hp h hl hon hi hnm e hxv hxb hn hat hfb hxl hle hn9 hlen c0 c1 c3 c4 c5 c6 c7
            go_enter Try.func52, Try.ntmps52
            go_wp2_with (first | (go_at_call 60; (with_reducible refine HFN.out.mono ?_); rintro e9 w9 ⟨rfl, hb9⟩; have HB9 := Lib.hid hb9; obtain ⟨z1, z2, z3, z4, z5⟩ := HAT9.out w9 hb9; have HR9 := Lib.hid (HH.out.below hb9); clear hb9 z5) | (go_at_call 75; (with_reducible refine (rcounted_no HR9.out HP.out.1 HP.out.2).mono ?_); rintro e8 w8 ⟨rfl, rfl⟩; have q7 := HR9.out.cs.2.2.2.2.2.2.2) | (go_at_call 63; (with_reducible refine (rlose_p HR9.out st.keep).mono ?_); rintro e7 w7 ⟨rfl, F7, hr7, ht7, hf7⟩))
            go_ret
            exact ⟨rfl, F7, hr7, (Trn.of HB9.out).then ht7, fun k hk => (hf7 k hk).imp_right (fun h9 => Nat.le_trans HB9.out.size h9)⟩
          · have e : st.cut nm (z : Int) = (0, { st.tick with F := st.F.set i ⟨(FS.getD i Fr.zero).f.nm, fb.take z, min (FS.getD i Fr.zero).f.su z⟩ }) := by
              unfold Ds.cut
              rw [if_neg (by simp [hon]), hl]
              simp only
              rw [if_neg (by rw [hfb, hxl]; omega), opd_yes hp, setF_set h hi hnm]
              simp only [hfb, Int.toNat_natCast]
            rw [e]
            have HP := Lib.hid hp
            have HZ := Lib.hid hzx
            have HLL := Lib.hid hlen
            have HTZ := Lib.hid (show (fb.take z).length = z by rw [List.length_take]; omega)
            obtain ⟨su, hsu⟩ : ∃ y, (FS.getD i Fr.zero).f.su = y := ⟨_, rfl⟩
            have HSU := Lib.hid hsu
            have HMIN := Lib.hid (show min (su : Int) (z : Int) = ((min su z : Nat) : Int) by omega)
            rw [hsu]
            clear hsu hp hzx h hl hon hi hnm e hxv hxb hn hat hfb hxl hle hn9 hlen c0 c1 c3 c4 c5 c6 c7
            go_enter Try.func52, Try.ntmps52
            go_upto_region 11 with (first | (go_at_call 60; (with_reducible refine HFN.out.mono ?_); rintro e9 w9 ⟨rfl, hb9⟩; have HB9 := Lib.hid hb9; obtain ⟨z1, z2, z3, z4, z5⟩ := HAT9.out w9 hb9; have HR9 := Lib.hid (HH.out.below hb9); clear hb9 z5) | (go_at_call 75; (with_reducible refine (rcounted_c HR9.out HP.out).mono ?_); rintro e8 w8 ⟨rfl, hr8, ht8⟩; have HR8 := Lib.hid hr8; have HT8 := Lib.hid (show Trn (rfoot q (.slice (some ⟨g, 0, none⟩) n cap) FS) w w8 from (Trn.of HB9.out).then (rtrn_q ht8)); clear hr8 ht8))
            clear hneg hbig
            have HAX := Lib.hid (show (∀ W', Below w8.heap.size w8 W' → W'.cell? ⟨q, 1, none⟩ = some (.slice (some ⟨g, 0, none⟩) n cap) ∧ W'.cell? ⟨g, i * 3, none⟩ = some (.string (text (FS.getD i Fr.zero).f.nm)) ∧ W'.cell? ⟨g, i * 3 + 1, none⟩ = some (.slice xa xl xc) ∧ W'.cell? ⟨g, i * 3 + 2, none⟩ = some (.int .i64 ((FS.getD i Fr.zero).f.su : Int)) ∧ ∀ j, W'.frozen? ⟨g, j, none⟩ = false) ∧ Bys w8 xa xl xc fb from by
              obtain ⟨-, -, g', xa', xc', e1, hxv', hxb', hat'⟩ := HR8.out.spot HI.out.1
              injection e1 with e1
              injection e1 with e1
              subst e1
              rw [HFB.out, HXL.out] at hat' hxv' hxb'
              rw [HXV.out] at hxv'
              injection hxv' with e2 e3 e4
              subst e2 e4
              exact ⟨hat', hxb'⟩)
            have HAT := Lib.hid HAX.out.1
            have HXB := Lib.hid HAX.out.2
            refine wp_region_flow_tail 19 [none, none, none, none, none, none, none, none, none, none, none, none, none, none, none, none, none, none, none, none, none, none, none, none, none, none, none, none, none, none, none, none, none, none, none, none, none, none, none, none, none, some 0, some 1, some 2, some 3, some 4, some 5, some 6, some 7, some 8, some 9, some 10, some 11, some 12, some 13, some 14, some 15, some 16, some 17, some 18, none, none, none, none, none, none, none, none, none, none, none, none, none, none, none, none, none] (fun i => [undef, undef, undef, undef, undef, undef, undef, undef, undef, undef, undef, undef, undef, undef, undef, undef, undef, undef, undef].getD i undef) [(fun v _ => v = .pointer (some ⟨q, 0, none⟩)), (fun v _ => v = .pointer (some ⟨q, 0, none⟩)), (fun v _ => v = .pointer (some ⟨q, 1, none⟩)), (fun v _ => v = .slice (some ⟨g, 0, none⟩) n cap), (fun v _ => v = .int .i64 (i : Int)), (EmptyV w8.heap.size), (fun v _ => v = .pointer (some ⟨q, 0, none⟩)), (fun v _ => v = .pointer (some ⟨q, 0, none⟩)), (fun v _ => v = .pointer (some ⟨q, 1, none⟩)), (fun v _ => v = .slice (some ⟨g, 0, none⟩) n cap), (fun v _ => v = .int .i64 (i : Int)), (fun v _ => v = .pointer (some ⟨g, i * 3, none⟩)), (fun v _ => v = .pointer (some ⟨g, i * 3 + 1, none⟩)), (fun v _ => v = .slice xa xl xc), (fun v _ => v = .int .i64 (z : Int)), (fun v _ => v = .slice xa z xc), (fun v W => OwnB W w8.heap.size 5 v (fb.take z)), (fun v _ => v = .pointer (some ⟨g, i * 3, none⟩)), (fun v _ => v = .pointer (some ⟨g, i * 3 + 1, none⟩))] (fun _ => False) (by kernel_rfl) (by kernel_rfl) (by kernel_rfl) rfl rfl rfl ?_ ?_ ?_
            · intro g hg v X Y hX hY hv
              simp only [List.mem_cons, List.not_mem_nil, or_false] at hg
              rcases hg with rfl | rfl | rfl | rfl | rfl | rfl | rfl | rfl | rfl | rfl | rfl | rfl | rfl | rfl | rfl | rfl | rfl | rfl | rfl
              all_goals first
                | exact hv
                | exact hv.kept hY
            · simp only [flowOpsF, List.take_succ_cons, List.take_zero, and_true]
              refine ⟨?_, ?_, ?_, ?_, ?_, ?_, ?_, ?_, ?_, ?_, ?_, ?_, ?_, ?_, ?_, ?_, ?_, ?_, ?_⟩
              · intro xs W hW hn
                simp only [flowAct, List.zipWith_cons_cons, List.zipWith_nil_left]
                go_wp2_with (fail)
                exact ⟨rfl, _, rfl, Below.refl _ _, rfl, fun h => h.elim⟩
              · intro xs W hW hn
                simp [flowNeeds, Region.binds] at hn
                simp only [flowAct, List.zipWith_cons_cons, List.zipWith_nil_left]
                try simp only [hn]
                go_wp2_with (fail)
                exact ⟨rfl, _, rfl, Below.refl _ _, rfl, fun h => h.elim⟩
              · intro xs W hW hn
                simp [flowNeeds, Region.binds] at hn
                simp only [flowAct, List.zipWith_cons_cons, List.zipWith_nil_left]
                try simp only [hn]
                go_wp2_with (fail)
                exact ⟨rfl, _, rfl, Below.refl _ _, rfl, fun h => h.elim⟩
              · intro xs W hW hn
                obtain ⟨y1, y2, y3, y4, y5⟩ := HAT.out W hW
                simp [flowNeeds, Region.binds] at hn
                simp only [flowAct, List.zipWith_cons_cons, List.zipWith_nil_left]
                try simp only [hn]
                go_wp2_with (fail)
                exact ⟨rfl, _, rfl, Below.refl _ _, rfl, fun h => h.elim⟩
              · intro xs W hW hn
                simp only [flowAct, List.zipWith_cons_cons, List.zipWith_nil_left]
                go_wp2_with (fail)
                exact ⟨rfl, _, rfl, Below.refl _ _, rfl, fun h => h.elim⟩
              · intro xs W hW hn
                simp only [flowAct, List.zipWith_cons_cons, List.zipWith_nil_left]
                go_wp2_with (fail)
                exact ⟨rfl, _, rfl, alloc_below _ _, ⟨_, rfl, OwnB.empty W w8.heap.size 5 hW.size⟩, fun h => h.elim⟩
              · intro xs W hW hn
                simp only [flowAct, List.zipWith_cons_cons, List.zipWith_nil_left]
                go_wp2_with (fail)
                exact ⟨rfl, _, rfl, Below.refl _ _, rfl, fun h => h.elim⟩
              · intro xs W hW hn
                simp [flowNeeds, Region.binds] at hn
                simp only [flowAct, List.zipWith_cons_cons, List.zipWith_nil_left]
                try simp only [hn]
                go_wp2_with (fail)
                exact ⟨rfl, _, rfl, Below.refl _ _, rfl, fun h => h.elim⟩
              · intro xs W hW hn
                simp [flowNeeds, Region.binds] at hn
                simp only [flowAct, List.zipWith_cons_cons, List.zipWith_nil_left]
                try simp only [hn]
                go_wp2_with (fail)
                exact ⟨rfl, _, rfl, Below.refl _ _, rfl, fun h => h.elim⟩
              · intro xs W hW hn
                obtain ⟨y1, y2, y3, y4, y5⟩ := HAT.out W hW
                simp [flowNeeds, Region.binds] at hn
                simp only [flowAct, List.zipWith_cons_cons, List.zipWith_nil_left]
                try simp only [hn]
                go_wp2_with (fail)
                exact ⟨rfl, _, rfl, Below.refl _ _, rfl, fun h => h.elim⟩
              · intro xs W hW hn
                simp only [flowAct, List.zipWith_cons_cons, List.zipWith_nil_left]
                go_wp2_with (fail)
                exact ⟨rfl, _, rfl, Below.refl _ _, rfl, fun h => h.elim⟩
              · intro xs W hW hn
                simp [flowNeeds, Region.binds] at hn
                simp only [flowAct, List.zipWith_cons_cons, List.zipWith_nil_left]
                try simp only [hn]
                go_wp2_with (fail)
                exact ⟨rfl, _, rfl, Below.refl _ _, rfl, fun h => h.elim⟩
              · intro xs W hW hn
                simp [flowNeeds, Region.binds] at hn
                simp only [flowAct, List.zipWith_cons_cons, List.zipWith_nil_left]
                try simp only [hn]
                go_wp2_with (fail)
                exact ⟨rfl, _, rfl, Below.refl _ _, rfl, fun h => h.elim⟩
              · intro xs W hW hn
                obtain ⟨y1, y2, y3, y4, y5⟩ := HAT.out W hW
                simp [flowNeeds, Region.binds] at hn
                simp only [flowAct, List.zipWith_cons_cons, List.zipWith_nil_left]
                try simp only [hn]
                go_wp2_with (fail)
                exact ⟨rfl, _, rfl, Below.refl _ _, rfl, fun h => h.elim⟩
              · intro xs W hW hn
                simp only [flowAct, List.zipWith_cons_cons, List.zipWith_nil_left]
                go_wp2_with (fail)
                exact ⟨rfl, _, rfl, Below.refl _ _, rfl, fun h => h.elim⟩
              · intro xs W hW hn
                simp [flowNeeds, Region.binds] at hn
                have hzx := HZ.out
                have hzc : (z : Int) ≤ (xc : Int) := by have := HXB.out.le; omega
                have hz0 : (0 : Int) ≤ (z : Int) := by omega
                simp only [flowAct, List.zipWith_cons_cons, List.zipWith_nil_left]
                try simp only [hn]
                go_wp2_with (fail)
                exact ⟨rfl, _, rfl, Below.refl _ _, rfl, fun h => h.elim⟩
              · intro xs W hW hn
                simp [flowNeeds, Region.binds] at hn
                obtain ⟨⟨g7, e7, o7⟩, e11⟩ := hn
                simp only [flowAct, List.zipWith_cons_cons, List.zipWith_nil_left]
                simp only [e7, e11]
                go_wp2_with (refine wpList_append_e0 rfl _ _ 30 rfl (base := w8.heap.size) (e := 5) (g := g7) (l := fb.take z) (i := i0) Try.underlying30 hi0 hz0 hz1 hz2 rfl o7 rfl ((HXB.out.below hW).take HZ.out) (by have := HZ.out; have := HLL.out; omega) hW.size ?_; intro v9 w9 ho9 hb9)
                exact ⟨rfl, _, rfl, hb9, ho9, fun h => h.elim⟩
              · intro xs W hW hn
                simp [flowNeeds, Region.binds] at hn
                simp only [flowAct, List.zipWith_cons_cons, List.zipWith_nil_left]
                try simp only [hn]
                go_wp2_with (fail)
                exact ⟨rfl, _, rfl, Below.refl _ _, rfl, fun h => h.elim⟩
              · intro xs W hW hn
                simp [flowNeeds, Region.binds] at hn
                simp only [flowAct, List.zipWith_cons_cons, List.zipWith_nil_left]
                try simp only [hn]
                go_wp2_with (fail)
                exact ⟨rfl, _, rfl, Below.refl _ _, rfl, fun h => h.elim⟩
            · intro xs W hW hall hfr
              clear hfr
              simp only [flowAll, and_true, Nat.zero_add, Nat.reduceAdd] at hall
              obtain ⟨a0, a1, a2, a3, a4, a5, a6, a7, a8, a9, a10, a11, a12, a13, a14, a15, a16, a17, a18⟩ := hall
              obtain ⟨ua, uc, e16, -⟩ := a16.bys
              rw [HTZ.out] at e16
              rw [e16] at a16
              have HOU := Lib.hid a16
              simp only [flowAct, List.zipWith_cons_cons, List.zipWith_nil_left, List.drop_succ_cons, List.drop_zero]
              simp only [a14, e16, a18]
              clear a0 a1 a2 a3 a4 a5 a6 a7 a8 a9 a10 a11 a12 a13 a14 a15 a16 a17 a18 e16
              have HRW := Lib.hid (HR8.out.below hW)
              have HW := Lib.hid hW
              obtain ⟨y1, y2, y3, y4, y5⟩ := HAT.out W hW
              have y6 := y5 (i * 3 + 1)
              clear hW y5 y1 y2 y4
              go_upto_region 12 with (fail)
              have HHF := Lib.hid ((HRW.out.half HI.out.1 (.slice ua z uc)).2)
              rw [HSU.out] at HHF
              obtain ⟨W3, hW3⟩ : ∃ X, W.setCell ⟨g, i * 3 + 1, none⟩ (.slice ua z uc) = X := ⟨_, rfl⟩
              have HW3 := Lib.hid hW3
              rw [hW3] at HHF ⊢
              clear hW3 y3 y6
              refine wp_region_flow_tail 17 [none, none, none, none, none, none, none, none, none, none, none, none, none, none, none, none, none, none, none, none, none, none, none, none, none, none, none, none, none, none, none, none, none, none, none, none, none, none, none, none, none, none, none, none, none, none, none, none, none, none, none, none, none, none, none, none, none, none, none, none, some 0, some 1, some 2, some 3, some 4, some 5, some 6, some 7, some 8, some 9, some 10, some 11, some 12, some 13, some 14, some 15, some 16] (fun i => [undef, undef, undef, undef, undef, undef, undef, undef, undef, undef, undef, undef, undef, undef, undef, undef, undef].getD i undef) [(fun v _ => v = .pointer (some ⟨q, 0, none⟩)), (fun v _ => v = .pointer (some ⟨q, 0, none⟩)), (fun v _ => v = .pointer (some ⟨q, 1, none⟩)), (fun v _ => v = .slice (some ⟨g, 0, none⟩) n cap), (fun v _ => v = .int .i64 (i : Int)), (fun v _ => v = .pointer (some ⟨q, 0, none⟩)), (fun v _ => v = .pointer (some ⟨q, 0, none⟩)), (fun v _ => v = .pointer (some ⟨q, 1, none⟩)), (fun v _ => v = .slice (some ⟨g, 0, none⟩) n cap), (fun v _ => v = .int .i64 (i : Int)), (fun v _ => v = .pointer (some ⟨g, i * 3, none⟩)), (fun v _ => v = .pointer (some ⟨g, i * 3 + 2, none⟩)), (fun v _ => v = .int .i64 (su : Int)), (fun v _ => v = .int .i64 (z : Int)), (fun v _ => v = .int .i64 ((min su z : Nat) : Int)), (fun v _ => v = .pointer (some ⟨g, i * 3, none⟩)), (fun v _ => v = .pointer (some ⟨g, i * 3 + 2, none⟩))] (fun _ => False) (by kernel_rfl) (by kernel_rfl) (by kernel_rfl) rfl rfl rfl ?_ ?_ ?_
              · intro g hg v X Y hX hY hv
                simp only [List.mem_cons, List.not_mem_nil, or_false] at hg
                rcases hg with rfl | rfl | rfl | rfl | rfl | rfl | rfl | rfl | rfl | rfl | rfl | rfl | rfl | rfl | rfl | rfl | rfl
                all_goals first
                  | exact hv
                  | exact hv.kept hY
              · simp only [flowOpsF, List.take_succ_cons, List.take_zero, and_true]
                refine ⟨?_, ?_, ?_, ?_, ?_, ?_, ?_, ?_, ?_, ?_, ?_, ?_, ?_, ?_, ?_, ?_, ?_⟩
                · intro xs W hW hn
                  simp only [flowAct, List.zipWith_cons_cons, List.zipWith_nil_left]
                  go_wp2_with (fail)
                  exact ⟨rfl, _, rfl, Below.refl _ _, rfl, fun h => h.elim⟩
                · intro xs W hW hn
                  simp [flowNeeds, Region.binds] at hn
                  simp only [flowAct, List.zipWith_cons_cons, List.zipWith_nil_left]
                  try simp only [hn]
                  go_wp2_with (fail)
                  exact ⟨rfl, _, rfl, Below.refl _ _, rfl, fun h => h.elim⟩
                · intro xs W hW hn
                  simp [flowNeeds, Region.binds] at hn
                  simp only [flowAct, List.zipWith_cons_cons, List.zipWith_nil_left]
                  try simp only [hn]
                  go_wp2_with (fail)
                  exact ⟨rfl, _, rfl, Below.refl _ _, rfl, fun h => h.elim⟩
                · intro xs W hW hn
                  obtain ⟨y1, y2, y3⟩ := HHF.out W hW
                  simp [flowNeeds, Region.binds] at hn
                  simp only [flowAct, List.zipWith_cons_cons, List.zipWith_nil_left]
                  try simp only [hn]
                  go_wp2_with (fail)
                  exact ⟨rfl, _, rfl, Below.refl _ _, rfl, fun h => h.elim⟩
                · intro xs W hW hn
                  simp only [flowAct, List.zipWith_cons_cons, List.zipWith_nil_left]
                  go_wp2_with (fail)
                  exact ⟨rfl, _, rfl, Below.refl _ _, rfl, fun h => h.elim⟩
                · intro xs W hW hn
                  simp only [flowAct, List.zipWith_cons_cons, List.zipWith_nil_left]
                  go_wp2_with (fail)
                  exact ⟨rfl, _, rfl, Below.refl _ _, rfl, fun h => h.elim⟩
                · intro xs W hW hn
                  simp [flowNeeds, Region.binds] at hn
                  simp only [flowAct, List.zipWith_cons_cons, List.zipWith_nil_left]
                  try simp only [hn]
                  go_wp2_with (fail)
                  exact ⟨rfl, _, rfl, Below.refl _ _, rfl, fun h => h.elim⟩
                · intro xs W hW hn
                  simp [flowNeeds, Region.binds] at hn
                  simp only [flowAct, List.zipWith_cons_cons, List.zipWith_nil_left]
                  try simp only [hn]
                  go_wp2_with (fail)
                  exact ⟨rfl, _, rfl, Below.refl _ _, rfl, fun h => h.elim⟩
                · intro xs W hW hn
                  obtain ⟨y1, y2, y3⟩ := HHF.out W hW
                  simp [flowNeeds, Region.binds] at hn
                  simp only [flowAct, List.zipWith_cons_cons, List.zipWith_nil_left]
                  try simp only [hn]
                  go_wp2_with (fail)
                  exact ⟨rfl, _, rfl, Below.refl _ _, rfl, fun h => h.elim⟩
                · intro xs W hW hn
                  simp only [flowAct, List.zipWith_cons_cons, List.zipWith_nil_left]
                  go_wp2_with (fail)
                  exact ⟨rfl, _, rfl, Below.refl _ _, rfl, fun h => h.elim⟩
                · intro xs W hW hn
                  simp [flowNeeds, Region.binds] at hn
                  simp only [flowAct, List.zipWith_cons_cons, List.zipWith_nil_left]
                  try simp only [hn]
                  go_wp2_with (fail)
                  exact ⟨rfl, _, rfl, Below.refl _ _, rfl, fun h => h.elim⟩
                · intro xs W hW hn
                  simp [flowNeeds, Region.binds] at hn
                  simp only [flowAct, List.zipWith_cons_cons, List.zipWith_nil_left]
                  try simp only [hn]
                  go_wp2_with (fail)
                  exact ⟨rfl, _, rfl, Below.refl _ _, rfl, fun h => h.elim⟩
                · intro xs W hW hn
                  obtain ⟨y1, y2, y3⟩ := HHF.out W hW
                  simp [flowNeeds, Region.binds] at hn
                  simp only [flowAct, List.zipWith_cons_cons, List.zipWith_nil_left]
                  try simp only [hn]
                  go_wp2_with (fail)
                  exact ⟨rfl, _, rfl, Below.refl _ _, rfl, fun h => h.elim⟩
                · intro xs W hW hn
                  simp only [flowAct, List.zipWith_cons_cons, List.zipWith_nil_left]
                  go_wp2_with (fail)
                  exact ⟨rfl, _, rfl, Below.refl _ _, rfl, fun h => h.elim⟩
                · intro xs W hW hn
                  have hmin := HMIN.out
                  simp [flowNeeds, Region.binds] at hn
                  simp only [flowAct, List.zipWith_cons_cons, List.zipWith_nil_left]
                  try simp only [hn]
                  go_wp2_with (fail)
                  exact ⟨rfl, _, rfl, Below.refl _ _, rfl, fun h => h.elim⟩
                · intro xs W hW hn
                  simp [flowNeeds, Region.binds] at hn
                  simp only [flowAct, List.zipWith_cons_cons, List.zipWith_nil_left]
                  try simp only [hn]
                  go_wp2_with (fail)
                  exact ⟨rfl, _, rfl, Below.refl _ _, rfl, fun h => h.elim⟩
                · intro xs W hW hn
                  simp [flowNeeds, Region.binds] at hn
                  simp only [flowAct, List.zipWith_cons_cons, List.zipWith_nil_left]
                  try simp only [hn]
                  go_wp2_with (fail)
                  exact ⟨rfl, _, rfl, Below.refl _ _, rfl, fun h => h.elim⟩
              · intro xs W' hW hall hfr
                clear hfr
                simp only [flowAll, and_true, Nat.zero_add, Nat.reduceAdd] at hall
                obtain ⟨b0, b1, b2, b3, b4, b5, b6, b7, b8, b9, b10, b11, b12, b13, b14, b15, b16⟩ := hall
                simp only [flowAct, List.zipWith_cons_cons, List.zipWith_nil_left, List.drop_succ_cons, List.drop_zero]
                simp only [b14, b16]
                clear b0 b1 b2 b3 b4 b5 b6 b7 b8 b9 b10 b11 b12 b13 b14 b15 b16
                obtain ⟨y1, y2, y3⟩ := HHF.out W' hW
                have y6 := y3 (i * 3 + 2)
                have HW9 := Lib.hid hW
                clear hW y3 y1
                go_wp2
                go_ret
                have hb := HW9.out
                rw [← HW3.out] at hb
                have hr := HRW.out.put_cut HI.out.1 (s := min su z) HOU.out (by rw [HTZ.out]; have := HZ.out; have := HLL.out; omega) (by rw [HTZ.out]; omega) hb
                refine ⟨rfl, _, ⟨_, _, hr, rfl⟩, ?_, ?_⟩
                · have h3 : Trn (rfoot q (.slice (some ⟨g, 0, none⟩) n cap) FS) w W3 := by rw [← HW3.out]; exact (HT8.out.then (Trn.of HW.out)).set (.inl (.inr (.inl rfl)))
                  exact (h3.then (Trn.of HW9.out)).set (.inl (.inr (.inl rfl)))
                · rintro k (h1 | h1 | ⟨x, hx, h1⟩)
                  · exact .inl (.inl h1)
                  · exact .inl (.inr (.inl h1))
                  · rcases List.mem_or_eq_of_mem_set hx with hx | rfl
                    · exact .inl (.inr (.inr ⟨x, hx, h1⟩))
                    · exact .inr (Nat.le_trans HT8.out.size (HOU.out.lt k h1).1)
    
  
end Go.Proofs.Ytplanmiggeghfaa
