/-
  Disk: the reference: Fail, Sync.
-/
import Derived.Test.YtplanmiggeghfaaDR7
import Derived.Shelf.Abstract
namespace Go.Proofs.Ytplanmiggeghfaa
open Go.RowKit Go Go.Sort Go.Maps Go.WideMaps
set_option linter.unusedVariables false
set_option maxRecDepth 20000

theorem rlose_p {w : World} {q : Nat} {fv : Value} {FS : List Fr} {st : Ds} (h : RefIn w q fv FS st) (keep : Int) : Calls Try.prog 63 #[.pointer (some ⟨q, 0, none⟩), .int .i64 keep] w
    (fun e w' => e = .returned (.tuple #[]) ∧ ∃ F', Rk w' q (st.lost keep st.F) F' ∧ Trn (rfoot q fv FS) w w' ∧ ∀ k, F' k → rfoot q fv FS k ∨ w.heap.size ≤ k) :=
  (rlose_c h keep).mono fun e w' ⟨he, FS', hr, ht, hf⟩ => ⟨he, _, ⟨fv, FS', hr, rfl⟩, ht.mono (fun k hk => hk.elim .inl (fun h => .inr (.inl h))), fun k hk => by
    rcases hk with h1 | h1 | ⟨x, hx, h1⟩
    · exact .inl (.inl h1)
    · exact .inl (.inr (.inl h1))
    · exact .inr (hf x hx k h1)⟩
theorem rfail_c {w : World} {q : Nat} {st : Ds} {F : Nat → Prop} (hk : Rk w q st F) (keep : Int) : Calls Try.prog 23 #[.pointer (some ⟨q, 0, none⟩), .int .i64 keep] w (RPost q F (.int .i64 (st.fail keep).1) (st.fail keep).2 w) := by
  have HKK := Lib.hid hk
  obtain ⟨fv, FS, h, rfl⟩ := hk
  obtain ⟨c0, c1, c2, c3, c4, c5, c6, c7⟩ := h.cs
  cases hon : st.on with
  | false =>
    have e : st.fail keep = (150, st) := by unfold Ds.fail; rw [if_pos hon]
    rw [e]
    rw [hon] at c2
    clear h hon e
    go_enter Try.func23, Try.ntmps23
    go_wp2
    go_ret
    exact rk_same HKK.out _
  | true =>
    have e : st.fail keep = (0, st.lost keep st.F) := by unfold Ds.fail; rw [if_neg (by simp [hon])]
    rw [e]
    rw [hon] at c2
    have HL := Lib.hid (rlose_p h keep)
    clear h hon e
    go_enter Try.func23, Try.ntmps23
    go_wp2_with (go_at_call 63; (with_reducible refine HL.out.mono ?_); rintro e9 w9 ⟨rfl, F9, hr9, ht9, hf9⟩)
    go_ret
    exact ⟨rfl, F9, hr9, ht9, hf9⟩
theorem RefIn.put_su {W : World} {q g n cap : Nat} {FS : List Fr} {st : Ds} (hr : RefIn W q (.slice (some ⟨g, 0, none⟩) n cap) FS st) {i : Nat} (hi : i < FS.length) (s : Nat) (hs : s ≤ (FS.getD i Fr.zero).f.b.length) :
    RefIn (W.setCell ⟨g, i * 3 + 2, none⟩ (.int .i64 (s : Int))) q (.slice (some ⟨g, 0, none⟩) n cap) (FS.set i ⟨(FS.getD i Fr.zero).v, ⟨(FS.getD i Fr.zero).f.nm, (FS.getD i Fr.zero).f.b, s⟩⟩) { st with F := st.F.set i ⟨(FS.getD i Fr.zero).f.nm, (FS.getD i Fr.zero).f.b, s⟩ } := by
  obtain ⟨curg, hcurg, -⟩ := hr.lb
  obtain ⟨hm, hl, -, -⟩ := hr.mem hi
  have hst := frs_store1 hr.list hi (j := 2) (by omega) (.int .i64 (s : Int)) ⟨(FS.getD i Fr.zero).v, ⟨(FS.getD i Fr.zero).f.nm, (FS.getD i Fr.zero).f.b, s⟩⟩ rfl
  refine hr.put hi ⟨(FS.getD i Fr.zero).v, ⟨(FS.getD i Fr.zero).f.nm, (FS.getD i Fr.zero).f.b, s⟩⟩ hst (fun k _ hk => heap_setCell_other _ _ _ _ hk) ((hr.own _ hm).of_blk fun k hk => heap_setCell_other _ _ _ _ (fun e => ?_)) rfl ⟨hl, hs⟩
  have e : k = g := e
  subst e
  obtain ⟨c9, hc9⟩ := (hr.own _ hm).blkD hk
  exact absurd (tneD hc9 hcurg) (by decide)
theorem RefIn.put_b {W : World} {q g n cap : Nat} {FS : List Fr} {st : Ds} (hr : RefIn W q (.slice (some ⟨g, 0, none⟩) n cap) FS st) {i : Nat} (hi : i < FS.length) {ua : Option Addr} {m uc B : Nat} {l : List UInt8} (ho : OwnB W B 5 (.slice ua m uc) l) (hl : l.length ≤ 1048576) (hs : (FS.getD i Fr.zero).f.su ≤ l.length) :
    RefIn (W.setCell ⟨g, i * 3 + 1, none⟩ (.slice ua m uc)) q (.slice (some ⟨g, 0, none⟩) n cap) (FS.set i ⟨.slice ua m uc, ⟨(FS.getD i Fr.zero).f.nm, l, (FS.getD i Fr.zero).f.su⟩⟩) { st with F := st.F.set i ⟨(FS.getD i Fr.zero).f.nm, l, (FS.getD i Fr.zero).f.su⟩ } := by
  obtain ⟨curg, hcurg, -⟩ := hr.lb
  have hst := frs_store1 hr.list hi (j := 1) (by omega) (.slice ua m uc) ⟨.slice ua m uc, ⟨(FS.getD i Fr.zero).f.nm, l, (FS.getD i Fr.zero).f.su⟩⟩ rfl
  refine hr.put hi ⟨.slice ua m uc, ⟨(FS.getD i Fr.zero).f.nm, l, (FS.getD i Fr.zero).f.su⟩⟩ hst (fun k _ hk => heap_setCell_other _ _ _ _ hk) ((ho.mono (Nat.zero_le _)).of_blk fun k hk => heap_setCell_other _ _ _ _ (fun e => ?_)) rfl ⟨hl, hs⟩
  have e : k = g := e
  subst e
  obtain ⟨c9, hc9⟩ := ho.blkD hk
  exact absurd (tneD hc9 hcurg) (by decide)
/-- A file's place in the list: its cells, in every world in which nothing of the old is turned. -/
theorem RefIn.spot {w : World} {q : Nat} {a : Option Addr} {n cap : Nat} {FS : List Fr} {st : Ds} (h : RefIn w q (.slice a n cap) FS st) {i : Nat} (hi : i < FS.length) : FS.length = n ∧ n ≤ cap ∧ ∃ g xa xc, a = some ⟨g, 0, none⟩ ∧ (FS.getD i Fr.zero).v = .slice xa (FS.getD i Fr.zero).f.b.length xc ∧ Bys w xa (FS.getD i Fr.zero).f.b.length xc (FS.getD i Fr.zero).f.b ∧
    ∀ W, Below w.heap.size w W → W.cell? ⟨q, 1, none⟩ = some (.slice (some ⟨g, 0, none⟩) n cap) ∧ W.cell? ⟨g, i * 3, none⟩ = some (.string (text (FS.getD i Fr.zero).f.nm)) ∧ W.cell? ⟨g, i * 3 + 1, none⟩ = some (.slice xa (FS.getD i Fr.zero).f.b.length xc) ∧ W.cell? ⟨g, i * 3 + 2, none⟩ = some (.int .i64 ((FS.getD i Fr.zero).f.su : Int)) ∧ ∀ j, W.frozen? ⟨g, j, none⟩ = false := by
  obtain ⟨a', cap', e9, hle, -, hat⟩ := h.at
  injection e9 with e91 e92 e93
  subst e91 e93
  obtain ⟨g, rfl⟩ : ∃ g, a = some ⟨g, 0, none⟩ := by
    rcases h.list.2 with ⟨e, hz⟩ | ⟨g, cap', cur, e, -⟩
    · omega
    · injection e with e1 e2 e3; exact ⟨g, e1⟩
  obtain ⟨b, off, e8, hat⟩ := hat i hi
  injection e8 with e8
  injection e8 with e81 e82
  subst e81 e82
  obtain ⟨-, -, -, xa, xc, hxv, hxb⟩ := h.mem hi
  obtain ⟨cur, hcur, hln⟩ := h.lb
  refine ⟨hln, by omega, g, xa, xc, rfl, hxv, hxb, fun W hb => ?_⟩
  obtain ⟨k1, k2, k3⟩ := hat W hb
  rw [Nat.zero_add] at k1 k2 k3
  rw [hxv] at k2
  exact ⟨(h.below hb).cs.2.1, k1, k2, k3, fun j => frozen_of_row W g j _ 100 ((hb.block _ (Array.getElem?_eq_some_iff.1 hcur).1).trans hcur)⟩
theorem opd_no {st : Ds} {gd ga : List Fi → List Fi} (hp : st.plan = true ∧ st.pn = 0) : st.opd gd ga = (150, st.lost st.keep (ga st.F)) := by unfold Ds.opd; rw [if_pos hp]
theorem opd_yes {st : Ds} {gd ga : List Fi → List Fi} (hp : ¬ (st.plan = true ∧ st.pn = 0)) : st.opd gd ga = (0, { st.tick with F := gd st.F }) := by unfold Ds.opd; rw [if_neg hp]; rfl
theorem rtrn_q {w w1 : World} {q : Nat} {fv : Value} {FS : List Fr} (h : Trn (fun k => k = q) w w1) : Trn (rfoot q fv FS) w w1 := h.mono fun k hk => .inl hk
set_option maxRecDepth 100000 in
set_option maxHeartbeats 6400000 in
theorem rsync_c {w : World} {q : Nat} {st : Ds} {F : Nat → Prop} (hk : Rk w q st F) (nm : List UInt8) : Calls Try.prog 50 #[.pointer (some ⟨q, 0, none⟩), .string (text nm)] w (RPost q F (.int .i64 (st.sync nm).1) (st.sync nm).2 w) := by
  have HKK := Lib.hid hk
  obtain ⟨fv, FS, h, rfl⟩ := hk
  obtain ⟨c0, c1, c2, c3, c4, c5, c6, c7⟩ := h.cs
  cases hon : st.on with
  | false =>
    have e : st.sync nm = (150, st) := by unfold Ds.sync; rw [if_pos hon]
    rw [e]
    rw [hon] at c2
    clear h hon e
    go_enter Try.func50, Try.ntmps50
    go_wp2
    go_ret
    exact rk_same HKK.out _
  | true =>
    rw [hon] at c2
    rcases h.look nm with ⟨hl, hno⟩ | ⟨i, hi, hnm, hl⟩
    · have e : st.sync nm = (152, st) := by unfold Ds.sync; rw [if_neg (by simp [hon]), hl]
      rw [e]
      have HFN := Lib.hid (rfind_none h nm hno)
      obtain ⟨tx, htx⟩ : ∃ s, text nm = s := ⟨_, rfl⟩
      rw [htx] at HFN ⊢
      clear htx h hl hno hon e c0 c1 c3 c4 c5 c6 c7
      go_enter Try.func50, Try.ntmps50
      go_wp2_with (go_at_call 60; (with_reducible refine HFN.out.mono ?_); rintro e9 w9 ⟨rfl, hb9⟩; have HB9 := Lib.hid hb9; clear hb9)
      go_ret
      exact rk_below HKK.out HB9.out _
    · have HFN := Lib.hid (rfind_some h nm hi hnm)
      have HH := Lib.hid h
      have HI := Lib.hid (And.intro hi hnm)
      have HLK := Lib.hid (And.intro hon hl)
      obtain ⟨tx, htx⟩ : ∃ s, text nm = s := ⟨_, rfl⟩
      rw [htx] at HFN ⊢
      clear htx
      have hi0n : ¬ (i : Int) < 0 := by omega
      by_cases hp : st.plan = true ∧ st.pn = 0
      · have e : st.sync nm = (150, st.lost st.keep st.F) := by unfold Ds.sync; rw [if_neg (by simp [hon]), hl]; exact opd_no hp
        rw [e]
        have HP := Lib.hid hp
        clear h hl hon hi hnm e hp c0 c1 c3 c4 c5 c6 c7
        go_enter Try.func50, Try.ntmps50
        go_wp2_with (first | (go_at_call 60; (with_reducible refine HFN.out.mono ?_); rintro e9 w9 ⟨rfl, hb9⟩; have HB9 := Lib.hid hb9; have HR9 := Lib.hid (HH.out.below hb9); clear hb9) | (go_at_call 75; (with_reducible refine (rcounted_no HR9.out HP.out.1 HP.out.2).mono ?_); rintro e8 w8 ⟨rfl, rfl⟩; have q7 := HR9.out.cs.2.2.2.2.2.2.2) | (go_at_call 63; (with_reducible refine (rlose_p HR9.out st.keep).mono ?_); rintro e7 w7 ⟨rfl, F7, hr7, ht7, hf7⟩))
        go_ret
        exact ⟨rfl, F7, hr7, (Trn.of HB9.out).then ht7, fun k hk => (hf7 k hk).imp_right (fun h9 => Nat.le_trans HB9.out.size h9)⟩
      · have e : st.sync nm = (0, { st.tick with F := st.F.set i ⟨(FS.getD i Fr.zero).f.nm, (FS.getD i Fr.zero).f.b, (FS.getD i Fr.zero).f.b.length⟩ }) := by
          unfold Ds.sync
          rw [if_neg (by simp [hon]), hl]
          simp only
          rw [opd_yes hp, setF_set h hi hnm]
        rw [e]
        have HP := Lib.hid hp
        clear h hl hon hi hnm e hp c0 c1 c3 c4 c5 c6 c7
        go_enter Try.func50, Try.ntmps50
        go_upto_region 9 with (first | (go_at_call 60; (with_reducible refine HFN.out.mono ?_); rintro e9 w9 ⟨rfl, hb9⟩; have HB9 := Lib.hid hb9; have HR9 := Lib.hid (HH.out.below hb9); clear hb9) | (go_at_call 75; (with_reducible refine (rcounted_c HR9.out HP.out).mono ?_); rintro e8 w8 ⟨rfl, hr8, ht8⟩; have HR8 := Lib.hid hr8; have HT8 := Lib.hid ht8; clear hr8 ht8))
        obtain ⟨a, cap, rfl, -⟩ := HH.out.at
        obtain ⟨hn, hle, g, xa, xc, rfl, hxv, hxb, hat⟩ := HR8.out.spot HI.out.1
        obtain ⟨n, hn9⟩ : ∃ n, FS.length = n := ⟨_, rfl⟩
        obtain ⟨xl, hxl⟩ : ∃ z, (FS.getD i Fr.zero).f.b.length = z := ⟨_, rfl⟩
        have HXL := Lib.hid hxl
        have hii : (i : Int) < (n : Int) := by have := HI.out.1; omega
        have hic : (i : Int) < (cap : Int) := by omega
        rw [hn9] at hat
        rw [hxl] at hat ⊢
        have HAT := Lib.hid hat
        clear hxv hxb hn hat hxl hle hn9
        refine wp_region_flow_tail 16 [none, none, none, none, none, none, none, none, none, none, none, none, none, none, none, none, none, none, none, none, none, none, none, none, some 0, some 1, some 2, some 3, some 4, some 5, some 6, some 7, some 8, some 9, some 10, some 11, some 12, some 13, some 14, some 15] (fun i => [undef, undef, undef, undef, undef, undef, undef, undef, undef, undef, undef, undef, undef, undef, undef, undef].getD i undef) [(fun v _ => v = .pointer (some ⟨q, 0, none⟩)), (fun v _ => v = .pointer (some ⟨q, 0, none⟩)), (fun v _ => v = .pointer (some ⟨q, 1, none⟩)), (fun v _ => v = .slice (some ⟨g, 0, none⟩) n cap), (fun v _ => v = .int .i64 (i : Int)), (fun v _ => v = .pointer (some ⟨q, 0, none⟩)), (fun v _ => v = .pointer (some ⟨q, 0, none⟩)), (fun v _ => v = .pointer (some ⟨q, 1, none⟩)), (fun v _ => v = .slice (some ⟨g, 0, none⟩) n cap), (fun v _ => v = .int .i64 (i : Int)), (fun v _ => v = .pointer (some ⟨g, i * 3, none⟩)), (fun v _ => v = .pointer (some ⟨g, i * 3 + 1, none⟩)), (fun v _ => v = .slice xa xl xc), (fun v _ => v = .int .i64 (xl : Int)), (fun v _ => v = .pointer (some ⟨g, i * 3, none⟩)), (fun v _ => v = .pointer (some ⟨g, i * 3 + 2, none⟩))] (fun _ => False) (by kernel_rfl) (by kernel_rfl) (by kernel_rfl) rfl rfl rfl ?_ ?_ ?_
        · intro g hg v X Y hX hY hv
          simp only [List.mem_cons, List.not_mem_nil, or_false] at hg
          rcases hg with rfl | rfl | rfl | rfl | rfl | rfl | rfl | rfl | rfl | rfl | rfl | rfl | rfl | rfl | rfl | rfl
          all_goals first
            | exact hv
            | exact hv.kept hY
        · simp only [flowOpsF, List.take_succ_cons, List.take_zero, and_true]
          refine ⟨?_, ?_, ?_, ?_, ?_, ?_, ?_, ?_, ?_, ?_, ?_, ?_, ?_, ?_, ?_, ?_⟩
          · intro xs W hW hn
            simp only [flowAct, List.zipWith_cons_cons, List.zipWith_nil_left]
            go_wp2_with (fail)
            exact ⟨rfl, _, rfl, Below.refl _ _, rfl, fun h => h.elim⟩
          · intro xs W hW hn
            simp [flowNeeds, Region.binds] at hn
            simp only [flowAct, List.zipWith_cons_cons, List.zipWith_nil_left]
            try simp only [hn]
            go_wp2_with (fail)
            exact ⟨rfl, _, rfl, Below.refl _ _, rfl, fun h => h.elim⟩
          · intro xs W hW hn
            simp [flowNeeds, Region.binds] at hn
            simp only [flowAct, List.zipWith_cons_cons, List.zipWith_nil_left]
            try simp only [hn]
            go_wp2_with (fail)
            exact ⟨rfl, _, rfl, Below.refl _ _, rfl, fun h => h.elim⟩
          · intro xs W hW hn
            obtain ⟨z1, z2, z3, z4, z5⟩ := HAT.out W hW
            simp [flowNeeds, Region.binds] at hn
            simp only [flowAct, List.zipWith_cons_cons, List.zipWith_nil_left]
            try simp only [hn]
            go_wp2_with (fail)
            exact ⟨rfl, _, rfl, Below.refl _ _, rfl, fun h => h.elim⟩
          · intro xs W hW hn
            simp only [flowAct, List.zipWith_cons_cons, List.zipWith_nil_left]
            go_wp2_with (fail)
            exact ⟨rfl, _, rfl, Below.refl _ _, rfl, fun h => h.elim⟩
          · intro xs W hW hn
            simp only [flowAct, List.zipWith_cons_cons, List.zipWith_nil_left]
            go_wp2_with (fail)
            exact ⟨rfl, _, rfl, Below.refl _ _, rfl, fun h => h.elim⟩
          · intro xs W hW hn
            simp [flowNeeds, Region.binds] at hn
            simp only [flowAct, List.zipWith_cons_cons, List.zipWith_nil_left]
            try simp only [hn]
            go_wp2_with (fail)
            exact ⟨rfl, _, rfl, Below.refl _ _, rfl, fun h => h.elim⟩
          · intro xs W hW hn
            simp [flowNeeds, Region.binds] at hn
            simp only [flowAct, List.zipWith_cons_cons, List.zipWith_nil_left]
            try simp only [hn]
            go_wp2_with (fail)
            exact ⟨rfl, _, rfl, Below.refl _ _, rfl, fun h => h.elim⟩
          · intro xs W hW hn
            obtain ⟨z1, z2, z3, z4, z5⟩ := HAT.out W hW
            simp [flowNeeds, Region.binds] at hn
            simp only [flowAct, List.zipWith_cons_cons, List.zipWith_nil_left]
            try simp only [hn]
            go_wp2_with (fail)
            exact ⟨rfl, _, rfl, Below.refl _ _, rfl, fun h => h.elim⟩
          · intro xs W hW hn
            simp only [flowAct, List.zipWith_cons_cons, List.zipWith_nil_left]
            go_wp2_with (fail)
            exact ⟨rfl, _, rfl, Below.refl _ _, rfl, fun h => h.elim⟩
          · intro xs W hW hn
            simp [flowNeeds, Region.binds] at hn
            simp only [flowAct, List.zipWith_cons_cons, List.zipWith_nil_left]
            try simp only [hn]
            go_wp2_with (fail)
            exact ⟨rfl, _, rfl, Below.refl _ _, rfl, fun h => h.elim⟩
          · intro xs W hW hn
            simp [flowNeeds, Region.binds] at hn
            simp only [flowAct, List.zipWith_cons_cons, List.zipWith_nil_left]
            try simp only [hn]
            go_wp2_with (fail)
            exact ⟨rfl, _, rfl, Below.refl _ _, rfl, fun h => h.elim⟩
          · intro xs W hW hn
            obtain ⟨z1, z2, z3, z4, z5⟩ := HAT.out W hW
            simp [flowNeeds, Region.binds] at hn
            simp only [flowAct, List.zipWith_cons_cons, List.zipWith_nil_left]
            try simp only [hn]
            go_wp2_with (fail)
            exact ⟨rfl, _, rfl, Below.refl _ _, rfl, fun h => h.elim⟩
          · intro xs W hW hn
            simp [flowNeeds, Region.binds] at hn
            simp only [flowAct, List.zipWith_cons_cons, List.zipWith_nil_left]
            try simp only [hn]
            go_wp2_with (fail)
            exact ⟨rfl, _, rfl, Below.refl _ _, rfl, fun h => h.elim⟩
          · intro xs W hW hn
            simp [flowNeeds, Region.binds] at hn
            simp only [flowAct, List.zipWith_cons_cons, List.zipWith_nil_left]
            try simp only [hn]
            go_wp2_with (fail)
            exact ⟨rfl, _, rfl, Below.refl _ _, rfl, fun h => h.elim⟩
          · intro xs W hW hn
            simp [flowNeeds, Region.binds] at hn
            simp only [flowAct, List.zipWith_cons_cons, List.zipWith_nil_left]
            try simp only [hn]
            go_wp2_with (fail)
            exact ⟨rfl, _, rfl, Below.refl _ _, rfl, fun h => h.elim⟩
        · intro xs W hW hall hfr
          clear hfr
          simp only [flowAll, and_true, Nat.zero_add, Nat.reduceAdd] at hall
          obtain ⟨a0, a1, a2, a3, a4, a5, a6, a7, a8, a9, a10, a11, a12, a13, a14, a15⟩ := hall
          simp only [flowAct, List.zipWith_cons_cons, List.zipWith_nil_left, List.drop_succ_cons, List.drop_zero]
          simp only [a13, a15]
          clear a0 a1 a2 a3 a4 a5 a6 a7 a8 a9 a10 a11 a12 a13 a14 a15
          have HW := Lib.hid hW
          obtain ⟨z1, z2, z3, z4, z5⟩ := HAT.out W hW
          have z6 := z5 (i * 3 + 2)
          clear hW z5
          go_wp2
          go_ret
          have hr := (HR8.out.below HW.out).put_su HI.out.1 (FS.getD i Fr.zero).f.b.length (Nat.le_refl _)
          rw [HXL.out] at hr ⊢
          refine ⟨rfl, _, ⟨_, _, hr, rfl⟩, ?_, ?_⟩
          · exact (((Trn.of HB9.out).then (rtrn_q HT8.out)).then (Trn.of HW.out)).set (.inl (.inr (.inl rfl)))
          · rintro k (h1 | h1 | ⟨x, hx, h1⟩)
            · exact .inl (.inl h1)
            · exact .inl (.inr (.inl h1))
            · rcases List.mem_or_eq_of_mem_set hx with hx | rfl
              · exact .inl (.inr (.inr ⟨x, hx, h1⟩))
              · exact .inl (.inr (.inr ⟨_, (HH.out.mem HI.out.1).1, h1⟩))
end Go.Proofs.Ytplanmiggeghfaa
