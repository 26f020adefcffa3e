/-
  Disk: operate.
-/
import Derived.Test.YtplanmiggeghfaaD6
import Derived.Shelf.Abstract
namespace Go.Proofs.Ytplanmiggeghfaa
open Go.RowKit Go Go.Sort Go.Maps Go.WideMaps
set_option linter.unusedVariables false
set_option maxRecDepth 20000

theorem st_pn (st : Ds) : ({ st with pn := st.pn } : Ds) = st := rfl
theorem FPost.turned {w W : World} {q m : Nat} {pv : Value} {FS : List Fl} {st : Ds} {g : List Fi → List Fi} {e : Ending} (h : FPost q m pv FS st g w e W) : e = .returned (.tuple #[]) ∧ ∃ FS', DiskIn W q m pv FS' { st with F := g st.F } ∧ Trn (foot q m pv FS) w W ∧ ∀ k, foot q m pv FS' k → foot q m pv FS k ∨ w.heap.size ≤ k := h
theorem ops_turn {W : World} {q m : Nat} {pv : Value} {FS : List Fl} {st : Ds} (h : DiskIn W q m pv FS st) (x : Int) : DiskIn (W.setCell ⟨q, 3, none⟩ (.int .i64 x)) q m pv FS { st with ops := x } := by
  refine h.turn (st' := { st with ops := x }) (fun k hk hne => heap_setCell_other _ _ _ _ hne) ?_ ?_ rfl ⟨h.ok.len, h.ok.each, h.ok.asc, h.ok.pn, h.ok.room⟩
  · rw [heap_setCell_same W q 3 _ 85 _ h.head]; rfl
  · rcases h.plan with h1 | ⟨h1, gp, h2, h3⟩
    · exact .inl h1
    · exact .inr ⟨h1, gp, h2, (heap_setCell_other W _ _ _ (fun e => h.kinds.2.1 (by rw [h2, e]))).trans h3⟩
theorem pn_turn {W : World} {q m gp : Nat} {FS : List Fl} {st : Ds} (h : DiskIn W q m (.pointer (some ⟨gp, 0, none⟩)) FS st) (hg : W.heap[gp]? = some (.cells #[.int .i64 st.pn, .int .i64 st.keep] 108 (0, 0))) (hp : st.plan = true) {x : Int} (hx : 0 ≤ x ∧ x ≤ 9223372036854775807) : DiskIn (W.setCell ⟨gp, 0, none⟩ (.int .i64 x)) q m (.pointer (some ⟨gp, 0, none⟩)) FS { st with pn := x } := by
  obtain ⟨k1, k2, k3, k4, k5, k6⟩ := h.kinds
  have hk : ∀ k, k ≠ gp → (W.setCell ⟨gp, 0, none⟩ (.int .i64 x)).heap[k]? = W.heap[k]? := fun k hne => heap_setCell_other _ _ _ _ hne
  refine ⟨(hk q (fun e => k2 (by rw [e]))).trans h.head, .inr ⟨hp, gp, rfl, ?_⟩, ownsMap_keep h.map (hk m (fun e => k3 (by rw [e]))), h.fb.keep fun y hy => ⟨hk _ (fun e => (k4 y hy).2.2.1 (by rw [e])), fun k hv => hk k (fun e => k6 y hy k hv (by rw [e]))⟩, h.pr, ⟨h.ok.len, h.ok.each, h.ok.asc, hx, h.ok.room⟩⟩
  rw [heap_setCell_same W gp 0 _ 108 _ hg]; rfl
set_option maxRecDepth 100000 in
set_option maxHeartbeats 6400000 in
theorem doperate20_c {w : World} {q m : Nat} {pv : Value} {FS : List Fl} {st : Ds} (h : DiskIn w q m pv FS st) {fd fa : Nat} {x0 x1 : Value} (ed : ∀ args w, (callFunc fd args).run Try.prog w = .ok (.enter fd args) w) (ea : ∀ args w, (callFunc fa args).run Try.prog w = .ok (.enter fa args) w) (gd ga : List Fi → List Fi)
    (Hd : ∀ W st', Trn (foot q m pv FS) w W → st'.F = st.F → DiskIn W q m pv FS st' → Calls Try.prog fd #[x0, x1] W (FPost q m pv FS st' gd W)) (Ha : ∀ W st', Trn (foot q m pv FS) w W → st'.F = st.F → DiskIn W q m pv FS st' → Calls Try.prog fa #[] W (FPost q m pv FS st' ga W)) :
    Calls Try.prog 65 #[.pointer (some ⟨q, 0, none⟩), .func (.func fd) #[] #[x0, x1], .func (.func fa) #[] #[]] w (DPost q (foot q m pv FS) (.int .i64 (st.opd gd ga).1) (st.opd gd ga).2 w) := by
  have HD := Lib.hid h
  have HHd := Lib.hid Hd
  have HHa := Lib.hid Ha
  obtain ⟨c0, c1, c2, c3, c4, c5⟩ := h.cs
  obtain ⟨o1, ho1⟩ : ∃ x, wr64 (st.ops + 1) = x := ⟨_, rfl⟩
  have hw : IntKind.i64.wrap (st.ops + 1) = o1 := ho1
  rcases h.plan with ⟨hp, hpv⟩ | ⟨hp, gp, hpv, hg⟩
  · have hop : st.opd gd ga = (0, { st with F := gd st.F, ops := o1, pn := st.pn }) := by
      unfold Ds.opd; rw [if_neg (by rw [hp]; simp), ho1, hp]; rfl
    rw [hop]
    subst hpv
    have HC := Lib.hid (Hd w st Trn.refl rfl h)
    clear h Hd Ha hop hp ho1 ea
    go_enter Try.func65, Try.ntmps65
    go_upto_region 8 with (go_at_fn fd; (with_reducible refine HC.out.mono ?_); rintro e1 w1 ⟨rfl, FS1, hd1, ht1, hf1⟩)
    have HD1 := Lib.hid hd1
    have HT1 := Lib.hid (And.intro ht1 hf1)
    obtain ⟨-, -, -, x3, -, -⟩ := hd1.cs
    have x3 : w1.cell? ⟨q, 3, none⟩ = some (.int .i64 st.ops) := x3
    have f3 := hd1.fz 3
    clear hd1 ht1 hf1 c0 c1 c2 c3 c4 c5
    go_wp2
    go_ret
    exact ⟨rfl, _, ⟨m, _, FS1, ops_turn HD1.out _, rfl⟩, HT1.out.1.set (.inl (.inl rfl)), HT1.out.2⟩
  · subst hpv
    have d0 : w.cell? ⟨gp, 0, none⟩ = some (.int .i64 st.pn) := by rw [cell_of_row w gp 0 _ 108 (0, 0) hg]; rfl
    have d1 : w.cell? ⟨gp, 1, none⟩ = some (.int .i64 st.keep) := by rw [cell_of_row w gp 1 _ 108 (0, 0) hg]; rfl
    by_cases h0 : st.pn = 0
    · have hop : st.opd gd ga = (150, st.lost st.keep (ga st.F)) := by unfold Ds.opd; rw [if_pos ⟨hp, h0⟩]
      rw [hop]
      rw [h0] at d0
      have HC := Lib.hid (Ha w st Trn.refl rfl h)
      clear h Hd Ha hop ho1 h0 ed
      go_enter Try.func65, Try.ntmps65
      go_upto_region 4 with (go_at_fn fa; (with_reducible refine HC.out.mono ?_); rintro e1 w1 ⟨rfl, FS1, hd1, ht1, hf1⟩)
      have HD1 := Lib.hid hd1
      have HT1 := Lib.hid (And.intro ht1 hf1)
      obtain ⟨-, -, -, -, -, x5⟩ := hd1.cs
      have y1 : w1.cell? ⟨gp, 1, none⟩ = some (.int .i64 st.keep) := by
        rcases hd1.plan with ⟨h1, -⟩ | ⟨-, gp', e, h3⟩
        · exact absurd (hp.symm.trans h1) (by simp)
        · injection e with e; injection e with e; injection e with e
          subst e
          rw [cell_of_row w1 gp 1 _ 108 (0, 0) h3]; rfl
      have HL := Lib.hid (dlose_c hd1 st.keep)
      clear hd1 ht1 hf1 c0 c1 c2 c3 c4 c5 d0 d1 hg
      go_wp2_with (go_at_call 62; (with_reducible refine HL.out.mono ?_); rintro e2 w2 ⟨rfl, F2, hk2, ht2, hf2⟩)
      go_ret
      refine ⟨rfl, F2, hk2, HT1.out.1.trans ht2 HT1.out.2, fun k hk => ?_⟩
      rcases hf2 k hk with h1 | h1
      · exact HT1.out.2 k h1
      · have := HT1.out.1.size; exact .inr (by omega)
    · have e0 : (st.pn == 0) = false := by simpa using h0
      have hpo := h.ok.pn
      have hop : st.opd gd ga = (0, { st with F := gd st.F, ops := o1, pn := st.pn - 1 }) := by
        unfold Ds.opd; rw [if_neg (fun hh => h0 hh.2), ho1, if_pos hp]
      rw [hop]
      have hw2 : IntKind.i64.wrap (st.pn - 1) = st.pn - 1 := by rw [IntKind.wrap_i64]; omega
      have HW3 := Lib.hid (show wrap64 (st.pn - 1) = st.pn - 1 by unfold wrap64; omega)
      have hd2 := pn_turn h hg hp (x := st.pn - 1) (by omega)
      have ht2 : Trn (foot q m (.pointer (some ⟨gp, 0, none⟩)) FS) w (w.setCell ⟨gp, 0, none⟩ (.int .i64 (st.pn - 1))) := Trn.refl.set (.inl (.inr (.inr (.inl rfl))))
      have HC := Lib.hid (Hd _ { st with pn := st.pn - 1 } ht2 rfl hd2)
      have HT2 := Lib.hid ht2
      have fg := frozen_of_row w gp 0 _ 108 hg
      obtain ⟨p1, hp1⟩ : ∃ x, st.pn - 1 = x := ⟨_, rfl⟩
      rw [hp1] at hw2 HC HT2 HW3 ⊢
      clear h Hd Ha hop ho1 h0 hpo hd2 ht2 ea hp
      go_enter Try.func65, Try.ntmps65
      go_upto_region 7 with (fail)
      try rw [hp1]
      try rw [HW3.out]
      clear c0 c1 c2 c3 c4 c5 d0 d1 fg hg
      generalize w.setCell ⟨gp, 0, none⟩ (.int .i64 p1) = W2 at *
      go_upto_region 8 with (go_at_fn fd; (with_reducible refine HC.out.mono ?_); rintro e1 w1 ⟨rfl, FS1, hd1, ht1, hf1⟩)
      have HD1 := Lib.hid hd1
      have HT1 := Lib.hid (And.intro ht1 hf1)
      obtain ⟨-, -, -, x3, -, -⟩ := hd1.cs
      have x3 : w1.cell? ⟨q, 3, none⟩ = some (.int .i64 st.ops) := x3
      have f3 := hd1.fz 3
      clear hd1 ht1 hf1
      go_wp2
      go_ret
      exact ⟨rfl, _, ⟨m, _, FS1, ops_turn HD1.out _, rfl⟩, (HT2.out.then HT1.out.1).set (.inl (.inl rfl)), fun k hk => (HT1.out.2 k hk).imp_right (fun h => Nat.le_trans HT2.out.size h)⟩
set_option maxRecDepth 100000 in
set_option maxHeartbeats 6400000 in
theorem doperate10_c {w : World} {q m : Nat} {pv : Value} {FS : List Fl} {st : Ds} (h : DiskIn w q m pv FS st) {fd fa : Nat} {x0 : Value} (ed : ∀ args w, (callFunc fd args).run Try.prog w = .ok (.enter fd args) w) (ea : ∀ args w, (callFunc fa args).run Try.prog w = .ok (.enter fa args) w) (gd ga : List Fi → List Fi)
    (Hd : ∀ W st', Trn (foot q m pv FS) w W → st'.F = st.F → DiskIn W q m pv FS st' → Calls Try.prog fd #[x0] W (FPost q m pv FS st' gd W)) (Ha : ∀ W st', Trn (foot q m pv FS) w W → st'.F = st.F → DiskIn W q m pv FS st' → Calls Try.prog fa #[] W (FPost q m pv FS st' ga W)) :
    Calls Try.prog 65 #[.pointer (some ⟨q, 0, none⟩), .func (.func fd) #[] #[x0], .func (.func fa) #[] #[]] w (DPost q (foot q m pv FS) (.int .i64 (st.opd gd ga).1) (st.opd gd ga).2 w) := by
  have HD := Lib.hid h
  have HHd := Lib.hid Hd
  have HHa := Lib.hid Ha
  obtain ⟨c0, c1, c2, c3, c4, c5⟩ := h.cs
  obtain ⟨o1, ho1⟩ : ∃ x, wr64 (st.ops + 1) = x := ⟨_, rfl⟩
  have hw : IntKind.i64.wrap (st.ops + 1) = o1 := ho1
  rcases h.plan with ⟨hp, hpv⟩ | ⟨hp, gp, hpv, hg⟩
  · have hop : st.opd gd ga = (0, { st with F := gd st.F, ops := o1, pn := st.pn }) := by
      unfold Ds.opd; rw [if_neg (by rw [hp]; simp), ho1, hp]; rfl
    rw [hop]
    subst hpv
    have HC := Lib.hid (Hd w st Trn.refl rfl h)
    clear h Hd Ha hop hp ho1 ea
    go_enter Try.func65, Try.ntmps65
    go_upto_region 8 with (go_at_fn fd; (with_reducible refine HC.out.mono ?_); rintro e1 w1 ⟨rfl, FS1, hd1, ht1, hf1⟩)
    have HD1 := Lib.hid hd1
    have HT1 := Lib.hid (And.intro ht1 hf1)
    obtain ⟨-, -, -, x3, -, -⟩ := hd1.cs
    have x3 : w1.cell? ⟨q, 3, none⟩ = some (.int .i64 st.ops) := x3
    have f3 := hd1.fz 3
    clear hd1 ht1 hf1 c0 c1 c2 c3 c4 c5
    go_wp2
    go_ret
    exact ⟨rfl, _, ⟨m, _, FS1, ops_turn HD1.out _, rfl⟩, HT1.out.1.set (.inl (.inl rfl)), HT1.out.2⟩
  · subst hpv
    have d0 : w.cell? ⟨gp, 0, none⟩ = some (.int .i64 st.pn) := by rw [cell_of_row w gp 0 _ 108 (0, 0) hg]; rfl
    have d1 : w.cell? ⟨gp, 1, none⟩ = some (.int .i64 st.keep) := by rw [cell_of_row w gp 1 _ 108 (0, 0) hg]; rfl
    by_cases h0 : st.pn = 0
    · have hop : st.opd gd ga = (150, st.lost st.keep (ga st.F)) := by unfold Ds.opd; rw [if_pos ⟨hp, h0⟩]
      rw [hop]
      rw [h0] at d0
      have HC := Lib.hid (Ha w st Trn.refl rfl h)
      clear h Hd Ha hop ho1 h0 ed
      go_enter Try.func65, Try.ntmps65
      go_upto_region 4 with (go_at_fn fa; (with_reducible refine HC.out.mono ?_); rintro e1 w1 ⟨rfl, FS1, hd1, ht1, hf1⟩)
      have HD1 := Lib.hid hd1
      have HT1 := Lib.hid (And.intro ht1 hf1)
      obtain ⟨-, -, -, -, -, x5⟩ := hd1.cs
      have y1 : w1.cell? ⟨gp, 1, none⟩ = some (.int .i64 st.keep) := by
        rcases hd1.plan with ⟨h1, -⟩ | ⟨-, gp', e, h3⟩
        · exact absurd (hp.symm.trans h1) (by simp)
        · injection e with e; injection e with e; injection e with e
          subst e
          rw [cell_of_row w1 gp 1 _ 108 (0, 0) h3]; rfl
      have HL := Lib.hid (dlose_c hd1 st.keep)
      clear hd1 ht1 hf1 c0 c1 c2 c3 c4 c5 d0 d1 hg
      go_wp2_with (go_at_call 62; (with_reducible refine HL.out.mono ?_); rintro e2 w2 ⟨rfl, F2, hk2, ht2, hf2⟩)
      go_ret
      refine ⟨rfl, F2, hk2, HT1.out.1.trans ht2 HT1.out.2, fun k hk => ?_⟩
      rcases hf2 k hk with h1 | h1
      · exact HT1.out.2 k h1
      · have := HT1.out.1.size; exact .inr (by omega)
    · have e0 : (st.pn == 0) = false := by simpa using h0
      have hpo := h.ok.pn
      have hop : st.opd gd ga = (0, { st with F := gd st.F, ops := o1, pn := st.pn - 1 }) := by
        unfold Ds.opd; rw [if_neg (fun hh => h0 hh.2), ho1, if_pos hp]
      rw [hop]
      have hw2 : IntKind.i64.wrap (st.pn - 1) = st.pn - 1 := by rw [IntKind.wrap_i64]; omega
      have HW3 := Lib.hid (show wrap64 (st.pn - 1) = st.pn - 1 by unfold wrap64; omega)
      have hd2 := pn_turn h hg hp (x := st.pn - 1) (by omega)
      have ht2 : Trn (foot q m (.pointer (some ⟨gp, 0, none⟩)) FS) w (w.setCell ⟨gp, 0, none⟩ (.int .i64 (st.pn - 1))) := Trn.refl.set (.inl (.inr (.inr (.inl rfl))))
      have HC := Lib.hid (Hd _ { st with pn := st.pn - 1 } ht2 rfl hd2)
      have HT2 := Lib.hid ht2
      have fg := frozen_of_row w gp 0 _ 108 hg
      obtain ⟨p1, hp1⟩ : ∃ x, st.pn - 1 = x := ⟨_, rfl⟩
      rw [hp1] at hw2 HC HT2 HW3 ⊢
      clear h Hd Ha hop ho1 h0 hpo hd2 ht2 ea hp
      go_enter Try.func65, Try.ntmps65
      go_upto_region 7 with (fail)
      try rw [hp1]
      try rw [HW3.out]
      clear c0 c1 c2 c3 c4 c5 d0 d1 fg hg
      generalize w.setCell ⟨gp, 0, none⟩ (.int .i64 p1) = W2 at *
      go_upto_region 8 with (go_at_fn fd; (with_reducible refine HC.out.mono ?_); rintro e1 w1 ⟨rfl, FS1, hd1, ht1, hf1⟩)
      have HD1 := Lib.hid hd1
      have HT1 := Lib.hid (And.intro ht1 hf1)
      obtain ⟨-, -, -, x3, -, -⟩ := hd1.cs
      have x3 : w1.cell? ⟨q, 3, none⟩ = some (.int .i64 st.ops) := x3
      have f3 := hd1.fz 3
      clear hd1 ht1 hf1
      go_wp2
      go_ret
      exact ⟨rfl, _, ⟨m, _, FS1, ops_turn HD1.out _, rfl⟩, (HT2.out.then HT1.out.1).set (.inl (.inl rfl)), fun k hk => (HT1.out.2 k hk).imp_right (fun h => Nat.le_trans HT2.out.size h)⟩
set_option maxRecDepth 100000 in
set_option maxHeartbeats 6400000 in
theorem doperate22_c {w : World} {q m : Nat} {pv : Value} {FS : List Fl} {st : Ds} (h : DiskIn w q m pv FS st) {fd fa : Nat} {x0 x1 y0 y1 : Value} (ed : ∀ args w, (callFunc fd args).run Try.prog w = .ok (.enter fd args) w) (ea : ∀ args w, (callFunc fa args).run Try.prog w = .ok (.enter fa args) w) (gd ga : List Fi → List Fi)
    (Hd : ∀ W st', Trn (foot q m pv FS) w W → st'.F = st.F → DiskIn W q m pv FS st' → Calls Try.prog fd #[x0, x1] W (FPost q m pv FS st' gd W)) (Ha : ∀ W st', Trn (foot q m pv FS) w W → st'.F = st.F → DiskIn W q m pv FS st' → Calls Try.prog fa #[y0, y1] W (FPost q m pv FS st' ga W)) :
    Calls Try.prog 65 #[.pointer (some ⟨q, 0, none⟩), .func (.func fd) #[] #[x0, x1], .func (.func fa) #[] #[y0, y1]] w (DPost q (foot q m pv FS) (.int .i64 (st.opd gd ga).1) (st.opd gd ga).2 w) := by
  have HD := Lib.hid h
  have HHd := Lib.hid Hd
  have HHa := Lib.hid Ha
  obtain ⟨c0, c1, c2, c3, c4, c5⟩ := h.cs
  obtain ⟨o1, ho1⟩ : ∃ x, wr64 (st.ops + 1) = x := ⟨_, rfl⟩
  have hw : IntKind.i64.wrap (st.ops + 1) = o1 := ho1
  rcases h.plan with ⟨hp, hpv⟩ | ⟨hp, gp, hpv, hg⟩
  · have hop : st.opd gd ga = (0, { st with F := gd st.F, ops := o1, pn := st.pn }) := by
      unfold Ds.opd; rw [if_neg (by rw [hp]; simp), ho1, hp]; rfl
    rw [hop]
    subst hpv
    have HC := Lib.hid (Hd w st Trn.refl rfl h)
    clear h Hd Ha hop hp ho1 ea
    go_enter Try.func65, Try.ntmps65
    go_upto_region 8 with (go_at_fn fd; (with_reducible refine HC.out.mono ?_); rintro e1 w1 ⟨rfl, FS1, hd1, ht1, hf1⟩)
    have HD1 := Lib.hid hd1
    have HT1 := Lib.hid (And.intro ht1 hf1)
    obtain ⟨-, -, -, x3, -, -⟩ := hd1.cs
    have x3 : w1.cell? ⟨q, 3, none⟩ = some (.int .i64 st.ops) := x3
    have f3 := hd1.fz 3
    clear hd1 ht1 hf1 c0 c1 c2 c3 c4 c5
    go_wp2
    go_ret
    exact ⟨rfl, _, ⟨m, _, FS1, ops_turn HD1.out _, rfl⟩, HT1.out.1.set (.inl (.inl rfl)), HT1.out.2⟩
  · subst hpv
    have d0 : w.cell? ⟨gp, 0, none⟩ = some (.int .i64 st.pn) := by rw [cell_of_row w gp 0 _ 108 (0, 0) hg]; rfl
    have d1 : w.cell? ⟨gp, 1, none⟩ = some (.int .i64 st.keep) := by rw [cell_of_row w gp 1 _ 108 (0, 0) hg]; rfl
    by_cases h0 : st.pn = 0
    · have hop : st.opd gd ga = (150, st.lost st.keep (ga st.F)) := by unfold Ds.opd; rw [if_pos ⟨hp, h0⟩]
      rw [hop]
      rw [h0] at d0
      have HC := Lib.hid (Ha w st Trn.refl rfl h)
      clear h Hd Ha hop ho1 h0 ed
      go_enter Try.func65, Try.ntmps65
      go_upto_region 4 with (go_at_fn fa; (with_reducible refine HC.out.mono ?_); rintro e1 w1 ⟨rfl, FS1, hd1, ht1, hf1⟩)
      have HD1 := Lib.hid hd1
      have HT1 := Lib.hid (And.intro ht1 hf1)
      obtain ⟨-, -, -, -, -, x5⟩ := hd1.cs
      have y1 : w1.cell? ⟨gp, 1, none⟩ = some (.int .i64 st.keep) := by
        rcases hd1.plan with ⟨h1, -⟩ | ⟨-, gp', e, h3⟩
        · exact absurd (hp.symm.trans h1) (by simp)
        · injection e with e; injection e with e; injection e with e
          subst e
          rw [cell_of_row w1 gp 1 _ 108 (0, 0) h3]; rfl
      have HL := Lib.hid (dlose_c hd1 st.keep)
      clear hd1 ht1 hf1 c0 c1 c2 c3 c4 c5 d0 d1 hg
      go_wp2_with (go_at_call 62; (with_reducible refine HL.out.mono ?_); rintro e2 w2 ⟨rfl, F2, hk2, ht2, hf2⟩)
      go_ret
      refine ⟨rfl, F2, hk2, HT1.out.1.trans ht2 HT1.out.2, fun k hk => ?_⟩
      rcases hf2 k hk with h1 | h1
      · exact HT1.out.2 k h1
      · have := HT1.out.1.size; exact .inr (by omega)
    · have e0 : (st.pn == 0) = false := by simpa using h0
      have hpo := h.ok.pn
      have hop : st.opd gd ga = (0, { st with F := gd st.F, ops := o1, pn := st.pn - 1 }) := by
        unfold Ds.opd; rw [if_neg (fun hh => h0 hh.2), ho1, if_pos hp]
      rw [hop]
      have hw2 : IntKind.i64.wrap (st.pn - 1) = st.pn - 1 := by rw [IntKind.wrap_i64]; omega
      have HW3 := Lib.hid (show wrap64 (st.pn - 1) = st.pn - 1 by unfold wrap64; omega)
      have hd2 := pn_turn h hg hp (x := st.pn - 1) (by omega)
      have ht2 : Trn (foot q m (.pointer (some ⟨gp, 0, none⟩)) FS) w (w.setCell ⟨gp, 0, none⟩ (.int .i64 (st.pn - 1))) := Trn.refl.set (.inl (.inr (.inr (.inl rfl))))
      have HC := Lib.hid (Hd _ { st with pn := st.pn - 1 } ht2 rfl hd2)
      have HT2 := Lib.hid ht2
      have fg := frozen_of_row w gp 0 _ 108 hg
      obtain ⟨p1, hp1⟩ : ∃ x, st.pn - 1 = x := ⟨_, rfl⟩
      rw [hp1] at hw2 HC HT2 HW3 ⊢
      clear h Hd Ha hop ho1 h0 hpo hd2 ht2 ea hp
      go_enter Try.func65, Try.ntmps65
      go_upto_region 7 with (fail)
      try rw [hp1]
      try rw [HW3.out]
      clear c0 c1 c2 c3 c4 c5 d0 d1 fg hg
      generalize w.setCell ⟨gp, 0, none⟩ (.int .i64 p1) = W2 at *
      go_upto_region 8 with (go_at_fn fd; (with_reducible refine HC.out.mono ?_); rintro e1 w1 ⟨rfl, FS1, hd1, ht1, hf1⟩)
      have HD1 := Lib.hid hd1
      have HT1 := Lib.hid (And.intro ht1 hf1)
      obtain ⟨-, -, -, x3, -, -⟩ := hd1.cs
      have x3 : w1.cell? ⟨q, 3, none⟩ = some (.int .i64 st.ops) := x3
      have f3 := hd1.fz 3
      clear hd1 ht1 hf1
      go_wp2
      go_ret
      exact ⟨rfl, _, ⟨m, _, FS1, ops_turn HD1.out _, rfl⟩, (HT2.out.then HT1.out.1).set (.inl (.inl rfl)), fun k hk => (HT1.out.2 k hk).imp_right (fun h => Nat.le_trans HT2.out.size h)⟩
end Go.Proofs.Ytplanmiggeghfaa
