/-
  Clock: Meet of both, what a clock that no call made tells; the example.
-/
import Derived.Test.YtpndpmgbnnpciaaC2
namespace Go.Proofs.Ytpndpmgbnnpciaa
open Go.RowKit Go Go.Sort
set_option linter.unusedVariables false
set_option maxRecDepth 20000

theorem prs2 (W : World) (a b c d : Int) : Prs (W.alloc (.cells #[.int .i64 a, .int .i64 b, .int .i64 c, .int .i64 d] 66)) (some ⟨W.heap.size, 0, none⟩) 2 2 [(a, b), (c, d)] := sprs2 W a b c d
theorem ckmeet_nil (w : World) (x y : Int) : Calls Try.prog 45 #[.pointer none, .agg #[.int .i64 x, .int .i64 y]] w (Tells (.int .i64 1) w) := by
  have HB := Lib.hid (alloc_below w (.cells #[.int .i64 x, .int .i64 y] 66))
  go_enter Try.func45, Try.ntmps45
  go_wp2_with (go_at_call 80; (with_reducible refine (ckmade_nil _).mono ?_); rintro e1 w1 ⟨rfl, rfl⟩)
  go_ret
  exact ⟨rfl, HB.out⟩
set_option maxHeartbeats 3200000 in
theorem cktick_nil (w : World) (now : Int) : Calls Try.prog 43 #[.pointer none, .int .i64 now] w (Tells (.tuple #[.agg #[.int .i64 0, .int .i64 0], .int .i64 1]) w) := by
  have HO := Lib.hid (Pair.new w 66 0 0)
  have HB := Lib.hid (alloc_below w (.cells #[.int .i64 0, .int .i64 0] 66))
  go_enter Try.func43, Try.ntmps43
  go_upto_region 1 with (fail)
  obtain ⟨B, hB⟩ : ∃ q, w.heap.size = q := ⟨_, rfl⟩
  have HSB := Lib.hid hB
  rw [hB] at HO ⊢
  clear hB
  generalize w.alloc (.cells #[.int .i64 0, .int .i64 0] 66) = W1 at *
  go_upto_region 2 with (go_at_call 47; (with_reducible refine (ckpeek_nil now _).mono ?_); rintro e1 w1 ⟨rfl, hb1⟩)
  have hb2 := hb1.trans ((alloc_below w1 (.cells #[.int .i64 0, .int .i64 0] 66)).mono hb1.size)
  have HB2 := Lib.hid (HB.out.trans (hb2.mono HB.out.size))
  have HO2 := Lib.hid (HO.out.kept hb2)
  have hl := Pair.new w1 66 0 0
  obtain ⟨gl, hgl⟩ : ∃ q, w1.heap.size = q := ⟨_, rfl⟩
  rw [hgl] at hl ⊢
  have HL := Lib.hid hl
  clear hgl hl hb1 hb2
  generalize w1.alloc (.cells #[.int .i64 0, .int .i64 0] 66) = W2 at *
  have l0 := HL.out.c0
  have l1 := HL.out.c1
  have z0 := HO2.out.c0
  have z1 := HO2.out.c1
  have f0 := HO2.out.fz 0
  have f1 := HO2.out.fz 1
  go_wp2
  refine bodyPost_ret (res_cell_tmp rfl _ _ B 66 _ (0, 0) _ _ rfl rfl ((HO2.out.set0 0).set1 0) Try.underlying66 rfl (size2s _ _)) rfl ⟨by rfl, (HB2.out.setCell (Nat.le_of_eq HSB.out) _).setCell (Nat.le_of_eq HSB.out) _⟩
theorem ckmeet_un {w : World} {g : Nat} {n s t : Int} (h : Clk w g 96 0 n s t) (x y : Int) : Calls Try.prog 45 #[.pointer (some ⟨g, 0, none⟩), .agg #[.int .i64 x, .int .i64 y]] w (Tells (.int .i64 1) w) := by
  have HB := Lib.hid (alloc_below w (.cells #[.int .i64 x, .int .i64 y] 66))
  have HK := Lib.hid (h.kept HB.out)
  clear h
  go_enter Try.func45, Try.ntmps45
  go_wp2_with (go_at_call 80; (with_reducible refine (ckmade_c HK.out false rfl).mono ?_); rintro e1 w1 ⟨rfl, rfl⟩)
  go_ret
  exact ⟨rfl, HB.out⟩
set_option maxHeartbeats 3200000 in
theorem cktick_un {w : World} {g : Nat} {n s t : Int} (h : Clk w g 96 0 n s t) (now : Int) : Calls Try.prog 43 #[.pointer (some ⟨g, 0, none⟩), .int .i64 now] w (Tells (.tuple #[.agg #[.int .i64 0, .int .i64 0], .int .i64 1]) w) := by
  have HO := Lib.hid (Pair.new w 66 0 0)
  have HB := Lib.hid (alloc_below w (.cells #[.int .i64 0, .int .i64 0] 66))
  have HK := Lib.hid (h.kept HB.out)
  clear h
  go_enter Try.func43, Try.ntmps43
  go_upto_region 1 with (fail)
  obtain ⟨B, hB⟩ : ∃ q, w.heap.size = q := ⟨_, rfl⟩
  have HSB := Lib.hid hB
  rw [hB] at HO ⊢
  clear hB
  generalize w.alloc (.cells #[.int .i64 0, .int .i64 0] 66) = W1 at *
  go_upto_region 2 with (go_at_call 47; (with_reducible refine (ckpeek_un HK.out now).mono ?_); rintro e1 w1 ⟨rfl, hb1⟩)
  have hb2 := hb1.trans ((alloc_below w1 (.cells #[.int .i64 0, .int .i64 0] 66)).mono hb1.size)
  have HB2 := Lib.hid (HB.out.trans (hb2.mono HB.out.size))
  have HO2 := Lib.hid (HO.out.kept hb2)
  have hl := Pair.new w1 66 0 0
  obtain ⟨gl, hgl⟩ : ∃ q, w1.heap.size = q := ⟨_, rfl⟩
  rw [hgl] at hl ⊢
  have HL := Lib.hid hl
  clear hgl hl hb1 hb2
  generalize w1.alloc (.cells #[.int .i64 0, .int .i64 0] 66) = W2 at *
  have l0 := HL.out.c0
  have l1 := HL.out.c1
  have z0 := HO2.out.c0
  have z1 := HO2.out.c1
  have f0 := HO2.out.fz 0
  have f1 := HO2.out.fz 1
  go_wp2
  refine bodyPost_ret (res_cell_tmp rfl _ _ B 66 _ (0, 0) _ _ rfl rfl ((HO2.out.set0 0).set1 0) Try.underlying66 rfl (size2s _ _)) rfl ⟨by rfl, (HB2.out.setCell (Nat.le_of_eq HSB.out) _).setCell (Nat.le_of_eq HSB.out) _⟩

theorem ckmeet_bad {w : World} {g : Nat} {a n s t : Int} (h : Clk w g 96 a n s t) (ha : (a != 0) = true) (x y : Int) (hg : sgood x y = false) : Calls Try.prog 45 #[.pointer (some ⟨g, 0, none⟩), .agg #[.int .i64 x, .int .i64 y]] w (MeetPost 96 g a n s t x y w) := by
  have HB := Lib.hid (alloc_below w (.cells #[.int .i64 x, .int .i64 y] 66))
  have HX := Lib.hid (Pair.new w 66 x y)
  have HK := Lib.hid (h.kept HB.out)
  have HA := Lib.hid ha
  have hs := sgood_c x y
  rw [hg] at hs
  have HS := Lib.hid hs
  have x0 := HX.out.c0
  have x1 := HX.out.c1
  unfold MeetPost meetN
  simp only [hg]
  clear h ha hs hg
  go_enter Try.func45, Try.ntmps45
  go_wp2_with (first
    | (go_at_call 80; (with_reducible refine (ckmade_c HK.out true HA.out).mono ?_); rintro e1 w1 ⟨rfl, rfl⟩)
    | (go_at_call 77; (with_reducible refine (HS.out _).mono ?_); rintro e2 w2 ⟨rfl, hb2⟩))
  go_ret
  exact ⟨rfl, HK.out.kept hb2, But.of (HB.out.trans (hb2.mono HB.out.size))⟩
set_option maxHeartbeats 3200000 in
theorem ckmeet_c {w : World} {g : Nat} {a n s t : Int} (h : Clk w g 96 a n s t) (ha : (a != 0) = true) (x y : Int) : Calls Try.prog 45 #[.pointer (some ⟨g, 0, none⟩), .agg #[.int .i64 x, .int .i64 y]] w (MeetPost 96 g a n s t x y w) := by
  cases hg : sgood x y with
  | false => exact ckmeet_bad h ha x y hg
  | true =>
    have HB := Lib.hid (alloc_below w (.cells #[.int .i64 x, .int .i64 y] 66))
    have HX := Lib.hid (Pair.new w 66 x y)
    have HK := Lib.hid (h.kept HB.out)
    have HA := Lib.hid ha
    have hs := sgood_c x y
    rw [hg] at hs
    have HS := Lib.hid hs
    unfold MeetPost meetN
    simp only [hg, if_true]
    obtain ⟨⟨p, q⟩, hx⟩ : ∃ r, laterS [(n, s), (x, y)] = r := ⟨_, rfl⟩
    have hl := fun W (b : Nat) (hp : Prs W (some ⟨b, 0, none⟩) 2 2 [(n, s), (x, y)]) => slater_c hp
    simp only [hx] at hl ⊢
    have HL := Lib.hid hl
    clear h ha hs hg hl hx
    go_enter Try.func45, Try.ntmps45
    go_upto_region 1 with (fail)
    obtain ⟨gx, hgx⟩ : ∃ q, w.heap.size = q := ⟨_, rfl⟩
    rw [hgx] at HX ⊢
    clear hgx
    generalize w.alloc (.cells #[.int .i64 x, .int .i64 y] 66) = W1 at *
    have x0 := HX.out.c0
    have x1 := HX.out.c1
    go_upto_region 5 with (first
      | (go_at_call 80; (with_reducible refine (ckmade_c HK.out true HA.out).mono ?_); rintro e1 w1 ⟨rfl, rfl⟩)
      | (go_at_call 77; (with_reducible refine (HS.out _).mono ?_); rintro e2 w2 ⟨rfl, hb2⟩))
    have HB2 := Lib.hid (HB.out.trans (hb2.mono HB.out.size))
    have HX2 := Lib.hid (HX.out.kept hb2)
    have HK2 := Lib.hid (HK.out.kept hb2)
    clear x0 x1 hb2
    have HCK := Lib.hid (fun W (hW : Below w2.heap.size w2 W) => (HK2.out.kept hW).cs)
    have HCX := Lib.hid (fun W (hW : Below w2.heap.size w2 W) => And.intro (HX2.out.kept hW).c0 (HX2.out.kept hW).c1)
    refine wp_region_flow_tail 10 [none, none, none, none, none, none, none, none, none, none, none, none, none, some 0, some 1, some 2, some 3, some 4, some 5, some 6, some 7, some 8, some 9] (fun i => [undef, undef, undef, undef, undef, undef, undef, undef, undef, undef].getD i undef) [(fun v _ => v = .pointer (some ⟨g, 0, none⟩)), (fun v _ => v = .pointer (some ⟨g, 0, none⟩)), (fun v _ => v = .pointer (some ⟨g, 0, none⟩)), (fun v _ => v = .pointer (some ⟨g, 1, none⟩)), (fun v _ => v = .agg #[.int .i64 n, .int .i64 s]), (fun v _ => v = .agg #[.int .i64 x, .int .i64 y]), (fun v W => ∃ b, v = .slice (some ⟨b, 0, none⟩) 2 2 ∧ Prs W (some ⟨b, 0, none⟩) 2 2 [(n, s), (x, y)]), (fun v _ => v = .agg #[.int .i64 p, .int .i64 q]), (fun v _ => v = .pointer (some ⟨g, 0, none⟩)), (fun v _ => v = .pointer (some ⟨g, 1, none⟩))] (fun _ => False) (by kernel_rfl) (by kernel_rfl) (by kernel_rfl) rfl rfl rfl ?_ ?_ ?_
    · intro g hg v X Y hX hY hv
      simp only [List.mem_cons, List.not_mem_nil, or_false] at hg
      rcases hg with rfl | rfl | rfl | rfl | rfl | rfl | rfl | rfl | rfl | rfl
      all_goals first
        | exact hv
        | (obtain ⟨b, h1, h2⟩ := hv; exact ⟨b, h1, h2.below hY⟩)
    · simp only [flowOpsF, List.take_succ_cons, List.take_zero, and_true]
      refine ⟨?_, ?_, ?_, ?_, ?_, ?_, ?_, ?_, ?_, ?_⟩
      · intro xs W hW hn
        simp only [flowAct, List.zipWith_cons_cons, List.zipWith_nil_left]
        go_wp2_with (fail)
        exact ⟨rfl, _, rfl, Below.refl _ _, rfl, fun h => h.elim⟩
      · intro xs W hW hn
        simp only [flowAct, List.zipWith_cons_cons, List.zipWith_nil_left]
        go_wp2_with (fail)
        exact ⟨rfl, _, rfl, Below.refl _ _, rfl, fun h => h.elim⟩
      · intro xs W hW hn
        simp [flowNeeds, Region.binds] at hn
        simp only [flowAct, List.zipWith_cons_cons, List.zipWith_nil_left]
        try simp only [hn]
        go_wp2_with (fail)
        exact ⟨rfl, _, rfl, Below.refl _ _, rfl, fun h => h.elim⟩
      · intro xs W hW hn
        simp [flowNeeds, Region.binds] at hn
        simp only [flowAct, List.zipWith_cons_cons, List.zipWith_nil_left]
        try simp only [hn]
        go_wp2_with (fail)
        exact ⟨rfl, _, rfl, Below.refl _ _, rfl, fun h => h.elim⟩
      · intro xs W hW hn
        obtain ⟨c0, c1, c2, c3⟩ := HCK.out W hW
        obtain ⟨x0, x1⟩ := HCX.out W hW
        simp [flowNeeds, Region.binds] at hn
        simp only [flowAct, List.zipWith_cons_cons, List.zipWith_nil_left]
        try simp only [hn]
        go_wp2_with (fail)
        exact ⟨rfl, _, rfl, Below.refl _ _, rfl, fun h => h.elim⟩
      · intro xs W hW hn
        obtain ⟨c0, c1, c2, c3⟩ := HCK.out W hW
        obtain ⟨x0, x1⟩ := HCX.out W hW
        simp only [flowAct, List.zipWith_cons_cons, List.zipWith_nil_left]
        go_wp2_with (fail)
        exact ⟨rfl, _, rfl, Below.refl _ _, rfl, fun h => h.elim⟩
      · intro xs W hW hn
        simp [flowNeeds, Region.binds] at hn
        simp only [flowAct, List.zipWith_cons_cons, List.zipWith_nil_left]
        simp only [hn]
        go_wp2_with (fail)
        exact ⟨rfl, _, rfl, alloc_below _ _, ⟨_, rfl, prs2 _ _ _ _ _⟩, fun h => h.elim⟩
      · intro xs W hW hn
        simp [flowNeeds, Region.binds] at hn
        simp only [flowAct, List.zipWith_cons_cons, List.zipWith_nil_left]
        obtain ⟨b, e1, hy⟩ := hn
        simp only [e1]
        go_wp2_with (go_at_call 81; (with_reducible refine (HL.out _ _ hy).mono ?_); rintro e9 w9 ⟨rfl, hb9⟩)
        exact ⟨rfl, _, rfl, hb9, rfl, fun h => h.elim⟩
      · intro xs W hW hn
        simp [flowNeeds, Region.binds] at hn
        simp only [flowAct, List.zipWith_cons_cons, List.zipWith_nil_left]
        try simp only [hn]
        go_wp2_with (fail)
        exact ⟨rfl, _, rfl, Below.refl _ _, rfl, fun h => h.elim⟩
      · intro xs W hW hn
        simp [flowNeeds, Region.binds] at hn
        simp only [flowAct, List.zipWith_cons_cons, List.zipWith_nil_left]
        try simp only [hn]
        go_wp2_with (fail)
        exact ⟨rfl, _, rfl, Below.refl _ _, rfl, fun h => h.elim⟩
    · intro xs W hW hall hfr
      clear hfr
      simp only [flowAll, and_true, Nat.zero_add, Nat.reduceAdd] at hall
      obtain ⟨-, -, -, -, -, -, -, a7, -, a9⟩ := hall
      simp only [flowAct, List.zipWith_cons_cons, List.zipWith_nil_left, List.drop_succ_cons, List.drop_zero]
      simp only [a7, a9]
      clear a7 a9
      have HW := Lib.hid hW
      have HK3 := Lib.hid (HK2.out.kept hW)
      clear hW
      obtain ⟨c0, c1, c2, c3⟩ := HK3.out.cs
      have f1 := HK3.out.fz 1
      have f2 := HK3.out.fz 2
      go_wp2
      go_ret
      exact ⟨rfl, (HK3.out.set1 p).set2 q, ((But.of (HB2.out.trans (HW.out.mono HB2.out.size))).set 1 _).set 2 _⟩
theorem rckmeet_bad {w : World} {g : Nat} {a n s t : Int} (h : Clk w g 84 a n s t) (x y : Int) (hg : sgood x y = false) : Calls Try.prog 46 #[.pointer (some ⟨g, 0, none⟩), .agg #[.int .i64 x, .int .i64 y]] w (MeetPost 84 g a n s t x y w) := by
  have HB := Lib.hid (alloc_below w (.cells #[.int .i64 x, .int .i64 y] 66))
  have HX := Lib.hid (Pair.new w 66 x y)
  have HK := Lib.hid (h.kept HB.out)
  have hs := rsgood_c x y
  rw [hg] at hs
  have HS := Lib.hid hs
  have x0 := HX.out.c0
  have x1 := HX.out.c1
  unfold MeetPost meetN
  simp only [hg]
  clear h hs hg
  go_enter Try.func46, Try.ntmps46
  go_wp2_with (go_at_call 78; (with_reducible refine (HS.out _).mono ?_); rintro e2 w2 ⟨rfl, hb2⟩)
  go_ret
  exact ⟨rfl, HK.out.kept hb2, But.of (HB.out.trans (hb2.mono HB.out.size))⟩
set_option maxHeartbeats 3200000 in
theorem rckmeet_c {w : World} {g : Nat} {a n s t : Int} (h : Clk w g 84 a n s t) (x y : Int) : Calls Try.prog 46 #[.pointer (some ⟨g, 0, none⟩), .agg #[.int .i64 x, .int .i64 y]] w (MeetPost 84 g a n s t x y w) := by
  cases hg : sgood x y with
  | false => exact rckmeet_bad h x y hg
  | true =>
    have HB := Lib.hid (alloc_below w (.cells #[.int .i64 x, .int .i64 y] 66))
    have HX := Lib.hid (Pair.new w 66 x y)
    have HK := Lib.hid (h.kept HB.out)
    have hs := rsgood_c x y
    rw [hg] at hs
    have HS := Lib.hid hs
    unfold MeetPost meetN
    simp only [hg, if_true]
    obtain ⟨⟨p, q⟩, hx⟩ : ∃ r, laterS [(n, s), (x, y)] = r := ⟨_, rfl⟩
    have hl := fun W (b : Nat) (hp : Prs W (some ⟨b, 0, none⟩) 2 2 [(n, s), (x, y)]) => rslater_c hp
    simp only [hx] at hl ⊢
    have HL := Lib.hid hl
    clear h hs hg hl hx
    go_enter Try.func46, Try.ntmps46
    go_upto_region 1 with (fail)
    obtain ⟨gx, hgx⟩ : ∃ q, w.heap.size = q := ⟨_, rfl⟩
    rw [hgx] at HX ⊢
    clear hgx
    generalize w.alloc (.cells #[.int .i64 x, .int .i64 y] 66) = W1 at *
    have x0 := HX.out.c0
    have x1 := HX.out.c1
    go_upto_region 3 with (go_at_call 78; (with_reducible refine (HS.out _).mono ?_); rintro e2 w2 ⟨rfl, hb2⟩)
    have HB2 := Lib.hid (HB.out.trans (hb2.mono HB.out.size))
    have HX2 := Lib.hid (HX.out.kept hb2)
    have HK2 := Lib.hid (HK.out.kept hb2)
    clear x0 x1 hb2
    have HCK := Lib.hid (fun W (hW : Below w2.heap.size w2 W) => (HK2.out.kept hW).cs)
    have HCX := Lib.hid (fun W (hW : Below w2.heap.size w2 W) => And.intro (HX2.out.kept hW).c0 (HX2.out.kept hW).c1)
    refine wp_region_flow_tail 10 [none, none, none, none, none, none, none, none, some 0, some 1, some 2, some 3, some 4, some 5, some 6, some 7, some 8, some 9] (fun i => [undef, undef, undef, undef, undef, undef, undef, undef, undef, undef].getD i undef) [(fun v _ => v = .pointer (some ⟨g, 0, none⟩)), (fun v _ => v = .pointer (some ⟨g, 0, none⟩)), (fun v _ => v = .pointer (some ⟨g, 0, none⟩)), (fun v _ => v = .pointer (some ⟨g, 1, none⟩)), (fun v _ => v = .agg #[.int .i64 n, .int .i64 s]), (fun v _ => v = .agg #[.int .i64 x, .int .i64 y]), (fun v W => ∃ b, v = .slice (some ⟨b, 0, none⟩) 2 2 ∧ Prs W (some ⟨b, 0, none⟩) 2 2 [(n, s), (x, y)]), (fun v _ => v = .agg #[.int .i64 p, .int .i64 q]), (fun v _ => v = .pointer (some ⟨g, 0, none⟩)), (fun v _ => v = .pointer (some ⟨g, 1, none⟩))] (fun _ => False) (by kernel_rfl) (by kernel_rfl) (by kernel_rfl) rfl rfl rfl ?_ ?_ ?_
    · intro g hg v X Y hX hY hv
      simp only [List.mem_cons, List.not_mem_nil, or_false] at hg
      rcases hg with rfl | rfl | rfl | rfl | rfl | rfl | rfl | rfl | rfl | rfl
      all_goals first
        | exact hv
        | (obtain ⟨b, h1, h2⟩ := hv; exact ⟨b, h1, h2.below hY⟩)
    · simp only [flowOpsF, List.take_succ_cons, List.take_zero, and_true]
      refine ⟨?_, ?_, ?_, ?_, ?_, ?_, ?_, ?_, ?_, ?_⟩
      · intro xs W hW hn
        simp only [flowAct, List.zipWith_cons_cons, List.zipWith_nil_left]
        go_wp2_with (fail)
        exact ⟨rfl, _, rfl, Below.refl _ _, rfl, fun h => h.elim⟩
      · intro xs W hW hn
        simp only [flowAct, List.zipWith_cons_cons, List.zipWith_nil_left]
        go_wp2_with (fail)
        exact ⟨rfl, _, rfl, Below.refl _ _, rfl, fun h => h.elim⟩
      · intro xs W hW hn
        simp [flowNeeds, Region.binds] at hn
        simp only [flowAct, List.zipWith_cons_cons, List.zipWith_nil_left]
        try simp only [hn]
        go_wp2_with (fail)
        exact ⟨rfl, _, rfl, Below.refl _ _, rfl, fun h => h.elim⟩
      · intro xs W hW hn
        simp [flowNeeds, Region.binds] at hn
        simp only [flowAct, List.zipWith_cons_cons, List.zipWith_nil_left]
        try simp only [hn]
        go_wp2_with (fail)
        exact ⟨rfl, _, rfl, Below.refl _ _, rfl, fun h => h.elim⟩
      · intro xs W hW hn
        obtain ⟨c0, c1, c2, c3⟩ := HCK.out W hW
        obtain ⟨x0, x1⟩ := HCX.out W hW
        simp [flowNeeds, Region.binds] at hn
        simp only [flowAct, List.zipWith_cons_cons, List.zipWith_nil_left]
        try simp only [hn]
        go_wp2_with (fail)
        exact ⟨rfl, _, rfl, Below.refl _ _, rfl, fun h => h.elim⟩
      · intro xs W hW hn
        obtain ⟨c0, c1, c2, c3⟩ := HCK.out W hW
        obtain ⟨x0, x1⟩ := HCX.out W hW
        simp only [flowAct, List.zipWith_cons_cons, List.zipWith_nil_left]
        go_wp2_with (fail)
        exact ⟨rfl, _, rfl, Below.refl _ _, rfl, fun h => h.elim⟩
      · intro xs W hW hn
        simp [flowNeeds, Region.binds] at hn
        simp only [flowAct, List.zipWith_cons_cons, List.zipWith_nil_left]
        simp only [hn]
        go_wp2_with (fail)
        exact ⟨rfl, _, rfl, alloc_below _ _, ⟨_, rfl, prs2 _ _ _ _ _⟩, fun h => h.elim⟩
      · intro xs W hW hn
        simp [flowNeeds, Region.binds] at hn
        simp only [flowAct, List.zipWith_cons_cons, List.zipWith_nil_left]
        obtain ⟨b, e1, hy⟩ := hn
        simp only [e1]
        go_wp2_with (go_at_call 82; (with_reducible refine (HL.out _ _ hy).mono ?_); rintro e9 w9 ⟨rfl, hb9⟩)
        exact ⟨rfl, _, rfl, hb9, rfl, fun h => h.elim⟩
      · intro xs W hW hn
        simp [flowNeeds, Region.binds] at hn
        simp only [flowAct, List.zipWith_cons_cons, List.zipWith_nil_left]
        try simp only [hn]
        go_wp2_with (fail)
        exact ⟨rfl, _, rfl, Below.refl _ _, rfl, fun h => h.elim⟩
      · intro xs W hW hn
        simp [flowNeeds, Region.binds] at hn
        simp only [flowAct, List.zipWith_cons_cons, List.zipWith_nil_left]
        try simp only [hn]
        go_wp2_with (fail)
        exact ⟨rfl, _, rfl, Below.refl _ _, rfl, fun h => h.elim⟩
    · intro xs W hW hall hfr
      clear hfr
      simp only [flowAll, and_true, Nat.zero_add, Nat.reduceAdd] at hall
      obtain ⟨-, -, -, -, -, -, -, a7, -, a9⟩ := hall
      simp only [flowAct, List.zipWith_cons_cons, List.zipWith_nil_left, List.drop_succ_cons, List.drop_zero]
      simp only [a7, a9]
      clear a7 a9
      have HW := Lib.hid hW
      have HK3 := Lib.hid (HK2.out.kept hW)
      clear hW
      obtain ⟨c0, c1, c2, c3⟩ := HK3.out.cs
      have f1 := HK3.out.fz 1
      have f2 := HK3.out.fz 2
      go_wp2
      go_ret
      exact ⟨rfl, (HK3.out.set1 p).set2 q, ((But.of (HB2.out.trans (HW.out.mono HB2.out.size))).set 1 _).set 2 _⟩

theorem Pair.but {g k : Nat} {w w' : World} {t : TypeId} {a b : Int} (h : Pair w k t a b) (hb : But g w w') (hne : k ≠ g) : Pair w' k t a b := (hb.block k h.lt (by simpa using hne)).trans h
theorem livesM : meetN 0 0 5 1 = (5, 1) := by decide
set_option maxRecDepth 100000 in
set_option maxHeartbeats 3200000 in
theorem cklives_c (w : World) : Calls Try.prog 42 #[] w (Tells (.bool true) w) := by
  have HN := Lib.hid (fun W => cknew_c 2 0 0 W (by decide))
  have HM := Lib.hid (fun W g (h : Clk W g 96 2 0 0 0) => (show Calls Try.prog 45 #[.pointer (some ⟨g, 0, none⟩), .agg #[.int .i64 5, .int .i64 1]] W (fun e w' => e = .returned (.int .i64 0) ∧ Clk w' g 96 2 5 1 0 ∧ But g W w') from (ckmeet_c h rfl 5 1).mono fun e w' hp => by
    unfold MeetPost at hp; rw [livesM] at hp; exact hp))
  have HT1 := Lib.hid (fun W g (h : Clk W g 96 2 5 1 0) => (show Calls Try.prog 43 #[.pointer (some ⟨g, 0, none⟩), .int .i64 3] W (fun e w' => e = .returned (.tuple #[.agg #[.int .i64 6, .int .i64 2], .int .i64 0]) ∧ Clk w' g 96 2 6 2 1 ∧ But g W w') from (cktick_c h 3 (by omega) (by omega) rfl).mono fun e w' hp => by
    unfold TickPost tickN at hp; simp only [show snext 5 1 3 2 = ((6, 2), 0) by decide, if_true] at hp; exact hp))
  have HT2 := Lib.hid (fun W g (h : Clk W g 96 2 6 2 1) => (show Calls Try.prog 43 #[.pointer (some ⟨g, 0, none⟩), .int .i64 9] W (fun e w' => e = .returned (.tuple #[.agg #[.int .i64 9, .int .i64 2], .int .i64 0]) ∧ Clk w' g 96 2 9 2 2 ∧ But g W w') from (cktick_c h 9 (by omega) (by omega) rfl).mono fun e w' hp => by
    unfold TickPost tickN at hp; simp only [show snext 6 2 9 2 = ((9, 2), 0) by decide, if_true] at hp; exact hp))
  have HT3 := Lib.hid (fun W g (h : Clk W g 96 2 9 2 2) => (show Calls Try.prog 43 #[.pointer (some ⟨g, 0, none⟩), .int .i64 0] W (fun e w' => e = .returned (.tuple #[.agg #[.int .i64 10, .int .i64 2], .int .i64 0]) ∧ Clk w' g 96 2 10 2 3 ∧ But g W w') from (cktick_c h 0 (by omega) (by omega) rfl).mono fun e w' hp => by
    unfold TickPost tickN at hp; simp only [show snext 9 2 0 2 = ((10, 2), 0) by decide, if_true] at hp; exact hp))
  have hEQ := stamp_eql
  have hEG := stamp_eqg
  go_enter Try.func42, Try.ntmps42
  go_upto_region 2 with (go_at_call 40; (with_reducible refine (HN.out _).mono ?_); rintro e1 w1 ⟨g, rfl, hg, hk1, hb1⟩)
  have HG := Lib.hid hg
  have HB := Lib.hid hb1
  have HK := Lib.hid hk1
  clear hg hb1 hk1
  go_upto_region 4 with (go_at_call 45; (with_reducible refine (HM.out _ _ HK.out).mono ?_); rintro e2 w2 ⟨rfl, hk2, hb2⟩)
  have HB2 := Lib.hid (HB.out.trans (hb2.base HG.out HB.out.size))
  have HK2 := Lib.hid hk2
  clear hb2 hk2
  go_upto_region 5 with (go_at_call 43; (with_reducible refine (HT1.out _ _ HK2.out).mono ?_); rintro e3 w3 ⟨rfl, hk3, hb3⟩)
  have hx3 := HB2.out.trans (hb3.base HG.out HB2.out.size)
  have HB3 := Lib.hid (hx3.alloc hx3.size (.cells #[.int .i64 6, .int .i64 2] 66))
  have HK3 := Lib.hid (hk3.alloc (.cells #[.int .i64 6, .int .i64 2] 66))
  have HP3 := Lib.hid (Pair.new w3 66 6 2)
  have HN3 := Lib.hid (show g ≠ w3.heap.size from by have := hk3.lt; omega)
  obtain ⟨q3, hq3⟩ : ∃ q, w3.heap.size = q := ⟨_, rfl⟩
  rw [hq3] at HP3 HN3 ⊢
  clear hq3 hx3 hb3 hk3
  generalize w3.alloc (.cells #[.int .i64 6, .int .i64 2] 66) = W3 at *
  go_upto_region 6 with (go_at_call 43; (with_reducible refine (HT2.out _ _ HK3.out).mono ?_); rintro e4 w4 ⟨rfl, hk4, hb4⟩)
  have hx4 := HB3.out.trans (hb4.base HG.out HB3.out.size)
  have HB4 := Lib.hid (hx4.alloc hx4.size (.cells #[.int .i64 9, .int .i64 2] 66))
  have HK4 := Lib.hid (hk4.alloc (.cells #[.int .i64 9, .int .i64 2] 66))
  have HP4 := Lib.hid (Pair.new w4 66 9 2)
  have HN4 := Lib.hid (show g ≠ w4.heap.size from by have := hk4.lt; omega)
  replace HP3 := Lib.hid ((HP3.out.but hb4 (Ne.symm HN3.out)).alloc (.cells #[.int .i64 9, .int .i64 2] 66))
  obtain ⟨q4, hq4⟩ : ∃ q, w4.heap.size = q := ⟨_, rfl⟩
  rw [hq4] at HP4 HN4 ⊢
  clear hq4 hx4 hb4 hk4
  generalize w4.alloc (.cells #[.int .i64 9, .int .i64 2] 66) = W4 at *
  go_upto_region 7 with (go_at_call 43; (with_reducible refine (HT3.out _ _ HK4.out).mono ?_); rintro e5 w5 ⟨rfl, hk5, hb5⟩)
  have hx5 := HB4.out.trans (hb5.base HG.out HB4.out.size)
  have HB5 := Lib.hid (hx5.alloc hx5.size (.cells #[.int .i64 10, .int .i64 2] 66))
  have HK5 := Lib.hid (hk5.alloc (.cells #[.int .i64 10, .int .i64 2] 66))
  have HP5 := Lib.hid (Pair.new w5 66 10 2)
  have HN5 := Lib.hid (show g ≠ w5.heap.size from by have := hk5.lt; omega)
  replace HP3 := Lib.hid ((HP3.out.but hb5 (Ne.symm HN3.out)).alloc (.cells #[.int .i64 10, .int .i64 2] 66))
  replace HP4 := Lib.hid ((HP4.out.but hb5 (Ne.symm HN4.out)).alloc (.cells #[.int .i64 10, .int .i64 2] 66))
  obtain ⟨q5, hq5⟩ : ∃ q, w5.heap.size = q := ⟨_, rfl⟩
  rw [hq5] at HP5 HN5 ⊢
  clear hq5 hx5 hb5 hk5
  generalize w5.alloc (.cells #[.int .i64 10, .int .i64 2] 66) = W5 at *
  have p0 := HP3.out.c0
  have p1 := HP4.out.c0
  have p2 := HP5.out.c0
  have p3 := HP5.out.c1
  go_wp2_with (go_at_call 50; (with_reducible refine (cktold_c HK5.out rfl).mono ?_); rintro e8 w8 ⟨rfl, hb8⟩)
  go_ret
  exact ⟨rfl, HB5.out.trans (hb8.mono HB5.out.size)⟩
end Go.Proofs.Ytpndpmgbnnpciaa
