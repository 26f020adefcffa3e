/-
  Clock: a clock in memory; isMade, New, Peek of the program, New and Peek of the reference.
-/
import Derived.Test.YtpndpmgbnnpciaaWN
import Derived.Test.YtpndpmgbnnpciaaDT
import Derived.Laws.LoneSync
namespace Go.Proofs.Ytpndpmgbnnpciaa
open Go.RowKit Go Go.Sort
set_option linter.unusedVariables false
set_option maxRecDepth 20000

/-- Four numbers that lie at a block's head. -/
def Clk (W : World) (g : Nat) (ty : TypeId) (a b c d : Int) : Prop := W.heap[g]? = some (.cells #[.int .i64 a, .int .i64 b, .int .i64 c, .int .i64 d] ty (0, 0))
section
variable {W W' : World} {g : Nat} {ty : TypeId} {a b c d : Int}
theorem Clk.lt (h : Clk W g ty a b c d) : g < W.heap.size := (Array.getElem?_eq_some_iff.1 h).1
theorem Clk.kept (h : Clk W g ty a b c d) (hb : Below W.heap.size W W') : Clk W' g ty a b c d := (hb.block g h.lt).trans h
theorem Clk.cs (h : Clk W g ty a b c d) : W.cell? ⟨g, 0, none⟩ = some (.int .i64 a) ∧ W.cell? ⟨g, 1, none⟩ = some (.int .i64 b) ∧ W.cell? ⟨g, 2, none⟩ = some (.int .i64 c) ∧ W.cell? ⟨g, 3, none⟩ = some (.int .i64 d) := by
  refine ⟨?_, ?_, ?_, ?_⟩ <;> (rw [cell_of_row W g _ _ ty (0, 0) h]; rfl)
theorem Clk.fz (h : Clk W g ty a b c d) (i : Nat) : W.frozen? ⟨g, i, none⟩ = false := frozen_of_row W g i _ ty h
theorem Clk.new (W : World) (ty : TypeId) (a b c d : Int) : Clk (W.alloc (.cells #[.int .i64 a, .int .i64 b, .int .i64 c, .int .i64 d] ty)) W.heap.size ty a b c d := heap_alloc_new W _
theorem Clk.alloc (h : Clk W g ty a b c d) (o : Obj) : Clk (W.alloc o) g ty a b c d := (Below.heap_alloc W o g h.lt).trans h
theorem Clk.other (h : Clk W g ty a b c d) (p : Addr) (v : Value) (hne : g ≠ p.block) : Clk (W.setCell p v) g ty a b c d := (heap_setCell_other W p g v hne).trans h
theorem Clk.set1 (h : Clk W g ty a b c d) (x : Int) : Clk (W.setCell ⟨g, 1, none⟩ (.int .i64 x)) g ty a x c d := by
  unfold Clk; rw [heap_setCell_same W g 1 _ ty _ h]; rfl
theorem Clk.set2 (h : Clk W g ty a b c d) (x : Int) : Clk (W.setCell ⟨g, 2, none⟩ (.int .i64 x)) g ty a b x d := by
  unfold Clk; rw [heap_setCell_same W g 2 _ ty _ h]; rfl
theorem Clk.set3 (h : Clk W g ty a b c d) (x : Int) : Clk (W.setCell ⟨g, 3, none⟩ (.int .i64 x)) g ty a b c x := by
  unfold Clk; rw [heap_setCell_same W g 3 _ ty _ h]; rfl
end
/-- A new clock comes back. -/
def NewPost (ty : TypeId) (a b c d : Int) (w : World) (e : Ending) (w' : World) : Prop := ∃ g, e = .returned (.tuple #[.pointer (some ⟨g, 0, none⟩), .int .i64 0]) ∧ w.heap.size ≤ g ∧ Clk w' g ty a b c d ∧ Below w.heap.size w w'
def cgoodN (site n s : Int) : Bool := decide (site = 1 ∨ site = 2) && sgood n s

theorem ckmade_nil (w : World) : Calls Try.prog 80 #[.pointer none] w (fun e w' => e = .returned (.bool false) ∧ w' = w) := by
  go_enter Try.func80, Try.ntmps80
  go_wp2
  go_ret
  exact ⟨rfl, rfl⟩
theorem ckmade_c {w : World} {g : Nat} {a n s t : Int} (h : Clk w g 96 a n s t) (b : Bool) (hb : (a != 0) = b) : Calls Try.prog 80 #[.pointer (some ⟨g, 0, none⟩)] w (fun e w' => e = .returned (.bool b) ∧ w' = w) := by
  obtain ⟨c0, -, -, -⟩ := h.cs
  cases b
  · obtain rfl : a = 0 := by simpa using hb
    go_enter Try.func80, Try.ntmps80
    go_wp2
    go_ret
    exact ⟨rfl, rfl⟩
  · go_enter Try.func80, Try.ntmps80
    go_wp2
    go_ret
    exact ⟨rfl, rfl⟩

set_option maxHeartbeats 3200000 in
theorem cknew_bad (site n s : Int) (w : World) (h : cgoodN site n s = false) : Calls Try.prog 40 #[.int .i64 site, .agg #[.int .i64 n, .int .i64 s]] w (Tells (.tuple #[.pointer none, .int .i64 2]) w) := by
  have hp := Pair.new w 66 n s
  have hb := alloc_below w (.cells #[.int .i64 n, .int .i64 s] 66)
  have hg := sgood_c n s
  have h0 := hp.c0
  have h1 := hp.c1
  have HB := Lib.hid hb
  unfold cgoodN at h
  by_cases hs : site = 1 ∨ site = 2
  · rw [decide_eq_true hs, Bool.true_and] at h
    rw [h] at hg
    have HG := Lib.hid hg
    clear hg h hb hp
    rcases hs with rfl | rfl
    all_goals
      go_enter Try.func40, Try.ntmps40
      go_wp2_with (go_at_call 77; (with_reducible refine (HG.out _).mono ?_); rintro e w1 ⟨rfl, hb1⟩)
      go_ret2
      exact ⟨rfl, HB.out.trans (hb1.mono HB.out.size)⟩
  · have n1 : (site != 1) = true := by simp; omega
    have n2 : (site != 2) = true := by simp; omega
    clear hs h hb hp hg
    go_enter Try.func40, Try.ntmps40
    go_wp2
    go_ret2
    exact ⟨rfl, HB.out⟩
set_option maxHeartbeats 3200000 in
theorem cknew_c (site n s : Int) (w : World) (h : cgoodN site n s = true) : Calls Try.prog 40 #[.int .i64 site, .agg #[.int .i64 n, .int .i64 s]] w (NewPost 96 site n s 0 w) := by
  have hp := Pair.new w 66 n s
  have hb := alloc_below w (.cells #[.int .i64 n, .int .i64 s] 66)
  have hg := sgood_c n s
  unfold cgoodN at h
  simp only [Bool.and_eq_true, decide_eq_true_eq] at h
  obtain ⟨hs, h⟩ := h
  rw [h] at hg
  have HG := Lib.hid hg
  have HP := Lib.hid hp
  have HB := Lib.hid hb
  clear hg h hb hp
  rcases hs with rfl | rfl
  all_goals
    go_enter Try.func40, Try.ntmps40
    go_upto_region 1 with (fail)
    generalize w.alloc (.cells #[.int .i64 n, .int .i64 s] 66) = W1 at *
    have h0 := HP.out.c0
    have h1 := HP.out.c1
    go_upto_region 3 with (go_at_call 77; (with_reducible refine (HG.out _).mono ?_); rintro e w1 ⟨rfl, hb1⟩)
    have h2 := (HP.out.kept hb1).c0
    have h3 := (HP.out.kept hb1).c1
    have HB2 := Lib.hid (HB.out.trans (hb1.mono HB.out.size))
    clear hb1 h0 h1
    go_wp2
    go_ret2
    exact ⟨_, rfl, HB2.out.size, Clk.new _ _ _ _ _ _, HB2.out.alloc HB2.out.size _⟩

set_option maxHeartbeats 3200000 in
theorem rcknew_bad (site n s : Int) (w : World) (h : cgoodN site n s = false) : Calls Try.prog 41 #[.int .i64 site, .agg #[.int .i64 n, .int .i64 s]] w (Tells (.tuple #[.pointer none, .int .i64 2]) w) := by
  have hp := Pair.new w 66 n s
  have hb := alloc_below w (.cells #[.int .i64 n, .int .i64 s] 66)
  have hg := rsgood_c n s
  have h0 := hp.c0
  have h1 := hp.c1
  have HB := Lib.hid hb
  unfold cgoodN at h
  by_cases hs : site = 1 ∨ site = 2
  · rw [decide_eq_true hs, Bool.true_and] at h
    rw [h] at hg
    have HG := Lib.hid hg
    clear hg h hb hp
    rcases hs with rfl | rfl
    all_goals
      go_enter Try.func41, Try.ntmps41
      go_wp2_with (go_at_call 78; (with_reducible refine (HG.out _).mono ?_); rintro e w1 ⟨rfl, hb1⟩)
      go_ret2
      exact ⟨rfl, HB.out.trans (hb1.mono HB.out.size)⟩
  · have n1 : (site != 1) = true := by simp; omega
    have n2 : (site != 2) = true := by simp; omega
    clear hs h hb hp hg
    go_enter Try.func41, Try.ntmps41
    go_wp2
    go_ret2
    exact ⟨rfl, HB.out⟩
set_option maxHeartbeats 3200000 in
theorem rcknew_c (site n s : Int) (w : World) (h : cgoodN site n s = true) : Calls Try.prog 41 #[.int .i64 site, .agg #[.int .i64 n, .int .i64 s]] w (NewPost 84 site n s 0 w) := by
  have hp := Pair.new w 66 n s
  have hb := alloc_below w (.cells #[.int .i64 n, .int .i64 s] 66)
  have hg := rsgood_c n s
  unfold cgoodN at h
  simp only [Bool.and_eq_true, decide_eq_true_eq] at h
  obtain ⟨hs, h⟩ := h
  rw [h] at hg
  have HG := Lib.hid hg
  have HP := Lib.hid hp
  have HB := Lib.hid hb
  clear hg h hb hp
  rcases hs with rfl | rfl
  all_goals
    go_enter Try.func41, Try.ntmps41
    go_upto_region 1 with (fail)
    generalize w.alloc (.cells #[.int .i64 n, .int .i64 s] 66) = W1 at *
    have h0 := HP.out.c0
    have h1 := HP.out.c1
    go_upto_region 3 with (go_at_call 78; (with_reducible refine (HG.out _).mono ?_); rintro e w1 ⟨rfl, hb1⟩)
    have h2 := (HP.out.kept hb1).c0
    have h3 := (HP.out.kept hb1).c1
    have HB2 := Lib.hid (HB.out.trans (hb1.mono HB.out.size))
    clear hb1 h0 h1
    go_wp2
    go_ret2
    exact ⟨_, rfl, HB2.out.size, Clk.new _ _ _ _ _ _, HB2.out.alloc HB2.out.size _⟩

set_option maxHeartbeats 3200000 in
theorem ckpeek_nil (now : Int) (w : World) : Calls Try.prog 47 #[.pointer none, .int .i64 now] w (Tells (.tuple #[.agg #[.int .i64 0, .int .i64 0], .int .i64 1]) w) := by
  have HO := Lib.hid (Pair.new w 66 0 0)
  have HB := Lib.hid (alloc_below w (.cells #[.int .i64 0, .int .i64 0] 66))
  have z0 := HO.out.c0
  have z1 := HO.out.c1
  have f0 := HO.out.fz 0
  have f1 := HO.out.fz 1
  go_enter Try.func47, Try.ntmps47
  go_wp2_with (go_at_call 80; (with_reducible refine (ckmade_nil _).mono ?_); rintro e1 w1 ⟨rfl, rfl⟩)
  refine bodyPost_ret (res_cell_tmp rfl _ _ w.heap.size 66 _ (0, 0) _ _ rfl rfl HO.out Try.underlying66 rfl (size2s _ _)) rfl ⟨by rfl, HB.out⟩
set_option maxHeartbeats 3200000 in
theorem ckpeek_un {w : World} {g : Nat} {n s t : Int} (h : Clk w g 96 0 n s t) (now : Int) : Calls Try.prog 47 #[.pointer (some ⟨g, 0, none⟩), .int .i64 now] w (Tells (.tuple #[.agg #[.int .i64 0, .int .i64 0], .int .i64 1]) w) := by
  have HO := Lib.hid (Pair.new w 66 0 0)
  have HB := Lib.hid (alloc_below w (.cells #[.int .i64 0, .int .i64 0] 66))
  have HK := Lib.hid (h.kept HB.out)
  have z0 := HO.out.c0
  have z1 := HO.out.c1
  have f0 := HO.out.fz 0
  have f1 := HO.out.fz 1
  clear h
  go_enter Try.func47, Try.ntmps47
  go_wp2_with (go_at_call 80; (with_reducible refine (ckmade_c HK.out false rfl).mono ?_); rintro e1 w1 ⟨rfl, rfl⟩)
  refine bodyPost_ret (res_cell_tmp rfl _ _ w.heap.size 66 _ (0, 0) _ _ rfl rfl HO.out Try.underlying66 rfl (size2s _ _)) rfl ⟨by rfl, HB.out⟩

set_option maxRecDepth 100000 in
set_option maxHeartbeats 3200000 in
theorem ckpeek_c {w : World} {g : Nat} {a n s t : Int} (h : Clk w g 96 a n s t) (now : Int) (ha : (a != 0) = true) : Calls Try.prog 47 #[.pointer (some ⟨g, 0, none⟩), .int .i64 now] w (Tells (.tuple #[.agg #[.int .i64 (snext n s now a).1.1, .int .i64 (snext n s now a).1.2], .int .i64 (snext n s now a).2]) w) := by
  have hb := alloc_below w (.cells #[.int .i64 0, .int .i64 0] 66)
  have ho := Pair.new w 66 0 0
  have hk := h.kept hb
  have hn := snext_c n s now a
  obtain ⟨⟨⟨p, q⟩, f⟩, hx⟩ : ∃ r, snext n s now a = r := ⟨_, rfl⟩
  rw [hx] at hn
  simp only [hx] at hn ⊢
  have HM := Lib.hid (fun W (hc : Clk W g 96 a n s t) => ckmade_c hc true ha)
  have HN := Lib.hid hn
  have HO := Lib.hid ho
  have HB := Lib.hid hb
  have HK := Lib.hid hk
  clear hn ho hb hk h hx
  go_enter Try.func47, Try.ntmps47
  go_upto_region 3 with (go_at_call 80; (with_reducible refine (HM.out _ HK.out).mono ?_); rintro e1 w1 ⟨rfl, rfl⟩)
  obtain ⟨B, hB⟩ : ∃ q, w.heap.size = q := ⟨_, rfl⟩
  have HSB := Lib.hid hB
  rw [hB] at HO ⊢
  clear hB
  generalize w.alloc (.cells #[.int .i64 0, .int .i64 0] 66) = W1 at *
  have HCK := Lib.hid (fun W (hW : Below W1.heap.size W1 W) => (HK.out.kept hW).cs)
  refine wp_region_flow_tail 12 [none, none, none, none, none, none, none, none, none, none, some 0, some 1, some 2, some 3, some 4, some 5, some 6, some 7, some 8, some 9, some 10, some 11] (fun i => [undef, undef, undef, undef, undef, undef, undef, undef, undef, undef, undef, undef].getD i undef) [(fun v _ => v = .pointer (some ⟨g, 0, none⟩)), (fun v _ => v = .pointer (some ⟨g, 0, none⟩)), (fun v _ => v = .pointer (some ⟨g, 1, none⟩)), (fun v _ => v = .agg #[.int .i64 n, .int .i64 s]), (fun v _ => v = .int .i64 now), (fun v _ => v = .pointer (some ⟨g, 0, none⟩)), (fun v _ => v = .pointer (some ⟨g, 0, none⟩)), (fun v _ => v = .pointer (some ⟨g, 0, none⟩)), (fun v _ => v = .int .i64 a), (fun v _ => v = .tuple #[.agg #[.int .i64 p, .int .i64 q], .int .i64 f]), (fun v _ => v = .agg #[.int .i64 p, .int .i64 q]), (fun v _ => v = .int .i64 f)] (fun _ => False) (by kernel_rfl) (by kernel_rfl) (by kernel_rfl) rfl rfl rfl ?_ ?_ ?_
  · intro g hg v X Y hX hY hv
    simp only [List.mem_cons, List.not_mem_nil, or_false] at hg
    rcases hg with rfl | rfl | rfl | rfl | rfl | rfl | rfl | rfl | rfl | rfl | rfl | rfl
    all_goals first
      | exact hv
      | exact hv.kept hY
  · simp only [flowOpsF, List.take_succ_cons, List.take_zero, and_true]
    refine ⟨?_, ?_, ?_, ?_, ?_, ?_, ?_, ?_, ?_, ?_, ?_, ?_⟩
    · intro xs W hW hn
      simp only [flowAct, List.zipWith_cons_cons, List.zipWith_nil_left]
      go_wp2_with (fail)
      exact ⟨rfl, _, rfl, Below.refl _ _, rfl, fun h => h.elim⟩
    · intro xs W hW hn
      simp [flowNeeds, Region.binds] at hn
      simp only [flowAct, List.zipWith_cons_cons, List.zipWith_nil_left]
      try simp only [hn]
      go_wp2_with (fail)
      exact ⟨rfl, _, rfl, Below.refl _ _, rfl, fun h => h.elim⟩
    · intro xs W hW hn
      simp [flowNeeds, Region.binds] at hn
      simp only [flowAct, List.zipWith_cons_cons, List.zipWith_nil_left]
      try simp only [hn]
      go_wp2_with (fail)
      exact ⟨rfl, _, rfl, Below.refl _ _, rfl, fun h => h.elim⟩
    · intro xs W hW hn
      obtain ⟨c0, c1, c2, c3⟩ := HCK.out W hW
      simp [flowNeeds, Region.binds] at hn
      simp only [flowAct, List.zipWith_cons_cons, List.zipWith_nil_left]
      try simp only [hn]
      go_wp2_with (fail)
      exact ⟨rfl, _, rfl, Below.refl _ _, rfl, fun h => h.elim⟩
    · intro xs W hW hn
      simp only [flowAct, List.zipWith_cons_cons, List.zipWith_nil_left]
      go_wp2_with (fail)
      exact ⟨rfl, _, rfl, Below.refl _ _, rfl, fun h => h.elim⟩
    · intro xs W hW hn
      simp only [flowAct, List.zipWith_cons_cons, List.zipWith_nil_left]
      go_wp2_with (fail)
      exact ⟨rfl, _, rfl, Below.refl _ _, rfl, fun h => h.elim⟩
    · intro xs W hW hn
      simp [flowNeeds, Region.binds] at hn
      simp only [flowAct, List.zipWith_cons_cons, List.zipWith_nil_left]
      try simp only [hn]
      go_wp2_with (fail)
      exact ⟨rfl, _, rfl, Below.refl _ _, rfl, fun h => h.elim⟩
    · intro xs W hW hn
      simp [flowNeeds, Region.binds] at hn
      simp only [flowAct, List.zipWith_cons_cons, List.zipWith_nil_left]
      try simp only [hn]
      go_wp2_with (fail)
      exact ⟨rfl, _, rfl, Below.refl _ _, rfl, fun h => h.elim⟩
    · intro xs W hW hn
      obtain ⟨c0, c1, c2, c3⟩ := HCK.out W hW
      simp [flowNeeds, Region.binds] at hn
      simp only [flowAct, List.zipWith_cons_cons, List.zipWith_nil_left]
      try simp only [hn]
      go_wp2_with (fail)
      exact ⟨rfl, _, rfl, Below.refl _ _, rfl, fun h => h.elim⟩
    · intro xs W hW hn
      simp [flowNeeds, Region.binds] at hn
      simp only [flowAct, List.zipWith_cons_cons, List.zipWith_nil_left]
      try simp only [hn]
      go_wp2_with (go_at_call 83; (with_reducible refine (HN.out _).mono ?_); rintro e9 w9 ⟨rfl, hb9⟩)
      exact ⟨rfl, _, rfl, hb9, rfl, fun h => h.elim⟩
    · intro xs W hW hn
      simp [flowNeeds, Region.binds] at hn
      simp only [flowAct, List.zipWith_cons_cons, List.zipWith_nil_left]
      try simp only [hn]
      go_wp2_with (fail)
      exact ⟨rfl, _, rfl, Below.refl _ _, rfl, fun h => h.elim⟩
    · intro xs W hW hn
      simp [flowNeeds, Region.binds] at hn
      simp only [flowAct, List.zipWith_cons_cons, List.zipWith_nil_left]
      try simp only [hn]
      go_wp2_with (fail)
      exact ⟨rfl, _, rfl, Below.refl _ _, rfl, fun h => h.elim⟩
  · intro xs W hW hall hfr
    clear hfr
    simp only [flowAll, and_true, Nat.zero_add, Nat.reduceAdd] at hall
    obtain ⟨a0, a1, a2, a3, a4, a5, a6, a7, a8, a9, a10, a11⟩ := hall
    simp only [flowAct, List.zipWith_cons_cons, List.zipWith_nil_left, List.drop_succ_cons, List.drop_zero]
    simp only [a0, a1, a2, a3, a4, a5, a6, a7, a8, a9, a10, a11]
    clear a0 a1 a2 a3 a4 a5 a6 a7 a8 a9 a10 a11
    have HW := Lib.hid hW
    have z0 := (HO.out.kept hW).c0
    have z1 := (HO.out.kept hW).c1
    have f0 := (HO.out.kept hW).fz 0
    have f1 := (HO.out.kept hW).fz 1
    clear hW
    go_wp2
    refine bodyPost_ret (res_cell_tmp rfl _ _ B 66 _ (0, 0) _ _ rfl rfl (((HO.out.kept HW.out).set0 p).set1 q) Try.underlying66 rfl (size2s _ _)) rfl ⟨by rfl, ((HB.out.trans (HW.out.mono HB.out.size)).setCell (Nat.le_of_eq HSB.out) _).setCell (Nat.le_of_eq HSB.out) _⟩

set_option maxRecDepth 100000 in
set_option maxHeartbeats 3200000 in
theorem rckpeek_c {w : World} {g : Nat} {a n s t : Int} (h : Clk w g 84 a n s t) (now : Int) : Calls Try.prog 48 #[.pointer (some ⟨g, 0, none⟩), .int .i64 now] w (Tells (.tuple #[.agg #[.int .i64 (snext n s now a).1.1, .int .i64 (snext n s now a).1.2], .int .i64 (snext n s now a).2]) w) := by
  have hb := alloc_below w (.cells #[.int .i64 0, .int .i64 0] 66)
  have ho := Pair.new w 66 0 0
  have hk := h.kept hb
  have hn := rsnext_c n s now a
  obtain ⟨⟨⟨p, q⟩, f⟩, hx⟩ : ∃ r, snext n s now a = r := ⟨_, rfl⟩
  rw [hx] at hn
  simp only [hx] at hn ⊢
  have HN := Lib.hid hn
  have HO := Lib.hid ho
  have HB := Lib.hid hb
  have HK := Lib.hid hk
  clear hn ho hb hk h hx
  go_enter Try.func48, Try.ntmps48
  go_upto_region 1 with (fail)
  obtain ⟨B, hB⟩ : ∃ q, w.heap.size = q := ⟨_, rfl⟩
  have HSB := Lib.hid hB
  rw [hB] at HO ⊢
  clear hB
  generalize w.alloc (.cells #[.int .i64 0, .int .i64 0] 66) = W1 at *
  have HCK := Lib.hid (fun W (hW : Below W1.heap.size W1 W) => (HK.out.kept hW).cs)
  refine wp_region_flow_tail 12 [none, none, none, none, none, none, some 0, some 1, some 2, some 3, some 4, some 5, some 6, some 7, some 8, some 9, some 10, some 11] (fun i => [undef, undef, undef, undef, undef, undef, undef, undef, undef, undef, undef, undef].getD i undef) [(fun v _ => v = .pointer (some ⟨g, 0, none⟩)), (fun v _ => v = .pointer (some ⟨g, 0, none⟩)), (fun v _ => v = .pointer (some ⟨g, 1, none⟩)), (fun v _ => v = .agg #[.int .i64 n, .int .i64 s]), (fun v _ => v = .int .i64 now), (fun v _ => v = .pointer (some ⟨g, 0, none⟩)), (fun v _ => v = .pointer (some ⟨g, 0, none⟩)), (fun v _ => v = .pointer (some ⟨g, 0, none⟩)), (fun v _ => v = .int .i64 a), (fun v _ => v = .tuple #[.agg #[.int .i64 p, .int .i64 q], .int .i64 f]), (fun v _ => v = .agg #[.int .i64 p, .int .i64 q]), (fun v _ => v = .int .i64 f)] (fun _ => False) (by kernel_rfl) (by kernel_rfl) (by kernel_rfl) rfl rfl rfl ?_ ?_ ?_
  · intro g hg v X Y hX hY hv
    simp only [List.mem_cons, List.not_mem_nil, or_false] at hg
    rcases hg with rfl | rfl | rfl | rfl | rfl | rfl | rfl | rfl | rfl | rfl | rfl | rfl
    all_goals first
      | exact hv
      | exact hv.kept hY
  · simp only [flowOpsF, List.take_succ_cons, List.take_zero, and_true]
    refine ⟨?_, ?_, ?_, ?_, ?_, ?_, ?_, ?_, ?_, ?_, ?_, ?_⟩
    · intro xs W hW hn
      simp only [flowAct, List.zipWith_cons_cons, List.zipWith_nil_left]
      go_wp2_with (fail)
      exact ⟨rfl, _, rfl, Below.refl _ _, rfl, fun h => h.elim⟩
    · intro xs W hW hn
      simp [flowNeeds, Region.binds] at hn
      simp only [flowAct, List.zipWith_cons_cons, List.zipWith_nil_left]
      try simp only [hn]
      go_wp2_with (fail)
      exact ⟨rfl, _, rfl, Below.refl _ _, rfl, fun h => h.elim⟩
    · intro xs W hW hn
      simp [flowNeeds, Region.binds] at hn
      simp only [flowAct, List.zipWith_cons_cons, List.zipWith_nil_left]
      try simp only [hn]
      go_wp2_with (fail)
      exact ⟨rfl, _, rfl, Below.refl _ _, rfl, fun h => h.elim⟩
    · intro xs W hW hn
      obtain ⟨c0, c1, c2, c3⟩ := HCK.out W hW
      simp [flowNeeds, Region.binds] at hn
      simp only [flowAct, List.zipWith_cons_cons, List.zipWith_nil_left]
      try simp only [hn]
      go_wp2_with (fail)
      exact ⟨rfl, _, rfl, Below.refl _ _, rfl, fun h => h.elim⟩
    · intro xs W hW hn
      simp only [flowAct, List.zipWith_cons_cons, List.zipWith_nil_left]
      go_wp2_with (fail)
      exact ⟨rfl, _, rfl, Below.refl _ _, rfl, fun h => h.elim⟩
    · intro xs W hW hn
      simp only [flowAct, List.zipWith_cons_cons, List.zipWith_nil_left]
      go_wp2_with (fail)
      exact ⟨rfl, _, rfl, Below.refl _ _, rfl, fun h => h.elim⟩
    · intro xs W hW hn
      simp [flowNeeds, Region.binds] at hn
      simp only [flowAct, List.zipWith_cons_cons, List.zipWith_nil_left]
      try simp only [hn]
      go_wp2_with (fail)
      exact ⟨rfl, _, rfl, Below.refl _ _, rfl, fun h => h.elim⟩
    · intro xs W hW hn
      simp [flowNeeds, Region.binds] at hn
      simp only [flowAct, List.zipWith_cons_cons, List.zipWith_nil_left]
      try simp only [hn]
      go_wp2_with (fail)
      exact ⟨rfl, _, rfl, Below.refl _ _, rfl, fun h => h.elim⟩
    · intro xs W hW hn
      obtain ⟨c0, c1, c2, c3⟩ := HCK.out W hW
      simp [flowNeeds, Region.binds] at hn
      simp only [flowAct, List.zipWith_cons_cons, List.zipWith_nil_left]
      try simp only [hn]
      go_wp2_with (fail)
      exact ⟨rfl, _, rfl, Below.refl _ _, rfl, fun h => h.elim⟩
    · intro xs W hW hn
      simp [flowNeeds, Region.binds] at hn
      simp only [flowAct, List.zipWith_cons_cons, List.zipWith_nil_left]
      try simp only [hn]
      go_wp2_with (go_at_call 84; (with_reducible refine (HN.out _).mono ?_); rintro e9 w9 ⟨rfl, hb9⟩)
      exact ⟨rfl, _, rfl, hb9, rfl, fun h => h.elim⟩
    · intro xs W hW hn
      simp [flowNeeds, Region.binds] at hn
      simp only [flowAct, List.zipWith_cons_cons, List.zipWith_nil_left]
      try simp only [hn]
      go_wp2_with (fail)
      exact ⟨rfl, _, rfl, Below.refl _ _, rfl, fun h => h.elim⟩
    · intro xs W hW hn
      simp [flowNeeds, Region.binds] at hn
      simp only [flowAct, List.zipWith_cons_cons, List.zipWith_nil_left]
      try simp only [hn]
      go_wp2_with (fail)
      exact ⟨rfl, _, rfl, Below.refl _ _, rfl, fun h => h.elim⟩
  · intro xs W hW hall hfr
    clear hfr
    simp only [flowAll, and_true, Nat.zero_add, Nat.reduceAdd] at hall
    obtain ⟨a0, a1, a2, a3, a4, a5, a6, a7, a8, a9, a10, a11⟩ := hall
    simp only [flowAct, List.zipWith_cons_cons, List.zipWith_nil_left, List.drop_succ_cons, List.drop_zero]
    simp only [a0, a1, a2, a3, a4, a5, a6, a7, a8, a9, a10, a11]
    clear a0 a1 a2 a3 a4 a5 a6 a7 a8 a9 a10 a11
    have HW := Lib.hid hW
    have z0 := (HO.out.kept hW).c0
    have z1 := (HO.out.kept hW).c1
    have f0 := (HO.out.kept hW).fz 0
    have f1 := (HO.out.kept hW).fz 1
    clear hW
    go_wp2
    refine bodyPost_ret (res_cell_tmp rfl _ _ B 66 _ (0, 0) _ _ rfl rfl (((HO.out.kept HW.out).set0 p).set1 q) Try.underlying66 rfl (size2s _ _)) rfl ⟨by rfl, ((HB.out.trans (HW.out.mono HB.out.size)).setCell (Nat.le_of_eq HSB.out) _).setCell (Nat.le_of_eq HSB.out) _⟩
end Go.Proofs.Ytpndpmgbnnpciaa
