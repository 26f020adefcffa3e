/-
  Vec: the walk of VecLattice over contracts of the program's functions: its regions that make memory in any order.
-/
import Derived.Test.YtjlolljlhoclhaaV8
import Derived.Test.YtjlolljlhoclhaaDT
namespace Go.Proofs.Ytjlolljlhoclhaa
open Go.RowKit Go Go.Sort
set_option linter.unusedVariables false

set_option maxRecDepth 100000 in
set_option maxHeartbeats 6400000 in
theorem vlattice_walk (K : VecOk) (a0 a1 b0 b1 c0 c1 : Int) {w : World} (ga : vgood a0 a1 = true) (gb : vgood b0 b1 = true) (gc : vgood c0 c1 = true) :
    Calls Try.prog 6 #[.agg #[.int .i64 a0, .int .i64 a1], .agg #[.int .i64 b0, .int .i64 b1], .agg #[.int .i64 c0, .int .i64 c1]] w (Tells (.bool true) w) := by
  have hp := ((Pair.new w 23 a0 a1).alloc (.cells #[.int .i64 b0, .int .i64 b1] 23)).alloc (.cells #[.int .i64 c0, .int .i64 c1] 23)
  have hq := (Pair.second w (.cells #[.int .i64 a0, .int .i64 a1] 23) 23 b0 b1).alloc (.cells #[.int .i64 c0, .int .i64 c1] 23)
  have hr := Pair.third w (.cells #[.int .i64 a0, .int .i64 a1] 23) (.cells #[.int .i64 b0, .int .i64 b1] 23) 23 c0 c1
  have hb := third_below w (.cells #[.int .i64 a0, .int .i64 a1] 23) (.cells #[.int .i64 b0, .int .i64 b1] 23) (.cells #[.int .i64 c0, .int .i64 c1] 23)
  have hEQ := vec_eql
  have hEN := vec_neq
  have hEG := vec_eqg
  have G1 := K.good a0 a1
  have G2 := K.good b0 b1
  have G3 := K.good c0 c1
  rw [ga] at G1
  rw [gb] at G2
  rw [gc] at G3
  obtain ⟨⟨j0, j1⟩, hj⟩ : ∃ q, joinS [(a0, a1), (b0, b1)] = q := ⟨_, rfl⟩
  obtain ⟨m0, hm0⟩ : ∃ q, min a0 b0 = q := ⟨_, rfl⟩
  obtain ⟨m1, hm1⟩ : ∃ q, min a1 b1 = q := ⟨_, rfl⟩
  have JN := fun (W : World) (g : Nat) (p q : Int × Int) (h : Prs W (some ⟨g, 0, none⟩) 2 2 [p, q]) => K.join h
  have J1 := fun (W : World) (g : Nat) (h : Prs W (some ⟨g, 0, none⟩) 2 2 [(a0, a1), (b0, b1)]) => K.join h
  have M1 := K.meet a0 a1 b0 b1
  rw [hm0, hm1] at M1
  rw [hj] at J1
  have F := vlatt ga gb gc
  simp only [hj, hm0, hm1] at F
  obtain ⟨f2, ⟨t0, t1⟩, ⟨u0, u1⟩, f3, f4, f5, f6, f7, v1, v2, v3, v4, f8, f9, w1, w2⟩ := F
  have J2 := fun (W : World) (g : Nat) (h : Prs W (some ⟨g, 0, none⟩) 2 2 [(b0, b1), (a0, a1)]) => K.join h
  have J3 := fun (W : World) (g : Nat) (h : Prs W (some ⟨g, 0, none⟩) 2 2 [(j0, j1), (c0, c1)]) => K.join h
  have J4 := fun (W : World) (g : Nat) (h : Prs W (some ⟨g, 0, none⟩) 2 2 [(b0, b1), (c0, c1)]) => K.join h
  have J5 := fun (W : World) (g : Nat) (h : Prs W (some ⟨g, 0, none⟩) 2 2 [(a0, a1), (u0, u1)]) => K.join h
  have J6 := fun (W : World) (g : Nat) (h : Prs W (some ⟨g, 0, none⟩) 2 2 [(a0, a1), (a0, a1)]) => K.join h
  have J7 := fun (W : World) (g : Nat) (h : Prs W (some ⟨g, 0, none⟩) 2 2 [(a0, a1), (m0, m1)]) => K.join h
  have C1 := K.cov j0 j1 a0 a1
  have C2 := K.cov j0 j1 b0 b1
  have C3 := K.cov a0 a1 m0 m1
  have C4 := K.cov b0 b1 m0 m1
  have M2 := K.meet a0 a1 j0 j1
  simp only [f2] at J2
  simp only [f3] at J3
  simp only [f4] at J4
  simp only [f5] at J5
  simp only [f6] at J6
  simp only [f7] at J7
  rw [v1] at C1
  rw [v2] at C2
  rw [v3] at C3
  rw [v4] at C4
  rw [f8, f9] at M2
  have HJ2 := Lib.hid J2
  have HJ3 := Lib.hid J3
  have HJ4 := Lib.hid J4
  have HJ5 := Lib.hid J5
  have HJ6 := Lib.hid J6
  have HJ7 := Lib.hid J7
  have HC1 := Lib.hid C1
  have HC2 := Lib.hid C2
  have HC3 := Lib.hid C3
  have HC4 := Lib.hid C4
  have HM2 := Lib.hid M2
  have HCV := Lib.hid K.cov
  have Hw1 := Lib.hid w1
  have Hw2 := Lib.hid w2
  clear J2 J3 J4 J5 J6 J7 C1 C2 C3 C4 M2 f2 f3 f4 f5 f6 f7 v1 v2 v3 v4 f8 f9 w1 w2
  have HG1 := Lib.hid G1
  have HG2 := Lib.hid G2
  have HG3 := Lib.hid G3
  have HJN := Lib.hid JN
  have HJ1 := Lib.hid J1
  have HM1 := Lib.hid M1
  have HLv := Lib.hid (vlives_c K)
  have HP := Lib.hid hp
  have HQ := Lib.hid hq
  have HR := Lib.hid hr
  have HB := Lib.hid hb
  clear G1 G2 G3 JN J1 M1 hp hq hr hb ga gb gc hj hm0 hm1
  go_enter Try.func6, Try.ntmps6
  go_upto_region 1 with (fail)
  generalize ((w.alloc (.cells #[.int .i64 a0, .int .i64 a1] 23)).alloc (.cells #[.int .i64 b0, .int .i64 b1] 23)).alloc (.cells #[.int .i64 c0, .int .i64 c1] 23) = W0 at *
  have p0 := HP.out.c0
  have p1 := HP.out.c1
  go_upto_region 3 with (first
    | (go_at_call 8; (with_reducible refine (HG1.out _).mono ?_); rintro e w1 ⟨rfl, hb1⟩; have q0 := (HQ.out.kept hb1).c0; have q1 := (HQ.out.kept hb1).c1)
    | (go_at_call 8; (with_reducible refine (HG2.out _).mono ?_); rintro e w2 ⟨rfl, hb2⟩; have r0 := ((HR.out.kept hb1).kept hb2).c0; have r1 := ((HR.out.kept hb1).kept hb2).c1)
    | (go_at_call 8; (with_reducible refine (HG3.out _).mono ?_); rintro e W1 ⟨rfl, hb3⟩))
  have HP1 := Lib.hid (((HP.out.kept hb1).kept hb2).kept hb3)
  have HQ1 := Lib.hid (((HQ.out.kept hb1).kept hb2).kept hb3)
  have HR1 := Lib.hid (((HR.out.kept hb1).kept hb2).kept hb3)
  have h1 := HB.out.trans (hb1.mono HB.out.size)
  have h2 := h1.trans (hb2.mono h1.size)
  have HB1 := Lib.hid (h2.trans (hb3.mono h2.size))
  clear h1 h2 hb1 hb2 hb3 p0 p1 q0 q1 r0 r1 HP HQ HR HB HG1 HG2 HG3
  have HC := Lib.hid (fun W (h : Below W1.heap.size W1 W) => (And.intro (HP1.out.kept h).c0 (And.intro (HP1.out.kept h).c1 (And.intro (HQ1.out.kept h).c0 (HQ1.out.kept h).c1))))
  refine wp_region_flow_tail 9 [none, none, none, none, none, none, none, some 7, some 8, none, none, none, none, none, none, none, none, none, none, none, none, none, none, some 0, some 1, some 2, some 3, some 4, some 5, some 6, none, none, none, none, none, none, none, none, none, none, none, none, none, none, none, none, none, none, none, none, none, none, none, none, none, none, none, none, none, none, none, none, none, none, none, none, none, none, none, none, none, none, none, none, none, none, none, none, none, none, none, none, none, none, none, none, none, none, none, none, none, none, none, none, none, none, none, none, none, none, none, none, none, none, none, none, none, none, none, none, none, none, none, none, none, none, none, none, none, none, none, none, none, none, none, none, none, none] (fun _ => undef) [(fun v _ => v = .agg #[.int .i64 a0, .int .i64 a1]), (fun v _ => v = .agg #[.int .i64 b0, .int .i64 b1]), (fun v W => ∃ g, v = .slice (some ⟨g, 0, none⟩) 2 2 ∧ Prs W (some ⟨g, 0, none⟩) 2 2 [(a0, a1), (b0, b1)]), (fun v _ => v = .agg #[.int .i64 j0, .int .i64 j1]), (fun v _ => v = .agg #[.int .i64 a0, .int .i64 a1]), (fun v _ => v = .agg #[.int .i64 b0, .int .i64 b1]), (fun v _ => v = .agg #[.int .i64 m0, .int .i64 m1]), (fun v W => ∃ g, v = .pointer (some ⟨g, 0, none⟩) ∧ W1.heap.size ≤ g ∧ Pair W g 23 0 0), (fun v W => ∃ g, v = .pointer (some ⟨g, 0, none⟩) ∧ W1.heap.size ≤ g ∧ Pair W g 23 0 0)] (fun i => i = 7 ∨ i = 8) (by kernel_rfl) (by kernel_rfl) (by kernel_rfl) rfl rfl rfl ?_ ?_ ?_
  · intro g hg v X Y hX hY hv
    simp only [List.mem_cons, List.not_mem_nil, or_false] at hg
    rcases hg with rfl | rfl | rfl | rfl | rfl | rfl | rfl | rfl | rfl
    all_goals first
      | exact hv
      | (obtain ⟨b, h1, h2, h3⟩ := hv; exact ⟨b, h1, h2, h3.kept hY⟩)
      | (obtain ⟨b, h1, h2⟩ := hv; exact ⟨b, h1, h2.below hY⟩)
  · simp only [flowOpsF, List.take_succ_cons, List.take_zero, and_true]
    refine ⟨?_, ?_, ?_, ?_, ?_, ?_, ?_, ?_, ?_⟩
    · intro xs W hW hn
      obtain ⟨p0, p1, q0, q1⟩ := HC.out W hW
      simp only [flowAct, List.zipWith_cons_cons, List.zipWith_nil_left]
      go_wp2_with (fail)
      exact ⟨rfl, _, rfl, Below.refl _ _, rfl, fun h => by simp at h⟩
    · intro xs W hW hn
      obtain ⟨p0, p1, q0, q1⟩ := HC.out W hW
      simp only [flowAct, List.zipWith_cons_cons, List.zipWith_nil_left]
      go_wp2_with (fail)
      exact ⟨rfl, _, rfl, Below.refl _ _, rfl, fun h => by simp at h⟩
    · intro xs W hW hn
      obtain ⟨p0, p1, q0, q1⟩ := HC.out W hW
      simp [flowNeeds, Region.binds] at hn
      simp only [flowAct, List.zipWith_cons_cons, List.zipWith_nil_left]
      simp only [hn]
      go_wp2_with (fail)
      exact ⟨rfl, _, rfl, alloc_below _ _, ⟨_, rfl, prs2 _ _ _ _ _⟩, fun h => by simp at h⟩
    · intro xs W hW hn
      obtain ⟨p0, p1, q0, q1⟩ := HC.out W hW
      simp [flowNeeds, Region.binds] at hn
      simp only [flowAct, List.zipWith_cons_cons, List.zipWith_nil_left]
      obtain ⟨g, e1, hy⟩ := hn
      simp only [e1]
      go_wp2_with (go_at_call 17; (with_reducible refine (HJ1.out _ _ hy).mono ?_); rintro e w9 ⟨rfl, hb9⟩)
      exact ⟨rfl, _, rfl, hb9, rfl, fun h => by simp at h⟩
    · intro xs W hW hn
      obtain ⟨p0, p1, q0, q1⟩ := HC.out W hW
      simp only [flowAct, List.zipWith_cons_cons, List.zipWith_nil_left]
      go_wp2_with (fail)
      exact ⟨rfl, _, rfl, Below.refl _ _, rfl, fun h => by simp at h⟩
    · intro xs W hW hn
      obtain ⟨p0, p1, q0, q1⟩ := HC.out W hW
      simp only [flowAct, List.zipWith_cons_cons, List.zipWith_nil_left]
      go_wp2_with (fail)
      exact ⟨rfl, _, rfl, Below.refl _ _, rfl, fun h => by simp at h⟩
    · intro xs W hW hn
      obtain ⟨p0, p1, q0, q1⟩ := HC.out W hW
      simp [flowNeeds, Region.binds] at hn
      simp only [flowAct, List.zipWith_cons_cons, List.zipWith_nil_left]
      simp only [hn]
      go_wp2_with (go_at_call 14; (with_reducible refine (HM1.out _).mono ?_); rintro e w9 ⟨rfl, hb9⟩)
      exact ⟨rfl, _, rfl, hb9, rfl, fun h => by simp at h⟩
    · intro xs W hW hn
      obtain ⟨p0, p1, q0, q1⟩ := HC.out W hW
      simp only [flowAct, List.zipWith_cons_cons, List.zipWith_nil_left]
      go_wp2_with (fail)
      refine ⟨rfl, _, rfl, alloc_below _ _, ⟨_, rfl, hW.size, Pair.new _ _ _ _⟩, fun _ j hj u hu => ?_⟩
      have hu2 : ∃ g, u = .pointer (some ⟨g, 0, none⟩) ∧ W1.heap.size ≤ g ∧ Pair W g 23 0 0 := by
        rcases hj with rfl | rfl <;> exact hu
      obtain ⟨g, rfl, _, hpg⟩ := hu2
      have := hpg.lt
      intro e
      simp at e
      try omega
    · intro xs W hW hn
      obtain ⟨p0, p1, q0, q1⟩ := HC.out W hW
      simp only [flowAct, List.zipWith_cons_cons, List.zipWith_nil_left]
      go_wp2_with (fail)
      refine ⟨rfl, _, rfl, alloc_below _ _, ⟨_, rfl, hW.size, Pair.new _ _ _ _⟩, fun _ j hj u hu => ?_⟩
      have hu2 : ∃ g, u = .pointer (some ⟨g, 0, none⟩) ∧ W1.heap.size ≤ g ∧ Pair W g 23 0 0 := by
        rcases hj with rfl | rfl <;> exact hu
      obtain ⟨g, rfl, _, hpg⟩ := hu2
      have := hpg.lt
      intro e
      simp at e
      try omega
  · intro xs W hW hall hfr
    have hne := hfr 7 8 (by omega) (by omega) (by omega) (.inl rfl) (.inr rfl)
    simp only [flowAll, and_true, Nat.zero_add, Nat.reduceAdd] at hall
    obtain ⟨-, -, -, e3, -, -, e6, ⟨g7, e7, l7, P7⟩, ⟨g8, e8, l8, P8⟩⟩ := hall
    rw [e7, e8] at hne
    have hne2 : g7 ≠ g8 := fun h => hne (by rw [h])
    simp only [flowAct, List.zipWith_cons_cons, List.zipWith_nil_left, e3, e6, e7, e8, List.drop_succ_cons, List.drop_zero]
    have y7 := ((((P7.set0 j0).set1 j1).other ⟨g8, 0, none⟩ (.int .i64 m0) (by simpa using hne2)).other ⟨g8, 1, none⟩ (.int .i64 m1) (by simpa using hne2))
    have x8 := (P8.other ⟨g7, 0, none⟩ (.int .i64 j0) (by simpa using hne2.symm)).other ⟨g7, 1, none⟩ (.int .i64 j1) (by simpa using hne2.symm)
    have y8 := (x8.set0 m0).set1 m1
    have hB4 := ((((Below.refl W1.heap.size W1).trans hW).setCell (p := ⟨g7, 0, none⟩) (by simpa using l7) (.int .i64 j0)).setCell (p := ⟨g7, 1, none⟩) (by simpa using l7) (.int .i64 j1)).setCell (p := ⟨g8, 0, none⟩) (by simpa using l8) (.int .i64 m0) |>.setCell (p := ⟨g8, 1, none⟩) (by simpa using l8) (.int .i64 m1)
    have z0 := P7.fz 0
    have z1 := P7.fz 1
    have z2 := x8.fz 0
    have z3 := x8.fz 1
    have v0 := P7.c0
    have v1 := P7.c1
    have v2 := x8.c0
    have v3 := x8.c1
    have HY7 := Lib.hid y7
    have HY8 := Lib.hid y8
    have HB4 := Lib.hid hB4
    clear P7 P8 x8 y7 y8 hB4 hfr e3 e6 e7 e8
    go_upto_region 4 with (fail)
    generalize (((W.setCell ⟨g7, 0, none⟩ (.int .i64 j0)).setCell ⟨g7, 1, none⟩ (.int .i64 j1)).setCell ⟨g8, 0, none⟩ (.int .i64 m0)).setCell ⟨g8, 1, none⟩ (.int .i64 m1) = W4 at *
    clear z0 z1 z2 z3 v0 v1 v2 v3
    have HA := Lib.hid (HP1.out.kept HB4.out)
    have HBb := Lib.hid (HQ1.out.kept HB4.out)
    have HCc := Lib.hid (HR1.out.kept HB4.out)
    have HB5 := Lib.hid (HB1.out.trans (HB4.out.mono HB1.out.size))
    have HC5 := Lib.hid (fun V (h : Below W4.heap.size W4 V) => And.intro (And.intro (HA.out.kept h).c0 (HA.out.kept h).c1) (And.intro (And.intro (HBb.out.kept h).c0 (HBb.out.kept h).c1) (And.intro (And.intro (HCc.out.kept h).c0 (HCc.out.kept h).c1) (And.intro (And.intro (HY7.out.kept h).c0 (HY7.out.kept h).c1) (And.intro (HY8.out.kept h).c0 (HY8.out.kept h).c1)))))
    clear HC HP1 HQ1 HR1 HB1 HB4 hW
    refine wp_region_flow [none, none, none, none, none, none, none, none, none, none, none, none, none, none, none, none, none, none, none, none, none, none, none, none, none, none, none, none, none, none, some 0, some 1, some 2, some 3, some 4, some 5, some 6, some 7, some 8, some 9, some 10, some 11, some 12, some 13, some 14, some 15, some 16, some 17, some 18, some 19, some 20, some 21, some 22, some 23, some 24, some 25, some 26, some 27, some 28, some 29, some 30, some 31, some 32, some 33, some 34, some 35, some 36, some 37, some 38, some 39, some 40, some 41, some 42, some 43, some 44, some 45, some 46, some 47, some 48, some 49, some 50, some 51, none, none, none, none, none, none, none, none, none, none, none, none, none, none, none, none, none, none, none, none, none, none, none, none, none, none, none, none, none, none, none, none, none, none, none, none, none, none, none, none, none, none, none, none, none, none] (fun i => undef) [(fun v _ => v = .agg #[.int .i64 j0, .int .i64 j1]), (fun v _ => v = .agg #[.int .i64 b0, .int .i64 b1]), (fun v _ => v = .agg #[.int .i64 a0, .int .i64 a1]), (fun v W => ∃ g, v = .slice (some ⟨g, 0, none⟩) 2 2 ∧ Prs W (some ⟨g, 0, none⟩) 2 2 [(b0, b1), (a0, a1)]), (fun v _ => v = .agg #[.int .i64 j0, .int .i64 j1]), (fun v _ => v = .bool false), (fun v _ => v = .bool false), (fun v _ => v = .agg #[.int .i64 j0, .int .i64 j1]), (fun v _ => v = .agg #[.int .i64 c0, .int .i64 c1]), (fun v W => ∃ g, v = .slice (some ⟨g, 0, none⟩) 2 2 ∧ Prs W (some ⟨g, 0, none⟩) 2 2 [(j0, j1), (c0, c1)]), (fun v _ => v = .agg #[.int .i64 t0, .int .i64 t1]), (fun v _ => v = .agg #[.int .i64 a0, .int .i64 a1]), (fun v _ => v = .agg #[.int .i64 b0, .int .i64 b1]), (fun v _ => v = .agg #[.int .i64 c0, .int .i64 c1]), (fun v W => ∃ g, v = .slice (some ⟨g, 0, none⟩) 2 2 ∧ Prs W (some ⟨g, 0, none⟩) 2 2 [(b0, b1), (c0, c1)]), (fun v _ => v = .agg #[.int .i64 u0, .int .i64 u1]), (fun v W => ∃ g, v = .slice (some ⟨g, 0, none⟩) 2 2 ∧ Prs W (some ⟨g, 0, none⟩) 2 2 [(a0, a1), (u0, u1)]), (fun v _ => v = .agg #[.int .i64 t0, .int .i64 t1]), (fun v _ => v = .bool false), (fun v _ => v = .bool false), (fun v _ => v = .bool false), (fun v _ => v = .agg #[.int .i64 a0, .int .i64 a1]), (fun v _ => v = .agg #[.int .i64 a0, .int .i64 a1]), (fun v W => ∃ g, v = .slice (some ⟨g, 0, none⟩) 2 2 ∧ Prs W (some ⟨g, 0, none⟩) 2 2 [(a0, a1), (a0, a1)]), (fun v _ => v = .agg #[.int .i64 a0, .int .i64 a1]), (fun v _ => v = .agg #[.int .i64 a0, .int .i64 a1]), (fun v _ => v = .bool false), (fun v _ => v = .bool false), (fun v _ => v = .bool false), (fun v _ => v = .agg #[.int .i64 j0, .int .i64 j1]), (fun v _ => v = .agg #[.int .i64 a0, .int .i64 a1]), (fun v _ => v = .bool true), (fun v _ => v = .bool false), (fun v _ => v = .bool false), (fun v _ => v = .bool false), (fun v _ => v = .agg #[.int .i64 j0, .int .i64 j1]), (fun v _ => v = .agg #[.int .i64 b0, .int .i64 b1]), (fun v _ => v = .bool true), (fun v _ => v = .bool false), (fun v _ => v = .bool false), (fun v _ => v = .bool false), (fun v _ => v = .agg #[.int .i64 a0, .int .i64 a1]), (fun v _ => v = .agg #[.int .i64 m0, .int .i64 m1]), (fun v _ => v = .bool true), (fun v _ => v = .bool false), (fun v _ => v = .bool false), (fun v _ => v = .bool false), (fun v _ => v = .agg #[.int .i64 b0, .int .i64 b1]), (fun v _ => v = .agg #[.int .i64 m0, .int .i64 m1]), (fun v _ => v = .bool true), (fun v _ => v = .bool false), (fun v _ => v = .bool false)] (by kernel_rfl) (by kernel_rfl) rfl rfl rfl ?_ ?_ ?_
    · intro g hg v X Y hX hY hv
      simp only [List.mem_cons, List.not_mem_nil, or_false] at hg
      rcases hg with rfl | rfl | rfl | rfl | rfl | rfl | rfl | rfl | rfl | rfl | rfl | rfl | rfl | rfl | rfl | rfl | rfl | rfl | rfl | rfl | rfl | rfl | rfl | rfl | rfl | rfl | rfl | rfl | rfl | rfl | rfl | rfl | rfl | rfl | rfl | rfl | rfl | rfl | rfl | rfl | rfl | rfl | rfl | rfl | rfl | rfl | rfl | rfl | rfl | rfl | rfl | rfl
      all_goals first
        | exact hv
        | (obtain ⟨b, h1, h2⟩ := hv; exact ⟨b, h1, h2.below hY⟩)
    · simp only [flowOps, and_true]
      refine ⟨?_, ?_, ?_, ?_, ?_, ?_, ?_, ?_, ?_, ?_, ?_, ?_, ?_, ?_, ?_, ?_, ?_, ?_, ?_, ?_, ?_, ?_, ?_, ?_, ?_, ?_, ?_, ?_, ?_, ?_, ?_, ?_, ?_, ?_, ?_, ?_, ?_, ?_, ?_, ?_, ?_, ?_, ?_, ?_, ?_, ?_, ?_, ?_, ?_, ?_, ?_, ?_⟩
      · intro xs2 V hV hn
        obtain ⟨⟨p0, p1⟩, ⟨q0, q1⟩, ⟨r0, r1⟩, ⟨y0, y1⟩, ⟨z0, z1⟩⟩ := HC5.out V hV
        simp only [flowAct, List.zipWith_cons_cons, List.zipWith_nil_left]
        try simp only [hn]
        go_wp2_with (fail)
        exact ⟨rfl, _, rfl, Below.refl _ _, rfl⟩
      · intro xs2 V hV hn
        obtain ⟨⟨p0, p1⟩, ⟨q0, q1⟩, ⟨r0, r1⟩, ⟨y0, y1⟩, ⟨z0, z1⟩⟩ := HC5.out V hV
        simp only [flowAct, List.zipWith_cons_cons, List.zipWith_nil_left]
        try simp only [hn]
        go_wp2_with (fail)
        exact ⟨rfl, _, rfl, Below.refl _ _, rfl⟩
      · intro xs2 V hV hn
        obtain ⟨⟨p0, p1⟩, ⟨q0, q1⟩, ⟨r0, r1⟩, ⟨y0, y1⟩, ⟨z0, z1⟩⟩ := HC5.out V hV
        simp only [flowAct, List.zipWith_cons_cons, List.zipWith_nil_left]
        try simp only [hn]
        go_wp2_with (fail)
        exact ⟨rfl, _, rfl, Below.refl _ _, rfl⟩
      · intro xs2 V hV hn
        obtain ⟨⟨p0, p1⟩, ⟨q0, q1⟩, ⟨r0, r1⟩, ⟨y0, y1⟩, ⟨z0, z1⟩⟩ := HC5.out V hV
        simp [flowNeeds, Region.binds] at hn
        simp only [flowAct, List.zipWith_cons_cons, List.zipWith_nil_left]
        simp only [hn]
        go_wp2_with (fail)
        exact ⟨rfl, _, rfl, alloc_below _ _, ⟨_, rfl, prs2 _ _ _ _ _⟩⟩
      · intro xs2 V hV hn
        obtain ⟨⟨p0, p1⟩, ⟨q0, q1⟩, ⟨r0, r1⟩, ⟨y0, y1⟩, ⟨z0, z1⟩⟩ := HC5.out V hV
        simp [flowNeeds, Region.binds] at hn
        simp only [flowAct, List.zipWith_cons_cons, List.zipWith_nil_left]
        obtain ⟨g, e1, hy⟩ := hn
        simp only [e1]
        go_wp2_with (go_at_call 17; (with_reducible refine (HJ2.out _ _ hy).mono ?_); rintro e w9 ⟨rfl, hb9⟩)
        exact ⟨rfl, _, rfl, hb9, rfl⟩
      · intro xs2 V hV hn
        obtain ⟨⟨p0, p1⟩, ⟨q0, q1⟩, ⟨r0, r1⟩, ⟨y0, y1⟩, ⟨z0, z1⟩⟩ := HC5.out V hV
        simp [flowNeeds, Region.binds] at hn
        simp only [flowAct, List.zipWith_cons_cons, List.zipWith_nil_left]
        try simp only [hn]
        go_wp2_with (fail)
        exact ⟨rfl, _, rfl, Below.refl _ _, rfl⟩
      · intro xs2 V hV hn
        obtain ⟨⟨p0, p1⟩, ⟨q0, q1⟩, ⟨r0, r1⟩, ⟨y0, y1⟩, ⟨z0, z1⟩⟩ := HC5.out V hV
        simp [flowNeeds, Region.binds] at hn
        simp only [flowAct, List.zipWith_cons_cons, List.zipWith_nil_left]
        try simp only [hn]
        go_wp2_with (fail)
        exact ⟨rfl, _, rfl, Below.refl _ _, rfl⟩
      · intro xs2 V hV hn
        obtain ⟨⟨p0, p1⟩, ⟨q0, q1⟩, ⟨r0, r1⟩, ⟨y0, y1⟩, ⟨z0, z1⟩⟩ := HC5.out V hV
        simp [flowNeeds, Region.binds] at hn
        simp only [flowAct, List.zipWith_cons_cons, List.zipWith_nil_left]
        try simp only [hn]
        go_wp2_with (fail)
        exact ⟨rfl, _, rfl, Below.refl _ _, rfl⟩
      · intro xs2 V hV hn
        obtain ⟨⟨p0, p1⟩, ⟨q0, q1⟩, ⟨r0, r1⟩, ⟨y0, y1⟩, ⟨z0, z1⟩⟩ := HC5.out V hV
        simp [flowNeeds, Region.binds] at hn
        simp only [flowAct, List.zipWith_cons_cons, List.zipWith_nil_left]
        try simp only [hn]
        go_wp2_with (fail)
        exact ⟨rfl, _, rfl, Below.refl _ _, rfl⟩
      · intro xs2 V hV hn
        obtain ⟨⟨p0, p1⟩, ⟨q0, q1⟩, ⟨r0, r1⟩, ⟨y0, y1⟩, ⟨z0, z1⟩⟩ := HC5.out V hV
        simp [flowNeeds, Region.binds] at hn
        simp only [flowAct, List.zipWith_cons_cons, List.zipWith_nil_left]
        simp only [hn]
        go_wp2_with (fail)
        exact ⟨rfl, _, rfl, alloc_below _ _, ⟨_, rfl, prs2 _ _ _ _ _⟩⟩
      · intro xs2 V hV hn
        obtain ⟨⟨p0, p1⟩, ⟨q0, q1⟩, ⟨r0, r1⟩, ⟨y0, y1⟩, ⟨z0, z1⟩⟩ := HC5.out V hV
        simp [flowNeeds, Region.binds] at hn
        simp only [flowAct, List.zipWith_cons_cons, List.zipWith_nil_left]
        obtain ⟨⟨g, e1, hy⟩, e2⟩ := hn
        simp only [e1, e2]
        go_wp2_with (go_at_call 17; (with_reducible refine (HJ3.out _ _ hy).mono ?_); rintro e w9 ⟨rfl, hb9⟩)
        exact ⟨rfl, _, rfl, hb9, rfl⟩
      · intro xs2 V hV hn
        obtain ⟨⟨p0, p1⟩, ⟨q0, q1⟩, ⟨r0, r1⟩, ⟨y0, y1⟩, ⟨z0, z1⟩⟩ := HC5.out V hV
        simp [flowNeeds, Region.binds] at hn
        simp only [flowAct, List.zipWith_cons_cons, List.zipWith_nil_left]
        try simp only [hn]
        go_wp2_with (fail)
        exact ⟨rfl, _, rfl, Below.refl _ _, rfl⟩
      · intro xs2 V hV hn
        obtain ⟨⟨p0, p1⟩, ⟨q0, q1⟩, ⟨r0, r1⟩, ⟨y0, y1⟩, ⟨z0, z1⟩⟩ := HC5.out V hV
        simp [flowNeeds, Region.binds] at hn
        simp only [flowAct, List.zipWith_cons_cons, List.zipWith_nil_left]
        try simp only [hn]
        go_wp2_with (fail)
        exact ⟨rfl, _, rfl, Below.refl _ _, rfl⟩
      · intro xs2 V hV hn
        obtain ⟨⟨p0, p1⟩, ⟨q0, q1⟩, ⟨r0, r1⟩, ⟨y0, y1⟩, ⟨z0, z1⟩⟩ := HC5.out V hV
        simp [flowNeeds, Region.binds] at hn
        simp only [flowAct, List.zipWith_cons_cons, List.zipWith_nil_left]
        try simp only [hn]
        go_wp2_with (fail)
        exact ⟨rfl, _, rfl, Below.refl _ _, rfl⟩
      · intro xs2 V hV hn
        obtain ⟨⟨p0, p1⟩, ⟨q0, q1⟩, ⟨r0, r1⟩, ⟨y0, y1⟩, ⟨z0, z1⟩⟩ := HC5.out V hV
        simp [flowNeeds, Region.binds] at hn
        simp only [flowAct, List.zipWith_cons_cons, List.zipWith_nil_left]
        simp only [hn]
        go_wp2_with (fail)
        exact ⟨rfl, _, rfl, alloc_below _ _, ⟨_, rfl, prs2 _ _ _ _ _⟩⟩
      · intro xs2 V hV hn
        obtain ⟨⟨p0, p1⟩, ⟨q0, q1⟩, ⟨r0, r1⟩, ⟨y0, y1⟩, ⟨z0, z1⟩⟩ := HC5.out V hV
        simp [flowNeeds, Region.binds] at hn
        simp only [flowAct, List.zipWith_cons_cons, List.zipWith_nil_left]
        obtain ⟨⟨g, e1, hy⟩, e2⟩ := hn
        simp only [e1, e2]
        go_wp2_with (go_at_call 17; (with_reducible refine (HJ4.out _ _ hy).mono ?_); rintro e w9 ⟨rfl, hb9⟩)
        exact ⟨rfl, _, rfl, hb9, rfl⟩
      · intro xs2 V hV hn
        obtain ⟨⟨p0, p1⟩, ⟨q0, q1⟩, ⟨r0, r1⟩, ⟨y0, y1⟩, ⟨z0, z1⟩⟩ := HC5.out V hV
        simp [flowNeeds, Region.binds] at hn
        simp only [flowAct, List.zipWith_cons_cons, List.zipWith_nil_left]
        simp only [hn]
        go_wp2_with (fail)
        exact ⟨rfl, _, rfl, alloc_below _ _, ⟨_, rfl, prs2 _ _ _ _ _⟩⟩
      · intro xs2 V hV hn
        obtain ⟨⟨p0, p1⟩, ⟨q0, q1⟩, ⟨r0, r1⟩, ⟨y0, y1⟩, ⟨z0, z1⟩⟩ := HC5.out V hV
        simp [flowNeeds, Region.binds] at hn
        simp only [flowAct, List.zipWith_cons_cons, List.zipWith_nil_left]
        obtain ⟨⟨g, e1, hy⟩, e2⟩ := hn
        simp only [e1, e2]
        go_wp2_with (go_at_call 17; (with_reducible refine (HJ5.out _ _ hy).mono ?_); rintro e w9 ⟨rfl, hb9⟩)
        exact ⟨rfl, _, rfl, hb9, rfl⟩
      · intro xs2 V hV hn
        obtain ⟨⟨p0, p1⟩, ⟨q0, q1⟩, ⟨r0, r1⟩, ⟨y0, y1⟩, ⟨z0, z1⟩⟩ := HC5.out V hV
        simp [flowNeeds, Region.binds] at hn
        simp only [flowAct, List.zipWith_cons_cons, List.zipWith_nil_left]
        try simp only [hn]
        go_wp2_with (fail)
        exact ⟨rfl, _, rfl, Below.refl _ _, rfl⟩
      · intro xs2 V hV hn
        obtain ⟨⟨p0, p1⟩, ⟨q0, q1⟩, ⟨r0, r1⟩, ⟨y0, y1⟩, ⟨z0, z1⟩⟩ := HC5.out V hV
        simp [flowNeeds, Region.binds] at hn
        simp only [flowAct, List.zipWith_cons_cons, List.zipWith_nil_left]
        try simp only [hn]
        go_wp2_with (fail)
        exact ⟨rfl, _, rfl, Below.refl _ _, rfl⟩
      · intro xs2 V hV hn
        obtain ⟨⟨p0, p1⟩, ⟨q0, q1⟩, ⟨r0, r1⟩, ⟨y0, y1⟩, ⟨z0, z1⟩⟩ := HC5.out V hV
        simp [flowNeeds, Region.binds] at hn
        simp only [flowAct, List.zipWith_cons_cons, List.zipWith_nil_left]
        try simp only [hn]
        go_wp2_with (fail)
        exact ⟨rfl, _, rfl, Below.refl _ _, rfl⟩
      · intro xs2 V hV hn
        obtain ⟨⟨p0, p1⟩, ⟨q0, q1⟩, ⟨r0, r1⟩, ⟨y0, y1⟩, ⟨z0, z1⟩⟩ := HC5.out V hV
        simp [flowNeeds, Region.binds] at hn
        simp only [flowAct, List.zipWith_cons_cons, List.zipWith_nil_left]
        try simp only [hn]
        go_wp2_with (fail)
        exact ⟨rfl, _, rfl, Below.refl _ _, rfl⟩
      · intro xs2 V hV hn
        obtain ⟨⟨p0, p1⟩, ⟨q0, q1⟩, ⟨r0, r1⟩, ⟨y0, y1⟩, ⟨z0, z1⟩⟩ := HC5.out V hV
        simp [flowNeeds, Region.binds] at hn
        simp only [flowAct, List.zipWith_cons_cons, List.zipWith_nil_left]
        try simp only [hn]
        go_wp2_with (fail)
        exact ⟨rfl, _, rfl, Below.refl _ _, rfl⟩
      · intro xs2 V hV hn
        obtain ⟨⟨p0, p1⟩, ⟨q0, q1⟩, ⟨r0, r1⟩, ⟨y0, y1⟩, ⟨z0, z1⟩⟩ := HC5.out V hV
        simp [flowNeeds, Region.binds] at hn
        simp only [flowAct, List.zipWith_cons_cons, List.zipWith_nil_left]
        simp only [hn]
        go_wp2_with (fail)
        exact ⟨rfl, _, rfl, alloc_below _ _, ⟨_, rfl, prs2 _ _ _ _ _⟩⟩
      · intro xs2 V hV hn
        obtain ⟨⟨p0, p1⟩, ⟨q0, q1⟩, ⟨r0, r1⟩, ⟨y0, y1⟩, ⟨z0, z1⟩⟩ := HC5.out V hV
        simp [flowNeeds, Region.binds] at hn
        simp only [flowAct, List.zipWith_cons_cons, List.zipWith_nil_left]
        obtain ⟨⟨g, e1, hy⟩, e2⟩ := hn
        simp only [e1, e2]
        go_wp2_with (go_at_call 17; (with_reducible refine (HJ6.out _ _ hy).mono ?_); rintro e w9 ⟨rfl, hb9⟩)
        exact ⟨rfl, _, rfl, hb9, rfl⟩
      · intro xs2 V hV hn
        obtain ⟨⟨p0, p1⟩, ⟨q0, q1⟩, ⟨r0, r1⟩, ⟨y0, y1⟩, ⟨z0, z1⟩⟩ := HC5.out V hV
        simp [flowNeeds, Region.binds] at hn
        simp only [flowAct, List.zipWith_cons_cons, List.zipWith_nil_left]
        try simp only [hn]
        go_wp2_with (fail)
        exact ⟨rfl, _, rfl, Below.refl _ _, rfl⟩
      · intro xs2 V hV hn
        obtain ⟨⟨p0, p1⟩, ⟨q0, q1⟩, ⟨r0, r1⟩, ⟨y0, y1⟩, ⟨z0, z1⟩⟩ := HC5.out V hV
        simp [flowNeeds, Region.binds] at hn
        simp only [flowAct, List.zipWith_cons_cons, List.zipWith_nil_left]
        try simp only [hn]
        go_wp2_with (fail)
        exact ⟨rfl, _, rfl, Below.refl _ _, rfl⟩
      · intro xs2 V hV hn
        obtain ⟨⟨p0, p1⟩, ⟨q0, q1⟩, ⟨r0, r1⟩, ⟨y0, y1⟩, ⟨z0, z1⟩⟩ := HC5.out V hV
        simp [flowNeeds, Region.binds] at hn
        simp only [flowAct, List.zipWith_cons_cons, List.zipWith_nil_left]
        try simp only [hn]
        go_wp2_with (fail)
        exact ⟨rfl, _, rfl, Below.refl _ _, rfl⟩
      · intro xs2 V hV hn
        obtain ⟨⟨p0, p1⟩, ⟨q0, q1⟩, ⟨r0, r1⟩, ⟨y0, y1⟩, ⟨z0, z1⟩⟩ := HC5.out V hV
        simp [flowNeeds, Region.binds] at hn
        simp only [flowAct, List.zipWith_cons_cons, List.zipWith_nil_left]
        try simp only [hn]
        go_wp2_with (fail)
        exact ⟨rfl, _, rfl, Below.refl _ _, rfl⟩
      · intro xs2 V hV hn
        obtain ⟨⟨p0, p1⟩, ⟨q0, q1⟩, ⟨r0, r1⟩, ⟨y0, y1⟩, ⟨z0, z1⟩⟩ := HC5.out V hV
        simp [flowNeeds, Region.binds] at hn
        simp only [flowAct, List.zipWith_cons_cons, List.zipWith_nil_left]
        try simp only [hn]
        go_wp2_with (fail)
        exact ⟨rfl, _, rfl, Below.refl _ _, rfl⟩
      · intro xs2 V hV hn
        obtain ⟨⟨p0, p1⟩, ⟨q0, q1⟩, ⟨r0, r1⟩, ⟨y0, y1⟩, ⟨z0, z1⟩⟩ := HC5.out V hV
        simp [flowNeeds, Region.binds] at hn
        simp only [flowAct, List.zipWith_cons_cons, List.zipWith_nil_left]
        try simp only [hn]
        go_wp2_with (fail)
        exact ⟨rfl, _, rfl, Below.refl _ _, rfl⟩
      · intro xs2 V hV hn
        obtain ⟨⟨p0, p1⟩, ⟨q0, q1⟩, ⟨r0, r1⟩, ⟨y0, y1⟩, ⟨z0, z1⟩⟩ := HC5.out V hV
        simp [flowNeeds, Region.binds] at hn
        simp only [flowAct, List.zipWith_cons_cons, List.zipWith_nil_left]
        simp only [hn]
        go_wp2_with (go_at_call 10; (with_reducible refine (HC1.out _).mono ?_); rintro e w9 ⟨rfl, hb9⟩)
        exact ⟨rfl, _, rfl, hb9, rfl⟩
      · intro xs2 V hV hn
        obtain ⟨⟨p0, p1⟩, ⟨q0, q1⟩, ⟨r0, r1⟩, ⟨y0, y1⟩, ⟨z0, z1⟩⟩ := HC5.out V hV
        simp [flowNeeds, Region.binds] at hn
        simp only [flowAct, List.zipWith_cons_cons, List.zipWith_nil_left]
        try simp only [hn]
        go_wp2_with (fail)
        exact ⟨rfl, _, rfl, Below.refl _ _, rfl⟩
      · intro xs2 V hV hn
        obtain ⟨⟨p0, p1⟩, ⟨q0, q1⟩, ⟨r0, r1⟩, ⟨y0, y1⟩, ⟨z0, z1⟩⟩ := HC5.out V hV
        simp [flowNeeds, Region.binds] at hn
        simp only [flowAct, List.zipWith_cons_cons, List.zipWith_nil_left]
        try simp only [hn]
        go_wp2_with (fail)
        exact ⟨rfl, _, rfl, Below.refl _ _, rfl⟩
      · intro xs2 V hV hn
        obtain ⟨⟨p0, p1⟩, ⟨q0, q1⟩, ⟨r0, r1⟩, ⟨y0, y1⟩, ⟨z0, z1⟩⟩ := HC5.out V hV
        simp [flowNeeds, Region.binds] at hn
        simp only [flowAct, List.zipWith_cons_cons, List.zipWith_nil_left]
        try simp only [hn]
        go_wp2_with (fail)
        exact ⟨rfl, _, rfl, Below.refl _ _, rfl⟩
      · intro xs2 V hV hn
        obtain ⟨⟨p0, p1⟩, ⟨q0, q1⟩, ⟨r0, r1⟩, ⟨y0, y1⟩, ⟨z0, z1⟩⟩ := HC5.out V hV
        simp [flowNeeds, Region.binds] at hn
        simp only [flowAct, List.zipWith_cons_cons, List.zipWith_nil_left]
        try simp only [hn]
        go_wp2_with (fail)
        exact ⟨rfl, _, rfl, Below.refl _ _, rfl⟩
      · intro xs2 V hV hn
        obtain ⟨⟨p0, p1⟩, ⟨q0, q1⟩, ⟨r0, r1⟩, ⟨y0, y1⟩, ⟨z0, z1⟩⟩ := HC5.out V hV
        simp [flowNeeds, Region.binds] at hn
        simp only [flowAct, List.zipWith_cons_cons, List.zipWith_nil_left]
        try simp only [hn]
        go_wp2_with (fail)
        exact ⟨rfl, _, rfl, Below.refl _ _, rfl⟩
      · intro xs2 V hV hn
        obtain ⟨⟨p0, p1⟩, ⟨q0, q1⟩, ⟨r0, r1⟩, ⟨y0, y1⟩, ⟨z0, z1⟩⟩ := HC5.out V hV
        simp [flowNeeds, Region.binds] at hn
        simp only [flowAct, List.zipWith_cons_cons, List.zipWith_nil_left]
        simp only [hn]
        go_wp2_with (go_at_call 10; (with_reducible refine (HC2.out _).mono ?_); rintro e w9 ⟨rfl, hb9⟩)
        exact ⟨rfl, _, rfl, hb9, rfl⟩
      · intro xs2 V hV hn
        obtain ⟨⟨p0, p1⟩, ⟨q0, q1⟩, ⟨r0, r1⟩, ⟨y0, y1⟩, ⟨z0, z1⟩⟩ := HC5.out V hV
        simp [flowNeeds, Region.binds] at hn
        simp only [flowAct, List.zipWith_cons_cons, List.zipWith_nil_left]
        try simp only [hn]
        go_wp2_with (fail)
        exact ⟨rfl, _, rfl, Below.refl _ _, rfl⟩
      · intro xs2 V hV hn
        obtain ⟨⟨p0, p1⟩, ⟨q0, q1⟩, ⟨r0, r1⟩, ⟨y0, y1⟩, ⟨z0, z1⟩⟩ := HC5.out V hV
        simp [flowNeeds, Region.binds] at hn
        simp only [flowAct, List.zipWith_cons_cons, List.zipWith_nil_left]
        try simp only [hn]
        go_wp2_with (fail)
        exact ⟨rfl, _, rfl, Below.refl _ _, rfl⟩
      · intro xs2 V hV hn
        obtain ⟨⟨p0, p1⟩, ⟨q0, q1⟩, ⟨r0, r1⟩, ⟨y0, y1⟩, ⟨z0, z1⟩⟩ := HC5.out V hV
        simp [flowNeeds, Region.binds] at hn
        simp only [flowAct, List.zipWith_cons_cons, List.zipWith_nil_left]
        try simp only [hn]
        go_wp2_with (fail)
        exact ⟨rfl, _, rfl, Below.refl _ _, rfl⟩
      · intro xs2 V hV hn
        obtain ⟨⟨p0, p1⟩, ⟨q0, q1⟩, ⟨r0, r1⟩, ⟨y0, y1⟩, ⟨z0, z1⟩⟩ := HC5.out V hV
        simp [flowNeeds, Region.binds] at hn
        simp only [flowAct, List.zipWith_cons_cons, List.zipWith_nil_left]
        try simp only [hn]
        go_wp2_with (fail)
        exact ⟨rfl, _, rfl, Below.refl _ _, rfl⟩
      · intro xs2 V hV hn
        obtain ⟨⟨p0, p1⟩, ⟨q0, q1⟩, ⟨r0, r1⟩, ⟨y0, y1⟩, ⟨z0, z1⟩⟩ := HC5.out V hV
        simp [flowNeeds, Region.binds] at hn
        simp only [flowAct, List.zipWith_cons_cons, List.zipWith_nil_left]
        try simp only [hn]
        go_wp2_with (fail)
        exact ⟨rfl, _, rfl, Below.refl _ _, rfl⟩
      · intro xs2 V hV hn
        obtain ⟨⟨p0, p1⟩, ⟨q0, q1⟩, ⟨r0, r1⟩, ⟨y0, y1⟩, ⟨z0, z1⟩⟩ := HC5.out V hV
        simp [flowNeeds, Region.binds] at hn
        simp only [flowAct, List.zipWith_cons_cons, List.zipWith_nil_left]
        simp only [hn]
        go_wp2_with (go_at_call 10; (with_reducible refine (HC3.out _).mono ?_); rintro e w9 ⟨rfl, hb9⟩)
        exact ⟨rfl, _, rfl, hb9, rfl⟩
      · intro xs2 V hV hn
        obtain ⟨⟨p0, p1⟩, ⟨q0, q1⟩, ⟨r0, r1⟩, ⟨y0, y1⟩, ⟨z0, z1⟩⟩ := HC5.out V hV
        simp [flowNeeds, Region.binds] at hn
        simp only [flowAct, List.zipWith_cons_cons, List.zipWith_nil_left]
        try simp only [hn]
        go_wp2_with (fail)
        exact ⟨rfl, _, rfl, Below.refl _ _, rfl⟩
      · intro xs2 V hV hn
        obtain ⟨⟨p0, p1⟩, ⟨q0, q1⟩, ⟨r0, r1⟩, ⟨y0, y1⟩, ⟨z0, z1⟩⟩ := HC5.out V hV
        simp [flowNeeds, Region.binds] at hn
        simp only [flowAct, List.zipWith_cons_cons, List.zipWith_nil_left]
        try simp only [hn]
        go_wp2_with (fail)
        exact ⟨rfl, _, rfl, Below.refl _ _, rfl⟩
      · intro xs2 V hV hn
        obtain ⟨⟨p0, p1⟩, ⟨q0, q1⟩, ⟨r0, r1⟩, ⟨y0, y1⟩, ⟨z0, z1⟩⟩ := HC5.out V hV
        simp [flowNeeds, Region.binds] at hn
        simp only [flowAct, List.zipWith_cons_cons, List.zipWith_nil_left]
        try simp only [hn]
        go_wp2_with (fail)
        exact ⟨rfl, _, rfl, Below.refl _ _, rfl⟩
      · intro xs2 V hV hn
        obtain ⟨⟨p0, p1⟩, ⟨q0, q1⟩, ⟨r0, r1⟩, ⟨y0, y1⟩, ⟨z0, z1⟩⟩ := HC5.out V hV
        simp [flowNeeds, Region.binds] at hn
        simp only [flowAct, List.zipWith_cons_cons, List.zipWith_nil_left]
        try simp only [hn]
        go_wp2_with (fail)
        exact ⟨rfl, _, rfl, Below.refl _ _, rfl⟩
      · intro xs2 V hV hn
        obtain ⟨⟨p0, p1⟩, ⟨q0, q1⟩, ⟨r0, r1⟩, ⟨y0, y1⟩, ⟨z0, z1⟩⟩ := HC5.out V hV
        simp [flowNeeds, Region.binds] at hn
        simp only [flowAct, List.zipWith_cons_cons, List.zipWith_nil_left]
        try simp only [hn]
        go_wp2_with (fail)
        exact ⟨rfl, _, rfl, Below.refl _ _, rfl⟩
      · intro xs2 V hV hn
        obtain ⟨⟨p0, p1⟩, ⟨q0, q1⟩, ⟨r0, r1⟩, ⟨y0, y1⟩, ⟨z0, z1⟩⟩ := HC5.out V hV
        simp [flowNeeds, Region.binds] at hn
        simp only [flowAct, List.zipWith_cons_cons, List.zipWith_nil_left]
        simp only [hn]
        go_wp2_with (go_at_call 10; (with_reducible refine (HC4.out _).mono ?_); rintro e w9 ⟨rfl, hb9⟩)
        exact ⟨rfl, _, rfl, hb9, rfl⟩
      · intro xs2 V hV hn
        obtain ⟨⟨p0, p1⟩, ⟨q0, q1⟩, ⟨r0, r1⟩, ⟨y0, y1⟩, ⟨z0, z1⟩⟩ := HC5.out V hV
        simp [flowNeeds, Region.binds] at hn
        simp only [flowAct, List.zipWith_cons_cons, List.zipWith_nil_left]
        try simp only [hn]
        go_wp2_with (fail)
        exact ⟨rfl, _, rfl, Below.refl _ _, rfl⟩
      · intro xs2 V hV hn
        obtain ⟨⟨p0, p1⟩, ⟨q0, q1⟩, ⟨r0, r1⟩, ⟨y0, y1⟩, ⟨z0, z1⟩⟩ := HC5.out V hV
        simp [flowNeeds, Region.binds] at hn
        simp only [flowAct, List.zipWith_cons_cons, List.zipWith_nil_left]
        try simp only [hn]
        go_wp2_with (fail)
        exact ⟨rfl, _, rfl, Below.refl _ _, rfl⟩
    · intro xs2 V hV hall
      simp only [flowAll, and_true, Nat.zero_add, Nat.reduceAdd] at hall
      obtain ⟨-, -, -, -, -, -, -, -, -, -, -, -, -, -, -, -, -, -, -, -, -, -, -, -, -, -, -, -, -, -, -, -, -, -, -, -, -, -, -, -, -, -, -, -, -, -, -, -, -, -, -, e51⟩ := hall
      simp only [flowAct, List.zipWith_cons_cons, List.zipWith_nil_left, e51]
      clear e51
      have T1 := HCV.out c0 c1 a0 a1
      have T2 := HCV.out c0 c1 b0 b1
      have T3 := HCV.out c0 c1 j0 j1
      have T4 := HCV.out a0 a1 c0 c1
      have T5 := HCV.out b0 b1 c0 c1
      have T6 := HCV.out m0 m1 c0 c1
      have HB6 := Lib.hid HB5.out
      clear HB5
      cases e1 : vcov c0 c1 a0 a1 with
      | false =>
        rw [e1] at T1
        clear e1
        cases e4 : vcov a0 a1 c0 c1 with
        | false =>
          rw [e4] at T4
          clear e4
          have HT1 := Lib.hid T1
          have HT4 := Lib.hid T4
          clear T1 T2 T3 T4 T5 T6 Hw1 Hw2 HCV
          have hcur := hV
          obtain ⟨⟨p0, p1⟩, ⟨q0, q1⟩, ⟨r0, r1⟩, ⟨y0, y1⟩, ⟨z0, z1⟩⟩ := HC5.out V hV
          clear hV
          go_upto_region 8 with (first
            | (go_at_call 10; (with_reducible refine (HT1.out _).mono ?_); rintro e w9 ⟨rfl, hb9⟩; (replace hcur := hcur.trans (hb9.mono hcur.size)); clear hb9; obtain ⟨⟨p0, p1⟩, ⟨q0, q1⟩, ⟨r0, r1⟩, ⟨y0, y1⟩, ⟨z0, z1⟩⟩ := HC5.out _ hcur)
            | (go_at_call 10; (with_reducible refine (HT4.out _).mono ?_); rintro e w9 ⟨rfl, hb9⟩; (replace hcur := hcur.trans (hb9.mono hcur.size)); clear hb9; obtain ⟨⟨p0, p1⟩, ⟨q0, q1⟩, ⟨r0, r1⟩, ⟨y0, y1⟩, ⟨z0, z1⟩⟩ := HC5.out _ hcur))
          have HC8 := Lib.hid (fun (V2 : World) (h) => HC5.out V2 (hcur.trans (Below.mono h hcur.size)))
          have HB8 := Lib.hid (HB6.out.trans (hcur.mono HB6.out.size))
          clear hcur p0 p1 q0 q1 r0 r1 y0 y1 z0 z1 HC5 HB6
          refine wp_region_flow [none, none, none, none, none, none, some 16, none, none, none, none, none, none, none, none, none, none, none, none, none, none, none, none, none, none, none, none, none, none, none, none, none, none, none, none, none, none, none, none, none, none, none, none, none, none, none, none, none, none, none, none, none, none, none, none, none, none, none, none, none, none, none, none, none, none, none, none, none, none, none, none, none, none, none, none, none, none, none, none, none, none, none, none, none, none, none, none, none, none, none, none, none, none, none, none, none, none, none, none, none, none, none, none, none, none, none, none, none, none, none, none, none, some 0, some 1, some 2, some 3, some 4, some 5, some 6, some 7, some 8, some 9, some 10, some 11, some 12, some 13, some 14, some 15] (fun i => if i = 16 then .bool false else undef) [(fun v _ => v = .agg #[.int .i64 a0, .int .i64 a1]), (fun v _ => v = .agg #[.int .i64 m0, .int .i64 m1]), (fun v W => ∃ g, v = .slice (some ⟨g, 0, none⟩) 2 2 ∧ Prs W (some ⟨g, 0, none⟩) 2 2 [(a0, a1), (m0, m1)]), (fun v _ => v = .agg #[.int .i64 a0, .int .i64 a1]), (fun v _ => v = .agg #[.int .i64 a0, .int .i64 a1]), (fun v _ => v = .bool true), (fun v _ => v = .bool true), (fun v _ => v = .agg #[.int .i64 a0, .int .i64 a1]), (fun v _ => v = .agg #[.int .i64 j0, .int .i64 j1]), (fun v _ => v = .agg #[.int .i64 a0, .int .i64 a1]), (fun v _ => v = .agg #[.int .i64 a0, .int .i64 a1]), (fun v _ => v = .bool true), (fun v _ => v = .bool true), (fun v _ => v = .bool true), (fun v _ => v = .bool true), (fun v _ => v = .bool true), (fun v _ => v = .bool true)] (by kernel_rfl) (by kernel_rfl) rfl rfl rfl ?_ ?_ ?_
          · intro g hg v X Y hX hY hv
            simp only [List.mem_cons, List.not_mem_nil, or_false] at hg
            rcases hg with rfl | rfl | rfl | rfl | rfl | rfl | rfl | rfl | rfl | rfl | rfl | rfl | rfl | rfl | rfl | rfl | rfl
            all_goals first
              | exact hv
              | (obtain ⟨b, h1, h2⟩ := hv; exact ⟨b, h1, h2.below hY⟩)
          · simp only [flowOps, and_true]
            refine ⟨?_, ?_, ?_, ?_, ?_, ?_, ?_, ?_, ?_, ?_, ?_, ?_, ?_, ?_, ?_, ?_, ?_⟩
            · intro xs2 V hV hn
              obtain ⟨⟨p0, p1⟩, ⟨q0, q1⟩, ⟨r0, r1⟩, ⟨y0, y1⟩, ⟨z0, z1⟩⟩ := HC8.out V hV
              simp only [flowAct, List.zipWith_cons_cons, List.zipWith_nil_left]
              try simp only [hn]
              go_wp2_with (fail)
              exact ⟨rfl, _, rfl, Below.refl _ _, rfl⟩
            · intro xs2 V hV hn
              obtain ⟨⟨p0, p1⟩, ⟨q0, q1⟩, ⟨r0, r1⟩, ⟨y0, y1⟩, ⟨z0, z1⟩⟩ := HC8.out V hV
              simp only [flowAct, List.zipWith_cons_cons, List.zipWith_nil_left]
              try simp only [hn]
              go_wp2_with (fail)
              exact ⟨rfl, _, rfl, Below.refl _ _, rfl⟩
            · intro xs2 V hV hn
              obtain ⟨⟨p0, p1⟩, ⟨q0, q1⟩, ⟨r0, r1⟩, ⟨y0, y1⟩, ⟨z0, z1⟩⟩ := HC8.out V hV
              simp [flowNeeds, Region.binds] at hn
              simp only [flowAct, List.zipWith_cons_cons, List.zipWith_nil_left]
              simp only [hn]
              go_wp2_with (fail)
              exact ⟨rfl, _, rfl, alloc_below _ _, ⟨_, rfl, prs2 _ _ _ _ _⟩⟩
            · intro xs2 V hV hn
              obtain ⟨⟨p0, p1⟩, ⟨q0, q1⟩, ⟨r0, r1⟩, ⟨y0, y1⟩, ⟨z0, z1⟩⟩ := HC8.out V hV
              simp [flowNeeds, Region.binds] at hn
              simp only [flowAct, List.zipWith_cons_cons, List.zipWith_nil_left]
              obtain ⟨g, e1, hy⟩ := hn
              simp only [e1]
              go_wp2_with (go_at_call 17; (with_reducible refine (HJ7.out _ _ hy).mono ?_); rintro e w9 ⟨rfl, hb9⟩)
              exact ⟨rfl, _, rfl, hb9, rfl⟩
            · intro xs2 V hV hn
              obtain ⟨⟨p0, p1⟩, ⟨q0, q1⟩, ⟨r0, r1⟩, ⟨y0, y1⟩, ⟨z0, z1⟩⟩ := HC8.out V hV
              simp [flowNeeds] at hn
              simp only [flowAct, List.zipWith_cons_cons, List.zipWith_nil_left]
              try simp only [hn]
              go_wp2_with (fail)
              exact ⟨rfl, _, rfl, Below.refl _ _, rfl⟩
            · intro xs2 V hV hn
              obtain ⟨⟨p0, p1⟩, ⟨q0, q1⟩, ⟨r0, r1⟩, ⟨y0, y1⟩, ⟨z0, z1⟩⟩ := HC8.out V hV
              simp [flowNeeds, Region.binds] at hn
              simp only [flowAct, List.zipWith_cons_cons, List.zipWith_nil_left]
              try simp only [hn]
              go_wp2_with (fail)
              exact ⟨rfl, _, rfl, Below.refl _ _, rfl⟩
            · intro xs2 V hV hn
              obtain ⟨⟨p0, p1⟩, ⟨q0, q1⟩, ⟨r0, r1⟩, ⟨y0, y1⟩, ⟨z0, z1⟩⟩ := HC8.out V hV
              simp [flowNeeds, Region.binds] at hn
              simp only [flowAct, List.zipWith_cons_cons, List.zipWith_nil_left]
              try simp only [hn]
              go_wp2_with (fail)
              exact ⟨rfl, _, rfl, Below.refl _ _, rfl⟩
            · intro xs2 V hV hn
              obtain ⟨⟨p0, p1⟩, ⟨q0, q1⟩, ⟨r0, r1⟩, ⟨y0, y1⟩, ⟨z0, z1⟩⟩ := HC8.out V hV
              simp [flowNeeds, Region.binds] at hn
              simp only [flowAct, List.zipWith_cons_cons, List.zipWith_nil_left]
              try simp only [hn]
              go_wp2_with (fail)
              exact ⟨rfl, _, rfl, Below.refl _ _, rfl⟩
            · intro xs2 V hV hn
              obtain ⟨⟨p0, p1⟩, ⟨q0, q1⟩, ⟨r0, r1⟩, ⟨y0, y1⟩, ⟨z0, z1⟩⟩ := HC8.out V hV
              simp [flowNeeds, Region.binds] at hn
              simp only [flowAct, List.zipWith_cons_cons, List.zipWith_nil_left]
              try simp only [hn]
              go_wp2_with (fail)
              exact ⟨rfl, _, rfl, Below.refl _ _, rfl⟩
            · intro xs2 V hV hn
              obtain ⟨⟨p0, p1⟩, ⟨q0, q1⟩, ⟨r0, r1⟩, ⟨y0, y1⟩, ⟨z0, z1⟩⟩ := HC8.out V hV
              simp [flowNeeds, Region.binds] at hn
              simp only [flowAct, List.zipWith_cons_cons, List.zipWith_nil_left]
              simp only [hn]
              go_wp2_with (go_at_call 14; (with_reducible refine (HM2.out _).mono ?_); rintro e w9 ⟨rfl, hb9⟩)
              exact ⟨rfl, _, rfl, hb9, rfl⟩
            · intro xs2 V hV hn
              obtain ⟨⟨p0, p1⟩, ⟨q0, q1⟩, ⟨r0, r1⟩, ⟨y0, y1⟩, ⟨z0, z1⟩⟩ := HC8.out V hV
              simp [flowNeeds, Region.binds] at hn
              simp only [flowAct, List.zipWith_cons_cons, List.zipWith_nil_left]
              try simp only [hn]
              go_wp2_with (fail)
              exact ⟨rfl, _, rfl, Below.refl _ _, rfl⟩
            · intro xs2 V hV hn
              obtain ⟨⟨p0, p1⟩, ⟨q0, q1⟩, ⟨r0, r1⟩, ⟨y0, y1⟩, ⟨z0, z1⟩⟩ := HC8.out V hV
              simp [flowNeeds, Region.binds] at hn
              simp only [flowAct, List.zipWith_cons_cons, List.zipWith_nil_left]
              try simp only [hn]
              go_wp2_with (fail)
              exact ⟨rfl, _, rfl, Below.refl _ _, rfl⟩
            · intro xs2 V hV hn
              obtain ⟨⟨p0, p1⟩, ⟨q0, q1⟩, ⟨r0, r1⟩, ⟨y0, y1⟩, ⟨z0, z1⟩⟩ := HC8.out V hV
              simp [flowNeeds, Region.binds] at hn
              simp only [flowAct, List.zipWith_cons_cons, List.zipWith_nil_left]
              try simp only [hn]
              go_wp2_with (fail)
              exact ⟨rfl, _, rfl, Below.refl _ _, rfl⟩
            · intro xs2 V hV hn
              obtain ⟨⟨p0, p1⟩, ⟨q0, q1⟩, ⟨r0, r1⟩, ⟨y0, y1⟩, ⟨z0, z1⟩⟩ := HC8.out V hV
              simp [flowNeeds, Region.binds] at hn
              simp only [flowAct, List.zipWith_cons_cons, List.zipWith_nil_left]
              try simp only [hn]
              go_wp2_with (fail)
              exact ⟨rfl, _, rfl, Below.refl _ _, rfl⟩
            · intro xs2 V hV hn
              obtain ⟨⟨p0, p1⟩, ⟨q0, q1⟩, ⟨r0, r1⟩, ⟨y0, y1⟩, ⟨z0, z1⟩⟩ := HC8.out V hV
              simp [flowNeeds, Region.binds] at hn
              simp only [flowAct, List.zipWith_cons_cons, List.zipWith_nil_left]
              simp only [hn]
              go_wp2_with (go_at_call 16; (with_reducible refine (HLv.out _).mono ?_); rintro e w9 ⟨rfl, hb9⟩)
              exact ⟨rfl, _, rfl, hb9, rfl⟩
            · intro xs2 V hV hn
              obtain ⟨⟨p0, p1⟩, ⟨q0, q1⟩, ⟨r0, r1⟩, ⟨y0, y1⟩, ⟨z0, z1⟩⟩ := HC8.out V hV
              simp [flowNeeds, Region.binds] at hn
              simp only [flowAct, List.zipWith_cons_cons, List.zipWith_nil_left]
              try simp only [hn]
              go_wp2_with (fail)
              exact ⟨rfl, _, rfl, Below.refl _ _, rfl⟩
            · intro xs2 V hV hn
              obtain ⟨⟨p0, p1⟩, ⟨q0, q1⟩, ⟨r0, r1⟩, ⟨y0, y1⟩, ⟨z0, z1⟩⟩ := HC8.out V hV
              simp [flowNeeds, Region.binds] at hn
              simp only [flowAct, List.zipWith_cons_cons, List.zipWith_nil_left]
              try simp only [hn]
              go_wp2_with (fail)
              exact ⟨rfl, _, rfl, Below.refl _ _, rfl⟩
          · intro xs3 V3 hV3 hall
            simp only [flowAll, and_true, Nat.zero_add, Nat.reduceAdd] at hall
            obtain ⟨-, -, -, -, -, -, -, -, -, -, -, -, -, -, -, -, e16⟩ := hall
            simp only [flowAct, List.zipWith_cons_cons, List.zipWith_nil_left, e16]
            go_wp2
            go_ret
            exact ⟨rfl, HB8.out.trans (hV3.mono HB8.out.size)⟩
        | true =>
          rw [e4] at T4
          cases e5 : vcov b0 b1 c0 c1 with
          | false =>
            rw [e5] at T5
            clear e4 e5
            have HT1 := Lib.hid T1
            have HT4 := Lib.hid T4
            have HT5 := Lib.hid T5
            clear T1 T2 T3 T4 T5 T6 Hw1 Hw2 HCV
            have hcur := hV
            obtain ⟨⟨p0, p1⟩, ⟨q0, q1⟩, ⟨r0, r1⟩, ⟨y0, y1⟩, ⟨z0, z1⟩⟩ := HC5.out V hV
            clear hV
            go_upto_region 8 with (first
              | (go_at_call 10; (with_reducible refine (HT1.out _).mono ?_); rintro e w9 ⟨rfl, hb9⟩; (replace hcur := hcur.trans (hb9.mono hcur.size)); clear hb9; obtain ⟨⟨p0, p1⟩, ⟨q0, q1⟩, ⟨r0, r1⟩, ⟨y0, y1⟩, ⟨z0, z1⟩⟩ := HC5.out _ hcur)
              | (go_at_call 10; (with_reducible refine (HT4.out _).mono ?_); rintro e w9 ⟨rfl, hb9⟩; (replace hcur := hcur.trans (hb9.mono hcur.size)); clear hb9; obtain ⟨⟨p0, p1⟩, ⟨q0, q1⟩, ⟨r0, r1⟩, ⟨y0, y1⟩, ⟨z0, z1⟩⟩ := HC5.out _ hcur)
              | (go_at_call 10; (with_reducible refine (HT5.out _).mono ?_); rintro e w9 ⟨rfl, hb9⟩; (replace hcur := hcur.trans (hb9.mono hcur.size)); clear hb9; obtain ⟨⟨p0, p1⟩, ⟨q0, q1⟩, ⟨r0, r1⟩, ⟨y0, y1⟩, ⟨z0, z1⟩⟩ := HC5.out _ hcur))
            have HC8 := Lib.hid (fun (V2 : World) (h) => HC5.out V2 (hcur.trans (Below.mono h hcur.size)))
            have HB8 := Lib.hid (HB6.out.trans (hcur.mono HB6.out.size))
            clear hcur p0 p1 q0 q1 r0 r1 y0 y1 z0 z1 HC5 HB6
            refine wp_region_flow [none, none, none, none, none, none, some 16, none, none, none, none, none, none, none, none, none, none, none, none, none, none, none, none, none, none, none, none, none, none, none, none, none, none, none, none, none, none, none, none, none, none, none, none, none, none, none, none, none, none, none, none, none, none, none, none, none, none, none, none, none, none, none, none, none, none, none, none, none, none, none, none, none, none, none, none, none, none, none, none, none, none, none, none, none, none, none, none, none, none, none, none, none, none, none, none, none, none, none, none, none, none, none, none, none, none, none, none, none, none, none, none, none, some 0, some 1, some 2, some 3, some 4, some 5, some 6, some 7, some 8, some 9, some 10, some 11, some 12, some 13, some 14, some 15] (fun i => if i = 16 then .bool false else undef) [(fun v _ => v = .agg #[.int .i64 a0, .int .i64 a1]), (fun v _ => v = .agg #[.int .i64 m0, .int .i64 m1]), (fun v W => ∃ g, v = .slice (some ⟨g, 0, none⟩) 2 2 ∧ Prs W (some ⟨g, 0, none⟩) 2 2 [(a0, a1), (m0, m1)]), (fun v _ => v = .agg #[.int .i64 a0, .int .i64 a1]), (fun v _ => v = .agg #[.int .i64 a0, .int .i64 a1]), (fun v _ => v = .bool true), (fun v _ => v = .bool true), (fun v _ => v = .agg #[.int .i64 a0, .int .i64 a1]), (fun v _ => v = .agg #[.int .i64 j0, .int .i64 j1]), (fun v _ => v = .agg #[.int .i64 a0, .int .i64 a1]), (fun v _ => v = .agg #[.int .i64 a0, .int .i64 a1]), (fun v _ => v = .bool true), (fun v _ => v = .bool true), (fun v _ => v = .bool true), (fun v _ => v = .bool true), (fun v _ => v = .bool true), (fun v _ => v = .bool true)] (by kernel_rfl) (by kernel_rfl) rfl rfl rfl ?_ ?_ ?_
            · intro g hg v X Y hX hY hv
              simp only [List.mem_cons, List.not_mem_nil, or_false] at hg
              rcases hg with rfl | rfl | rfl | rfl | rfl | rfl | rfl | rfl | rfl | rfl | rfl | rfl | rfl | rfl | rfl | rfl | rfl
              all_goals first
                | exact hv
                | (obtain ⟨b, h1, h2⟩ := hv; exact ⟨b, h1, h2.below hY⟩)
            · simp only [flowOps, and_true]
              refine ⟨?_, ?_, ?_, ?_, ?_, ?_, ?_, ?_, ?_, ?_, ?_, ?_, ?_, ?_, ?_, ?_, ?_⟩
              · intro xs2 V hV hn
                obtain ⟨⟨p0, p1⟩, ⟨q0, q1⟩, ⟨r0, r1⟩, ⟨y0, y1⟩, ⟨z0, z1⟩⟩ := HC8.out V hV
                simp only [flowAct, List.zipWith_cons_cons, List.zipWith_nil_left]
                try simp only [hn]
                go_wp2_with (fail)
                exact ⟨rfl, _, rfl, Below.refl _ _, rfl⟩
              · intro xs2 V hV hn
                obtain ⟨⟨p0, p1⟩, ⟨q0, q1⟩, ⟨r0, r1⟩, ⟨y0, y1⟩, ⟨z0, z1⟩⟩ := HC8.out V hV
                simp only [flowAct, List.zipWith_cons_cons, List.zipWith_nil_left]
                try simp only [hn]
                go_wp2_with (fail)
                exact ⟨rfl, _, rfl, Below.refl _ _, rfl⟩
              · intro xs2 V hV hn
                obtain ⟨⟨p0, p1⟩, ⟨q0, q1⟩, ⟨r0, r1⟩, ⟨y0, y1⟩, ⟨z0, z1⟩⟩ := HC8.out V hV
                simp [flowNeeds, Region.binds] at hn
                simp only [flowAct, List.zipWith_cons_cons, List.zipWith_nil_left]
                simp only [hn]
                go_wp2_with (fail)
                exact ⟨rfl, _, rfl, alloc_below _ _, ⟨_, rfl, prs2 _ _ _ _ _⟩⟩
              · intro xs2 V hV hn
                obtain ⟨⟨p0, p1⟩, ⟨q0, q1⟩, ⟨r0, r1⟩, ⟨y0, y1⟩, ⟨z0, z1⟩⟩ := HC8.out V hV
                simp [flowNeeds, Region.binds] at hn
                simp only [flowAct, List.zipWith_cons_cons, List.zipWith_nil_left]
                obtain ⟨g, e1, hy⟩ := hn
                simp only [e1]
                go_wp2_with (go_at_call 17; (with_reducible refine (HJ7.out _ _ hy).mono ?_); rintro e w9 ⟨rfl, hb9⟩)
                exact ⟨rfl, _, rfl, hb9, rfl⟩
              · intro xs2 V hV hn
                obtain ⟨⟨p0, p1⟩, ⟨q0, q1⟩, ⟨r0, r1⟩, ⟨y0, y1⟩, ⟨z0, z1⟩⟩ := HC8.out V hV
                simp [flowNeeds] at hn
                simp only [flowAct, List.zipWith_cons_cons, List.zipWith_nil_left]
                try simp only [hn]
                go_wp2_with (fail)
                exact ⟨rfl, _, rfl, Below.refl _ _, rfl⟩
              · intro xs2 V hV hn
                obtain ⟨⟨p0, p1⟩, ⟨q0, q1⟩, ⟨r0, r1⟩, ⟨y0, y1⟩, ⟨z0, z1⟩⟩ := HC8.out V hV
                simp [flowNeeds, Region.binds] at hn
                simp only [flowAct, List.zipWith_cons_cons, List.zipWith_nil_left]
                try simp only [hn]
                go_wp2_with (fail)
                exact ⟨rfl, _, rfl, Below.refl _ _, rfl⟩
              · intro xs2 V hV hn
                obtain ⟨⟨p0, p1⟩, ⟨q0, q1⟩, ⟨r0, r1⟩, ⟨y0, y1⟩, ⟨z0, z1⟩⟩ := HC8.out V hV
                simp [flowNeeds, Region.binds] at hn
                simp only [flowAct, List.zipWith_cons_cons, List.zipWith_nil_left]
                try simp only [hn]
                go_wp2_with (fail)
                exact ⟨rfl, _, rfl, Below.refl _ _, rfl⟩
              · intro xs2 V hV hn
                obtain ⟨⟨p0, p1⟩, ⟨q0, q1⟩, ⟨r0, r1⟩, ⟨y0, y1⟩, ⟨z0, z1⟩⟩ := HC8.out V hV
                simp [flowNeeds, Region.binds] at hn
                simp only [flowAct, List.zipWith_cons_cons, List.zipWith_nil_left]
                try simp only [hn]
                go_wp2_with (fail)
                exact ⟨rfl, _, rfl, Below.refl _ _, rfl⟩
              · intro xs2 V hV hn
                obtain ⟨⟨p0, p1⟩, ⟨q0, q1⟩, ⟨r0, r1⟩, ⟨y0, y1⟩, ⟨z0, z1⟩⟩ := HC8.out V hV
                simp [flowNeeds, Region.binds] at hn
                simp only [flowAct, List.zipWith_cons_cons, List.zipWith_nil_left]
                try simp only [hn]
                go_wp2_with (fail)
                exact ⟨rfl, _, rfl, Below.refl _ _, rfl⟩
              · intro xs2 V hV hn
                obtain ⟨⟨p0, p1⟩, ⟨q0, q1⟩, ⟨r0, r1⟩, ⟨y0, y1⟩, ⟨z0, z1⟩⟩ := HC8.out V hV
                simp [flowNeeds, Region.binds] at hn
                simp only [flowAct, List.zipWith_cons_cons, List.zipWith_nil_left]
                simp only [hn]
                go_wp2_with (go_at_call 14; (with_reducible refine (HM2.out _).mono ?_); rintro e w9 ⟨rfl, hb9⟩)
                exact ⟨rfl, _, rfl, hb9, rfl⟩
              · intro xs2 V hV hn
                obtain ⟨⟨p0, p1⟩, ⟨q0, q1⟩, ⟨r0, r1⟩, ⟨y0, y1⟩, ⟨z0, z1⟩⟩ := HC8.out V hV
                simp [flowNeeds, Region.binds] at hn
                simp only [flowAct, List.zipWith_cons_cons, List.zipWith_nil_left]
                try simp only [hn]
                go_wp2_with (fail)
                exact ⟨rfl, _, rfl, Below.refl _ _, rfl⟩
              · intro xs2 V hV hn
                obtain ⟨⟨p0, p1⟩, ⟨q0, q1⟩, ⟨r0, r1⟩, ⟨y0, y1⟩, ⟨z0, z1⟩⟩ := HC8.out V hV
                simp [flowNeeds, Region.binds] at hn
                simp only [flowAct, List.zipWith_cons_cons, List.zipWith_nil_left]
                try simp only [hn]
                go_wp2_with (fail)
                exact ⟨rfl, _, rfl, Below.refl _ _, rfl⟩
              · intro xs2 V hV hn
                obtain ⟨⟨p0, p1⟩, ⟨q0, q1⟩, ⟨r0, r1⟩, ⟨y0, y1⟩, ⟨z0, z1⟩⟩ := HC8.out V hV
                simp [flowNeeds, Region.binds] at hn
                simp only [flowAct, List.zipWith_cons_cons, List.zipWith_nil_left]
                try simp only [hn]
                go_wp2_with (fail)
                exact ⟨rfl, _, rfl, Below.refl _ _, rfl⟩
              · intro xs2 V hV hn
                obtain ⟨⟨p0, p1⟩, ⟨q0, q1⟩, ⟨r0, r1⟩, ⟨y0, y1⟩, ⟨z0, z1⟩⟩ := HC8.out V hV
                simp [flowNeeds, Region.binds] at hn
                simp only [flowAct, List.zipWith_cons_cons, List.zipWith_nil_left]
                try simp only [hn]
                go_wp2_with (fail)
                exact ⟨rfl, _, rfl, Below.refl _ _, rfl⟩
              · intro xs2 V hV hn
                obtain ⟨⟨p0, p1⟩, ⟨q0, q1⟩, ⟨r0, r1⟩, ⟨y0, y1⟩, ⟨z0, z1⟩⟩ := HC8.out V hV
                simp [flowNeeds, Region.binds] at hn
                simp only [flowAct, List.zipWith_cons_cons, List.zipWith_nil_left]
                simp only [hn]
                go_wp2_with (go_at_call 16; (with_reducible refine (HLv.out _).mono ?_); rintro e w9 ⟨rfl, hb9⟩)
                exact ⟨rfl, _, rfl, hb9, rfl⟩
              · intro xs2 V hV hn
                obtain ⟨⟨p0, p1⟩, ⟨q0, q1⟩, ⟨r0, r1⟩, ⟨y0, y1⟩, ⟨z0, z1⟩⟩ := HC8.out V hV
                simp [flowNeeds, Region.binds] at hn
                simp only [flowAct, List.zipWith_cons_cons, List.zipWith_nil_left]
                try simp only [hn]
                go_wp2_with (fail)
                exact ⟨rfl, _, rfl, Below.refl _ _, rfl⟩
              · intro xs2 V hV hn
                obtain ⟨⟨p0, p1⟩, ⟨q0, q1⟩, ⟨r0, r1⟩, ⟨y0, y1⟩, ⟨z0, z1⟩⟩ := HC8.out V hV
                simp [flowNeeds, Region.binds] at hn
                simp only [flowAct, List.zipWith_cons_cons, List.zipWith_nil_left]
                try simp only [hn]
                go_wp2_with (fail)
                exact ⟨rfl, _, rfl, Below.refl _ _, rfl⟩
            · intro xs3 V3 hV3 hall
              simp only [flowAll, and_true, Nat.zero_add, Nat.reduceAdd] at hall
              obtain ⟨-, -, -, -, -, -, -, -, -, -, -, -, -, -, -, -, e16⟩ := hall
              simp only [flowAct, List.zipWith_cons_cons, List.zipWith_nil_left, e16]
              go_wp2
              go_ret
              exact ⟨rfl, HB8.out.trans (hV3.mono HB8.out.size)⟩
          | true =>
            rw [e5] at T5
            rw [Hw2.out e4 e5] at T6
            clear e4 e5
            have HT1 := Lib.hid T1
            have HT4 := Lib.hid T4
            have HT5 := Lib.hid T5
            have HT6 := Lib.hid T6
            clear T1 T2 T3 T4 T5 T6 Hw1 Hw2 HCV
            have hcur := hV
            obtain ⟨⟨p0, p1⟩, ⟨q0, q1⟩, ⟨r0, r1⟩, ⟨y0, y1⟩, ⟨z0, z1⟩⟩ := HC5.out V hV
            clear hV
            go_upto_region 8 with (first
              | (go_at_call 10; (with_reducible refine (HT1.out _).mono ?_); rintro e w9 ⟨rfl, hb9⟩; (replace hcur := hcur.trans (hb9.mono hcur.size)); clear hb9; obtain ⟨⟨p0, p1⟩, ⟨q0, q1⟩, ⟨r0, r1⟩, ⟨y0, y1⟩, ⟨z0, z1⟩⟩ := HC5.out _ hcur)
              | (go_at_call 10; (with_reducible refine (HT4.out _).mono ?_); rintro e w9 ⟨rfl, hb9⟩; (replace hcur := hcur.trans (hb9.mono hcur.size)); clear hb9; obtain ⟨⟨p0, p1⟩, ⟨q0, q1⟩, ⟨r0, r1⟩, ⟨y0, y1⟩, ⟨z0, z1⟩⟩ := HC5.out _ hcur)
              | (go_at_call 10; (with_reducible refine (HT5.out _).mono ?_); rintro e w9 ⟨rfl, hb9⟩; (replace hcur := hcur.trans (hb9.mono hcur.size)); clear hb9; obtain ⟨⟨p0, p1⟩, ⟨q0, q1⟩, ⟨r0, r1⟩, ⟨y0, y1⟩, ⟨z0, z1⟩⟩ := HC5.out _ hcur)
              | (go_at_call 10; (with_reducible refine (HT6.out _).mono ?_); rintro e w9 ⟨rfl, hb9⟩; (replace hcur := hcur.trans (hb9.mono hcur.size)); clear hb9; obtain ⟨⟨p0, p1⟩, ⟨q0, q1⟩, ⟨r0, r1⟩, ⟨y0, y1⟩, ⟨z0, z1⟩⟩ := HC5.out _ hcur))
            have HC8 := Lib.hid (fun (V2 : World) (h) => HC5.out V2 (hcur.trans (Below.mono h hcur.size)))
            have HB8 := Lib.hid (HB6.out.trans (hcur.mono HB6.out.size))
            clear hcur p0 p1 q0 q1 r0 r1 y0 y1 z0 z1 HC5 HB6
            refine wp_region_flow [none, none, none, none, none, none, some 16, none, none, none, none, none, none, none, none, none, none, none, none, none, none, none, none, none, none, none, none, none, none, none, none, none, none, none, none, none, none, none, none, none, none, none, none, none, none, none, none, none, none, none, none, none, none, none, none, none, none, none, none, none, none, none, none, none, none, none, none, none, none, none, none, none, none, none, none, none, none, none, none, none, none, none, none, none, none, none, none, none, none, none, none, none, none, none, none, none, none, none, none, none, none, none, none, none, none, none, none, none, none, none, none, none, some 0, some 1, some 2, some 3, some 4, some 5, some 6, some 7, some 8, some 9, some 10, some 11, some 12, some 13, some 14, some 15] (fun i => if i = 16 then .bool false else undef) [(fun v _ => v = .agg #[.int .i64 a0, .int .i64 a1]), (fun v _ => v = .agg #[.int .i64 m0, .int .i64 m1]), (fun v W => ∃ g, v = .slice (some ⟨g, 0, none⟩) 2 2 ∧ Prs W (some ⟨g, 0, none⟩) 2 2 [(a0, a1), (m0, m1)]), (fun v _ => v = .agg #[.int .i64 a0, .int .i64 a1]), (fun v _ => v = .agg #[.int .i64 a0, .int .i64 a1]), (fun v _ => v = .bool true), (fun v _ => v = .bool true), (fun v _ => v = .agg #[.int .i64 a0, .int .i64 a1]), (fun v _ => v = .agg #[.int .i64 j0, .int .i64 j1]), (fun v _ => v = .agg #[.int .i64 a0, .int .i64 a1]), (fun v _ => v = .agg #[.int .i64 a0, .int .i64 a1]), (fun v _ => v = .bool true), (fun v _ => v = .bool true), (fun v _ => v = .bool true), (fun v _ => v = .bool true), (fun v _ => v = .bool true), (fun v _ => v = .bool true)] (by kernel_rfl) (by kernel_rfl) rfl rfl rfl ?_ ?_ ?_
            · intro g hg v X Y hX hY hv
              simp only [List.mem_cons, List.not_mem_nil, or_false] at hg
              rcases hg with rfl | rfl | rfl | rfl | rfl | rfl | rfl | rfl | rfl | rfl | rfl | rfl | rfl | rfl | rfl | rfl | rfl
              all_goals first
                | exact hv
                | (obtain ⟨b, h1, h2⟩ := hv; exact ⟨b, h1, h2.below hY⟩)
            · simp only [flowOps, and_true]
              refine ⟨?_, ?_, ?_, ?_, ?_, ?_, ?_, ?_, ?_, ?_, ?_, ?_, ?_, ?_, ?_, ?_, ?_⟩
              · intro xs2 V hV hn
                obtain ⟨⟨p0, p1⟩, ⟨q0, q1⟩, ⟨r0, r1⟩, ⟨y0, y1⟩, ⟨z0, z1⟩⟩ := HC8.out V hV
                simp only [flowAct, List.zipWith_cons_cons, List.zipWith_nil_left]
                try simp only [hn]
                go_wp2_with (fail)
                exact ⟨rfl, _, rfl, Below.refl _ _, rfl⟩
              · intro xs2 V hV hn
                obtain ⟨⟨p0, p1⟩, ⟨q0, q1⟩, ⟨r0, r1⟩, ⟨y0, y1⟩, ⟨z0, z1⟩⟩ := HC8.out V hV
                simp only [flowAct, List.zipWith_cons_cons, List.zipWith_nil_left]
                try simp only [hn]
                go_wp2_with (fail)
                exact ⟨rfl, _, rfl, Below.refl _ _, rfl⟩
              · intro xs2 V hV hn
                obtain ⟨⟨p0, p1⟩, ⟨q0, q1⟩, ⟨r0, r1⟩, ⟨y0, y1⟩, ⟨z0, z1⟩⟩ := HC8.out V hV
                simp [flowNeeds, Region.binds] at hn
                simp only [flowAct, List.zipWith_cons_cons, List.zipWith_nil_left]
                simp only [hn]
                go_wp2_with (fail)
                exact ⟨rfl, _, rfl, alloc_below _ _, ⟨_, rfl, prs2 _ _ _ _ _⟩⟩
              · intro xs2 V hV hn
                obtain ⟨⟨p0, p1⟩, ⟨q0, q1⟩, ⟨r0, r1⟩, ⟨y0, y1⟩, ⟨z0, z1⟩⟩ := HC8.out V hV
                simp [flowNeeds, Region.binds] at hn
                simp only [flowAct, List.zipWith_cons_cons, List.zipWith_nil_left]
                obtain ⟨g, e1, hy⟩ := hn
                simp only [e1]
                go_wp2_with (go_at_call 17; (with_reducible refine (HJ7.out _ _ hy).mono ?_); rintro e w9 ⟨rfl, hb9⟩)
                exact ⟨rfl, _, rfl, hb9, rfl⟩
              · intro xs2 V hV hn
                obtain ⟨⟨p0, p1⟩, ⟨q0, q1⟩, ⟨r0, r1⟩, ⟨y0, y1⟩, ⟨z0, z1⟩⟩ := HC8.out V hV
                simp [flowNeeds] at hn
                simp only [flowAct, List.zipWith_cons_cons, List.zipWith_nil_left]
                try simp only [hn]
                go_wp2_with (fail)
                exact ⟨rfl, _, rfl, Below.refl _ _, rfl⟩
              · intro xs2 V hV hn
                obtain ⟨⟨p0, p1⟩, ⟨q0, q1⟩, ⟨r0, r1⟩, ⟨y0, y1⟩, ⟨z0, z1⟩⟩ := HC8.out V hV
                simp [flowNeeds, Region.binds] at hn
                simp only [flowAct, List.zipWith_cons_cons, List.zipWith_nil_left]
                try simp only [hn]
                go_wp2_with (fail)
                exact ⟨rfl, _, rfl, Below.refl _ _, rfl⟩
              · intro xs2 V hV hn
                obtain ⟨⟨p0, p1⟩, ⟨q0, q1⟩, ⟨r0, r1⟩, ⟨y0, y1⟩, ⟨z0, z1⟩⟩ := HC8.out V hV
                simp [flowNeeds, Region.binds] at hn
                simp only [flowAct, List.zipWith_cons_cons, List.zipWith_nil_left]
                try simp only [hn]
                go_wp2_with (fail)
                exact ⟨rfl, _, rfl, Below.refl _ _, rfl⟩
              · intro xs2 V hV hn
                obtain ⟨⟨p0, p1⟩, ⟨q0, q1⟩, ⟨r0, r1⟩, ⟨y0, y1⟩, ⟨z0, z1⟩⟩ := HC8.out V hV
                simp [flowNeeds, Region.binds] at hn
                simp only [flowAct, List.zipWith_cons_cons, List.zipWith_nil_left]
                try simp only [hn]
                go_wp2_with (fail)
                exact ⟨rfl, _, rfl, Below.refl _ _, rfl⟩
              · intro xs2 V hV hn
                obtain ⟨⟨p0, p1⟩, ⟨q0, q1⟩, ⟨r0, r1⟩, ⟨y0, y1⟩, ⟨z0, z1⟩⟩ := HC8.out V hV
                simp [flowNeeds, Region.binds] at hn
                simp only [flowAct, List.zipWith_cons_cons, List.zipWith_nil_left]
                try simp only [hn]
                go_wp2_with (fail)
                exact ⟨rfl, _, rfl, Below.refl _ _, rfl⟩
              · intro xs2 V hV hn
                obtain ⟨⟨p0, p1⟩, ⟨q0, q1⟩, ⟨r0, r1⟩, ⟨y0, y1⟩, ⟨z0, z1⟩⟩ := HC8.out V hV
                simp [flowNeeds, Region.binds] at hn
                simp only [flowAct, List.zipWith_cons_cons, List.zipWith_nil_left]
                simp only [hn]
                go_wp2_with (go_at_call 14; (with_reducible refine (HM2.out _).mono ?_); rintro e w9 ⟨rfl, hb9⟩)
                exact ⟨rfl, _, rfl, hb9, rfl⟩
              · intro xs2 V hV hn
                obtain ⟨⟨p0, p1⟩, ⟨q0, q1⟩, ⟨r0, r1⟩, ⟨y0, y1⟩, ⟨z0, z1⟩⟩ := HC8.out V hV
                simp [flowNeeds, Region.binds] at hn
                simp only [flowAct, List.zipWith_cons_cons, List.zipWith_nil_left]
                try simp only [hn]
                go_wp2_with (fail)
                exact ⟨rfl, _, rfl, Below.refl _ _, rfl⟩
              · intro xs2 V hV hn
                obtain ⟨⟨p0, p1⟩, ⟨q0, q1⟩, ⟨r0, r1⟩, ⟨y0, y1⟩, ⟨z0, z1⟩⟩ := HC8.out V hV
                simp [flowNeeds, Region.binds] at hn
                simp only [flowAct, List.zipWith_cons_cons, List.zipWith_nil_left]
                try simp only [hn]
                go_wp2_with (fail)
                exact ⟨rfl, _, rfl, Below.refl _ _, rfl⟩
              · intro xs2 V hV hn
                obtain ⟨⟨p0, p1⟩, ⟨q0, q1⟩, ⟨r0, r1⟩, ⟨y0, y1⟩, ⟨z0, z1⟩⟩ := HC8.out V hV
                simp [flowNeeds, Region.binds] at hn
                simp only [flowAct, List.zipWith_cons_cons, List.zipWith_nil_left]
                try simp only [hn]
                go_wp2_with (fail)
                exact ⟨rfl, _, rfl, Below.refl _ _, rfl⟩
              · intro xs2 V hV hn
                obtain ⟨⟨p0, p1⟩, ⟨q0, q1⟩, ⟨r0, r1⟩, ⟨y0, y1⟩, ⟨z0, z1⟩⟩ := HC8.out V hV
                simp [flowNeeds, Region.binds] at hn
                simp only [flowAct, List.zipWith_cons_cons, List.zipWith_nil_left]
                try simp only [hn]
                go_wp2_with (fail)
                exact ⟨rfl, _, rfl, Below.refl _ _, rfl⟩
              · intro xs2 V hV hn
                obtain ⟨⟨p0, p1⟩, ⟨q0, q1⟩, ⟨r0, r1⟩, ⟨y0, y1⟩, ⟨z0, z1⟩⟩ := HC8.out V hV
                simp [flowNeeds, Region.binds] at hn
                simp only [flowAct, List.zipWith_cons_cons, List.zipWith_nil_left]
                simp only [hn]
                go_wp2_with (go_at_call 16; (with_reducible refine (HLv.out _).mono ?_); rintro e w9 ⟨rfl, hb9⟩)
                exact ⟨rfl, _, rfl, hb9, rfl⟩
              · intro xs2 V hV hn
                obtain ⟨⟨p0, p1⟩, ⟨q0, q1⟩, ⟨r0, r1⟩, ⟨y0, y1⟩, ⟨z0, z1⟩⟩ := HC8.out V hV
                simp [flowNeeds, Region.binds] at hn
                simp only [flowAct, List.zipWith_cons_cons, List.zipWith_nil_left]
                try simp only [hn]
                go_wp2_with (fail)
                exact ⟨rfl, _, rfl, Below.refl _ _, rfl⟩
              · intro xs2 V hV hn
                obtain ⟨⟨p0, p1⟩, ⟨q0, q1⟩, ⟨r0, r1⟩, ⟨y0, y1⟩, ⟨z0, z1⟩⟩ := HC8.out V hV
                simp [flowNeeds, Region.binds] at hn
                simp only [flowAct, List.zipWith_cons_cons, List.zipWith_nil_left]
                try simp only [hn]
                go_wp2_with (fail)
                exact ⟨rfl, _, rfl, Below.refl _ _, rfl⟩
            · intro xs3 V3 hV3 hall
              simp only [flowAll, and_true, Nat.zero_add, Nat.reduceAdd] at hall
              obtain ⟨-, -, -, -, -, -, -, -, -, -, -, -, -, -, -, -, e16⟩ := hall
              simp only [flowAct, List.zipWith_cons_cons, List.zipWith_nil_left, e16]
              go_wp2
              go_ret
              exact ⟨rfl, HB8.out.trans (hV3.mono HB8.out.size)⟩
      | true =>
        rw [e1] at T1
        cases e2 : vcov c0 c1 b0 b1 with
        | false =>
          rw [e2] at T2
          clear e1 e2
          cases e4 : vcov a0 a1 c0 c1 with
          | false =>
            rw [e4] at T4
            clear e4
            have HT1 := Lib.hid T1
            have HT2 := Lib.hid T2
            have HT4 := Lib.hid T4
            clear T1 T2 T3 T4 T5 T6 Hw1 Hw2 HCV
            have hcur := hV
            obtain ⟨⟨p0, p1⟩, ⟨q0, q1⟩, ⟨r0, r1⟩, ⟨y0, y1⟩, ⟨z0, z1⟩⟩ := HC5.out V hV
            clear hV
            go_upto_region 8 with (first
              | (go_at_call 10; (with_reducible refine (HT1.out _).mono ?_); rintro e w9 ⟨rfl, hb9⟩; (replace hcur := hcur.trans (hb9.mono hcur.size)); clear hb9; obtain ⟨⟨p0, p1⟩, ⟨q0, q1⟩, ⟨r0, r1⟩, ⟨y0, y1⟩, ⟨z0, z1⟩⟩ := HC5.out _ hcur)
              | (go_at_call 10; (with_reducible refine (HT2.out _).mono ?_); rintro e w9 ⟨rfl, hb9⟩; (replace hcur := hcur.trans (hb9.mono hcur.size)); clear hb9; obtain ⟨⟨p0, p1⟩, ⟨q0, q1⟩, ⟨r0, r1⟩, ⟨y0, y1⟩, ⟨z0, z1⟩⟩ := HC5.out _ hcur)
              | (go_at_call 10; (with_reducible refine (HT4.out _).mono ?_); rintro e w9 ⟨rfl, hb9⟩; (replace hcur := hcur.trans (hb9.mono hcur.size)); clear hb9; obtain ⟨⟨p0, p1⟩, ⟨q0, q1⟩, ⟨r0, r1⟩, ⟨y0, y1⟩, ⟨z0, z1⟩⟩ := HC5.out _ hcur))
            have HC8 := Lib.hid (fun (V2 : World) (h) => HC5.out V2 (hcur.trans (Below.mono h hcur.size)))
            have HB8 := Lib.hid (HB6.out.trans (hcur.mono HB6.out.size))
            clear hcur p0 p1 q0 q1 r0 r1 y0 y1 z0 z1 HC5 HB6
            refine wp_region_flow [none, none, none, none, none, none, some 16, none, none, none, none, none, none, none, none, none, none, none, none, none, none, none, none, none, none, none, none, none, none, none, none, none, none, none, none, none, none, none, none, none, none, none, none, none, none, none, none, none, none, none, none, none, none, none, none, none, none, none, none, none, none, none, none, none, none, none, none, none, none, none, none, none, none, none, none, none, none, none, none, none, none, none, none, none, none, none, none, none, none, none, none, none, none, none, none, none, none, none, none, none, none, none, none, none, none, none, none, none, none, none, none, none, some 0, some 1, some 2, some 3, some 4, some 5, some 6, some 7, some 8, some 9, some 10, some 11, some 12, some 13, some 14, some 15] (fun i => if i = 16 then .bool false else undef) [(fun v _ => v = .agg #[.int .i64 a0, .int .i64 a1]), (fun v _ => v = .agg #[.int .i64 m0, .int .i64 m1]), (fun v W => ∃ g, v = .slice (some ⟨g, 0, none⟩) 2 2 ∧ Prs W (some ⟨g, 0, none⟩) 2 2 [(a0, a1), (m0, m1)]), (fun v _ => v = .agg #[.int .i64 a0, .int .i64 a1]), (fun v _ => v = .agg #[.int .i64 a0, .int .i64 a1]), (fun v _ => v = .bool true), (fun v _ => v = .bool true), (fun v _ => v = .agg #[.int .i64 a0, .int .i64 a1]), (fun v _ => v = .agg #[.int .i64 j0, .int .i64 j1]), (fun v _ => v = .agg #[.int .i64 a0, .int .i64 a1]), (fun v _ => v = .agg #[.int .i64 a0, .int .i64 a1]), (fun v _ => v = .bool true), (fun v _ => v = .bool true), (fun v _ => v = .bool true), (fun v _ => v = .bool true), (fun v _ => v = .bool true), (fun v _ => v = .bool true)] (by kernel_rfl) (by kernel_rfl) rfl rfl rfl ?_ ?_ ?_
            · intro g hg v X Y hX hY hv
              simp only [List.mem_cons, List.not_mem_nil, or_false] at hg
              rcases hg with rfl | rfl | rfl | rfl | rfl | rfl | rfl | rfl | rfl | rfl | rfl | rfl | rfl | rfl | rfl | rfl | rfl
              all_goals first
                | exact hv
                | (obtain ⟨b, h1, h2⟩ := hv; exact ⟨b, h1, h2.below hY⟩)
            · simp only [flowOps, and_true]
              refine ⟨?_, ?_, ?_, ?_, ?_, ?_, ?_, ?_, ?_, ?_, ?_, ?_, ?_, ?_, ?_, ?_, ?_⟩
              · intro xs2 V hV hn
                obtain ⟨⟨p0, p1⟩, ⟨q0, q1⟩, ⟨r0, r1⟩, ⟨y0, y1⟩, ⟨z0, z1⟩⟩ := HC8.out V hV
                simp only [flowAct, List.zipWith_cons_cons, List.zipWith_nil_left]
                try simp only [hn]
                go_wp2_with (fail)
                exact ⟨rfl, _, rfl, Below.refl _ _, rfl⟩
              · intro xs2 V hV hn
                obtain ⟨⟨p0, p1⟩, ⟨q0, q1⟩, ⟨r0, r1⟩, ⟨y0, y1⟩, ⟨z0, z1⟩⟩ := HC8.out V hV
                simp only [flowAct, List.zipWith_cons_cons, List.zipWith_nil_left]
                try simp only [hn]
                go_wp2_with (fail)
                exact ⟨rfl, _, rfl, Below.refl _ _, rfl⟩
              · intro xs2 V hV hn
                obtain ⟨⟨p0, p1⟩, ⟨q0, q1⟩, ⟨r0, r1⟩, ⟨y0, y1⟩, ⟨z0, z1⟩⟩ := HC8.out V hV
                simp [flowNeeds, Region.binds] at hn
                simp only [flowAct, List.zipWith_cons_cons, List.zipWith_nil_left]
                simp only [hn]
                go_wp2_with (fail)
                exact ⟨rfl, _, rfl, alloc_below _ _, ⟨_, rfl, prs2 _ _ _ _ _⟩⟩
              · intro xs2 V hV hn
                obtain ⟨⟨p0, p1⟩, ⟨q0, q1⟩, ⟨r0, r1⟩, ⟨y0, y1⟩, ⟨z0, z1⟩⟩ := HC8.out V hV
                simp [flowNeeds, Region.binds] at hn
                simp only [flowAct, List.zipWith_cons_cons, List.zipWith_nil_left]
                obtain ⟨g, e1, hy⟩ := hn
                simp only [e1]
                go_wp2_with (go_at_call 17; (with_reducible refine (HJ7.out _ _ hy).mono ?_); rintro e w9 ⟨rfl, hb9⟩)
                exact ⟨rfl, _, rfl, hb9, rfl⟩
              · intro xs2 V hV hn
                obtain ⟨⟨p0, p1⟩, ⟨q0, q1⟩, ⟨r0, r1⟩, ⟨y0, y1⟩, ⟨z0, z1⟩⟩ := HC8.out V hV
                simp [flowNeeds] at hn
                simp only [flowAct, List.zipWith_cons_cons, List.zipWith_nil_left]
                try simp only [hn]
                go_wp2_with (fail)
                exact ⟨rfl, _, rfl, Below.refl _ _, rfl⟩
              · intro xs2 V hV hn
                obtain ⟨⟨p0, p1⟩, ⟨q0, q1⟩, ⟨r0, r1⟩, ⟨y0, y1⟩, ⟨z0, z1⟩⟩ := HC8.out V hV
                simp [flowNeeds, Region.binds] at hn
                simp only [flowAct, List.zipWith_cons_cons, List.zipWith_nil_left]
                try simp only [hn]
                go_wp2_with (fail)
                exact ⟨rfl, _, rfl, Below.refl _ _, rfl⟩
              · intro xs2 V hV hn
                obtain ⟨⟨p0, p1⟩, ⟨q0, q1⟩, ⟨r0, r1⟩, ⟨y0, y1⟩, ⟨z0, z1⟩⟩ := HC8.out V hV
                simp [flowNeeds, Region.binds] at hn
                simp only [flowAct, List.zipWith_cons_cons, List.zipWith_nil_left]
                try simp only [hn]
                go_wp2_with (fail)
                exact ⟨rfl, _, rfl, Below.refl _ _, rfl⟩
              · intro xs2 V hV hn
                obtain ⟨⟨p0, p1⟩, ⟨q0, q1⟩, ⟨r0, r1⟩, ⟨y0, y1⟩, ⟨z0, z1⟩⟩ := HC8.out V hV
                simp [flowNeeds, Region.binds] at hn
                simp only [flowAct, List.zipWith_cons_cons, List.zipWith_nil_left]
                try simp only [hn]
                go_wp2_with (fail)
                exact ⟨rfl, _, rfl, Below.refl _ _, rfl⟩
              · intro xs2 V hV hn
                obtain ⟨⟨p0, p1⟩, ⟨q0, q1⟩, ⟨r0, r1⟩, ⟨y0, y1⟩, ⟨z0, z1⟩⟩ := HC8.out V hV
                simp [flowNeeds, Region.binds] at hn
                simp only [flowAct, List.zipWith_cons_cons, List.zipWith_nil_left]
                try simp only [hn]
                go_wp2_with (fail)
                exact ⟨rfl, _, rfl, Below.refl _ _, rfl⟩
              · intro xs2 V hV hn
                obtain ⟨⟨p0, p1⟩, ⟨q0, q1⟩, ⟨r0, r1⟩, ⟨y0, y1⟩, ⟨z0, z1⟩⟩ := HC8.out V hV
                simp [flowNeeds, Region.binds] at hn
                simp only [flowAct, List.zipWith_cons_cons, List.zipWith_nil_left]
                simp only [hn]
                go_wp2_with (go_at_call 14; (with_reducible refine (HM2.out _).mono ?_); rintro e w9 ⟨rfl, hb9⟩)
                exact ⟨rfl, _, rfl, hb9, rfl⟩
              · intro xs2 V hV hn
                obtain ⟨⟨p0, p1⟩, ⟨q0, q1⟩, ⟨r0, r1⟩, ⟨y0, y1⟩, ⟨z0, z1⟩⟩ := HC8.out V hV
                simp [flowNeeds, Region.binds] at hn
                simp only [flowAct, List.zipWith_cons_cons, List.zipWith_nil_left]
                try simp only [hn]
                go_wp2_with (fail)
                exact ⟨rfl, _, rfl, Below.refl _ _, rfl⟩
              · intro xs2 V hV hn
                obtain ⟨⟨p0, p1⟩, ⟨q0, q1⟩, ⟨r0, r1⟩, ⟨y0, y1⟩, ⟨z0, z1⟩⟩ := HC8.out V hV
                simp [flowNeeds, Region.binds] at hn
                simp only [flowAct, List.zipWith_cons_cons, List.zipWith_nil_left]
                try simp only [hn]
                go_wp2_with (fail)
                exact ⟨rfl, _, rfl, Below.refl _ _, rfl⟩
              · intro xs2 V hV hn
                obtain ⟨⟨p0, p1⟩, ⟨q0, q1⟩, ⟨r0, r1⟩, ⟨y0, y1⟩, ⟨z0, z1⟩⟩ := HC8.out V hV
                simp [flowNeeds, Region.binds] at hn
                simp only [flowAct, List.zipWith_cons_cons, List.zipWith_nil_left]
                try simp only [hn]
                go_wp2_with (fail)
                exact ⟨rfl, _, rfl, Below.refl _ _, rfl⟩
              · intro xs2 V hV hn
                obtain ⟨⟨p0, p1⟩, ⟨q0, q1⟩, ⟨r0, r1⟩, ⟨y0, y1⟩, ⟨z0, z1⟩⟩ := HC8.out V hV
                simp [flowNeeds, Region.binds] at hn
                simp only [flowAct, List.zipWith_cons_cons, List.zipWith_nil_left]
                try simp only [hn]
                go_wp2_with (fail)
                exact ⟨rfl, _, rfl, Below.refl _ _, rfl⟩
              · intro xs2 V hV hn
                obtain ⟨⟨p0, p1⟩, ⟨q0, q1⟩, ⟨r0, r1⟩, ⟨y0, y1⟩, ⟨z0, z1⟩⟩ := HC8.out V hV
                simp [flowNeeds, Region.binds] at hn
                simp only [flowAct, List.zipWith_cons_cons, List.zipWith_nil_left]
                simp only [hn]
                go_wp2_with (go_at_call 16; (with_reducible refine (HLv.out _).mono ?_); rintro e w9 ⟨rfl, hb9⟩)
                exact ⟨rfl, _, rfl, hb9, rfl⟩
              · intro xs2 V hV hn
                obtain ⟨⟨p0, p1⟩, ⟨q0, q1⟩, ⟨r0, r1⟩, ⟨y0, y1⟩, ⟨z0, z1⟩⟩ := HC8.out V hV
                simp [flowNeeds, Region.binds] at hn
                simp only [flowAct, List.zipWith_cons_cons, List.zipWith_nil_left]
                try simp only [hn]
                go_wp2_with (fail)
                exact ⟨rfl, _, rfl, Below.refl _ _, rfl⟩
              · intro xs2 V hV hn
                obtain ⟨⟨p0, p1⟩, ⟨q0, q1⟩, ⟨r0, r1⟩, ⟨y0, y1⟩, ⟨z0, z1⟩⟩ := HC8.out V hV
                simp [flowNeeds, Region.binds] at hn
                simp only [flowAct, List.zipWith_cons_cons, List.zipWith_nil_left]
                try simp only [hn]
                go_wp2_with (fail)
                exact ⟨rfl, _, rfl, Below.refl _ _, rfl⟩
            · intro xs3 V3 hV3 hall
              simp only [flowAll, and_true, Nat.zero_add, Nat.reduceAdd] at hall
              obtain ⟨-, -, -, -, -, -, -, -, -, -, -, -, -, -, -, -, e16⟩ := hall
              simp only [flowAct, List.zipWith_cons_cons, List.zipWith_nil_left, e16]
              go_wp2
              go_ret
              exact ⟨rfl, HB8.out.trans (hV3.mono HB8.out.size)⟩
          | true =>
            rw [e4] at T4
            cases e5 : vcov b0 b1 c0 c1 with
            | false =>
              rw [e5] at T5
              clear e4 e5
              have HT1 := Lib.hid T1
              have HT2 := Lib.hid T2
              have HT4 := Lib.hid T4
              have HT5 := Lib.hid T5
              clear T1 T2 T3 T4 T5 T6 Hw1 Hw2 HCV
              have hcur := hV
              obtain ⟨⟨p0, p1⟩, ⟨q0, q1⟩, ⟨r0, r1⟩, ⟨y0, y1⟩, ⟨z0, z1⟩⟩ := HC5.out V hV
              clear hV
              go_upto_region 8 with (first
                | (go_at_call 10; (with_reducible refine (HT1.out _).mono ?_); rintro e w9 ⟨rfl, hb9⟩; (replace hcur := hcur.trans (hb9.mono hcur.size)); clear hb9; obtain ⟨⟨p0, p1⟩, ⟨q0, q1⟩, ⟨r0, r1⟩, ⟨y0, y1⟩, ⟨z0, z1⟩⟩ := HC5.out _ hcur)
                | (go_at_call 10; (with_reducible refine (HT2.out _).mono ?_); rintro e w9 ⟨rfl, hb9⟩; (replace hcur := hcur.trans (hb9.mono hcur.size)); clear hb9; obtain ⟨⟨p0, p1⟩, ⟨q0, q1⟩, ⟨r0, r1⟩, ⟨y0, y1⟩, ⟨z0, z1⟩⟩ := HC5.out _ hcur)
                | (go_at_call 10; (with_reducible refine (HT4.out _).mono ?_); rintro e w9 ⟨rfl, hb9⟩; (replace hcur := hcur.trans (hb9.mono hcur.size)); clear hb9; obtain ⟨⟨p0, p1⟩, ⟨q0, q1⟩, ⟨r0, r1⟩, ⟨y0, y1⟩, ⟨z0, z1⟩⟩ := HC5.out _ hcur)
                | (go_at_call 10; (with_reducible refine (HT5.out _).mono ?_); rintro e w9 ⟨rfl, hb9⟩; (replace hcur := hcur.trans (hb9.mono hcur.size)); clear hb9; obtain ⟨⟨p0, p1⟩, ⟨q0, q1⟩, ⟨r0, r1⟩, ⟨y0, y1⟩, ⟨z0, z1⟩⟩ := HC5.out _ hcur))
              have HC8 := Lib.hid (fun (V2 : World) (h) => HC5.out V2 (hcur.trans (Below.mono h hcur.size)))
              have HB8 := Lib.hid (HB6.out.trans (hcur.mono HB6.out.size))
              clear hcur p0 p1 q0 q1 r0 r1 y0 y1 z0 z1 HC5 HB6
              refine wp_region_flow [none, none, none, none, none, none, some 16, none, none, none, none, none, none, none, none, none, none, none, none, none, none, none, none, none, none, none, none, none, none, none, none, none, none, none, none, none, none, none, none, none, none, none, none, none, none, none, none, none, none, none, none, none, none, none, none, none, none, none, none, none, none, none, none, none, none, none, none, none, none, none, none, none, none, none, none, none, none, none, none, none, none, none, none, none, none, none, none, none, none, none, none, none, none, none, none, none, none, none, none, none, none, none, none, none, none, none, none, none, none, none, none, none, some 0, some 1, some 2, some 3, some 4, some 5, some 6, some 7, some 8, some 9, some 10, some 11, some 12, some 13, some 14, some 15] (fun i => if i = 16 then .bool false else undef) [(fun v _ => v = .agg #[.int .i64 a0, .int .i64 a1]), (fun v _ => v = .agg #[.int .i64 m0, .int .i64 m1]), (fun v W => ∃ g, v = .slice (some ⟨g, 0, none⟩) 2 2 ∧ Prs W (some ⟨g, 0, none⟩) 2 2 [(a0, a1), (m0, m1)]), (fun v _ => v = .agg #[.int .i64 a0, .int .i64 a1]), (fun v _ => v = .agg #[.int .i64 a0, .int .i64 a1]), (fun v _ => v = .bool true), (fun v _ => v = .bool true), (fun v _ => v = .agg #[.int .i64 a0, .int .i64 a1]), (fun v _ => v = .agg #[.int .i64 j0, .int .i64 j1]), (fun v _ => v = .agg #[.int .i64 a0, .int .i64 a1]), (fun v _ => v = .agg #[.int .i64 a0, .int .i64 a1]), (fun v _ => v = .bool true), (fun v _ => v = .bool true), (fun v _ => v = .bool true), (fun v _ => v = .bool true), (fun v _ => v = .bool true), (fun v _ => v = .bool true)] (by kernel_rfl) (by kernel_rfl) rfl rfl rfl ?_ ?_ ?_
              · intro g hg v X Y hX hY hv
                simp only [List.mem_cons, List.not_mem_nil, or_false] at hg
                rcases hg with rfl | rfl | rfl | rfl | rfl | rfl | rfl | rfl | rfl | rfl | rfl | rfl | rfl | rfl | rfl | rfl | rfl
                all_goals first
                  | exact hv
                  | (obtain ⟨b, h1, h2⟩ := hv; exact ⟨b, h1, h2.below hY⟩)
              · simp only [flowOps, and_true]
                refine ⟨?_, ?_, ?_, ?_, ?_, ?_, ?_, ?_, ?_, ?_, ?_, ?_, ?_, ?_, ?_, ?_, ?_⟩
                · intro xs2 V hV hn
                  obtain ⟨⟨p0, p1⟩, ⟨q0, q1⟩, ⟨r0, r1⟩, ⟨y0, y1⟩, ⟨z0, z1⟩⟩ := HC8.out V hV
                  simp only [flowAct, List.zipWith_cons_cons, List.zipWith_nil_left]
                  try simp only [hn]
                  go_wp2_with (fail)
                  exact ⟨rfl, _, rfl, Below.refl _ _, rfl⟩
                · intro xs2 V hV hn
                  obtain ⟨⟨p0, p1⟩, ⟨q0, q1⟩, ⟨r0, r1⟩, ⟨y0, y1⟩, ⟨z0, z1⟩⟩ := HC8.out V hV
                  simp only [flowAct, List.zipWith_cons_cons, List.zipWith_nil_left]
                  try simp only [hn]
                  go_wp2_with (fail)
                  exact ⟨rfl, _, rfl, Below.refl _ _, rfl⟩
                · intro xs2 V hV hn
                  obtain ⟨⟨p0, p1⟩, ⟨q0, q1⟩, ⟨r0, r1⟩, ⟨y0, y1⟩, ⟨z0, z1⟩⟩ := HC8.out V hV
                  simp [flowNeeds, Region.binds] at hn
                  simp only [flowAct, List.zipWith_cons_cons, List.zipWith_nil_left]
                  simp only [hn]
                  go_wp2_with (fail)
                  exact ⟨rfl, _, rfl, alloc_below _ _, ⟨_, rfl, prs2 _ _ _ _ _⟩⟩
                · intro xs2 V hV hn
                  obtain ⟨⟨p0, p1⟩, ⟨q0, q1⟩, ⟨r0, r1⟩, ⟨y0, y1⟩, ⟨z0, z1⟩⟩ := HC8.out V hV
                  simp [flowNeeds, Region.binds] at hn
                  simp only [flowAct, List.zipWith_cons_cons, List.zipWith_nil_left]
                  obtain ⟨g, e1, hy⟩ := hn
                  simp only [e1]
                  go_wp2_with (go_at_call 17; (with_reducible refine (HJ7.out _ _ hy).mono ?_); rintro e w9 ⟨rfl, hb9⟩)
                  exact ⟨rfl, _, rfl, hb9, rfl⟩
                · intro xs2 V hV hn
                  obtain ⟨⟨p0, p1⟩, ⟨q0, q1⟩, ⟨r0, r1⟩, ⟨y0, y1⟩, ⟨z0, z1⟩⟩ := HC8.out V hV
                  simp [flowNeeds] at hn
                  simp only [flowAct, List.zipWith_cons_cons, List.zipWith_nil_left]
                  try simp only [hn]
                  go_wp2_with (fail)
                  exact ⟨rfl, _, rfl, Below.refl _ _, rfl⟩
                · intro xs2 V hV hn
                  obtain ⟨⟨p0, p1⟩, ⟨q0, q1⟩, ⟨r0, r1⟩, ⟨y0, y1⟩, ⟨z0, z1⟩⟩ := HC8.out V hV
                  simp [flowNeeds, Region.binds] at hn
                  simp only [flowAct, List.zipWith_cons_cons, List.zipWith_nil_left]
                  try simp only [hn]
                  go_wp2_with (fail)
                  exact ⟨rfl, _, rfl, Below.refl _ _, rfl⟩
                · intro xs2 V hV hn
                  obtain ⟨⟨p0, p1⟩, ⟨q0, q1⟩, ⟨r0, r1⟩, ⟨y0, y1⟩, ⟨z0, z1⟩⟩ := HC8.out V hV
                  simp [flowNeeds, Region.binds] at hn
                  simp only [flowAct, List.zipWith_cons_cons, List.zipWith_nil_left]
                  try simp only [hn]
                  go_wp2_with (fail)
                  exact ⟨rfl, _, rfl, Below.refl _ _, rfl⟩
                · intro xs2 V hV hn
                  obtain ⟨⟨p0, p1⟩, ⟨q0, q1⟩, ⟨r0, r1⟩, ⟨y0, y1⟩, ⟨z0, z1⟩⟩ := HC8.out V hV
                  simp [flowNeeds, Region.binds] at hn
                  simp only [flowAct, List.zipWith_cons_cons, List.zipWith_nil_left]
                  try simp only [hn]
                  go_wp2_with (fail)
                  exact ⟨rfl, _, rfl, Below.refl _ _, rfl⟩
                · intro xs2 V hV hn
                  obtain ⟨⟨p0, p1⟩, ⟨q0, q1⟩, ⟨r0, r1⟩, ⟨y0, y1⟩, ⟨z0, z1⟩⟩ := HC8.out V hV
                  simp [flowNeeds, Region.binds] at hn
                  simp only [flowAct, List.zipWith_cons_cons, List.zipWith_nil_left]
                  try simp only [hn]
                  go_wp2_with (fail)
                  exact ⟨rfl, _, rfl, Below.refl _ _, rfl⟩
                · intro xs2 V hV hn
                  obtain ⟨⟨p0, p1⟩, ⟨q0, q1⟩, ⟨r0, r1⟩, ⟨y0, y1⟩, ⟨z0, z1⟩⟩ := HC8.out V hV
                  simp [flowNeeds, Region.binds] at hn
                  simp only [flowAct, List.zipWith_cons_cons, List.zipWith_nil_left]
                  simp only [hn]
                  go_wp2_with (go_at_call 14; (with_reducible refine (HM2.out _).mono ?_); rintro e w9 ⟨rfl, hb9⟩)
                  exact ⟨rfl, _, rfl, hb9, rfl⟩
                · intro xs2 V hV hn
                  obtain ⟨⟨p0, p1⟩, ⟨q0, q1⟩, ⟨r0, r1⟩, ⟨y0, y1⟩, ⟨z0, z1⟩⟩ := HC8.out V hV
                  simp [flowNeeds, Region.binds] at hn
                  simp only [flowAct, List.zipWith_cons_cons, List.zipWith_nil_left]
                  try simp only [hn]
                  go_wp2_with (fail)
                  exact ⟨rfl, _, rfl, Below.refl _ _, rfl⟩
                · intro xs2 V hV hn
                  obtain ⟨⟨p0, p1⟩, ⟨q0, q1⟩, ⟨r0, r1⟩, ⟨y0, y1⟩, ⟨z0, z1⟩⟩ := HC8.out V hV
                  simp [flowNeeds, Region.binds] at hn
                  simp only [flowAct, List.zipWith_cons_cons, List.zipWith_nil_left]
                  try simp only [hn]
                  go_wp2_with (fail)
                  exact ⟨rfl, _, rfl, Below.refl _ _, rfl⟩
                · intro xs2 V hV hn
                  obtain ⟨⟨p0, p1⟩, ⟨q0, q1⟩, ⟨r0, r1⟩, ⟨y0, y1⟩, ⟨z0, z1⟩⟩ := HC8.out V hV
                  simp [flowNeeds, Region.binds] at hn
                  simp only [flowAct, List.zipWith_cons_cons, List.zipWith_nil_left]
                  try simp only [hn]
                  go_wp2_with (fail)
                  exact ⟨rfl, _, rfl, Below.refl _ _, rfl⟩
                · intro xs2 V hV hn
                  obtain ⟨⟨p0, p1⟩, ⟨q0, q1⟩, ⟨r0, r1⟩, ⟨y0, y1⟩, ⟨z0, z1⟩⟩ := HC8.out V hV
                  simp [flowNeeds, Region.binds] at hn
                  simp only [flowAct, List.zipWith_cons_cons, List.zipWith_nil_left]
                  try simp only [hn]
                  go_wp2_with (fail)
                  exact ⟨rfl, _, rfl, Below.refl _ _, rfl⟩
                · intro xs2 V hV hn
                  obtain ⟨⟨p0, p1⟩, ⟨q0, q1⟩, ⟨r0, r1⟩, ⟨y0, y1⟩, ⟨z0, z1⟩⟩ := HC8.out V hV
                  simp [flowNeeds, Region.binds] at hn
                  simp only [flowAct, List.zipWith_cons_cons, List.zipWith_nil_left]
                  simp only [hn]
                  go_wp2_with (go_at_call 16; (with_reducible refine (HLv.out _).mono ?_); rintro e w9 ⟨rfl, hb9⟩)
                  exact ⟨rfl, _, rfl, hb9, rfl⟩
                · intro xs2 V hV hn
                  obtain ⟨⟨p0, p1⟩, ⟨q0, q1⟩, ⟨r0, r1⟩, ⟨y0, y1⟩, ⟨z0, z1⟩⟩ := HC8.out V hV
                  simp [flowNeeds, Region.binds] at hn
                  simp only [flowAct, List.zipWith_cons_cons, List.zipWith_nil_left]
                  try simp only [hn]
                  go_wp2_with (fail)
                  exact ⟨rfl, _, rfl, Below.refl _ _, rfl⟩
                · intro xs2 V hV hn
                  obtain ⟨⟨p0, p1⟩, ⟨q0, q1⟩, ⟨r0, r1⟩, ⟨y0, y1⟩, ⟨z0, z1⟩⟩ := HC8.out V hV
                  simp [flowNeeds, Region.binds] at hn
                  simp only [flowAct, List.zipWith_cons_cons, List.zipWith_nil_left]
                  try simp only [hn]
                  go_wp2_with (fail)
                  exact ⟨rfl, _, rfl, Below.refl _ _, rfl⟩
              · intro xs3 V3 hV3 hall
                simp only [flowAll, and_true, Nat.zero_add, Nat.reduceAdd] at hall
                obtain ⟨-, -, -, -, -, -, -, -, -, -, -, -, -, -, -, -, e16⟩ := hall
                simp only [flowAct, List.zipWith_cons_cons, List.zipWith_nil_left, e16]
                go_wp2
                go_ret
                exact ⟨rfl, HB8.out.trans (hV3.mono HB8.out.size)⟩
            | true =>
              rw [e5] at T5
              rw [Hw2.out e4 e5] at T6
              clear e4 e5
              have HT1 := Lib.hid T1
              have HT2 := Lib.hid T2
              have HT4 := Lib.hid T4
              have HT5 := Lib.hid T5
              have HT6 := Lib.hid T6
              clear T1 T2 T3 T4 T5 T6 Hw1 Hw2 HCV
              have hcur := hV
              obtain ⟨⟨p0, p1⟩, ⟨q0, q1⟩, ⟨r0, r1⟩, ⟨y0, y1⟩, ⟨z0, z1⟩⟩ := HC5.out V hV
              clear hV
              go_upto_region 8 with (first
                | (go_at_call 10; (with_reducible refine (HT1.out _).mono ?_); rintro e w9 ⟨rfl, hb9⟩; (replace hcur := hcur.trans (hb9.mono hcur.size)); clear hb9; obtain ⟨⟨p0, p1⟩, ⟨q0, q1⟩, ⟨r0, r1⟩, ⟨y0, y1⟩, ⟨z0, z1⟩⟩ := HC5.out _ hcur)
                | (go_at_call 10; (with_reducible refine (HT2.out _).mono ?_); rintro e w9 ⟨rfl, hb9⟩; (replace hcur := hcur.trans (hb9.mono hcur.size)); clear hb9; obtain ⟨⟨p0, p1⟩, ⟨q0, q1⟩, ⟨r0, r1⟩, ⟨y0, y1⟩, ⟨z0, z1⟩⟩ := HC5.out _ hcur)
                | (go_at_call 10; (with_reducible refine (HT4.out _).mono ?_); rintro e w9 ⟨rfl, hb9⟩; (replace hcur := hcur.trans (hb9.mono hcur.size)); clear hb9; obtain ⟨⟨p0, p1⟩, ⟨q0, q1⟩, ⟨r0, r1⟩, ⟨y0, y1⟩, ⟨z0, z1⟩⟩ := HC5.out _ hcur)
                | (go_at_call 10; (with_reducible refine (HT5.out _).mono ?_); rintro e w9 ⟨rfl, hb9⟩; (replace hcur := hcur.trans (hb9.mono hcur.size)); clear hb9; obtain ⟨⟨p0, p1⟩, ⟨q0, q1⟩, ⟨r0, r1⟩, ⟨y0, y1⟩, ⟨z0, z1⟩⟩ := HC5.out _ hcur)
                | (go_at_call 10; (with_reducible refine (HT6.out _).mono ?_); rintro e w9 ⟨rfl, hb9⟩; (replace hcur := hcur.trans (hb9.mono hcur.size)); clear hb9; obtain ⟨⟨p0, p1⟩, ⟨q0, q1⟩, ⟨r0, r1⟩, ⟨y0, y1⟩, ⟨z0, z1⟩⟩ := HC5.out _ hcur))
              have HC8 := Lib.hid (fun (V2 : World) (h) => HC5.out V2 (hcur.trans (Below.mono h hcur.size)))
              have HB8 := Lib.hid (HB6.out.trans (hcur.mono HB6.out.size))
              clear hcur p0 p1 q0 q1 r0 r1 y0 y1 z0 z1 HC5 HB6
              refine wp_region_flow [none, none, none, none, none, none, some 16, none, none, none, none, none, none, none, none, none, none, none, none, none, none, none, none, none, none, none, none, none, none, none, none, none, none, none, none, none, none, none, none, none, none, none, none, none, none, none, none, none, none, none, none, none, none, none, none, none, none, none, none, none, none, none, none, none, none, none, none, none, none, none, none, none, none, none, none, none, none, none, none, none, none, none, none, none, none, none, none, none, none, none, none, none, none, none, none, none, none, none, none, none, none, none, none, none, none, none, none, none, none, none, none, none, some 0, some 1, some 2, some 3, some 4, some 5, some 6, some 7, some 8, some 9, some 10, some 11, some 12, some 13, some 14, some 15] (fun i => if i = 16 then .bool false else undef) [(fun v _ => v = .agg #[.int .i64 a0, .int .i64 a1]), (fun v _ => v = .agg #[.int .i64 m0, .int .i64 m1]), (fun v W => ∃ g, v = .slice (some ⟨g, 0, none⟩) 2 2 ∧ Prs W (some ⟨g, 0, none⟩) 2 2 [(a0, a1), (m0, m1)]), (fun v _ => v = .agg #[.int .i64 a0, .int .i64 a1]), (fun v _ => v = .agg #[.int .i64 a0, .int .i64 a1]), (fun v _ => v = .bool true), (fun v _ => v = .bool true), (fun v _ => v = .agg #[.int .i64 a0, .int .i64 a1]), (fun v _ => v = .agg #[.int .i64 j0, .int .i64 j1]), (fun v _ => v = .agg #[.int .i64 a0, .int .i64 a1]), (fun v _ => v = .agg #[.int .i64 a0, .int .i64 a1]), (fun v _ => v = .bool true), (fun v _ => v = .bool true), (fun v _ => v = .bool true), (fun v _ => v = .bool true), (fun v _ => v = .bool true), (fun v _ => v = .bool true)] (by kernel_rfl) (by kernel_rfl) rfl rfl rfl ?_ ?_ ?_
              · intro g hg v X Y hX hY hv
                simp only [List.mem_cons, List.not_mem_nil, or_false] at hg
                rcases hg with rfl | rfl | rfl | rfl | rfl | rfl | rfl | rfl | rfl | rfl | rfl | rfl | rfl | rfl | rfl | rfl | rfl
                all_goals first
                  | exact hv
                  | (obtain ⟨b, h1, h2⟩ := hv; exact ⟨b, h1, h2.below hY⟩)
              · simp only [flowOps, and_true]
                refine ⟨?_, ?_, ?_, ?_, ?_, ?_, ?_, ?_, ?_, ?_, ?_, ?_, ?_, ?_, ?_, ?_, ?_⟩
                · intro xs2 V hV hn
                  obtain ⟨⟨p0, p1⟩, ⟨q0, q1⟩, ⟨r0, r1⟩, ⟨y0, y1⟩, ⟨z0, z1⟩⟩ := HC8.out V hV
                  simp only [flowAct, List.zipWith_cons_cons, List.zipWith_nil_left]
                  try simp only [hn]
                  go_wp2_with (fail)
                  exact ⟨rfl, _, rfl, Below.refl _ _, rfl⟩
                · intro xs2 V hV hn
                  obtain ⟨⟨p0, p1⟩, ⟨q0, q1⟩, ⟨r0, r1⟩, ⟨y0, y1⟩, ⟨z0, z1⟩⟩ := HC8.out V hV
                  simp only [flowAct, List.zipWith_cons_cons, List.zipWith_nil_left]
                  try simp only [hn]
                  go_wp2_with (fail)
                  exact ⟨rfl, _, rfl, Below.refl _ _, rfl⟩
                · intro xs2 V hV hn
                  obtain ⟨⟨p0, p1⟩, ⟨q0, q1⟩, ⟨r0, r1⟩, ⟨y0, y1⟩, ⟨z0, z1⟩⟩ := HC8.out V hV
                  simp [flowNeeds, Region.binds] at hn
                  simp only [flowAct, List.zipWith_cons_cons, List.zipWith_nil_left]
                  simp only [hn]
                  go_wp2_with (fail)
                  exact ⟨rfl, _, rfl, alloc_below _ _, ⟨_, rfl, prs2 _ _ _ _ _⟩⟩
                · intro xs2 V hV hn
                  obtain ⟨⟨p0, p1⟩, ⟨q0, q1⟩, ⟨r0, r1⟩, ⟨y0, y1⟩, ⟨z0, z1⟩⟩ := HC8.out V hV
                  simp [flowNeeds, Region.binds] at hn
                  simp only [flowAct, List.zipWith_cons_cons, List.zipWith_nil_left]
                  obtain ⟨g, e1, hy⟩ := hn
                  simp only [e1]
                  go_wp2_with (go_at_call 17; (with_reducible refine (HJ7.out _ _ hy).mono ?_); rintro e w9 ⟨rfl, hb9⟩)
                  exact ⟨rfl, _, rfl, hb9, rfl⟩
                · intro xs2 V hV hn
                  obtain ⟨⟨p0, p1⟩, ⟨q0, q1⟩, ⟨r0, r1⟩, ⟨y0, y1⟩, ⟨z0, z1⟩⟩ := HC8.out V hV
                  simp [flowNeeds] at hn
                  simp only [flowAct, List.zipWith_cons_cons, List.zipWith_nil_left]
                  try simp only [hn]
                  go_wp2_with (fail)
                  exact ⟨rfl, _, rfl, Below.refl _ _, rfl⟩
                · intro xs2 V hV hn
                  obtain ⟨⟨p0, p1⟩, ⟨q0, q1⟩, ⟨r0, r1⟩, ⟨y0, y1⟩, ⟨z0, z1⟩⟩ := HC8.out V hV
                  simp [flowNeeds, Region.binds] at hn
                  simp only [flowAct, List.zipWith_cons_cons, List.zipWith_nil_left]
                  try simp only [hn]
                  go_wp2_with (fail)
                  exact ⟨rfl, _, rfl, Below.refl _ _, rfl⟩
                · intro xs2 V hV hn
                  obtain ⟨⟨p0, p1⟩, ⟨q0, q1⟩, ⟨r0, r1⟩, ⟨y0, y1⟩, ⟨z0, z1⟩⟩ := HC8.out V hV
                  simp [flowNeeds, Region.binds] at hn
                  simp only [flowAct, List.zipWith_cons_cons, List.zipWith_nil_left]
                  try simp only [hn]
                  go_wp2_with (fail)
                  exact ⟨rfl, _, rfl, Below.refl _ _, rfl⟩
                · intro xs2 V hV hn
                  obtain ⟨⟨p0, p1⟩, ⟨q0, q1⟩, ⟨r0, r1⟩, ⟨y0, y1⟩, ⟨z0, z1⟩⟩ := HC8.out V hV
                  simp [flowNeeds, Region.binds] at hn
                  simp only [flowAct, List.zipWith_cons_cons, List.zipWith_nil_left]
                  try simp only [hn]
                  go_wp2_with (fail)
                  exact ⟨rfl, _, rfl, Below.refl _ _, rfl⟩
                · intro xs2 V hV hn
                  obtain ⟨⟨p0, p1⟩, ⟨q0, q1⟩, ⟨r0, r1⟩, ⟨y0, y1⟩, ⟨z0, z1⟩⟩ := HC8.out V hV
                  simp [flowNeeds, Region.binds] at hn
                  simp only [flowAct, List.zipWith_cons_cons, List.zipWith_nil_left]
                  try simp only [hn]
                  go_wp2_with (fail)
                  exact ⟨rfl, _, rfl, Below.refl _ _, rfl⟩
                · intro xs2 V hV hn
                  obtain ⟨⟨p0, p1⟩, ⟨q0, q1⟩, ⟨r0, r1⟩, ⟨y0, y1⟩, ⟨z0, z1⟩⟩ := HC8.out V hV
                  simp [flowNeeds, Region.binds] at hn
                  simp only [flowAct, List.zipWith_cons_cons, List.zipWith_nil_left]
                  simp only [hn]
                  go_wp2_with (go_at_call 14; (with_reducible refine (HM2.out _).mono ?_); rintro e w9 ⟨rfl, hb9⟩)
                  exact ⟨rfl, _, rfl, hb9, rfl⟩
                · intro xs2 V hV hn
                  obtain ⟨⟨p0, p1⟩, ⟨q0, q1⟩, ⟨r0, r1⟩, ⟨y0, y1⟩, ⟨z0, z1⟩⟩ := HC8.out V hV
                  simp [flowNeeds, Region.binds] at hn
                  simp only [flowAct, List.zipWith_cons_cons, List.zipWith_nil_left]
                  try simp only [hn]
                  go_wp2_with (fail)
                  exact ⟨rfl, _, rfl, Below.refl _ _, rfl⟩
                · intro xs2 V hV hn
                  obtain ⟨⟨p0, p1⟩, ⟨q0, q1⟩, ⟨r0, r1⟩, ⟨y0, y1⟩, ⟨z0, z1⟩⟩ := HC8.out V hV
                  simp [flowNeeds, Region.binds] at hn
                  simp only [flowAct, List.zipWith_cons_cons, List.zipWith_nil_left]
                  try simp only [hn]
                  go_wp2_with (fail)
                  exact ⟨rfl, _, rfl, Below.refl _ _, rfl⟩
                · intro xs2 V hV hn
                  obtain ⟨⟨p0, p1⟩, ⟨q0, q1⟩, ⟨r0, r1⟩, ⟨y0, y1⟩, ⟨z0, z1⟩⟩ := HC8.out V hV
                  simp [flowNeeds, Region.binds] at hn
                  simp only [flowAct, List.zipWith_cons_cons, List.zipWith_nil_left]
                  try simp only [hn]
                  go_wp2_with (fail)
                  exact ⟨rfl, _, rfl, Below.refl _ _, rfl⟩
                · intro xs2 V hV hn
                  obtain ⟨⟨p0, p1⟩, ⟨q0, q1⟩, ⟨r0, r1⟩, ⟨y0, y1⟩, ⟨z0, z1⟩⟩ := HC8.out V hV
                  simp [flowNeeds, Region.binds] at hn
                  simp only [flowAct, List.zipWith_cons_cons, List.zipWith_nil_left]
                  try simp only [hn]
                  go_wp2_with (fail)
                  exact ⟨rfl, _, rfl, Below.refl _ _, rfl⟩
                · intro xs2 V hV hn
                  obtain ⟨⟨p0, p1⟩, ⟨q0, q1⟩, ⟨r0, r1⟩, ⟨y0, y1⟩, ⟨z0, z1⟩⟩ := HC8.out V hV
                  simp [flowNeeds, Region.binds] at hn
                  simp only [flowAct, List.zipWith_cons_cons, List.zipWith_nil_left]
                  simp only [hn]
                  go_wp2_with (go_at_call 16; (with_reducible refine (HLv.out _).mono ?_); rintro e w9 ⟨rfl, hb9⟩)
                  exact ⟨rfl, _, rfl, hb9, rfl⟩
                · intro xs2 V hV hn
                  obtain ⟨⟨p0, p1⟩, ⟨q0, q1⟩, ⟨r0, r1⟩, ⟨y0, y1⟩, ⟨z0, z1⟩⟩ := HC8.out V hV
                  simp [flowNeeds, Region.binds] at hn
                  simp only [flowAct, List.zipWith_cons_cons, List.zipWith_nil_left]
                  try simp only [hn]
                  go_wp2_with (fail)
                  exact ⟨rfl, _, rfl, Below.refl _ _, rfl⟩
                · intro xs2 V hV hn
                  obtain ⟨⟨p0, p1⟩, ⟨q0, q1⟩, ⟨r0, r1⟩, ⟨y0, y1⟩, ⟨z0, z1⟩⟩ := HC8.out V hV
                  simp [flowNeeds, Region.binds] at hn
                  simp only [flowAct, List.zipWith_cons_cons, List.zipWith_nil_left]
                  try simp only [hn]
                  go_wp2_with (fail)
                  exact ⟨rfl, _, rfl, Below.refl _ _, rfl⟩
              · intro xs3 V3 hV3 hall
                simp only [flowAll, and_true, Nat.zero_add, Nat.reduceAdd] at hall
                obtain ⟨-, -, -, -, -, -, -, -, -, -, -, -, -, -, -, -, e16⟩ := hall
                simp only [flowAct, List.zipWith_cons_cons, List.zipWith_nil_left, e16]
                go_wp2
                go_ret
                exact ⟨rfl, HB8.out.trans (hV3.mono HB8.out.size)⟩
        | true =>
          rw [e2] at T2
          rw [Hw1.out e1 e2] at T3
          clear e1 e2
          cases e4 : vcov a0 a1 c0 c1 with
          | false =>
            rw [e4] at T4
            clear e4
            have HT1 := Lib.hid T1
            have HT2 := Lib.hid T2
            have HT3 := Lib.hid T3
            have HT4 := Lib.hid T4
            clear T1 T2 T3 T4 T5 T6 Hw1 Hw2 HCV
            have hcur := hV
            obtain ⟨⟨p0, p1⟩, ⟨q0, q1⟩, ⟨r0, r1⟩, ⟨y0, y1⟩, ⟨z0, z1⟩⟩ := HC5.out V hV
            clear hV
            go_upto_region 8 with (first
              | (go_at_call 10; (with_reducible refine (HT1.out _).mono ?_); rintro e w9 ⟨rfl, hb9⟩; (replace hcur := hcur.trans (hb9.mono hcur.size)); clear hb9; obtain ⟨⟨p0, p1⟩, ⟨q0, q1⟩, ⟨r0, r1⟩, ⟨y0, y1⟩, ⟨z0, z1⟩⟩ := HC5.out _ hcur)
              | (go_at_call 10; (with_reducible refine (HT2.out _).mono ?_); rintro e w9 ⟨rfl, hb9⟩; (replace hcur := hcur.trans (hb9.mono hcur.size)); clear hb9; obtain ⟨⟨p0, p1⟩, ⟨q0, q1⟩, ⟨r0, r1⟩, ⟨y0, y1⟩, ⟨z0, z1⟩⟩ := HC5.out _ hcur)
              | (go_at_call 10; (with_reducible refine (HT3.out _).mono ?_); rintro e w9 ⟨rfl, hb9⟩; (replace hcur := hcur.trans (hb9.mono hcur.size)); clear hb9; obtain ⟨⟨p0, p1⟩, ⟨q0, q1⟩, ⟨r0, r1⟩, ⟨y0, y1⟩, ⟨z0, z1⟩⟩ := HC5.out _ hcur)
              | (go_at_call 10; (with_reducible refine (HT4.out _).mono ?_); rintro e w9 ⟨rfl, hb9⟩; (replace hcur := hcur.trans (hb9.mono hcur.size)); clear hb9; obtain ⟨⟨p0, p1⟩, ⟨q0, q1⟩, ⟨r0, r1⟩, ⟨y0, y1⟩, ⟨z0, z1⟩⟩ := HC5.out _ hcur))
            have HC8 := Lib.hid (fun (V2 : World) (h) => HC5.out V2 (hcur.trans (Below.mono h hcur.size)))
            have HB8 := Lib.hid (HB6.out.trans (hcur.mono HB6.out.size))
            clear hcur p0 p1 q0 q1 r0 r1 y0 y1 z0 z1 HC5 HB6
            refine wp_region_flow [none, none, none, none, none, none, some 16, none, none, none, none, none, none, none, none, none, none, none, none, none, none, none, none, none, none, none, none, none, none, none, none, none, none, none, none, none, none, none, none, none, none, none, none, none, none, none, none, none, none, none, none, none, none, none, none, none, none, none, none, none, none, none, none, none, none, none, none, none, none, none, none, none, none, none, none, none, none, none, none, none, none, none, none, none, none, none, none, none, none, none, none, none, none, none, none, none, none, none, none, none, none, none, none, none, none, none, none, none, none, none, none, none, some 0, some 1, some 2, some 3, some 4, some 5, some 6, some 7, some 8, some 9, some 10, some 11, some 12, some 13, some 14, some 15] (fun i => if i = 16 then .bool false else undef) [(fun v _ => v = .agg #[.int .i64 a0, .int .i64 a1]), (fun v _ => v = .agg #[.int .i64 m0, .int .i64 m1]), (fun v W => ∃ g, v = .slice (some ⟨g, 0, none⟩) 2 2 ∧ Prs W (some ⟨g, 0, none⟩) 2 2 [(a0, a1), (m0, m1)]), (fun v _ => v = .agg #[.int .i64 a0, .int .i64 a1]), (fun v _ => v = .agg #[.int .i64 a0, .int .i64 a1]), (fun v _ => v = .bool true), (fun v _ => v = .bool true), (fun v _ => v = .agg #[.int .i64 a0, .int .i64 a1]), (fun v _ => v = .agg #[.int .i64 j0, .int .i64 j1]), (fun v _ => v = .agg #[.int .i64 a0, .int .i64 a1]), (fun v _ => v = .agg #[.int .i64 a0, .int .i64 a1]), (fun v _ => v = .bool true), (fun v _ => v = .bool true), (fun v _ => v = .bool true), (fun v _ => v = .bool true), (fun v _ => v = .bool true), (fun v _ => v = .bool true)] (by kernel_rfl) (by kernel_rfl) rfl rfl rfl ?_ ?_ ?_
            · intro g hg v X Y hX hY hv
              simp only [List.mem_cons, List.not_mem_nil, or_false] at hg
              rcases hg with rfl | rfl | rfl | rfl | rfl | rfl | rfl | rfl | rfl | rfl | rfl | rfl | rfl | rfl | rfl | rfl | rfl
              all_goals first
                | exact hv
                | (obtain ⟨b, h1, h2⟩ := hv; exact ⟨b, h1, h2.below hY⟩)
            · simp only [flowOps, and_true]
              refine ⟨?_, ?_, ?_, ?_, ?_, ?_, ?_, ?_, ?_, ?_, ?_, ?_, ?_, ?_, ?_, ?_, ?_⟩
              · intro xs2 V hV hn
                obtain ⟨⟨p0, p1⟩, ⟨q0, q1⟩, ⟨r0, r1⟩, ⟨y0, y1⟩, ⟨z0, z1⟩⟩ := HC8.out V hV
                simp only [flowAct, List.zipWith_cons_cons, List.zipWith_nil_left]
                try simp only [hn]
                go_wp2_with (fail)
                exact ⟨rfl, _, rfl, Below.refl _ _, rfl⟩
              · intro xs2 V hV hn
                obtain ⟨⟨p0, p1⟩, ⟨q0, q1⟩, ⟨r0, r1⟩, ⟨y0, y1⟩, ⟨z0, z1⟩⟩ := HC8.out V hV
                simp only [flowAct, List.zipWith_cons_cons, List.zipWith_nil_left]
                try simp only [hn]
                go_wp2_with (fail)
                exact ⟨rfl, _, rfl, Below.refl _ _, rfl⟩
              · intro xs2 V hV hn
                obtain ⟨⟨p0, p1⟩, ⟨q0, q1⟩, ⟨r0, r1⟩, ⟨y0, y1⟩, ⟨z0, z1⟩⟩ := HC8.out V hV
                simp [flowNeeds, Region.binds] at hn
                simp only [flowAct, List.zipWith_cons_cons, List.zipWith_nil_left]
                simp only [hn]
                go_wp2_with (fail)
                exact ⟨rfl, _, rfl, alloc_below _ _, ⟨_, rfl, prs2 _ _ _ _ _⟩⟩
              · intro xs2 V hV hn
                obtain ⟨⟨p0, p1⟩, ⟨q0, q1⟩, ⟨r0, r1⟩, ⟨y0, y1⟩, ⟨z0, z1⟩⟩ := HC8.out V hV
                simp [flowNeeds, Region.binds] at hn
                simp only [flowAct, List.zipWith_cons_cons, List.zipWith_nil_left]
                obtain ⟨g, e1, hy⟩ := hn
                simp only [e1]
                go_wp2_with (go_at_call 17; (with_reducible refine (HJ7.out _ _ hy).mono ?_); rintro e w9 ⟨rfl, hb9⟩)
                exact ⟨rfl, _, rfl, hb9, rfl⟩
              · intro xs2 V hV hn
                obtain ⟨⟨p0, p1⟩, ⟨q0, q1⟩, ⟨r0, r1⟩, ⟨y0, y1⟩, ⟨z0, z1⟩⟩ := HC8.out V hV
                simp [flowNeeds] at hn
                simp only [flowAct, List.zipWith_cons_cons, List.zipWith_nil_left]
                try simp only [hn]
                go_wp2_with (fail)
                exact ⟨rfl, _, rfl, Below.refl _ _, rfl⟩
              · intro xs2 V hV hn
                obtain ⟨⟨p0, p1⟩, ⟨q0, q1⟩, ⟨r0, r1⟩, ⟨y0, y1⟩, ⟨z0, z1⟩⟩ := HC8.out V hV
                simp [flowNeeds, Region.binds] at hn
                simp only [flowAct, List.zipWith_cons_cons, List.zipWith_nil_left]
                try simp only [hn]
                go_wp2_with (fail)
                exact ⟨rfl, _, rfl, Below.refl _ _, rfl⟩
              · intro xs2 V hV hn
                obtain ⟨⟨p0, p1⟩, ⟨q0, q1⟩, ⟨r0, r1⟩, ⟨y0, y1⟩, ⟨z0, z1⟩⟩ := HC8.out V hV
                simp [flowNeeds, Region.binds] at hn
                simp only [flowAct, List.zipWith_cons_cons, List.zipWith_nil_left]
                try simp only [hn]
                go_wp2_with (fail)
                exact ⟨rfl, _, rfl, Below.refl _ _, rfl⟩
              · intro xs2 V hV hn
                obtain ⟨⟨p0, p1⟩, ⟨q0, q1⟩, ⟨r0, r1⟩, ⟨y0, y1⟩, ⟨z0, z1⟩⟩ := HC8.out V hV
                simp [flowNeeds, Region.binds] at hn
                simp only [flowAct, List.zipWith_cons_cons, List.zipWith_nil_left]
                try simp only [hn]
                go_wp2_with (fail)
                exact ⟨rfl, _, rfl, Below.refl _ _, rfl⟩
              · intro xs2 V hV hn
                obtain ⟨⟨p0, p1⟩, ⟨q0, q1⟩, ⟨r0, r1⟩, ⟨y0, y1⟩, ⟨z0, z1⟩⟩ := HC8.out V hV
                simp [flowNeeds, Region.binds] at hn
                simp only [flowAct, List.zipWith_cons_cons, List.zipWith_nil_left]
                try simp only [hn]
                go_wp2_with (fail)
                exact ⟨rfl, _, rfl, Below.refl _ _, rfl⟩
              · intro xs2 V hV hn
                obtain ⟨⟨p0, p1⟩, ⟨q0, q1⟩, ⟨r0, r1⟩, ⟨y0, y1⟩, ⟨z0, z1⟩⟩ := HC8.out V hV
                simp [flowNeeds, Region.binds] at hn
                simp only [flowAct, List.zipWith_cons_cons, List.zipWith_nil_left]
                simp only [hn]
                go_wp2_with (go_at_call 14; (with_reducible refine (HM2.out _).mono ?_); rintro e w9 ⟨rfl, hb9⟩)
                exact ⟨rfl, _, rfl, hb9, rfl⟩
              · intro xs2 V hV hn
                obtain ⟨⟨p0, p1⟩, ⟨q0, q1⟩, ⟨r0, r1⟩, ⟨y0, y1⟩, ⟨z0, z1⟩⟩ := HC8.out V hV
                simp [flowNeeds, Region.binds] at hn
                simp only [flowAct, List.zipWith_cons_cons, List.zipWith_nil_left]
                try simp only [hn]
                go_wp2_with (fail)
                exact ⟨rfl, _, rfl, Below.refl _ _, rfl⟩
              · intro xs2 V hV hn
                obtain ⟨⟨p0, p1⟩, ⟨q0, q1⟩, ⟨r0, r1⟩, ⟨y0, y1⟩, ⟨z0, z1⟩⟩ := HC8.out V hV
                simp [flowNeeds, Region.binds] at hn
                simp only [flowAct, List.zipWith_cons_cons, List.zipWith_nil_left]
                try simp only [hn]
                go_wp2_with (fail)
                exact ⟨rfl, _, rfl, Below.refl _ _, rfl⟩
              · intro xs2 V hV hn
                obtain ⟨⟨p0, p1⟩, ⟨q0, q1⟩, ⟨r0, r1⟩, ⟨y0, y1⟩, ⟨z0, z1⟩⟩ := HC8.out V hV
                simp [flowNeeds, Region.binds] at hn
                simp only [flowAct, List.zipWith_cons_cons, List.zipWith_nil_left]
                try simp only [hn]
                go_wp2_with (fail)
                exact ⟨rfl, _, rfl, Below.refl _ _, rfl⟩
              · intro xs2 V hV hn
                obtain ⟨⟨p0, p1⟩, ⟨q0, q1⟩, ⟨r0, r1⟩, ⟨y0, y1⟩, ⟨z0, z1⟩⟩ := HC8.out V hV
                simp [flowNeeds, Region.binds] at hn
                simp only [flowAct, List.zipWith_cons_cons, List.zipWith_nil_left]
                try simp only [hn]
                go_wp2_with (fail)
                exact ⟨rfl, _, rfl, Below.refl _ _, rfl⟩
              · intro xs2 V hV hn
                obtain ⟨⟨p0, p1⟩, ⟨q0, q1⟩, ⟨r0, r1⟩, ⟨y0, y1⟩, ⟨z0, z1⟩⟩ := HC8.out V hV
                simp [flowNeeds, Region.binds] at hn
                simp only [flowAct, List.zipWith_cons_cons, List.zipWith_nil_left]
                simp only [hn]
                go_wp2_with (go_at_call 16; (with_reducible refine (HLv.out _).mono ?_); rintro e w9 ⟨rfl, hb9⟩)
                exact ⟨rfl, _, rfl, hb9, rfl⟩
              · intro xs2 V hV hn
                obtain ⟨⟨p0, p1⟩, ⟨q0, q1⟩, ⟨r0, r1⟩, ⟨y0, y1⟩, ⟨z0, z1⟩⟩ := HC8.out V hV
                simp [flowNeeds, Region.binds] at hn
                simp only [flowAct, List.zipWith_cons_cons, List.zipWith_nil_left]
                try simp only [hn]
                go_wp2_with (fail)
                exact ⟨rfl, _, rfl, Below.refl _ _, rfl⟩
              · intro xs2 V hV hn
                obtain ⟨⟨p0, p1⟩, ⟨q0, q1⟩, ⟨r0, r1⟩, ⟨y0, y1⟩, ⟨z0, z1⟩⟩ := HC8.out V hV
                simp [flowNeeds, Region.binds] at hn
                simp only [flowAct, List.zipWith_cons_cons, List.zipWith_nil_left]
                try simp only [hn]
                go_wp2_with (fail)
                exact ⟨rfl, _, rfl, Below.refl _ _, rfl⟩
            · intro xs3 V3 hV3 hall
              simp only [flowAll, and_true, Nat.zero_add, Nat.reduceAdd] at hall
              obtain ⟨-, -, -, -, -, -, -, -, -, -, -, -, -, -, -, -, e16⟩ := hall
              simp only [flowAct, List.zipWith_cons_cons, List.zipWith_nil_left, e16]
              go_wp2
              go_ret
              exact ⟨rfl, HB8.out.trans (hV3.mono HB8.out.size)⟩
          | true =>
            rw [e4] at T4
            cases e5 : vcov b0 b1 c0 c1 with
            | false =>
              rw [e5] at T5
              clear e4 e5
              have HT1 := Lib.hid T1
              have HT2 := Lib.hid T2
              have HT3 := Lib.hid T3
              have HT4 := Lib.hid T4
              have HT5 := Lib.hid T5
              clear T1 T2 T3 T4 T5 T6 Hw1 Hw2 HCV
              have hcur := hV
              obtain ⟨⟨p0, p1⟩, ⟨q0, q1⟩, ⟨r0, r1⟩, ⟨y0, y1⟩, ⟨z0, z1⟩⟩ := HC5.out V hV
              clear hV
              go_upto_region 8 with (first
                | (go_at_call 10; (with_reducible refine (HT1.out _).mono ?_); rintro e w9 ⟨rfl, hb9⟩; (replace hcur := hcur.trans (hb9.mono hcur.size)); clear hb9; obtain ⟨⟨p0, p1⟩, ⟨q0, q1⟩, ⟨r0, r1⟩, ⟨y0, y1⟩, ⟨z0, z1⟩⟩ := HC5.out _ hcur)
                | (go_at_call 10; (with_reducible refine (HT2.out _).mono ?_); rintro e w9 ⟨rfl, hb9⟩; (replace hcur := hcur.trans (hb9.mono hcur.size)); clear hb9; obtain ⟨⟨p0, p1⟩, ⟨q0, q1⟩, ⟨r0, r1⟩, ⟨y0, y1⟩, ⟨z0, z1⟩⟩ := HC5.out _ hcur)
                | (go_at_call 10; (with_reducible refine (HT3.out _).mono ?_); rintro e w9 ⟨rfl, hb9⟩; (replace hcur := hcur.trans (hb9.mono hcur.size)); clear hb9; obtain ⟨⟨p0, p1⟩, ⟨q0, q1⟩, ⟨r0, r1⟩, ⟨y0, y1⟩, ⟨z0, z1⟩⟩ := HC5.out _ hcur)
                | (go_at_call 10; (with_reducible refine (HT4.out _).mono ?_); rintro e w9 ⟨rfl, hb9⟩; (replace hcur := hcur.trans (hb9.mono hcur.size)); clear hb9; obtain ⟨⟨p0, p1⟩, ⟨q0, q1⟩, ⟨r0, r1⟩, ⟨y0, y1⟩, ⟨z0, z1⟩⟩ := HC5.out _ hcur)
                | (go_at_call 10; (with_reducible refine (HT5.out _).mono ?_); rintro e w9 ⟨rfl, hb9⟩; (replace hcur := hcur.trans (hb9.mono hcur.size)); clear hb9; obtain ⟨⟨p0, p1⟩, ⟨q0, q1⟩, ⟨r0, r1⟩, ⟨y0, y1⟩, ⟨z0, z1⟩⟩ := HC5.out _ hcur))
              have HC8 := Lib.hid (fun (V2 : World) (h) => HC5.out V2 (hcur.trans (Below.mono h hcur.size)))
              have HB8 := Lib.hid (HB6.out.trans (hcur.mono HB6.out.size))
              clear hcur p0 p1 q0 q1 r0 r1 y0 y1 z0 z1 HC5 HB6
              refine wp_region_flow [none, none, none, none, none, none, some 16, none, none, none, none, none, none, none, none, none, none, none, none, none, none, none, none, none, none, none, none, none, none, none, none, none, none, none, none, none, none, none, none, none, none, none, none, none, none, none, none, none, none, none, none, none, none, none, none, none, none, none, none, none, none, none, none, none, none, none, none, none, none, none, none, none, none, none, none, none, none, none, none, none, none, none, none, none, none, none, none, none, none, none, none, none, none, none, none, none, none, none, none, none, none, none, none, none, none, none, none, none, none, none, none, none, some 0, some 1, some 2, some 3, some 4, some 5, some 6, some 7, some 8, some 9, some 10, some 11, some 12, some 13, some 14, some 15] (fun i => if i = 16 then .bool false else undef) [(fun v _ => v = .agg #[.int .i64 a0, .int .i64 a1]), (fun v _ => v = .agg #[.int .i64 m0, .int .i64 m1]), (fun v W => ∃ g, v = .slice (some ⟨g, 0, none⟩) 2 2 ∧ Prs W (some ⟨g, 0, none⟩) 2 2 [(a0, a1), (m0, m1)]), (fun v _ => v = .agg #[.int .i64 a0, .int .i64 a1]), (fun v _ => v = .agg #[.int .i64 a0, .int .i64 a1]), (fun v _ => v = .bool true), (fun v _ => v = .bool true), (fun v _ => v = .agg #[.int .i64 a0, .int .i64 a1]), (fun v _ => v = .agg #[.int .i64 j0, .int .i64 j1]), (fun v _ => v = .agg #[.int .i64 a0, .int .i64 a1]), (fun v _ => v = .agg #[.int .i64 a0, .int .i64 a1]), (fun v _ => v = .bool true), (fun v _ => v = .bool true), (fun v _ => v = .bool true), (fun v _ => v = .bool true), (fun v _ => v = .bool true), (fun v _ => v = .bool true)] (by kernel_rfl) (by kernel_rfl) rfl rfl rfl ?_ ?_ ?_
              · intro g hg v X Y hX hY hv
                simp only [List.mem_cons, List.not_mem_nil, or_false] at hg
                rcases hg with rfl | rfl | rfl | rfl | rfl | rfl | rfl | rfl | rfl | rfl | rfl | rfl | rfl | rfl | rfl | rfl | rfl
                all_goals first
                  | exact hv
                  | (obtain ⟨b, h1, h2⟩ := hv; exact ⟨b, h1, h2.below hY⟩)
              · simp only [flowOps, and_true]
                refine ⟨?_, ?_, ?_, ?_, ?_, ?_, ?_, ?_, ?_, ?_, ?_, ?_, ?_, ?_, ?_, ?_, ?_⟩
                · intro xs2 V hV hn
                  obtain ⟨⟨p0, p1⟩, ⟨q0, q1⟩, ⟨r0, r1⟩, ⟨y0, y1⟩, ⟨z0, z1⟩⟩ := HC8.out V hV
                  simp only [flowAct, List.zipWith_cons_cons, List.zipWith_nil_left]
                  try simp only [hn]
                  go_wp2_with (fail)
                  exact ⟨rfl, _, rfl, Below.refl _ _, rfl⟩
                · intro xs2 V hV hn
                  obtain ⟨⟨p0, p1⟩, ⟨q0, q1⟩, ⟨r0, r1⟩, ⟨y0, y1⟩, ⟨z0, z1⟩⟩ := HC8.out V hV
                  simp only [flowAct, List.zipWith_cons_cons, List.zipWith_nil_left]
                  try simp only [hn]
                  go_wp2_with (fail)
                  exact ⟨rfl, _, rfl, Below.refl _ _, rfl⟩
                · intro xs2 V hV hn
                  obtain ⟨⟨p0, p1⟩, ⟨q0, q1⟩, ⟨r0, r1⟩, ⟨y0, y1⟩, ⟨z0, z1⟩⟩ := HC8.out V hV
                  simp [flowNeeds, Region.binds] at hn
                  simp only [flowAct, List.zipWith_cons_cons, List.zipWith_nil_left]
                  simp only [hn]
                  go_wp2_with (fail)
                  exact ⟨rfl, _, rfl, alloc_below _ _, ⟨_, rfl, prs2 _ _ _ _ _⟩⟩
                · intro xs2 V hV hn
                  obtain ⟨⟨p0, p1⟩, ⟨q0, q1⟩, ⟨r0, r1⟩, ⟨y0, y1⟩, ⟨z0, z1⟩⟩ := HC8.out V hV
                  simp [flowNeeds, Region.binds] at hn
                  simp only [flowAct, List.zipWith_cons_cons, List.zipWith_nil_left]
                  obtain ⟨g, e1, hy⟩ := hn
                  simp only [e1]
                  go_wp2_with (go_at_call 17; (with_reducible refine (HJ7.out _ _ hy).mono ?_); rintro e w9 ⟨rfl, hb9⟩)
                  exact ⟨rfl, _, rfl, hb9, rfl⟩
                · intro xs2 V hV hn
                  obtain ⟨⟨p0, p1⟩, ⟨q0, q1⟩, ⟨r0, r1⟩, ⟨y0, y1⟩, ⟨z0, z1⟩⟩ := HC8.out V hV
                  simp [flowNeeds] at hn
                  simp only [flowAct, List.zipWith_cons_cons, List.zipWith_nil_left]
                  try simp only [hn]
                  go_wp2_with (fail)
                  exact ⟨rfl, _, rfl, Below.refl _ _, rfl⟩
                · intro xs2 V hV hn
                  obtain ⟨⟨p0, p1⟩, ⟨q0, q1⟩, ⟨r0, r1⟩, ⟨y0, y1⟩, ⟨z0, z1⟩⟩ := HC8.out V hV
                  simp [flowNeeds, Region.binds] at hn
                  simp only [flowAct, List.zipWith_cons_cons, List.zipWith_nil_left]
                  try simp only [hn]
                  go_wp2_with (fail)
                  exact ⟨rfl, _, rfl, Below.refl _ _, rfl⟩
                · intro xs2 V hV hn
                  obtain ⟨⟨p0, p1⟩, ⟨q0, q1⟩, ⟨r0, r1⟩, ⟨y0, y1⟩, ⟨z0, z1⟩⟩ := HC8.out V hV
                  simp [flowNeeds, Region.binds] at hn
                  simp only [flowAct, List.zipWith_cons_cons, List.zipWith_nil_left]
                  try simp only [hn]
                  go_wp2_with (fail)
                  exact ⟨rfl, _, rfl, Below.refl _ _, rfl⟩
                · intro xs2 V hV hn
                  obtain ⟨⟨p0, p1⟩, ⟨q0, q1⟩, ⟨r0, r1⟩, ⟨y0, y1⟩, ⟨z0, z1⟩⟩ := HC8.out V hV
                  simp [flowNeeds, Region.binds] at hn
                  simp only [flowAct, List.zipWith_cons_cons, List.zipWith_nil_left]
                  try simp only [hn]
                  go_wp2_with (fail)
                  exact ⟨rfl, _, rfl, Below.refl _ _, rfl⟩
                · intro xs2 V hV hn
                  obtain ⟨⟨p0, p1⟩, ⟨q0, q1⟩, ⟨r0, r1⟩, ⟨y0, y1⟩, ⟨z0, z1⟩⟩ := HC8.out V hV
                  simp [flowNeeds, Region.binds] at hn
                  simp only [flowAct, List.zipWith_cons_cons, List.zipWith_nil_left]
                  try simp only [hn]
                  go_wp2_with (fail)
                  exact ⟨rfl, _, rfl, Below.refl _ _, rfl⟩
                · intro xs2 V hV hn
                  obtain ⟨⟨p0, p1⟩, ⟨q0, q1⟩, ⟨r0, r1⟩, ⟨y0, y1⟩, ⟨z0, z1⟩⟩ := HC8.out V hV
                  simp [flowNeeds, Region.binds] at hn
                  simp only [flowAct, List.zipWith_cons_cons, List.zipWith_nil_left]
                  simp only [hn]
                  go_wp2_with (go_at_call 14; (with_reducible refine (HM2.out _).mono ?_); rintro e w9 ⟨rfl, hb9⟩)
                  exact ⟨rfl, _, rfl, hb9, rfl⟩
                · intro xs2 V hV hn
                  obtain ⟨⟨p0, p1⟩, ⟨q0, q1⟩, ⟨r0, r1⟩, ⟨y0, y1⟩, ⟨z0, z1⟩⟩ := HC8.out V hV
                  simp [flowNeeds, Region.binds] at hn
                  simp only [flowAct, List.zipWith_cons_cons, List.zipWith_nil_left]
                  try simp only [hn]
                  go_wp2_with (fail)
                  exact ⟨rfl, _, rfl, Below.refl _ _, rfl⟩
                · intro xs2 V hV hn
                  obtain ⟨⟨p0, p1⟩, ⟨q0, q1⟩, ⟨r0, r1⟩, ⟨y0, y1⟩, ⟨z0, z1⟩⟩ := HC8.out V hV
                  simp [flowNeeds, Region.binds] at hn
                  simp only [flowAct, List.zipWith_cons_cons, List.zipWith_nil_left]
                  try simp only [hn]
                  go_wp2_with (fail)
                  exact ⟨rfl, _, rfl, Below.refl _ _, rfl⟩
                · intro xs2 V hV hn
                  obtain ⟨⟨p0, p1⟩, ⟨q0, q1⟩, ⟨r0, r1⟩, ⟨y0, y1⟩, ⟨z0, z1⟩⟩ := HC8.out V hV
                  simp [flowNeeds, Region.binds] at hn
                  simp only [flowAct, List.zipWith_cons_cons, List.zipWith_nil_left]
                  try simp only [hn]
                  go_wp2_with (fail)
                  exact ⟨rfl, _, rfl, Below.refl _ _, rfl⟩
                · intro xs2 V hV hn
                  obtain ⟨⟨p0, p1⟩, ⟨q0, q1⟩, ⟨r0, r1⟩, ⟨y0, y1⟩, ⟨z0, z1⟩⟩ := HC8.out V hV
                  simp [flowNeeds, Region.binds] at hn
                  simp only [flowAct, List.zipWith_cons_cons, List.zipWith_nil_left]
                  try simp only [hn]
                  go_wp2_with (fail)
                  exact ⟨rfl, _, rfl, Below.refl _ _, rfl⟩
                · intro xs2 V hV hn
                  obtain ⟨⟨p0, p1⟩, ⟨q0, q1⟩, ⟨r0, r1⟩, ⟨y0, y1⟩, ⟨z0, z1⟩⟩ := HC8.out V hV
                  simp [flowNeeds, Region.binds] at hn
                  simp only [flowAct, List.zipWith_cons_cons, List.zipWith_nil_left]
                  simp only [hn]
                  go_wp2_with (go_at_call 16; (with_reducible refine (HLv.out _).mono ?_); rintro e w9 ⟨rfl, hb9⟩)
                  exact ⟨rfl, _, rfl, hb9, rfl⟩
                · intro xs2 V hV hn
                  obtain ⟨⟨p0, p1⟩, ⟨q0, q1⟩, ⟨r0, r1⟩, ⟨y0, y1⟩, ⟨z0, z1⟩⟩ := HC8.out V hV
                  simp [flowNeeds, Region.binds] at hn
                  simp only [flowAct, List.zipWith_cons_cons, List.zipWith_nil_left]
                  try simp only [hn]
                  go_wp2_with (fail)
                  exact ⟨rfl, _, rfl, Below.refl _ _, rfl⟩
                · intro xs2 V hV hn
                  obtain ⟨⟨p0, p1⟩, ⟨q0, q1⟩, ⟨r0, r1⟩, ⟨y0, y1⟩, ⟨z0, z1⟩⟩ := HC8.out V hV
                  simp [flowNeeds, Region.binds] at hn
                  simp only [flowAct, List.zipWith_cons_cons, List.zipWith_nil_left]
                  try simp only [hn]
                  go_wp2_with (fail)
                  exact ⟨rfl, _, rfl, Below.refl _ _, rfl⟩
              · intro xs3 V3 hV3 hall
                simp only [flowAll, and_true, Nat.zero_add, Nat.reduceAdd] at hall
                obtain ⟨-, -, -, -, -, -, -, -, -, -, -, -, -, -, -, -, e16⟩ := hall
                simp only [flowAct, List.zipWith_cons_cons, List.zipWith_nil_left, e16]
                go_wp2
                go_ret
                exact ⟨rfl, HB8.out.trans (hV3.mono HB8.out.size)⟩
            | true =>
              rw [e5] at T5
              rw [Hw2.out e4 e5] at T6
              clear e4 e5
              have HT1 := Lib.hid T1
              have HT2 := Lib.hid T2
              have HT3 := Lib.hid T3
              have HT4 := Lib.hid T4
              have HT5 := Lib.hid T5
              have HT6 := Lib.hid T6
              clear T1 T2 T3 T4 T5 T6 Hw1 Hw2 HCV
              have hcur := hV
              obtain ⟨⟨p0, p1⟩, ⟨q0, q1⟩, ⟨r0, r1⟩, ⟨y0, y1⟩, ⟨z0, z1⟩⟩ := HC5.out V hV
              clear hV
              go_upto_region 8 with (first
                | (go_at_call 10; (with_reducible refine (HT1.out _).mono ?_); rintro e w9 ⟨rfl, hb9⟩; (replace hcur := hcur.trans (hb9.mono hcur.size)); clear hb9; obtain ⟨⟨p0, p1⟩, ⟨q0, q1⟩, ⟨r0, r1⟩, ⟨y0, y1⟩, ⟨z0, z1⟩⟩ := HC5.out _ hcur)
                | (go_at_call 10; (with_reducible refine (HT2.out _).mono ?_); rintro e w9 ⟨rfl, hb9⟩; (replace hcur := hcur.trans (hb9.mono hcur.size)); clear hb9; obtain ⟨⟨p0, p1⟩, ⟨q0, q1⟩, ⟨r0, r1⟩, ⟨y0, y1⟩, ⟨z0, z1⟩⟩ := HC5.out _ hcur)
                | (go_at_call 10; (with_reducible refine (HT3.out _).mono ?_); rintro e w9 ⟨rfl, hb9⟩; (replace hcur := hcur.trans (hb9.mono hcur.size)); clear hb9; obtain ⟨⟨p0, p1⟩, ⟨q0, q1⟩, ⟨r0, r1⟩, ⟨y0, y1⟩, ⟨z0, z1⟩⟩ := HC5.out _ hcur)
                | (go_at_call 10; (with_reducible refine (HT4.out _).mono ?_); rintro e w9 ⟨rfl, hb9⟩; (replace hcur := hcur.trans (hb9.mono hcur.size)); clear hb9; obtain ⟨⟨p0, p1⟩, ⟨q0, q1⟩, ⟨r0, r1⟩, ⟨y0, y1⟩, ⟨z0, z1⟩⟩ := HC5.out _ hcur)
                | (go_at_call 10; (with_reducible refine (HT5.out _).mono ?_); rintro e w9 ⟨rfl, hb9⟩; (replace hcur := hcur.trans (hb9.mono hcur.size)); clear hb9; obtain ⟨⟨p0, p1⟩, ⟨q0, q1⟩, ⟨r0, r1⟩, ⟨y0, y1⟩, ⟨z0, z1⟩⟩ := HC5.out _ hcur)
                | (go_at_call 10; (with_reducible refine (HT6.out _).mono ?_); rintro e w9 ⟨rfl, hb9⟩; (replace hcur := hcur.trans (hb9.mono hcur.size)); clear hb9; obtain ⟨⟨p0, p1⟩, ⟨q0, q1⟩, ⟨r0, r1⟩, ⟨y0, y1⟩, ⟨z0, z1⟩⟩ := HC5.out _ hcur))
              have HC8 := Lib.hid (fun (V2 : World) (h) => HC5.out V2 (hcur.trans (Below.mono h hcur.size)))
              have HB8 := Lib.hid (HB6.out.trans (hcur.mono HB6.out.size))
              clear hcur p0 p1 q0 q1 r0 r1 y0 y1 z0 z1 HC5 HB6
              refine wp_region_flow [none, none, none, none, none, none, some 16, none, none, none, none, none, none, none, none, none, none, none, none, none, none, none, none, none, none, none, none, none, none, none, none, none, none, none, none, none, none, none, none, none, none, none, none, none, none, none, none, none, none, none, none, none, none, none, none, none, none, none, none, none, none, none, none, none, none, none, none, none, none, none, none, none, none, none, none, none, none, none, none, none, none, none, none, none, none, none, none, none, none, none, none, none, none, none, none, none, none, none, none, none, none, none, none, none, none, none, none, none, none, none, none, none, some 0, some 1, some 2, some 3, some 4, some 5, some 6, some 7, some 8, some 9, some 10, some 11, some 12, some 13, some 14, some 15] (fun i => if i = 16 then .bool false else undef) [(fun v _ => v = .agg #[.int .i64 a0, .int .i64 a1]), (fun v _ => v = .agg #[.int .i64 m0, .int .i64 m1]), (fun v W => ∃ g, v = .slice (some ⟨g, 0, none⟩) 2 2 ∧ Prs W (some ⟨g, 0, none⟩) 2 2 [(a0, a1), (m0, m1)]), (fun v _ => v = .agg #[.int .i64 a0, .int .i64 a1]), (fun v _ => v = .agg #[.int .i64 a0, .int .i64 a1]), (fun v _ => v = .bool true), (fun v _ => v = .bool true), (fun v _ => v = .agg #[.int .i64 a0, .int .i64 a1]), (fun v _ => v = .agg #[.int .i64 j0, .int .i64 j1]), (fun v _ => v = .agg #[.int .i64 a0, .int .i64 a1]), (fun v _ => v = .agg #[.int .i64 a0, .int .i64 a1]), (fun v _ => v = .bool true), (fun v _ => v = .bool true), (fun v _ => v = .bool true), (fun v _ => v = .bool true), (fun v _ => v = .bool true), (fun v _ => v = .bool true)] (by kernel_rfl) (by kernel_rfl) rfl rfl rfl ?_ ?_ ?_
              · intro g hg v X Y hX hY hv
                simp only [List.mem_cons, List.not_mem_nil, or_false] at hg
                rcases hg with rfl | rfl | rfl | rfl | rfl | rfl | rfl | rfl | rfl | rfl | rfl | rfl | rfl | rfl | rfl | rfl | rfl
                all_goals first
                  | exact hv
                  | (obtain ⟨b, h1, h2⟩ := hv; exact ⟨b, h1, h2.below hY⟩)
              · simp only [flowOps, and_true]
                refine ⟨?_, ?_, ?_, ?_, ?_, ?_, ?_, ?_, ?_, ?_, ?_, ?_, ?_, ?_, ?_, ?_, ?_⟩
                · intro xs2 V hV hn
                  obtain ⟨⟨p0, p1⟩, ⟨q0, q1⟩, ⟨r0, r1⟩, ⟨y0, y1⟩, ⟨z0, z1⟩⟩ := HC8.out V hV
                  simp only [flowAct, List.zipWith_cons_cons, List.zipWith_nil_left]
                  try simp only [hn]
                  go_wp2_with (fail)
                  exact ⟨rfl, _, rfl, Below.refl _ _, rfl⟩
                · intro xs2 V hV hn
                  obtain ⟨⟨p0, p1⟩, ⟨q0, q1⟩, ⟨r0, r1⟩, ⟨y0, y1⟩, ⟨z0, z1⟩⟩ := HC8.out V hV
                  simp only [flowAct, List.zipWith_cons_cons, List.zipWith_nil_left]
                  try simp only [hn]
                  go_wp2_with (fail)
                  exact ⟨rfl, _, rfl, Below.refl _ _, rfl⟩
                · intro xs2 V hV hn
                  obtain ⟨⟨p0, p1⟩, ⟨q0, q1⟩, ⟨r0, r1⟩, ⟨y0, y1⟩, ⟨z0, z1⟩⟩ := HC8.out V hV
                  simp [flowNeeds, Region.binds] at hn
                  simp only [flowAct, List.zipWith_cons_cons, List.zipWith_nil_left]
                  simp only [hn]
                  go_wp2_with (fail)
                  exact ⟨rfl, _, rfl, alloc_below _ _, ⟨_, rfl, prs2 _ _ _ _ _⟩⟩
                · intro xs2 V hV hn
                  obtain ⟨⟨p0, p1⟩, ⟨q0, q1⟩, ⟨r0, r1⟩, ⟨y0, y1⟩, ⟨z0, z1⟩⟩ := HC8.out V hV
                  simp [flowNeeds, Region.binds] at hn
                  simp only [flowAct, List.zipWith_cons_cons, List.zipWith_nil_left]
                  obtain ⟨g, e1, hy⟩ := hn
                  simp only [e1]
                  go_wp2_with (go_at_call 17; (with_reducible refine (HJ7.out _ _ hy).mono ?_); rintro e w9 ⟨rfl, hb9⟩)
                  exact ⟨rfl, _, rfl, hb9, rfl⟩
                · intro xs2 V hV hn
                  obtain ⟨⟨p0, p1⟩, ⟨q0, q1⟩, ⟨r0, r1⟩, ⟨y0, y1⟩, ⟨z0, z1⟩⟩ := HC8.out V hV
                  simp [flowNeeds] at hn
                  simp only [flowAct, List.zipWith_cons_cons, List.zipWith_nil_left]
                  try simp only [hn]
                  go_wp2_with (fail)
                  exact ⟨rfl, _, rfl, Below.refl _ _, rfl⟩
                · intro xs2 V hV hn
                  obtain ⟨⟨p0, p1⟩, ⟨q0, q1⟩, ⟨r0, r1⟩, ⟨y0, y1⟩, ⟨z0, z1⟩⟩ := HC8.out V hV
                  simp [flowNeeds, Region.binds] at hn
                  simp only [flowAct, List.zipWith_cons_cons, List.zipWith_nil_left]
                  try simp only [hn]
                  go_wp2_with (fail)
                  exact ⟨rfl, _, rfl, Below.refl _ _, rfl⟩
                · intro xs2 V hV hn
                  obtain ⟨⟨p0, p1⟩, ⟨q0, q1⟩, ⟨r0, r1⟩, ⟨y0, y1⟩, ⟨z0, z1⟩⟩ := HC8.out V hV
                  simp [flowNeeds, Region.binds] at hn
                  simp only [flowAct, List.zipWith_cons_cons, List.zipWith_nil_left]
                  try simp only [hn]
                  go_wp2_with (fail)
                  exact ⟨rfl, _, rfl, Below.refl _ _, rfl⟩
                · intro xs2 V hV hn
                  obtain ⟨⟨p0, p1⟩, ⟨q0, q1⟩, ⟨r0, r1⟩, ⟨y0, y1⟩, ⟨z0, z1⟩⟩ := HC8.out V hV
                  simp [flowNeeds, Region.binds] at hn
                  simp only [flowAct, List.zipWith_cons_cons, List.zipWith_nil_left]
                  try simp only [hn]
                  go_wp2_with (fail)
                  exact ⟨rfl, _, rfl, Below.refl _ _, rfl⟩
                · intro xs2 V hV hn
                  obtain ⟨⟨p0, p1⟩, ⟨q0, q1⟩, ⟨r0, r1⟩, ⟨y0, y1⟩, ⟨z0, z1⟩⟩ := HC8.out V hV
                  simp [flowNeeds, Region.binds] at hn
                  simp only [flowAct, List.zipWith_cons_cons, List.zipWith_nil_left]
                  try simp only [hn]
                  go_wp2_with (fail)
                  exact ⟨rfl, _, rfl, Below.refl _ _, rfl⟩
                · intro xs2 V hV hn
                  obtain ⟨⟨p0, p1⟩, ⟨q0, q1⟩, ⟨r0, r1⟩, ⟨y0, y1⟩, ⟨z0, z1⟩⟩ := HC8.out V hV
                  simp [flowNeeds, Region.binds] at hn
                  simp only [flowAct, List.zipWith_cons_cons, List.zipWith_nil_left]
                  simp only [hn]
                  go_wp2_with (go_at_call 14; (with_reducible refine (HM2.out _).mono ?_); rintro e w9 ⟨rfl, hb9⟩)
                  exact ⟨rfl, _, rfl, hb9, rfl⟩
                · intro xs2 V hV hn
                  obtain ⟨⟨p0, p1⟩, ⟨q0, q1⟩, ⟨r0, r1⟩, ⟨y0, y1⟩, ⟨z0, z1⟩⟩ := HC8.out V hV
                  simp [flowNeeds, Region.binds] at hn
                  simp only [flowAct, List.zipWith_cons_cons, List.zipWith_nil_left]
                  try simp only [hn]
                  go_wp2_with (fail)
                  exact ⟨rfl, _, rfl, Below.refl _ _, rfl⟩
                · intro xs2 V hV hn
                  obtain ⟨⟨p0, p1⟩, ⟨q0, q1⟩, ⟨r0, r1⟩, ⟨y0, y1⟩, ⟨z0, z1⟩⟩ := HC8.out V hV
                  simp [flowNeeds, Region.binds] at hn
                  simp only [flowAct, List.zipWith_cons_cons, List.zipWith_nil_left]
                  try simp only [hn]
                  go_wp2_with (fail)
                  exact ⟨rfl, _, rfl, Below.refl _ _, rfl⟩
                · intro xs2 V hV hn
                  obtain ⟨⟨p0, p1⟩, ⟨q0, q1⟩, ⟨r0, r1⟩, ⟨y0, y1⟩, ⟨z0, z1⟩⟩ := HC8.out V hV
                  simp [flowNeeds, Region.binds] at hn
                  simp only [flowAct, List.zipWith_cons_cons, List.zipWith_nil_left]
                  try simp only [hn]
                  go_wp2_with (fail)
                  exact ⟨rfl, _, rfl, Below.refl _ _, rfl⟩
                · intro xs2 V hV hn
                  obtain ⟨⟨p0, p1⟩, ⟨q0, q1⟩, ⟨r0, r1⟩, ⟨y0, y1⟩, ⟨z0, z1⟩⟩ := HC8.out V hV
                  simp [flowNeeds, Region.binds] at hn
                  simp only [flowAct, List.zipWith_cons_cons, List.zipWith_nil_left]
                  try simp only [hn]
                  go_wp2_with (fail)
                  exact ⟨rfl, _, rfl, Below.refl _ _, rfl⟩
                · intro xs2 V hV hn
                  obtain ⟨⟨p0, p1⟩, ⟨q0, q1⟩, ⟨r0, r1⟩, ⟨y0, y1⟩, ⟨z0, z1⟩⟩ := HC8.out V hV
                  simp [flowNeeds, Region.binds] at hn
                  simp only [flowAct, List.zipWith_cons_cons, List.zipWith_nil_left]
                  simp only [hn]
                  go_wp2_with (go_at_call 16; (with_reducible refine (HLv.out _).mono ?_); rintro e w9 ⟨rfl, hb9⟩)
                  exact ⟨rfl, _, rfl, hb9, rfl⟩
                · intro xs2 V hV hn
                  obtain ⟨⟨p0, p1⟩, ⟨q0, q1⟩, ⟨r0, r1⟩, ⟨y0, y1⟩, ⟨z0, z1⟩⟩ := HC8.out V hV
                  simp [flowNeeds, Region.binds] at hn
                  simp only [flowAct, List.zipWith_cons_cons, List.zipWith_nil_left]
                  try simp only [hn]
                  go_wp2_with (fail)
                  exact ⟨rfl, _, rfl, Below.refl _ _, rfl⟩
                · intro xs2 V hV hn
                  obtain ⟨⟨p0, p1⟩, ⟨q0, q1⟩, ⟨r0, r1⟩, ⟨y0, y1⟩, ⟨z0, z1⟩⟩ := HC8.out V hV
                  simp [flowNeeds, Region.binds] at hn
                  simp only [flowAct, List.zipWith_cons_cons, List.zipWith_nil_left]
                  try simp only [hn]
                  go_wp2_with (fail)
                  exact ⟨rfl, _, rfl, Below.refl _ _, rfl⟩
              · intro xs3 V3 hV3 hall
                simp only [flowAll, and_true, Nat.zero_add, Nat.reduceAdd] at hall
                obtain ⟨-, -, -, -, -, -, -, -, -, -, -, -, -, -, -, -, e16⟩ := hall
                simp only [flowAct, List.zipWith_cons_cons, List.zipWith_nil_left, e16]
                go_wp2
                go_ret
                exact ⟨rfl, HB8.out.trans (hV3.mono HB8.out.size)⟩
end Go.Proofs.Ytjlolljlhoclhaa
