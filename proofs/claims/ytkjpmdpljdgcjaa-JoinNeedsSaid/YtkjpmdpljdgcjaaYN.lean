/-
  Join: the laws' lives; the walks of JoinTells and JoinNeeds.
-/
import Derived.Test.YtkjpmdpljdgcjaaYI
import Derived.Test.YtkjpmdpljdgcjaaYM
namespace Go.Proofs.Ytkjpmdpljdgcjaa
open Go.RowKit Go Go.Sort
set_option linter.unusedVariables false
set_option maxRecDepth 20000

set_option maxHeartbeats 3200000 in
theorem jlives_c (w : World) : Calls Try.prog 10 #[] w (Tells (.bool true) w) := by
  have hT3 : text [120] = ⟨#[120]⟩ := rfl
  have hT0 : text ([] : List UInt8) = ⟨#[]⟩ := rfl
  have hp := (Cel.new w 5 1 0 0 false [120] 0 0).alloc (.cells #[.int .i64 5, .int .i64 2, .int .i64 0, .int .i64 0, .bool true, .string (text []), .int .i64 0, .int .i64 0] 27)
  have hq := Cel.new (w.alloc (.cells #[.int .i64 5, .int .i64 1, .int .i64 0, .int .i64 0, .bool false, .string (text [120]), .int .i64 0, .int .i64 0] 27)) 5 2 0 0 true [] 0 0
  rw [World.size_alloc] at hq
  have hb := (alloc_below w (.cells #[.int .i64 5, .int .i64 1, .int .i64 0, .int .i64 0, .bool false, .string (text [120]), .int .i64 0, .int .i64 0] 27)).alloc (by simp) (.cells #[.int .i64 5, .int .i64 2, .int .i64 0, .int .i64 0, .bool true, .string (text []), .int .i64 0, .int .i64 0] 27)
  have HJ := Lib.hid (fun W => join_c (cls2 W 5 1 0 0 false [120] 0 0 5 2 0 0 true [] 0 0))
  rw [show joinC [⟨5, 1, 0, 0, false, [120], 0, 0⟩, ⟨5, 2, 0, 0, true, [], 0, 0⟩] = ⟨5, 2, 0, 0, true, [], 0, 0⟩ from ex_join] at HJ
  have HW1 := Lib.hid (fun W => within_c 5 2 0 0 true [] 0 0 5 1 0 0 false [120] 0 0 W)
  rw [show withinS ⟨5, 2, 0, 0, true, [], 0, 0⟩ ⟨5, 1, 0, 0, false, [120], 0, 0⟩ = false from ex_with.1] at HW1
  have HW2 := Lib.hid (fun W => within_c 5 1 0 0 false [120] 0 0 5 2 0 0 true [] 0 0 W)
  rw [show withinS ⟨5, 1, 0, 0, false, [120], 0, 0⟩ ⟨5, 2, 0, 0, true, [], 0, 0⟩ = true from ex_with.2] at HW2
  have hceq := cell_eqb 5 2 0 0 true [] 0 0 5 2 0 0 true [] 0 0 true (cellEq_self _ _ _ _ _ _ _ _)
  have hceg := cell_eqg
  simp only [Cl.arr] at HJ
  rw [hT3, hT0] at hp hq hb HJ HW1 HW2
  rw [hT0] at hceq
  have HB := Lib.hid hb
  clear hb
  go_enter Try.func10, Try.ntmps10
  go_upto_region 3 with (fail)
  generalize (w.alloc (.cells #[.int .i64 5, .int .i64 1, .int .i64 0, .int .i64 0, .bool false, .string ⟨#[120]⟩, .int .i64 0, .int .i64 0] 27)).alloc (.cells #[.int .i64 5, .int .i64 2, .int .i64 0, .int .i64 0, .bool true, .string ⟨#[]⟩, .int .i64 0, .int .i64 0] 27) = W1 at *
  have HCW := Lib.hid (fun W (h : Below W1.heap.size W1 W) => And.intro (hp.kept h).cs (hq.kept h).cs)
  rw [hT3, hT0] at HCW
  clear hp hq
  have hcur := Below.refl W1.heap.size W1
  obtain ⟨⟨c0, c1, c2, c3, c4, c5, c6, c7⟩, k0, k1, k2, k3, k4, k5, k6, k7⟩ := HCW.out _ hcur
  go_upto_region 4 with (go_at_call 13; (with_reducible refine (HJ.out _).mono ?_); rintro e9 w9 ⟨rfl, hb9⟩)
  replace hcur := (hcur.alloc hcur.size _).trans (hb9.mono (by simp))
  have hj := Cel.new w9 5 2 0 0 true [] 0 0
  rw [hT0] at hj
  replace hcur := hcur.alloc hcur.size (.cells #[.int .i64 5, .int .i64 2, .int .i64 0, .int .i64 0, .bool true, .string ⟨#[]⟩, .int .i64 0, .int .i64 0] 27)
  clear hb9 HJ
  obtain ⟨gj, hgj⟩ : ∃ q, w9.heap.size = q := ⟨_, rfl⟩
  rw [hgj] at hj ⊢
  generalize w9.alloc (.cells #[.int .i64 5, .int .i64 2, .int .i64 0, .int .i64 0, .bool true, .string ⟨#[]⟩, .int .i64 0, .int .i64 0] 27) = W2 at *
  obtain ⟨⟨c0, c1, c2, c3, c4, c5, c6, c7⟩, k0, k1, k2, k3, k4, k5, k6, k7⟩ := HCW.out _ hcur
  obtain ⟨j0, j1, j2, j3, j4, j5, j6, j7⟩ := hj.cs
  rw [hT0] at j5
  clear hj hT3 hT0 hgj
  go_wp2_with (first
    | (go_at_call 15; (with_reducible refine (HW1.out _).mono ?_); rintro e9 w9 ⟨rfl, hb9⟩; (replace hcur := hcur.trans (hb9.mono hcur.size)); clear hb9; obtain ⟨⟨c0, c1, c2, c3, c4, c5, c6, c7⟩, k0, k1, k2, k3, k4, k5, k6, k7⟩ := HCW.out _ hcur)
    | (go_at_call 15; (with_reducible refine (HW2.out _).mono ?_); rintro e9 w9 ⟨rfl, hb9⟩; (replace hcur := hcur.trans (hb9.mono hcur.size)); clear hb9; obtain ⟨⟨c0, c1, c2, c3, c4, c5, c6, c7⟩, k0, k1, k2, k3, k4, k5, k6, k7⟩ := HCW.out _ hcur))
  go_ret
  exact ⟨rfl, HB.out.trans (hcur.mono HB.out.size)⟩

set_option maxRecDepth 100000 in
set_option maxHeartbeats 6400000 in
theorem jtells_walk (n s a b : Int) (g : Bool) (t : List UInt8) (d e : Int) (n' s' a' b' : Int) (g' : Bool) (t' : List UInt8) (d' e' : Int) {w : World} {x : Option Addr} {m cap : Nat} {l : List Cl} (hl : Cls w x m cap l) :
    Calls Try.prog 3 #[.agg #[.int .i64 n, .int .i64 s, .int .i64 a, .int .i64 b, .bool g, .string (text t), .int .i64 d, .int .i64 e], .agg #[.int .i64 n', .int .i64 s', .int .i64 a', .int .i64 b', .bool g', .string (text t'), .int .i64 d', .int .i64 e'], .slice x m cap] w (Tells (.bool true) w) := by
  have hp := (Cel.new w n s a b g t d e).alloc (.cells #[.int .i64 n', .int .i64 s', .int .i64 a', .int .i64 b', .bool g', .string (text t'), .int .i64 d', .int .i64 e'] 27)
  have hq := Cel.new (w.alloc (.cells #[.int .i64 n, .int .i64 s, .int .i64 a, .int .i64 b, .bool g, .string (text t), .int .i64 d, .int .i64 e] 27)) n' s' a' b' g' t' d' e'
  rw [World.size_alloc] at hq
  have hb := (alloc_below w (.cells #[.int .i64 n, .int .i64 s, .int .i64 a, .int .i64 b, .bool g, .string (text t), .int .i64 d, .int .i64 e] 27)).alloc (by simp) (.cells #[.int .i64 n', .int .i64 s', .int .i64 a', .int .i64 b', .bool g', .string (text t'), .int .i64 d', .int .i64 e'] 27)
  have HB := Lib.hid hb
  have HLv := Lib.hid jlives_c
  have hL := fun W => less_c n s a b g t d e n' s' a' b' g' t' d' e' W
  have hRL := fun W => rless_c n s a b g t d e n' s' a' b' g' t' d' e' W
  have hWI := fun W => within_c n s a b g t d e n' s' a' b' g' t' d' e' W
  have hRW := fun W => rwithin_c n s a b g t d e n' s' a' b' g' t' d' e' W
  have hJ := fun W (h : Below w.heap.size w W) => join_c (hl.below h)
  have hRJ := fun W (h : Below w.heap.size w W) => rjoin_c (hl.below h)
  obtain ⟨L, h1⟩ : ∃ q, lessS ⟨n, s, a, b, g, t, d, e⟩ ⟨n', s', a', b', g', t', d', e'⟩ = q := ⟨_, rfl⟩
  obtain ⟨R, h2⟩ : ∃ q, withinS ⟨n, s, a, b, g, t, d, e⟩ ⟨n', s', a', b', g', t', d', e'⟩ = q := ⟨_, rfl⟩
  obtain ⟨J, h3⟩ : ∃ q, joinC l = q := ⟨_, rfl⟩
  rw [h1] at hL hRL
  rw [h2] at hWI hRW
  rw [h3] at hJ hRJ
  obtain ⟨n'', s'', a'', b'', g'', t'', d'', e''⟩ := J
  simp only [Cl.arr] at hJ hRJ
  have hceq := cell_eqb n'' s'' a'' b'' g'' t'' d'' e'' n'' s'' a'' b'' g'' t'' d'' e'' true (cellEq_self _ _ _ _ _ _ _ _)
  have hceg := cell_eqg
  have HL := Lib.hid hL
  have HRL := Lib.hid hRL
  have HW := Lib.hid hWI
  have HRW := Lib.hid hRW
  have HJ0 := Lib.hid hJ
  have HRJ0 := Lib.hid hRJ
  clear hL hRL hWI hRW hJ hRJ h1 h2 h3 hb hl
  by_cases hm : 300 < m
  · have hmi : (300 : Int) < (m : Int) := by omega
    clear hp hq hceq hceg
    go_enter Try.func3, Try.ntmps3
    go_wp2_with (go_at_call 10; (with_reducible refine (HLv.out _).mono ?_); rintro e9 w9 ⟨rfl, hb9⟩)
    go_ret
    exact ⟨rfl, HB.out.trans (hb9.mono HB.out.size)⟩
  · have hmi : ¬ (300 : Int) < (m : Int) := by omega
    go_enter Try.func3, Try.ntmps3
    go_upto_region 3 with (fail)
    generalize (w.alloc (.cells #[.int .i64 n, .int .i64 s, .int .i64 a, .int .i64 b, .bool g, .string (text t), .int .i64 d, .int .i64 e] 27)).alloc (.cells #[.int .i64 n', .int .i64 s', .int .i64 a', .int .i64 b', .bool g', .string (text t'), .int .i64 d', .int .i64 e'] 27) = W1 at *
    have HJ := Lib.hid (fun W (h : Below W1.heap.size W1 W) => HJ0.out W (HB.out.trans (h.mono HB.out.size)))
    have HRJ := Lib.hid (fun W (h : Below W1.heap.size W1 W) => HRJ0.out W (HB.out.trans (h.mono HB.out.size)))
    have HCW := Lib.hid (fun W (h : Below W1.heap.size W1 W) => And.intro (hp.kept h).cs (hq.kept h).cs)
    clear hp hq HJ0 HRJ0
    refine wp_region_flow_tail 26 [none, none, none, none, none, none, none, none, none, none, none, some 0, some 1, some 2, some 3, some 4, some 5, some 6, some 7, some 8, some 9, some 10, some 11, some 12, some 13, some 14, some 15, some 16, some 17, some 18, some 19, some 20, some 21, some 22, some 23, some 24, some 25] (fun i => [undef, undef, undef, undef, undef, undef, undef, undef, undef, undef, undef, undef, undef, undef, undef, undef, undef, undef, undef, undef, undef, undef, undef, undef, undef, undef].getD i undef) [(fun v _ => v = .agg #[.int .i64 n, .int .i64 s, .int .i64 a, .int .i64 b, .bool g, .string (text t), .int .i64 d, .int .i64 e]), (fun v _ => v = .agg #[.int .i64 n', .int .i64 s', .int .i64 a', .int .i64 b', .bool g', .string (text t'), .int .i64 d', .int .i64 e']), (fun v _ => v = .bool L), (fun v _ => v = .agg #[.int .i64 n, .int .i64 s, .int .i64 a, .int .i64 b, .bool g, .string (text t), .int .i64 d, .int .i64 e]), (fun v _ => v = .agg #[.int .i64 n', .int .i64 s', .int .i64 a', .int .i64 b', .bool g', .string (text t'), .int .i64 d', .int .i64 e']), (fun v _ => v = .bool L), (fun v _ => v = .bool true), (fun v _ => v = .bool true), (fun v _ => v = .slice x m cap), (fun v _ => v = .agg #[.int .i64 n'', .int .i64 s'', .int .i64 a'', .int .i64 b'', .bool g'', .string (text t''), .int .i64 d'', .int .i64 e'']), (fun v _ => v = .slice x m cap), (fun v _ => v = .agg #[.int .i64 n'', .int .i64 s'', .int .i64 a'', .int .i64 b'', .bool g'', .string (text t''), .int .i64 d'', .int .i64 e'']), (fun v _ => v = .bool true), (fun v _ => v = .bool true), (fun v _ => v = .bool true), (fun v _ => v = .agg #[.int .i64 n, .int .i64 s, .int .i64 a, .int .i64 b, .bool g, .string (text t), .int .i64 d, .int .i64 e]), (fun v _ => v = .agg #[.int .i64 n', .int .i64 s', .int .i64 a', .int .i64 b', .bool g', .string (text t'), .int .i64 d', .int .i64 e']), (fun v _ => v = .bool R), (fun v _ => v = .agg #[.int .i64 n, .int .i64 s, .int .i64 a, .int .i64 b, .bool g, .string (text t), .int .i64 d, .int .i64 e]), (fun v _ => v = .agg #[.int .i64 n', .int .i64 s', .int .i64 a', .int .i64 b', .bool g', .string (text t'), .int .i64 d', .int .i64 e']), (fun v _ => v = .bool R), (fun v _ => v = .bool true), (fun v _ => v = .bool true), (fun v _ => v = .bool true), (fun v _ => v = .bool true), (fun v _ => v = .bool true)] (fun _ => False) (by kernel_rfl) (by kernel_rfl) (by kernel_rfl) rfl rfl rfl ?_ ?_ ?_
    · intro g hg v X Y hX hY hv
      simp only [List.mem_cons, List.not_mem_nil, or_false] at hg
      rcases hg with rfl | rfl | rfl | rfl | rfl | rfl | rfl | rfl | rfl | rfl | rfl | rfl | rfl | rfl | rfl | rfl | rfl | rfl | rfl | rfl | rfl | rfl | rfl | rfl | rfl | rfl
      all_goals first
        | exact hv
        | exact hv.kept hY
    · simp only [flowOpsF, List.take_succ_cons, List.take_zero, and_true]
      refine ⟨?_, ?_, ?_, ?_, ?_, ?_, ?_, ?_, ?_, ?_, ?_, ?_, ?_, ?_, ?_, ?_, ?_, ?_, ?_, ?_, ?_, ?_, ?_, ?_, ?_, ?_⟩
      · intro xs W hW hn
        obtain ⟨⟨c0, c1, c2, c3, c4, c5, c6, c7⟩, k0, k1, k2, k3, k4, k5, k6, k7⟩ := HCW.out W hW
        simp only [flowAct, List.zipWith_cons_cons, List.zipWith_nil_left]
        go_wp2_with (fail)
        exact ⟨rfl, _, rfl, Below.refl _ _, rfl, fun h => h.elim⟩
      · intro xs W hW hn
        obtain ⟨⟨c0, c1, c2, c3, c4, c5, c6, c7⟩, k0, k1, k2, k3, k4, k5, k6, k7⟩ := HCW.out W hW
        simp only [flowAct, List.zipWith_cons_cons, List.zipWith_nil_left]
        go_wp2_with (fail)
        exact ⟨rfl, _, rfl, Below.refl _ _, rfl, fun h => h.elim⟩
      · intro xs W hW hn
        try simp [flowNeeds, Region.binds] at hn
        simp only [flowAct, List.zipWith_cons_cons, List.zipWith_nil_left]
        try simp only [hn]
        go_wp2_with (go_at_call 11; (with_reducible refine (HL.out _).mono ?_); rintro e9 w9 ⟨rfl, hb9⟩)
        exact ⟨rfl, _, rfl, hb9, rfl, fun h => h.elim⟩
      · intro xs W hW hn
        obtain ⟨⟨c0, c1, c2, c3, c4, c5, c6, c7⟩, k0, k1, k2, k3, k4, k5, k6, k7⟩ := HCW.out W hW
        simp only [flowAct, List.zipWith_cons_cons, List.zipWith_nil_left]
        go_wp2_with (fail)
        exact ⟨rfl, _, rfl, Below.refl _ _, rfl, fun h => h.elim⟩
      · intro xs W hW hn
        obtain ⟨⟨c0, c1, c2, c3, c4, c5, c6, c7⟩, k0, k1, k2, k3, k4, k5, k6, k7⟩ := HCW.out W hW
        simp only [flowAct, List.zipWith_cons_cons, List.zipWith_nil_left]
        go_wp2_with (fail)
        exact ⟨rfl, _, rfl, Below.refl _ _, rfl, fun h => h.elim⟩
      · intro xs W hW hn
        try simp [flowNeeds, Region.binds] at hn
        simp only [flowAct, List.zipWith_cons_cons, List.zipWith_nil_left]
        try simp only [hn]
        go_wp2_with (go_at_call 12; (with_reducible refine (HRL.out _).mono ?_); rintro e9 w9 ⟨rfl, hb9⟩)
        exact ⟨rfl, _, rfl, hb9, rfl, fun h => h.elim⟩
      · intro xs W hW hn
        simp [flowNeeds, Region.binds] at hn
        simp only [flowAct, List.zipWith_cons_cons, List.zipWith_nil_left]
        try simp only [hn]
        go_wp2_with (fail)
        exact ⟨rfl, _, rfl, Below.refl _ _, rfl, fun h => h.elim⟩
      · intro xs W hW hn
        simp [flowNeeds, Region.binds] at hn
        simp only [flowAct, List.zipWith_cons_cons, List.zipWith_nil_left]
        try simp only [hn]
        go_wp2_with (fail)
        exact ⟨rfl, _, rfl, Below.refl _ _, rfl, fun h => h.elim⟩
      · intro xs W hW hn
        simp [flowNeeds, Region.binds] at hn
        simp only [flowAct, List.zipWith_cons_cons, List.zipWith_nil_left]
        try simp only [hn]
        go_wp2_with (fail)
        exact ⟨rfl, _, rfl, Below.refl _ _, rfl, fun h => h.elim⟩
      · intro xs W hW hn
        try simp [flowNeeds, Region.binds] at hn
        simp only [flowAct, List.zipWith_cons_cons, List.zipWith_nil_left]
        try simp only [hn]
        go_wp2_with (go_at_call 13; (with_reducible refine (HJ.out _ hW).mono ?_); rintro e9 w9 ⟨rfl, hb9⟩)
        exact ⟨rfl, _, rfl, hb9, rfl, fun h => h.elim⟩
      · intro xs W hW hn
        simp [flowNeeds, Region.binds] at hn
        simp only [flowAct, List.zipWith_cons_cons, List.zipWith_nil_left]
        try simp only [hn]
        go_wp2_with (fail)
        exact ⟨rfl, _, rfl, Below.refl _ _, rfl, fun h => h.elim⟩
      · intro xs W hW hn
        try simp [flowNeeds, Region.binds] at hn
        simp only [flowAct, List.zipWith_cons_cons, List.zipWith_nil_left]
        try simp only [hn]
        go_wp2_with (go_at_call 14; (with_reducible refine (HRJ.out _ hW).mono ?_); rintro e9 w9 ⟨rfl, hb9⟩)
        exact ⟨rfl, _, rfl, hb9, rfl, fun h => h.elim⟩
      · intro xs W hW hn
        simp [flowNeeds, Region.binds] at hn
        simp only [flowAct, List.zipWith_cons_cons, List.zipWith_nil_left]
        try simp only [hn]
        go_wp2_with (fail)
        exact ⟨rfl, _, rfl, Below.refl _ _, rfl, fun h => h.elim⟩
      · intro xs W hW hn
        simp [flowNeeds, Region.binds] at hn
        simp only [flowAct, List.zipWith_cons_cons, List.zipWith_nil_left]
        try simp only [hn]
        go_wp2_with (fail)
        exact ⟨rfl, _, rfl, Below.refl _ _, rfl, fun h => h.elim⟩
      · intro xs W hW hn
        simp [flowNeeds, Region.binds] at hn
        simp only [flowAct, List.zipWith_cons_cons, List.zipWith_nil_left]
        try simp only [hn]
        go_wp2_with (fail)
        exact ⟨rfl, _, rfl, Below.refl _ _, rfl, fun h => h.elim⟩
      · intro xs W hW hn
        obtain ⟨⟨c0, c1, c2, c3, c4, c5, c6, c7⟩, k0, k1, k2, k3, k4, k5, k6, k7⟩ := HCW.out W hW
        simp [flowNeeds, Region.binds] at hn
        simp only [flowAct, List.zipWith_cons_cons, List.zipWith_nil_left]
        try simp only [hn]
        go_wp2_with (fail)
        exact ⟨rfl, _, rfl, Below.refl _ _, rfl, fun h => h.elim⟩
      · intro xs W hW hn
        obtain ⟨⟨c0, c1, c2, c3, c4, c5, c6, c7⟩, k0, k1, k2, k3, k4, k5, k6, k7⟩ := HCW.out W hW
        simp [flowNeeds, Region.binds] at hn
        simp only [flowAct, List.zipWith_cons_cons, List.zipWith_nil_left]
        try simp only [hn]
        go_wp2_with (fail)
        exact ⟨rfl, _, rfl, Below.refl _ _, rfl, fun h => h.elim⟩
      · intro xs W hW hn
        try simp [flowNeeds, Region.binds] at hn
        simp only [flowAct, List.zipWith_cons_cons, List.zipWith_nil_left]
        try simp only [hn]
        go_wp2_with (go_at_call 15; (with_reducible refine (HW.out _).mono ?_); rintro e9 w9 ⟨rfl, hb9⟩)
        exact ⟨rfl, _, rfl, hb9, rfl, fun h => h.elim⟩
      · intro xs W hW hn
        obtain ⟨⟨c0, c1, c2, c3, c4, c5, c6, c7⟩, k0, k1, k2, k3, k4, k5, k6, k7⟩ := HCW.out W hW
        simp [flowNeeds, Region.binds] at hn
        simp only [flowAct, List.zipWith_cons_cons, List.zipWith_nil_left]
        try simp only [hn]
        go_wp2_with (fail)
        exact ⟨rfl, _, rfl, Below.refl _ _, rfl, fun h => h.elim⟩
      · intro xs W hW hn
        obtain ⟨⟨c0, c1, c2, c3, c4, c5, c6, c7⟩, k0, k1, k2, k3, k4, k5, k6, k7⟩ := HCW.out W hW
        simp [flowNeeds, Region.binds] at hn
        simp only [flowAct, List.zipWith_cons_cons, List.zipWith_nil_left]
        try simp only [hn]
        go_wp2_with (fail)
        exact ⟨rfl, _, rfl, Below.refl _ _, rfl, fun h => h.elim⟩
      · intro xs W hW hn
        try simp [flowNeeds, Region.binds] at hn
        simp only [flowAct, List.zipWith_cons_cons, List.zipWith_nil_left]
        try simp only [hn]
        go_wp2_with (go_at_call 16; (with_reducible refine (HRW.out _).mono ?_); rintro e9 w9 ⟨rfl, hb9⟩)
        exact ⟨rfl, _, rfl, hb9, rfl, fun h => h.elim⟩
      · intro xs W hW hn
        simp [flowNeeds, Region.binds] at hn
        simp only [flowAct, List.zipWith_cons_cons, List.zipWith_nil_left]
        try simp only [hn]
        go_wp2_with (fail)
        exact ⟨rfl, _, rfl, Below.refl _ _, rfl, fun h => h.elim⟩
      · intro xs W hW hn
        simp [flowNeeds, Region.binds] at hn
        simp only [flowAct, List.zipWith_cons_cons, List.zipWith_nil_left]
        try simp only [hn]
        go_wp2_with (fail)
        exact ⟨rfl, _, rfl, Below.refl _ _, rfl, fun h => h.elim⟩
      · intro xs W hW hn
        simp [flowNeeds, Region.binds] at hn
        simp only [flowAct, List.zipWith_cons_cons, List.zipWith_nil_left]
        try simp only [hn]
        go_wp2_with (fail)
        exact ⟨rfl, _, rfl, Below.refl _ _, rfl, fun h => h.elim⟩
      · intro xs W hW hn
        try simp [flowNeeds, Region.binds] at hn
        simp only [flowAct, List.zipWith_cons_cons, List.zipWith_nil_left]
        try simp only [hn]
        go_wp2_with (go_at_call 10; (with_reducible refine (HLv.out _).mono ?_); rintro e9 w9 ⟨rfl, hb9⟩)
        exact ⟨rfl, _, rfl, hb9, rfl, fun h => h.elim⟩
      · intro xs W hW hn
        simp [flowNeeds, Region.binds] at hn
        simp only [flowAct, List.zipWith_cons_cons, List.zipWith_nil_left]
        try simp only [hn]
        go_wp2_with (fail)
        exact ⟨rfl, _, rfl, Below.refl _ _, rfl, fun h => h.elim⟩
    · intro xs W hW hall hfr
      clear hfr
      simp only [flowAll, and_true, Nat.zero_add, Nat.reduceAdd] at hall
      obtain ⟨-, -, -, -, -, -, -, -, -, -, -, -, -, -, -, -, -, -, -, -, -, -, -, -, -, e25⟩ := hall
      simp only [flowAct, List.zipWith_cons_cons, List.zipWith_nil_left, List.drop_succ_cons, List.drop_zero]
      simp only [e25]
      go_wp2
      go_ret
      exact ⟨rfl, HB.out.trans (hW.mono HB.out.size)⟩

set_option maxHeartbeats 3200000 in
theorem jneeds_walk {w : World} {x : Option Addr} {m cap : Nat} {l : List Cl} (hl : Cls w x m cap l) :
    Calls Try.prog 4 #[.slice x m cap] w (Tells (.bool true) w) := by
  have HLv := Lib.hid jlives_c
  have HL := Lib.hid hl
  clear hl
  by_cases hm : 60 < m
  · have hmi : (60 : Int) < (m : Int) := by omega
    go_enter Try.func4, Try.ntmps4
    go_wp2_with (go_at_call 10; (with_reducible refine (HLv.out _).mono ?_); rintro e9 w9 ⟨rfl, hb9⟩)
    go_ret
    exact ⟨rfl, hb9⟩
  · have hmi : ¬ (60 : Int) < (m : Int) := by omega
    have hN := needed_c HL.out (by omega)
    have hR := fun W (h : Below w.heap.size w W) => rneeded_c (HL.out.below h) (by omega)
    unfold NeedPost at hN hR
    obtain ⟨Z, hZ⟩ : ∃ z, needN l l.length = z := ⟨_, rfl⟩
    rw [hZ] at hN hR
    obtain ⟨N1, hN1⟩ : ∃ z, Z.length = z := ⟨_, rfl⟩
    have HN := Lib.hid hN
    have HR := Lib.hid hR
    have HZ := Lib.hid hN1
    clear hN hR hZ hN1
    go_enter Try.func4, Try.ntmps4
    go_wp2_with (first
      | (go_at_call 18; (with_reducible refine HN.out.mono ?_); rintro e9 w1 ⟨v1, rfl, ho1, hb1⟩; obtain ⟨a1, k1, rfl, hn1⟩ := ho1.ns; rw [HZ.out] at hn1 ⊢)
      | (go_at_call 19; (with_reducible refine (HR.out _ hb1).mono ?_); rintro e9 w2 ⟨v2, rfl, ho2, hb2⟩; obtain ⟨a2, k2, rfl, hn2⟩ := ho2.ns; rw [HZ.out] at hn2 ⊢; have HI := Lib.hid (ints_c (hn1.below hb2) hn2))
      | (go_at_call 17; (with_reducible refine HI.out.mono ?_); rintro e9 w3 ⟨rfl, hb3⟩)
      | (go_at_call 10; (with_reducible refine (HLv.out _).mono ?_); rintro e9 w4 ⟨rfl, hb4⟩))
    go_ret
    exact ⟨rfl, ((hb1.trans (hb2.mono hb1.size)).trans (hb3.mono (Nat.le_trans hb1.size hb2.size))).trans (hb4.mono (Nat.le_trans (Nat.le_trans hb1.size hb2.size) hb3.size))⟩
end Go.Proofs.Ytkjpmdpljdgcjaa
