/-
  Join: Within of both.
-/
import Derived.Test.YtkjpmdpljdgcjaaYR
import Derived.Test.YtkjpmdpljdgcjaaYS
namespace Go.Proofs.Ytkjpmdpljdgcjaa
open Go.RowKit Go Go.Sort
set_option linter.unusedVariables false
set_option maxRecDepth 20000

def ClsV (l : List Cl) (v : Value) (W : World) : Prop := ∃ a n c, v = .slice a n c ∧ Cls W a n c l
theorem ClsV.kept {l : List Cl} {v : Value} {X Y : World} (h : ClsV l v X) (hb : Below X.heap.size X Y) : ClsV l v Y := by
  obtain ⟨a, n, c, rfl, h⟩ := h
  exact ⟨a, n, c, rfl, h.below hb⟩


set_option maxHeartbeats 6400000 in
theorem within_c (n s a b : Int) (g : Bool) (t : List UInt8) (d e : Int) (n' s' a' b' : Int) (g' : Bool) (t' : List UInt8) (d' e' : Int) (w : World) : Calls Try.prog 15 #[.agg #[.int .i64 n, .int .i64 s, .int .i64 a, .int .i64 b, .bool g, .string (text t), .int .i64 d, .int .i64 e], .agg #[.int .i64 n', .int .i64 s', .int .i64 a', .int .i64 b', .bool g', .string (text t'), .int .i64 d', .int .i64 e']] w (Tells (.bool (withinS ⟨n, s, a, b, g, t, d, e⟩ ⟨n', s', a', b', g', t', d', e'⟩)) w) := by
  have hp := (Cel.new w n s a b g t d e).alloc (.cells #[.int .i64 n', .int .i64 s', .int .i64 a', .int .i64 b', .bool g', .string (text t'), .int .i64 d', .int .i64 e'] 27)
  have hq := Cel.new (w.alloc (.cells #[.int .i64 n, .int .i64 s, .int .i64 a, .int .i64 b, .bool g, .string (text t), .int .i64 d, .int .i64 e] 27)) n' s' a' b' g' t' d' e'
  rw [World.size_alloc] at hq
  have HB := Lib.hid ((alloc_below w (.cells #[.int .i64 n, .int .i64 s, .int .i64 a, .int .i64 b, .bool g, .string (text t), .int .i64 d, .int .i64 e] 27)).alloc (by simp) (.cells #[.int .i64 n', .int .i64 s', .int .i64 a', .int .i64 b', .bool g', .string (text t'), .int .i64 d', .int .i64 e'] 27))
  have hS : withinS ⟨n, s, a, b, g, t, d, e⟩ ⟨n', s', a', b', g', t', d', e'⟩ = sameC (joinC [⟨n, s, a, b, g, t, d, e⟩, ⟨n', s', a', b', g', t', d', e'⟩]) ⟨n', s', a', b', g', t', d', e'⟩ := rfl
  obtain ⟨R, hR⟩ : ∃ q, withinS ⟨n, s, a, b, g, t, d, e⟩ ⟨n', s', a', b', g', t', d', e'⟩ = q := ⟨_, rfl⟩
  obtain ⟨J, hJ⟩ : ∃ q, joinC [⟨n, s, a, b, g, t, d, e⟩, ⟨n', s', a', b', g', t', d', e'⟩] = q := ⟨_, rfl⟩
  rw [hR, hJ] at hS
  rw [hR]
  have HJ := Lib.hid hJ
  obtain ⟨n'', s'', a'', b'', g'', t'', d'', e''⟩ := J
  have hceq := cell_eqb n'' s'' a'' b'' g'' t'' d'' e'' n' s' a' b' g' t' d' e' R hS.symm
  have hceg := cell_eqg
  have HS := Lib.hid (fun W => rsame_c n'' s'' a'' b'' g'' t'' d'' e'' n' s' a' b' g' t' d' e' W)
  rw [← hS] at HS
  clear hS hR hJ
  go_enter Try.func15, Try.ntmps15
  go_upto_region 1 with (fail)
  generalize (w.alloc (.cells #[.int .i64 n, .int .i64 s, .int .i64 a, .int .i64 b, .bool g, .string (text t), .int .i64 d, .int .i64 e] 27)).alloc (.cells #[.int .i64 n', .int .i64 s', .int .i64 a', .int .i64 b', .bool g', .string (text t'), .int .i64 d', .int .i64 e'] 27) = W1 at *
  have HF := Lib.hid (And.intro hp hq)
  clear hp hq
  refine wp_region_flow [none, none, none, none, some 6, some 0, some 1, some 2, some 3, some 4, some 5] (fun i => [undef, undef, undef, undef, undef, undef, .bool false].getD i undef) [(fun v _ => v = .agg #[.int .i64 n, .int .i64 s, .int .i64 a, .int .i64 b, .bool g, .string (text t), .int .i64 d, .int .i64 e]), (fun v _ => v = .agg #[.int .i64 n', .int .i64 s', .int .i64 a', .int .i64 b', .bool g', .string (text t'), .int .i64 d', .int .i64 e']), (ClsV [⟨n, s, a, b, g, t, d, e⟩, ⟨n', s', a', b', g', t', d', e'⟩]), (fun v _ => v = .agg #[.int .i64 n'', .int .i64 s'', .int .i64 a'', .int .i64 b'', .bool g'', .string (text t''), .int .i64 d'', .int .i64 e'']), (fun v _ => v = .agg #[.int .i64 n', .int .i64 s', .int .i64 a', .int .i64 b', .bool g', .string (text t'), .int .i64 d', .int .i64 e']), (fun v _ => v = .bool R), (fun v _ => v = .bool R)] (by kernel_rfl) (by kernel_rfl) rfl rfl rfl ?_ ?_ ?_
  · intro g hg v X Y hX hY hv
    simp only [List.mem_cons, List.not_mem_nil, or_false] at hg
    rcases hg with rfl | rfl | rfl | rfl | rfl | rfl | rfl
    all_goals first
      | exact hv
      | exact hv.kept hY
  · simp only [flowOps, and_true]
    refine ⟨?_, ?_, ?_, ?_, ?_, ?_, ?_⟩
    · intro xs W hW hn
      obtain ⟨c0, c1, c2, c3, c4, c5, c6, c7⟩ := (HF.out.1.kept hW).cs
      obtain ⟨k0, k1, k2, k3, k4, k5, k6, k7⟩ := (HF.out.2.kept hW).cs
      simp only [flowAct, List.zipWith_cons_cons, List.zipWith_nil_left]
      go_wp2_with (fail)
      exact ⟨rfl, _, rfl, Below.refl _ _, rfl⟩
    · intro xs W hW hn
      obtain ⟨c0, c1, c2, c3, c4, c5, c6, c7⟩ := (HF.out.1.kept hW).cs
      obtain ⟨k0, k1, k2, k3, k4, k5, k6, k7⟩ := (HF.out.2.kept hW).cs
      simp only [flowAct, List.zipWith_cons_cons, List.zipWith_nil_left]
      go_wp2_with (fail)
      exact ⟨rfl, _, rfl, Below.refl _ _, rfl⟩
    · intro xs W hW hn
      simp [flowNeeds, Region.binds] at hn
      simp only [flowAct, List.zipWith_cons_cons, List.zipWith_nil_left]
      simp only [hn]
      go_wp2_with (fail)
      exact ⟨rfl, _, rfl, alloc_below _ _, ⟨_, _, _, rfl, cls2 _ n s a b g t d e n' s' a' b' g' t' d' e'⟩⟩
    · intro xs W hW hn
      simp [flowNeeds, Region.binds] at hn
      obtain ⟨a9, n9, k9, hv9, hc9⟩ := hn
      have HJJ := Lib.hid (join_c hc9)
      rw [HJ.out] at HJJ
      clear hc9
      simp only [flowAct, List.zipWith_cons_cons, List.zipWith_nil_left]
      simp only [hv9]
      go_wp2_with (go_at_call 13; (with_reducible refine HJJ.out.mono ?_); rintro e9 w9 ⟨rfl, hb9⟩)
      exact ⟨rfl, _, rfl, hb9, rfl⟩
    · intro xs W hW hn
      obtain ⟨c0, c1, c2, c3, c4, c5, c6, c7⟩ := (HF.out.1.kept hW).cs
      obtain ⟨k0, k1, k2, k3, k4, k5, k6, k7⟩ := (HF.out.2.kept hW).cs
      simp only [flowAct, List.zipWith_cons_cons, List.zipWith_nil_left]
      go_wp2_with (fail)
      exact ⟨rfl, _, rfl, Below.refl _ _, rfl⟩
    · intro xs W hW hn
      simp [flowNeeds, Region.binds] at hn
      simp only [flowAct, List.zipWith_cons_cons, List.zipWith_nil_left]
      try simp only [hn]
      go_wp2_with (fail)
      exact ⟨rfl, _, rfl, Below.refl _ _, rfl⟩
    · intro xs W hW hn
      simp [flowNeeds, Region.binds] at hn
      simp only [flowAct, List.zipWith_cons_cons, List.zipWith_nil_left]
      try simp only [hn]
      go_wp2_with (fail)
      exact ⟨rfl, _, rfl, Below.refl _ _, rfl⟩
  · intro xs W hW hall
    simp only [flowAll, and_true, Nat.zero_add, Nat.reduceAdd] at hall
    obtain ⟨-, -, -, -, -, -, e6⟩ := hall
    simp only [flowAct, List.zipWith_cons_cons, List.zipWith_nil_left]
    simp only [e6]
    go_wp2
    go_ret
    exact ⟨rfl, HB.out.trans (hW.mono HB.out.size)⟩

set_option maxHeartbeats 6400000 in
theorem rwithin_c (n s a b : Int) (g : Bool) (t : List UInt8) (d e : Int) (n' s' a' b' : Int) (g' : Bool) (t' : List UInt8) (d' e' : Int) (w : World) : Calls Try.prog 16 #[.agg #[.int .i64 n, .int .i64 s, .int .i64 a, .int .i64 b, .bool g, .string (text t), .int .i64 d, .int .i64 e], .agg #[.int .i64 n', .int .i64 s', .int .i64 a', .int .i64 b', .bool g', .string (text t'), .int .i64 d', .int .i64 e']] w (Tells (.bool (withinS ⟨n, s, a, b, g, t, d, e⟩ ⟨n', s', a', b', g', t', d', e'⟩)) w) := by
  have hp := (Cel.new w n s a b g t d e).alloc (.cells #[.int .i64 n', .int .i64 s', .int .i64 a', .int .i64 b', .bool g', .string (text t'), .int .i64 d', .int .i64 e'] 27)
  have hq := Cel.new (w.alloc (.cells #[.int .i64 n, .int .i64 s, .int .i64 a, .int .i64 b, .bool g, .string (text t), .int .i64 d, .int .i64 e] 27)) n' s' a' b' g' t' d' e'
  rw [World.size_alloc] at hq
  have HB := Lib.hid ((alloc_below w (.cells #[.int .i64 n, .int .i64 s, .int .i64 a, .int .i64 b, .bool g, .string (text t), .int .i64 d, .int .i64 e] 27)).alloc (by simp) (.cells #[.int .i64 n', .int .i64 s', .int .i64 a', .int .i64 b', .bool g', .string (text t'), .int .i64 d', .int .i64 e'] 27))
  have hS : withinS ⟨n, s, a, b, g, t, d, e⟩ ⟨n', s', a', b', g', t', d', e'⟩ = sameC (joinC [⟨n, s, a, b, g, t, d, e⟩, ⟨n', s', a', b', g', t', d', e'⟩]) ⟨n', s', a', b', g', t', d', e'⟩ := rfl
  obtain ⟨R, hR⟩ : ∃ q, withinS ⟨n, s, a, b, g, t, d, e⟩ ⟨n', s', a', b', g', t', d', e'⟩ = q := ⟨_, rfl⟩
  obtain ⟨J, hJ⟩ : ∃ q, joinC [⟨n, s, a, b, g, t, d, e⟩, ⟨n', s', a', b', g', t', d', e'⟩] = q := ⟨_, rfl⟩
  rw [hR, hJ] at hS
  rw [hR]
  have HJ := Lib.hid hJ
  obtain ⟨n'', s'', a'', b'', g'', t'', d'', e''⟩ := J
  have hceq := cell_eqb n'' s'' a'' b'' g'' t'' d'' e'' n' s' a' b' g' t' d' e' R hS.symm
  have hceg := cell_eqg
  have HS := Lib.hid (fun W => rsame_c n'' s'' a'' b'' g'' t'' d'' e'' n' s' a' b' g' t' d' e' W)
  rw [← hS] at HS
  clear hS hR hJ
  go_enter Try.func16, Try.ntmps16
  go_upto_region 1 with (fail)
  generalize (w.alloc (.cells #[.int .i64 n, .int .i64 s, .int .i64 a, .int .i64 b, .bool g, .string (text t), .int .i64 d, .int .i64 e] 27)).alloc (.cells #[.int .i64 n', .int .i64 s', .int .i64 a', .int .i64 b', .bool g', .string (text t'), .int .i64 d', .int .i64 e'] 27) = W1 at *
  have HF := Lib.hid (And.intro hp hq)
  clear hp hq
  refine wp_region_flow [none, none, none, none, some 6, some 0, some 1, some 2, some 3, some 4, some 5] (fun i => [undef, undef, undef, undef, undef, undef, .bool false].getD i undef) [(fun v _ => v = .agg #[.int .i64 n, .int .i64 s, .int .i64 a, .int .i64 b, .bool g, .string (text t), .int .i64 d, .int .i64 e]), (fun v _ => v = .agg #[.int .i64 n', .int .i64 s', .int .i64 a', .int .i64 b', .bool g', .string (text t'), .int .i64 d', .int .i64 e']), (ClsV [⟨n, s, a, b, g, t, d, e⟩, ⟨n', s', a', b', g', t', d', e'⟩]), (fun v _ => v = .agg #[.int .i64 n'', .int .i64 s'', .int .i64 a'', .int .i64 b'', .bool g'', .string (text t''), .int .i64 d'', .int .i64 e'']), (fun v _ => v = .agg #[.int .i64 n', .int .i64 s', .int .i64 a', .int .i64 b', .bool g', .string (text t'), .int .i64 d', .int .i64 e']), (fun v _ => v = .bool R), (fun v _ => v = .bool R)] (by kernel_rfl) (by kernel_rfl) rfl rfl rfl ?_ ?_ ?_
  · intro g hg v X Y hX hY hv
    simp only [List.mem_cons, List.not_mem_nil, or_false] at hg
    rcases hg with rfl | rfl | rfl | rfl | rfl | rfl | rfl
    all_goals first
      | exact hv
      | exact hv.kept hY
  · simp only [flowOps, and_true]
    refine ⟨?_, ?_, ?_, ?_, ?_, ?_, ?_⟩
    · intro xs W hW hn
      obtain ⟨c0, c1, c2, c3, c4, c5, c6, c7⟩ := (HF.out.1.kept hW).cs
      obtain ⟨k0, k1, k2, k3, k4, k5, k6, k7⟩ := (HF.out.2.kept hW).cs
      simp only [flowAct, List.zipWith_cons_cons, List.zipWith_nil_left]
      go_wp2_with (fail)
      exact ⟨rfl, _, rfl, Below.refl _ _, rfl⟩
    · intro xs W hW hn
      obtain ⟨c0, c1, c2, c3, c4, c5, c6, c7⟩ := (HF.out.1.kept hW).cs
      obtain ⟨k0, k1, k2, k3, k4, k5, k6, k7⟩ := (HF.out.2.kept hW).cs
      simp only [flowAct, List.zipWith_cons_cons, List.zipWith_nil_left]
      go_wp2_with (fail)
      exact ⟨rfl, _, rfl, Below.refl _ _, rfl⟩
    · intro xs W hW hn
      simp [flowNeeds, Region.binds] at hn
      simp only [flowAct, List.zipWith_cons_cons, List.zipWith_nil_left]
      simp only [hn]
      go_wp2_with (fail)
      exact ⟨rfl, _, rfl, alloc_below _ _, ⟨_, _, _, rfl, cls2 _ n s a b g t d e n' s' a' b' g' t' d' e'⟩⟩
    · intro xs W hW hn
      simp [flowNeeds, Region.binds] at hn
      obtain ⟨a9, n9, k9, hv9, hc9⟩ := hn
      have HJJ := Lib.hid (rjoin_c hc9)
      rw [HJ.out] at HJJ
      clear hc9
      simp only [flowAct, List.zipWith_cons_cons, List.zipWith_nil_left]
      simp only [hv9]
      go_wp2_with (go_at_call 14; (with_reducible refine HJJ.out.mono ?_); rintro e9 w9 ⟨rfl, hb9⟩)
      exact ⟨rfl, _, rfl, hb9, rfl⟩
    · intro xs W hW hn
      obtain ⟨c0, c1, c2, c3, c4, c5, c6, c7⟩ := (HF.out.1.kept hW).cs
      obtain ⟨k0, k1, k2, k3, k4, k5, k6, k7⟩ := (HF.out.2.kept hW).cs
      simp only [flowAct, List.zipWith_cons_cons, List.zipWith_nil_left]
      go_wp2_with (fail)
      exact ⟨rfl, _, rfl, Below.refl _ _, rfl⟩
    · intro xs W hW hn
      simp [flowNeeds, Region.binds] at hn
      simp only [flowAct, List.zipWith_cons_cons, List.zipWith_nil_left]
      simp only [hn]
      go_wp2_with (go_at_call 28; (with_reducible refine (HS.out _).mono ?_); rintro e9 w9 ⟨rfl, hb9⟩)
      exact ⟨rfl, _, rfl, hb9, rfl⟩
    · intro xs W hW hn
      simp [flowNeeds, Region.binds] at hn
      simp only [flowAct, List.zipWith_cons_cons, List.zipWith_nil_left]
      try simp only [hn]
      go_wp2_with (fail)
      exact ⟨rfl, _, rfl, Below.refl _ _, rfl⟩
  · intro xs W hW hall
    simp only [flowAll, and_true, Nat.zero_add, Nat.reduceAdd] at hall
    obtain ⟨-, -, -, -, -, -, e6⟩ := hall
    simp only [flowAct, List.zipWith_cons_cons, List.zipWith_nil_left]
    simp only [e6]
    go_wp2
    go_ret
    exact ⟨rfl, HB.out.trans (hW.mono HB.out.size)⟩
end Go.Proofs.Ytkjpmdpljdgcjaa
