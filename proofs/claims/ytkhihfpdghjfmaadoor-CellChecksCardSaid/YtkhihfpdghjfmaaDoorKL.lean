/-
  Cell: the walk of CellChecks.
-/
import Derived.Test.YtkhihfpdghjfmaaDoorKI
namespace Go.Proofs.YtkhihfpdghjfmaaDoor
open Go.RowKit Go Go.Sort
set_option linter.unusedVariables false
set_option maxRecDepth 20000

set_option maxRecDepth 100000 in
set_option maxHeartbeats 6400000 in
theorem cchecks_walk {w : World} (p n s a b : Int) (g : Bool) (t : List UInt8) (d e : Int) (hmax : t.length ≤ 9223372036854775807) (hT : TabW w) :
    Calls Tryd.prog 8 #[.int .i64 p, .agg #[.int .i64 n, .int .i64 s, .int .i64 a, .int .i64 b, .bool g, .string (text t), .int .i64 d, .int .i64 e]] w (Tells (.bool true) w) := by
  have hp := Cel.new w n s a b g t d e
  have hb := alloc_below w (.cells #[.int .i64 n, .int .i64 s, .int .i64 a, .int .i64 b, .bool g, .string (text t), .int .i64 d, .int .i64 e] 61)
  have HB := Lib.hid hb
  have HLv := Lib.hid (fun W (h : Below w.heap.size w W) => clives_c (hT.below h))
  have hG := fun W => cgood_c p n s a b g t d e hmax W
  have hRG := fun W => rcgood_c p n s a b g t d e hmax W
  have hS := fun W => cseen_c p n s a b g t d e hmax W
  have hRS := fun W => rcseen_c p n s a b g t d e hmax W
  have hK := fun W => cknown_c n s a b g t d e W
  have hRK := fun W => rcknown_c n s a b g t d e W
  obtain ⟨G, hg⟩ : ∃ q, cgoodS p n s a b g t d e = q := ⟨_, rfl⟩
  obtain ⟨⟨x, k⟩, hx⟩ : ∃ q, cseenS p n s a b g t d e = q := ⟨_, rfl⟩
  obtain ⟨⟨j, l⟩, hj⟩ : ∃ q, joinS [(a, b), (d, e)] = q := ⟨_, rfl⟩
  rw [hg] at hG hRG
  rw [hx] at hS hRS
  rw [hj] at hK hRK
  simp only at hS hRS hK hRK
  have htb : ((text x).toList == (text x).toList) = true := by simp
  obtain ⟨X, hX⟩ : ∃ q, text x = q := ⟨_, rfl⟩
  rw [hX] at htb hS hRS
  have hveq := vec_eql j l
  have hvg := vec_eqg .eql
  have HG := Lib.hid hG
  have HRG := Lib.hid hRG
  have HS := Lib.hid hS
  have HRS := Lib.hid hRS
  have HK := Lib.hid hK
  have HRK := Lib.hid hRK
  clear hG hRG hS hRS hK hRK hg hx hj hX hT hmax hb
  go_enter Tryd.func8, Tryd.ntmps8
  go_upto_region 1 with (fail)
  obtain ⟨gc, hgc⟩ : ∃ q, w.heap.size = q := ⟨_, rfl⟩
  rw [hgc] at hp ⊢
  clear hgc
  generalize w.alloc (.cells #[.int .i64 n, .int .i64 s, .int .i64 a, .int .i64 b, .bool g, .string (text t), .int .i64 d, .int .i64 e] 61) = W1 at *
  have HCW := Lib.hid (fun W (h : Below W1.heap.size W1 W) => (hp.kept h).cs)
  clear hp
  have hcur := Below.refl W1.heap.size W1
  obtain ⟨c0, c1, c2, c3, c4, c5, c6, c7⟩ := HCW.out _ hcur
  go_upto_region 3 with (first
    | (go_at_call 29; (with_reducible refine (HS.out _).mono ?_); rintro e9 w9 ⟨rfl, hb9⟩; (replace hcur := hcur.trans (hb9.mono hcur.size)); clear hb9; obtain ⟨c0, c1, c2, c3, c4, c5, c6, c7⟩ := HCW.out _ hcur)
    | (go_at_call 30; (with_reducible refine (HRS.out _).mono ?_); rintro e9 w9 ⟨rfl, hb9⟩; (replace hcur := hcur.trans (hb9.mono hcur.size)); clear hb9; obtain ⟨c0, c1, c2, c3, c4, c5, c6, c7⟩ := HCW.out _ hcur))
  clear c0 c1 c2 c3 c4 c5 c6 c7
  rename_i W2 _ _
  refine wp_region_flow_tail 27 [none, none, none, none, none, none, none, none, none, none, none, none, none, none, none, none, none, none, none, none, none, some 0, some 1, some 2, some 3, some 4, some 5, some 6, some 7, some 8, some 9, some 10, some 11, some 12, some 13, some 14, some 15, some 16, some 17, some 18, some 19, some 20, some 21, some 22, some 23, some 24, some 25, some 26] (fun i => [undef, undef, undef, undef, undef, undef, undef, undef, undef, undef, undef, undef, undef, undef, undef, undef, undef, undef, undef, undef, undef, undef, undef, undef, undef, undef, undef].getD i undef) [(fun v _ => v = .int .i64 p), (fun v _ => v = .agg #[.int .i64 n, .int .i64 s, .int .i64 a, .int .i64 b, .bool g, .string (text t), .int .i64 d, .int .i64 e]), (fun v _ => v = .bool G), (fun v _ => v = .int .i64 p), (fun v _ => v = .agg #[.int .i64 n, .int .i64 s, .int .i64 a, .int .i64 b, .bool g, .string (text t), .int .i64 d, .int .i64 e]), (fun v _ => v = .bool G), (fun v _ => v = .bool true), (fun v _ => v = .bool true), (fun v _ => v = .string X), (fun v _ => v = .string X), (fun v _ => v = .bool true), (fun v _ => v = .bool true), (fun v _ => v = .bool true), (fun v _ => v = .bool k), (fun v _ => v = .bool k), (fun v _ => v = .bool true), (fun v _ => v = .bool true), (fun v _ => v = .bool true), (fun v _ => v = .agg #[.int .i64 n, .int .i64 s, .int .i64 a, .int .i64 b, .bool g, .string (text t), .int .i64 d, .int .i64 e]), (fun v _ => v = .agg #[.int .i64 j, .int .i64 l]), (fun v _ => v = .agg #[.int .i64 n, .int .i64 s, .int .i64 a, .int .i64 b, .bool g, .string (text t), .int .i64 d, .int .i64 e]), (fun v _ => v = .agg #[.int .i64 j, .int .i64 l]), (fun v _ => v = .bool true), (fun v _ => v = .bool true), (fun v _ => v = .bool true), (fun v _ => v = .bool true), (fun v _ => v = .bool true)] (fun _ => False) (by kernel_rfl) (by kernel_rfl) (by kernel_rfl) rfl rfl rfl ?_ ?_ ?_
  · intro g hg v X Y hX hY hv
    simp only [List.mem_cons, List.not_mem_nil, or_false] at hg
    rcases hg with rfl | rfl | rfl | rfl | rfl | rfl | rfl | rfl | rfl | rfl | rfl | rfl | rfl | rfl | rfl | rfl | rfl | rfl | rfl | rfl | rfl | rfl | rfl | rfl | rfl | rfl | rfl
    all_goals first
      | exact hv
      | exact hv.kept hY
  · simp only [flowOpsF, List.take_succ_cons, List.take_zero, and_true]
    refine ⟨?_, ?_, ?_, ?_, ?_, ?_, ?_, ?_, ?_, ?_, ?_, ?_, ?_, ?_, ?_, ?_, ?_, ?_, ?_, ?_, ?_, ?_, ?_, ?_, ?_, ?_, ?_⟩
    · intro xs W hW hn
      simp only [flowAct, List.zipWith_cons_cons, List.zipWith_nil_left]
      go_wp2_with (fail)
      exact ⟨rfl, _, rfl, Below.refl _ _, rfl, fun h => h.elim⟩
    · intro xs W hW hn
      obtain ⟨c0, c1, c2, c3, c4, c5, c6, c7⟩ := HCW.out W (hcur.trans (hW.mono hcur.size))
      simp only [flowAct, List.zipWith_cons_cons, List.zipWith_nil_left]
      go_wp2_with (fail)
      exact ⟨rfl, _, rfl, Below.refl _ _, rfl, fun h => h.elim⟩
    · intro xs W hW hn
      simp [flowNeeds, Region.binds] at hn
      simp only [flowAct, List.zipWith_cons_cons, List.zipWith_nil_left]
      simp only [hn]
      go_wp2_with (go_at_call 31; (with_reducible refine (HG.out _).mono ?_); rintro e9 w9 ⟨rfl, hb9⟩)
      exact ⟨rfl, _, rfl, hb9, rfl, fun h => h.elim⟩
    · intro xs W hW hn
      simp only [flowAct, List.zipWith_cons_cons, List.zipWith_nil_left]
      go_wp2_with (fail)
      exact ⟨rfl, _, rfl, Below.refl _ _, rfl, fun h => h.elim⟩
    · intro xs W hW hn
      obtain ⟨c0, c1, c2, c3, c4, c5, c6, c7⟩ := HCW.out W (hcur.trans (hW.mono hcur.size))
      simp only [flowAct, List.zipWith_cons_cons, List.zipWith_nil_left]
      go_wp2_with (fail)
      exact ⟨rfl, _, rfl, Below.refl _ _, rfl, fun h => h.elim⟩
    · intro xs W hW hn
      simp [flowNeeds, Region.binds] at hn
      simp only [flowAct, List.zipWith_cons_cons, List.zipWith_nil_left]
      simp only [hn]
      go_wp2_with (go_at_call 32; (with_reducible refine (HRG.out _).mono ?_); rintro e9 w9 ⟨rfl, hb9⟩)
      exact ⟨rfl, _, rfl, hb9, rfl, fun h => h.elim⟩
    · intro xs W hW hn
      simp [flowNeeds, Region.binds] at hn
      simp only [flowAct, List.zipWith_cons_cons, List.zipWith_nil_left]
      try simp only [hn]
      go_wp2_with (fail)
      exact ⟨rfl, _, rfl, Below.refl _ _, rfl, fun h => h.elim⟩
    · intro xs W hW hn
      simp [flowNeeds, Region.binds] at hn
      simp only [flowAct, List.zipWith_cons_cons, List.zipWith_nil_left]
      try simp only [hn]
      go_wp2_with (fail)
      exact ⟨rfl, _, rfl, Below.refl _ _, rfl, fun h => h.elim⟩
    · intro xs W hW hn
      simp [flowNeeds, Region.binds] at hn
      simp only [flowAct, List.zipWith_cons_cons, List.zipWith_nil_left]
      try simp only [hn]
      go_wp2_with (fail)
      exact ⟨rfl, _, rfl, Below.refl _ _, rfl, fun h => h.elim⟩
    · intro xs W hW hn
      simp [flowNeeds, Region.binds] at hn
      simp only [flowAct, List.zipWith_cons_cons, List.zipWith_nil_left]
      try simp only [hn]
      go_wp2_with (fail)
      exact ⟨rfl, _, rfl, Below.refl _ _, rfl, fun h => h.elim⟩
    · intro xs W hW hn
      simp [flowNeeds, Region.binds] at hn
      simp only [flowAct, List.zipWith_cons_cons, List.zipWith_nil_left]
      try simp only [hn]
      go_wp2_with (fail)
      exact ⟨rfl, _, rfl, Below.refl _ _, rfl, fun h => h.elim⟩
    · intro xs W hW hn
      simp [flowNeeds, Region.binds] at hn
      simp only [flowAct, List.zipWith_cons_cons, List.zipWith_nil_left]
      try simp only [hn]
      go_wp2_with (fail)
      exact ⟨rfl, _, rfl, Below.refl _ _, rfl, fun h => h.elim⟩
    · intro xs W hW hn
      simp [flowNeeds, Region.binds] at hn
      simp only [flowAct, List.zipWith_cons_cons, List.zipWith_nil_left]
      try simp only [hn]
      go_wp2_with (fail)
      exact ⟨rfl, _, rfl, Below.refl _ _, rfl, fun h => h.elim⟩
    · intro xs W hW hn
      simp [flowNeeds, Region.binds] at hn
      simp only [flowAct, List.zipWith_cons_cons, List.zipWith_nil_left]
      try simp only [hn]
      go_wp2_with (fail)
      exact ⟨rfl, _, rfl, Below.refl _ _, rfl, fun h => h.elim⟩
    · intro xs W hW hn
      simp [flowNeeds, Region.binds] at hn
      simp only [flowAct, List.zipWith_cons_cons, List.zipWith_nil_left]
      try simp only [hn]
      go_wp2_with (fail)
      exact ⟨rfl, _, rfl, Below.refl _ _, rfl, fun h => h.elim⟩
    · intro xs W hW hn
      simp [flowNeeds, Region.binds] at hn
      simp only [flowAct, List.zipWith_cons_cons, List.zipWith_nil_left]
      try simp only [hn]
      go_wp2_with (fail)
      exact ⟨rfl, _, rfl, Below.refl _ _, rfl, fun h => h.elim⟩
    · intro xs W hW hn
      simp [flowNeeds, Region.binds] at hn
      simp only [flowAct, List.zipWith_cons_cons, List.zipWith_nil_left]
      try simp only [hn]
      go_wp2_with (fail)
      exact ⟨rfl, _, rfl, Below.refl _ _, rfl, fun h => h.elim⟩
    · intro xs W hW hn
      simp [flowNeeds, Region.binds] at hn
      simp only [flowAct, List.zipWith_cons_cons, List.zipWith_nil_left]
      try simp only [hn]
      go_wp2_with (fail)
      exact ⟨rfl, _, rfl, Below.refl _ _, rfl, fun h => h.elim⟩
    · intro xs W hW hn
      obtain ⟨c0, c1, c2, c3, c4, c5, c6, c7⟩ := HCW.out W (hcur.trans (hW.mono hcur.size))
      simp [flowNeeds, Region.binds] at hn
      simp only [flowAct, List.zipWith_cons_cons, List.zipWith_nil_left]
      try simp only [hn]
      go_wp2_with (fail)
      exact ⟨rfl, _, rfl, Below.refl _ _, rfl, fun h => h.elim⟩
    · intro xs W hW hn
      simp [flowNeeds, Region.binds] at hn
      simp only [flowAct, List.zipWith_cons_cons, List.zipWith_nil_left]
      simp only [hn]
      go_wp2_with (go_at_call 33; (with_reducible refine (HK.out _).mono ?_); rintro e9 w9 ⟨rfl, hb9⟩)
      exact ⟨rfl, _, rfl, hb9, rfl, fun h => h.elim⟩
    · intro xs W hW hn
      obtain ⟨c0, c1, c2, c3, c4, c5, c6, c7⟩ := HCW.out W (hcur.trans (hW.mono hcur.size))
      simp [flowNeeds, Region.binds] at hn
      simp only [flowAct, List.zipWith_cons_cons, List.zipWith_nil_left]
      try simp only [hn]
      go_wp2_with (fail)
      exact ⟨rfl, _, rfl, Below.refl _ _, rfl, fun h => h.elim⟩
    · intro xs W hW hn
      simp [flowNeeds, Region.binds] at hn
      simp only [flowAct, List.zipWith_cons_cons, List.zipWith_nil_left]
      simp only [hn]
      go_wp2_with (go_at_call 34; (with_reducible refine (HRK.out _).mono ?_); rintro e9 w9 ⟨rfl, hb9⟩)
      exact ⟨rfl, _, rfl, hb9, rfl, fun h => h.elim⟩
    · intro xs W hW hn
      simp [flowNeeds, Region.binds] at hn
      simp only [flowAct, List.zipWith_cons_cons, List.zipWith_nil_left]
      try simp only [hn]
      go_wp2_with (fail)
      exact ⟨rfl, _, rfl, Below.refl _ _, rfl, fun h => h.elim⟩
    · intro xs W hW hn
      simp [flowNeeds, Region.binds] at hn
      simp only [flowAct, List.zipWith_cons_cons, List.zipWith_nil_left]
      try simp only [hn]
      go_wp2_with (fail)
      exact ⟨rfl, _, rfl, Below.refl _ _, rfl, fun h => h.elim⟩
    · intro xs W hW hn
      simp [flowNeeds, Region.binds] at hn
      simp only [flowAct, List.zipWith_cons_cons, List.zipWith_nil_left]
      try simp only [hn]
      go_wp2_with (fail)
      exact ⟨rfl, _, rfl, Below.refl _ _, rfl, fun h => h.elim⟩
    · intro xs W hW hn
      try simp [flowNeeds, Region.binds] at hn
      simp only [flowAct, List.zipWith_cons_cons, List.zipWith_nil_left]
      try simp only [hn]
      go_wp2_with (go_at_call 35; (with_reducible refine (HLv.out _ (HB.out.trans ((hcur.trans (hW.mono hcur.size)).mono HB.out.size))).mono ?_); rintro e9 w9 ⟨rfl, hb9⟩)
      exact ⟨rfl, _, rfl, hb9, rfl, fun h => h.elim⟩
    · intro xs W hW hn
      simp [flowNeeds, Region.binds] at hn
      simp only [flowAct, List.zipWith_cons_cons, List.zipWith_nil_left]
      try simp only [hn]
      go_wp2_with (fail)
      exact ⟨rfl, _, rfl, Below.refl _ _, rfl, fun h => h.elim⟩
  · intro xs W hW hall hfr
    clear hfr
    simp only [flowAll, and_true, Nat.zero_add, Nat.reduceAdd] at hall
    obtain ⟨-, -, -, -, -, -, -, -, -, -, -, -, -, -, -, -, -, -, -, -, -, -, -, -, -, -, e26⟩ := hall
    simp only [flowAct, List.zipWith_cons_cons, List.zipWith_nil_left, List.drop_succ_cons, List.drop_zero]
    simp only [e26]
    go_wp2
    go_ret
    exact ⟨rfl, HB.out.trans ((hcur.trans (hW.mono hcur.size)).mono HB.out.size)⟩
end Go.Proofs.YtkhihfpdghjfmaaDoor
