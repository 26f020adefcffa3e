/-
  Join: the reference's Join.
-/
import Derived.Test.YtkjpmdpljdgcjaaYD
namespace Go.Proofs.Ytkjpmdpljdgcjaa
open Go.RowKit Go Go.Sort
set_option linter.unusedVariables false
set_option maxRecDepth 20000


set_option maxHeartbeats 6400000 in
theorem rjoin_c {w : World} {x : Option Addr} {m cap : Nat} {l : List Cl} (hl : Cls w x m cap l) : Calls Try.prog 14 #[.slice x m cap] w (Tells (.agg (joinC l).arr) w) := by
  have hln := hl.len
  have hnle := hl.le
  have hnm := hl.max
  have ho := (zeros w).alloc (.cells #[.int .i64 0, .int .i64 0, .int .i64 0, .int .i64 0, .bool false, .string ⟨#[]⟩, .int .i64 0, .int .i64 0] 27)
  have hq := zeros (w.alloc (.cells #[.int .i64 0, .int .i64 0, .int .i64 0, .int .i64 0, .bool false, .string ⟨#[]⟩, .int .i64 0, .int .i64 0] 27))
  simp only [World.size_alloc] at hq
  have hb := (alloc_below w (.cells #[.int .i64 0, .int .i64 0, .int .i64 0, .int .i64 0, .bool false, .string ⟨#[]⟩, .int .i64 0, .int .i64 0] 27)).alloc (by simp) (.cells #[.int .i64 0, .int .i64 0, .int .i64 0, .int .i64 0, .bool false, .string ⟨#[]⟩, .int .i64 0, .int .i64 0] 27)
  have HL := Lib.hid hl
  clear hl
  go_enter Try.func14, Try.ntmps14
  go_upto_region 2 with (fail)
  have HB := Lib.hid hb
  obtain ⟨B, hB⟩ : ∃ q, w.heap.size = q := ⟨_, rfl⟩
  have HBe := Lib.hid hB
  rw [hB] at ho hq ⊢
  clear hB hb
  generalize (w.alloc (.cells #[.int .i64 0, .int .i64 0, .int .i64 0, .int .i64 0, .bool false, .string ⟨#[]⟩, .int .i64 0, .int .i64 0] 27)).alloc (.cells #[.int .i64 0, .int .i64 0, .int .i64 0, .int .i64 0, .bool false, .string ⟨#[]⟩, .int .i64 0, .int .i64 0] 27) = W1 at *
  have HQ := Lib.hid hq
  have HO := Lib.hid ho
  clear hq ho
  go_wp2
  go_loopw [4] (fun i wr => ∃ k : Nat, k ≤ m ∧ i = .int .i64 k ∧ CelC wr (B + 1) (joinC (l.take k)) ∧ CelC wr B Cl.zero ∧ Below w.heap.size w wr) (fun i _ => m - (intOf i).toNat)
  case atStart => exact ⟨0, by omega, rfl, HQ.out, HO.out, HB.out⟩
  case round =>
    clear HQ HO HB
    obtain ⟨i, hk, rfl, hq, ho, hB⟩ := hrel
    by_cases hlt : i < m
    · have hki : (i : Int) < (m : Int) := by omega
      have hki2 : (i : Int) < (cap : Int) := by omega
      obtain ⟨bk, off, rfl, hat⟩ := HL.out.at hlt
      have HJ := Lib.hid (join_take l i (by omega))
      obtain ⟨y, hy⟩ : ∃ y, l.getD i Cl.zero = y := ⟨_, rfl⟩
      obtain ⟨j, hj⟩ : ∃ j, joinC (l.take i) = j := ⟨_, rfl⟩
      rw [hy] at HJ hat
      rw [hj] at hq HJ
      obtain ⟨n, s, a, b, g, t, d, e⟩ := j
      obtain ⟨n', s', a', b', g', t', d', e'⟩ := y
      have HPW := Lib.hid (fun W (h : Below wr.heap.size wr W) => hat W (hB.trans (h.mono hB.size)))
      have hq' : Cel wr (B + 1) n s a b g t d e := hq
      have ho' : Cel wr B 0 0 0 0 false [] 0 0 := ho
      have HCW := Lib.hid (fun W (h : Below wr.heap.size wr W) => (hq'.kept h).cs)
      have HQ := Lib.hid hq'
      have HO := Lib.hid ho'
      have HB := Lib.hid hB
      have HC := Lib.hid (fun W => rtwo_c n s a b g t d e n' s' a' b' g' t' d' e' W)
      clear hat hy hj hq ho hB hq' ho'
      go_upto_region 5 with (fail)
      refine wp_region_flow_tail 6 [none, none, none, none, none, none, none, none, none, none, none, some 0, some 1, some 2, some 3, some 4, some 5, none] (fun i => [u11, u12, u13, u14, u15, u16].getD i undef) [(fun v _ => v = .agg #[.int .i64 n, .int .i64 s, .int .i64 a, .int .i64 b, .bool g, .string (text t), .int .i64 d, .int .i64 e]), (fun v _ => v = .slice (some ⟨bk, off, none⟩) m cap), (fun v _ => v = .int .i64 (i : Int)), (fun v _ => v = .pointer (some ⟨bk, off + i * 8, none⟩)), (fun v _ => v = .agg #[.int .i64 n', .int .i64 s', .int .i64 a', .int .i64 b', .bool g', .string (text t'), .int .i64 d', .int .i64 e']), (fun v _ => v = .agg (twoS ⟨n, s, a, b, g, t, d, e⟩ ⟨n', s', a', b', g', t', d', e'⟩).arr)] (fun _ => False) (by kernel_rfl) (by kernel_rfl) (by kernel_rfl) rfl rfl rfl ?_ ?_ ?_
      · intro g hg v X Y hX hY hv
        simp only [List.mem_cons, List.not_mem_nil, or_false] at hg
        rcases hg with rfl | rfl | rfl | rfl | rfl | rfl
        all_goals first
          | exact hv
          | exact hv.kept hY
      · simp only [flowOpsF, List.take_succ_cons, List.take_zero, and_true]
        refine ⟨?_, ?_, ?_, ?_, ?_, ?_⟩
        · intro xs W hW hn
          obtain ⟨c0, c1, c2, c3, c4, c5, c6, c7⟩ := HCW.out W hW
          simp only [flowAct, List.zipWith_cons_cons, List.zipWith_nil_left]
          go_wp2_with (fail)
          exact ⟨rfl, _, rfl, Below.refl _ _, rfl, fun h => h.elim⟩
        · intro xs W hW hn
          simp only [flowAct, List.zipWith_cons_cons, List.zipWith_nil_left]
          go_wp2_with (fail)
          exact ⟨rfl, _, rfl, Below.refl _ _, rfl, fun h => h.elim⟩
        · intro xs W hW hn
          simp only [flowAct, List.zipWith_cons_cons, List.zipWith_nil_left]
          go_wp2_with (fail)
          exact ⟨rfl, _, rfl, Below.refl _ _, rfl, fun h => h.elim⟩
        · intro xs W hW hn
          simp [flowNeeds, Region.binds] at hn
          simp only [flowAct, List.zipWith_cons_cons, List.zipWith_nil_left]
          try simp only [hn]
          go_wp2_with (fail)
          exact ⟨rfl, _, rfl, Below.refl _ _, rfl, fun h => h.elim⟩
        · intro xs W hW hn
          obtain ⟨p0, p1, p2, p3, p4, p5, p6, p7⟩ := HPW.out W hW
          simp only at p0 p1 p2 p3 p4 p5 p6 p7
          simp [flowNeeds, Region.binds] at hn
          simp only [flowAct, List.zipWith_cons_cons, List.zipWith_nil_left]
          try simp only [hn]
          go_wp2_with (fail)
          exact ⟨rfl, _, rfl, Below.refl _ _, rfl, fun h => h.elim⟩
        · intro xs W hW hn
          simp [flowNeeds, Region.binds] at hn
          simp only [flowAct, List.zipWith_cons_cons, List.zipWith_nil_left]
          simp only [hn]
          go_wp2_with (go_at_call 27; (with_reducible refine (HC.out _).mono ?_); rintro e9 w9 ⟨rfl, hb9⟩)
          exact ⟨rfl, _, rfl, hb9, rfl, fun h => h.elim⟩
      · intro xs W hW hall hfr
        clear hfr
        simp only [flowAll, and_true, Nat.zero_add, Nat.reduceAdd] at hall
        obtain ⟨-, -, -, -, -, e5⟩ := hall
        simp only [flowAct, List.zipWith_cons_cons, List.zipWith_nil_left, List.drop_succ_cons, List.drop_zero]
        simp only [e5]
        have hq2 : Cel W (B + 1) n s a b g t d e := HQ.out.kept hW
        have HO2 := Lib.hid (HO.out.kept hW)
        have HB2 := Lib.hid (HB.out.trans (hW.mono HB.out.size))
        have HS := Lib.hid hq2.lt
        obtain ⟨c0, c1, c2, c3, c4, c5, c6, c7⟩ := hq2.cs
        have cfz := hq2.fz
        have HQ2 := Lib.hid hq2
        obtain ⟨T, hT⟩ : ∃ q, twoS ⟨n, s, a, b, g, t, d, e⟩ ⟨n', s', a', b', g', t', d', e'⟩ = q := ⟨_, rfl⟩
        rw [hT] at HJ ⊢
        obtain ⟨n'', s'', a'', b'', g'', t'', d'', e''⟩ := T
        simp only [Cl.arr]
        clear hq2 hT
        go_wp2
        have hw := Wrote.of_put n s a b g t d e (Below.refl _ W) HQ2.out n'' s'' a'' b'' g'' t'' d'' e''
        go_roundw
        case rel => exact ⟨i + 1, by omega, rfl, by rw [HJ.out]; exact HQ2.out.put n'' s'' a'' b'' g'' t'' d'' e'', hw.cel HO2.out (by omega), HB2.out.trans (hw.below (by have := HBe.out; omega) (Nat.le_of_lt HS.out))⟩
        case measure => simp [intOf]; omega
    · obtain rfl : i = m := by omega
      rw [List.take_of_length_le (by omega)] at hq
      obtain ⟨J, hJ⟩ : ∃ j, joinC l = j := ⟨_, rfl⟩
      rw [hJ] at hq
      obtain ⟨n, s, a, b, g, t, d, e⟩ := J
      have hq' : Cel wr (B + 1) n s a b g t d e := hq
      have ho' : Cel wr B 0 0 0 0 false [] 0 0 := ho
      obtain ⟨c0, c1, c2, c3, c4, c5, c6, c7⟩ := hq'.cs
      obtain ⟨o0, o1, o2, o3, o4, o5, o6, o7⟩ := ho'.cs
      have ofz := ho'.fz
      have HO := Lib.hid ho'
      have HB := Lib.hid hB
      have HJ2 := Lib.hid hJ
      clear hq ho hB hq' ho' hJ
      go_wp2
      refine bodyPost_ret (results_cell_row rfl _ _ B 27 _ (0, 0) _ rfl (HO.out.put n s a b g t d e) Try.underlying27 rfl (sizeC n s a b g t d e)) rfl ⟨by rw [HJ2.out]; rfl, put_below HB.out (by have := HBe.out; omega) n s a b g t d e⟩
end Go.Proofs.Ytkjpmdpljdgcjaa
