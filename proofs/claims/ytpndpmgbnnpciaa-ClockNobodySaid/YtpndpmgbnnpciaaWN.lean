/-
  Stamp: the program's Next.
-/
import Derived.Test.YtpndpmgbnnpciaaWP
namespace Go.Proofs.Ytpndpmgbnnpciaa
open Go.RowKit Go Go.Sort
set_option linter.unusedVariables false

theorem sprs2 (W : World) (a b c d : Int) : Prs (W.alloc (.cells #[.int .i64 a, .int .i64 b, .int .i64 c, .int .i64 d] 66)) (some ⟨W.heap.size, 0, none⟩) 2 2 [(a, b), (c, d)] := by
  have h : (W.alloc (.cells #[.int .i64 a, .int .i64 b, .int .i64 c, .int .i64 d] 66)).heap[W.heap.size]? = some (.cells #[.int .i64 a, .int .i64 b, .int .i64 c, .int .i64 d] 66 (0, 0)) := heap_alloc_new W _
  refine ⟨rfl, Nat.le_refl _, by omega, .inr ⟨W.heap.size, 0, rfl, fun i hi => ?_⟩⟩
  rcases (by omega : i = 0 ∨ i = 1) with rfl | rfl
  · exact ⟨by rw [cell_of_row _ _ _ _ _ _ h]; rfl, by rw [cell_of_row _ _ _ _ _ _ h]; rfl⟩
  · exact ⟨by rw [cell_of_row _ _ _ _ _ _ h]; rfl, by rw [cell_of_row _ _ _ _ _ _ h]; rfl⟩

theorem later_two (n t site : Int) (hs : site = 1 ∨ site = 2) (h0 : 1 ≤ n) (h1 : n ≤ 281474976710656) (h2 : 1 ≤ t) (h3 : t ≤ 281474976710656) : laterS [(n, site), (t, site)] = (max n t, site) := by
  have g1 : sgood n site = true := by unfold sgood; simp; omega
  have g2 : sgood t site = true := by unfold sgood; simp; omega
  have l1 : sless 0 0 n site = true := by unfold sless; simp; omega
  by_cases h : n < t
  · have l2 : sless n site t site = true := by unfold sless; simp; omega
    simp [laterS, g1, g2, l1, l2]; omega
  · have l2 : sless n site t site = false := by unfold sless; simp; omega
    simp [laterS, g1, g2, l1, l2]; omega

set_option maxHeartbeats 3200000 in
theorem snext_c (n s now site : Int) (w : World) : Calls Try.prog 83 #[.agg #[.int .i64 n, .int .i64 s], .int .i64 now, .int .i64 site] w (Tells (.tuple #[.agg #[.int .i64 (snext n s now site).1.1, .int .i64 (snext n s now site).1.2], .int .i64 (snext n s now site).2]) w) := by
  have hp := (Pair.new w 66 n s).alloc (.cells #[.int .i64 0, .int .i64 0] 66)
  have ho := Pair.second w (.cells #[.int .i64 n, .int .i64 s] 66) 66 0 0
  have hb := second_below w (.cells #[.int .i64 n, .int .i64 s] 66) (.cells #[.int .i64 0, .int .i64 0] 66)
  have HP := Lib.hid hp
  have HO := Lib.hid ho
  have HB := Lib.hid hb
  have HG := Lib.hid (sgood_c n s)
  have HQ := Lib.hid (issite_c site)
  have HV := Lib.hid (show snext n s now site = if (site ≠ 1 ∧ site ≠ 2) ∨ sgood n s = false then ((0, 0), 2) else if 281474976710656 < max (n + 1) (min now 1099511627776) then ((0, 0), 50) else ((max (n + 1) (min now 1099511627776), site), 0) from rfl)
  clear hp ho hb
  by_cases hs : site = 1 ∨ site = 2
  · rw [decide_eq_true hs] at HQ
    cases hg : sgood n s with
    | false =>
      rw [hg] at HG
      have hv : snext n s now site = ((0, 0), 2) := by rw [HV.out, if_pos (.inr hg)]
      rw [hv]
      clear hv hg
      go_enter Try.func83, Try.ntmps83
      go_upto_region 1 with (fail)
      generalize (w.alloc (.cells #[.int .i64 n, .int .i64 s] 66)).alloc (.cells #[.int .i64 0, .int .i64 0] 66) = W1 at *
      have l0 := HP.out.c0
      have l1 := HP.out.c1
      go_wp2_with (first
        | (go_at_call 90; (with_reducible refine (HQ.out _).mono ?_); rintro e w1 ⟨rfl, rfl⟩)
        | (go_at_call 77; (with_reducible refine (HG.out _).mono ?_); rintro e w1 ⟨rfl, hb1⟩; have o0 := (HO.out.kept hb1).c0; have o1 := (HO.out.kept hb1).c1; have z0 := (HO.out.kept hb1).fz 0; have z1 := (HO.out.kept hb1).fz 1))
      refine bodyPost_ret (res_cell_tmp rfl _ _ (w.heap.size + 1) 66 _ (0, 0) _ _ rfl rfl (((HO.out.kept hb1).set0 0).set1 0) Try.underlying66 rfl (size2s _ _)) rfl ⟨rfl, ((HB.out.trans (hb1.mono HB.out.size)).setCell (by simp) _).setCell (by simp) _⟩
    | true =>
      rw [hg] at HG
      have hgd : 0 ≤ n ∧ n ≤ 281474976710656 := by unfold sgood at hg; simp at hg; omega
      by_cases hm : n = 281474976710656
      · have hv : snext n s now site = ((0, 0), 50) := by rw [HV.out, if_neg (by rw [hg]; rcases hs with rfl | rfl <;> simp), if_pos (by omega)]
        rw [hv]
        subst hm
        have HG2 := Lib.hid (sgood_c 281474976710657 site)
        rw [show sgood 281474976710657 site = false by unfold sgood; simp] at HG2
        clear hv hg hgd
        go_enter Try.func83, Try.ntmps83
        go_upto_region 1 with (fail)
        generalize (w.alloc (.cells #[.int .i64 281474976710656, .int .i64 s] 66)).alloc (.cells #[.int .i64 0, .int .i64 0] 66) = W1 at *
        have l0 := HP.out.c0
        have l1 := HP.out.c1
        go_upto_region 4 with (first
          | (go_at_call 90; (with_reducible refine (HQ.out _).mono ?_); rintro e w1 ⟨rfl, rfl⟩)
          | (go_at_call 77; (with_reducible refine (HG.out _).mono ?_); rintro e w2 ⟨rfl, hb2⟩; have m0 := (HP.out.kept hb2).c0; have m1 := (HP.out.kept hb2).c1))
        have HO2 := Lib.hid ((HO.out.kept hb2).alloc (.cells #[.int .i64 281474976710657, .int .i64 site] 66))
        have hx2 := Pair.new w2 66 281474976710657 site
        have h2 := HB.out.trans (hb2.mono HB.out.size)
        have HB2 := Lib.hid (h2.alloc h2.size (.cells #[.int .i64 281474976710657, .int .i64 site] 66))
        obtain ⟨gx, hgx⟩ : ∃ g, w2.heap.size = g := ⟨_, rfl⟩
        rw [hgx] at hx2 ⊢
        generalize w2.alloc (.cells #[.int .i64 281474976710657, .int .i64 site] 66) = W2 at *
        have x0 := hx2.c0
        have x1 := hx2.c1
        clear hx2 l0 l1 m0 m1 h2 hb2 hgx HO HB HP
        go_wp2_with (go_at_call 77; (with_reducible refine (HG2.out _).mono ?_); rintro e w3 ⟨rfl, hb3⟩; have o0 := (HO2.out.kept hb3).c0; have o1 := (HO2.out.kept hb3).c1; have z0 := (HO2.out.kept hb3).fz 0; have z1 := (HO2.out.kept hb3).fz 1)
        refine bodyPost_ret (res_cell_tmp rfl _ _ (w.heap.size + 1) 66 _ (0, 0) _ _ rfl rfl (((HO2.out.kept hb3).set0 0).set1 0) Try.underlying66 rfl (size2s _ _)) rfl ⟨rfl, ((HB2.out.trans (hb3.mono HB2.out.size)).setCell (by simp) _).setCell (by simp) _⟩
      · obtain ⟨T, hT⟩ : ∃ T, min (Max.max now 1) 1099511627776 = T := ⟨_, rfl⟩
        have hT1 : 1 ≤ T ∧ T ≤ 1099511627776 := by omega
        have hv : snext n s now site = ((Max.max (n + 1) T, site), 0) := by
          rw [HV.out, if_neg (by rw [hg]; rcases hs with rfl | rfl <;> simp), if_neg (by omega)]
          have : max (n + 1) (min now 1099511627776) = Max.max (n + 1) T := by omega
          rw [this]
        rw [hv]
        have HG2 := Lib.hid (sgood_c (n + 1) site)
        rw [show sgood (n + 1) site = true by unfold sgood; simp; omega] at HG2
        have hL := fun W (g : Nat) (h : Prs W (some ⟨g, 0, none⟩) 2 2 [(n + 1, site), (T, site)]) => slater_c h
        simp only [later_two (n + 1) T site hs (by omega) (by omega) (by omega) (by omega)] at hL
        have HLt := Lib.hid hL
        have HT := Lib.hid hT
        clear hv hg hL hT
        go_enter Try.func83, Try.ntmps83
        go_upto_region 1 with (fail)
        generalize (w.alloc (.cells #[.int .i64 n, .int .i64 s] 66)).alloc (.cells #[.int .i64 0, .int .i64 0] 66) = W1 at *
        have l0 := HP.out.c0
        have l1 := HP.out.c1
        go_upto_region 4 with (first
          | (go_at_call 90; (with_reducible refine (HQ.out _).mono ?_); rintro e w1 ⟨rfl, rfl⟩)
          | (go_at_call 77; (with_reducible refine (HG.out _).mono ?_); rintro e w2 ⟨rfl, hb2⟩; have m0 := (HP.out.kept hb2).c0; have m1 := (HP.out.kept hb2).c1))
        have HO2 := Lib.hid ((HO.out.kept hb2).alloc (.cells #[.int .i64 (n + 1), .int .i64 site] 66))
        have hx2 := Pair.new w2 66 (n + 1) site
        have h2 := HB.out.trans (hb2.mono HB.out.size)
        have HB2 := Lib.hid (h2.alloc h2.size (.cells #[.int .i64 (n + 1), .int .i64 site] 66))
        obtain ⟨gx, hgx⟩ : ∃ g, w2.heap.size = g := ⟨_, rfl⟩
        rw [hgx] at hx2 ⊢
        generalize w2.alloc (.cells #[.int .i64 (n + 1), .int .i64 site] 66) = W2 at *
        have x0 := hx2.c0
        have x1 := hx2.c1
        have HX2 := Lib.hid hx2
        clear hx2 l0 l1 m0 m1 h2 hb2 hgx HO HB HP
        go_upto_region 6 with (go_at_call 77; (with_reducible refine (HG2.out _).mono ?_); rintro e w3 ⟨rfl, hb3⟩)
        have HX3 := Lib.hid (HX2.out.kept hb3)
        have HO3 := Lib.hid (HO2.out.kept hb3)
        have HB3 := Lib.hid (HB2.out.trans (hb3.mono HB2.out.size))
        clear hb3 x0 x1 HX2 HO2 HB2
        go_upto_region 7 with (fail)
        rw [HT.out]
        have hx4 := HX3.out.alloc (.cells #[.int .i64 T, .int .i64 site] 66)
        have hy4 := Pair.new w3 66 T site
        have HO4 := Lib.hid (HO3.out.alloc (.cells #[.int .i64 T, .int .i64 site] 66))
        have HB4 := Lib.hid (HB3.out.alloc HB3.out.size (.cells #[.int .i64 T, .int .i64 site] 66))
        obtain ⟨gy, hgy⟩ : ∃ g, w3.heap.size = g := ⟨_, rfl⟩
        rw [hgy] at hy4 ⊢
        generalize w3.alloc (.cells #[.int .i64 T, .int .i64 site] 66) = W4 at *
        have x0 := hx4.c0
        have x1 := hx4.c1
        have y0 := hy4.c0
        have y1 := hy4.c1
        have hb5 := alloc_below W4 (.cells #[.int .i64 (n + 1), .int .i64 site, .int .i64 T, .int .i64 site] 66)
        have HO5 := Lib.hid (HO4.out.kept hb5)
        have HB5 := Lib.hid (HB4.out.trans (hb5.mono HB4.out.size))
        have HPr := Lib.hid (sprs2 W4 (n + 1) site T site)
        clear hx4 hy4 hgy HX3 HO3 HB3 HV hb5
        go_wp2_with (go_at_call 81; (with_reducible refine (HLt.out _ _ HPr.out).mono ?_); rintro e w6 ⟨rfl, hb6⟩; have o0 := (HO5.out.kept hb6).c0; have o1 := (HO5.out.kept hb6).c1; have z0 := (HO5.out.kept hb6).fz 0; have z1 := (HO5.out.kept hb6).fz 1)
        refine bodyPost_ret (res_cell_tmp rfl _ _ (w.heap.size + 1) 66 _ (0, 0) _ _ rfl rfl (((HO5.out.kept hb6).set0 _).set1 _) Try.underlying66 rfl (size2s _ _)) rfl ⟨rfl, ((HB5.out.trans (hb6.mono HB5.out.size)).setCell (by simp) _).setCell (by simp) _⟩
  · rw [decide_eq_false hs] at HQ
    have hv : snext n s now site = ((0, 0), 2) := by rw [HV.out, if_pos (.inl ⟨by omega, by omega⟩)]
    rw [hv]
    clear hv hs
    go_enter Try.func83, Try.ntmps83
    go_upto_region 1 with (fail)
    generalize (w.alloc (.cells #[.int .i64 n, .int .i64 s] 66)).alloc (.cells #[.int .i64 0, .int .i64 0] 66) = W1 at *
    have o0 := HO.out.c0
    have o1 := HO.out.c1
    have z0 := HO.out.fz 0
    have z1 := HO.out.fz 1
    go_wp2_with (go_at_call 90; (with_reducible refine (HQ.out _).mono ?_); rintro e w1 ⟨rfl, rfl⟩)
    refine bodyPost_ret (res_cell_tmp rfl _ _ (w.heap.size + 1) 66 _ (0, 0) _ _ rfl rfl ((HO.out.set0 0).set1 0) Try.underlying66 rfl (size2s _ _)) rfl ⟨rfl, (HB.out.setCell (by simp) _).setCell (by simp) _⟩
end Go.Proofs.Ytpndpmgbnnpciaa
