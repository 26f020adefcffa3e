/-
  Stamp: the walk of StampOn over contracts of the program's functions.
-/
import Derived.Test.YtjlolljlhoclhaaDoorW4
namespace Go.Proofs.YtjlolljlhoclhaaDoor
open Go.RowKit Go Go.Sort
set_option linter.unusedVariables false

theorem snext_cases (n s m t now k : Int) (hk : k = 1 ∨ k = 2) : (∃ f, f ≠ 0 ∧ snext n s now k = ((0, 0), f)) ∨
    (∃ x, snext n s now k = ((x, k), 0) ∧ sgood x k = true ∧ sless n s x k = true ∧ (m < min now 1099511627776 → sless m t x k = true)) := by
  unfold snext
  by_cases h1 : (k ≠ 1 ∧ k ≠ 2) ∨ sgood n s = false
  · exact .inl ⟨2, by decide, if_pos h1⟩
  · rw [if_neg h1]
    by_cases h2 : 281474976710656 < max (n + 1) (min now 1099511627776)
    · exact .inl ⟨50, by decide, if_pos h2⟩
    · rw [if_neg h2]
      have hg : sgood n s = true := by
        cases h : sgood n s
        · exact absurd (.inr h) h1
        · rfl
      have hgd : (n = 0 ∧ s = 0) ∨ (1 ≤ n ∧ n ≤ 281474976710656 ∧ (s = 1 ∨ s = 2)) := by simpa [sgood] using hg
      refine .inr ⟨_, rfl, ?_, ?_, fun hm => ?_⟩
      · simp only [sgood, decide_eq_true_eq]; omega
      · simp only [sless, decide_eq_true_eq]; omega
      · simp only [sless, decide_eq_true_eq]; omega

set_option maxRecDepth 100000 in
set_option maxHeartbeats 3200000 in
theorem son_walk (K : StampOk) (n s m t now : Int) {w : World} : Calls Tryd.prog 7 #[.agg #[.int .i64 n, .int .i64 s], .agg #[.int .i64 m, .int .i64 t], .int .i64 now] w (Tells (.bool true) w) := by
  have hp := (Pair.new w 23 n s).alloc (.cells #[.int .i64 m, .int .i64 t] 23)
  have hq := Pair.second w (.cells #[.int .i64 n, .int .i64 s] 23) 23 m t
  have hb := second_below w (.cells #[.int .i64 n, .int .i64 s] 23) (.cells #[.int .i64 m, .int .i64 t] 23)
  have hEQ := stamp_neq
  have hEG := stamp_eqg
  have HL1 := Lib.hid (slives_c K)
  go_enter Tryd.func7, Tryd.ntmps7
  go_upto_region 1 with (fail)
  generalize (w.alloc (.cells #[.int .i64 n, .int .i64 s] 23)).alloc (.cells #[.int .i64 m, .int .i64 t] 23) = W1 at *
  have HP := Lib.hid hp
  have HQ := Lib.hid hq
  have HB := Lib.hid hb
  clear hp hq hb
  go_wp2
  go_loopw [7] (fun i wr => ∃ k : Int, 1 ≤ k ∧ k ≤ 3 ∧ i = .int .i64 k ∧ Pair wr w.heap.size 23 n s ∧ Pair wr (w.heap.size + 1) 23 m t ∧ Below w.heap.size w wr) (fun i _ => (3 - intOf i).toNat)
  case atStart => exact ⟨1, by omega, by omega, rfl, HP.out, HQ.out, HB.out⟩
  case round =>
    clear HP HQ HB
    obtain ⟨k, hk1, hk3, rfl, hp, hq, hB⟩ := hrel
    by_cases hlt : k ≤ 2
    · have hkk : k = 1 ∨ k = 2 := by omega
      have N1 := K.next n s now k
      have hc := snext_cases n s m t now k hkk
      have p0 := hp.c0
      have p1 := hp.c1
      have HP := Lib.hid hp
      have HQ := Lib.hid hq
      have HB := Lib.hid hB
      clear hp hq hB
      rcases hc with ⟨f, hf, hs⟩ | ⟨x, hs, hg, hl, ho⟩
      · simp only [hs] at N1
        have HN1 := Lib.hid N1
        have hf1 : (f != 0) = true := by simpa using hf
        clear N1 hs hf
        go_upto_region 5 with (go_at_call 17; (with_reducible refine (HN1.out _).mono ?_); rintro e w2 ⟨rfl, hb2⟩)
        have HP2 := Lib.hid ((HP.out.kept hb2).alloc (.cells #[.int .i64 0, .int .i64 0] 23))
        have HQ2 := Lib.hid ((HQ.out.kept hb2).alloc (.cells #[.int .i64 0, .int .i64 0] 23))
        have HX2 := Lib.hid (Pair.new w2 23 0 0)
        have HB2 := Lib.hid ((HB.out.trans (hb2.mono HB.out.size)).alloc (Nat.le_trans HB.out.size hb2.size) (.cells #[.int .i64 0, .int .i64 0] 23))
        obtain ⟨gx, hgx⟩ : ∃ g, w2.heap.size = g := ⟨_, rfl⟩
        rw [hgx] at HX2 ⊢
        clear p0 p1 hb2 hgx HP HQ HB
        generalize w2.alloc (.cells #[.int .i64 0, .int .i64 0] 23) = W2 at *
        have x0 := HX2.out.c0
        have x1 := HX2.out.c1
        go_wp2
        go_roundw
        case rel => exact ⟨k + 1, by omega, by omega, rfl, HP2.out, HQ2.out, HB2.out⟩
        case measure => simp [intOf]; omega
      · simp only [hs] at N1
        have HN1 := Lib.hid N1
        have G := K.good x k
        have L := K.less n s x k
        rw [hg] at G
        rw [hl] at L
        have HG := Lib.hid G
        have HL := Lib.hid L
        clear N1 hs hg hl G L
        go_upto_region 5 with (go_at_call 17; (with_reducible refine (HN1.out _).mono ?_); rintro e w2 ⟨rfl, hb2⟩)
        have HP2 := Lib.hid ((HP.out.kept hb2).alloc (.cells #[.int .i64 x, .int .i64 k] 23))
        have HQ2 := Lib.hid ((HQ.out.kept hb2).alloc (.cells #[.int .i64 x, .int .i64 k] 23))
        have HX2 := Lib.hid (Pair.new w2 23 x k)
        have HB2 := Lib.hid ((HB.out.trans (hb2.mono HB.out.size)).alloc (Nat.le_trans HB.out.size hb2.size) (.cells #[.int .i64 x, .int .i64 k] 23))
        obtain ⟨gx, hgx⟩ : ∃ g, w2.heap.size = g := ⟨_, rfl⟩
        rw [hgx] at HX2 ⊢
        clear p0 p1 hb2 hgx HP HQ HB
        generalize w2.alloc (.cells #[.int .i64 x, .int .i64 k] 23) = W2 at *
        have x0 := HX2.out.c0
        have x1 := HX2.out.c1
        by_cases hm : m < min now 1099511627776
        · have O := K.less m t x k
          rw [ho hm] at O
          have HO := Lib.hid O
          clear O ho
          go_wp2_with (first
            | (go_at_call 11; (with_reducible refine (HG.out _).mono ?_); rintro e w3 ⟨rfl, hb3⟩; have a0 := (HP2.out.kept hb3).c0; have a1 := (HP2.out.kept hb3).c1; have y0 := (HX2.out.kept hb3).c0; have y1 := (HX2.out.kept hb3).c1)
            | (go_at_call 13; (with_reducible refine (HL.out _).mono ?_); rintro e w4 ⟨rfl, hb4⟩; have c0 := ((HQ2.out.kept hb3).kept hb4).c0; have c1 := ((HQ2.out.kept hb3).kept hb4).c1; have v0 := ((HX2.out.kept hb3).kept hb4).c0; have v1 := ((HX2.out.kept hb3).kept hb4).c1)
            | (go_at_call 13; (with_reducible refine (HO.out _).mono ?_); rintro e w5 ⟨rfl, hb5⟩))
          have h3 := HB2.out.trans (hb3.mono HB2.out.size)
          have h4 := h3.trans (hb4.mono h3.size)
          go_roundw
          case rel => exact ⟨k + 1, by omega, by omega, rfl, ((HP2.out.kept hb3).kept hb4).kept hb5, ((HQ2.out.kept hb3).kept hb4).kept hb5, h4.trans (hb5.mono h4.size)⟩
          case measure => simp [intOf]; omega
        · have hd : decide (m < min now 1099511627776) = false := by simpa using hm
          clear ho hm
          go_wp2_with (first
            | (go_at_call 11; (with_reducible refine (HG.out _).mono ?_); rintro e w3 ⟨rfl, hb3⟩; have a0 := (HP2.out.kept hb3).c0; have a1 := (HP2.out.kept hb3).c1; have y0 := (HX2.out.kept hb3).c0; have y1 := (HX2.out.kept hb3).c1)
            | (go_at_call 13; (with_reducible refine (HL.out _).mono ?_); rintro e w4 ⟨rfl, hb4⟩; have c0 := ((HQ2.out.kept hb3).kept hb4).c0; have c1 := ((HQ2.out.kept hb3).kept hb4).c1; have v0 := ((HX2.out.kept hb3).kept hb4).c0; have v1 := ((HX2.out.kept hb3).kept hb4).c1))
          have h3 := HB2.out.trans (hb3.mono HB2.out.size)
          have h4 := h3.trans (hb4.mono h3.size)
          go_roundw
          case rel => exact ⟨k + 1, by omega, by omega, rfl, (HP2.out.kept hb3).kept hb4, (HQ2.out.kept hb3).kept hb4, h4⟩
          case measure => simp [intOf]; omega
    · obtain rfl : k = 3 := by omega
      have HB := Lib.hid hB
      clear hp hq hB
      go_wp2_with (go_at_call 10; (with_reducible refine (HL1.out _).mono ?_); rintro e w3 ⟨rfl, hb3⟩)
      go_ret
      exact ⟨rfl, HB.out.trans (hb3.mono HB.out.size)⟩
end Go.Proofs.YtjlolljlhoclhaaDoor
