/-
  Vec: the walk of VecLattice where a pair is not good, and all of it.
-/
import Derived.Test.YtjlolljlhoclhaaV9
namespace Go.Proofs.Ytjlolljlhoclhaa
open Go.RowKit Go Go.Sort
set_option linter.unusedVariables false

set_option maxRecDepth 100000 in
set_option maxHeartbeats 1600000 in
theorem vlattice_bad (K : VecOk) (a0 a1 b0 b1 c0 c1 : Int) {w : World} (h : vgood a0 a1 = false ∨ vgood b0 b1 = false ∨ vgood c0 c1 = false) :
    Calls Try.prog 6 #[.agg #[.int .i64 a0, .int .i64 a1], .agg #[.int .i64 b0, .int .i64 b1], .agg #[.int .i64 c0, .int .i64 c1]] w (Tells (.bool true) w) := by
  have hp := ((Pair.new w 23 a0 a1).alloc (.cells #[.int .i64 b0, .int .i64 b1] 23)).alloc (.cells #[.int .i64 c0, .int .i64 c1] 23)
  have hq := (Pair.second w (.cells #[.int .i64 a0, .int .i64 a1] 23) 23 b0 b1).alloc (.cells #[.int .i64 c0, .int .i64 c1] 23)
  have hr := Pair.third w (.cells #[.int .i64 a0, .int .i64 a1] 23) (.cells #[.int .i64 b0, .int .i64 b1] 23) 23 c0 c1
  have hb := third_below w (.cells #[.int .i64 a0, .int .i64 a1] 23) (.cells #[.int .i64 b0, .int .i64 b1] 23) (.cells #[.int .i64 c0, .int .i64 c1] 23)
  have G1 := K.good a0 a1
  have G2 := K.good b0 b1
  have G3 := K.good c0 c1
  have HLv := Lib.hid (vlives_c K)
  have HP := Lib.hid hp
  have HQ := Lib.hid hq
  have HR := Lib.hid hr
  have HB := Lib.hid hb
  clear hp hq hr hb
  cases ga : vgood a0 a1 with
  | false =>
    rw [ga] at G1
    have HG1 := Lib.hid G1
    clear G1 G2 G3 h ga
    go_enter Try.func6, Try.ntmps6
    go_upto_region 1 with (fail)
    generalize ((w.alloc (.cells #[.int .i64 a0, .int .i64 a1] 23)).alloc (.cells #[.int .i64 b0, .int .i64 b1] 23)).alloc (.cells #[.int .i64 c0, .int .i64 c1] 23) = W0 at *
    have p0 := HP.out.c0
    have p1 := HP.out.c1
    go_wp2_with (first
      | (go_at_call 8; (with_reducible refine (HG1.out _).mono ?_); rintro e w1 ⟨rfl, hb1⟩)
      | (go_at_call 16; (with_reducible refine (HLv.out _).mono ?_); rintro e w4 ⟨rfl, hb4⟩))
    go_ret
    have h1 := HB.out.trans (hb1.mono HB.out.size)
    exact ⟨rfl, h1.trans (hb4.mono h1.size)⟩
  | true =>
    rw [ga] at G1
    have HG1 := Lib.hid G1
    cases gb : vgood b0 b1 with
    | false =>
      rw [gb] at G2
      have HG2 := Lib.hid G2
      clear G1 G2 G3 h ga gb
      go_enter Try.func6, Try.ntmps6
      go_upto_region 1 with (fail)
      generalize ((w.alloc (.cells #[.int .i64 a0, .int .i64 a1] 23)).alloc (.cells #[.int .i64 b0, .int .i64 b1] 23)).alloc (.cells #[.int .i64 c0, .int .i64 c1] 23) = W0 at *
      have p0 := HP.out.c0
      have p1 := HP.out.c1
      go_wp2_with (first
        | (go_at_call 8; (with_reducible refine (HG1.out _).mono ?_); rintro e w1 ⟨rfl, hb1⟩; have q0 := (HQ.out.kept hb1).c0; have q1 := (HQ.out.kept hb1).c1)
        | (go_at_call 8; (with_reducible refine (HG2.out _).mono ?_); rintro e w2 ⟨rfl, hb2⟩)
        | (go_at_call 16; (with_reducible refine (HLv.out _).mono ?_); rintro e w4 ⟨rfl, hb4⟩))
      go_ret
      have h1 := HB.out.trans (hb1.mono HB.out.size)
      have h2 := h1.trans (hb2.mono h1.size)
      exact ⟨rfl, h2.trans (hb4.mono h2.size)⟩
    | true =>
      rw [gb] at G2
      have HG2 := Lib.hid G2
      have gc : vgood c0 c1 = false := by rcases h with h | h | h <;> simp_all
      rw [gc] at G3
      have HG3 := Lib.hid G3
      clear G1 G2 G3 h ga gb gc
      go_enter Try.func6, Try.ntmps6
      go_upto_region 1 with (fail)
      generalize ((w.alloc (.cells #[.int .i64 a0, .int .i64 a1] 23)).alloc (.cells #[.int .i64 b0, .int .i64 b1] 23)).alloc (.cells #[.int .i64 c0, .int .i64 c1] 23) = W0 at *
      have p0 := HP.out.c0
      have p1 := HP.out.c1
      go_wp2_with (first
        | (go_at_call 8; (with_reducible refine (HG1.out _).mono ?_); rintro e w1 ⟨rfl, hb1⟩; have q0 := (HQ.out.kept hb1).c0; have q1 := (HQ.out.kept hb1).c1)
        | (go_at_call 8; (with_reducible refine (HG2.out _).mono ?_); rintro e w2 ⟨rfl, hb2⟩; have r0 := ((HR.out.kept hb1).kept hb2).c0; have r1 := ((HR.out.kept hb1).kept hb2).c1)
        | (go_at_call 8; (with_reducible refine (HG3.out _).mono ?_); rintro e w3 ⟨rfl, hb3⟩)
        | (go_at_call 16; (with_reducible refine (HLv.out _).mono ?_); rintro e w4 ⟨rfl, hb4⟩))
      go_ret
      have h1 := HB.out.trans (hb1.mono HB.out.size)
      have h2 := h1.trans (hb2.mono h1.size)
      have h3 := h2.trans (hb3.mono h2.size)
      exact ⟨rfl, h3.trans (hb4.mono h3.size)⟩

theorem vlattice_all (K : VecOk) (a0 a1 b0 b1 c0 c1 : Int) {w : World} :
    Calls Try.prog 6 #[.agg #[.int .i64 a0, .int .i64 a1], .agg #[.int .i64 b0, .int .i64 b1], .agg #[.int .i64 c0, .int .i64 c1]] w (Tells (.bool true) w) := by
  cases ga : vgood a0 a1 with
  | false => exact vlattice_bad K a0 a1 b0 b1 c0 c1 (.inl ga)
  | true =>
    cases gb : vgood b0 b1 with
    | false => exact vlattice_bad K a0 a1 b0 b1 c0 c1 (.inr (.inl gb))
    | true =>
      cases gc : vgood c0 c1 with
      | false => exact vlattice_bad K a0 a1 b0 b1 c0 c1 (.inr (.inr gc))
      | true => exact vlattice_walk K a0 a1 b0 b1 c0 c1 ga gb gc
end Go.Proofs.Ytjlolljlhoclhaa
