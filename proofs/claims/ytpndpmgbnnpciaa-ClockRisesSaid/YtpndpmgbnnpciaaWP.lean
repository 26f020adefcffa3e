/-
  Stamp: the program's Good, Less, Later.
-/
import Derived.Test.YtpndpmgbnnpciaaW4
namespace Go.Proofs.Ytpndpmgbnnpciaa
open Go.RowKit Go Go.Sort
set_option linter.unusedVariables false

theorem stamp_eqb (x y x' y' : Int) (b : Bool) (h : ((x == x') && (y == y')) = b) (W : World) : (binOp .eql 66 (.agg #[.int .i64 x, .int .i64 y]) (.agg #[.int .i64 x', .int .i64 y'])).run Try.prog W = .ok (.bool b) W := by
  rw [run_eql_struct, stamp_eqIn, h]; rfl

set_option maxHeartbeats 800000 in
theorem issite_c (s : Int) (w : World) : Calls Try.prog 90 #[.int .i64 s] w (fun e w' => e = .returned (.bool (decide (s = 1 ∨ s = 2))) ∧ w' = w) := by
  by_cases h1 : s = 1
  · subst h1
    go_enter Try.func90, Try.ntmps90
    go_wp2
    go_ret
    exact ⟨rfl, rfl⟩
  · have e1 : (s == 1) = false := by simpa using h1
    by_cases h2 : s = 2
    · subst h2
      go_enter Try.func90, Try.ntmps90
      go_wp2
      go_ret
      exact ⟨rfl, rfl⟩
    · have e2 : (s == 2) = false := by simpa using h2
      have hd : decide (s = 1 ∨ s = 2) = false := by simp [h1, h2]
      rw [hd]
      clear h1 h2 hd
      go_enter Try.func90, Try.ntmps90
      go_wp2
      go_ret
      exact ⟨rfl, rfl⟩

set_option maxHeartbeats 1600000 in
theorem sgood_c (n s : Int) (w : World) : Calls Try.prog 77 #[.agg #[.int .i64 n, .int .i64 s]] w (Tells (.bool (sgood n s)) w) := by
  have hp := Pair.new w 66 n s
  have hb := alloc_below w (.cells #[.int .i64 n, .int .i64 s] 66)
  have h0 := hp.c0
  have h1 := hp.c1
  have HB := Lib.hid hb
  have HS := Lib.hid (issite_c s)
  have hEG := stamp_eqg
  clear hp hb
  by_cases z : n = 0 ∧ s = 0
  · obtain ⟨rfl, rfl⟩ := z
    have hEQ := stamp_eql
    rw [show sgood 0 0 = true by decide]
    go_enter Try.func77, Try.ntmps77
    go_wp2
    go_ret
    exact ⟨rfl, HB.out⟩
  · have hEQ := stamp_eqb n s 0 0 false (by rw [Bool.eq_false_iff]; simp; intro h1 h2; exact z ⟨h1, h2⟩)
    by_cases hs : s = 1 ∨ s = 2
    · rw [decide_eq_true hs] at HS
      by_cases n1 : 1 ≤ n
      · by_cases n2 : n ≤ 281474976710656
        · have hv : sgood n s = true := by unfold sgood; simp; omega
          rw [hv]
          clear hv z hs
          go_enter Try.func77, Try.ntmps77
          go_wp2_with (go_at_call 90; (with_reducible refine (HS.out _).mono ?_); rintro e w1 ⟨rfl, rfl⟩)
          go_ret
          exact ⟨rfl, HB.out⟩
        · have hv : sgood n s = false := by unfold sgood; simp; omega
          rw [hv]
          clear hv z hs
          go_enter Try.func77, Try.ntmps77
          go_wp2_with (go_at_call 90; (with_reducible refine (HS.out _).mono ?_); rintro e w1 ⟨rfl, rfl⟩)
          go_ret
          exact ⟨by simp; omega, HB.out⟩
      · have hv : sgood n s = false := by unfold sgood; simp; omega
        rw [hv]
        clear hv z hs
        go_enter Try.func77, Try.ntmps77
        go_wp2_with (go_at_call 90; (with_reducible refine (HS.out _).mono ?_); rintro e w1 ⟨rfl, rfl⟩)
        go_ret
        exact ⟨rfl, HB.out⟩
    · rw [decide_eq_false hs] at HS
      have hv : sgood n s = false := by unfold sgood; simp; omega
      rw [hv]
      clear hv z hs
      go_enter Try.func77, Try.ntmps77
      go_wp2_with (go_at_call 90; (with_reducible refine (HS.out _).mono ?_); rintro e w1 ⟨rfl, rfl⟩)
      go_ret
      exact ⟨rfl, HB.out⟩

set_option maxHeartbeats 1600000 in
theorem sless_c (n s m t : Int) (w : World) : Calls Try.prog 51 #[.agg #[.int .i64 n, .int .i64 s], .agg #[.int .i64 m, .int .i64 t]] w (Tells (.bool (sless n s m t)) w) := by
  have hp := (Pair.new w 66 n s).alloc (.cells #[.int .i64 m, .int .i64 t] 66)
  have hq := Pair.second w (.cells #[.int .i64 n, .int .i64 s] 66) 66 m t
  have hb := second_below w (.cells #[.int .i64 n, .int .i64 s] 66) (.cells #[.int .i64 m, .int .i64 t] 66)
  have h0 := hp.c0
  have h1 := hp.c1
  have h2 := hq.c0
  have h3 := hq.c1
  have HB := Lib.hid hb
  have HV := Lib.hid (show sless n s m t = decide (n < m ∨ (n = m ∧ s < t)) from rfl)
  clear hp hq hb
  by_cases e : n = m
  · subst e
    by_cases l : s < t
    · have hv : sless n s n t = true := by rw [HV.out]; simp; omega
      rw [hv]
      clear hv
      go_enter Try.func51, Try.ntmps51
      go_wp2
      go_ret
      exact ⟨rfl, HB.out⟩
    · have hv : sless n s n t = false := by rw [HV.out]; simp; omega
      rw [hv]
      clear hv
      go_enter Try.func51, Try.ntmps51
      go_wp2
      go_ret
      exact ⟨rfl, HB.out⟩
  · have ne : (n != m) = true := by simpa using e
    by_cases l : n < m
    · have hv : sless n s m t = true := by rw [HV.out]; simp; omega
      rw [hv]
      clear hv e
      go_enter Try.func51, Try.ntmps51
      go_wp2
      go_ret
      exact ⟨rfl, HB.out⟩
    · have hv : sless n s m t = false := by rw [HV.out]; simp; omega
      rw [hv]
      clear hv e
      go_enter Try.func51, Try.ntmps51
      go_wp2
      go_ret
      exact ⟨rfl, HB.out⟩

set_option maxHeartbeats 1600000 in
theorem slater_c {w : World} {a : Option Addr} {n cap : Nat} {l : List (Int × Int)} (hl : Prs w a n cap l) : Calls Try.prog 81 #[.slice a n cap] w (Tells (.agg #[.int .i64 (laterS l).1, .int .i64 (laterS l).2]) w) := by
  have hln := hl.len
  have hnle := hl.le
  have hnm := hl.max
  have hq := (Pair.second w (.cells #[.int .i64 0, .int .i64 0] 66) 66 0 0)
  have ho := (Pair.new w 66 0 0).alloc (.cells #[.int .i64 0, .int .i64 0] 66)
  have hb := second_below w (.cells #[.int .i64 0, .int .i64 0] 66) (.cells #[.int .i64 0, .int .i64 0] 66)
  have HL := Lib.hid hl
  clear hl
  go_enter Try.func81, Try.ntmps81
  go_upto_region 2 with (fail)
  generalize (w.alloc (.cells #[.int .i64 0, .int .i64 0] 66)).alloc (.cells #[.int .i64 0, .int .i64 0] 66) = W1 at *
  have HQ := Lib.hid hq
  have HO := Lib.hid ho
  have HB := Lib.hid hb
  clear hq ho hb
  go_wp2
  go_loopw [8] (fun i wr => ∃ k : Nat, k ≤ n ∧ i = .int .i64 k ∧ Pair wr (w.heap.size + 1) 66 (laterS (l.take k)).1 (laterS (l.take k)).2 ∧ Pair wr w.heap.size 66 0 0 ∧ Below w.heap.size w wr) (fun i _ => n - (intOf i).toNat)
  case atStart => exact ⟨0, by omega, rfl, HQ.out, HO.out, HB.out⟩
  case round =>
    clear HQ HO HB
    obtain ⟨k, hk, rfl, hq, ho, hB⟩ := hrel
    by_cases hlt : k < n
    · have hki : (k : Int) < (n : Int) := by omega
      have hki2 : (k : Int) < (cap : Int) := by omega
      obtain ⟨b, off, rfl, hcell⟩ : ∃ b off, a = some ⟨b, off, none⟩ ∧ ∀ i, i < n → w.cell? ⟨b, off + i * 2, none⟩ = some (.int .i64 (l.getD i (0, 0)).1) ∧ w.cell? ⟨b, off + i * 2 + 1, none⟩ = some (.int .i64 (l.getD i (0, 0)).2) := by
        rcases HL.out.adr with h0 | h
        · omega
        · exact h
      have HCW := Lib.hid (fun W (h : Below w.heap.size w W) => (show W.cell? ⟨b, off + k * 2, none⟩ = some (.int .i64 (l.getD k (0, 0)).1) ∧ W.cell? ⟨b, off + k * 2 + 1, none⟩ = some (.int .i64 (l.getD k (0, 0)).2) from
        ⟨(h.cell (World.block_lt_of_cell? w _ (hcell k hlt).1)).trans (hcell k hlt).1, (h.cell (World.block_lt_of_cell? w _ (hcell k hlt).2)).trans (hcell k hlt).2⟩))
      have HJ := Lib.hid (laterS_take l k (by omega))
      obtain ⟨x, hx⟩ : ∃ x, l.getD k (0, 0) = x := ⟨_, rfl⟩
      obtain ⟨j, hj⟩ : ∃ j, laterS (l.take k) = j := ⟨_, rfl⟩
      simp only [hx] at HCW
      rw [hx] at HJ
      rw [hj] at hq HJ
      obtain ⟨x0, x1⟩ := x
      obtain ⟨j0, j1⟩ := j
      simp only at HCW HJ hq
      obtain ⟨p0, p1⟩ := HCW.out wr hB
      have HQ := Lib.hid hq
      have HO := Lib.hid ho
      have HB := Lib.hid hB
      have G := sgood_c x0 x1
      have L := sless_c j0 j1 x0 x1
      clear hcell hx hj hq ho hB
      go_upto_region 5 with (fail)
      have hq2 := HQ.out.alloc (.cells #[.int .i64 x0, .int .i64 x1] 66)
      have hx2 := Pair.new wr 66 x0 x1
      have HO2 := Lib.hid (HO.out.alloc (.cells #[.int .i64 x0, .int .i64 x1] 66))
      have HB2 := Lib.hid (HB.out.alloc HB.out.size (.cells #[.int .i64 x0, .int .i64 x1] 66))
      obtain ⟨gx, hgx⟩ : ∃ g, wr.heap.size = g := ⟨_, rfl⟩
      rw [hgx] at hx2 ⊢
      generalize wr.alloc (.cells #[.int .i64 x0, .int .i64 x1] 66) = W2 at *
      have v0 := hx2.c0
      have v1 := hx2.c1
      have HX2 := Lib.hid hx2
      have HQ2 := Lib.hid hq2
      clear hq2 hx2 p0 p1 HQ HO HB hgx
      cases hg : sgood x0 x1 with
      | false =>
        rw [hg] at G HJ
        have hj : laterS (l.take (k + 1)) = (j0, j1) := by rw [HJ.out, if_neg (by simp)]
        have HG := Lib.hid G
        have HJ2 := Lib.hid hj
        clear G L HJ hj hg
        go_wp2_with (go_at_call 77; (with_reducible refine (HG.out _).mono ?_); rintro e w3 ⟨rfl, hb3⟩)
        have HQ3 := Lib.hid (HQ2.out.kept hb3)
        have HO3 := Lib.hid (HO2.out.kept hb3)
        have HB3 := Lib.hid (HB2.out.trans (hb3.mono HB2.out.size))
        clear hb3
        go_wp2
        go_roundw
        case rel => exact ⟨k + 1, by omega, rfl, by rw [HJ2.out]; exact HQ3.out, HO3.out, HB3.out⟩
        case measure => simp [intOf]; omega
      | true =>
        rw [hg] at G HJ
        have HG := Lib.hid G
        cases hl : sless j0 j1 x0 x1 with
        | false =>
          rw [hl] at L HJ
          have hj : laterS (l.take (k + 1)) = (j0, j1) := by rw [HJ.out, if_neg (by simp)]
          have HLs := Lib.hid L
          have HJ2 := Lib.hid hj
          clear G L HJ hj hg hl
          go_wp2_with (first
            | (go_at_call 77; (with_reducible refine (HG.out _).mono ?_); rintro e w3 ⟨rfl, hb3⟩; have q0 := (HQ2.out.kept hb3).c0; have q1 := (HQ2.out.kept hb3).c1; have r0 := (HX2.out.kept hb3).c0; have r1 := (HX2.out.kept hb3).c1)
            | (go_at_call 51; (with_reducible refine (HLs.out _).mono ?_); rintro e w4 ⟨rfl, hb4⟩; have hb5 := hb3.trans (hb4.mono hb3.size)))
          have HQ3 := Lib.hid (HQ2.out.kept hb5)
          have HO3 := Lib.hid (HO2.out.kept hb5)
          have HB3 := Lib.hid (HB2.out.trans (hb5.mono HB2.out.size))
          clear hb3 hb4 hb5 q0 q1 r0 r1
          go_wp2
          go_roundw
          case rel => exact ⟨k + 1, by omega, rfl, by rw [HJ2.out]; exact HQ3.out, HO3.out, HB3.out⟩
          case measure => simp [intOf]; omega
        | true =>
          rw [hl] at L HJ
          have hj : laterS (l.take (k + 1)) = (x0, x1) := by rw [HJ.out, if_pos (by simp)]
          have HLs := Lib.hid L
          have HJ2 := Lib.hid hj
          clear G L HJ hj hg hl
          go_upto_region 6 with (first
            | (go_at_call 77; (with_reducible refine (HG.out _).mono ?_); rintro e w3 ⟨rfl, hb3⟩; have q0 := (HQ2.out.kept hb3).c0; have q1 := (HQ2.out.kept hb3).c1; have r0 := (HX2.out.kept hb3).c0; have r1 := (HX2.out.kept hb3).c1)
            | (go_at_call 51; (with_reducible refine (HLs.out _).mono ?_); rintro e w4 ⟨rfl, hb4⟩; have hb5 := hb3.trans (hb4.mono hb3.size)))
          have HQ3 := Lib.hid (HQ2.out.kept hb5)
          have HO3 := Lib.hid (HO2.out.kept hb5)
          have HB3 := Lib.hid (HB2.out.trans (hb5.mono HB2.out.size))
          have s0 := (HX2.out.kept hb5).c0
          have s1 := (HX2.out.kept hb5).c1
          clear hb3 hb4 hb5 q0 q1 r0 r1 v0 v1
          have q0 := HQ3.out.c0
          have q1 := HQ3.out.c1
          have z0 := HQ3.out.fz 0
          have z1 := HQ3.out.fz 1
          go_wp2
          go_roundw
          case rel => exact ⟨k + 1, by omega, rfl, by rw [HJ2.out]; exact (HQ3.out.set0 _).set1 _, (HO3.out.other _ _ (by simp)).other _ _ (by simp), (HB3.out.setCell (by simp) _).setCell (by simp) _⟩
          case measure => simp [intOf]; omega
    · obtain rfl : k = n := by omega
      rw [List.take_of_length_le (by omega)] at hq
      have q0 := hq.c0
      have q1 := hq.c1
      have o0 := ho.c0
      have o1 := ho.c1
      have z0 := ho.fz 0
      have z1 := ho.fz 1
      have HO := Lib.hid ho
      have HB := Lib.hid hB
      clear hq ho hB
      go_wp2
      refine bodyPost_ret (results_cell_row rfl _ _ w.heap.size 66 _ (0, 0) _ rfl ((HO.out.set0 _).set1 _) Try.underlying66 rfl (size2s _ _)) rfl ⟨rfl, (HB.out.setCell (Nat.le_refl _) _).setCell (Nat.le_refl _) _⟩
end Go.Proofs.Ytpndpmgbnnpciaa
