/-
  Stamps in lists: the last one; the reference's Later.
-/
import Derived.Test.YtpndpmgbnnpciaaW2
namespace Go.Proofs.Ytpndpmgbnnpciaa
open Go.RowKit Go Go.Sort
set_option linter.unusedVariables false

/-- The last of the ones of a list that may be. -/
def laterS (l : List (Int × Int)) : Int × Int := l.foldl (fun r p => if sgood p.1 p.2 = true ∧ sless r.1 r.2 p.1 p.2 = true then p else r) (0, 0)
theorem laterS_take (l : List (Int × Int)) (k : Nat) (h : k < l.length) : laterS (l.take (k + 1)) = if sgood (l.getD k (0, 0)).1 (l.getD k (0, 0)).2 = true ∧ sless (laterS (l.take k)).1 (laterS (l.take k)).2 (l.getD k (0, 0)).1 (l.getD k (0, 0)).2 = true then l.getD k (0, 0) else laterS (l.take k) := by
  unfold laterS
  rw [List.take_succ_eq_append_getElem h, List.foldl_append, List.getD_eq_getElem?_getD, List.getElem?_eq_getElem h]
  rfl

set_option maxHeartbeats 1600000 in
theorem rslater_c {w : World} {a : Option Addr} {n cap : Nat} {l : List (Int × Int)} (hl : Prs w a n cap l) : Calls Try.prog 82 #[.slice a n cap] w (Tells (.agg #[.int .i64 (laterS l).1, .int .i64 (laterS l).2]) w) := by
  have hln := hl.len
  have hnle := hl.le
  have hnm := hl.max
  have hq := (Pair.second w (.cells #[.int .i64 0, .int .i64 0] 66) 66 0 0)
  have ho := (Pair.new w 66 0 0).alloc (.cells #[.int .i64 0, .int .i64 0] 66)
  have hb := second_below w (.cells #[.int .i64 0, .int .i64 0] 66) (.cells #[.int .i64 0, .int .i64 0] 66)
  have HL := Lib.hid hl
  clear hl
  go_enter Try.func82, Try.ntmps82
  go_upto_region 2 with (fail)
  generalize (w.alloc (.cells #[.int .i64 0, .int .i64 0] 66)).alloc (.cells #[.int .i64 0, .int .i64 0] 66) = W1 at *
  have HQ := Lib.hid hq
  have HO := Lib.hid ho
  have HB := Lib.hid hb
  clear hq ho hb
  go_wp2
  go_loopw [4] (fun i wr => ∃ k : Nat, k ≤ n ∧ i = .int .i64 k ∧ Pair wr (w.heap.size + 1) 66 (laterS (l.take k)).1 (laterS (l.take k)).2 ∧ Pair wr w.heap.size 66 0 0 ∧ Below w.heap.size w wr) (fun i _ => n - (intOf i).toNat)
  case atStart => exact ⟨0, by omega, rfl, HQ.out, HO.out, HB.out⟩
  case round =>
    clear HQ HO HB
    obtain ⟨k, hk, rfl, hq, ho, hB⟩ := hrel
    by_cases hlt : k < n
    · have hki : (k : Int) < (n : Int) := by omega
      have hki2 : (k : Int) < (cap : Int) := by omega
      obtain ⟨b, off, rfl, hcell⟩ : ∃ b off, a = some ⟨b, off, none⟩ ∧ ∀ i, i < n → w.cell? ⟨b, off + i * 2, none⟩ = some (.int .i64 (l.getD i (0, 0)).1) ∧ w.cell? ⟨b, off + i * 2 + 1, none⟩ = some (.int .i64 (l.getD i (0, 0)).2) := by
        rcases HL.out.adr with h0 | h
        · omega
        · exact h
      have HCW := Lib.hid (fun W (h : Below w.heap.size w W) => (show W.cell? ⟨b, off + k * 2, none⟩ = some (.int .i64 (l.getD k (0, 0)).1) ∧ W.cell? ⟨b, off + k * 2 + 1, none⟩ = some (.int .i64 (l.getD k (0, 0)).2) from
        ⟨(h.cell (World.block_lt_of_cell? w _ (hcell k hlt).1)).trans (hcell k hlt).1, (h.cell (World.block_lt_of_cell? w _ (hcell k hlt).2)).trans (hcell k hlt).2⟩))
      have HJ := Lib.hid (laterS_take l k (by omega))
      obtain ⟨x, hx⟩ : ∃ x, l.getD k (0, 0) = x := ⟨_, rfl⟩
      obtain ⟨j, hj⟩ : ∃ j, laterS (l.take k) = j := ⟨_, rfl⟩
      simp only [hx] at HCW
      rw [hx] at HJ
      rw [hj] at hq HJ
      obtain ⟨x0, x1⟩ := x
      obtain ⟨j0, j1⟩ := j
      simp only at HCW HJ hq
      obtain ⟨p0, p1⟩ := HCW.out wr hB
      have q0 := hq.c0
      have q1 := hq.c1
      have kp0 := cell_regrown p0
      have kp1 := cell_regrown p1
      have kq0 := cell_regrown q0
      have kq1 := cell_regrown q1
      have G := fun (w : World) => tells_grown (w := w) (rsgood_c x0 x1)
      have L := fun (w : World) => tells_grown (w := w) (rsless_c j0 j1 x0 x1)
      have HQ := Lib.hid hq
      have HO := Lib.hid ho
      have HB := Lib.hid hB
      clear hcell hx hj hq ho hB p0 p1 q0 q1
      cases hg : sgood x0 x1 with
      | false =>
        rw [hg] at G HJ
        have hj : laterS (l.take (k + 1)) = (j0, j1) := by rw [HJ.out, if_neg (by simp)]
        have HG := Lib.hid G
        have HJ2 := Lib.hid hj
        clear G L HJ hj hg
        go_wp2
        refine wp_region_quiet_below (by kernel_rfl) (by kernel_rfl) ?_
        repeat (go_big_quiet_step (first | with_reducible exact HG.out _ _ _))
        refine wpQuiet_nil ?_
        intro _ hw'
        obtain ⟨⟨dq, osq⟩, hw''⟩ := hw'
        subst hw''
        have hbq := below_regrown wr dq osq
        have HQ2 := Lib.hid (HQ.out.kept hbq)
        have HO2 := Lib.hid (HO.out.kept hbq)
        have HB2 := Lib.hid (HB.out.trans (hbq.mono HB.out.size))
        clear hbq kp0 kp1 kq0 kq1 HQ HO HB
        generalize grow (redrawn wr dq) osq = W2 at *
        go_wp2
        go_roundw
        case rel => exact ⟨k + 1, by omega, rfl, by rw [HJ2.out]; exact HQ2.out, HO2.out, HB2.out⟩
        case measure => simp [intOf]; omega
      | true =>
        rw [hg] at G HJ
        have HG := Lib.hid G
        cases hl : sless j0 j1 x0 x1 with
        | false =>
          rw [hl] at L HJ
          have hj : laterS (l.take (k + 1)) = (j0, j1) := by rw [HJ.out, if_neg (by simp)]
          have HLs := Lib.hid L
          have HJ2 := Lib.hid hj
          clear G L HJ hj hg hl
          go_wp2
          refine wp_region_quiet_below (by kernel_rfl) (by kernel_rfl) ?_
          repeat (go_big_quiet_step (first | with_reducible exact HG.out _ _ _ | with_reducible exact HLs.out _ _ _))
          refine wpQuiet_nil ?_
          intro _ hw'
          obtain ⟨⟨dq, osq⟩, hw''⟩ := hw'
          subst hw''
          have hbq := below_regrown wr dq osq
          have HQ2 := Lib.hid (HQ.out.kept hbq)
          have HO2 := Lib.hid (HO.out.kept hbq)
          have HB2 := Lib.hid (HB.out.trans (hbq.mono HB.out.size))
          clear hbq kp0 kp1 kq0 kq1 HQ HO HB
          generalize grow (redrawn wr dq) osq = W2 at *
          go_wp2
          go_roundw
          case rel => exact ⟨k + 1, by omega, rfl, by rw [HJ2.out]; exact HQ2.out, HO2.out, HB2.out⟩
          case measure => simp [intOf]; omega
        | true =>
          rw [hl] at L HJ
          have hj : laterS (l.take (k + 1)) = (x0, x1) := by rw [HJ.out, if_pos (by simp)]
          have HLs := Lib.hid L
          have HJ2 := Lib.hid hj
          clear G L HJ hj hg hl
          go_wp2
          refine wp_region_quiet_below (by kernel_rfl) (by kernel_rfl) ?_
          repeat (go_big_quiet_step (first | with_reducible exact HG.out _ _ _ | with_reducible exact HLs.out _ _ _))
          refine wpQuiet_nil ?_
          intro _ hw'
          obtain ⟨⟨dq, osq⟩, hw''⟩ := hw'
          subst hw''
          have hbq := below_regrown wr dq osq
          have HQ2 := Lib.hid (HQ.out.kept hbq)
          have HO2 := Lib.hid (HO.out.kept hbq)
          have HB2 := Lib.hid (HB.out.trans (hbq.mono HB.out.size))
          clear hbq kp0 kp1 kq0 kq1 HQ HO HB
          generalize grow (redrawn wr dq) osq = W2 at *
          obtain ⟨p0, p1⟩ := HCW.out W2 HB2.out
          have q0 := HQ2.out.c0
          have q1 := HQ2.out.c1
          have z0 := HQ2.out.fz 0
          have z1 := HQ2.out.fz 1
          go_wp2
          go_roundw
          case rel => exact ⟨k + 1, by omega, rfl, by rw [HJ2.out]; exact (HQ2.out.set0 _).set1 _, (HO2.out.other _ _ (by simp)).other _ _ (by simp), (HB2.out.setCell (by simp) _).setCell (by simp) _⟩
          case measure => simp [intOf]; omega
    · obtain rfl : k = n := by omega
      rw [List.take_of_length_le (by omega)] at hq
      have q0 := hq.c0
      have q1 := hq.c1
      have o0 := ho.c0
      have o1 := ho.c1
      have z0 := ho.fz 0
      have z1 := ho.fz 1
      have HO := Lib.hid ho
      have HB := Lib.hid hB
      clear hq ho hB
      go_wp2
      refine bodyPost_ret (results_cell_row rfl _ _ w.heap.size 66 _ (0, 0) _ rfl ((HO.out.set0 _).set1 _) Try.underlying66 rfl (size2s _ _)) rfl ⟨rfl, (HB.out.setCell (Nat.le_refl _) _).setCell (Nat.le_refl _) _⟩
end Go.Proofs.Ytpndpmgbnnpciaa
