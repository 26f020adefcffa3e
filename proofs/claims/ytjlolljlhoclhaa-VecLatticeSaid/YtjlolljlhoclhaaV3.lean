/-
  Vec: lists of pairs; the reference's Join.
-/
import Derived.Test.YtjlolljlhoclhaaV2
import Derived.Lib.MinMax
namespace Go.Proofs.Ytjlolljlhoclhaa
open Go.RowKit Go Go.Sort
set_option linter.unusedVariables false

/-- The greatest counts of a list. -/
def joinS (l : List (Int × Int)) : Int × Int := l.foldl (fun r p => (Max.max r.1 p.1, Max.max r.2 p.2)) (0, 0)
theorem joinS_take (l : List (Int × Int)) (k : Nat) (h : k < l.length) : joinS (l.take (k + 1)) = (Max.max (joinS (l.take k)).1 (l.getD k (0, 0)).1, Max.max (joinS (l.take k)).2 (l.getD k (0, 0)).2) := by
  unfold joinS
  rw [List.take_succ_eq_append_getElem h, List.foldl_append, List.getD_eq_getElem?_getD, List.getElem?_eq_getElem h]
  rfl

set_option maxHeartbeats 1600000 in
theorem rvjoin_c {w : World} {a : Option Addr} {n cap : Nat} {l : List (Int × Int)} (hl : Prs w a n cap l) : Calls Try.prog 18 #[.slice a n cap] w (Tells (.agg #[.int .i64 (joinS l).1, .int .i64 (joinS l).2]) w) := by
  have hln := hl.len
  have hnle := hl.le
  have hnm := hl.max
  have hq := (Pair.second w (.cells #[.int .i64 0, .int .i64 0] 23) 23 0 0)
  have ho := (Pair.new w 23 0 0).alloc (.cells #[.int .i64 0, .int .i64 0] 23)
  have hb := second_below w (.cells #[.int .i64 0, .int .i64 0] 23) (.cells #[.int .i64 0, .int .i64 0] 23)
  have HL := Lib.hid hl
  clear hl
  go_enter Try.func18, Try.ntmps18
  go_upto_region 2 with (fail)
  generalize (w.alloc (.cells #[.int .i64 0, .int .i64 0] 23)).alloc (.cells #[.int .i64 0, .int .i64 0] 23) = W1 at *
  have HQ := Lib.hid hq
  have HO := Lib.hid ho
  have HB := Lib.hid hb
  clear hq ho hb
  go_wp2
  go_loopw [4] (fun i wr => ∃ k : Nat, k ≤ n ∧ i = .int .i64 k ∧ Pair wr (w.heap.size + 1) 23 (joinS (l.take k)).1 (joinS (l.take k)).2 ∧ Pair wr w.heap.size 23 0 0 ∧ Below w.heap.size w wr) (fun i _ => n - (intOf i).toNat)
  case atStart => exact ⟨0, by omega, rfl, HQ.out, HO.out, HB.out⟩
  case round =>
    clear HQ HO HB
    obtain ⟨k, hk, rfl, hq, ho, hB⟩ := hrel
    by_cases hlt : k < n
    · have hki : (k : Int) < (n : Int) := by omega
      have hki2 : (k : Int) < (cap : Int) := by omega
      obtain ⟨b, off, rfl, hcell⟩ : ∃ b off, a = some ⟨b, off, none⟩ ∧ ∀ i, i < n → w.cell? ⟨b, off + i * 2, none⟩ = some (.int .i64 (l.getD i (0, 0)).1) ∧ w.cell? ⟨b, off + i * 2 + 1, none⟩ = some (.int .i64 (l.getD i (0, 0)).2) := by
        rcases HL.out.adr with h0 | h
        · omega
        · exact h
      have HCW := Lib.hid (fun W (h : Below w.heap.size w W) => (show W.cell? ⟨b, off + k * 2, none⟩ = some (.int .i64 (l.getD k (0, 0)).1) ∧ W.cell? ⟨b, off + k * 2 + 1, none⟩ = some (.int .i64 (l.getD k (0, 0)).2) from
        ⟨(h.cell (World.block_lt_of_cell? w _ (hcell k hlt).1)).trans (hcell k hlt).1, (h.cell (World.block_lt_of_cell? w _ (hcell k hlt).2)).trans (hcell k hlt).2⟩))
      have HJ := Lib.hid (joinS_take l k (by omega))
      obtain ⟨x, hx⟩ : ∃ x, l.getD k (0, 0) = x := ⟨_, rfl⟩
      obtain ⟨j, hj⟩ : ∃ j, joinS (l.take k) = j := ⟨_, rfl⟩
      simp only [hx] at HCW
      rw [hx] at HJ
      rw [hj] at hq HJ
      obtain ⟨x0, x1⟩ := x
      obtain ⟨j0, j1⟩ := j
      simp only at HCW HJ hq
      obtain ⟨p0, p1⟩ := HCW.out wr hB
      have q0 := hq.c0
      have q1 := hq.c1
      have z0 := hq.fz 0
      have z1 := hq.fz 1
      have HQ := Lib.hid hq
      have HO := Lib.hid ho
      have HB := Lib.hid hB
      clear hcell hx hj hq ho hB
      go_wp2
      refine wp_region_any (by kernel_rfl) ?_
      refine any_head_tail (C := fun w' => ∃ n, w' = wr.drewN n) 0 9 (by decide) (by rfl) (by kernel_rfl) ⟨1, rfl⟩ ?_
      simp only [List.drop_succ_cons, List.drop_zero, List.take_succ_cons, List.take_zero]
      repeat (go_big_quiet_step (fail))
      refine wpQuiet_nil ?_
      intro _ hw'
      obtain ⟨nq, hw''⟩ := hw'
      subst hw''
      have hbq := drewN_below (Below.refl wr.heap.size wr) nq
      have HQ2 := Lib.hid (HQ.out.kept hbq)
      have HO2 := Lib.hid (HO.out.kept hbq)
      have HB2 := Lib.hid (HB.out.trans (hbq.mono HB.out.size))
      clear hbq q0 q1 z0 z1 p0 p1 HQ HO HB
      generalize wr.drewN nq = W2 at *
      have q0 := HQ2.out.c0
      have z0 := HQ2.out.fz 0
      go_upto_region 6 with (fail)
      have HQ3 := Lib.hid (HQ2.out.set0 (Max.max j0 x0))
      have HO3 := Lib.hid (HO2.out.other ⟨w.heap.size + 1, 0, none⟩ (.int .i64 (Max.max j0 x0)) (by simp))
      have HB3 := Lib.hid (HB2.out.setCell (p := ⟨w.heap.size + 1, 0, none⟩) (by simp) (.int .i64 (Max.max j0 x0)))
      clear q0 z0 HQ2 HO2 HB2
      generalize W2.setCell ⟨w.heap.size + 1, 0, none⟩ (.int .i64 (Max.max j0 x0)) = W3 at *
      have q1 := HQ3.out.c1
      obtain ⟨p0, p1⟩ := HCW.out W3 HB3.out
      refine wp_region_any (by kernel_rfl) ?_
      refine any_head_tail (C := fun w' => ∃ n, w' = W3.drewN n) 0 9 (by decide) (by rfl) (by kernel_rfl) ⟨1, rfl⟩ ?_
      simp only [List.drop_succ_cons, List.drop_zero, List.take_succ_cons, List.take_zero]
      repeat (go_big_quiet_step (fail))
      refine wpQuiet_nil ?_
      intro _ hw'
      obtain ⟨nq, hw''⟩ := hw'
      subst hw''
      have hbq := drewN_below (Below.refl W3.heap.size W3) nq
      have HQ4 := Lib.hid (HQ3.out.kept hbq)
      have HO4 := Lib.hid (HO3.out.kept hbq)
      have HB4 := Lib.hid (HB3.out.trans (hbq.mono HB3.out.size))
      clear hbq q1 p0 p1 HQ3 HO3 HB3
      generalize W3.drewN nq = W4 at *
      have q1 := HQ4.out.c1
      have z1 := HQ4.out.fz 1
      go_wp2
      go_roundw
      case rel => exact ⟨k + 1, by omega, rfl, by rw [HJ.out]; exact HQ4.out.set1 _, HO4.out.other _ _ (by simp), HB4.out.setCell (by simp) _⟩
      case measure => simp [intOf]; omega
    · obtain rfl : k = n := by omega
      rw [List.take_of_length_le (by omega)] at hq
      have q0 := hq.c0
      have q1 := hq.c1
      have o0 := ho.c0
      have o1 := ho.c1
      have z0 := ho.fz 0
      have z1 := ho.fz 1
      have HO := Lib.hid ho
      have HB := Lib.hid hB
      clear hq ho hB
      go_wp2
      refine bodyPost_ret (results_cell_row rfl _ _ w.heap.size 23 _ (0, 0) _ rfl ((HO.out.set0 _).set1 _) Try.underlying23 rfl (size2 _ _)) rfl ⟨rfl, (HB.out.setCell (Nat.le_refl _) _).setCell (Nat.le_refl _) _⟩
end Go.Proofs.Ytjlolljlhoclhaa
