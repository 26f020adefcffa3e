/-
  Vec: the program's Next, Meet, Join; all that they tell.
-/
import Derived.Test.YtjlolljlhoclhaaVR
namespace Go.Proofs.Ytjlolljlhoclhaa
open Go.RowKit Go Go.Sort
set_option linter.unusedVariables false

set_option maxHeartbeats 1600000 in
theorem vnext_c (a b site : Int) (w : World) : Calls Try.prog 19 #[.agg #[.int .i64 a, .int .i64 b], .int .i64 site] w (Tells (.tuple #[.agg #[.int .i64 (vnext a b site).1.1, .int .i64 (vnext a b site).1.2], .int .i64 (vnext a b site).2]) w) := by
  have hp := (Pair.new w 23 a b).alloc (.cells #[.int .i64 0, .int .i64 0] 23)
  have ho := Pair.new (w.alloc (.cells #[.int .i64 a, .int .i64 b] 23)) 23 0 0
  rw [World.size_alloc] at ho
  have hb := (alloc_below w (.cells #[.int .i64 a, .int .i64 b] 23)).alloc (by simp) (.cells #[.int .i64 0, .int .i64 0] 23)
  have HP := Lib.hid hp
  have HO := Lib.hid ho
  have HB := Lib.hid hb
  have HG := Lib.hid (vgood_c a b)
  have HQ := Lib.hid (vplace_c site)
  have HV := Lib.hid (show vnext a b site = if (site ≠ 1 ∧ site ≠ 2) ∨ vgood a b = false then ((0, 0), 2) else if (if site = 1 then a else b) = 1099511627776 then ((0, 0), 3) else if site = 1 then ((a + 1, b), 0) else ((a, b + 1), 0) from rfl)
  clear hp ho hb
  by_cases hs : site = 1 ∨ site = 2
  · cases hg : vgood a b with
    | false =>
      rw [hg] at HG
      have hv : vnext a b site = ((0, 0), 2) := by rw [HV.out, if_pos (.inr hg)]
      rw [hv]
      have l0 := HP.out.c0
      have l1 := HP.out.c1
      clear hv hg
      rcases hs with rfl | rfl
      · rw [show vplace 1 = 0 from rfl] at HQ
        go_enter Try.func19, Try.ntmps19
        go_wp2_with (first
          | (go_at_call 27; (with_reducible refine (HQ.out _).mono ?_); rintro e w1 ⟨rfl, rfl⟩)
          | (go_at_call 8; (with_reducible refine (HG.out _).mono ?_); rintro e w1 ⟨rfl, hb1⟩; have o0 := (HO.out.kept hb1).c0; have o1 := (HO.out.kept hb1).c1; have z0 := (HO.out.kept hb1).fz 0; have z1 := (HO.out.kept hb1).fz 1))
        refine bodyPost_ret (res_cell_tmp rfl _ _ (w.heap.size + 1) 23 _ (0, 0) _ _ rfl rfl (((HO.out.kept hb1).set0 0).set1 0) Try.underlying23 rfl (size2 _ _)) rfl ⟨rfl, ((HB.out.trans (hb1.mono HB.out.size)).setCell (by simp) _).setCell (by simp) _⟩
      · rw [show vplace 2 = 1 from rfl] at HQ
        go_enter Try.func19, Try.ntmps19
        go_wp2_with (first
          | (go_at_call 27; (with_reducible refine (HQ.out _).mono ?_); rintro e w1 ⟨rfl, rfl⟩)
          | (go_at_call 8; (with_reducible refine (HG.out _).mono ?_); rintro e w1 ⟨rfl, hb1⟩; have o0 := (HO.out.kept hb1).c0; have o1 := (HO.out.kept hb1).c1; have z0 := (HO.out.kept hb1).fz 0; have z1 := (HO.out.kept hb1).fz 1))
        refine bodyPost_ret (res_cell_tmp rfl _ _ (w.heap.size + 1) 23 _ (0, 0) _ _ rfl rfl (((HO.out.kept hb1).set0 0).set1 0) Try.underlying23 rfl (size2 _ _)) rfl ⟨rfl, ((HB.out.trans (hb1.mono HB.out.size)).setCell (by simp) _).setCell (by simp) _⟩
    | true =>
      rw [hg] at HG
      have hgd : 0 ≤ a ∧ a ≤ 1099511627776 ∧ 0 ≤ b ∧ b ≤ 1099511627776 := by simpa [vgood] using hg
      have l0 := HP.out.c0
      have l1 := HP.out.c1
      by_cases hm : (if site = 1 then a else b) = 1099511627776
      · have hv : vnext a b site = ((0, 0), 3) := by rw [HV.out, if_neg (by rw [hg]; rcases hs with rfl | rfl <;> simp), if_pos hm]
        rw [hv]
        clear hv hg
        rcases hs with rfl | rfl
        · simp at hm
          subst hm
          rw [show vplace 1 = 0 from rfl] at HQ
          go_enter Try.func19, Try.ntmps19
          go_wp2_with (first
            | (go_at_call 27; (with_reducible refine (HQ.out _).mono ?_); rintro e w1 ⟨rfl, rfl⟩)
            | (go_at_call 8; (with_reducible refine (HG.out _).mono ?_); rintro e w1 ⟨rfl, hb1⟩; have o0 := (HO.out.kept hb1).c0; have o1 := (HO.out.kept hb1).c1; have z0 := (HO.out.kept hb1).fz 0; have z1 := (HO.out.kept hb1).fz 1; have m0 := (HP.out.kept hb1).c0; have m1 := (HP.out.kept hb1).c1))
          refine bodyPost_ret (res_cell_tmp rfl _ _ (w.heap.size + 1) 23 _ (0, 0) _ _ rfl rfl (((HO.out.kept hb1).set0 0).set1 0) Try.underlying23 rfl (size2 _ _)) rfl ⟨rfl, ((HB.out.trans (hb1.mono HB.out.size)).setCell (by simp) _).setCell (by simp) _⟩
        · simp at hm
          subst hm
          rw [show vplace 2 = 1 from rfl] at HQ
          go_enter Try.func19, Try.ntmps19
          go_wp2_with (first
            | (go_at_call 27; (with_reducible refine (HQ.out _).mono ?_); rintro e w1 ⟨rfl, rfl⟩)
            | (go_at_call 8; (with_reducible refine (HG.out _).mono ?_); rintro e w1 ⟨rfl, hb1⟩; have o0 := (HO.out.kept hb1).c0; have o1 := (HO.out.kept hb1).c1; have z0 := (HO.out.kept hb1).fz 0; have z1 := (HO.out.kept hb1).fz 1; have m0 := (HP.out.kept hb1).c0; have m1 := (HP.out.kept hb1).c1))
          refine bodyPost_ret (res_cell_tmp rfl _ _ (w.heap.size + 1) 23 _ (0, 0) _ _ rfl rfl (((HO.out.kept hb1).set0 0).set1 0) Try.underlying23 rfl (size2 _ _)) rfl ⟨rfl, ((HB.out.trans (hb1.mono HB.out.size)).setCell (by simp) _).setCell (by simp) _⟩
      · rcases hs with rfl | rfl
        · have hv : vnext a b 1 = ((a + 1, b), 0) := by rw [HV.out, if_neg (by rw [hg]; simp), if_neg hm, if_pos rfl]
          rw [hv]
          simp at hm
          clear hv hg
          rw [show vplace 1 = 0 from rfl] at HQ
          go_enter Try.func19, Try.ntmps19
          go_wp2_with (first
            | (go_at_call 27; (with_reducible refine (HQ.out _).mono ?_); rintro e w1 ⟨rfl, rfl⟩)
            | (go_at_call 8; (with_reducible refine (HG.out _).mono ?_); rintro e w1 ⟨rfl, hb1⟩; have o0 := (HO.out.kept hb1).c0; have o1 := (HO.out.kept hb1).c1; have z0 := (HO.out.kept hb1).fz 0; have z1 := (HO.out.kept hb1).fz 1; have m0 := (HP.out.kept hb1).c0; have m1 := (HP.out.kept hb1).c1; have y0 := (HP.out.kept hb1).fz 0; have y1 := (HP.out.kept hb1).fz 1))
          refine bodyPost_ret (res_cell_tmp rfl _ _ (w.heap.size + 1) 23 _ (0, 0) _ _ rfl rfl ((((HO.out.kept hb1).other _ _ (by simp)).set0 (a + 1)).set1 b) Try.underlying23 rfl (size2 _ _)) rfl ⟨rfl, (((HB.out.trans (hb1.mono HB.out.size)).setCell (by simp) _).setCell (by simp) _).setCell (by simp) _⟩
        · have hv : vnext a b 2 = ((a, b + 1), 0) := by rw [HV.out, if_neg (by rw [hg]; simp), if_neg hm, if_neg (by decide)]
          rw [hv]
          simp at hm
          clear hv hg
          rw [show vplace 2 = 1 from rfl] at HQ
          go_enter Try.func19, Try.ntmps19
          go_wp2_with (first
            | (go_at_call 27; (with_reducible refine (HQ.out _).mono ?_); rintro e w1 ⟨rfl, rfl⟩)
            | (go_at_call 8; (with_reducible refine (HG.out _).mono ?_); rintro e w1 ⟨rfl, hb1⟩; have o0 := (HO.out.kept hb1).c0; have o1 := (HO.out.kept hb1).c1; have z0 := (HO.out.kept hb1).fz 0; have z1 := (HO.out.kept hb1).fz 1; have m0 := (HP.out.kept hb1).c0; have m1 := (HP.out.kept hb1).c1; have y0 := (HP.out.kept hb1).fz 0; have y1 := (HP.out.kept hb1).fz 1))
          refine bodyPost_ret (res_cell_tmp rfl _ _ (w.heap.size + 1) 23 _ (0, 0) _ _ rfl rfl ((((HO.out.kept hb1).other _ _ (by simp)).set0 a).set1 (b + 1)) Try.underlying23 rfl (size2 _ _)) rfl ⟨rfl, (((HB.out.trans (hb1.mono HB.out.size)).setCell (by simp) _).setCell (by simp) _).setCell (by simp) _⟩
  · rw [show vplace site = -1 by unfold vplace; rw [if_neg (by omega), if_neg (by omega)]] at HQ
    have hv : vnext a b site = ((0, 0), 2) := by rw [HV.out, if_pos (.inl ⟨by omega, by omega⟩)]
    rw [hv]
    have o0 := HO.out.c0
    have o1 := HO.out.c1
    have z0 := HO.out.fz 0
    have z1 := HO.out.fz 1
    clear hv
    go_enter Try.func19, Try.ntmps19
    go_wp2_with (go_at_call 27; (with_reducible refine (HQ.out _).mono ?_); rintro e w1 ⟨rfl, rfl⟩)
    refine bodyPost_ret (res_cell_tmp rfl _ _ (w.heap.size + 1) 23 _ (0, 0) _ _ rfl rfl (Pair.second w _ _ _ _) Try.underlying23 rfl (size2 _ _)) rfl ⟨rfl, second_below w _ _⟩

set_option maxHeartbeats 1600000 in
theorem vmeet_c (a b c d : Int) (w : World) : Calls Try.prog 14 #[.agg #[.int .i64 a, .int .i64 b], .agg #[.int .i64 c, .int .i64 d]] w (Tells (.agg #[.int .i64 (min a c), .int .i64 (min b d)]) w) := by
  have hp := ((Pair.new w 23 a b).alloc (.cells #[.int .i64 c, .int .i64 d] 23)).alloc (.cells #[.int .i64 0, .int .i64 0] 23)
  have hq := (Pair.second w (.cells #[.int .i64 a, .int .i64 b] 23) 23 c d).alloc (.cells #[.int .i64 0, .int .i64 0] 23)
  have ho := Pair.third w (.cells #[.int .i64 a, .int .i64 b] 23) (.cells #[.int .i64 c, .int .i64 d] 23) 23 0 0
  have hb := third_below w (.cells #[.int .i64 a, .int .i64 b] 23) (.cells #[.int .i64 c, .int .i64 d] 23) (.cells #[.int .i64 0, .int .i64 0] 23)
  have HE := Lib.hid (fun (W : World) (g : Nat) (h : W.heap[g]? = _) => each_meet a b c d 0 0 g h)
  have hmf := mkf
  go_enter Try.func14, Try.ntmps14
  go_upto_region 1 with (fail)
  generalize ((w.alloc (.cells #[.int .i64 a, .int .i64 b] 23)).alloc (.cells #[.int .i64 c, .int .i64 d] 23)).alloc (.cells #[.int .i64 0, .int .i64 0] 23) = W1 at *
  have HP := Lib.hid hp
  have HQ := Lib.hid hq
  have HO := Lib.hid ho
  have HB := Lib.hid hb
  clear hp hq ho hb
  go_upto_region 2 with (fail)
  have hp2 := HP.out.alloc (.cells #[.int .i64 0, .int .i64 0] 23)
  have hq2 := HQ.out.alloc (.cells #[.int .i64 0, .int .i64 0] 23)
  have hf2 := Pair.new W1 23 0 0
  obtain ⟨g, hg⟩ : ∃ g, W1.heap.size = g := ⟨_, rfl⟩
  obtain ⟨hwg, hs2, hb2⟩ := each_start HB.out hg (.cells #[.int .i64 0, .int .i64 0] 23)
  have ho2 := HO.out.alloc (.cells #[.int .i64 0, .int .i64 0] 23)
  have hne : w.heap.size + 1 + 1 ≠ g := by have := HO.out.lt; omega
  rw [hg] at hf2 ⊢
  generalize W1.alloc (.cells #[.int .i64 0, .int .i64 0] 23) = W2 at *
  have p0 := hp2.c0
  have p1 := hp2.c1
  have q0 := hq2.c0
  have q1 := hq2.c1
  have HF := Lib.hid (show W2.heap[g]? = some (.cells #[.int .i64 0, .int .i64 0] 23 (0, 0)) from hf2)
  have HB2 := Lib.hid hb2
  have HS2 := Lib.hid hs2
  have HO2 := Lib.hid ho2
  have HNE := Lib.hid hne
  have HWG := Lib.hid hwg
  clear hp2 hq2 hf2 hb2 hs2 ho2 HP HQ HB HO hg hne hwg
  go_upto_region 3 with (go_at_call 23; (with_reducible refine (HE.out _ g HF.out).mono ?_); rintro e w3 ⟨rfl, hw3⟩)
  have hv : Pair w3 g 23 (min a c) (min b d) := hw3.cell
  have ho3 := hw3.pair HO2.out HNE.out
  have HW := Lib.hid (HB2.out.trans (hw3.below HWG.out HS2.out))
  clear hw3 p0 p1 q0 q1 HF HB2 HS2 HO2
  have v0 := hv.c0
  have v1 := hv.c1
  have z0 := ho3.fz 0
  have z1 := ho3.fz 1
  have o0 := ho3.c0
  have o1 := ho3.c1
  have HO3 := Lib.hid ho3
  clear hv ho3
  go_wp2
  refine bodyPost_ret (results_cell_row rfl _ _ (w.heap.size + 1 + 1) 23 _ (0, 0) _ rfl ((HO3.out.set0 _).set1 _) Try.underlying23 rfl (size2 _ _)) rfl ⟨rfl, (HW.out.setCell (by simp; omega) _).setCell (by simp; omega) _⟩

set_option maxHeartbeats 1600000 in
theorem vjoin_c {w : World} {a : Option Addr} {n cap : Nat} {l : List (Int × Int)} (hl : Prs w a n cap l) : Calls Try.prog 17 #[.slice a n cap] w (Tells (.agg #[.int .i64 (joinS l).1, .int .i64 (joinS l).2]) w) := by
  have hln := hl.len
  have hnle := hl.le
  have hnm := hl.max
  have ho := (Pair.new w 23 0 0).alloc (.cells #[.int .i64 0, .int .i64 0] 23)
  have hq := Pair.second w (.cells #[.int .i64 0, .int .i64 0] 23) 23 0 0
  have hb := second_below w (.cells #[.int .i64 0, .int .i64 0] 23) (.cells #[.int .i64 0, .int .i64 0] 23)
  have hmf := mkf
  have HL := Lib.hid hl
  clear hl
  go_enter Try.func17, Try.ntmps17
  go_upto_region 2 with (fail)
  generalize (w.alloc (.cells #[.int .i64 0, .int .i64 0] 23)).alloc (.cells #[.int .i64 0, .int .i64 0] 23) = W1 at *
  have HQ := Lib.hid hq
  have HO := Lib.hid ho
  have HB := Lib.hid hb
  clear hq ho hb
  go_wp2
  go_loopw [8] (fun i wr => ∃ k : Nat, k ≤ n ∧ i = .int .i64 k ∧ Pair wr (w.heap.size + 1) 23 (joinS (l.take k)).1 (joinS (l.take k)).2 ∧ Pair wr w.heap.size 23 0 0 ∧ Below w.heap.size w wr) (fun i _ => n - (intOf i).toNat)
  case atStart => exact ⟨0, by omega, rfl, HQ.out, HO.out, HB.out⟩
  case round =>
    clear HQ HO HB
    obtain ⟨k, hk, rfl, hq, ho, hB⟩ := hrel
    by_cases hlt : k < n
    · have hki : (k : Int) < (n : Int) := by omega
      have hki2 : (k : Int) < (cap : Int) := by omega
      obtain ⟨b, off, rfl, hcell⟩ : ∃ b off, a = some ⟨b, off, none⟩ ∧ ∀ i, i < n → w.cell? ⟨b, off + i * 2, none⟩ = some (.int .i64 (l.getD i (0, 0)).1) ∧ w.cell? ⟨b, off + i * 2 + 1, none⟩ = some (.int .i64 (l.getD i (0, 0)).2) := by
        rcases HL.out.adr with h0 | h
        · omega
        · exact h
      have HCW := Lib.hid (fun W (h : Below w.heap.size w W) => (show W.cell? ⟨b, off + k * 2, none⟩ = some (.int .i64 (l.getD k (0, 0)).1) ∧ W.cell? ⟨b, off + k * 2 + 1, none⟩ = some (.int .i64 (l.getD k (0, 0)).2) from
        ⟨(h.cell (World.block_lt_of_cell? w _ (hcell k hlt).1)).trans (hcell k hlt).1, (h.cell (World.block_lt_of_cell? w _ (hcell k hlt).2)).trans (hcell k hlt).2⟩))
      have HJ := Lib.hid (joinS_take l k (by omega))
      obtain ⟨x, hx⟩ : ∃ x, l.getD k (0, 0) = x := ⟨_, rfl⟩
      obtain ⟨j, hj⟩ : ∃ j, joinS (l.take k) = j := ⟨_, rfl⟩
      simp only [hx] at HCW
      rw [hx] at HJ
      rw [hj] at hq HJ
      obtain ⟨x0, x1⟩ := x
      obtain ⟨j0, j1⟩ := j
      simp only at HCW HJ hq
      obtain ⟨p0, p1⟩ := HCW.out wr hB
      have HE := Lib.hid (fun (W : World) (h : W.heap[w.heap.size + 1]? = _) => each_join j0 j1 x0 x1 j0 j1 (w.heap.size + 1) h)
      have HQ := Lib.hid hq
      have HO := Lib.hid ho
      have HB := Lib.hid hB
      clear hcell hx hj hq ho hB
      go_upto_region 5 with (fail)
      have hq2 := HQ.out.alloc (.cells #[.int .i64 x0, .int .i64 x1] 23)
      have hx2 := Pair.new wr 23 x0 x1
      have HO2 := Lib.hid (HO.out.alloc (.cells #[.int .i64 x0, .int .i64 x1] 23))
      have HB2 := Lib.hid (HB.out.alloc HB.out.size (.cells #[.int .i64 x0, .int .i64 x1] 23))
      have HS2 := Lib.hid (show w.heap.size + 1 ≤ (wr.alloc (.cells #[.int .i64 x0, .int .i64 x1] 23)).heap.size from Nat.le_of_lt hq2.lt)
      obtain ⟨gx, hgx⟩ : ∃ g, wr.heap.size = g := ⟨_, rfl⟩
      rw [hgx] at hx2 ⊢
      generalize wr.alloc (.cells #[.int .i64 x0, .int .i64 x1] 23) = W2 at *
      have q0 := hq2.c0
      have q1 := hq2.c1
      have v0 := hx2.c0
      have v1 := hx2.c1
      have HF := Lib.hid (show W2.heap[w.heap.size + 1]? = some (.cells #[.int .i64 j0, .int .i64 j1] 23 (0, 0)) from hq2)
      clear hq2 hx2 p0 p1 HQ HO HB hgx
      go_wp2_with (go_at_call 23; (with_reducible refine (HE.out _ HF.out).mono ?_); rintro e w3 ⟨rfl, hw3⟩)
      have HV := Lib.hid (show Pair w3 (w.heap.size + 1) 23 (Max.max j0 x0) (Max.max j1 x1) from hw3.cell)
      have HO3 := Lib.hid (hw3.pair HO2.out (by omega))
      have HB3 := Lib.hid (HB2.out.trans (hw3.below (by omega) HS2.out))
      clear hw3
      go_wp2
      go_roundw
      case rel => exact ⟨k + 1, by omega, rfl, by rw [HJ.out]; exact HV.out, HO3.out, HB3.out⟩
      case measure => simp [intOf]; omega
    · obtain rfl : k = n := by omega
      rw [List.take_of_length_le (by omega)] at hq
      have q0 := hq.c0
      have q1 := hq.c1
      have o0 := ho.c0
      have o1 := ho.c1
      have z0 := ho.fz 0
      have z1 := ho.fz 1
      have HO := Lib.hid ho
      have HB := Lib.hid hB
      clear hq ho hB
      go_wp2
      refine bodyPost_ret (results_cell_row rfl _ _ w.heap.size 23 _ (0, 0) _ rfl ((HO.out.set0 _).set1 _) Try.underlying23 rfl (size2 _ _)) rfl ⟨rfl, (HB.out.setCell (Nat.le_refl _) _).setCell (Nat.le_refl _) _⟩
theorem vecOk : VecOk :=
  ⟨vgood_c, vcov_c, vcmp_c, vmeet_c, vhas_c, vnext_c, vjoin_c⟩
end Go.Proofs.Ytjlolljlhoclhaa
