/-
  Window: Next of the reference.
-/
import Derived.Test.YtplanmiggeghfaaWA3
import Derived.Shelf.Abstract
namespace Go.Proofs.Ytplanmiggeghfaa
open Go.RowKit Go Go.Sort
set_option linter.unusedVariables false
set_option maxRecDepth 20000

theorem rwnext_bad {w : World} {g : Nat} {q : Wn} (h : Wnd w g 67 q) (ho : q.Ok) (ack hav now : Int) (hn : ¬ AskOk ack hav now) : Calls Try.prog 39 #[.pointer (some ⟨g, 0, none⟩), .int .i64 ack, .int .i64 hav, .int .i64 now] w (NextPost 67 g q ack hav now w) := by
  have HP := Lib.hid (show NextPost 67 g q ack hav now w (.returned (.tuple #[.slice none 0 0, .int .i64 2])) w from
    ⟨_, by rw [show Wn.err ack hav now = 2 from if_neg hn], by rw [show q.tell ack hav now = [] from if_neg hn]; exact OwnN.nil _ _, by rw [show q.ask ack hav now = q from if_neg hn]; exact h, But.of (Below.refl _ _)⟩)
  have hb : ack < 0 ∨ hav < 0 ∨ now < 0 ∨ hav < ack ∨ 1099511627776 < hav ∨ 1099511627776 < now := by
    apply Classical.byContradiction
    intro hc
    exact hn ⟨by omega, by omega, by omega, by omega, by omega⟩
  clear h ho hn
  by_cases h0 : ack < 0
  · clear hb
    go_enter Try.func39, Try.ntmps39
    go_wp2
    go_ret2
    exact HP.out
  · 
    by_cases h1 : hav < 0
    · clear hb
      go_enter Try.func39, Try.ntmps39
      go_wp2
      go_ret2
      exact HP.out
    · 
      by_cases h2 : now < 0
      · clear hb
        go_enter Try.func39, Try.ntmps39
        go_wp2
        go_ret2
        exact HP.out
      · 
        by_cases h3 : hav < ack
        · clear hb
          go_enter Try.func39, Try.ntmps39
          go_wp2
          go_ret2
          exact HP.out
        · 
          by_cases h4 : 1099511627776 < hav
          · clear hb
            go_enter Try.func39, Try.ntmps39
            go_wp2
            go_ret2
            exact HP.out
          ·
            have h9 : 1099511627776 < now := by omega
            clear hb
            go_enter Try.func39, Try.ntmps39
            go_wp2
            go_ret2
            exact HP.out

set_option maxRecDepth 100000 in
set_option maxHeartbeats 6400000 in
theorem rwnext_yes {w : World} {g : Nat} {q : Wn} (h : Wnd w g 67 q) (ho : q.Ok) (ack hav now : Int) (hn : AskOk ack hav now) : Calls Try.prog 39 #[.pointer (some ⟨g, 0, none⟩), .int .i64 ack, .int .i64 hav, .int .i64 now] w (NextPost 67 g q ack hav now w) := by
  unfold NextPost
  rw [show Wn.err ack hav now = 0 from if_pos hn, show q.tell ack hav now = q.told ack hav now from if_pos hn, show q.ask ack hav now = q.next ack hav now from if_pos hn]
  have HFM := Lib.hid (ho.frm hn)
  have HCT := Lib.hid (ho.cnt hn)
  have HOK := Lib.hid ho
  have HAK := Lib.hid hn
  have h0 : ¬ ack < 0 := by have := hn.a0; omega
  have h1 : ¬ hav < ack := by have := hn.h0; omega
  have h2 : ¬ 1099511627776 < hav := by have := hn.h1; omega
  have h3 : ¬ now < 0 := by have := hn.n0; omega
  have h4 : ¬ 1099511627776 < now := by have := hn.n1; omega
  have h5 : ¬ hav < 0 := by have := hn.n1; omega
  have HF9 := Lib.hid (show q.frm ack now = if q.l + q.t ≤ now then q.ackd ack else max q.s (q.ackd ack) from rfl)
  have HC9 := Lib.hid (show q.cnt ack hav now = (min hav (q.ackd ack + q.k) - q.frm ack now).toNat from rfl)
  have HA9 := Lib.hid (show max q.a ack = q.ackd ack from rfl)
  have HW := Lib.hid h
  obtain ⟨c0, c1, c2, c3, c4⟩ := h.cs
  have z2 := h.fz 2
  clear h ho hn
  unfold Wn.told Wn.next
  obtain ⟨n, hcn⟩ : ∃ n, q.cnt ack hav now = n := ⟨_, rfl⟩
  obtain ⟨f, hf⟩ : ∃ f, q.frm ack now = f := ⟨_, rfl⟩
  obtain ⟨a, ha⟩ : ∃ a, q.ackd ack = a := ⟨_, rfl⟩
  rw [hcn, hf, ha] at HC9 HCT
  rw [hf, ha] at HF9 HFM
  rw [ha] at HA9
  rw [hcn, hf, ha]
  clear hcn hf ha
  have HLT := Lib.hid HW.out.lt
  obtain ⟨k, t, a0, s, l⟩ := q
  simp only at HF9 HC9 HA9 HCT HFM c0 c1 c2 c3 c4 ⊢
  go_enter Try.func39, Try.ntmps39
  go_upto_region 4 with (fail)
  rw [HA9.out]
  have hw1 := HW.out.set2 a
  have HBT1 := Lib.hid ((But.of (g := g) (Below.refl w.heap.size w)).set 2 (.int .i64 a))
  clear c0 c1 c2 c3 c4 z2
  generalize w.setCell ⟨g, 2, none⟩ (.int .i64 a) = W1 at *
  have HW1 := Lib.hid hw1
  clear hw1
  have HCK := Lib.hid (fun W (hW : Below W1.heap.size W1 W) => (HW1.out.kept hW).cs)
  refine wp_region_flow_tail 12 [none, none, none, none, none, none, none, none, none, none, none, none, none, none, none, none, none, none, none, none, none, none, none, none, none, none, none, none, none, none, none, none, none, none, none, none, none, none, none, none, none, none, none, none, some 0, some 1, some 2, some 3, some 4, some 5, some 6, some 7, some 8, some 9, some 10, some 11, none, none, none, none, none, none, none, none, none, none, none, none, none, none, none, none, none, none, none, none, none, none, none, none, none, none, none, none, none, none, none, none, none, none, none, none, none, none, none, none, none, none, none, none, none, none, none, none, none, none, none, none, none, none, none, none, none, none, none, none, none, none, none, none, none, none, none, none, none, none, none, none, none] (fun i => [undef, undef, undef, undef, undef, undef, undef, undef, undef, undef, undef, undef].getD i undef) [(fun v _ => v = .pointer (some ⟨g, 0, none⟩)), (fun v _ => v = .pointer (some ⟨g, 0, none⟩)), (fun v _ => v = .pointer (some ⟨g, 0, none⟩)), (fun v _ => v = .pointer (some ⟨g, 3, none⟩)), (fun v _ => v = .int .i64 s), (fun v _ => v = .pointer (some ⟨g, 0, none⟩)), (fun v _ => v = .pointer (some ⟨g, 0, none⟩)), (fun v _ => v = .pointer (some ⟨g, 2, none⟩)), (fun v _ => v = .int .i64 a), (fun v _ => v = .int .i64 (max s a)), (fun v _ => v = .pointer (some ⟨g, 0, none⟩)), (fun v _ => v = .pointer (some ⟨g, 3, none⟩))] (fun _ => False) (by kernel_rfl) (by kernel_rfl) (by kernel_rfl) rfl rfl rfl ?_ ?_ ?_
  · intro g hg v X Y hX hY hv
    simp only [List.mem_cons, List.not_mem_nil, or_false] at hg
    rcases hg with rfl | rfl | rfl | rfl | rfl | rfl | rfl | rfl | rfl | rfl | rfl | rfl
    all_goals first
      | exact hv
      | exact hv.kept hY
  · simp only [flowOpsF, List.take_succ_cons, List.take_zero, and_true]
    refine ⟨?_, ?_, ?_, ?_, ?_, ?_, ?_, ?_, ?_, ?_, ?_, ?_⟩
    · intro xs W hW hn
      simp only [flowAct, List.zipWith_cons_cons, List.zipWith_nil_left]
      go_wp2_with (fail)
      exact ⟨rfl, _, rfl, Below.refl _ _, rfl, fun h => h.elim⟩
    · intro xs W hW hn
      simp only [flowAct, List.zipWith_cons_cons, List.zipWith_nil_left]
      go_wp2_with (fail)
      exact ⟨rfl, _, rfl, Below.refl _ _, rfl, fun h => h.elim⟩
    · intro xs W hW hn
      simp [flowNeeds, Region.binds] at hn
      simp only [flowAct, List.zipWith_cons_cons, List.zipWith_nil_left]
      try simp only [hn]
      go_wp2_with (fail)
      exact ⟨rfl, _, rfl, Below.refl _ _, rfl, fun h => h.elim⟩
    · intro xs W hW hn
      simp [flowNeeds, Region.binds] at hn
      simp only [flowAct, List.zipWith_cons_cons, List.zipWith_nil_left]
      try simp only [hn]
      go_wp2_with (fail)
      exact ⟨rfl, _, rfl, Below.refl _ _, rfl, fun h => h.elim⟩
    · intro xs W hW hn
      obtain ⟨c0, c1, c2, c3, c4⟩ := HCK.out W hW
      simp [flowNeeds, Region.binds] at hn
      simp only [flowAct, List.zipWith_cons_cons, List.zipWith_nil_left]
      try simp only [hn]
      go_wp2_with (fail)
      exact ⟨rfl, _, rfl, Below.refl _ _, rfl, fun h => h.elim⟩
    · intro xs W hW hn
      simp only [flowAct, List.zipWith_cons_cons, List.zipWith_nil_left]
      go_wp2_with (fail)
      exact ⟨rfl, _, rfl, Below.refl _ _, rfl, fun h => h.elim⟩
    · intro xs W hW hn
      simp [flowNeeds, Region.binds] at hn
      simp only [flowAct, List.zipWith_cons_cons, List.zipWith_nil_left]
      try simp only [hn]
      go_wp2_with (fail)
      exact ⟨rfl, _, rfl, Below.refl _ _, rfl, fun h => h.elim⟩
    · intro xs W hW hn
      simp [flowNeeds, Region.binds] at hn
      simp only [flowAct, List.zipWith_cons_cons, List.zipWith_nil_left]
      try simp only [hn]
      go_wp2_with (fail)
      exact ⟨rfl, _, rfl, Below.refl _ _, rfl, fun h => h.elim⟩
    · intro xs W hW hn
      obtain ⟨c0, c1, c2, c3, c4⟩ := HCK.out W hW
      simp [flowNeeds, Region.binds] at hn
      simp only [flowAct, List.zipWith_cons_cons, List.zipWith_nil_left]
      try simp only [hn]
      go_wp2_with (fail)
      exact ⟨rfl, _, rfl, Below.refl _ _, rfl, fun h => h.elim⟩
    · intro xs W hW hn
      simp [flowNeeds, Region.binds] at hn
      simp only [flowAct, List.zipWith_cons_cons, List.zipWith_nil_left]
      try simp only [hn]
      go_wp2_with (fail)
      exact ⟨rfl, _, rfl, Below.refl _ _, rfl, fun h => h.elim⟩
    · intro xs W hW hn
      simp [flowNeeds, Region.binds] at hn
      simp only [flowAct, List.zipWith_cons_cons, List.zipWith_nil_left]
      try simp only [hn]
      go_wp2_with (fail)
      exact ⟨rfl, _, rfl, Below.refl _ _, rfl, fun h => h.elim⟩
    · intro xs W hW hn
      simp [flowNeeds, Region.binds] at hn
      simp only [flowAct, List.zipWith_cons_cons, List.zipWith_nil_left]
      try simp only [hn]
      go_wp2_with (fail)
      exact ⟨rfl, _, rfl, Below.refl _ _, rfl, fun h => h.elim⟩
  · intro xs W hW hall hfr
    clear hfr
    simp only [flowAll, and_true, Nat.zero_add, Nat.reduceAdd] at hall
    obtain ⟨a0, a1, a2, a3, a4, a5, a6, a7, a8, a9, a10, a11⟩ := hall
    simp only [flowAct, List.zipWith_cons_cons, List.zipWith_nil_left, List.drop_succ_cons, List.drop_zero]
    simp only [a0, a1, a2, a3, a4, a5, a6, a7, a8, a9, a10, a11]
    clear a0 a1 a2 a3 a4 a5 a6 a7 a8 a9 a10 a11
    have HW2 := Lib.hid (HW1.out.kept hW)
    have HBT2 := Lib.hid (HBT1.out.trans (But.of hW))
    have z3 := HW2.out.fz 3
    obtain ⟨c0, c1, c2, c3, c4⟩ := HW2.out.cs
    simp only at c0 c1 c2 c3 c4
    clear hW
    go_upto_region 5 with (fail)
    have hw3 := HW2.out.set3 (max s a)
    have HBT3 := Lib.hid (HBT2.out.set 3 (.int .i64 (max s a)))
    clear c0 c1 c2 c3 c4 z3 HBT2 HW2 HBT1 HW1 HCK
    generalize W.setCell ⟨g, 3, none⟩ (.int .i64 (max s a)) = W3 at *
    have HW3 := Lib.hid hw3
    clear hw3
    obtain ⟨m, hm⟩ : ∃ m, max s a = m := ⟨_, rfl⟩
    rw [hm] at HF9 HW3 ⊢
    have HMA := Lib.hid (show a ≤ m from by omega)
    clear hm
    have hlt : IntKind.i64.wrap (l + t) = l + t := by
      have h1 := HOK.out.l0; have h2 := HOK.out.l1; have h3 := HOK.out.t0; have h4 := HOK.out.t1
      simp only at h1 h2 h3 h4
      rw [IntKind.wrap_i64]; omega
    obtain ⟨c0, c1, c2, c3, c4⟩ := HW3.out.cs
    simp only at c0 c1 c2 c3 c4
    have k1 := cell_regrown c1
    have k2 := cell_regrown c2
    have k3 := cell_regrown c3
    have k4 := cell_regrown c4
    by_cases hgt : a < m
    · have hgd : decide (a < m) = true := decide_eq_true hgt
      by_cases hge : l + t ≤ now
      · have hgg : decide (l + t ≤ now) = true := decide_eq_true hge
        have HFF := Lib.hid (show f = a by rw [HF9.out, if_pos hge])
        go_wp2
        go_quiet (fail)
        clear k1 k2 k3 k4 c0 c1 c2 c3 c4 hgd hgg
        go_upto_region 6 with (fail)
        have hb4 := below_drewN' (Below.refl W3.heap.size W3) nq
        have HBT4 := Lib.hid (HBT3.out.trans (But.of hb4))
        have HW4 := Lib.hid (HW3.out.kept hb4)
        clear hb4 HW3 HBT3 hge hgt hlt
        generalize W3.drewN nq = W4 at *
        obtain ⟨c0, c1, c2, c3, c4⟩ := HW4.out.cs
        simp only at c0 c1 c2 c3 c4
        have z3 := HW4.out.fz 3
        go_upto_region 7 with (fail)
        have hw5 : Wnd (W4.setCell ⟨g, 3, none⟩ (.int .i64 a)) g 67 ⟨k, t, a, f, l⟩ := by rw [HFF.out]; exact HW4.out.set3 a
        have HBT5 := Lib.hid (HBT4.out.set 3 (.int .i64 a))
        clear c0 c1 c2 c3 c4 z3 HW4 HBT4
        generalize W4.setCell ⟨g, 3, none⟩ (.int .i64 a) = W5 at *
        have HW5 := Lib.hid hw5
        clear hw5
        have HCK5 := Lib.hid (fun W (hW : Below W5.heap.size W5 W) => (HW5.out.kept hW).cs)
        have hs1 : IntKind.i64.wrap (f + 1) = f + 1 := by
          have h1 := HFM.out; have h2 := HOK.out.k1
          simp only at h2
          rw [IntKind.wrap_i64]; omega
        have hak : IntKind.i64.wrap (a + k) = a + k := by
          have h1 := HFM.out; have h2 := HOK.out.k1; have h3 := HOK.out.k0
          simp only at h2 h3
          rw [IntKind.wrap_i64]; omega
        obtain ⟨c0, c1, c2, c3, c4⟩ := HW5.out.cs
        simp only at c0 c1 c2 c3 c4
        go_upto_region 9 with (fail)
        clear c0 c1 c2 c3 c4 hs1
        go_loopw [10, 11] (fun v i wr => ∃ j : Nat, j ≤ n ∧ i = .int .i64 (f + 1 + (j : Int)) ∧ OwnN wr W5.heap.size v (ups (f + 1) j) ∧ Below W5.heap.size W5 wr) (fun _ i _ => n - (intOf i - (f + 1)).toNat)
        case atStart => exact ⟨0, by omega, by simp, OwnN.nil _ _, Below.refl _ _⟩
        case round =>
          obtain ⟨j, hj, rfl, hv, hb⟩ := hrel
          have HV := Lib.hid hv
          have HB := Lib.hid hb
          obtain ⟨c0, c1, c2, c3, c4⟩ := HCK5.out _ hb
          (try simp only at c0 c1 c2 c3 c4)
          clear hv hb c1 c3 c4
          obtain ⟨i, hi9⟩ : ∃ i, f + 1 + (j : Int) = i := ⟨_, rfl⟩
          have HI := Lib.hid hi9
          have HJ := Lib.hid (show j ≤ n ∧ n ≤ 16 from ⟨hj, HCT.out.1⟩)
          rw [hi9]
          by_cases hlt : j < n
          · have hp1 : i ≤ hav := by have := HC9.out; omega
            have hp2 : i ≤ a + k := by have := HC9.out; omega
            have g1 : decide (i ≤ hav) = true := decide_eq_true hp1
            have g2 : decide (i ≤ a + k) = true := decide_eq_true hp2
            have hw : IntKind.i64.wrap (i + 1) = i + 1 := by
              have h1 := HFM.out; have h2 := HOK.out.k1; have h3 := HJ.out; have h4 := HI.out
              (try simp only at h2)
              rw [IntKind.wrap_i64]; omega
            have HU := Lib.hid (ups_length (f + 1) j)
            clear hi9
            go_wp2
            go_quiet (fail)
            clear c0 c2
            have hb6 := below_drewN' (Below.refl wr.heap.size wr) nq
            have HV6 := Lib.hid (HV.out.kept hb6)
            have HB6 := Lib.hid (HB.out.trans (hb6.mono HB.out.size))
            clear hb6 HV HB
            generalize wr.drewN nq = W6 at *
            go_wp2_with (refine wpList_append_int rfl _ _ rfl rfl HV6.out rfl (by rw [HU.out]; have := HJ.out; omega) HB6.out.size ?_; intro v7 w7 ho7 hg7; have HO7 := Lib.hid ho7; have HG7 := Lib.hid hg7; clear ho7 hg7)
            go_roundw
            case rel => exact ⟨j + 1, by omega, by rw [← HI.out]; congr 1; omega, by rw [ups_succ, HI.out]; exact HO7.out, (HB6.out.alloc HB6.out.size _).grown HG7.out (by have := HB6.out.size; simp; omega) (fun k hk => (HV6.out.lt k hk).1)⟩
            case measure => simp [intOf]; have h9 := HI.out; omega
          · obtain rfl : j = n := by omega
            have HEND := Lib.hid (show ¬ (i ≤ hav ∧ i ≤ a + k) from by have := HC9.out; omega)
            by_cases hp1 : i ≤ hav
            · have g1 : decide (i ≤ hav) = true := decide_eq_true hp1
              have g2 : decide (i ≤ a + k) = false := decide_eq_false (fun h => HEND.out ⟨hp1, h⟩)
              clear hi9
              go_wp2
              go_quiet (fail)
              clear c0 c2 HEND
              have hb6 := below_drewN' (Below.refl wr.heap.size wr) nq
              have HV6 := Lib.hid ((HV.out.kept hb6).mono HBT5.out.size)
              have hB6 := HB.out.trans (hb6.mono HB.out.size)
              have HW6 := Lib.hid (HW5.out.kept hB6)
              have HBT6 := Lib.hid (HBT5.out.trans (But.of hB6))
              clear hb6 HV HB hB6 HW5 HBT5 HCK5 hak
              generalize wr.drewN nq = W6 at *
              obtain ⟨va, vc, hve, -⟩ := HV6.out.ns
              rw [ups_length] at hve
              subst hve
              obtain ⟨c0, c1, c2, c3, c4⟩ := HW6.out.cs
              (try simp only at c0 c1 c2 c3 c4)
              have z3 := HW6.out.fz 3
              have z4 := HW6.out.fz 4
              by_cases hn0 : j = 0
              · subst hn0
                clear z3 z4 c0 c1 c2 c3 c4
                go_wp2
                go_ret2
                exact ⟨_, rfl, HV6.out, by simpa using HW6.out, HBT6.out⟩
              · have hpos : (0 : Int) < (j : Int) := by omega
                obtain ⟨p, hp9⟩ : ∃ p, j = p + 1 := ⟨j - 1, by omega⟩
                have hpl : p < j := by omega
                have hjm : IntKind.i64.wrap ((j : Int) - 1) = (p : Int) := by rw [IntKind.wrap_i64]; have := HJ.out; omega
                have hpi : (p : Int) < (j : Int) := by omega
                have hp0 : ¬ (p : Int) < 0 := by omega
                obtain ⟨va', vc', hve, hns⟩ := HV6.out.ns
                rw [ups_length] at hve hns
                injection hve with e1 e2 e3
                subst e1 e3
                have hcc : (p : Int) < (vc : Int) := by have := hns.le; omega
                obtain ⟨b, off, rfl, hat⟩ := hns.at (k := p) hpl
                have d1 := hat W6 (Below.refl _ _)
                rw [show (ups (f + 1) j).getD p 0 = f + (j : Int) by rw [ups_getD _ _ _ hpl]; omega] at d1
                have HN0 := Lib.hid hn0
                have HP9 := Lib.hid hp9
                clear hn0 hp9 hat hns hpl hp1 hlt
                go_wp2
                go_ret2
                have hb7 := (But.of (g := g) (Below.refl W6.heap.size W6)).set 3 (.int .i64 (f + (j : Int))) |>.set 4 (.int .i64 now)
                refine ⟨_, rfl, HV6.out.but hb7 HLT.out, ?_, HBT6.out.trans hb7⟩
                exact (HW6.out.set3 (f + (j : Int))).set4 now
            · have g1 : decide (i ≤ hav) = false := decide_eq_false hp1
              clear hi9
              go_wp2
              go_quiet (fail)
              clear c0 c2 HEND
              have hb6 := below_drewN' (Below.refl wr.heap.size wr) nq
              have HV6 := Lib.hid ((HV.out.kept hb6).mono HBT5.out.size)
              have hB6 := HB.out.trans (hb6.mono HB.out.size)
              have HW6 := Lib.hid (HW5.out.kept hB6)
              have HBT6 := Lib.hid (HBT5.out.trans (But.of hB6))
              clear hb6 HV HB hB6 HW5 HBT5 HCK5 hak
              generalize wr.drewN nq = W6 at *
              obtain ⟨va, vc, hve, -⟩ := HV6.out.ns
              rw [ups_length] at hve
              subst hve
              obtain ⟨c0, c1, c2, c3, c4⟩ := HW6.out.cs
              (try simp only at c0 c1 c2 c3 c4)
              have z3 := HW6.out.fz 3
              have z4 := HW6.out.fz 4
              by_cases hn0 : j = 0
              · subst hn0
                clear z3 z4 c0 c1 c2 c3 c4
                go_wp2
                go_ret2
                exact ⟨_, rfl, HV6.out, by simpa using HW6.out, HBT6.out⟩
              · have hpos : (0 : Int) < (j : Int) := by omega
                obtain ⟨p, hp9⟩ : ∃ p, j = p + 1 := ⟨j - 1, by omega⟩
                have hpl : p < j := by omega
                have hjm : IntKind.i64.wrap ((j : Int) - 1) = (p : Int) := by rw [IntKind.wrap_i64]; have := HJ.out; omega
                have hpi : (p : Int) < (j : Int) := by omega
                have hp0 : ¬ (p : Int) < 0 := by omega
                obtain ⟨va', vc', hve, hns⟩ := HV6.out.ns
                rw [ups_length] at hve hns
                injection hve with e1 e2 e3
                subst e1 e3
                have hcc : (p : Int) < (vc : Int) := by have := hns.le; omega
                obtain ⟨b, off, rfl, hat⟩ := hns.at (k := p) hpl
                have d1 := hat W6 (Below.refl _ _)
                rw [show (ups (f + 1) j).getD p 0 = f + (j : Int) by rw [ups_getD _ _ _ hpl]; omega] at d1
                have HN0 := Lib.hid hn0
                have HP9 := Lib.hid hp9
                clear hn0 hp9 hat hns hpl hp1 hlt
                go_wp2
                go_ret2
                have hb7 := (But.of (g := g) (Below.refl W6.heap.size W6)).set 3 (.int .i64 (f + (j : Int))) |>.set 4 (.int .i64 now)
                refine ⟨_, rfl, HV6.out.but hb7 HLT.out, ?_, HBT6.out.trans hb7⟩
                exact (HW6.out.set3 (f + (j : Int))).set4 now
      · have hgg : decide (l + t ≤ now) = false := decide_eq_false hge
        have HFF := Lib.hid (show f = m by rw [HF9.out, if_neg hge])
        go_wp2
        go_quiet (fail)
        clear k1 k2 k3 k4 c0 c1 c2 c3 c4 hgd hgg
        go_upto_region 7 with (fail)
        have hb4 := below_drewN' (Below.refl W3.heap.size W3) nq
        have HBT4 := Lib.hid (HBT3.out.trans (But.of hb4))
        have HW4 := Lib.hid (HW3.out.kept hb4)
        clear hb4 HW3 HBT3 hge hgt hlt
        generalize W3.drewN nq = W4 at *
        have hw5 : Wnd W4 g 67 ⟨k, t, a, f, l⟩ := by rw [HFF.out]; exact HW4.out
        have HBT5 := Lib.hid HBT4.out
        clear HW4 HBT4
        have HW4 := Lib.hid hw5
        clear hw5
        have HCK5 := Lib.hid (fun W (hW : Below W4.heap.size W4 W) => (HW4.out.kept hW).cs)
        have hs1 : IntKind.i64.wrap (f + 1) = f + 1 := by
          have h1 := HFM.out; have h2 := HOK.out.k1
          simp only at h2
          rw [IntKind.wrap_i64]; omega
        have hak : IntKind.i64.wrap (a + k) = a + k := by
          have h1 := HFM.out; have h2 := HOK.out.k1; have h3 := HOK.out.k0
          simp only at h2 h3
          rw [IntKind.wrap_i64]; omega
        obtain ⟨c0, c1, c2, c3, c4⟩ := HW4.out.cs
        simp only at c0 c1 c2 c3 c4
        go_upto_region 9 with (fail)
        clear c0 c1 c2 c3 c4 hs1
        go_loopw [10, 11] (fun v i wr => ∃ j : Nat, j ≤ n ∧ i = .int .i64 (f + 1 + (j : Int)) ∧ OwnN wr W4.heap.size v (ups (f + 1) j) ∧ Below W4.heap.size W4 wr) (fun _ i _ => n - (intOf i - (f + 1)).toNat)
        case atStart => exact ⟨0, by omega, by simp, OwnN.nil _ _, Below.refl _ _⟩
        case round =>
          obtain ⟨j, hj, rfl, hv, hb⟩ := hrel
          have HV := Lib.hid hv
          have HB := Lib.hid hb
          obtain ⟨c0, c1, c2, c3, c4⟩ := HCK5.out _ hb
          (try simp only at c0 c1 c2 c3 c4)
          clear hv hb c1 c3 c4
          obtain ⟨i, hi9⟩ : ∃ i, f + 1 + (j : Int) = i := ⟨_, rfl⟩
          have HI := Lib.hid hi9
          have HJ := Lib.hid (show j ≤ n ∧ n ≤ 16 from ⟨hj, HCT.out.1⟩)
          rw [hi9]
          by_cases hlt : j < n
          · have hp1 : i ≤ hav := by have := HC9.out; omega
            have hp2 : i ≤ a + k := by have := HC9.out; omega
            have g1 : decide (i ≤ hav) = true := decide_eq_true hp1
            have g2 : decide (i ≤ a + k) = true := decide_eq_true hp2
            have hw : IntKind.i64.wrap (i + 1) = i + 1 := by
              have h1 := HFM.out; have h2 := HOK.out.k1; have h3 := HJ.out; have h4 := HI.out
              (try simp only at h2)
              rw [IntKind.wrap_i64]; omega
            have HU := Lib.hid (ups_length (f + 1) j)
            clear hi9
            go_wp2
            go_quiet (fail)
            clear c0 c2
            have hb6 := below_drewN' (Below.refl wr.heap.size wr) nq
            have HV6 := Lib.hid (HV.out.kept hb6)
            have HB6 := Lib.hid (HB.out.trans (hb6.mono HB.out.size))
            clear hb6 HV HB
            generalize wr.drewN nq = W6 at *
            go_wp2_with (refine wpList_append_int rfl _ _ rfl rfl HV6.out rfl (by rw [HU.out]; have := HJ.out; omega) HB6.out.size ?_; intro v7 w7 ho7 hg7; have HO7 := Lib.hid ho7; have HG7 := Lib.hid hg7; clear ho7 hg7)
            go_roundw
            case rel => exact ⟨j + 1, by omega, by rw [← HI.out]; congr 1; omega, by rw [ups_succ, HI.out]; exact HO7.out, (HB6.out.alloc HB6.out.size _).grown HG7.out (by have := HB6.out.size; simp; omega) (fun k hk => (HV6.out.lt k hk).1)⟩
            case measure => simp [intOf]; have h9 := HI.out; omega
          · obtain rfl : j = n := by omega
            have HEND := Lib.hid (show ¬ (i ≤ hav ∧ i ≤ a + k) from by have := HC9.out; omega)
            by_cases hp1 : i ≤ hav
            · have g1 : decide (i ≤ hav) = true := decide_eq_true hp1
              have g2 : decide (i ≤ a + k) = false := decide_eq_false (fun h => HEND.out ⟨hp1, h⟩)
              clear hi9
              go_wp2
              go_quiet (fail)
              clear c0 c2 HEND
              have hb6 := below_drewN' (Below.refl wr.heap.size wr) nq
              have HV6 := Lib.hid ((HV.out.kept hb6).mono HBT5.out.size)
              have hB6 := HB.out.trans (hb6.mono HB.out.size)
              have HW6 := Lib.hid (HW4.out.kept hB6)
              have HBT6 := Lib.hid (HBT5.out.trans (But.of hB6))
              clear hb6 HV HB hB6 HW4 HBT5 HCK5 hak
              generalize wr.drewN nq = W6 at *
              obtain ⟨va, vc, hve, -⟩ := HV6.out.ns
              rw [ups_length] at hve
              subst hve
              obtain ⟨c0, c1, c2, c3, c4⟩ := HW6.out.cs
              (try simp only at c0 c1 c2 c3 c4)
              have z3 := HW6.out.fz 3
              have z4 := HW6.out.fz 4
              by_cases hn0 : j = 0
              · subst hn0
                clear z3 z4 c0 c1 c2 c3 c4
                go_wp2
                go_ret2
                exact ⟨_, rfl, HV6.out, by simpa using HW6.out, HBT6.out⟩
              · have hpos : (0 : Int) < (j : Int) := by omega
                obtain ⟨p, hp9⟩ : ∃ p, j = p + 1 := ⟨j - 1, by omega⟩
                have hpl : p < j := by omega
                have hjm : IntKind.i64.wrap ((j : Int) - 1) = (p : Int) := by rw [IntKind.wrap_i64]; have := HJ.out; omega
                have hpi : (p : Int) < (j : Int) := by omega
                have hp0 : ¬ (p : Int) < 0 := by omega
                obtain ⟨va', vc', hve, hns⟩ := HV6.out.ns
                rw [ups_length] at hve hns
                injection hve with e1 e2 e3
                subst e1 e3
                have hcc : (p : Int) < (vc : Int) := by have := hns.le; omega
                obtain ⟨b, off, rfl, hat⟩ := hns.at (k := p) hpl
                have d1 := hat W6 (Below.refl _ _)
                rw [show (ups (f + 1) j).getD p 0 = f + (j : Int) by rw [ups_getD _ _ _ hpl]; omega] at d1
                have HN0 := Lib.hid hn0
                have HP9 := Lib.hid hp9
                clear hn0 hp9 hat hns hpl hp1 hlt
                go_wp2
                go_ret2
                have hb7 := (But.of (g := g) (Below.refl W6.heap.size W6)).set 3 (.int .i64 (f + (j : Int))) |>.set 4 (.int .i64 now)
                refine ⟨_, rfl, HV6.out.but hb7 HLT.out, ?_, HBT6.out.trans hb7⟩
                exact (HW6.out.set3 (f + (j : Int))).set4 now
            · have g1 : decide (i ≤ hav) = false := decide_eq_false hp1
              clear hi9
              go_wp2
              go_quiet (fail)
              clear c0 c2 HEND
              have hb6 := below_drewN' (Below.refl wr.heap.size wr) nq
              have HV6 := Lib.hid ((HV.out.kept hb6).mono HBT5.out.size)
              have hB6 := HB.out.trans (hb6.mono HB.out.size)
              have HW6 := Lib.hid (HW4.out.kept hB6)
              have HBT6 := Lib.hid (HBT5.out.trans (But.of hB6))
              clear hb6 HV HB hB6 HW4 HBT5 HCK5 hak
              generalize wr.drewN nq = W6 at *
              obtain ⟨va, vc, hve, -⟩ := HV6.out.ns
              rw [ups_length] at hve
              subst hve
              obtain ⟨c0, c1, c2, c3, c4⟩ := HW6.out.cs
              (try simp only at c0 c1 c2 c3 c4)
              have z3 := HW6.out.fz 3
              have z4 := HW6.out.fz 4
              by_cases hn0 : j = 0
              · subst hn0
                clear z3 z4 c0 c1 c2 c3 c4
                go_wp2
                go_ret2
                exact ⟨_, rfl, HV6.out, by simpa using HW6.out, HBT6.out⟩
              · have hpos : (0 : Int) < (j : Int) := by omega
                obtain ⟨p, hp9⟩ : ∃ p, j = p + 1 := ⟨j - 1, by omega⟩
                have hpl : p < j := by omega
                have hjm : IntKind.i64.wrap ((j : Int) - 1) = (p : Int) := by rw [IntKind.wrap_i64]; have := HJ.out; omega
                have hpi : (p : Int) < (j : Int) := by omega
                have hp0 : ¬ (p : Int) < 0 := by omega
                obtain ⟨va', vc', hve, hns⟩ := HV6.out.ns
                rw [ups_length] at hve hns
                injection hve with e1 e2 e3
                subst e1 e3
                have hcc : (p : Int) < (vc : Int) := by have := hns.le; omega
                obtain ⟨b, off, rfl, hat⟩ := hns.at (k := p) hpl
                have d1 := hat W6 (Below.refl _ _)
                rw [show (ups (f + 1) j).getD p 0 = f + (j : Int) by rw [ups_getD _ _ _ hpl]; omega] at d1
                have HN0 := Lib.hid hn0
                have HP9 := Lib.hid hp9
                clear hn0 hp9 hat hns hpl hp1 hlt
                go_wp2
                go_ret2
                have hb7 := (But.of (g := g) (Below.refl W6.heap.size W6)).set 3 (.int .i64 (f + (j : Int))) |>.set 4 (.int .i64 now)
                refine ⟨_, rfl, HV6.out.but hb7 HLT.out, ?_, HBT6.out.trans hb7⟩
                exact (HW6.out.set3 (f + (j : Int))).set4 now
    · have hgd : decide (a < m) = false := decide_eq_false hgt
      have HFF := Lib.hid (show f = m by have h1 := HF9.out; have h2 := HMA.out; split at h1 <;> omega)
      obtain ⟨hge, -⟩ : (0 = 0) ∧ True := ⟨rfl, trivial⟩
      go_wp2
      go_quiet (fail)
      clear k1 k2 k3 k4 c0 c1 c2 c3 c4 hgd
      go_upto_region 7 with (fail)
      have hb4 := below_drewN' (Below.refl W3.heap.size W3) nq
      have HBT4 := Lib.hid (HBT3.out.trans (But.of hb4))
      have HW4 := Lib.hid (HW3.out.kept hb4)
      clear hb4 HW3 HBT3 hge hgt hlt
      generalize W3.drewN nq = W4 at *
      have hw5 : Wnd W4 g 67 ⟨k, t, a, f, l⟩ := by rw [HFF.out]; exact HW4.out
      have HBT5 := Lib.hid HBT4.out
      clear HW4 HBT4
      have HW4 := Lib.hid hw5
      clear hw5
      have HCK5 := Lib.hid (fun W (hW : Below W4.heap.size W4 W) => (HW4.out.kept hW).cs)
      have hs1 : IntKind.i64.wrap (f + 1) = f + 1 := by
        have h1 := HFM.out; have h2 := HOK.out.k1
        simp only at h2
        rw [IntKind.wrap_i64]; omega
      have hak : IntKind.i64.wrap (a + k) = a + k := by
        have h1 := HFM.out; have h2 := HOK.out.k1; have h3 := HOK.out.k0
        simp only at h2 h3
        rw [IntKind.wrap_i64]; omega
      obtain ⟨c0, c1, c2, c3, c4⟩ := HW4.out.cs
      simp only at c0 c1 c2 c3 c4
      go_upto_region 9 with (fail)
      clear c0 c1 c2 c3 c4 hs1
      go_loopw [10, 11] (fun v i wr => ∃ j : Nat, j ≤ n ∧ i = .int .i64 (f + 1 + (j : Int)) ∧ OwnN wr W4.heap.size v (ups (f + 1) j) ∧ Below W4.heap.size W4 wr) (fun _ i _ => n - (intOf i - (f + 1)).toNat)
      case atStart => exact ⟨0, by omega, by simp, OwnN.nil _ _, Below.refl _ _⟩
      case round =>
        obtain ⟨j, hj, rfl, hv, hb⟩ := hrel
        have HV := Lib.hid hv
        have HB := Lib.hid hb
        obtain ⟨c0, c1, c2, c3, c4⟩ := HCK5.out _ hb
        (try simp only at c0 c1 c2 c3 c4)
        clear hv hb c1 c3 c4
        obtain ⟨i, hi9⟩ : ∃ i, f + 1 + (j : Int) = i := ⟨_, rfl⟩
        have HI := Lib.hid hi9
        have HJ := Lib.hid (show j ≤ n ∧ n ≤ 16 from ⟨hj, HCT.out.1⟩)
        rw [hi9]
        by_cases hlt : j < n
        · have hp1 : i ≤ hav := by have := HC9.out; omega
          have hp2 : i ≤ a + k := by have := HC9.out; omega
          have g1 : decide (i ≤ hav) = true := decide_eq_true hp1
          have g2 : decide (i ≤ a + k) = true := decide_eq_true hp2
          have hw : IntKind.i64.wrap (i + 1) = i + 1 := by
            have h1 := HFM.out; have h2 := HOK.out.k1; have h3 := HJ.out; have h4 := HI.out
            (try simp only at h2)
            rw [IntKind.wrap_i64]; omega
          have HU := Lib.hid (ups_length (f + 1) j)
          clear hi9
          go_wp2
          go_quiet (fail)
          clear c0 c2
          have hb6 := below_drewN' (Below.refl wr.heap.size wr) nq
          have HV6 := Lib.hid (HV.out.kept hb6)
          have HB6 := Lib.hid (HB.out.trans (hb6.mono HB.out.size))
          clear hb6 HV HB
          generalize wr.drewN nq = W6 at *
          go_wp2_with (refine wpList_append_int rfl _ _ rfl rfl HV6.out rfl (by rw [HU.out]; have := HJ.out; omega) HB6.out.size ?_; intro v7 w7 ho7 hg7; have HO7 := Lib.hid ho7; have HG7 := Lib.hid hg7; clear ho7 hg7)
          go_roundw
          case rel => exact ⟨j + 1, by omega, by rw [← HI.out]; congr 1; omega, by rw [ups_succ, HI.out]; exact HO7.out, (HB6.out.alloc HB6.out.size _).grown HG7.out (by have := HB6.out.size; simp; omega) (fun k hk => (HV6.out.lt k hk).1)⟩
          case measure => simp [intOf]; have h9 := HI.out; omega
        · obtain rfl : j = n := by omega
          have HEND := Lib.hid (show ¬ (i ≤ hav ∧ i ≤ a + k) from by have := HC9.out; omega)
          by_cases hp1 : i ≤ hav
          · have g1 : decide (i ≤ hav) = true := decide_eq_true hp1
            have g2 : decide (i ≤ a + k) = false := decide_eq_false (fun h => HEND.out ⟨hp1, h⟩)
            clear hi9
            go_wp2
            go_quiet (fail)
            clear c0 c2 HEND
            have hb6 := below_drewN' (Below.refl wr.heap.size wr) nq
            have HV6 := Lib.hid ((HV.out.kept hb6).mono HBT5.out.size)
            have hB6 := HB.out.trans (hb6.mono HB.out.size)
            have HW6 := Lib.hid (HW4.out.kept hB6)
            have HBT6 := Lib.hid (HBT5.out.trans (But.of hB6))
            clear hb6 HV HB hB6 HW4 HBT5 HCK5 hak
            generalize wr.drewN nq = W6 at *
            obtain ⟨va, vc, hve, -⟩ := HV6.out.ns
            rw [ups_length] at hve
            subst hve
            obtain ⟨c0, c1, c2, c3, c4⟩ := HW6.out.cs
            (try simp only at c0 c1 c2 c3 c4)
            have z3 := HW6.out.fz 3
            have z4 := HW6.out.fz 4
            by_cases hn0 : j = 0
            · subst hn0
              clear z3 z4 c0 c1 c2 c3 c4
              go_wp2
              go_ret2
              exact ⟨_, rfl, HV6.out, by simpa using HW6.out, HBT6.out⟩
            · have hpos : (0 : Int) < (j : Int) := by omega
              obtain ⟨p, hp9⟩ : ∃ p, j = p + 1 := ⟨j - 1, by omega⟩
              have hpl : p < j := by omega
              have hjm : IntKind.i64.wrap ((j : Int) - 1) = (p : Int) := by rw [IntKind.wrap_i64]; have := HJ.out; omega
              have hpi : (p : Int) < (j : Int) := by omega
              have hp0 : ¬ (p : Int) < 0 := by omega
              obtain ⟨va', vc', hve, hns⟩ := HV6.out.ns
              rw [ups_length] at hve hns
              injection hve with e1 e2 e3
              subst e1 e3
              have hcc : (p : Int) < (vc : Int) := by have := hns.le; omega
              obtain ⟨b, off, rfl, hat⟩ := hns.at (k := p) hpl
              have d1 := hat W6 (Below.refl _ _)
              rw [show (ups (f + 1) j).getD p 0 = f + (j : Int) by rw [ups_getD _ _ _ hpl]; omega] at d1
              have HN0 := Lib.hid hn0
              have HP9 := Lib.hid hp9
              clear hn0 hp9 hat hns hpl hp1 hlt
              go_wp2
              go_ret2
              have hb7 := (But.of (g := g) (Below.refl W6.heap.size W6)).set 3 (.int .i64 (f + (j : Int))) |>.set 4 (.int .i64 now)
              refine ⟨_, rfl, HV6.out.but hb7 HLT.out, ?_, HBT6.out.trans hb7⟩
              exact (HW6.out.set3 (f + (j : Int))).set4 now
          · have g1 : decide (i ≤ hav) = false := decide_eq_false hp1
            clear hi9
            go_wp2
            go_quiet (fail)
            clear c0 c2 HEND
            have hb6 := below_drewN' (Below.refl wr.heap.size wr) nq
            have HV6 := Lib.hid ((HV.out.kept hb6).mono HBT5.out.size)
            have hB6 := HB.out.trans (hb6.mono HB.out.size)
            have HW6 := Lib.hid (HW4.out.kept hB6)
            have HBT6 := Lib.hid (HBT5.out.trans (But.of hB6))
            clear hb6 HV HB hB6 HW4 HBT5 HCK5 hak
            generalize wr.drewN nq = W6 at *
            obtain ⟨va, vc, hve, -⟩ := HV6.out.ns
            rw [ups_length] at hve
            subst hve
            obtain ⟨c0, c1, c2, c3, c4⟩ := HW6.out.cs
            (try simp only at c0 c1 c2 c3 c4)
            have z3 := HW6.out.fz 3
            have z4 := HW6.out.fz 4
            by_cases hn0 : j = 0
            · subst hn0
              clear z3 z4 c0 c1 c2 c3 c4
              go_wp2
              go_ret2
              exact ⟨_, rfl, HV6.out, by simpa using HW6.out, HBT6.out⟩
            · have hpos : (0 : Int) < (j : Int) := by omega
              obtain ⟨p, hp9⟩ : ∃ p, j = p + 1 := ⟨j - 1, by omega⟩
              have hpl : p < j := by omega
              have hjm : IntKind.i64.wrap ((j : Int) - 1) = (p : Int) := by rw [IntKind.wrap_i64]; have := HJ.out; omega
              have hpi : (p : Int) < (j : Int) := by omega
              have hp0 : ¬ (p : Int) < 0 := by omega
              obtain ⟨va', vc', hve, hns⟩ := HV6.out.ns
              rw [ups_length] at hve hns
              injection hve with e1 e2 e3
              subst e1 e3
              have hcc : (p : Int) < (vc : Int) := by have := hns.le; omega
              obtain ⟨b, off, rfl, hat⟩ := hns.at (k := p) hpl
              have d1 := hat W6 (Below.refl _ _)
              rw [show (ups (f + 1) j).getD p 0 = f + (j : Int) by rw [ups_getD _ _ _ hpl]; omega] at d1
              have HN0 := Lib.hid hn0
              have HP9 := Lib.hid hp9
              clear hn0 hp9 hat hns hpl hp1 hlt
              go_wp2
              go_ret2
              have hb7 := (But.of (g := g) (Below.refl W6.heap.size W6)).set 3 (.int .i64 (f + (j : Int))) |>.set 4 (.int .i64 now)
              refine ⟨_, rfl, HV6.out.but hb7 HLT.out, ?_, HBT6.out.trans hb7⟩
              exact (HW6.out.set3 (f + (j : Int))).set4 now
    
theorem rwnext_c {w : World} {g : Nat} {q : Wn} (h : Wnd w g 67 q) (ho : q.Ok) (ack hav now : Int) : Calls Try.prog 39 #[.pointer (some ⟨g, 0, none⟩), .int .i64 ack, .int .i64 hav, .int .i64 now] w (NextPost 67 g q ack hav now w) := by
  by_cases hn : AskOk ack hav now
  · exact rwnext_yes h ho ack hav now hn
  · exact rwnext_bad h ho ack hav now hn
end Go.Proofs.Ytplanmiggeghfaa
