/-
  Window: Next of the program.
-/
import Derived.Test.YtplanmiggeghfaaWA2
import Derived.Shelf.Abstract
namespace Go.Proofs.Ytplanmiggeghfaa
open Go.RowKit Go Go.Sort
set_option linter.unusedVariables false
set_option maxRecDepth 20000

def NextPost (ty : TypeId) (g : Nat) (q : Wn) (ack hav now : Int) (w : World) (e : Ending) (w' : World) : Prop :=
  ∃ v, e = .returned (.tuple #[v, .int .i64 (Wn.err ack hav now)]) ∧ OwnN w' w.heap.size v (q.tell ack hav now) ∧ Wnd w' g ty (q.ask ack hav now) ∧ But g w w'
theorem OwnN.but {w w' : World} {B g : Nat} {v : Value} {l : List Int} (h : OwnN w B v l) (hb : But g w w') (hg : g < B) : OwnN w' B v l := by
  refine ⟨h.1, ?_⟩
  rcases h.2 with hn | ⟨k, cap, cur, rfl, hB, hk, rest⟩
  · exact .inl hn
  · exact .inr ⟨k, cap, cur, rfl, hB, (hb.block k (Array.getElem?_eq_some_iff.1 hk).1 (by simp; omega)).trans hk, rest⟩
theorem wnext_nil (w : World) (ack hav now : Int) : Calls Try.prog 38 #[.pointer none, .int .i64 ack, .int .i64 hav, .int .i64 now] w (fun e w' => e = .returned (.tuple #[.slice none 0 0, .int .i64 1]) ∧ w = w') := by
  go_enter Try.func38, Try.ntmps38
  go_wp2_with (go_at_call 72; (with_reducible refine (wimade_nil _).mono ?_); rintro e1 w1 ⟨rfl, rfl⟩)
  go_ret2
  exact ⟨rfl, rfl⟩
theorem wnext_un {w : World} {g : Nat} {q : Wn} (h : Wnd w g 79 q) (hk : (q.k != 0) = false) (ack hav now : Int) : Calls Try.prog 38 #[.pointer (some ⟨g, 0, none⟩), .int .i64 ack, .int .i64 hav, .int .i64 now] w (fun e w' => e = .returned (.tuple #[.slice none 0 0, .int .i64 1]) ∧ w = w') := by
  have HI := Lib.hid (wimade_c h false hk)
  clear h hk
  go_enter Try.func38, Try.ntmps38
  go_wp2_with (go_at_call 72; (with_reducible refine HI.out.mono ?_); rintro e1 w1 ⟨rfl, rfl⟩)
  go_ret2
  exact ⟨rfl, rfl⟩
theorem wnext_bad {w : World} {g : Nat} {q : Wn} (h : Wnd w g 79 q) (ho : q.Ok) (ack hav now : Int) (hn : ¬ AskOk ack hav now) : Calls Try.prog 38 #[.pointer (some ⟨g, 0, none⟩), .int .i64 ack, .int .i64 hav, .int .i64 now] w (NextPost 79 g q ack hav now w) := by
  have HI := Lib.hid (wimade_c h true (by have := ho.k0; simp; omega))
  have HP := Lib.hid (show NextPost 79 g q ack hav now w (.returned (.tuple #[.slice none 0 0, .int .i64 2])) w from
    ⟨_, by rw [show Wn.err ack hav now = 2 from if_neg hn], by rw [show q.tell ack hav now = [] from if_neg hn]; exact OwnN.nil _ _, by rw [show q.ask ack hav now = q from if_neg hn]; exact h, But.of (Below.refl _ _)⟩)
  have hb : ack < 0 ∨ hav < ack ∨ 1099511627776 < hav ∨ now < 0 ∨ 1099511627776 < now := by
    apply Classical.byContradiction
    intro hc
    exact hn ⟨by omega, by omega, by omega, by omega, by omega⟩
  clear h ho hn
  by_cases h0 : ack < 0
  · clear hb
    go_enter Try.func38, Try.ntmps38
    go_wp2_with (go_at_call 72; (with_reducible refine HI.out.mono ?_); rintro e1 w1 ⟨rfl, rfl⟩)
    go_ret2
    exact HP.out
  · 
    by_cases h1 : hav < ack
    · clear hb
      go_enter Try.func38, Try.ntmps38
      go_wp2_with (go_at_call 72; (with_reducible refine HI.out.mono ?_); rintro e1 w1 ⟨rfl, rfl⟩)
      go_ret2
      exact HP.out
    · 
      by_cases h2 : 1099511627776 < hav
      · clear hb
        go_enter Try.func38, Try.ntmps38
        go_wp2_with (go_at_call 72; (with_reducible refine HI.out.mono ?_); rintro e1 w1 ⟨rfl, rfl⟩)
        go_ret2
        exact HP.out
      · 
        by_cases h3 : now < 0
        · clear hb
          go_enter Try.func38, Try.ntmps38
          go_wp2_with (go_at_call 72; (with_reducible refine HI.out.mono ?_); rintro e1 w1 ⟨rfl, rfl⟩)
          go_ret2
          exact HP.out
        ·
          have h4 : 1099511627776 < now := by omega
          clear hb
          go_enter Try.func38, Try.ntmps38
          go_wp2_with (go_at_call 72; (with_reducible refine HI.out.mono ?_); rintro e1 w1 ⟨rfl, rfl⟩)
          go_ret2
          exact HP.out

set_option maxRecDepth 100000 in
set_option maxHeartbeats 6400000 in
theorem wnext_yes {w : World} {g : Nat} {q : Wn} (h : Wnd w g 79 q) (ho : q.Ok) (ack hav now : Int) (hn : AskOk ack hav now) : Calls Try.prog 38 #[.pointer (some ⟨g, 0, none⟩), .int .i64 ack, .int .i64 hav, .int .i64 now] w (NextPost 79 g q ack hav now w) := by
  have HI := Lib.hid (wimade_c h true (by have := ho.k0; simp; omega))
  unfold NextPost
  rw [show Wn.err ack hav now = 0 from if_pos hn, show q.tell ack hav now = q.told ack hav now from if_pos hn, show q.ask ack hav now = q.next ack hav now from if_pos hn]
  have HFM := Lib.hid (ho.frm hn)
  have HCT := Lib.hid (ho.cnt hn)
  have HOK := Lib.hid ho
  have HAK := Lib.hid hn
  have h0 : ¬ ack < 0 := by have := hn.a0; omega
  have h1 : ¬ hav < ack := by have := hn.h0; omega
  have h2 : ¬ 1099511627776 < hav := by have := hn.h1; omega
  have h3 : ¬ now < 0 := by have := hn.n0; omega
  have h4 : ¬ 1099511627776 < now := by have := hn.n1; omega
  have HF9 := Lib.hid (show q.frm ack now = if q.l + q.t ≤ now then q.ackd ack else max q.s (q.ackd ack) from rfl)
  have HC9 := Lib.hid (show q.cnt ack hav now = (min hav (q.ackd ack + q.k) - q.frm ack now).toNat from rfl)
  have HA9 := Lib.hid (show max q.a ack = q.ackd ack from rfl)
  have HW := Lib.hid h
  obtain ⟨c0, c1, c2, c3, c4⟩ := h.cs
  have z2 := h.fz 2
  clear h ho hn
  unfold Wn.told Wn.next
  obtain ⟨n, hcn⟩ : ∃ n, q.cnt ack hav now = n := ⟨_, rfl⟩
  obtain ⟨f, hf⟩ : ∃ f, q.frm ack now = f := ⟨_, rfl⟩
  obtain ⟨a, ha⟩ : ∃ a, q.ackd ack = a := ⟨_, rfl⟩
  rw [hcn, hf, ha] at HC9 HCT
  rw [hf, ha] at HF9 HFM
  rw [ha] at HA9
  rw [hcn, hf, ha]
  clear hcn hf ha
  have HLT := Lib.hid HW.out.lt
  obtain ⟨k, t, a0, s, l⟩ := q
  simp only at HF9 HC9 HA9 HCT HFM c0 c1 c2 c3 c4 ⊢
  go_enter Try.func38, Try.ntmps38
  go_upto_region 6 with (go_at_call 72; (with_reducible refine HI.out.mono ?_); rintro e1 w1 ⟨rfl, rfl⟩)
  rw [HA9.out]
  have hw1 := HW.out.set2 a
  have HBT1 := Lib.hid ((But.of (g := g) (Below.refl w.heap.size w)).set 2 (.int .i64 a))
  clear c0 c1 c2 c3 c4 z2
  generalize w.setCell ⟨g, 2, none⟩ (.int .i64 a) = W1 at *
  have HW1 := Lib.hid hw1
  clear hw1
  have HCK := Lib.hid (fun W (hW : Below W1.heap.size W1 W) => (HW1.out.kept hW).cs)
  refine wp_region_flow_tail 12 [none, none, none, none, none, none, none, none, none, none, none, none, none, none, none, none, none, none, none, none, none, none, none, none, none, none, none, none, none, none, none, none, none, none, none, none, none, none, none, none, none, none, none, none, some 0, some 1, some 2, some 3, some 4, some 5, some 6, some 7, some 8, some 9, some 10, some 11, none, none, none, none, none, none, none, none, none, none, none, none, none, none, none, none, none, none, none, none, none, none, none, none, none, none, none, none, none, none, none, none, none, none, none, none, none, none, none, none, none, none, none, none, none, none, none, none, none, none, none, none, none] (fun i => [undef, undef, undef, undef, undef, undef, undef, undef, undef, undef, undef, undef].getD i undef) [(fun v _ => v = .pointer (some ⟨g, 0, none⟩)), (fun v _ => v = .pointer (some ⟨g, 0, none⟩)), (fun v _ => v = .pointer (some ⟨g, 0, none⟩)), (fun v _ => v = .pointer (some ⟨g, 3, none⟩)), (fun v _ => v = .int .i64 s), (fun v _ => v = .pointer (some ⟨g, 0, none⟩)), (fun v _ => v = .pointer (some ⟨g, 0, none⟩)), (fun v _ => v = .pointer (some ⟨g, 2, none⟩)), (fun v _ => v = .int .i64 a), (fun v _ => v = .int .i64 (max s a)), (fun v _ => v = .pointer (some ⟨g, 0, none⟩)), (fun v _ => v = .pointer (some ⟨g, 3, none⟩))] (fun _ => False) (by kernel_rfl) (by kernel_rfl) (by kernel_rfl) rfl rfl rfl ?_ ?_ ?_
  · intro g hg v X Y hX hY hv
    simp only [List.mem_cons, List.not_mem_nil, or_false] at hg
    rcases hg with rfl | rfl | rfl | rfl | rfl | rfl | rfl | rfl | rfl | rfl | rfl | rfl
    all_goals first
      | exact hv
      | exact hv.kept hY
  · simp only [flowOpsF, List.take_succ_cons, List.take_zero, and_true]
    refine ⟨?_, ?_, ?_, ?_, ?_, ?_, ?_, ?_, ?_, ?_, ?_, ?_⟩
    · intro xs W hW hn
      simp only [flowAct, List.zipWith_cons_cons, List.zipWith_nil_left]
      go_wp2_with (fail)
      exact ⟨rfl, _, rfl, Below.refl _ _, rfl, fun h => h.elim⟩
    · intro xs W hW hn
      simp only [flowAct, List.zipWith_cons_cons, List.zipWith_nil_left]
      go_wp2_with (fail)
      exact ⟨rfl, _, rfl, Below.refl _ _, rfl, fun h => h.elim⟩
    · intro xs W hW hn
      simp [flowNeeds, Region.binds] at hn
      simp only [flowAct, List.zipWith_cons_cons, List.zipWith_nil_left]
      try simp only [hn]
      go_wp2_with (fail)
      exact ⟨rfl, _, rfl, Below.refl _ _, rfl, fun h => h.elim⟩
    · intro xs W hW hn
      simp [flowNeeds, Region.binds] at hn
      simp only [flowAct, List.zipWith_cons_cons, List.zipWith_nil_left]
      try simp only [hn]
      go_wp2_with (fail)
      exact ⟨rfl, _, rfl, Below.refl _ _, rfl, fun h => h.elim⟩
    · intro xs W hW hn
      obtain ⟨c0, c1, c2, c3, c4⟩ := HCK.out W hW
      simp [flowNeeds, Region.binds] at hn
      simp only [flowAct, List.zipWith_cons_cons, List.zipWith_nil_left]
      try simp only [hn]
      go_wp2_with (fail)
      exact ⟨rfl, _, rfl, Below.refl _ _, rfl, fun h => h.elim⟩
    · intro xs W hW hn
      simp only [flowAct, List.zipWith_cons_cons, List.zipWith_nil_left]
      go_wp2_with (fail)
      exact ⟨rfl, _, rfl, Below.refl _ _, rfl, fun h => h.elim⟩
    · intro xs W hW hn
      simp [flowNeeds, Region.binds] at hn
      simp only [flowAct, List.zipWith_cons_cons, List.zipWith_nil_left]
      try simp only [hn]
      go_wp2_with (fail)
      exact ⟨rfl, _, rfl, Below.refl _ _, rfl, fun h => h.elim⟩
    · intro xs W hW hn
      simp [flowNeeds, Region.binds] at hn
      simp only [flowAct, List.zipWith_cons_cons, List.zipWith_nil_left]
      try simp only [hn]
      go_wp2_with (fail)
      exact ⟨rfl, _, rfl, Below.refl _ _, rfl, fun h => h.elim⟩
    · intro xs W hW hn
      obtain ⟨c0, c1, c2, c3, c4⟩ := HCK.out W hW
      simp [flowNeeds, Region.binds] at hn
      simp only [flowAct, List.zipWith_cons_cons, List.zipWith_nil_left]
      try simp only [hn]
      go_wp2_with (fail)
      exact ⟨rfl, _, rfl, Below.refl _ _, rfl, fun h => h.elim⟩
    · intro xs W hW hn
      simp [flowNeeds, Region.binds] at hn
      simp only [flowAct, List.zipWith_cons_cons, List.zipWith_nil_left]
      try simp only [hn]
      go_wp2_with (fail)
      exact ⟨rfl, _, rfl, Below.refl _ _, rfl, fun h => h.elim⟩
    · intro xs W hW hn
      simp [flowNeeds, Region.binds] at hn
      simp only [flowAct, List.zipWith_cons_cons, List.zipWith_nil_left]
      try simp only [hn]
      go_wp2_with (fail)
      exact ⟨rfl, _, rfl, Below.refl _ _, rfl, fun h => h.elim⟩
    · intro xs W hW hn
      simp [flowNeeds, Region.binds] at hn
      simp only [flowAct, List.zipWith_cons_cons, List.zipWith_nil_left]
      try simp only [hn]
      go_wp2_with (fail)
      exact ⟨rfl, _, rfl, Below.refl _ _, rfl, fun h => h.elim⟩
  · intro xs W hW hall hfr
    clear hfr
    simp only [flowAll, and_true, Nat.zero_add, Nat.reduceAdd] at hall
    obtain ⟨a0, a1, a2, a3, a4, a5, a6, a7, a8, a9, a10, a11⟩ := hall
    simp only [flowAct, List.zipWith_cons_cons, List.zipWith_nil_left, List.drop_succ_cons, List.drop_zero]
    simp only [a0, a1, a2, a3, a4, a5, a6, a7, a8, a9, a10, a11]
    clear a0 a1 a2 a3 a4 a5 a6 a7 a8 a9 a10 a11
    have HW2 := Lib.hid (HW1.out.kept hW)
    have HBT2 := Lib.hid (HBT1.out.trans (But.of hW))
    have z3 := HW2.out.fz 3
    obtain ⟨c0, c1, c2, c3, c4⟩ := HW2.out.cs
    simp only at c0 c1 c2 c3 c4
    clear hW
    go_upto_region 7 with (fail)
    have hw3 := HW2.out.set3 (max s a)
    have HBT3 := Lib.hid (HBT2.out.set 3 (.int .i64 (max s a)))
    clear c0 c1 c2 c3 c4 z3 HBT2 HW2 HBT1 HW1 HCK
    generalize W.setCell ⟨g, 3, none⟩ (.int .i64 (max s a)) = W3 at *
    have HW3 := Lib.hid hw3
    clear hw3
    have hlt : IntKind.i64.wrap (l + t) = l + t := by
      have h1 := HOK.out.l0; have h2 := HOK.out.l1; have h3 := HOK.out.t0; have h4 := HOK.out.t1
      simp only at h1 h2 h3 h4
      rw [IntKind.wrap_i64]; omega
    obtain ⟨c0, c1, c2, c3, c4⟩ := HW3.out.cs
    simp only at c0 c1 c2 c3 c4
    have k4 := cell_regrown c4
    have k1 := cell_regrown c1
    by_cases hge : l + t ≤ now
    · have HFF := Lib.hid (show f = a by rw [HF9.out, if_pos hge])
      go_wp2
      go_quiet (fail)
      clear k4 k1 c0 c1 c2 c3 c4
      go_upto_region 8 with (fail)
      have hb4 := below_drewN' (Below.refl W3.heap.size W3) nq
      have HBT4 := Lib.hid (HBT3.out.trans (But.of hb4))
      have HW4 := Lib.hid (HW3.out.kept hb4)
      clear hb4 HW3 HBT3 hge hlt
      generalize W3.drewN nq = W4 at *
      obtain ⟨c0, c1, c2, c3, c4⟩ := HW4.out.cs
      simp only at c0 c1 c2 c3 c4
      have z3 := HW4.out.fz 3
      go_upto_region 9 with (fail)
      have hw5 : Wnd (W4.setCell ⟨g, 3, none⟩ (.int .i64 a)) g 79 ⟨k, t, a, f, l⟩ := by rw [HFF.out]; exact HW4.out.set3 a
      have HBT5 := Lib.hid (HBT4.out.set 3 (.int .i64 a))
      clear c0 c1 c2 c3 c4 z3 HW4 HBT4
      generalize W4.setCell ⟨g, 3, none⟩ (.int .i64 a) = W5 at *
      have HW5 := Lib.hid hw5
      clear hw5
      have HCK5 := Lib.hid (fun W (hW : Below W5.heap.size W5 W) => (HW5.out.kept hW).cs)
      have hs1 : IntKind.i64.wrap (f + 1) = f + 1 := by
        have h1 := HFM.out; have h2 := HOK.out.k1
        simp only at h2
        rw [IntKind.wrap_i64]; omega
      have hak : IntKind.i64.wrap (a + k) = a + k := by
        have h1 := HFM.out; have h2 := HOK.out.k1; have h3 := HOK.out.k0
        simp only at h2 h3
        rw [IntKind.wrap_i64]; omega
      have HGA := Lib.hid (fun (W : World) => wgather_c (f + 1) (min hav (a + k)) n W (by have := HC9.out; omega) (by have := HFM.out; omega) (by have h1 := HFM.out; have h2 := HOK.out.k1; simp only at h2; omega) (by have := HCT.out.1; omega))
      refine wp_region_flow_tail 18 [none, none, none, none, none, none, none, none, none, none, none, none, none, none, none, none, none, none, none, none, none, none, none, none, none, none, none, none, none, none, none, none, none, none, none, none, none, none, none, none, none, none, none, none, none, none, none, none, none, none, none, none, none, none, none, none, none, none, none, none, none, none, none, none, none, none, none, none, none, none, none, none, none, none, some 0, some 1, some 2, some 3, some 4, some 5, some 6, some 7, some 8, some 9, some 10, some 11, some 12, some 13, some 14, some 15, some 16, some 17, none, none, none, none, none, none, none, none, none, none, none, none, none, none, none, none, none] (fun i => [undef, undef, undef, undef, undef, undef, undef, undef, undef, undef, undef, undef, undef, undef, undef, undef, undef, undef].getD i undef) [(fun v _ => v = .pointer (some ⟨g, 0, none⟩)), (fun v _ => v = .pointer (some ⟨g, 0, none⟩)), (fun v _ => v = .pointer (some ⟨g, 3, none⟩)), (fun v _ => v = .int .i64 f), (fun v _ => v = .int .i64 (f + 1)), (fun v _ => v = .int .i64 hav), (fun v _ => v = .pointer (some ⟨g, 0, none⟩)), (fun v _ => v = .pointer (some ⟨g, 0, none⟩)), (fun v _ => v = .pointer (some ⟨g, 2, none⟩)), (fun v _ => v = .int .i64 a), (fun v _ => v = .pointer (some ⟨g, 0, none⟩)), (fun v _ => v = .pointer (some ⟨g, 0, none⟩)), (fun v _ => v = .pointer (some ⟨g, 0, none⟩)), (fun v _ => v = .int .i64 k), (fun v _ => v = .int .i64 (a + k)), (fun v _ => v = .int .i64 (min hav (a + k))), (fun v _ => v = endV (min hav (a + k))), (fun v W => OwnN W w.heap.size v (ups (f + 1) n))] (fun _ => False) (by kernel_rfl) (by kernel_rfl) (by kernel_rfl) rfl rfl rfl ?_ ?_ ?_
      · intro g hg v X Y hX hY hv
        simp only [List.mem_cons, List.not_mem_nil, or_false] at hg
        rcases hg with rfl | rfl | rfl | rfl | rfl | rfl | rfl | rfl | rfl | rfl | rfl | rfl | rfl | rfl | rfl | rfl | rfl | rfl
        all_goals first
          | exact hv
          | exact hv.kept hY
      · simp only [flowOpsF, List.take_succ_cons, List.take_zero, and_true]
        refine ⟨?_, ?_, ?_, ?_, ?_, ?_, ?_, ?_, ?_, ?_, ?_, ?_, ?_, ?_, ?_, ?_, ?_, ?_⟩
        · intro xs W hW hn
          simp only [flowAct, List.zipWith_cons_cons, List.zipWith_nil_left]
          go_wp2_with (fail)
          exact ⟨rfl, _, rfl, Below.refl _ _, rfl, fun h => h.elim⟩
        · intro xs W hW hn
          simp [flowNeeds, Region.binds] at hn
          simp only [flowAct, List.zipWith_cons_cons, List.zipWith_nil_left]
          try simp only [hn]
          go_wp2_with (fail)
          exact ⟨rfl, _, rfl, Below.refl _ _, rfl, fun h => h.elim⟩
        · intro xs W hW hn
          simp [flowNeeds, Region.binds] at hn
          simp only [flowAct, List.zipWith_cons_cons, List.zipWith_nil_left]
          try simp only [hn]
          go_wp2_with (fail)
          exact ⟨rfl, _, rfl, Below.refl _ _, rfl, fun h => h.elim⟩
        · intro xs W hW hn
          obtain ⟨c0, c1, c2, c3, c4⟩ := HCK5.out W hW
          simp only at c0 c1 c2 c3 c4
          simp [flowNeeds, Region.binds] at hn
          simp only [flowAct, List.zipWith_cons_cons, List.zipWith_nil_left]
          try simp only [hn]
          go_wp2_with (fail)
          exact ⟨rfl, _, rfl, Below.refl _ _, rfl, fun h => h.elim⟩
        · intro xs W hW hn
          simp [flowNeeds, Region.binds] at hn
          simp only [flowAct, List.zipWith_cons_cons, List.zipWith_nil_left]
          try simp only [hn]
          go_wp2_with (fail)
          exact ⟨rfl, _, rfl, Below.refl _ _, rfl, fun h => h.elim⟩
        · intro xs W hW hn
          simp only [flowAct, List.zipWith_cons_cons, List.zipWith_nil_left]
          go_wp2_with (fail)
          exact ⟨rfl, _, rfl, Below.refl _ _, rfl, fun h => h.elim⟩
        · intro xs W hW hn
          simp only [flowAct, List.zipWith_cons_cons, List.zipWith_nil_left]
          go_wp2_with (fail)
          exact ⟨rfl, _, rfl, Below.refl _ _, rfl, fun h => h.elim⟩
        · intro xs W hW hn
          simp [flowNeeds, Region.binds] at hn
          simp only [flowAct, List.zipWith_cons_cons, List.zipWith_nil_left]
          try simp only [hn]
          go_wp2_with (fail)
          exact ⟨rfl, _, rfl, Below.refl _ _, rfl, fun h => h.elim⟩
        · intro xs W hW hn
          simp [flowNeeds, Region.binds] at hn
          simp only [flowAct, List.zipWith_cons_cons, List.zipWith_nil_left]
          try simp only [hn]
          go_wp2_with (fail)
          exact ⟨rfl, _, rfl, Below.refl _ _, rfl, fun h => h.elim⟩
        · intro xs W hW hn
          obtain ⟨c0, c1, c2, c3, c4⟩ := HCK5.out W hW
          simp only at c0 c1 c2 c3 c4
          simp [flowNeeds, Region.binds] at hn
          simp only [flowAct, List.zipWith_cons_cons, List.zipWith_nil_left]
          try simp only [hn]
          go_wp2_with (fail)
          exact ⟨rfl, _, rfl, Below.refl _ _, rfl, fun h => h.elim⟩
        · intro xs W hW hn
          simp only [flowAct, List.zipWith_cons_cons, List.zipWith_nil_left]
          go_wp2_with (fail)
          exact ⟨rfl, _, rfl, Below.refl _ _, rfl, fun h => h.elim⟩
        · intro xs W hW hn
          simp [flowNeeds, Region.binds] at hn
          simp only [flowAct, List.zipWith_cons_cons, List.zipWith_nil_left]
          try simp only [hn]
          go_wp2_with (fail)
          exact ⟨rfl, _, rfl, Below.refl _ _, rfl, fun h => h.elim⟩
        · intro xs W hW hn
          simp [flowNeeds, Region.binds] at hn
          simp only [flowAct, List.zipWith_cons_cons, List.zipWith_nil_left]
          try simp only [hn]
          go_wp2_with (fail)
          exact ⟨rfl, _, rfl, Below.refl _ _, rfl, fun h => h.elim⟩
        · intro xs W hW hn
          obtain ⟨c0, c1, c2, c3, c4⟩ := HCK5.out W hW
          simp only at c0 c1 c2 c3 c4
          simp [flowNeeds, Region.binds] at hn
          simp only [flowAct, List.zipWith_cons_cons, List.zipWith_nil_left]
          try simp only [hn]
          go_wp2_with (fail)
          exact ⟨rfl, _, rfl, Below.refl _ _, rfl, fun h => h.elim⟩
        · intro xs W hW hn
          simp [flowNeeds, Region.binds] at hn
          simp only [flowAct, List.zipWith_cons_cons, List.zipWith_nil_left]
          try simp only [hn]
          go_wp2_with (fail)
          exact ⟨rfl, _, rfl, Below.refl _ _, rfl, fun h => h.elim⟩
        · intro xs W hW hn
          simp [flowNeeds, Region.binds] at hn
          simp only [flowAct, List.zipWith_cons_cons, List.zipWith_nil_left]
          try simp only [hn]
          go_wp2_with (fail)
          exact ⟨rfl, _, rfl, Below.refl _ _, rfl, fun h => h.elim⟩
        · intro xs W hW hn
          simp [flowNeeds, Region.binds] at hn
          simp only [flowAct, List.zipWith_cons_cons, List.zipWith_nil_left]
          try simp only [hn]
          go_wp2_with (fail)
          exact ⟨rfl, _, rfl, Below.refl _ _, rfl, fun h => h.elim⟩
        · intro xs W hW hn
          simp [flowNeeds, Region.binds] at hn
          simp only [flowAct, List.zipWith_cons_cons, List.zipWith_nil_left]
          try simp only [hn]
          go_wp2_with (go_at_call 73; (with_reducible refine (HGA.out _).mono ?_); rintro e9 w9 ⟨v9, rfl, hb9, ho9⟩)
          exact ⟨rfl, _, rfl, hb9, ho9.mono (Nat.le_trans HBT5.out.size hW.size), fun h => h.elim⟩
      · intro xs W hW hall hfr
        clear hfr
        simp only [flowAll, and_true, Nat.zero_add, Nat.reduceAdd] at hall
        obtain ⟨b0, b1, b2, b3, b4, b5, b6, b7, b8, b9, b10, b11, b12, b13, b14, b15, b16, b17⟩ := hall
        have HO := Lib.hid b17
        clear b17
        simp only [flowAct, List.zipWith_cons_cons, List.zipWith_nil_left, List.drop_succ_cons, List.drop_zero]
        simp only [b0, b1, b2, b3, b4, b5, b6, b7, b8, b9, b10, b11, b12, b13, b14, b15, b16]
        clear b0 b1 b2 b3 b4 b5 b6 b7 b8 b9 b10 b11 b12 b13 b14 b15 b16
        obtain ⟨v, hvv⟩ : ∃ v, xs 17 = v := ⟨_, rfl⟩
        rw [hvv] at HO ⊢
        clear hvv
        obtain ⟨va, vc, hve, -⟩ := HO.out.ns
        rw [ups_length] at hve
        subst hve
        have HW6 := Lib.hid (HW5.out.kept hW)
        have HBT6 := Lib.hid (HBT5.out.trans (But.of hW))
        have z3 := HW6.out.fz 3
        have z4 := HW6.out.fz 4
        obtain ⟨c0, c1, c2, c3, c4⟩ := HW6.out.cs
        simp only at c0 c1 c2 c3 c4
        clear hW HW5 HCK5 HGA hs1 hak
        by_cases hn0 : n = 0
        · subst hn0
          clear z3 z4 c0 c1 c2 c3 c4
          go_wp2
          go_ret2
          exact ⟨_, rfl, HO.out, by simpa using HW6.out, HBT6.out⟩
        · have hpos : (0 : Int) < (n : Int) := by omega
          have HN0 := Lib.hid hn0
          have hsum : IntKind.i64.wrap (f + (n : Int)) = f + (n : Int) := by
            have h1 := HFM.out; have h2 := HOK.out.k1; have h3 := HCT.out.1
            simp only at h2
            rw [IntKind.wrap_i64]; omega
          clear hn0
          go_wp2
          go_ret2
          have hb7 := (But.of (g := g) (Below.refl W.heap.size W)).set 3 (.int .i64 (f + (n : Int))) |>.set 4 (.int .i64 now)
          refine ⟨_, rfl, HO.out.but hb7 HLT.out, ?_, HBT6.out.trans hb7⟩
          exact (HW6.out.set3 (f + (n : Int))).set4 now
      
    · have HFF := Lib.hid (show f = max s a by rw [HF9.out, if_neg hge])
      go_wp2
      go_quiet (fail)
      clear k4 k1 c0 c1 c2 c3 c4
      go_upto_region 9 with (fail)
      have hb4 := below_drewN' (Below.refl W3.heap.size W3) nq
      have HBT4 := Lib.hid (HBT3.out.trans (But.of hb4))
      have HW4 := Lib.hid (HW3.out.kept hb4)
      clear hb4 HW3 HBT3 hge hlt
      generalize W3.drewN nq = W4 at *
      have hw5 : Wnd W4 g 79 ⟨k, t, a, f, l⟩ := by rw [HFF.out]; exact HW4.out
      have HBT5 := Lib.hid HBT4.out
      clear HW4 HBT4
      obtain ⟨W5, hW5⟩ : ∃ X, W4 = X := ⟨_, rfl⟩
      subst hW5
      have HW4 := Lib.hid hw5
      clear hw5
      have HCK5 := Lib.hid (fun W (hW : Below W4.heap.size W4 W) => (HW4.out.kept hW).cs)
      have hs1 : IntKind.i64.wrap (f + 1) = f + 1 := by
        have h1 := HFM.out; have h2 := HOK.out.k1
        simp only at h2
        rw [IntKind.wrap_i64]; omega
      have hak : IntKind.i64.wrap (a + k) = a + k := by
        have h1 := HFM.out; have h2 := HOK.out.k1; have h3 := HOK.out.k0
        simp only at h2 h3
        rw [IntKind.wrap_i64]; omega
      have HGA := Lib.hid (fun (W : World) => wgather_c (f + 1) (min hav (a + k)) n W (by have := HC9.out; omega) (by have := HFM.out; omega) (by have h1 := HFM.out; have h2 := HOK.out.k1; simp only at h2; omega) (by have := HCT.out.1; omega))
      refine wp_region_flow_tail 18 [none, none, none, none, none, none, none, none, none, none, none, none, none, none, none, none, none, none, none, none, none, none, none, none, none, none, none, none, none, none, none, none, none, none, none, none, none, none, none, none, none, none, none, none, none, none, none, none, none, none, none, none, none, none, none, none, none, none, none, none, none, none, none, none, none, none, none, none, none, none, none, none, none, none, some 0, some 1, some 2, some 3, some 4, some 5, some 6, some 7, some 8, some 9, some 10, some 11, some 12, some 13, some 14, some 15, some 16, some 17, none, none, none, none, none, none, none, none, none, none, none, none, none, none, none, none, none] (fun i => [undef, undef, undef, undef, undef, undef, undef, undef, undef, undef, undef, undef, undef, undef, undef, undef, undef, undef].getD i undef) [(fun v _ => v = .pointer (some ⟨g, 0, none⟩)), (fun v _ => v = .pointer (some ⟨g, 0, none⟩)), (fun v _ => v = .pointer (some ⟨g, 3, none⟩)), (fun v _ => v = .int .i64 f), (fun v _ => v = .int .i64 (f + 1)), (fun v _ => v = .int .i64 hav), (fun v _ => v = .pointer (some ⟨g, 0, none⟩)), (fun v _ => v = .pointer (some ⟨g, 0, none⟩)), (fun v _ => v = .pointer (some ⟨g, 2, none⟩)), (fun v _ => v = .int .i64 a), (fun v _ => v = .pointer (some ⟨g, 0, none⟩)), (fun v _ => v = .pointer (some ⟨g, 0, none⟩)), (fun v _ => v = .pointer (some ⟨g, 0, none⟩)), (fun v _ => v = .int .i64 k), (fun v _ => v = .int .i64 (a + k)), (fun v _ => v = .int .i64 (min hav (a + k))), (fun v _ => v = endV (min hav (a + k))), (fun v W => OwnN W w.heap.size v (ups (f + 1) n))] (fun _ => False) (by kernel_rfl) (by kernel_rfl) (by kernel_rfl) rfl rfl rfl ?_ ?_ ?_
      · intro g hg v X Y hX hY hv
        simp only [List.mem_cons, List.not_mem_nil, or_false] at hg
        rcases hg with rfl | rfl | rfl | rfl | rfl | rfl | rfl | rfl | rfl | rfl | rfl | rfl | rfl | rfl | rfl | rfl | rfl | rfl
        all_goals first
          | exact hv
          | exact hv.kept hY
      · simp only [flowOpsF, List.take_succ_cons, List.take_zero, and_true]
        refine ⟨?_, ?_, ?_, ?_, ?_, ?_, ?_, ?_, ?_, ?_, ?_, ?_, ?_, ?_, ?_, ?_, ?_, ?_⟩
        · intro xs W hW hn
          simp only [flowAct, List.zipWith_cons_cons, List.zipWith_nil_left]
          go_wp2_with (fail)
          exact ⟨rfl, _, rfl, Below.refl _ _, rfl, fun h => h.elim⟩
        · intro xs W hW hn
          simp [flowNeeds, Region.binds] at hn
          simp only [flowAct, List.zipWith_cons_cons, List.zipWith_nil_left]
          try simp only [hn]
          go_wp2_with (fail)
          exact ⟨rfl, _, rfl, Below.refl _ _, rfl, fun h => h.elim⟩
        · intro xs W hW hn
          simp [flowNeeds, Region.binds] at hn
          simp only [flowAct, List.zipWith_cons_cons, List.zipWith_nil_left]
          try simp only [hn]
          go_wp2_with (fail)
          exact ⟨rfl, _, rfl, Below.refl _ _, rfl, fun h => h.elim⟩
        · intro xs W hW hn
          obtain ⟨c0, c1, c2, c3, c4⟩ := HCK5.out W hW
          simp only at c0 c1 c2 c3 c4
          simp [flowNeeds, Region.binds] at hn
          simp only [flowAct, List.zipWith_cons_cons, List.zipWith_nil_left]
          try simp only [hn]
          go_wp2_with (fail)
          exact ⟨rfl, _, rfl, Below.refl _ _, rfl, fun h => h.elim⟩
        · intro xs W hW hn
          simp [flowNeeds, Region.binds] at hn
          simp only [flowAct, List.zipWith_cons_cons, List.zipWith_nil_left]
          try simp only [hn]
          go_wp2_with (fail)
          exact ⟨rfl, _, rfl, Below.refl _ _, rfl, fun h => h.elim⟩
        · intro xs W hW hn
          simp only [flowAct, List.zipWith_cons_cons, List.zipWith_nil_left]
          go_wp2_with (fail)
          exact ⟨rfl, _, rfl, Below.refl _ _, rfl, fun h => h.elim⟩
        · intro xs W hW hn
          simp only [flowAct, List.zipWith_cons_cons, List.zipWith_nil_left]
          go_wp2_with (fail)
          exact ⟨rfl, _, rfl, Below.refl _ _, rfl, fun h => h.elim⟩
        · intro xs W hW hn
          simp [flowNeeds, Region.binds] at hn
          simp only [flowAct, List.zipWith_cons_cons, List.zipWith_nil_left]
          try simp only [hn]
          go_wp2_with (fail)
          exact ⟨rfl, _, rfl, Below.refl _ _, rfl, fun h => h.elim⟩
        · intro xs W hW hn
          simp [flowNeeds, Region.binds] at hn
          simp only [flowAct, List.zipWith_cons_cons, List.zipWith_nil_left]
          try simp only [hn]
          go_wp2_with (fail)
          exact ⟨rfl, _, rfl, Below.refl _ _, rfl, fun h => h.elim⟩
        · intro xs W hW hn
          obtain ⟨c0, c1, c2, c3, c4⟩ := HCK5.out W hW
          simp only at c0 c1 c2 c3 c4
          simp [flowNeeds, Region.binds] at hn
          simp only [flowAct, List.zipWith_cons_cons, List.zipWith_nil_left]
          try simp only [hn]
          go_wp2_with (fail)
          exact ⟨rfl, _, rfl, Below.refl _ _, rfl, fun h => h.elim⟩
        · intro xs W hW hn
          simp only [flowAct, List.zipWith_cons_cons, List.zipWith_nil_left]
          go_wp2_with (fail)
          exact ⟨rfl, _, rfl, Below.refl _ _, rfl, fun h => h.elim⟩
        · intro xs W hW hn
          simp [flowNeeds, Region.binds] at hn
          simp only [flowAct, List.zipWith_cons_cons, List.zipWith_nil_left]
          try simp only [hn]
          go_wp2_with (fail)
          exact ⟨rfl, _, rfl, Below.refl _ _, rfl, fun h => h.elim⟩
        · intro xs W hW hn
          simp [flowNeeds, Region.binds] at hn
          simp only [flowAct, List.zipWith_cons_cons, List.zipWith_nil_left]
          try simp only [hn]
          go_wp2_with (fail)
          exact ⟨rfl, _, rfl, Below.refl _ _, rfl, fun h => h.elim⟩
        · intro xs W hW hn
          obtain ⟨c0, c1, c2, c3, c4⟩ := HCK5.out W hW
          simp only at c0 c1 c2 c3 c4
          simp [flowNeeds, Region.binds] at hn
          simp only [flowAct, List.zipWith_cons_cons, List.zipWith_nil_left]
          try simp only [hn]
          go_wp2_with (fail)
          exact ⟨rfl, _, rfl, Below.refl _ _, rfl, fun h => h.elim⟩
        · intro xs W hW hn
          simp [flowNeeds, Region.binds] at hn
          simp only [flowAct, List.zipWith_cons_cons, List.zipWith_nil_left]
          try simp only [hn]
          go_wp2_with (fail)
          exact ⟨rfl, _, rfl, Below.refl _ _, rfl, fun h => h.elim⟩
        · intro xs W hW hn
          simp [flowNeeds, Region.binds] at hn
          simp only [flowAct, List.zipWith_cons_cons, List.zipWith_nil_left]
          try simp only [hn]
          go_wp2_with (fail)
          exact ⟨rfl, _, rfl, Below.refl _ _, rfl, fun h => h.elim⟩
        · intro xs W hW hn
          simp [flowNeeds, Region.binds] at hn
          simp only [flowAct, List.zipWith_cons_cons, List.zipWith_nil_left]
          try simp only [hn]
          go_wp2_with (fail)
          exact ⟨rfl, _, rfl, Below.refl _ _, rfl, fun h => h.elim⟩
        · intro xs W hW hn
          simp [flowNeeds, Region.binds] at hn
          simp only [flowAct, List.zipWith_cons_cons, List.zipWith_nil_left]
          try simp only [hn]
          go_wp2_with (go_at_call 73; (with_reducible refine (HGA.out _).mono ?_); rintro e9 w9 ⟨v9, rfl, hb9, ho9⟩)
          exact ⟨rfl, _, rfl, hb9, ho9.mono (Nat.le_trans HBT5.out.size hW.size), fun h => h.elim⟩
      · intro xs W hW hall hfr
        clear hfr
        simp only [flowAll, and_true, Nat.zero_add, Nat.reduceAdd] at hall
        obtain ⟨b0, b1, b2, b3, b4, b5, b6, b7, b8, b9, b10, b11, b12, b13, b14, b15, b16, b17⟩ := hall
        have HO := Lib.hid b17
        clear b17
        simp only [flowAct, List.zipWith_cons_cons, List.zipWith_nil_left, List.drop_succ_cons, List.drop_zero]
        simp only [b0, b1, b2, b3, b4, b5, b6, b7, b8, b9, b10, b11, b12, b13, b14, b15, b16]
        clear b0 b1 b2 b3 b4 b5 b6 b7 b8 b9 b10 b11 b12 b13 b14 b15 b16
        obtain ⟨v, hvv⟩ : ∃ v, xs 17 = v := ⟨_, rfl⟩
        rw [hvv] at HO ⊢
        clear hvv
        obtain ⟨va, vc, hve, -⟩ := HO.out.ns
        rw [ups_length] at hve
        subst hve
        have HW6 := Lib.hid (HW4.out.kept hW)
        have HBT6 := Lib.hid (HBT5.out.trans (But.of hW))
        have z3 := HW6.out.fz 3
        have z4 := HW6.out.fz 4
        obtain ⟨c0, c1, c2, c3, c4⟩ := HW6.out.cs
        simp only at c0 c1 c2 c3 c4
        clear hW HW4 HCK5 HGA hs1 hak
        by_cases hn0 : n = 0
        · subst hn0
          clear z3 z4 c0 c1 c2 c3 c4
          go_wp2
          go_ret2
          exact ⟨_, rfl, HO.out, by simpa using HW6.out, HBT6.out⟩
        · have hpos : (0 : Int) < (n : Int) := by omega
          have HN0 := Lib.hid hn0
          have hsum : IntKind.i64.wrap (f + (n : Int)) = f + (n : Int) := by
            have h1 := HFM.out; have h2 := HOK.out.k1; have h3 := HCT.out.1
            simp only at h2
            rw [IntKind.wrap_i64]; omega
          clear hn0
          go_wp2
          go_ret2
          have hb7 := (But.of (g := g) (Below.refl W.heap.size W)).set 3 (.int .i64 (f + (n : Int))) |>.set 4 (.int .i64 now)
          refine ⟨_, rfl, HO.out.but hb7 HLT.out, ?_, HBT6.out.trans hb7⟩
          exact (HW6.out.set3 (f + (n : Int))).set4 now
      
    
theorem wnext_c {w : World} {g : Nat} {q : Wn} (h : Wnd w g 79 q) (ho : q.Ok) (ack hav now : Int) : Calls Try.prog 38 #[.pointer (some ⟨g, 0, none⟩), .int .i64 ack, .int .i64 hav, .int .i64 now] w (NextPost 79 g q ack hav now w) := by
  by_cases hn : AskOk ack hav now
  · exact wnext_yes h ho ack hav now hn
  · exact wnext_bad h ho ack hav now hn
end Go.Proofs.Ytplanmiggeghfaa
